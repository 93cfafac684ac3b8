/- The contract of the specification's copied. -/
import Derived.Test.YteilodihjhdngaaRA
import Derived.Test.YteilodihjhdngaaTm
import Derived.Deep.RegionHeld3
import Derived.Deep.AppendLies
import Derived.Deep.RegionLaw
import Derived.KernelRfl
namespace Go.Proofs.Yteilodihjhdngaa
open Go.RowKit Go.Proofs.HT

/-- A call that returns a term. -/
def MadeEnd (t : Tm) (w : World) (e : Ending) (w' : World) : Prop := ∃ v, e = .returned (tv t v) ∧ OwnT (fun b => w.heap.size ≤ b ∧ b < w'.heap.size) w' t v ∧ Below w.heap.size w w'

theorem info24 : (Try.prog.info? 24).map (fun i => (i.zero, i.size, i.bytes)) = some (some (.agg #[.int .i64 0, .int .i64 0, .string ⟨#[]⟩, .slice none 0 0]), 4, 56) := by kernel_rfl
theorem under22 : Try.prog.underlying 22 = some (.slice 24) := by kernel_rfl

set_option maxHeartbeats 4000000 in
theorem copied_any (t : Tm) : ∀ (v : Value) (w : World), LiesT w t v → cnt t ≤ 1000000 → Calls Try.prog 78 #[tv t v] w (MadeEnd t w) := by
  obtain ⟨i0, hi0, hz0, hz1, hz2⟩ := info_parts info24
  induction t using Tm.ind with
  | h k n s ts ih =>
    intro v w hv hcnt
    have hlen : ts.length ≤ 1000000 := (cnt_bounds hcnt).1
    rcases hv.len with ⟨rfl, a, cap, rfl⟩ | ⟨b, o, cap, rfl, hpos, hlc, hcap, hl⟩
    · have hI : Hid (I64 k ∧ I64 n ∧ s.size ≤ 9223372036854775807) := by
        show _ ∧ _
        simp only [LiesT] at hv
        exact ⟨hv.1, hv.2.1, hv.2.2.1⟩
      have BL : Hid (∀ o1 o2 o3, Below w.heap.size w (((w.alloc o1).alloc o2).alloc o3)) := fun o1 o2 o3 => (((Below.refl _ _).alloc (Nat.le_refl _) _).alloc (by simp) _).alloc (by simp; omega) _
      simp only [tv, Tm.kind, Tm.num, Tm.name]
      clear ih hv
      go_enter Try.func78, Try.ntmps78
      go_wp2_with fail
      refine wp_loop_rounds 1 ?_
      rw [rounds_succ]
      go_wp2_with fail
      exact bodyPost_ret (v := .agg #[.int .i64 k, .int .i64 n, .string s, .slice none 0 0]) (by simp [results, Try.results78, go_sem]) rfl ⟨_, rfl, by unfold OwnT; exact ⟨hI.out.1, hI.out.2.1, hI.out.2.2, .inl ⟨rfl, rfl⟩⟩, BL.out _ _ _⟩
    · have HI : Hid (∀ i (hi : i < ts.length) (v : Value) (w : World), LiesT w ts[i] v → Calls Try.prog 78 #[tv ts[i] v] w (MadeEnd ts[i] w)) := fun i hi v w h => ih _ (List.getElem_mem hi) v w h ((cnt_bounds hcnt).2 i hi)
      have HL := Lib.hid hl
      have hI : Hid (I64 k ∧ I64 n ∧ s.size ≤ 9223372036854775807) := by
        show _ ∧ _
        simp only [LiesT] at hv
        exact ⟨hv.1, hv.2.1, hv.2.2.1⟩
      simp only [tv, Tm.kind, Tm.num, Tm.name]
      clear ih hv hl
      go_enter Try.func78, Try.ntmps78
      go_wp2_with fail
      go_loopw [4] (fun i wr => ∃ (j : Nat) (l : List (Tm × Value)) (x : Value), j ≤ ts.length ∧ i = .int .i64 j ∧ Hid (l.map Prod.fst = ts.take j) ∧ Hid (Below w.heap.size w wr) ∧
        Hid (wr.heap[w.heap.size]? = some (.cells #[.int .i64 k, .int .i64 n, .string s, .slice (some ⟨b, o, none⟩) ts.length cap] 24 (0, 0))) ∧
        Hid (wr.heap[w.heap.size + 1]? = some (.cells #[.int .i64 0, .int .i64 0, .string ⟨#[]⟩, .slice none 0 0] 24 (0, 0))) ∧
        Hid (wr.heap[w.heap.size + 1 + 1]? = some (.cells #[.int .i64 k, .int .i64 n, .string s, x] 24 (0, 0))) ∧
        Hid (wr.ownsRow (w.heap.size + 1 + 1 + 1) 24 4 x j (flat l)) ∧ Hid (∀ p ∈ l, OwnT (fun b => w.heap.size + 1 + 1 + 1 ≤ b ∧ b < wr.heap.size ∧ x.ownBlock ≠ some b) wr p.1 p.2)) (fun i _ => ts.length - (intOf i).toNat)
      case atStart =>
        refine ⟨0, [], .slice none 0 0, by omega, rfl, Lib.hid (by simp), Lib.hid ?_, Lib.hid ?_, Lib.hid ?_, Lib.hid ?_, Lib.hid (World.ownsRow_nil _ _ _ _), Lib.hid (by simp)⟩
        · exact (((Below.refl _ _).alloc (Nat.le_refl _) _).alloc (by simp) _).alloc (by simp; omega) _
        · rw [Below.heap_alloc _ _ _ (by simp; omega), Below.heap_alloc _ _ _ (by simp), heap_alloc_new]
        · have h := heap_alloc_new (w.alloc (.cells #[.int .i64 k, .int .i64 n, .string s, .slice (some ⟨b, o, none⟩) ts.length cap] 24)) (.cells #[.int .i64 0, .int .i64 0, .string ⟨#[]⟩, .slice none 0 0] 24)
          rw [Below.heap_alloc _ _ _ (by simp)]
          simpa using h
        · have h := heap_alloc_new ((w.alloc (.cells #[.int .i64 k, .int .i64 n, .string s, .slice (some ⟨b, o, none⟩) ts.length cap] 24)).alloc (.cells #[.int .i64 0, .int .i64 0, .string ⟨#[]⟩, .slice none 0 0] 24)) (.cells #[.int .i64 k, .int .i64 n, .string s, .slice none 0 0] 24)
          simpa using h
      case round =>
        obtain ⟨j, l, x, hj, rfl, hfst, hb, r0, r1, r2, hown, hp⟩ := hrel
        have q0 : wr.cell? ⟨w.heap.size, 3, none⟩ = some (.slice (some ⟨b, o, none⟩) ts.length cap) := by rw [cell_of_row _ _ _ _ _ _ r0.out]; rfl
        by_cases hlt : j < ts.length
        · obtain ⟨u, c0, c1, c2, c3, hu⟩ := HL.out.at j hlt
          have d0 := cell_below hb.out _ _ c0
          have d1 := cell_below hb.out _ _ c1
          have d2 := cell_below hb.out _ _ c2
          have d3 := cell_below hb.out _ _ c3
          have HU := Lib.hid (LiesT.keep (w := wr) (w' := wr.drew) (fun _ _ h => h) _ _ (hu.below hb.out))
          have q2 : wr.cell? ⟨w.heap.size + 1 + 1, 3, none⟩ = some x := by rw [cell_of_row _ _ _ _ _ _ r2.out]; rfl
          clear c0 c1 c2 c3 hu
          have hz : w.heap.size + 1 + 1 + 1 ≤ wr.heap.size := (Array.getElem?_eq_some_iff.1 r2.out).1
          have m1 : j + 1 ≤ maxLen := by simp only [maxLen]; omega
          have m2 : (j + 1) * 56 ≤ 140737488355328 := by omega
          go_wp2_with fail
          have HR := Lib.hid (fun k hk => hown.out.lt k hk)
          go_region_law (first
            | (go_simp; refine (HI.out j hlt u _ HU.out).mono ?_; rintro e w1 ⟨y, rfl, hy, hb1⟩; have hy1 := Lib.hid hy.one; have hown1 := Lib.hid (own_below (w := wr.drew) hown.out.drew hb1); have hb1c : Hid (Below wr.heap.size wr w1) := ⟨hb1.os, hb1.tape, hb1.output, hb1.size, hb1.block⟩; have z1 : wr.heap.size ≤ w1.heap.size := hb1.size; have s2 := Lib.hid (block_below (w := wr.drew) hb1 r2.out)
               have p2 : w1.cell? ⟨w.heap.size + 1 + 1, 3, none⟩ = some x := cell_below (w := wr.drew) hb1 _ _ q2
               have p2b : ∀ ob, (w1.alloc ob).cell? ⟨w.heap.size + 1 + 1, 3, none⟩ = some x := fun ob => by rw [cell_of_row _ _ _ _ _ _ (alloc_keep s2.out)]; rfl)
            | (refine step_append_lies _ rfl (.tmp 20) (.tmp 27) 22 rfl (w.heap.size + 1 + 1 + 1) 24 i0 _ 4 56 under22 hi0 hz0 hz1 hz2 rfl (by omega) x j (flat l) (by rfl) (hown1.out.alloc _)
                ⟨w1.heap.size, 0, none⟩ 1 1 [.int .i64 ts[j].kind, .int .i64 ts[j].num, .string ts[j].name, y] (by rfl) (by rfl)
                (World.news_of_block (cs := #[.int .i64 ts[j].kind, .int .i64 ts[j].num, .string ts[j].name, y]) (t := 24) (fr := (0, 0)) (heap_alloc_new w1 _)) (by intro q hq; simp at hq; rcases hq with rfl | rfl | rfl | rfl <;> first | rfl | exact hy1.out)
                (by omega) m1 m2 (by simp at z1 ⊢; omega) (w1.heap.size + 1) (by simp) ?_; intro g cap2 w2 hown2 hgrow hat hgs
               have t2 := grown_keep hgrow (base := w.heap.size + 1 + 1 + 1) (fun k hk => (HR.out k hk).1) (by omega) (alloc_keep s2.out)
               have p3 : w2.cell? ⟨w.heap.size + 1 + 1, 3, none⟩ = some x := by rw [cell_of_row _ _ _ _ _ _ t2]; rfl
               have p4 := frozen_of_row _ _ 3 _ _ t2))
          all_goals
            have HG := Lib.hid hgrow
            have HO2 := Lib.hid hown2
            clear hgrow hown2 p2b p2 p3 p4 t2 hb1
            go_wp2
            go_roundw
            case rel =>
              have hr := fun k hk => (HR.out k hk).1
              have kp : ∀ q ob, q < w.heap.size + 1 + 1 → wr.heap[q]? = some ob → (w2.setCell ⟨w.heap.size + 1 + 1, 3, none⟩ (.slice (some ⟨g, 0, none⟩) (j + 1) cap2)).heap[q]? = some ob := fun q ob hq h => by
                rw [Below.heap_setCell _ _ _ _ (by simp; omega)]
                exact grown_keep HG.out hr (by omega) (alloc_keep (block_below hb1c.out h))
              have RO := round_own (c := w.heap.size + 1 + 1) (j := 3) (u := .slice (some ⟨g, 0, none⟩) (j + 1) cap2) hb1c.out hz HR.out HG.out hat (by omega)
              refine ⟨j + 1, l ++ [(ts[j], y)], .slice (some ⟨g, 0, none⟩) (j + 1) cap2, by omega, by go_num, Lib.hid (take_succ_pair ts j hlt l hfst.out y), Lib.hid ?_, Lib.hid (kp _ _ (by omega) r0.out), Lib.hid (kp _ _ (by omega) r1.out), Lib.hid ?_, Lib.hid ?_, Lib.hid ?_⟩
              · exact (((hb.out.trans (hb1c.out.mono hb.out.size)).alloc (by omega) _).grown HG.out (by simp; omega) (fun k hk => by have := hr k hk; omega)).setCell (by simp; omega) _
              · have h := heap_setCell_same w2 _ 3 _ _ (.slice (some ⟨g, 0, none⟩) (j + 1) cap2) (grown_keep HG.out hr (show w.heap.size + 1 + 1 < _ by omega) (alloc_keep s2.out))
                simpa using h
              · rw [flat_append]
                exact ownsRow_setCell_below HO2.out (by simp) _
              · intro p hq
                rw [List.mem_append] at hq
                rcases hq with hq | hq
                · exact RO.1 _ _ (hp.out p hq)
                · obtain rfl := List.mem_singleton.1 hq
                  exact RO.2 _ _ hy
            case measure => simp [intOf]; omega
        · have e : j = ts.length := by omega
          subst e
          have hx : OwnT (fun b => w.heap.size + 1 + 1 + 1 ≤ b ∧ b < wr.heap.size) wr (.mk k n s ts) x := by
            have hln : ts.length = l.length := by
              have := congrArg List.length hfst.out
              simpa using this.symm
            have h1 := OwnT.of_row (S := fun b => w.heap.size + 1 + 1 + 1 ≤ b ∧ b < wr.heap.size) hI.out.1 hI.out.2.1 hI.out.2.2 hln hown.out (fun b hb => by have := hown.out.lt b hb; exact ⟨by omega, this.2⟩)
              (fun p hq => (hp.out p hq).keep (fun _ _ => rfl) (fun b hb _ => ⟨by have := hb.1; omega, hb.2.1⟩))
            rw [hfst.out, List.take_length] at h1
            exact h1
          have e0 : wr.cell? ⟨w.heap.size + 1 + 1, 0, none⟩ = some (.int .i64 k) := by rw [cell_of_row _ _ _ _ _ _ r2.out]; rfl
          have e1 : wr.cell? ⟨w.heap.size + 1 + 1, 1, none⟩ = some (.int .i64 n) := by rw [cell_of_row _ _ _ _ _ _ r2.out]; rfl
          have e2 : wr.cell? ⟨w.heap.size + 1 + 1, 2, none⟩ = some (.string s) := by rw [cell_of_row _ _ _ _ _ _ r2.out]; rfl
          have e3 : wr.cell? ⟨w.heap.size + 1 + 1, 3, none⟩ = some x := by rw [cell_of_row _ _ _ _ _ _ r2.out]; rfl
          have f0 : wr.cell? ⟨w.heap.size + 1, 0, none⟩ = some (.int .i64 0) := by rw [cell_of_row _ _ _ _ _ _ r1.out]; rfl
          have f1 : wr.cell? ⟨w.heap.size + 1, 1, none⟩ = some (.int .i64 0) := by rw [cell_of_row _ _ _ _ _ _ r1.out]; rfl
          have f2 : wr.cell? ⟨w.heap.size + 1, 2, none⟩ = some (.string ⟨#[]⟩) := by rw [cell_of_row _ _ _ _ _ _ r1.out]; rfl
          have f3 : wr.cell? ⟨w.heap.size + 1, 3, none⟩ = some (.slice none 0 0) := by rw [cell_of_row _ _ _ _ _ _ r1.out]; rfl
          have g0 := frozen_of_row _ _ 0 _ _ r1.out
          have g1 := frozen_of_row _ _ 1 _ _ r1.out
          have g2 := frozen_of_row _ _ 2 _ _ r1.out
          have g3 := frozen_of_row _ _ 3 _ _ r1.out
          obtain ⟨xa, xc, hxe⟩ := (OwnT.lies _ _ hx).slice
          simp only [Tm.args] at hxe
          subst hxe
          have HX := Lib.hid hx
          clear hx
          go_wp2_with fail
          have W4 := heap_setCell_same _ _ 3 _ _ (.slice xa ts.length xc) (heap_setCell_same _ _ 2 _ _ (.string s) (heap_setCell_same _ _ 1 _ _ (.int .i64 n) (heap_setCell_same _ _ 0 _ _ (.int .i64 k) r1.out)))
          simp only [Array.setIfInBounds, List.size_toArray, List.length_cons, List.length_nil, Nat.reduceAdd, Nat.reduceLT, dite_true, List.set_toArray, List.set_cons_zero, List.set_cons_succ, Array.set] at W4
          have BL := Lib.hid ((((hb.out.setCell (p := ⟨w.heap.size + 1, 0, none⟩) (by simp) (.int .i64 k)).setCell (p := ⟨w.heap.size + 1, 1, none⟩) (by simp) (.int .i64 n)).setCell (p := ⟨w.heap.size + 1, 2, none⟩) (by simp) (.string s)).setCell (p := ⟨w.heap.size + 1, 3, none⟩) (by simp) (.slice xa ts.length xc))
          have OW := Lib.hid (HX.out.keep (S' := fun b => w.heap.size ≤ b ∧ b < wr.heap.size) (w' := (((wr.setCell ⟨w.heap.size + 1, 0, none⟩ (.int .i64 k)).setCell ⟨w.heap.size + 1, 1, none⟩ (.int .i64 n)).setCell ⟨w.heap.size + 1, 2, none⟩ (.string s)).setCell ⟨w.heap.size + 1, 3, none⟩ (.slice xa ts.length xc))
            (fun b hb => by rw [Below.heap_setCell _ _ _ _ (by simp; omega), Below.heap_setCell _ _ _ _ (by simp; omega), Below.heap_setCell _ _ _ _ (by simp; omega), Below.heap_setCell _ _ _ _ (by simp; omega)]) (fun b hb _ => ⟨by omega, hb.2⟩))
          have ZZ : wr.heap.size = ((((wr.setCell ⟨w.heap.size + 1, 0, none⟩ (.int .i64 k)).setCell ⟨w.heap.size + 1, 1, none⟩ (.int .i64 n)).setCell ⟨w.heap.size + 1, 2, none⟩ (.string s)).setCell ⟨w.heap.size + 1, 3, none⟩ (.slice xa ts.length xc)).heap.size := by simp [World.setCell]
          rw [ZZ] at OW
          generalize ((((wr.setCell ⟨w.heap.size + 1, 0, none⟩ (.int .i64 k)).setCell ⟨w.heap.size + 1, 1, none⟩ (.int .i64 n)).setCell ⟨w.heap.size + 1, 2, none⟩ (.string s)).setCell ⟨w.heap.size + 1, 3, none⟩ (.slice xa ts.length xc)) = W at *
          have k0 : W.cell? ⟨w.heap.size + 1, 0, none⟩ = some (.int .i64 k) := by rw [cell_of_row _ _ _ _ _ _ W4]; rfl
          have k1 : W.cell? ⟨w.heap.size + 1, 1, none⟩ = some (.int .i64 n) := by rw [cell_of_row _ _ _ _ _ _ W4]; rfl
          have k2 : W.cell? ⟨w.heap.size + 1, 2, none⟩ = some (.string s) := by rw [cell_of_row _ _ _ _ _ _ W4]; rfl
          have k3 : W.cell? ⟨w.heap.size + 1, 3, none⟩ = some (.slice xa ts.length xc) := by rw [cell_of_row _ _ _ _ _ _ W4]; rfl
          exact bodyPost_ret (v := .agg #[.int .i64 k, .int .i64 n, .string s, .slice xa ts.length xc]) (by simp [results, Try.results78, go_sem, k0, k1, k2, k3]) rfl ⟨_, rfl, OW.out, BL.out⟩

end Go.Proofs.Yteilodihjhdngaa

/- The contract of the specification's shift. -/
namespace Go.Proofs.Yteilodihjhdngaa
open Go.RowKit Go.Proofs.HT

def sh (f n : Int) : Tm := .mk 0 (n + f) ⟨#[]⟩ []

end Go.Proofs.Yteilodihjhdngaa

/- The contracts of the specification's position, vars. -/
namespace Go.Proofs.Yteilodihjhdngaa
open Go.RowKit Go.Proofs.HT

/-- The index of a number in a list from place i on, or -1. -/
def posF : List Int → Int → Nat → Int
  | [], _, _ => -1
  | x :: xs, n, i => if x = n then i else posF xs n (i + 1)
theorem posF_bd : ∀ (xs : List Int) (n : Int) (i : Nat), -1 ≤ posF xs n i ∧ posF xs n i ≤ xs.length + i
  | [], _, _ => by simp [posF]
  | x :: xs, n, i => by
    have := posF_bd xs n (i + 1)
    unfold posF; split <;> simp <;> omega
theorem posF_drop (xs : List Int) (n : Int) (j : Nat) (hj : j < xs.length) : posF (xs.drop j) n j = if xs[j] = n then (j : Int) else posF (xs.drop (j + 1)) n (j + 1) := by
  rw [List.drop_eq_getElem_cons hj, posF]

def nums (xs : List Int) : List Value := xs.map (Value.int .i64)
mutual
def varsF (xs : List Int) : Tm → List Int
  | .mk k n _ ts => varsL (if k = 0 ∧ posF xs n 0 < 0 then xs ++ [n] else xs) ts
def varsL (xs : List Int) : List Tm → List Int
  | [] => xs
  | t :: ts => varsL (varsF xs t) ts
end
theorem varsL_append : ∀ (l m : List Tm) (xs : List Int), varsL xs (l ++ m) = varsL (varsL xs l) m
  | [], m, xs => by simp [varsL]
  | t :: l, m, xs => by simp [varsL, varsL_append l m]
theorem varsL_take (xs : List Int) (ts : List Tm) (j : Nat) (hj : j < ts.length) : varsL xs (ts.take (j + 1)) = varsF (varsL xs (ts.take j)) ts[j] := by
  rw [List.take_succ_eq_append_getElem hj, varsL_append]; simp [varsL]
mutual
theorem varsF_len : ∀ (t : Tm) (xs : List Int), (varsF xs t).length ≤ xs.length + cnt t
  | .mk k n s ts, xs => by
    have h := varsL_len ts (if k = 0 ∧ posF xs n 0 < 0 then xs ++ [n] else xs)
    rw [varsF, cnt]
    by_cases hc : k = 0 ∧ posF xs n 0 < 0
    · rw [if_pos hc, List.length_append, List.length_singleton] at h
      rw [if_pos hc]; omega
    · rw [if_neg hc] at h
      rw [if_neg hc]; omega
theorem varsL_len : ∀ (ts : List Tm) (xs : List Int), (varsL xs ts).length ≤ xs.length + cntL ts
  | [], xs => by simp [varsL]
  | t :: ts, xs => by
    have h1 := varsF_len t xs
    have h2 := varsL_len ts (varsF xs t)
    rw [varsL, cntL]; omega
end

theorem grown_trans {w w1 w2 : World} {r r' : Option Nat} (h : w.grownBy w1 r) (k : w1.grownBy w2 r') (hr : r' = r ∨ ∀ q, r' = some q → w.heap.size ≤ q) : w.grownBy w2 r :=
  ⟨k.os.trans h.os, k.tape.trans h.tape, k.output.trans h.output, Nat.le_trans h.size k.size, fun i hi hne => by
    rw [k.block i (Nat.lt_of_lt_of_le hi h.size) (fun e => ?_), h.block i hi hne]
    rcases hr with hr | hr
    · exact hne (e.trans hr)
    · have := hr i e.symm; omega⟩

/-- The list x, which holds xs, behind the call: x'. -/
def VarsEnd (base : Nat) (t : Tm) (xs : List Int) (x : Value) (w : World) (e : Ending) (w' : World) : Prop :=
  ∃ x', e = .returned x' ∧ w'.ownsRow base 2 1 x' (varsF xs t).length (nums (varsF xs t)) ∧ w.grownBy w' x.ownBlock ∧ (x'.ownBlock = x.ownBlock ∨ ∀ k, x'.ownBlock = some k → w.heap.size ≤ k)

theorem info2 : (Try.prog.info? 2).map (fun i => (i.zero, i.size, i.bytes)) = some (some (.int .i64 0), 1, 8) := by kernel_rfl
end Go.Proofs.Yteilodihjhdngaa
