/- The contract of the specification's number. -/
import Derived.Test.YtdgflagafilobaaRB
namespace Go.Proofs.Ytdgflagafilobaa
open Go.RowKit Go.Proofs.HT

def nb (xs : List Int) (n : Int) : Tm := .mk 0 (posF xs n 0) ⟨#[]⟩ []

set_option maxHeartbeats 4000000 in
theorem number_any (bs : Nat) (lv : Value) (xs : List Int) (t : Tm) : ∀ (v : Value) (w : World), LiesT w t v → w.ownsRow bs 2 1 lv xs.length (nums xs) → cnt t ≤ 1000000 → nodesB t = true → Calls Try.prog 69 #[lv, tv t v] w (MadeEnd (mapT (nb xs) t) w) := by
  obtain ⟨i0, hi0, hz0, hz1, hz2⟩ := info_parts info24
  induction t using Tm.ind with
  | h k n s ts ih =>
    intro v w hv hown0 hcnt hnod
    have HLV := Lib.hid hown0
    clear hown0
    have hlen : ts.length ≤ 1000000 := (cnt_bounds hcnt).1
    rcases hv.len with ⟨rfl, a, cap, rfl⟩ | ⟨b, o, cap, rfl, hpos, hlc, hcap, hl⟩
    · have hI : Hid (I64 k ∧ I64 n ∧ s.size ≤ 9223372036854775807) := by
        show _ ∧ _
        simp only [LiesT] at hv
        exact ⟨hv.1, hv.2.1, hv.2.2.1⟩
      have BL : Hid (∀ o1 o2 o3, Below w.heap.size w (((w.alloc o1).alloc o2).alloc o3)) := fun o1 o2 o3 => (((Below.refl _ _).alloc (Nat.le_refl _) _).alloc (by simp) _).alloc (by simp; omega) _
      by_cases hk : k = 0
      · subst hk
        obtain ⟨n0, n1, rfl, _⟩ := node_var (nodes_at hnod).1
        have e : mapT (nb xs) (.mk 0 n ⟨#[]⟩ []) = .mk 0 (posF xs n 0) ⟨#[]⟩ [] := by rw [mapT, if_pos rfl]; rfl
        rw [e]
        have hI2 : Hid (I64 (posF xs n 0)) := by
          have h1 := posF_bd xs n 0
          have h2 : xs.length ≤ 9223372036854775807 := by
            rcases HLV.out.2 with ⟨_, h0⟩ | ⟨g, cp, cur, _, _, _, h1, h2, _⟩
            · omega
            · simp only [maxLen] at h2; omega
          show I64 _; unfold I64; omega
        have HP : Hid (∀ o1 o2 o3, Calls Try.prog 71 #[lv, .int .i64 n] (((w.alloc o1).alloc o2).alloc o3) fun e w' => e = .returned (.int .i64 (posF xs n 0)) ∧ w' = ((w.alloc o1).alloc o2).alloc o3) := fun o1 o2 o3 => pos_own n (((HLV.out.alloc o1).alloc o2).alloc o3)
        simp only [tv, Tm.kind, Tm.num, Tm.name]
        clear ih hv hnod e
        go_enter Try.func69, Try.ntmps69
        go_wp2_with (first | (go_at_call 71; refine (HP.out _ _ _).mono ?_; rintro e w1 ⟨rfl, rfl⟩))
        refine wp_loop_rounds 1 ?_
        rw [rounds_succ]
        go_wp2_with fail
        exact bodyPost_ret (v := .agg #[.int .i64 0, .int .i64 (posF xs n 0), .string ⟨#[]⟩, .slice none 0 0]) (by simp [results, Try.results69, go_sem]) rfl ⟨_, rfl, by unfold OwnT; exact ⟨hI.out.1, hI2.out, hI.out.2.2, .inl ⟨rfl, rfl⟩⟩, BL.out _ _ _⟩
      · have e : mapT (nb xs) (.mk k n s []) = .mk k n s [] := by rw [mapT, if_neg hk]; rfl
        rw [e]
        simp only [tv, Tm.kind, Tm.num, Tm.name]
        clear ih hv hnod e
        go_enter Try.func69, Try.ntmps69
        go_wp2_with fail
        refine wp_loop_rounds 1 ?_
        rw [rounds_succ]
        go_wp2_with fail
        exact bodyPost_ret (v := .agg #[.int .i64 k, .int .i64 n, .string s, .slice none 0 0]) (by simp [results, Try.results69, go_sem]) rfl ⟨_, rfl, by unfold OwnT; exact ⟨hI.out.1, hI.out.2.1, hI.out.2.2, .inl ⟨rfl, rfl⟩⟩, BL.out _ _ _⟩
    · have hk : ¬ k = 0 := by
        rintro rfl
        have := (node_var (nodes_at hnod).1).2.2.2
        omega
      have e : mapT (nb xs) (.mk k n s ts) = .mk k n s (mapL (nb xs) ts) := by rw [mapT, if_neg hk]
      rw [e]
      clear e
      have kz : (k == 0) = false := by simpa using hk
      have HI : Hid (∀ i (hi : i < ts.length) (v : Value) (w : World), LiesT w ts[i] v → w.ownsRow bs 2 1 lv xs.length (nums xs) → Calls Try.prog 69 #[lv, tv ts[i] v] w (MadeEnd (mapT (nb xs) ts[i]) w)) := fun i hi v w h h2 => ih _ (List.getElem_mem hi) v w h h2 ((cnt_bounds hcnt).2 i hi) ((nodes_at hnod).2 i hi)
      have HL := Lib.hid hl
      have hI : Hid (I64 k ∧ I64 n ∧ s.size ≤ 9223372036854775807) := by
        show _ ∧ _
        simp only [LiesT] at hv
        exact ⟨hv.1, hv.2.1, hv.2.2.1⟩
      simp only [tv, Tm.kind, Tm.num, Tm.name]
      clear ih hv hl hnod
      go_enter Try.func69, Try.ntmps69
      go_wp2_with fail
      go_loopw [6] (fun i wr => ∃ (j : Nat) (l : List (Tm × Value)) (x : Value), j ≤ ts.length ∧ i = .int .i64 j ∧ Hid (l.map Prod.fst = (mapL (nb xs) ts).take j) ∧ Hid (Below w.heap.size w wr) ∧
        Hid (wr.heap[w.heap.size]? = some (.cells #[.int .i64 k, .int .i64 n, .string s, .slice (some ⟨b, o, none⟩) ts.length cap] 24 (0, 0))) ∧
        Hid (wr.heap[w.heap.size + 1]? = some (.cells #[.int .i64 0, .int .i64 0, .string ⟨#[]⟩, .slice none 0 0] 24 (0, 0))) ∧
        Hid (wr.heap[w.heap.size + 1 + 1]? = some (.cells #[.int .i64 k, .int .i64 n, .string s, x] 24 (0, 0))) ∧
        Hid (wr.ownsRow (w.heap.size + 1 + 1 + 1) 24 4 x j (flat l)) ∧ Hid (∀ p ∈ l, OwnT (fun b => w.heap.size + 1 + 1 + 1 ≤ b ∧ b < wr.heap.size ∧ x.ownBlock ≠ some b) wr p.1 p.2)) (fun i _ => ts.length - (intOf i).toNat)
      case atStart =>
        refine ⟨0, [], .slice none 0 0, by omega, rfl, Lib.hid (by simp), Lib.hid ?_, Lib.hid ?_, Lib.hid ?_, Lib.hid ?_, Lib.hid (World.ownsRow_nil _ _ _ _), Lib.hid (by simp)⟩
        · exact (((Below.refl _ _).alloc (Nat.le_refl _) _).alloc (by simp) _).alloc (by simp; omega) _
        · rw [Below.heap_alloc _ _ _ (by simp; omega), Below.heap_alloc _ _ _ (by simp), heap_alloc_new]
        · have h := heap_alloc_new (w.alloc (.cells #[.int .i64 k, .int .i64 n, .string s, .slice (some ⟨b, o, none⟩) ts.length cap] 24)) (.cells #[.int .i64 0, .int .i64 0, .string ⟨#[]⟩, .slice none 0 0] 24)
          rw [Below.heap_alloc _ _ _ (by simp)]
          simpa using h
        · have h := heap_alloc_new ((w.alloc (.cells #[.int .i64 k, .int .i64 n, .string s, .slice (some ⟨b, o, none⟩) ts.length cap] 24)).alloc (.cells #[.int .i64 0, .int .i64 0, .string ⟨#[]⟩, .slice none 0 0] 24)) (.cells #[.int .i64 k, .int .i64 n, .string s, .slice none 0 0] 24)
          simpa using h
      case round =>
        obtain ⟨j, l, x, hj, rfl, hfst, hb, r0, r1, r2, hown, hp⟩ := hrel
        have q0 : wr.cell? ⟨w.heap.size, 3, none⟩ = some (.slice (some ⟨b, o, none⟩) ts.length cap) := by rw [cell_of_row _ _ _ _ _ _ r0.out]; rfl
        by_cases hlt : j < ts.length
        · obtain ⟨u, c0, c1, c2, c3, hu⟩ := HL.out.at j hlt
          have d0 := cell_below hb.out _ _ c0
          have d1 := cell_below hb.out _ _ c1
          have d2 := cell_below hb.out _ _ c2
          have d3 := cell_below hb.out _ _ c3
          have HU := Lib.hid (LiesT.keep (w := wr) (w' := wr.drew) (fun _ _ h => h) _ _ (hu.below hb.out))
          have q2 : wr.cell? ⟨w.heap.size + 1 + 1, 3, none⟩ = some x := by rw [cell_of_row _ _ _ _ _ _ r2.out]; rfl
          clear c0 c1 c2 c3 hu
          have hz : w.heap.size + 1 + 1 + 1 ≤ wr.heap.size := (Array.getElem?_eq_some_iff.1 r2.out).1
          have m1 : j + 1 ≤ maxLen := by simp only [maxLen]; omega
          have m2 : (j + 1) * 56 ≤ 140737488355328 := by omega
          go_wp2_with fail
          have HY := Lib.hid (own_below (w := w) HLV.out hb.out).drew
          have HR := Lib.hid (fun k hk => hown.out.lt k hk)
          go_region_law (first
            | (go_simp; refine (HI.out j hlt u _ HU.out HY.out).mono ?_; rintro e w1 ⟨y, rfl, hy, hb1⟩; have hy1 := Lib.hid hy.one; have hown1 := Lib.hid (own_below (w := wr.drew) hown.out.drew hb1); have hb1c : Hid (Below wr.heap.size wr w1) := ⟨hb1.os, hb1.tape, hb1.output, hb1.size, hb1.block⟩; have z1 : wr.heap.size ≤ w1.heap.size := hb1.size; have s2 := Lib.hid (block_below (w := wr.drew) hb1 r2.out)
               have p2 : w1.cell? ⟨w.heap.size + 1 + 1, 3, none⟩ = some x := cell_below (w := wr.drew) hb1 _ _ q2
               have p2b : ∀ ob, (w1.alloc ob).cell? ⟨w.heap.size + 1 + 1, 3, none⟩ = some x := fun ob => by rw [cell_of_row _ _ _ _ _ _ (alloc_keep s2.out)]; rfl)
            | (refine step_append_lies _ rfl (.tmp 30) (.tmp 38) 22 rfl (w.heap.size + 1 + 1 + 1) 24 i0 _ 4 56 under22 hi0 hz0 hz1 hz2 rfl (by omega) x j (flat l) (by rfl) (hown1.out.alloc _)
                ⟨w1.heap.size, 0, none⟩ 1 1 [.int .i64 (mapT (nb xs) ts[j]).kind, .int .i64 (mapT (nb xs) ts[j]).num, .string (mapT (nb xs) ts[j]).name, y] (by rfl) (by rfl)
                (World.news_of_block (cs := #[.int .i64 (mapT (nb xs) ts[j]).kind, .int .i64 (mapT (nb xs) ts[j]).num, .string (mapT (nb xs) ts[j]).name, y]) (t := 24) (fr := (0, 0)) (heap_alloc_new w1 _)) (by intro q hq; simp at hq; rcases hq with rfl | rfl | rfl | rfl <;> first | rfl | exact hy1.out)
                (by omega) m1 m2 (by simp at z1 ⊢; omega) (w1.heap.size + 1) (by simp) ?_; intro g cap2 w2 hown2 hgrow hat hgs
               have t2 := grown_keep hgrow (base := w.heap.size + 1 + 1 + 1) (fun k hk => (HR.out k hk).1) (by omega) (alloc_keep s2.out)
               have p3 : w2.cell? ⟨w.heap.size + 1 + 1, 3, none⟩ = some x := by rw [cell_of_row _ _ _ _ _ _ t2]; rfl
               have p4 := frozen_of_row _ _ 3 _ _ t2))
          all_goals
            have HG := Lib.hid hgrow
            have HO2 := Lib.hid hown2
            clear hgrow hown2 p2b p2 p3 p4 t2 hb1
            go_wp2
            go_roundw
            case rel =>
              have hr := fun k hk => (HR.out k hk).1
              have kp : ∀ q ob, q < w.heap.size + 1 + 1 → wr.heap[q]? = some ob → (w2.setCell ⟨w.heap.size + 1 + 1, 3, none⟩ (.slice (some ⟨g, 0, none⟩) (j + 1) cap2)).heap[q]? = some ob := fun q ob hq h => by
                rw [Below.heap_setCell _ _ _ _ (by simp; omega)]
                exact grown_keep HG.out hr (by omega) (alloc_keep (block_below hb1c.out h))
              have RO := round_own (c := w.heap.size + 1 + 1) (j := 3) (u := .slice (some ⟨g, 0, none⟩) (j + 1) cap2) hb1c.out hz HR.out HG.out hat (by omega)
              refine ⟨j + 1, l ++ [(mapT (nb xs) ts[j], y)], .slice (some ⟨g, 0, none⟩) (j + 1) cap2, by omega, by go_num, Lib.hid (take_succ_map (nb xs) ts j hlt l hfst.out y), Lib.hid ?_, Lib.hid (kp _ _ (by omega) r0.out), Lib.hid (kp _ _ (by omega) r1.out), Lib.hid ?_, Lib.hid ?_, Lib.hid ?_⟩
              · exact (((hb.out.trans (hb1c.out.mono hb.out.size)).alloc (by omega) _).grown HG.out (by simp; omega) (fun k hk => by have := hr k hk; omega)).setCell (by simp; omega) _
              · have h := heap_setCell_same w2 _ 3 _ _ (.slice (some ⟨g, 0, none⟩) (j + 1) cap2) (grown_keep HG.out hr (show w.heap.size + 1 + 1 < _ by omega) (alloc_keep s2.out))
                simpa using h
              · rw [flat_append]
                exact ownsRow_setCell_below HO2.out (by simp) _
              · intro p hq
                rw [List.mem_append] at hq
                rcases hq with hq | hq
                · exact RO.1 _ _ (hp.out p hq)
                · obtain rfl := List.mem_singleton.1 hq
                  exact RO.2 _ _ hy
            case measure => simp [intOf]; omega
        · have e : j = ts.length := by omega
          subst e
          have hx : OwnT (fun b => w.heap.size + 1 + 1 + 1 ≤ b ∧ b < wr.heap.size) wr (.mk k n s (mapL (nb xs) ts)) x := by
            have hln : ts.length = l.length := by
              have := congrArg List.length hfst.out
              rw [List.take_of_length_le (by rw [mapL_length]; exact Nat.le_refl _), mapL_length, List.length_map] at this
              exact this.symm
            have h1 := OwnT.of_row (S := fun b => w.heap.size + 1 + 1 + 1 ≤ b ∧ b < wr.heap.size) hI.out.1 hI.out.2.1 hI.out.2.2 hln hown.out (fun b hb => by have := hown.out.lt b hb; exact ⟨by omega, this.2⟩)
              (fun p hq => (hp.out p hq).keep (fun _ _ => rfl) (fun b hb _ => ⟨by have := hb.1; omega, hb.2.1⟩))
            rw [hfst.out, List.take_of_length_le (by rw [mapL_length]; exact Nat.le_refl _)] at h1
            exact h1
          have e0 : wr.cell? ⟨w.heap.size + 1 + 1, 0, none⟩ = some (.int .i64 k) := by rw [cell_of_row _ _ _ _ _ _ r2.out]; rfl
          have e1 : wr.cell? ⟨w.heap.size + 1 + 1, 1, none⟩ = some (.int .i64 n) := by rw [cell_of_row _ _ _ _ _ _ r2.out]; rfl
          have e2 : wr.cell? ⟨w.heap.size + 1 + 1, 2, none⟩ = some (.string s) := by rw [cell_of_row _ _ _ _ _ _ r2.out]; rfl
          have e3 : wr.cell? ⟨w.heap.size + 1 + 1, 3, none⟩ = some x := by rw [cell_of_row _ _ _ _ _ _ r2.out]; rfl
          have f0 : wr.cell? ⟨w.heap.size + 1, 0, none⟩ = some (.int .i64 0) := by rw [cell_of_row _ _ _ _ _ _ r1.out]; rfl
          have f1 : wr.cell? ⟨w.heap.size + 1, 1, none⟩ = some (.int .i64 0) := by rw [cell_of_row _ _ _ _ _ _ r1.out]; rfl
          have f2 : wr.cell? ⟨w.heap.size + 1, 2, none⟩ = some (.string ⟨#[]⟩) := by rw [cell_of_row _ _ _ _ _ _ r1.out]; rfl
          have f3 : wr.cell? ⟨w.heap.size + 1, 3, none⟩ = some (.slice none 0 0) := by rw [cell_of_row _ _ _ _ _ _ r1.out]; rfl
          have g0 := frozen_of_row _ _ 0 _ _ r1.out
          have g1 := frozen_of_row _ _ 1 _ _ r1.out
          have g2 := frozen_of_row _ _ 2 _ _ r1.out
          have g3 := frozen_of_row _ _ 3 _ _ r1.out
          obtain ⟨xa, xc, hxe⟩ := (OwnT.lies _ _ hx).slice
          simp only [Tm.args, mapL_length] at hxe
          subst hxe
          have HX := Lib.hid hx
          clear hx
          go_wp2_with fail
          have W4 := heap_setCell_same _ _ 3 _ _ (.slice xa ts.length xc) (heap_setCell_same _ _ 2 _ _ (.string s) (heap_setCell_same _ _ 1 _ _ (.int .i64 n) (heap_setCell_same _ _ 0 _ _ (.int .i64 k) r1.out)))
          simp only [Array.setIfInBounds, List.size_toArray, List.length_cons, List.length_nil, Nat.reduceAdd, Nat.reduceLT, dite_true, List.set_toArray, List.set_cons_zero, List.set_cons_succ, Array.set] at W4
          have BL := Lib.hid ((((hb.out.setCell (p := ⟨w.heap.size + 1, 0, none⟩) (by simp) (.int .i64 k)).setCell (p := ⟨w.heap.size + 1, 1, none⟩) (by simp) (.int .i64 n)).setCell (p := ⟨w.heap.size + 1, 2, none⟩) (by simp) (.string s)).setCell (p := ⟨w.heap.size + 1, 3, none⟩) (by simp) (.slice xa ts.length xc))
          have OW := Lib.hid (HX.out.keep (S' := fun b => w.heap.size ≤ b ∧ b < wr.heap.size) (w' := (((wr.setCell ⟨w.heap.size + 1, 0, none⟩ (.int .i64 k)).setCell ⟨w.heap.size + 1, 1, none⟩ (.int .i64 n)).setCell ⟨w.heap.size + 1, 2, none⟩ (.string s)).setCell ⟨w.heap.size + 1, 3, none⟩ (.slice xa ts.length xc))
            (fun b hb => by rw [Below.heap_setCell _ _ _ _ (by simp; omega), Below.heap_setCell _ _ _ _ (by simp; omega), Below.heap_setCell _ _ _ _ (by simp; omega), Below.heap_setCell _ _ _ _ (by simp; omega)]) (fun b hb _ => ⟨by omega, hb.2⟩))
          have ZZ : wr.heap.size = ((((wr.setCell ⟨w.heap.size + 1, 0, none⟩ (.int .i64 k)).setCell ⟨w.heap.size + 1, 1, none⟩ (.int .i64 n)).setCell ⟨w.heap.size + 1, 2, none⟩ (.string s)).setCell ⟨w.heap.size + 1, 3, none⟩ (.slice xa ts.length xc)).heap.size := by simp [World.setCell]
          rw [ZZ] at OW
          generalize ((((wr.setCell ⟨w.heap.size + 1, 0, none⟩ (.int .i64 k)).setCell ⟨w.heap.size + 1, 1, none⟩ (.int .i64 n)).setCell ⟨w.heap.size + 1, 2, none⟩ (.string s)).setCell ⟨w.heap.size + 1, 3, none⟩ (.slice xa ts.length xc)) = W at *
          have k0 : W.cell? ⟨w.heap.size + 1, 0, none⟩ = some (.int .i64 k) := by rw [cell_of_row _ _ _ _ _ _ W4]; rfl
          have k1 : W.cell? ⟨w.heap.size + 1, 1, none⟩ = some (.int .i64 n) := by rw [cell_of_row _ _ _ _ _ _ W4]; rfl
          have k2 : W.cell? ⟨w.heap.size + 1, 2, none⟩ = some (.string s) := by rw [cell_of_row _ _ _ _ _ _ W4]; rfl
          have k3 : W.cell? ⟨w.heap.size + 1, 3, none⟩ = some (.slice xa ts.length xc) := by rw [cell_of_row _ _ _ _ _ _ W4]; rfl
          exact bodyPost_ret (v := .agg #[.int .i64 k, .int .i64 n, .string s, .slice xa ts.length xc]) (by simp [results, Try.results69, go_sem, k0, k1, k2, k3]) rfl ⟨_, rfl, OW.out, BL.out⟩

end Go.Proofs.Ytdgflagafilobaa

/- The contracts of the specification's Size, Valid, Same, Vars, Clone. -/
namespace Go.Proofs.Ytdgflagafilobaa
open Go.RowKit Go.Proofs.HT

theorem below_box (w : World) (o : Obj) : Below w.heap.size w (w.alloc o) := (Below.refl _ _).alloc (Nat.le_refl _) _
/-- Behind a block laid: what the callee keeps of its own world it keeps of this one. -/
theorem below_over {w w1 w2 : World} (h : Below w.heap.size w w1) (k : Below w1.heap.size w1 w2) : Below w.heap.size w w2 := h.trans (k.mono h.size)

set_option maxHeartbeats 1000000 in
theorem size_any (t : Tm) (v : Value) (w : World) (h : LiesT w t v) : Calls Try.prog 35 #[tv t v] w fun e w' => e = .returned (.int .i64 (cntM t 2001)) ∧ Below w.heap.size w w' := by
  have HC : Hid (∀ o, Calls Try.prog 66 #[tv t v, .int .i64 2001] (w.alloc o) fun e w' => e = .returned (.int .i64 (cntM t 2001)) ∧ Below w.heap.size w w') := fun o =>
    (count_any t v 2001 (w.alloc o) (h.below (below_box w o)) (by omega) (by omega)).mono fun e w' he => ⟨he.1, below_over (below_box w o) he.2⟩
  cases t with
  | mk k n s ts =>
  simp only [tv, Tm.kind, Tm.num, Tm.name] at HC ⊢
  clear h
  go_enter Try.func35, Try.ntmps35
  go_wp2_with (go_at_call 66; refine (HC.out _).mono ?_; rintro e w1 ⟨rfl, hb⟩)
  go_ret
  exact ⟨rfl, hb⟩

theorem cntM_le (t : Tm) : cntM t 2001 ≤ 2000 ↔ cnt t ≤ 2000 := by
  unfold cntM; split <;> omega

set_option maxHeartbeats 1000000 in
theorem valid_any (t : Tm) (v : Value) (w : World) (h : LiesT w t v) : Calls Try.prog 34 #[tv t v] w fun e w' => e = .returned (.bool (validB t)) ∧ Below w.heap.size w w' := by
  have HC : Hid (∀ o, Calls Try.prog 35 #[tv t v] (w.alloc o) fun e w' => e = .returned (.int .i64 (cntM t 2001)) ∧ Below (w.alloc o).heap.size (w.alloc o) w') := fun o => size_any t v (w.alloc o) (h.below (below_box w o))
  have HN : Hid (∀ o w1, Below (w.alloc o).heap.size (w.alloc o) w1 → Calls Try.prog 65 #[tv t v] w1 fun e w' => e = .returned (.bool (nodesB t)) ∧ Below w1.heap.size w1 w') := fun o w1 hb => nodes_any t v w1 ((h.below (below_box w o)).below hb)
  have hm := cntM_bd t 2001 (by omega)
  cases t with
  | mk k n s ts =>
  simp only [tv, Tm.kind, Tm.num, Tm.name] at HC HN ⊢
  have C0 : Hid ((w.alloc (.cells #[.int .i64 k, .int .i64 n, .string s, v] 24)).heap[w.heap.size]? = some (.cells #[.int .i64 k, .int .i64 n, .string s, v] 24 (0, 0))) := heap_alloc_new w _
  obtain ⟨b, c, rfl⟩ := h.slice
  clear h
  by_cases hc : cnt (.mk k n s ts) ≤ 2000
  · have hq : cntM (.mk k n s ts) 2001 ≤ 2000 := (cntM_le _).2 hc
    have H : Hid (nodesB (.mk k n s ts) = validB (.mk k n s ts)) := by show _ = _; rw [validB, decide_eq_true hc, Bool.true_and]
    generalize cntM (.mk k n s ts) 2001 = q at *
    go_enter Try.func34, Try.ntmps34
    go_wp2_with (first
      | (go_at_call 35; refine (HC.out _).mono ?_; rintro e w1 ⟨rfl, hb⟩; have r := block_below hb C0.out
         have q0 : w1.cell? ⟨w.heap.size, 0, none⟩ = some (.int .i64 k) := by rw [cell_of_row _ _ _ _ _ _ r]; rfl
         have q1 : w1.cell? ⟨w.heap.size, 1, none⟩ = some (.int .i64 n) := by rw [cell_of_row _ _ _ _ _ _ r]; rfl
         have q2 : w1.cell? ⟨w.heap.size, 2, none⟩ = some (.string s) := by rw [cell_of_row _ _ _ _ _ _ r]; rfl
         have q3 : w1.cell? ⟨w.heap.size, 3, none⟩ = some (.slice b (Tm.args (.mk k n s ts)).length c) := by rw [cell_of_row _ _ _ _ _ _ r]; rfl)
      | (go_at_call 65; refine (HN.out _ _ hb).mono ?_; rintro e w2 ⟨rfl, hb2⟩))
    go_ret
    exact ⟨ret_bool H.out, below_over (below_over (below_box w _) hb) hb2⟩
  · have hq : ¬ cntM (.mk k n s ts) 2001 ≤ 2000 := fun h => hc ((cntM_le _).1 h)
    have H : Hid (false = validB (.mk k n s ts)) := by show _ = _; rw [validB, decide_eq_false hc, Bool.false_and]
    generalize cntM (.mk k n s ts) 2001 = q at *
    go_enter Try.func34, Try.ntmps34
    go_wp2_with (first | (go_at_call 35; refine (HC.out _).mono ?_; rintro e w1 ⟨rfl, hb⟩))
    go_ret
    exact ⟨ret_bool H.out, below_over (below_box w _) hb⟩

end Go.Proofs.Ytdgflagafilobaa

/- The contracts of the specification's Same, Vars, Clone. -/
namespace Go.Proofs.Ytdgflagafilobaa
open Go.RowKit Go.Proofs.HT

def sameV (t u : Tm) : Bool := validB t && validB u && sameB t u

set_option maxHeartbeats 1000000 in
theorem same_any (t u : Tm) (v x : Value) (w : World) (hv : LiesT w t v) (hx : LiesT w u x) : Calls Try.prog 10 #[tv t v, tv u x] w fun e w' => e = .returned (.bool (sameV t u)) ∧ Below w.heap.size w w' := by
  have A : Hid (∀ w1, Below w.heap.size w w1 → Calls Try.prog 34 #[tv t v] w1 fun e w' => e = .returned (.bool (validB t)) ∧ Below w1.heap.size w1 w') := fun w1 hb => valid_any t v w1 (hv.below hb)
  have B : Hid (∀ w1, Below w.heap.size w w1 → Calls Try.prog 34 #[tv u x] w1 fun e w' => e = .returned (.bool (validB u)) ∧ Below w1.heap.size w1 w') := fun w1 hb => valid_any u x w1 (hx.below hb)
  have C : Hid (∀ w1, Below w.heap.size w w1 → Calls Try.prog 38 #[tv t v, tv u x] w1 fun e w' => e = .returned (.bool (sameB t u)) ∧ Below w1.heap.size w1 w') := fun w1 hb => ident_any t u v x w1 (hv.below hb) (hx.below hb)
  have fr : Hid (∀ o p, Below w.heap.size w ((w.alloc o).alloc p)) := fun o p => (below_box w o).alloc (by simp) p
  cases t with
  | mk k n s ts =>
  cases u with
  | mk k' n' s' us =>
  obtain ⟨b, c, rfl⟩ := hv.slice
  obtain ⟨b', c', rfl⟩ := hx.slice
  simp only [tv, Tm.kind, Tm.num, Tm.name, Tm.args] at A B C ⊢
  clear hv hx
  have C1 : Hid (((w.alloc (.cells #[.int .i64 k, .int .i64 n, .string s, .slice b ts.length c] 24)).alloc (.cells #[.int .i64 k', .int .i64 n', .string s', .slice b' us.length c'] 24)).heap[w.heap.size]? = some (.cells #[.int .i64 k, .int .i64 n, .string s, .slice b ts.length c] 24 (0, 0))) := by
    show _ = _; rw [Below.heap_alloc _ _ _ (by simp), heap_alloc_new]
  have C2 : Hid (((w.alloc (.cells #[.int .i64 k, .int .i64 n, .string s, .slice b ts.length c] 24)).alloc (.cells #[.int .i64 k', .int .i64 n', .string s', .slice b' us.length c'] 24)).heap[w.heap.size + 1]? = some (.cells #[.int .i64 k', .int .i64 n', .string s', .slice b' us.length c'] 24 (0, 0))) := by
    have h := heap_alloc_new (w.alloc (.cells #[.int .i64 k, .int .i64 n, .string s, .slice b ts.length c] 24)) (.cells #[.int .i64 k', .int .i64 n', .string s', .slice b' us.length c'] 24)
    show _ = _; simpa using h
  have H : Hid (sameV (.mk k n s ts) (.mk k' n' s' us) = (validB (.mk k n s ts) && validB (.mk k' n' s' us) && sameB (.mk k n s ts) (.mk k' n' s' us))) := by show _ = _; rfl
  generalize sameV (.mk k n s ts) (.mk k' n' s' us) = r at *
  generalize validB (.mk k n s ts) = p at *
  generalize validB (.mk k' n' s' us) = q at *
  cases p
  · go_enter Try.func10, Try.ntmps10
    go_wp2_with (first | (go_at_call_of 34 (Value.agg #[.int .i64 k, .int .i64 n, .string s, .slice b ts.length c]); refine (A.out _ (fr.out _ _)).mono ?_; rintro e w1 ⟨rfl, hb⟩))
    go_ret
    exact ⟨ret_bool (by rw [H.out]; rfl), below_over (fr.out _ _) hb⟩
  · cases q
    · go_enter Try.func10, Try.ntmps10
      go_wp2_with (first
        | (go_at_call_of 34 (Value.agg #[.int .i64 k, .int .i64 n, .string s, .slice b ts.length c]); refine (A.out _ (fr.out _ _)).mono ?_; rintro e w1 ⟨rfl, hb⟩; have r2 := block_below hb C2.out; have HB1 := Lib.hid (below_over (fr.out _ _) hb); have Hb := Lib.hid hb; clear hb
           have q0 : w1.cell? ⟨w.heap.size + 1, 0, none⟩ = some (.int .i64 k') := by rw [cell_of_row _ _ _ _ _ _ r2]; rfl
           have q1 : w1.cell? ⟨w.heap.size + 1, 1, none⟩ = some (.int .i64 n') := by rw [cell_of_row _ _ _ _ _ _ r2]; rfl
           have q2 : w1.cell? ⟨w.heap.size + 1, 2, none⟩ = some (.string s') := by rw [cell_of_row _ _ _ _ _ _ r2]; rfl
           have q3 : w1.cell? ⟨w.heap.size + 1, 3, none⟩ = some (.slice b' us.length c') := by rw [cell_of_row _ _ _ _ _ _ r2]; rfl
           clear r2)
        | (go_at_call_of 34 (Value.agg #[.int .i64 k', .int .i64 n', .string s', .slice b' us.length c']); refine (B.out _ HB1.out).mono ?_; rintro e w2 ⟨rfl, hb2⟩))
      go_ret
      exact ⟨ret_bool (by rw [H.out]; rfl), below_over HB1.out hb2⟩
    · have Hr : Hid (sameB (.mk k n s ts) (.mk k' n' s' us) = r) := by show _ = _; rw [H.out]; rfl
      go_enter Try.func10, Try.ntmps10
      go_wp2_with (first
        | (go_at_call_of 34 (Value.agg #[.int .i64 k, .int .i64 n, .string s, .slice b ts.length c]); refine (A.out _ (fr.out _ _)).mono ?_; rintro e w1 ⟨rfl, hb⟩; have r1 := Lib.hid (block_below hb C1.out); have r2 := Lib.hid (block_below hb C2.out); have HB1 := Lib.hid (below_over (fr.out _ _) hb); clear hb
           have q0 : w1.cell? ⟨w.heap.size + 1, 0, none⟩ = some (.int .i64 k') := by rw [cell_of_row _ _ _ _ _ _ r2.out]; rfl
           have q1 : w1.cell? ⟨w.heap.size + 1, 1, none⟩ = some (.int .i64 n') := by rw [cell_of_row _ _ _ _ _ _ r2.out]; rfl
           have q2 : w1.cell? ⟨w.heap.size + 1, 2, none⟩ = some (.string s') := by rw [cell_of_row _ _ _ _ _ _ r2.out]; rfl
           have q3 : w1.cell? ⟨w.heap.size + 1, 3, none⟩ = some (.slice b' us.length c') := by rw [cell_of_row _ _ _ _ _ _ r2.out]; rfl)
        | (go_at_call_of 34 (Value.agg #[.int .i64 k', .int .i64 n', .string s', .slice b' us.length c']); refine (B.out _ HB1.out).mono ?_; rintro e w2 ⟨rfl, hb2⟩; have HB2 := Lib.hid (below_over HB1.out hb2); have s1 := block_below hb2 r1.out; have s2 := block_below hb2 r2.out; clear hb2
           have t0 : w2.cell? ⟨w.heap.size + 1, 0, none⟩ = some (.int .i64 k') := by rw [cell_of_row _ _ _ _ _ _ s2]; rfl
           have t1 : w2.cell? ⟨w.heap.size + 1, 1, none⟩ = some (.int .i64 n') := by rw [cell_of_row _ _ _ _ _ _ s2]; rfl
           have t2 : w2.cell? ⟨w.heap.size + 1, 2, none⟩ = some (.string s') := by rw [cell_of_row _ _ _ _ _ _ s2]; rfl
           have t3 : w2.cell? ⟨w.heap.size + 1, 3, none⟩ = some (.slice b' us.length c') := by rw [cell_of_row _ _ _ _ _ _ s2]; rfl
           have u0 : w2.cell? ⟨w.heap.size, 0, none⟩ = some (.int .i64 k) := by rw [cell_of_row _ _ _ _ _ _ s1]; rfl
           have u1 : w2.cell? ⟨w.heap.size, 1, none⟩ = some (.int .i64 n) := by rw [cell_of_row _ _ _ _ _ _ s1]; rfl
           have u2 : w2.cell? ⟨w.heap.size, 2, none⟩ = some (.string s) := by rw [cell_of_row _ _ _ _ _ _ s1]; rfl
           have u3 : w2.cell? ⟨w.heap.size, 3, none⟩ = some (.slice b ts.length c) := by rw [cell_of_row _ _ _ _ _ _ s1]; rfl)
        | (go_at_call 38; refine (C.out _ HB2.out).mono ?_; rintro e w3 ⟨rfl, hb3⟩))
      go_ret
      exact ⟨ret_bool Hr.out, below_over HB2.out hb3⟩

end Go.Proofs.Ytdgflagafilobaa
