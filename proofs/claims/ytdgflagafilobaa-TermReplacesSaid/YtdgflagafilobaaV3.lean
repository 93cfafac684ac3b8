/- The program's visitor that collects the variables. -/
import Derived.Test.YtdgflagafilobaaV2
namespace Go.Proofs.Ytdgflagafilobaa
open Go.RowKit Go.Proofs.HT

def nv (xs : List Int) (t : Tm) : List Int := if t.kind = 0 ∧ posF xs t.num 0 < 0 then xs ++ [t.num] else xs
def vn (ns : List Tm) : List Int := ns.foldl nv []
theorem vn_snoc (ns : List Tm) (t : Tm) : vn (ns ++ [t]) = nv (vn ns) t := by simp [vn]
theorem pre_vars (t : Tm) : ∀ xs, (pre t).foldl nv xs = varsF xs t := by
  induction t using Tm.ind with
  | h k n s ts ih =>
    intro xs
    rw [pre, varsF, List.foldl_cons]
    have key : ∀ (l : List Tm), (∀ t ∈ l, ∀ xs, (pre t).foldl nv xs = varsF xs t) → ∀ xs, (preL l).foldl nv xs = varsL xs l := by
      intro l
      induction l with
      | nil => intro _ xs; rfl
      | cons x l ih2 => intro h xs; rw [preL, varsL, List.foldl_append, h x (by simp), ih2 (fun y hy => h y (by simp [hy]))]
    exact key ts ih _
theorem nv_len (xs : List Int) (t : Tm) : (nv xs t).length ≤ xs.length + 1 := by unfold nv; split <;> simp
theorem vn_len (ns : List Tm) : (vn ns).length ≤ ns.length := by
  have key : ∀ (l : List Tm) (xs : List Int), (l.foldl nv xs).length ≤ xs.length + l.length := by
    intro l
    induction l with
    | nil => intro xs; simp
    | cons t l ih => intro xs; have := ih (nv xs t); have := nv_len xs t; simp only [List.foldl_cons, List.length_cons]; omega
  have h := key ns []
  simpa [vn] using h
theorem posF_iff : ∀ (xs : List Int) (n : Int) (i : Nat), posF xs n i < 0 ↔ ∀ x ∈ xs, ¬ x = n
  | [], n, i => by simp [posF]
  | x :: xs, n, i => by
    have h := posF_iff xs n (i + 1)
    unfold posF
    by_cases e : x = n
    · rw [if_pos e]; simp [e]
    · rw [if_neg e, h]; simp [e]

def mark (xs : List Int) : List (Int × Value) := xs.map fun x => (x, .bool true)
theorem findI_mark (xs : List Int) (n : Int) : (findI n (mark xs)).getD (.bool false) = .bool (decide (¬ posF xs n 0 < 0)) := by
  induction xs with
  | nil => simp [mark, findI, posF]
  | cons x xs ih =>
    have hp := posF_iff (x :: xs) n 0
    have hq := posF_iff xs n 0
    simp only [mark, List.map_cons, findI] at ih ⊢
    by_cases e : n = x
    · rw [if_pos e]
      have : ¬ posF (x :: xs) n 0 < 0 := by rw [hp]; simp [e]
      simp [this]
    · rw [if_neg e, ih]
      have : (posF (x :: xs) n 0 < 0) ↔ posF xs n 0 < 0 := by rw [hp, hq]; simp; intro _ h; exact e h.symm
      simp [this]
theorem findI_mark_none (xs : List Int) (n : Int) (h : posF xs n 0 < 0) : findI n (mark xs) = none := by
  refine findI_none fun p hp => ?_
  unfold mark at hp
  obtain ⟨x, hx, rfl⟩ := List.mem_map.1 hp
  exact fun e => (posF_iff xs n 0).1 h x hx e.symm

def VX (mb lb gm base : Nat) (ns : List Tm) (own : Nat → Prop) (w : World) : Prop :=
  ∃ x : Value, (∀ g, own g ↔ g = mb ∨ g = lb ∨ g = gm ∨ x.ownBlock = some g) ∧ w.heap[mb]? = some (.cells #[.map (some gm)] 59 (0, 0)) ∧ w.heap[lb]? = some (.cells #[x] 41 (0, 0)) ∧
    MapI w gm (mark (vn ns)) ∧ w.ownsRow base 2 1 x (vn ns).length (nums (vn ns)) ∧ base ≤ w.heap.size
theorem ownsRow_at {w w' : World} {base : Nat} {e : TypeId} {size : Nat} {v : Value} {n : Nat} {xs : List Value} (h : w.ownsRow base e size v n xs) (hb : ∀ g, v.ownBlock = some g → w'.heap[g]? = w.heap[g]?) : w'.ownsRow base e size v n xs := by
  refine ⟨h.1, ?_⟩
  rcases h.2 with hn | ⟨g, cap, cur, hv, hbg, hg, rest⟩
  · exact .inl hn
  · exact .inr ⟨g, cap, cur, hv, hbg, by rw [hb g (by rw [hv]; rfl), hg], rest⟩
theorem VX_keep (mb lb gm base : Nat) : VisKeep (VX mb lb gm base) := by
  refine ⟨?_, ?_⟩
  · rintro ns own w w' ⟨x, ho, h1, h2, h3, h4, h5⟩ k hz
    exact ⟨x, ho, by rw [k mb ((ho mb).2 (.inl rfl))]; exact h1, by rw [k lb ((ho lb).2 (.inr (.inl rfl)))]; exact h2, h3.same (k gm ((ho gm).2 (.inr (.inr (.inl rfl))))), ownsRow_at h4 fun g hg => k g ((ho g).2 (.inr (.inr (.inr hg)))), Nat.le_trans h5 hz⟩
  · rintro ns own w g ⟨x, ho, h1, h2, h3, h4, h5⟩ hg
    rcases (ho g).1 hg with rfl | rfl | rfl | h
    · exact (Array.getElem?_eq_some_iff.1 h1).1
    · exact (Array.getElem?_eq_some_iff.1 h2).1
    · exact h3.lt
    · exact (h4.lt g h).2

theorem underM : Try.prog.underlying 59 = some (.map 2 4) := by kernel_rfl
theorem underI : Try.prog.underlying 2 = some (.int .i64) := by kernel_rfl
theorem zeroB (w : World) : (zeroValue 4).run Try.prog w = .ok (.bool false) w := by kernel_rfl

set_option maxHeartbeats 1000000 in
theorem vars_visit (mb lb gm base : Nat) (h1 : mb < base) (h2 : lb < base) (h3 : gm < base) (n1 : ¬ mb = lb) (n2 : ¬ mb = gm) (n3 : ¬ lb = gm) (W : World) (g1 : W.heap.size ≤ lb) (g2 : W.heap.size ≤ gm) (ns : List Tm) (own : Nat → Prop) (t : Tm) (v : Value) (w : World) (hns : ns.length < 2001) (hV : VX mb lb gm base ns own w) (hb : Below W.heap.size W w) :
    Calls Try.prog 62 #[tv t v, .pointer (some ⟨mb, 0, none⟩), .pointer (some ⟨lb, 0, none⟩)] w (VisitEnd (VX mb lb gm base) W (ns ++ [t]) own w) := by
  have hVV := Lib.hid hV
  obtain ⟨x, ho, hr1, hr2, hm, hrow, hbase⟩ := hV
  have hlt1 := (Array.getElem?_eq_some_iff.1 hr1).1
  have hlt := (Array.getElem?_eq_some_iff.1 hr2).1
  have q0 : w.cell? ⟨mb, 0, none⟩ = some (.map (some gm)) := by rw [cell_of_row _ _ _ _ _ _ hr1]; rfl
  have q1 : w.cell? ⟨lb, 0, none⟩ = some x := by rw [cell_of_row _ _ _ _ _ _ hr2]; rfl
  have qf := frozen_of_row _ _ 0 _ _ hr2
  have HB := Lib.hid hb
  have HR1 := Lib.hid hr1
  have HR2 := Lib.hid hr2
  have HO := Lib.hid ho
  have HM := Lib.hid hm
  have HW := Lib.hid hrow
  have hbd := vn_len ns
  by_cases hk : t.kind = 0
  · have hk1 : (t.kind == 0) = true := by simpa using hk
    have hlk : ∀ o, (Instr.lookup 59 (.map (some gm)) (.int .i64 t.num) false).run Try.prog (w.alloc o) = .ok (.bool (decide (¬ posF (vn ns) t.num 0 < 0))) (w.alloc o) := fun o =>
      run_look_i64 (HM.out.same (Below.heap_alloc _ _ _ HM.out.lt)) underM underI (zeroB _) t.num (findI_mark _ _)
    by_cases hp : posF (vn ns) t.num 0 < 0
    · have hlk1 : ∀ o, (Instr.lookup 59 (.map (some gm)) (.int .i64 t.num) false).run Try.prog (w.alloc o) = .ok (.bool false) (w.alloc o) := fun o => by rw [hlk o]; simp [hp]
      have HE : Hid (vn (ns ++ [t]) = vn ns ++ [t.num]) := by show _ = _; rw [vn_snoc, nv, if_pos ⟨hk, hp⟩]
      have HNO := Lib.hid (findI_mark_none (vn ns) t.num hp)
      have HML := HM.out.lt
      have hmbb : ¬ gm = lb := fun e => n3 e.symm
      have M1 : Hid (∀ o, MapI (w.alloc o) gm (mark (vn ns))) := fun o => HM.out.same (Below.heap_alloc _ _ _ HML)
      obtain ⟨i0, hi0, hz0, hz1, hz2⟩ := info_parts info2
      clear hk hp hlk hr1 hr2 ho hm hrow hb
      simp only [tv]
      go_enter Try.func62, Try.ntmps62
      go_wp2_with (first
        | (at_mapUpdate; refine wpList_put_i64 rfl _ _ _ rfl underM underI rfl (M1.out _) t.num rfl (.bool true) rfl HNO.out ?_; intro w2 hm2 hb2 hs2 hk2; have z2 : w2.heap.size = w.heap.size + 1 := (by rw [hs2]; simp); have R2 := Lib.hid ((hk2 lb n3).trans ((Below.heap_alloc _ _ _ hlt).trans HR2.out)); have R1 := Lib.hid ((hk2 mb n2).trans ((Below.heap_alloc _ _ _ hlt1).trans HR1.out)); have p1 : w2.cell? ⟨lb, 0, none⟩ = some x := (by rw [cell_of_row _ _ _ _ _ _ R2.out]; rfl); have pf := frozen_of_row _ _ 0 _ _ R2.out; have p2 : w2.cell? ⟨w.heap.size, 1, none⟩ = some (.int .i64 t.num) := (by rw [World.cell?_of_block (hk2 w.heap.size (by omega)), cell_of_row _ _ _ _ _ _ (heap_alloc_new w _)]; rfl); have W2 : Hid (w2.ownsRow base 2 1 x (vn ns).length (nums (vn ns))) := ownsRow_at HW.out (fun g hg => (hk2 g (by have := HW.out.lt g hg; omega)).trans (Below.heap_alloc _ _ _ (HW.out.lt g hg).2)); have M2 := Lib.hid hm2; have K2 : Hid (∀ j, j < w.heap.size → ¬ j = gm → w2.heap[j]? = w.heap[j]?) := fun j hj hn => (hk2 j hn).trans (Below.heap_alloc _ _ _ hj); have B2 : Hid (Below W.heap.size W w2) := (HB.out.alloc HB.out.size _).trans (hb2.mono g2); clear hm2 hb2 hs2 hk2)
        | (at_builtin; refine wpList_append_lies _ rfl (.tmp 17) (.tmp 20) 41 rfl base 2 i0 _ 1 8 under31 hi0 hz0 hz1 hz2 rfl (by decide) x (vn ns).length (nums (vn ns)) rfl (W2.out.alloc _) ⟨w.heap.size + 1, 0, none⟩ 1 1 [.int .i64 t.num] rfl rfl ?a1 ?a2 (by decide) ?a3 ?a4 ?a5 (w.heap.size + 2) ?a6 ?next))
      case a1 => exact World.news_of_block (cs := #[.int .i64 t.num]) (t := 2) (fr := (0, 0)) (by have h := heap_alloc_new w2 (.cells #[.int .i64 t.num] 2); rw [z2] at h; simpa using h)
      case a2 => intro u hu; simp at hu; subst hu; rfl
      case a3 => simp only [maxLen]; omega
      case a4 => omega
      case a5 =>
        simp; omega
      case a6 => simp [z2]
      case next =>
        intro g cap2 w3 hown3 hgrow hat hgs
        have hrowb : ∀ k, x.ownBlock = some k → base ≤ k ∧ k < w.heap.size := fun k hk => HW.out.lt k hk
        have kp : ∀ j, j < w2.heap.size → x.ownBlock ≠ some j → w3.heap[j]? = w2.heap[j]? := fun j hj hn => (hgrow.block j (by simp; omega) (Ne.symm hn)).trans (Below.heap_alloc _ _ _ hj)
        have hnl : x.ownBlock ≠ some lb := fun e => by have := hrowb _ e; omega
        have hnm : x.ownBlock ≠ some mb := fun e => by have := hrowb _ e; omega
        have hng : x.ownBlock ≠ some gm := fun e => by have := hrowb _ e; omega
        have R3 := Lib.hid ((kp lb (by omega) hnl).trans R2.out)
        have R4 := Lib.hid ((kp mb (by omega) hnm).trans R1.out)
        have M3 := Lib.hid (M2.out.same (kp gm (by omega) hng))
        have r5 : w3.cell? ⟨lb, 0, none⟩ = some x := by rw [cell_of_row _ _ _ _ _ _ R3.out]; rfl
        have r6 := frozen_of_row _ _ 0 _ _ R3.out
        have HG := Lib.hid hgrow
        have HN := Lib.hid hown3
        have KP := Lib.hid kp
        have AT := Lib.hid hat
        have GS := Lib.hid hgs
        clear hgrow hown3 kp hat hgs p1 pf p2
        go_wp2_with fail
        go_end0
        have hz3 : w2.heap.size + 1 ≤ w3.heap.size := by have := HG.out.size; simpa using this
        have hs3 : (w3.setCell ⟨lb, 0, none⟩ (.slice (some ⟨g, 0, none⟩) ((vn ns).length + 1) cap2)).heap.size = w3.heap.size := by simp [World.setCell]
        refine ⟨rfl, fun j => j = mb ∨ j = lb ∨ j = gm ∨ some g = some j, ⟨.slice (some ⟨g, 0, none⟩) ((vn ns).length + 1) cap2, fun _ => Iff.rfl, ?_, ?_, ?_, ?_, ?_⟩, ?_, ?_, ?_, ?_⟩
        · rw [Below.heap_setCell _ _ _ _ n1, R4.out]
        · have h := heap_setCell_same w3 lb 0 _ _ (.slice (some ⟨g, 0, none⟩) ((vn ns).length + 1) cap2) R3.out
          simpa using h
        · rw [HE.out]
          have e : mark (vn ns ++ [t.num]) = mark (vn ns) ++ [(t.num, .bool true)] := by simp [mark]
          rw [e]
          exact M3.out.same (Below.heap_setCell _ _ _ _ hmbb)
        · have e1 : (vn (ns ++ [t])).length = (vn ns).length + 1 := by rw [HE.out]; simp
          have e2 : nums (vn (ns ++ [t])) = nums (vn ns) ++ [.int .i64 t.num] := by rw [HE.out]; simp [nums]
          rw [e1, e2]
          exact ownsRow_setCell_below HN.out (by simpa using h2) _
        · rw [hs3]; omega
        · rintro j (rfl | rfl | rfl | e)
          · exact .inl ((HO.out _).2 (.inl rfl))
          · exact .inl ((HO.out _).2 (.inr (.inl rfl)))
          · exact .inl ((HO.out _).2 (.inr (.inr (.inl rfl))))
          · have e := Option.some.inj e
            subst e
            rcases AT.out with h | h
            · exact .inl ((HO.out _).2 (.inr (.inr (.inr h))))
            · right; omega
        · rw [hs3]; omega
        · intro j hj hn
          rw [Below.heap_setCell _ _ _ _ (fun e => hn ((HO.out j).2 (.inr (.inl e)))), KP.out j (by omega) (fun e => hn ((HO.out j).2 (.inr (.inr (.inr e))))), K2.out j hj (fun e => hn ((HO.out j).2 (.inr (.inr (.inl e)))))]
        · exact (((B2.out.alloc B2.out.size _).grown HG.out (by have := B2.out.size; simp; omega) (fun k hk => by have := hrowb k hk; omega)).setCell (p := ⟨lb, 0, none⟩) (by simpa using g1) _)
    · have hlk1 : ∀ o, (Instr.lookup 59 (.map (some gm)) (.int .i64 t.num) false).run Try.prog (w.alloc o) = .ok (.bool true) (w.alloc o) := fun o => by rw [hlk o]; simp [hp]
      have HE : Hid (vn (ns ++ [t]) = vn ns) := by show _ = _; rw [vn_snoc, nv, if_neg (fun h => hp h.2)]
      clear hk hp hlk hr1 hr2 ho hm hrow hb
      simp only [tv]
      go_enter Try.func62, Try.ntmps62
      go_wp2_with fail
      go_end0
      have HV2 : VX mb lb gm base (ns ++ [t]) own w := by obtain ⟨x, a, b, c, d, e, f⟩ := hVV.out; exact ⟨x, a, b, c, by rw [HE.out]; exact d, by rw [HE.out]; exact e, f⟩
      exact ⟨rfl, own, (VX_keep mb lb gm base).keep _ _ w _ HV2 (fun g hg => Below.heap_alloc _ _ _ ((VX_keep mb lb gm base).lt _ _ _ _ hVV.out hg)) (by simp), fun g h => .inl h, by simp, fun g hg _ => Below.heap_alloc _ _ _ hg, HB.out.alloc HB.out.size _⟩
  · have hk1 : (t.kind == 0) = false := by simpa using hk
    have HE : Hid (vn (ns ++ [t]) = vn ns) := by show _ = _; rw [vn_snoc, nv, if_neg (fun h => hk h.1)]
    clear hk hr1 hr2 ho hm hrow hb
    simp only [tv]
    go_enter Try.func62, Try.ntmps62
    go_wp2_with fail
    go_end0
    have HV2 : VX mb lb gm base (ns ++ [t]) own w := by obtain ⟨x, a, b, c, d, e, f⟩ := hVV.out; exact ⟨x, a, b, c, by rw [HE.out]; exact d, by rw [HE.out]; exact e, f⟩
    exact ⟨rfl, own, (VX_keep mb lb gm base).keep _ _ w _ HV2 (fun g hg => Below.heap_alloc _ _ _ ((VX_keep mb lb gm base).lt _ _ _ _ hVV.out hg)) (by simp), fun g h => .inl h, by simp, fun g hg _ => Below.heap_alloc _ _ _ hg, HB.out.alloc HB.out.size _⟩

end Go.Proofs.Ytdgflagafilobaa
