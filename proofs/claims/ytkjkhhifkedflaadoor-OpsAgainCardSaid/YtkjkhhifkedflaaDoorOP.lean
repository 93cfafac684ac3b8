/- The contracts of slices.Delete and slices.Insert at operators, for one operator of a row of the caller's own. -/
import Derived.Test.YtkjkhhifkedflaaDoorOK
import Derived.Test.YtkjkhhifkedflaaDoorG
import Derived.Deep.RegionLaw
import Derived.Lib.Overlaps
set_option linter.unusedVariables false
set_option linter.unusedSimpArgs false
namespace Go.Proofs.YtkjkhhifkedflaaDoor
open Go.RowKit Go.Proofs.HP

theorem flatO_take (ps : List Opd) (k : Nat) : (flatO ps).take (k * 3) = flatO (ps.take k) := by
  by_cases hk : k ≤ ps.length
  · have h := flatO_app (ps.take k) (ps.drop k)
    rw [List.take_append_drop] at h
    rw [h, List.take_left' (by rw [flatO_len, List.length_take]; omega)]
  · rw [List.take_of_length_le (by rw [flatO_len]; omega), List.take_of_length_le (by omega)]
theorem flatO_drop (ps : List Opd) (k : Nat) : (flatO ps).drop (k * 3) = flatO (ps.drop k) := by
  by_cases hk : k ≤ ps.length
  · have h := flatO_app (ps.take k) (ps.drop k)
    rw [List.take_append_drop] at h
    rw [h, List.drop_left' (by rw [flatO_len, List.length_take]; omega)]
  · rw [List.drop_eq_nil_of_le (by rw [flatO_len]; omega), List.drop_eq_nil_of_le (by omega)]; rfl
/-- Block g is a row of cap pairs' cells, the first of which are these pairs. -/
structure Own (w : World) (g cap : Nat) (ps : List Opd) (cur : List Value) : Prop where
  heap : w.heap[g]? = some (.cells cur.toArray 26 (0, 0))
  len : cur.length = cap * 3
  le : ps.length ≤ cap
  take : cur.take (ps.length * 3) = flatO ps
def Owns (w : World) (g cap : Nat) (ps : List Opd) : Prop := ∃ cur, Own w g cap ps cur

theorem Own.cell {w : World} {g cap : Nat} {ps : List Opd} {cur : List Value} (h : Own w g cap ps cur) (j : Nat) (v : Value) (hv : (flatO ps)[j]? = some v) : w.cell? ⟨g, j, none⟩ = some v := by
  rw [cell_of_row w g j cur.toArray 26 (0, 0) h.heap]
  rw [← h.take, List.getElem?_take] at hv
  split at hv
  · simpa using hv
  · cases hv
theorem Owns.pr {w : World} {g cap : Nat} {ps : List Opd} (h : Owns w g cap ps) : PRO w (some ⟨g, 0, none⟩) ps := by
  obtain ⟨cur, h⟩ := h
  intro i p hp
  obtain ⟨h1, h2, h3⟩ := flatO_get ps i p hp
  refine ⟨g, 0, rfl, ?_, ?_, ?_⟩
  · rw [Nat.zero_add]; exact h.cell _ _ h1
  · rw [Nat.zero_add]; exact h.cell _ _ h2
  · rw [Nat.zero_add]; exact h.cell _ _ h3

theorem splice_take {α : Type} (L : List α) (off k : Nat) (cs : List α) (hk : k ≤ off) (ho : off ≤ L.length) : (splice L off cs).take k = L.take k := by
  simp only [splice]
  rw [List.take_append_of_le_length (by rw [List.length_take]; omega), List.take_take, Nat.min_eq_left hk]
theorem splice_take2 {α : Type} (L : List α) (off k : Nat) (cs : List α) (ho : off ≤ L.length) (hk : k = off + cs.length) : (splice L off cs).take k = L.take off ++ cs := by
  subst hk
  simp only [splice]
  rw [← List.append_assoc, List.take_left' (by rw [List.length_append, List.length_take]; omega)]

theorem zero1 : (Builtin.zeroCells (Value.agg #[Value.string ⟨#[]⟩, Value.int IntKind.i64 0, Value.int IntKind.i64 0]).cells 1).toList = [.string ⟨#[]⟩, .int .i64 0, .int .i64 0] := by kernel_rfl
theorem ret_slice {A : Option Addr} {a b c : Nat} (h : a = b) : Ending.returned (.slice A a c) = .returned (.slice A b c) := by rw [h]
/-- What the row holds behind Delete. -/
def Owned3 (cur : List Value) (ps : List Opd) (at_ n cap : Nat) : Prop :=
  (splice (splice cur (0 + at_ * 3) (flatO (ps.drop (at_ + 1)))) ((at_ + (n - (at_ + 1))) * 3) [.string ⟨#[]⟩, .int .i64 0, .int .i64 0]).length = cap * 3 ∧ (ps.take at_ ++ ps.drop (at_ + 1)).length ≤ cap ∧
  (splice (splice cur (0 + at_ * 3) (flatO (ps.drop (at_ + 1)))) ((at_ + (n - (at_ + 1))) * 3) [.string ⟨#[]⟩, .int .i64 0, .int .i64 0]).take ((ps.take at_ ++ ps.drop (at_ + 1)).length * 3) = flatO (ps.take at_ ++ ps.drop (at_ + 1))
theorem owned3 {w : World} {g cap : Nat} {ps : List Opd} {cur : List Value} (h : Own w g cap ps cur) {at_ n : Nat} (hn : ps.length = n) (ha : at_ < n) : Owned3 cur ps at_ n cap := by
  have hl1 : (flatO (ps.drop (at_ + 1))).length = (n - (at_ + 1)) * 3 := by rw [flatO_len, List.length_drop, hn]
  have hle := h.le
  have hle2 := h.len
  have e1 : (splice cur (0 + at_ * 3) (flatO (ps.drop (at_ + 1)))).length = cap * 3 := by rw [length_splice _ _ _ (by rw [hl1, hle2]; omega), hle2]
  have e2 : (ps.take at_ ++ ps.drop (at_ + 1)).length = at_ + (n - (at_ + 1)) := by rw [List.length_append, List.length_take, List.length_drop, hn]; omega
  refine ⟨?_, by omega, ?_⟩
  · rw [length_splice _ _ _ (by rw [e1]; simp only [List.length_cons, List.length_nil]; omega), e1]
  · rw [e2, splice_take _ _ _ _ (Nat.le_refl _) (by rw [e1]; omega), splice_take2 _ _ _ _ (by omega) (by rw [hl1]; omega), flatO_app, Nat.zero_add]
    congr 1
    have := h.take
    rw [← flatO_take, ← this, List.take_take]
    congr 1
    omega

set_option maxHeartbeats 1000000 in
theorem delete_any (g at_ n cap : Nat) (ps : List Opd) (w : World) (B : Nat) (hB : B ≤ g) (hn : ps.length = n) (ha : at_ < n) (hc : n < cap) (hm : cap ≤ 4611686018427387903) (hO : Owns w g cap ps) :
    Calls Tryd.prog 46 #[.slice (some ⟨g, 0, none⟩) n cap, .int .i64 at_, .int .i64 ((at_ : Int) + 1)] w fun e w' => e = .returned (.slice (some ⟨g, 0, none⟩) (n - 1) cap) ∧ Below B w w' ∧ Owns w' g cap (ps.take at_ ++ ps.drop (at_ + 1)) := by
  obtain ⟨cur, hO⟩ := hO
  have HO := Lib.hid hO
  have Hn := Lib.hid hn
  clear hO hn
  obtain ⟨i0, hi, hz0, hz1, hz2⟩ := info_parts (show (Tryd.prog.info? 26).map (fun i => (i.zero, i.size, i.bytes)) = some (some (.agg #[.string ⟨#[]⟩, .int .i64 0, .int .i64 0]), 3, 32) by kernel_rfl)
  have hl : (flatO (ps.drop (at_ + 1))).length = (n - (at_ + 1)) * 3 := by rw [flatO_len, List.length_drop, Hn.out]
  have hcells : ∀ (j : Nat) (u : Value), (flatO (ps.drop (at_ + 1)))[j]? = some u → w.drew.cell? ((⟨g, (at_ + 1) * 3, none⟩ : Addr).add j) = some u := fun j u hu => by
    have e : (⟨g, (at_ + 1) * 3, none⟩ : Addr).add j = ⟨g, (at_ + 1) * 3 + j, none⟩ := HG.add_at _ _ _
    rw [e]
    refine HO.out.cell _ _ ?_
    rw [← flatO_drop, List.getElem?_drop] at hu
    exact hu
  have hfit : 0 + at_ * 3 + (flatO (ps.drop (at_ + 1))).length ≤ cur.length := by rw [hl, HO.out.len]; omega
  have hb4 : ¬ (cap = at_ + 1) := by omega
  have hne : ((at_ : Int) == (at_ : Int) + 1) = false := by simp; omega
  have b1 : at_ ≤ cap := by omega
  have b2 : at_ + 1 ≤ n := by omega
  have b3 : at_ + 1 ≤ cap := by omega
  have b4 : (0 : Int) ≤ (at_ : Int) + 1 := by omega
  have b6 : (at_ : Int) + 1 ≤ (n : Int) := by omega
  have b5 : ((at_ : Int) + 1).toNat = at_ + 1 := by omega
  have HL := Lib.hid hl
  have HCe := Lib.hid hcells
  have HF := Lib.hid hfit
  clear hl hcells hfit
  go_enter Tryd.func46, Tryd.ntmps46
  go_wp2_with fail
  go_region_law (refine HG.step_append_k rfl (.tmp 22) (.tmp 25) 23 rfl 26 i0 3 Tryd.underlying23 hi hz1 g 0 at_ cap (by simp [Act.eval, Act.put]) cur 26 HO.out.heap (some ⟨g, (at_ + 1) * 3, none⟩) (n - (at_ + 1)) (cap - (at_ + 1)) (by simp [Act.eval, Act.put]) (flatO (ps.drop (at_ + 1))) HL.out (fun _ => ⟨_, rfl, HCe.out⟩) (flatO_one _) (by omega) HF.out B w (Below.refl _ _).drew hB ?_; intro w3 hg3 ho3 hb3)
  have hz3 : (Builtin.zeroCells (Value.agg #[Value.string ⟨#[]⟩, Value.int IntKind.i64 0, Value.int IntKind.i64 0]).cells (n - (at_ + (n - (at_ + 1))))).toList = [.string ⟨#[]⟩, .int .i64 0, .int .i64 0] := by
    rw [show n - (at_ + (n - (at_ + 1))) = 1 by omega]; exact zero1
  have hf3 : (at_ + (n - (at_ + 1))) * 3 + [Value.string ⟨#[]⟩, Value.int IntKind.i64 0, Value.int IntKind.i64 0].length ≤ (splice cur (0 + at_ * 3) (flatO (ps.drop (at_ + 1)))).length := by
    rw [length_splice _ _ _ HF.out, HO.out.len]; simp only [List.length_cons, List.length_nil]; omega
  have hfin : Owned3 cur ps at_ n cap := owned3 HO.out Hn.out ha
  have HZ := Lib.hid hz3
  have HF3 := Lib.hid hf3
  have HN := Lib.hid hfin
  clear hz3 hf3 hfin
  go_wp2_with (refine HG.wpList_clear_k rfl (.tmp 31) 23 rfl 26 (.agg #[.string ⟨#[]⟩, .int .i64 0, .int .i64 0]) Tryd.underlying23 (fun w => by kernel_rfl) g ((at_ + (n - (at_ + 1))) * 3) (n - (at_ + (n - (at_ + 1)))) _ (by omega) rfl (splice cur (0 + at_ * 3) (flatO (ps.drop (at_ + 1)))) 26 hg3.out [.string ⟨#[]⟩, .int .i64 0, .int .i64 0] HZ.out (by intro v hv; simp at hv; rcases hv with rfl | rfl <;> rfl) HF3.out B w hb3 hB ?_; intro w4 hg4 ho4 hb4)
  go_ret
  exact ⟨ret_slice (by omega), hb4, _, hg4.out, HN.out.1, HN.out.2.1, HN.out.2.2⟩



theorem splice2 {α : Type} (cur X Y : List α) (a c : Nat) (hY : Y.length = c) (hf : a + c + X.length ≤ cur.length) :
    (splice (splice cur (a + c) X) a Y).take (a + c + X.length) = cur.take a ++ (Y ++ X) := by
  subst hY
  have e1 : (splice cur (a + Y.length) X).take a = cur.take a := splice_take _ _ _ _ (by omega) (by omega)
  have e2 : (splice cur (a + Y.length) X).drop (a + Y.length) = X ++ cur.drop (a + Y.length + X.length) := by
    simp only [splice]
    rw [List.drop_left' (by rw [List.length_take]; omega)]
  have e3 : splice (splice cur (a + Y.length) X) a Y = (cur.take a ++ (Y ++ X)) ++ cur.drop (a + Y.length + X.length) := by
    show (splice cur (a + Y.length) X).take a ++ (Y ++ (splice cur (a + Y.length) X).drop (a + Y.length)) = _
    rw [e1, e2]; simp
  rw [e3, List.take_left' (by simp only [List.length_append, List.length_take]; omega)]

theorem ins_len (ps : List Opd) (at_ : Nat) (p : Opd) (h : at_ ≤ ps.length) : (ins ps at_ p).length = ps.length + 1 := by
  simp only [ins, List.length_append, List.length_take, List.length_cons, List.length_drop]; omega

theorem own_end {w w' : World} {g cap : Nat} {ps : List Opd} {cur : List Value} (h : Own w g cap ps cur) (p : Opd) {n : Nat} (hn : ps.length = n) (hc : n < cap)
    (hg : w'.heap[g]? = some (.cells (splice cur (0 + n * 3) [.string p.1, .int .i64 p.2.1, .int .i64 p.2.2]).toArray 26 (0, 0))) : Owns w' g cap (ins ps n p) := by
  have hl := h.len
  have e0 : ins ps n p = ps ++ [p] := by simp [ins, List.take_of_length_le (Nat.le_of_eq hn), List.drop_eq_nil_of_le (Nat.le_of_eq hn)]
  refine ⟨_, hg, ?_, ?_, ?_⟩
  · rw [length_splice _ _ _ (by rw [hl]; simp only [List.length_cons, List.length_nil]; omega), hl]
  · rw [e0]; simp; omega
  · rw [e0, splice_take2 _ _ _ _ (by omega) (by simp; omega), flatO_app, Nat.zero_add, ← hn, h.take]
    rfl

theorem own_mid {w w' : World} {g cap : Nat} {ps : List Opd} {cur : List Value} (h : Own w g cap ps cur) (p : Opd) {at_ n : Nat} (hn : ps.length = n) (ha : at_ < n) (hc : n < cap)
    (hg : w'.heap[g]? = some (.cells (splice (splice cur ((at_ + 1) * 3) (flatO (ps.drop at_))) (at_ * 3) [.string p.1, .int .i64 p.2.1, .int .i64 p.2.2]).toArray 26 (0, 0))) : Owns w' g cap (ins ps at_ p) := by
  have hl := h.len
  have hd : (flatO (ps.drop at_)).length = (n - at_) * 3 := by rw [flatO_len, List.length_drop, hn]
  have hi := ins_len ps at_ p (by omega)
  have e1 : (splice cur ((at_ + 1) * 3) (flatO (ps.drop at_))).length = cap * 3 := by rw [length_splice _ _ _ (by rw [hd, hl]; omega), hl]
  refine ⟨_, hg, ?_, by omega, ?_⟩
  · rw [length_splice _ _ _ (by rw [e1]; simp only [List.length_cons, List.length_nil]; omega), e1]
  · rw [hi, hn, show (n + 1) * 3 = at_ * 3 + 3 + (flatO (ps.drop at_)).length by rw [hd]; omega, show (at_ + 1) * 3 = at_ * 3 + 3 by omega,
      splice2 cur _ _ (at_ * 3) 3 rfl (by rw [hd, hl]; omega)]
    have : ins ps at_ p = ps.take at_ ++ ([p] ++ ps.drop at_) := rfl
    rw [this, flatO_app, flatO_app]
    congr 1
    rw [← flatO_take, ← h.take, List.take_take]
    congr 1
    omega

set_option maxHeartbeats 1000000 in
theorem insert_end (g gv n cap : Nat) (ps : List Opd) (p : Opd) (w : World) (B : Nat) (hB : B ≤ g) (hn : ps.length = n) (hc : n < cap) (hm : cap ≤ 4611686018427387903) (hO : Owns w g cap ps)
    (hv : w.heap[gv]? = some (.cells #[.string p.1, .int .i64 p.2.1, .int .i64 p.2.2] 26 (0, 0))) :
    Calls Tryd.prog 47 #[.slice (some ⟨g, 0, none⟩) n cap, .int .i64 n, .slice (some ⟨gv, 0, none⟩) 1 1] w fun e w' => e = .returned (.slice (some ⟨g, 0, none⟩) (n + 1) cap) ∧ Below B w w' ∧ Owns w' g cap (ins ps n p) := by
  obtain ⟨cur, hO⟩ := hO
  have HO := Lib.hid hO
  have Hn := Lib.hid hn
  clear hO hn
  obtain ⟨i0, hi, hz0, hz1, hz2⟩ := info_parts (show (Tryd.prog.info? 26).map (fun i => (i.zero, i.size, i.bytes)) = some (some (.agg #[.string ⟨#[]⟩, .int .i64 0, .int .i64 0]), 3, 32) by kernel_rfl)
  have hcells : ∀ (j : Nat) (u : Value), [Value.string p.1, Value.int IntKind.i64 p.2.1, Value.int IntKind.i64 p.2.2][j]? = some u → w.cell? ((⟨gv, 0, none⟩ : Addr).add j) = some u := fun j u hu => by
    have e : (⟨gv, 0, none⟩ : Addr).add j = ⟨gv, j, none⟩ := by rw [HG.add_at, Nat.zero_add]
    rw [e, cell_of_row w gv j _ 26 (0, 0) hv]
    simpa using hu
  have HCe := Lib.hid hcells
  have HF : Hid (0 + n * 3 + [Value.string p.1, Value.int IntKind.i64 p.2.1, Value.int IntKind.i64 p.2.2].length ≤ cur.length) := by
    show _ ≤ _
    rw [HO.out.len]; simp only [List.length_cons, List.length_nil]; omega
  clear hcells hv
  go_enter Tryd.func47, Tryd.ntmps47
  go_wp2_with (at_builtin; refine HG.wpList_append_k rfl (.tmp 23) (.tmp 24) 23 rfl 26 i0 3 Tryd.underlying23 hi hz1 g 0 n cap rfl cur 26 HO.out.heap (some ⟨gv, 0, none⟩) 1 1 rfl [.string p.1, .int .i64 p.2.1, .int .i64 p.2.2] rfl (fun _ => ⟨_, rfl, HCe.out⟩) (by intro v hv; simp at hv; rcases hv with rfl | rfl | rfl <;> rfl) (by omega) HF.out B w (Below.refl _ _) hB ?_; intro w3 hg3 ho3 hb3)
  go_ret
  exact ⟨rfl, hb3, own_end HO.out p Hn.out hc hg3.out⟩

set_option maxRecDepth 100000 in
set_option maxHeartbeats 2000000 in
theorem insert_mid (g gv at_ n cap : Nat) (ps : List Opd) (p : Opd) (w : World) (B : Nat) (hB : B ≤ g) (hn : ps.length = n) (ha : at_ < n) (hc : n < cap) (hm : cap ≤ 4611686018427387903) (hO : Owns w g cap ps)
    (hv : w.heap[gv]? = some (.cells #[.string p.1, .int .i64 p.2.1, .int .i64 p.2.2] 26 (0, 0))) (hgv : gv ≠ g) :
    Calls Tryd.prog 47 #[.slice (some ⟨g, 0, none⟩) n cap, .int .i64 at_, .slice (some ⟨gv, 0, none⟩) 1 1] w fun e w' => e = .returned (.slice (some ⟨g, 0, none⟩) (n + 1) cap) ∧ Below B w w' ∧ Owns w' g cap (ins ps at_ p) := by
  obtain ⟨cur, hO⟩ := hO
  have HO := Lib.hid hO
  have Hn := Lib.hid hn
  clear hO hn
  have hov : ∀ lb cb, (callFunc 68 #[.slice (some ⟨gv, 0, none⟩) 1 1, .slice (some ⟨g, (at_ + 1) * 3, none⟩) lb cb]).run Tryd.prog w = .ok (.value (.bool false)) w := fun lb cb => by
    rw [run_callFunc_extern Tryd.func68 (by kernel_rfl) (by kernel_rfl) (by kernel_rfl) (e := Extern.SlicesOverlaps.overlaps #[23, 23] #[4]) (by kernel_rfl),
      Lib.run_overlaps_apart w 23 4 26 Tryd.underlying23 3 (fun w => by kernel_rfl) ⟨gv, 0, none⟩ ⟨g, (at_ + 1) * 3, none⟩ 1 1 lb cb hgv 26 26 3 (cap * 3) (by simp [World.shape?, hv]) (by simp [World.shape?, HO.out.heap, HO.out.len]) (by omega) (by simp [World.frozen?, hv]) (by simp [World.frozen?, hv])]
    rfl
  have hd : (flatO (ps.drop at_)).length = (n - at_) * 3 := by rw [flatO_len, List.length_drop, Hn.out]
  have hcp : ∀ (j : Nat) (u : Value), (flatO (ps.drop at_))[j]? = some u → w.drew.cell? ((⟨g, at_ * 3, none⟩ : Addr).add j) = some u := fun j u hu => by
    have e : (⟨g, at_ * 3, none⟩ : Addr).add j = ⟨g, at_ * 3 + j, none⟩ := HG.add_at _ _ _
    rw [e]
    refine HO.out.cell _ _ ?_
    rw [← flatO_drop, List.getElem?_drop] at hu
    exact hu
  have hmin1 : (flatO (ps.drop at_)).length = Nat.min (n + 1 - at_) (n - at_) * 3 := by
    rw [hd]
    rw [show Nat.min (n + 1 - at_) (n - at_) = n - at_ from Nat.min_eq_right (by omega)]
  have hmin2 : [Value.string p.1, Value.int IntKind.i64 p.2.1, Value.int IntKind.i64 p.2.2].length = Nat.min 1 (n + 1 - at_) * 3 := by
    rw [show Nat.min 1 (n + 1 - at_) = 1 from Nat.min_eq_left (by omega)]; rfl
  have hf1 : (at_ + 1) * 3 + (flatO (ps.drop at_)).length ≤ cur.length := by have := HO.out.len; omega
  have hf2 : at_ * 3 + [Value.string p.1, Value.int IntKind.i64 p.2.1, Value.int IntKind.i64 p.2.2].length ≤ (splice cur ((at_ + 1) * 3) (flatO (ps.drop at_))).length := by
    rw [length_splice _ _ _ hf1, HO.out.len]; simp only [List.length_cons, List.length_nil]; omega
  have hcv : ∀ w' : World, w'.heap[gv]? = w.heap[gv]? → ∀ (j : Nat) (u : Value), [Value.string p.1, Value.int IntKind.i64 p.2.1, Value.int IntKind.i64 p.2.2][j]? = some u → w'.cell? ((⟨gv, 0, none⟩ : Addr).add j) = some u := fun w' hw j u hu => by
    have e : (⟨gv, 0, none⟩ : Addr).add j = ⟨gv, j, none⟩ := by rw [HG.add_at, Nat.zero_add]
    rw [e, cell_of_row w' gv j _ 26 (0, 0) (hw.trans hv)]
    simpa using hu
  have HD := Lib.hid hd
  have HCp := Lib.hid hcp
  have HM1 := Lib.hid hmin1
  have HM2 := Lib.hid hmin2
  have HF1 := Lib.hid hf1
  have HF2 := Lib.hid hf2
  have HCv := Lib.hid hcv
  have Hov := Lib.hid hov
  have h1 : ¬ ((at_ : Int) = (n : Int)) := by omega
  have h2 : ¬ (cap = at_ + 1) := by omega
  have h3 : ¬ (cap = at_) := by omega
  have h4 : at_ + 1 ≤ n + 1 := by omega
  have h5 : at_ ≤ n + 1 := by omega
  have h6 : (at_ : Int) + 1 ≤ (n : Int) + 1 := by omega
  have h7 : (0 : Int) ≤ (at_ : Int) + 1 := by omega
  have h8 : ((at_ : Int) + 1).toNat = at_ + 1 := by omega
  have h9 : (at_ : Int) ≤ (n : Int) + 1 := by omega
  clear hd hcp hmin1 hmin2 hf1 hf2 hcv hv Hov
  go_enter Tryd.func47, Tryd.ntmps47
  go_wp2_with fail
  have hw1 : IntKind.i64.wrap ((at_ : Int) + 1) = (at_ : Int) + 1 := by rw [IntKind.wrap_i64]; omega
  go_region_law (refine HG.step_copy_k rfl (.tmp 73) (.tmp 76) 23 23 rfl 26 3 Tryd.underlying23 (by kernel_rfl) (some ⟨g, (at_ + 1) * 3, none⟩) (some ⟨g, at_ * 3, none⟩) (n - at_) (cap - (at_ + 1)) (n + 1 - at_) (cap - at_) (by simp [Act.eval, Act.put]) (by simp [Act.eval, Act.put]) g ((at_ + 1) * 3) cur 26 HO.out.heap (flatO (ps.drop at_)) HM1.out (fun _ => ⟨rfl, _, rfl, HCp.out⟩) HF1.out (flatO_one _) B w ((Below.refl _ _).drew) hB ?_; intro w3 hg3 ho3 hb3)
  clear hw1
  go_wp2_with (refine HG.wpList_copy_k rfl (.tmp 80) (.tmp 81) 23 23 rfl 26 3 Tryd.underlying23 (by kernel_rfl) (some ⟨g, at_ * 3, none⟩) (some ⟨gv, 0, none⟩) (n + 1 - at_) (cap - at_) 1 1 rfl rfl g (at_ * 3) (splice cur ((at_ + 1) * 3) (flatO (ps.drop at_))) 26 hg3.out [.string p.1, .int .i64 p.2.1, .int .i64 p.2.2] HM2.out (fun _ => ⟨rfl, _, rfl, HCv.out _ (ho3.out gv hgv)⟩) HF2.out (by intro v hv; simp at hv; rcases hv with rfl | rfl | rfl <;> rfl) B w hb3 hB ?_; intro w4 hg4 ho4 hb4)
  go_ret
  exact ⟨rfl, hb4, own_mid HO.out p Hn.out ha hc hg4.out⟩

theorem Owns.lt {w : World} {g cap : Nat} {ps : List Opd} (h : Owns w g cap ps) : g < w.heap.size := by
  obtain ⟨cur, h⟩ := h
  rcases Nat.lt_or_ge g w.heap.size with h' | h'
  · exact h'
  · have := h.heap; rw [Array.getElem?_eq_none h'] at this; cases this
theorem Owns.below {w w' : World} {g cap : Nat} {ps : List Opd} (h : Owns w g cap ps) (hb : Below w.heap.size w w') : Owns w' g cap ps := by
  have hl := h.lt
  obtain ⟨cur, h⟩ := h
  exact ⟨cur, (hb.block g hl).trans h.heap, h.len, h.le, h.take⟩
theorem Owns.alloc {w : World} {g cap : Nat} {ps : List Opd} (h : Owns w g cap ps) (o : Obj) : Owns (w.alloc o) g cap ps := h.below ((Below.refl _ _).alloc (Nat.le_refl _) o)
theorem Owns.le {w : World} {g cap : Nat} {ps : List Opd} (h : Owns w g cap ps) : ps.length ≤ cap := by obtain ⟨cur, h⟩ := h; exact h.le

theorem ret_sn {A : Option Addr} {a b c : Nat} {v : Value} (h : a = b) : Ending.returned (.tuple #[.slice A a c, v]) = .returned (.tuple #[.slice A b c, v]) := by rw [h]
theorem insert_any (g gv at_ n cap : Nat) (ps : List Opd) (p : Opd) (w : World) (B : Nat) (hB : B ≤ g) (hn : ps.length = n) (ha : at_ ≤ n) (hc : n < cap) (hm : cap ≤ 4611686018427387903) (hO : Owns w g cap ps)
    (hv : w.heap[gv]? = some (.cells #[.string p.1, .int .i64 p.2.1, .int .i64 p.2.2] 26 (0, 0))) (hgv : gv ≠ g) :
    Calls Tryd.prog 47 #[.slice (some ⟨g, 0, none⟩) n cap, .int .i64 at_, .slice (some ⟨gv, 0, none⟩) 1 1] w fun e w' => e = .returned (.slice (some ⟨g, 0, none⟩) (n + 1) cap) ∧ Below B w w' ∧ Owns w' g cap (ins ps at_ p) := by
  by_cases h : at_ = n
  · subst h; exact insert_end g gv at_ cap ps p w B hB hn hc hm hO hv
  · exact insert_mid g gv at_ n cap ps p w B hB hn (by omega) hc hm hO hv hgv


end Go.Proofs.YtkjkhhifkedflaaDoor
