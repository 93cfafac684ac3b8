/- The contract of slices.Delete at pairs, for one pair of a row of the caller's own. -/
import Derived.Test.YtcjpbomdnjmfkaaDoorA5
import Derived.Test.YtcjpbomdnjmfkaaDoorG
import Derived.Deep.RegionLaw
namespace Go.Proofs.YtcjpbomdnjmfkaaDoor
open Go.RowKit

def flat (ps : List (Int × Int)) : List Value := ps.flatMap fun p => [.int .i64 p.1, .int .i64 p.2]
theorem flat_len (ps : List (Int × Int)) : (flat ps).length = ps.length * 2 := by
  induction ps with
  | nil => rfl
  | cons p r ih => simp [flat] at ih ⊢; omega
theorem flat_app (a b : List (Int × Int)) : flat (a ++ b) = flat a ++ flat b := by simp [flat]
theorem flat_take (ps : List (Int × Int)) (k : Nat) : (flat ps).take (k * 2) = flat (ps.take k) := by
  by_cases hk : k ≤ ps.length
  · have h := flat_app (ps.take k) (ps.drop k)
    rw [List.take_append_drop] at h
    rw [h, List.take_left' (by rw [flat_len, List.length_take]; omega)]
  · rw [List.take_of_length_le (by rw [flat_len]; omega), List.take_of_length_le (by omega)]
theorem flat_drop (ps : List (Int × Int)) (k : Nat) : (flat ps).drop (k * 2) = flat (ps.drop k) := by
  by_cases hk : k ≤ ps.length
  · have h := flat_app (ps.take k) (ps.drop k)
    rw [List.take_append_drop] at h
    rw [h, List.drop_left' (by rw [flat_len, List.length_take]; omega)]
  · rw [List.drop_eq_nil_of_le (by rw [flat_len]; omega), List.drop_eq_nil_of_le (by omega)]; rfl
theorem flat_one (ps : List (Int × Int)) : ∀ v ∈ flat ps, v.oneCell' = true := by
  intro v hv
  simp only [flat, List.mem_flatMap] at hv
  obtain ⟨p, _, hv⟩ := hv
  simp at hv
  rcases hv with rfl | rfl <;> rfl
theorem flat_get (ps : List (Int × Int)) : ∀ (i : Nat) (p : Int × Int), ps[i]? = some p → (flat ps)[i * 2]? = some (.int .i64 p.1) ∧ (flat ps)[i * 2 + 1]? = some (.int .i64 p.2) := by
  induction ps with
  | nil => intro i p h; simp at h
  | cons q r ih =>
    intro i p h
    cases i with
    | zero => simp at h; subst h; exact ⟨rfl, rfl⟩
    | succ i =>
      have := ih i p (by simpa using h)
      have e : flat (q :: r) = .int .i64 q.1 :: .int .i64 q.2 :: flat r := rfl
      rw [e, show (i + 1) * 2 = i * 2 + 2 by omega]
      exact this

/-- Block g is a row of cap pairs' cells, the first of which are these pairs. -/
structure Own (w : World) (g cap : Nat) (ps : List (Int × Int)) (cur : List Value) : Prop where
  heap : w.heap[g]? = some (.cells cur.toArray 30 (0, 0))
  len : cur.length = cap * 2
  le : ps.length ≤ cap
  take : cur.take (ps.length * 2) = flat ps
def Owns (w : World) (g cap : Nat) (ps : List (Int × Int)) : Prop := ∃ cur, Own w g cap ps cur

theorem Own.cell {w : World} {g cap : Nat} {ps : List (Int × Int)} {cur : List Value} (h : Own w g cap ps cur) (j : Nat) (v : Value) (hv : (flat ps)[j]? = some v) : w.cell? ⟨g, j, none⟩ = some v := by
  rw [cell_of_row w g j cur.toArray 30 (0, 0) h.heap]
  rw [← h.take, List.getElem?_take] at hv
  split at hv
  · simpa using hv
  · cases hv
theorem Owns.pr {w : World} {g cap : Nat} {ps : List (Int × Int)} (h : Owns w g cap ps) : PR w (some ⟨g, 0, none⟩) ps := by
  obtain ⟨cur, h⟩ := h
  intro i p hp
  obtain ⟨h1, h2⟩ := flat_get ps i p hp
  refine ⟨g, 0, rfl, ?_, ?_⟩
  · rw [Nat.zero_add]; exact h.cell _ _ h1
  · rw [Nat.zero_add]; exact h.cell _ _ h2

theorem splice_take {α : Type} (L : List α) (off k : Nat) (cs : List α) (hk : k ≤ off) (ho : off ≤ L.length) : (splice L off cs).take k = L.take k := by
  simp only [splice]
  rw [List.take_append_of_le_length (by rw [List.length_take]; omega), List.take_take, Nat.min_eq_left hk]
theorem splice_take2 {α : Type} (L : List α) (off k : Nat) (cs : List α) (ho : off ≤ L.length) (hk : k = off + cs.length) : (splice L off cs).take k = L.take off ++ cs := by
  subst hk
  simp only [splice]
  rw [← List.append_assoc, List.take_left' (by rw [List.length_append, List.length_take]; omega)]

theorem zero1 : (Builtin.zeroCells (Value.agg #[Value.int IntKind.i64 0, Value.int IntKind.i64 0]).cells 1).toList = [.int .i64 0, .int .i64 0] := by kernel_rfl
theorem ret_slice {A : Option Addr} {a b c : Nat} (h : a = b) : Ending.returned (.slice A a c) = .returned (.slice A b c) := by rw [h]
/-- What the row holds behind Delete. -/
def Owned3 (cur : List Value) (ps : List (Int × Int)) (at_ n cap : Nat) : Prop :=
  (splice (splice cur (0 + at_ * 2) (flat (ps.drop (at_ + 1)))) ((at_ + (n - (at_ + 1))) * 2) [.int .i64 0, .int .i64 0]).length = cap * 2 ∧ (ps.take at_ ++ ps.drop (at_ + 1)).length ≤ cap ∧
  (splice (splice cur (0 + at_ * 2) (flat (ps.drop (at_ + 1)))) ((at_ + (n - (at_ + 1))) * 2) [.int .i64 0, .int .i64 0]).take ((ps.take at_ ++ ps.drop (at_ + 1)).length * 2) = flat (ps.take at_ ++ ps.drop (at_ + 1))
theorem owned3 {w : World} {g cap : Nat} {ps : List (Int × Int)} {cur : List Value} (h : Own w g cap ps cur) {at_ n : Nat} (hn : ps.length = n) (ha : at_ < n) : Owned3 cur ps at_ n cap := by
  have hl1 : (flat (ps.drop (at_ + 1))).length = (n - (at_ + 1)) * 2 := by rw [flat_len, List.length_drop, hn]
  have hle := h.le
  have hle2 := h.len
  have e1 : (splice cur (0 + at_ * 2) (flat (ps.drop (at_ + 1)))).length = cap * 2 := by rw [length_splice _ _ _ (by rw [hl1, hle2]; omega), hle2]
  have e2 : (ps.take at_ ++ ps.drop (at_ + 1)).length = at_ + (n - (at_ + 1)) := by rw [List.length_append, List.length_take, List.length_drop, hn]; omega
  refine ⟨?_, by omega, ?_⟩
  · rw [length_splice _ _ _ (by rw [e1]; simp only [List.length_cons, List.length_nil]; omega), e1]
  · rw [e2, splice_take _ _ _ _ (Nat.le_refl _) (by rw [e1]; omega), splice_take2 _ _ _ _ (by omega) (by rw [hl1]; omega), flat_app, Nat.zero_add]
    congr 1
    have := h.take
    rw [← flat_take, ← this, List.take_take]
    congr 1
    omega

set_option maxHeartbeats 1000000 in
theorem delete_any (g at_ n cap : Nat) (ps : List (Int × Int)) (w : World) (B : Nat) (hB : B ≤ g) (hn : ps.length = n) (ha : at_ < n) (hc : n < cap) (hm : cap ≤ 4611686018427387903) (hO : Owns w g cap ps) :
    Calls Tryd.prog 32 #[.slice (some ⟨g, 0, none⟩) n cap, .int .i64 at_, .int .i64 ((at_ : Int) + 1)] w fun e w' => e = .returned (.slice (some ⟨g, 0, none⟩) (n - 1) cap) ∧ Below B w w' ∧ Owns w' g cap (ps.take at_ ++ ps.drop (at_ + 1)) := by
  obtain ⟨cur, hO⟩ := hO
  have HO := Lib.hid hO
  have Hn := Lib.hid hn
  clear hO hn
  obtain ⟨i0, hi, hz0, hz1, hz2⟩ := info_parts (show (Tryd.prog.info? 30).map (fun i => (i.zero, i.size, i.bytes)) = some (some (.agg #[.int .i64 0, .int .i64 0]), 2, 16) by kernel_rfl)
  have hl : (flat (ps.drop (at_ + 1))).length = (n - (at_ + 1)) * 2 := by rw [flat_len, List.length_drop, Hn.out]
  have hcells : ∀ (j : Nat) (u : Value), (flat (ps.drop (at_ + 1)))[j]? = some u → w.drew.cell? ((⟨g, (at_ + 1) * 2, none⟩ : Addr).add j) = some u := fun j u hu => by
    have e : (⟨g, (at_ + 1) * 2, none⟩ : Addr).add j = ⟨g, (at_ + 1) * 2 + j, none⟩ := HG.add_at _ _ _
    rw [e]
    refine HO.out.cell _ _ ?_
    rw [← flat_drop, List.getElem?_drop] at hu
    exact hu
  have hfit : 0 + at_ * 2 + (flat (ps.drop (at_ + 1))).length ≤ cur.length := by rw [hl, HO.out.len]; omega
  have hb4 : ¬ (cap = at_ + 1) := by omega
  have hne : ((at_ : Int) == (at_ : Int) + 1) = false := by simp; omega
  have b1 : at_ ≤ cap := by omega
  have b2 : at_ + 1 ≤ n := by omega
  have b3 : at_ + 1 ≤ cap := by omega
  have b4 : (0 : Int) ≤ (at_ : Int) + 1 := by omega
  have b6 : (at_ : Int) + 1 ≤ (n : Int) := by omega
  have b5 : ((at_ : Int) + 1).toNat = at_ + 1 := by omega
  have HL := Lib.hid hl
  have HCe := Lib.hid hcells
  have HF := Lib.hid hfit
  clear hl hcells hfit
  go_enter Tryd.func32, Tryd.ntmps32
  go_wp2_with fail
  go_region_law (refine HG.step_append_k rfl (.tmp 22) (.tmp 25) 31 rfl 30 i0 2 Tryd.underlying31 hi hz1 g 0 at_ cap (by simp [Act.eval, Act.put]) cur 30 HO.out.heap (some ⟨g, (at_ + 1) * 2, none⟩) (n - (at_ + 1)) (cap - (at_ + 1)) (by simp [Act.eval, Act.put]) (flat (ps.drop (at_ + 1))) HL.out (fun _ => ⟨_, rfl, HCe.out⟩) (flat_one _) (by omega) HF.out B w (Below.refl _ _).drew hB ?_; intro w3 hg3 ho3 hb3)
  have hz3 : (Builtin.zeroCells (Value.agg #[Value.int IntKind.i64 0, Value.int IntKind.i64 0]).cells (n - (at_ + (n - (at_ + 1))))).toList = [.int .i64 0, .int .i64 0] := by
    rw [show n - (at_ + (n - (at_ + 1))) = 1 by omega]; exact zero1
  have hf3 : (at_ + (n - (at_ + 1))) * 2 + [Value.int IntKind.i64 0, Value.int IntKind.i64 0].length ≤ (splice cur (0 + at_ * 2) (flat (ps.drop (at_ + 1)))).length := by
    rw [length_splice _ _ _ HF.out, HO.out.len]; simp only [List.length_cons, List.length_nil]; omega
  have hfin : Owned3 cur ps at_ n cap := owned3 HO.out Hn.out ha
  have HZ := Lib.hid hz3
  have HF3 := Lib.hid hf3
  have HN := Lib.hid hfin
  clear hz3 hf3 hfin
  go_wp2_with (refine HG.wpList_clear_k rfl (.tmp 31) 31 rfl 30 (.agg #[.int .i64 0, .int .i64 0]) Tryd.underlying31 (fun w => by kernel_rfl) g ((at_ + (n - (at_ + 1))) * 2) (n - (at_ + (n - (at_ + 1)))) _ (by omega) rfl (splice cur (0 + at_ * 2) (flat (ps.drop (at_ + 1)))) 30 hg3.out [.int .i64 0, .int .i64 0] HZ.out (by intro v hv; simp at hv; subst hv; rfl) HF3.out B w hb3 hB ?_; intro w4 hg4 ho4 hb4)
  go_ret
  exact ⟨ret_slice (by omega), hb4, _, hg4.out, HN.out.1, HN.out.2.1, HN.out.2.2⟩

end Go.Proofs.YtcjpbomdnjmfkaaDoor
