/- The contract of the specification's number. -/
import Derived.Test.YteilodihjhdngaaRB
namespace Go.Proofs.Yteilodihjhdngaa
open Go.RowKit Go.Proofs.HT

def nb (xs : List Int) (n : Int) : Tm := .mk 0 (posF xs n 0) ⟨#[]⟩ []

end Go.Proofs.Yteilodihjhdngaa

/- The contracts of the specification's Size, Valid, Same, Vars, Clone. -/
namespace Go.Proofs.Yteilodihjhdngaa
open Go.RowKit Go.Proofs.HT

theorem below_box (w : World) (o : Obj) : Below w.heap.size w (w.alloc o) := (Below.refl _ _).alloc (Nat.le_refl _) _
/-- Behind a block laid: what the callee keeps of its own world it keeps of this one. -/
theorem below_over {w w1 w2 : World} (h : Below w.heap.size w w1) (k : Below w1.heap.size w1 w2) : Below w.heap.size w w2 := h.trans (k.mono h.size)

set_option maxHeartbeats 1000000 in
theorem size_any (t : Tm) (v : Value) (w : World) (h : LiesT w t v) : Calls Try.prog 54 #[tv t v] w fun e w' => e = .returned (.int .i64 (cntM t 2001)) ∧ Below w.heap.size w w' := by
  have HC : Hid (∀ o, Calls Try.prog 79 #[tv t v, .int .i64 2001] (w.alloc o) fun e w' => e = .returned (.int .i64 (cntM t 2001)) ∧ Below w.heap.size w w') := fun o =>
    (count_any t v 2001 (w.alloc o) (h.below (below_box w o)) (by omega) (by omega)).mono fun e w' he => ⟨he.1, below_over (below_box w o) he.2⟩
  cases t with
  | mk k n s ts =>
  simp only [tv, Tm.kind, Tm.num, Tm.name] at HC ⊢
  clear h
  go_enter Try.func54, Try.ntmps54
  go_wp2_with (go_at_call 79; refine (HC.out _).mono ?_; rintro e w1 ⟨rfl, hb⟩)
  go_ret
  exact ⟨rfl, hb⟩

theorem cntM_le (t : Tm) : cntM t 2001 ≤ 2000 ↔ cnt t ≤ 2000 := by
  unfold cntM; split <;> omega

set_option maxHeartbeats 1000000 in
theorem valid_any (t : Tm) (v : Value) (w : World) (h : LiesT w t v) : Calls Try.prog 51 #[tv t v] w fun e w' => e = .returned (.bool (validB t)) ∧ Below w.heap.size w w' := by
  have HC : Hid (∀ o, Calls Try.prog 54 #[tv t v] (w.alloc o) fun e w' => e = .returned (.int .i64 (cntM t 2001)) ∧ Below (w.alloc o).heap.size (w.alloc o) w') := fun o => size_any t v (w.alloc o) (h.below (below_box w o))
  have HN : Hid (∀ o w1, Below (w.alloc o).heap.size (w.alloc o) w1 → Calls Try.prog 77 #[tv t v] w1 fun e w' => e = .returned (.bool (nodesB t)) ∧ Below w1.heap.size w1 w') := fun o w1 hb => nodes_any t v w1 ((h.below (below_box w o)).below hb)
  have hm := cntM_bd t 2001 (by omega)
  cases t with
  | mk k n s ts =>
  simp only [tv, Tm.kind, Tm.num, Tm.name] at HC HN ⊢
  have C0 : Hid ((w.alloc (.cells #[.int .i64 k, .int .i64 n, .string s, v] 24)).heap[w.heap.size]? = some (.cells #[.int .i64 k, .int .i64 n, .string s, v] 24 (0, 0))) := heap_alloc_new w _
  obtain ⟨b, c, rfl⟩ := h.slice
  clear h
  by_cases hc : cnt (.mk k n s ts) ≤ 2000
  · have hq : cntM (.mk k n s ts) 2001 ≤ 2000 := (cntM_le _).2 hc
    have H : Hid (nodesB (.mk k n s ts) = validB (.mk k n s ts)) := by show _ = _; rw [validB, decide_eq_true hc, Bool.true_and]
    generalize cntM (.mk k n s ts) 2001 = q at *
    go_enter Try.func51, Try.ntmps51
    go_wp2_with (first
      | (go_at_call 54; refine (HC.out _).mono ?_; rintro e w1 ⟨rfl, hb⟩; have r := block_below hb C0.out
         have q0 : w1.cell? ⟨w.heap.size, 0, none⟩ = some (.int .i64 k) := by rw [cell_of_row _ _ _ _ _ _ r]; rfl
         have q1 : w1.cell? ⟨w.heap.size, 1, none⟩ = some (.int .i64 n) := by rw [cell_of_row _ _ _ _ _ _ r]; rfl
         have q2 : w1.cell? ⟨w.heap.size, 2, none⟩ = some (.string s) := by rw [cell_of_row _ _ _ _ _ _ r]; rfl
         have q3 : w1.cell? ⟨w.heap.size, 3, none⟩ = some (.slice b (Tm.args (.mk k n s ts)).length c) := by rw [cell_of_row _ _ _ _ _ _ r]; rfl)
      | (go_at_call 77; refine (HN.out _ _ hb).mono ?_; rintro e w2 ⟨rfl, hb2⟩))
    go_ret
    exact ⟨ret_bool H.out, below_over (below_over (below_box w _) hb) hb2⟩
  · have hq : ¬ cntM (.mk k n s ts) 2001 ≤ 2000 := fun h => hc ((cntM_le _).1 h)
    have H : Hid (false = validB (.mk k n s ts)) := by show _ = _; rw [validB, decide_eq_false hc, Bool.false_and]
    generalize cntM (.mk k n s ts) 2001 = q at *
    go_enter Try.func51, Try.ntmps51
    go_wp2_with (first | (go_at_call 54; refine (HC.out _).mono ?_; rintro e w1 ⟨rfl, hb⟩))
    go_ret
    exact ⟨ret_bool H.out, below_over (below_box w _) hb⟩

end Go.Proofs.Yteilodihjhdngaa

/- The contracts of the specification's Same, Vars, Clone. -/
namespace Go.Proofs.Yteilodihjhdngaa
open Go.RowKit Go.Proofs.HT

def sameV (t u : Tm) : Bool := validB t && validB u && sameB t u

set_option maxHeartbeats 1000000 in
theorem same_any (t u : Tm) (v x : Value) (w : World) (hv : LiesT w t v) (hx : LiesT w u x) : Calls Try.prog 70 #[tv t v, tv u x] w fun e w' => e = .returned (.bool (sameV t u)) ∧ Below w.heap.size w w' := by
  have A : Hid (∀ w1, Below w.heap.size w w1 → Calls Try.prog 51 #[tv t v] w1 fun e w' => e = .returned (.bool (validB t)) ∧ Below w1.heap.size w1 w') := fun w1 hb => valid_any t v w1 (hv.below hb)
  have B : Hid (∀ w1, Below w.heap.size w w1 → Calls Try.prog 51 #[tv u x] w1 fun e w' => e = .returned (.bool (validB u)) ∧ Below w1.heap.size w1 w') := fun w1 hb => valid_any u x w1 (hx.below hb)
  have C : Hid (∀ w1, Below w.heap.size w w1 → Calls Try.prog 83 #[tv t v, tv u x] w1 fun e w' => e = .returned (.bool (sameB t u)) ∧ Below w1.heap.size w1 w') := fun w1 hb => ident_any t u v x w1 (hv.below hb) (hx.below hb)
  have fr : Hid (∀ o p, Below w.heap.size w ((w.alloc o).alloc p)) := fun o p => (below_box w o).alloc (by simp) p
  cases t with
  | mk k n s ts =>
  cases u with
  | mk k' n' s' us =>
  obtain ⟨b, c, rfl⟩ := hv.slice
  obtain ⟨b', c', rfl⟩ := hx.slice
  simp only [tv, Tm.kind, Tm.num, Tm.name, Tm.args] at A B C ⊢
  clear hv hx
  have C1 : Hid (((w.alloc (.cells #[.int .i64 k, .int .i64 n, .string s, .slice b ts.length c] 24)).alloc (.cells #[.int .i64 k', .int .i64 n', .string s', .slice b' us.length c'] 24)).heap[w.heap.size]? = some (.cells #[.int .i64 k, .int .i64 n, .string s, .slice b ts.length c] 24 (0, 0))) := by
    show _ = _; rw [Below.heap_alloc _ _ _ (by simp), heap_alloc_new]
  have C2 : Hid (((w.alloc (.cells #[.int .i64 k, .int .i64 n, .string s, .slice b ts.length c] 24)).alloc (.cells #[.int .i64 k', .int .i64 n', .string s', .slice b' us.length c'] 24)).heap[w.heap.size + 1]? = some (.cells #[.int .i64 k', .int .i64 n', .string s', .slice b' us.length c'] 24 (0, 0))) := by
    have h := heap_alloc_new (w.alloc (.cells #[.int .i64 k, .int .i64 n, .string s, .slice b ts.length c] 24)) (.cells #[.int .i64 k', .int .i64 n', .string s', .slice b' us.length c'] 24)
    show _ = _; simpa using h
  have H : Hid (sameV (.mk k n s ts) (.mk k' n' s' us) = (validB (.mk k n s ts) && validB (.mk k' n' s' us) && sameB (.mk k n s ts) (.mk k' n' s' us))) := by show _ = _; rfl
  generalize sameV (.mk k n s ts) (.mk k' n' s' us) = r at *
  generalize validB (.mk k n s ts) = p at *
  generalize validB (.mk k' n' s' us) = q at *
  cases p
  · go_enter Try.func70, Try.ntmps70
    go_wp2_with (first | (go_at_call_of 51 (Value.agg #[.int .i64 k, .int .i64 n, .string s, .slice b ts.length c]); refine (A.out _ (fr.out _ _)).mono ?_; rintro e w1 ⟨rfl, hb⟩))
    go_ret
    exact ⟨ret_bool (by rw [H.out]; rfl), below_over (fr.out _ _) hb⟩
  · cases q
    · go_enter Try.func70, Try.ntmps70
      go_wp2_with (first
        | (go_at_call_of 51 (Value.agg #[.int .i64 k, .int .i64 n, .string s, .slice b ts.length c]); refine (A.out _ (fr.out _ _)).mono ?_; rintro e w1 ⟨rfl, hb⟩; have r2 := block_below hb C2.out; have HB1 := Lib.hid (below_over (fr.out _ _) hb); have Hb := Lib.hid hb; clear hb
           have q0 : w1.cell? ⟨w.heap.size + 1, 0, none⟩ = some (.int .i64 k') := by rw [cell_of_row _ _ _ _ _ _ r2]; rfl
           have q1 : w1.cell? ⟨w.heap.size + 1, 1, none⟩ = some (.int .i64 n') := by rw [cell_of_row _ _ _ _ _ _ r2]; rfl
           have q2 : w1.cell? ⟨w.heap.size + 1, 2, none⟩ = some (.string s') := by rw [cell_of_row _ _ _ _ _ _ r2]; rfl
           have q3 : w1.cell? ⟨w.heap.size + 1, 3, none⟩ = some (.slice b' us.length c') := by rw [cell_of_row _ _ _ _ _ _ r2]; rfl
           clear r2)
        | (go_at_call_of 51 (Value.agg #[.int .i64 k', .int .i64 n', .string s', .slice b' us.length c']); refine (B.out _ HB1.out).mono ?_; rintro e w2 ⟨rfl, hb2⟩))
      go_ret
      exact ⟨ret_bool (by rw [H.out]; rfl), below_over HB1.out hb2⟩
    · have Hr : Hid (sameB (.mk k n s ts) (.mk k' n' s' us) = r) := by show _ = _; rw [H.out]; rfl
      go_enter Try.func70, Try.ntmps70
      go_wp2_with (first
        | (go_at_call_of 51 (Value.agg #[.int .i64 k, .int .i64 n, .string s, .slice b ts.length c]); refine (A.out _ (fr.out _ _)).mono ?_; rintro e w1 ⟨rfl, hb⟩; have r1 := Lib.hid (block_below hb C1.out); have r2 := Lib.hid (block_below hb C2.out); have HB1 := Lib.hid (below_over (fr.out _ _) hb); clear hb
           have q0 : w1.cell? ⟨w.heap.size + 1, 0, none⟩ = some (.int .i64 k') := by rw [cell_of_row _ _ _ _ _ _ r2.out]; rfl
           have q1 : w1.cell? ⟨w.heap.size + 1, 1, none⟩ = some (.int .i64 n') := by rw [cell_of_row _ _ _ _ _ _ r2.out]; rfl
           have q2 : w1.cell? ⟨w.heap.size + 1, 2, none⟩ = some (.string s') := by rw [cell_of_row _ _ _ _ _ _ r2.out]; rfl
           have q3 : w1.cell? ⟨w.heap.size + 1, 3, none⟩ = some (.slice b' us.length c') := by rw [cell_of_row _ _ _ _ _ _ r2.out]; rfl)
        | (go_at_call_of 51 (Value.agg #[.int .i64 k', .int .i64 n', .string s', .slice b' us.length c']); refine (B.out _ HB1.out).mono ?_; rintro e w2 ⟨rfl, hb2⟩; have HB2 := Lib.hid (below_over HB1.out hb2); have s1 := block_below hb2 r1.out; have s2 := block_below hb2 r2.out; clear hb2
           have t0 : w2.cell? ⟨w.heap.size + 1, 0, none⟩ = some (.int .i64 k') := by rw [cell_of_row _ _ _ _ _ _ s2]; rfl
           have t1 : w2.cell? ⟨w.heap.size + 1, 1, none⟩ = some (.int .i64 n') := by rw [cell_of_row _ _ _ _ _ _ s2]; rfl
           have t2 : w2.cell? ⟨w.heap.size + 1, 2, none⟩ = some (.string s') := by rw [cell_of_row _ _ _ _ _ _ s2]; rfl
           have t3 : w2.cell? ⟨w.heap.size + 1, 3, none⟩ = some (.slice b' us.length c') := by rw [cell_of_row _ _ _ _ _ _ s2]; rfl
           have u0 : w2.cell? ⟨w.heap.size, 0, none⟩ = some (.int .i64 k) := by rw [cell_of_row _ _ _ _ _ _ s1]; rfl
           have u1 : w2.cell? ⟨w.heap.size, 1, none⟩ = some (.int .i64 n) := by rw [cell_of_row _ _ _ _ _ _ s1]; rfl
           have u2 : w2.cell? ⟨w.heap.size, 2, none⟩ = some (.string s) := by rw [cell_of_row _ _ _ _ _ _ s1]; rfl
           have u3 : w2.cell? ⟨w.heap.size, 3, none⟩ = some (.slice b ts.length c) := by rw [cell_of_row _ _ _ _ _ _ s1]; rfl)
        | (go_at_call 83; refine (C.out _ HB2.out).mono ?_; rintro e w3 ⟨rfl, hb3⟩))
      go_ret
      exact ⟨ret_bool Hr.out, below_over HB2.out hb3⟩

end Go.Proofs.Yteilodihjhdngaa
