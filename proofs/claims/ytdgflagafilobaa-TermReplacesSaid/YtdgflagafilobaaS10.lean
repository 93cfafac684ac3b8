/- The program's Rename. -/
import Derived.Test.YtdgflagafilobaaS9
namespace Go.Proofs.Ytdgflagafilobaa
open Go.RowKit Go.Proofs.HT

theorem rows3 (w : World) (o1 o2 o3 : Obj) : (((w.alloc o1).alloc o2).alloc o3).heap[w.heap.size]? = some o1 ∧ (((w.alloc o1).alloc o2).alloc o3).heap[w.heap.size + 1]? = some o2 ∧ (((w.alloc o1).alloc o2).alloc o3).heap[w.heap.size + 1 + 1]? = some o3 := by
  refine ⟨?_, ?_, ?_⟩
  · rw [Below.heap_alloc _ _ _ (by simp <;> omega), Below.heap_alloc _ _ _ (by simp), heap_alloc_new]
  · rw [Below.heap_alloc _ _ _ (by simp)]
    have h := heap_alloc_new (w.alloc o1) o2; simpa using h
  · have h := heap_alloc_new ((w.alloc o1).alloc o2) o3; simpa using h

theorem varsF_num (t : Tm) : nodesB t = true → ∀ xs : List Int, (∀ x ∈ xs, numB x = true) → ∀ x ∈ varsF xs t, numB x = true := by
  induction t using Tm.ind with
  | h k n s ts ih =>
    intro h xs hxs
    have hn := nodes_at h
    have key : ∀ (l : List Tm), (∀ t ∈ l, ∀ xs : List Int, (∀ x ∈ xs, numB x = true) → ∀ x ∈ varsF xs t, numB x = true) → ∀ xs : List Int, (∀ x ∈ xs, numB x = true) → ∀ x ∈ varsL xs l, numB x = true := by
      intro l
      induction l with
      | nil => intro _ xs h; exact h
      | cons y l ih2 => intro h xs hxs; rw [varsL]; exact ih2 (fun z hz => h z (by simp [hz])) _ (h y (by simp) xs hxs)
    rw [varsF]
    refine key ts (fun t ht => by obtain ⟨i, hi, rfl⟩ := List.getElem_of_mem ht; exact ih _ ht (hn.2 i hi)) _ ?_
    split
    · rename_i hc
      intro x hx
      rw [List.mem_append, List.mem_singleton] at hx
      rcases hx with hx | rfl
      · exact hxs x hx
      · obtain ⟨rfl, _⟩ := hc
        have := node_var hn.1
        exact numB_iff.2 ⟨this.1, this.2.1⟩
    · exact hxs

/-- A term of the call's own and an error code. -/
def MadeE (t : Tm) (c : Int) (w : World) (e : Ending) (w' : World) : Prop := ∃ v, e = .returned (.tuple #[tv t v, .int .i64 c]) ∧ OwnT (fun b => w.heap.size ≤ b ∧ b < w'.heap.size) w' t v ∧ Below w.heap.size w w'
def z0 : Tm := .mk 0 0 ⟨#[]⟩ []
theorem zero_own {S : Nat → Prop} {w : World} : OwnT S w z0 (.slice none 0 0) := vr_own (n := 0) ⟨by omega, by omega⟩

set_option maxHeartbeats 1000000 in
theorem Rename_invalid (t : Tm) (v : Value) (f : Int) (w : World) (h : LiesT w t v) (hval : validB t = false) : Calls Try.prog 14 #[tv t v, .int .i64 f] w (MadeE z0 1 w) := by
  have HH := Lib.hid h
  have HB : Hid (∀ o1 o2 o3, Below w.heap.size w (((w.alloc o1).alloc o2).alloc o3)) := fun o1 o2 o3 => (((Below.refl w.heap.size w).alloc (Nat.le_refl _) _).alloc (by simp) _).alloc (by simp <;> omega) _
  have HL : Hid (∀ o1 o2 o3, LiesT (((w.alloc o1).alloc o2).alloc o3) t v) := fun o1 o2 o3 => HH.out.below (HB.out o1 o2 o3)
  have HR : Hid (∀ o1 o2 o3, (((w.alloc o1).alloc o2).alloc o3).heap[w.heap.size]? = some o1 ∧ (((w.alloc o1).alloc o2).alloc o3).heap[w.heap.size + 1]? = some o2 ∧ (((w.alloc o1).alloc o2).alloc o3).heap[w.heap.size + 1 + 1]? = some o3) := fun o1 o2 o3 => rows3 w o1 o2 o3
  have HVL := Lib.hid hval
  clear h hval
  simp only [tv]
  go_enter Try.func14, Try.ntmps14
  go_wp2_with (first
    | (go_at_call 29; refine (Valid_any t v _ (HL.out _ _ _)).mono ?_; rintro e w1 ⟨rfl, hb1⟩; have z1 : w.heap.size + 3 ≤ w1.heap.size := (by have := hb1.size; simp at this; omega); have K0 := Lib.hid ((hb1.block w.heap.size (by simp <;> omega)).trans (HR.out _ _ _).1); have KF := Lib.hid ((hb1.block (w.heap.size + 1) (by simp <;> omega)).trans (HR.out _ _ _).2.1); have K1 := Lib.hid ((hb1.block (w.heap.size + 1 + 1) (by simp)).trans (HR.out _ _ _).2.2); have B1 := Lib.hid ((HB.out _ _ _).trans (hb1.mono (by simp <;> omega))); have hv1 := HVL.out; have pf : w1.cell? ⟨w.heap.size + 1, 0, none⟩ = some (.int .i64 f) := (by rw [cell_of_row _ _ _ _ _ _ KF.out]; rfl); have p0 : w1.cell? ⟨w.heap.size, 0, none⟩ = some (.int .i64 t.kind) := (by rw [cell_of_row _ _ _ _ _ _ K0.out]; rfl); have p1 : w1.cell? ⟨w.heap.size, 1, none⟩ = some (.int .i64 t.num) := (by rw [cell_of_row _ _ _ _ _ _ K0.out]; rfl); have p2 : w1.cell? ⟨w.heap.size, 2, none⟩ = some (.string t.name) := (by rw [cell_of_row _ _ _ _ _ _ K0.out]; rfl); have p3 : w1.cell? ⟨w.heap.size, 3, none⟩ = some (v) := (by rw [cell_of_row _ _ _ _ _ _ K0.out]; rfl); have c0 : w1.cell? ⟨w.heap.size + 1 + 1, 0, none⟩ = some (.int .i64 0) := (by rw [cell_of_row _ _ _ _ _ _ K1.out]; rfl); have c1 : w1.cell? ⟨w.heap.size + 1 + 1, 1, none⟩ = some (.int .i64 0) := (by rw [cell_of_row _ _ _ _ _ _ K1.out]; rfl); have c2 : w1.cell? ⟨w.heap.size + 1 + 1, 2, none⟩ = some (.string ⟨#[]⟩) := (by rw [cell_of_row _ _ _ _ _ _ K1.out]; rfl); have c3 : w1.cell? ⟨w.heap.size + 1 + 1, 3, none⟩ = some (.slice none 0 0) := (by rw [cell_of_row _ _ _ _ _ _ K1.out]; rfl); have cf0 := frozen_of_row _ _ 0 _ _ K1.out; have cf1 := frozen_of_row _ _ 1 _ _ K1.out; have cf2 := frozen_of_row _ _ 2 _ _ K1.out; have cf3 := frozen_of_row _ _ 3 _ _ K1.out; clear hb1))
  have FO := four K1.out (.int .i64 0) (.int .i64 0) (.string ⟨#[]⟩) (.slice none 0 0)
  have PE := FO.2.2.2 _ _ (by omega) B1.out
  generalize ((((w1.setCell ⟨w.heap.size + 1 + 1, 0, none⟩ (.int .i64 0)).setCell ⟨w.heap.size + 1 + 1, 1, none⟩ (.int .i64 0)).setCell ⟨w.heap.size + 1 + 1, 2, none⟩ (.string ⟨#[]⟩)).setCell ⟨w.heap.size + 1 + 1, 3, none⟩ (.slice none 0 0)) = W3 at *
  have k0 : W3.cell? ⟨w.heap.size + 1 + 1, 0, none⟩ = some (.int .i64 0) := by rw [cell_of_row _ _ _ _ _ _ FO.1]; rfl
  have k1 : W3.cell? ⟨w.heap.size + 1 + 1, 1, none⟩ = some (.int .i64 0) := by rw [cell_of_row _ _ _ _ _ _ FO.1]; rfl
  have k2 : W3.cell? ⟨w.heap.size + 1 + 1, 2, none⟩ = some (.string ⟨#[]⟩) := by rw [cell_of_row _ _ _ _ _ _ FO.1]; rfl
  have k3 : W3.cell? ⟨w.heap.size + 1 + 1, 3, none⟩ = some (.slice none 0 0) := by rw [cell_of_row _ _ _ _ _ _ FO.1]; rfl
  exact bodyPost_ret (v := .tuple #[zv, .int .i64 1]) (by simp [results, Try.results14, go_sem, k0, k1, k2, k3]) rfl ⟨.slice none 0 0, rfl, zero_own, PE⟩

set_option maxHeartbeats 1000000 in
theorem Rename_number (t : Tm) (v : Value) (f : Int) (w : World) (h : LiesT w t v) (hval : validB t = true) (hf : numB f = false) : Calls Try.prog 14 #[tv t v, .int .i64 f] w (MadeE z0 1 w) := by
  have HH := Lib.hid h
  have HB : Hid (∀ o1 o2 o3, Below w.heap.size w (((w.alloc o1).alloc o2).alloc o3)) := fun o1 o2 o3 => (((Below.refl w.heap.size w).alloc (Nat.le_refl _) _).alloc (by simp) _).alloc (by simp <;> omega) _
  have HL : Hid (∀ o1 o2 o3, LiesT (((w.alloc o1).alloc o2).alloc o3) t v) := fun o1 o2 o3 => HH.out.below (HB.out o1 o2 o3)
  have HR : Hid (∀ o1 o2 o3, (((w.alloc o1).alloc o2).alloc o3).heap[w.heap.size]? = some o1 ∧ (((w.alloc o1).alloc o2).alloc o3).heap[w.heap.size + 1]? = some o2 ∧ (((w.alloc o1).alloc o2).alloc o3).heap[w.heap.size + 1 + 1]? = some o3) := fun o1 o2 o3 => rows3 w o1 o2 o3
  have HVL := Lib.hid hval
  clear h hval
  simp only [tv]
  go_enter Try.func14, Try.ntmps14
  go_wp2_with (first
    | (go_at_call 29; refine (Valid_any t v _ (HL.out _ _ _)).mono ?_; rintro e w1 ⟨rfl, hb1⟩; have z1 : w.heap.size + 3 ≤ w1.heap.size := (by have := hb1.size; simp at this; omega); have K0 := Lib.hid ((hb1.block w.heap.size (by simp <;> omega)).trans (HR.out _ _ _).1); have KF := Lib.hid ((hb1.block (w.heap.size + 1) (by simp <;> omega)).trans (HR.out _ _ _).2.1); have K1 := Lib.hid ((hb1.block (w.heap.size + 1 + 1) (by simp)).trans (HR.out _ _ _).2.2); have B1 := Lib.hid ((HB.out _ _ _).trans (hb1.mono (by simp <;> omega))); have hv1 := HVL.out; have pf : w1.cell? ⟨w.heap.size + 1, 0, none⟩ = some (.int .i64 f) := (by rw [cell_of_row _ _ _ _ _ _ KF.out]; rfl); have p0 : w1.cell? ⟨w.heap.size, 0, none⟩ = some (.int .i64 t.kind) := (by rw [cell_of_row _ _ _ _ _ _ K0.out]; rfl); have p1 : w1.cell? ⟨w.heap.size, 1, none⟩ = some (.int .i64 t.num) := (by rw [cell_of_row _ _ _ _ _ _ K0.out]; rfl); have p2 : w1.cell? ⟨w.heap.size, 2, none⟩ = some (.string t.name) := (by rw [cell_of_row _ _ _ _ _ _ K0.out]; rfl); have p3 : w1.cell? ⟨w.heap.size, 3, none⟩ = some (v) := (by rw [cell_of_row _ _ _ _ _ _ K0.out]; rfl); have c0 : w1.cell? ⟨w.heap.size + 1 + 1, 0, none⟩ = some (.int .i64 0) := (by rw [cell_of_row _ _ _ _ _ _ K1.out]; rfl); have c1 : w1.cell? ⟨w.heap.size + 1 + 1, 1, none⟩ = some (.int .i64 0) := (by rw [cell_of_row _ _ _ _ _ _ K1.out]; rfl); have c2 : w1.cell? ⟨w.heap.size + 1 + 1, 2, none⟩ = some (.string ⟨#[]⟩) := (by rw [cell_of_row _ _ _ _ _ _ K1.out]; rfl); have c3 : w1.cell? ⟨w.heap.size + 1 + 1, 3, none⟩ = some (.slice none 0 0) := (by rw [cell_of_row _ _ _ _ _ _ K1.out]; rfl); have cf0 := frozen_of_row _ _ 0 _ _ K1.out; have cf1 := frozen_of_row _ _ 1 _ _ K1.out; have cf2 := frozen_of_row _ _ 2 _ _ K1.out; have cf3 := frozen_of_row _ _ 3 _ _ K1.out; clear hb1)
    | (go_at_call 43; refine (isNumber_any _ _).mono ?_; rintro e w' ⟨rfl, rfl⟩))
  have FO := four K1.out (.int .i64 0) (.int .i64 0) (.string ⟨#[]⟩) (.slice none 0 0)
  have PE := FO.2.2.2 _ _ (by omega) B1.out
  generalize ((((w1.setCell ⟨w.heap.size + 1 + 1, 0, none⟩ (.int .i64 0)).setCell ⟨w.heap.size + 1 + 1, 1, none⟩ (.int .i64 0)).setCell ⟨w.heap.size + 1 + 1, 2, none⟩ (.string ⟨#[]⟩)).setCell ⟨w.heap.size + 1 + 1, 3, none⟩ (.slice none 0 0)) = W3 at *
  have k0 : W3.cell? ⟨w.heap.size + 1 + 1, 0, none⟩ = some (.int .i64 0) := by rw [cell_of_row _ _ _ _ _ _ FO.1]; rfl
  have k1 : W3.cell? ⟨w.heap.size + 1 + 1, 1, none⟩ = some (.int .i64 0) := by rw [cell_of_row _ _ _ _ _ _ FO.1]; rfl
  have k2 : W3.cell? ⟨w.heap.size + 1 + 1, 2, none⟩ = some (.string ⟨#[]⟩) := by rw [cell_of_row _ _ _ _ _ _ FO.1]; rfl
  have k3 : W3.cell? ⟨w.heap.size + 1 + 1, 3, none⟩ = some (.slice none 0 0) := by rw [cell_of_row _ _ _ _ _ _ FO.1]; rfl
  exact bodyPost_ret (v := .tuple #[zv, .int .i64 1]) (by simp [results, Try.results14, go_sem, k0, k1, k2, k3]) rfl ⟨.slice none 0 0, rfl, zero_own, PE⟩

set_option maxHeartbeats 2000000 in
theorem Rename_long (t : Tm) (v : Value) (f : Int) (w : World) (h : LiesT w t v) (hval : validB t = true) (hf : numB f = true) (hbad : decide (0 ≤ badF f (varsF [] t) 0) = true) : Calls Try.prog 14 #[tv t v, .int .i64 f] w (MadeE z0 2 w) := by
  have HH := Lib.hid h
  have HB : Hid (∀ o1 o2 o3, Below w.heap.size w (((w.alloc o1).alloc o2).alloc o3)) := fun o1 o2 o3 => (((Below.refl w.heap.size w).alloc (Nat.le_refl _) _).alloc (by simp) _).alloc (by simp <;> omega) _
  have HL : Hid (∀ o1 o2 o3, LiesT (((w.alloc o1).alloc o2).alloc o3) t v) := fun o1 o2 o3 => HH.out.below (HB.out o1 o2 o3)
  have HR : Hid (∀ o1 o2 o3, (((w.alloc o1).alloc o2).alloc o3).heap[w.heap.size]? = some o1 ∧ (((w.alloc o1).alloc o2).alloc o3).heap[w.heap.size + 1]? = some o2 ∧ (((w.alloc o1).alloc o2).alloc o3).heap[w.heap.size + 1 + 1]? = some o3) := fun o1 o2 o3 => rows3 w o1 o2 o3
  have HVL := Lib.hid hval
  have HX : Hid (∀ x ∈ varsF [] t, numB x = true) := varsF_num t (validB_nodes hval).1 [] (by simp)
  have HF := Lib.hid hf
  clear h hval
  simp only [tv]
  go_enter Try.func14, Try.ntmps14
  go_wp2_with (first
    | (go_at_call 29; refine (Valid_any t v _ (HL.out _ _ _)).mono ?_; rintro e w1 ⟨rfl, hb1⟩; have z1 : w.heap.size + 3 ≤ w1.heap.size := (by have := hb1.size; simp at this; omega); have K0 := Lib.hid ((hb1.block w.heap.size (by simp <;> omega)).trans (HR.out _ _ _).1); have KF := Lib.hid ((hb1.block (w.heap.size + 1) (by simp <;> omega)).trans (HR.out _ _ _).2.1); have K1 := Lib.hid ((hb1.block (w.heap.size + 1 + 1) (by simp)).trans (HR.out _ _ _).2.2); have B1 := Lib.hid ((HB.out _ _ _).trans (hb1.mono (by simp <;> omega))); have hv1 := HVL.out; have pf : w1.cell? ⟨w.heap.size + 1, 0, none⟩ = some (.int .i64 f) := (by rw [cell_of_row _ _ _ _ _ _ KF.out]; rfl); have p0 : w1.cell? ⟨w.heap.size, 0, none⟩ = some (.int .i64 t.kind) := (by rw [cell_of_row _ _ _ _ _ _ K0.out]; rfl); have p1 : w1.cell? ⟨w.heap.size, 1, none⟩ = some (.int .i64 t.num) := (by rw [cell_of_row _ _ _ _ _ _ K0.out]; rfl); have p2 : w1.cell? ⟨w.heap.size, 2, none⟩ = some (.string t.name) := (by rw [cell_of_row _ _ _ _ _ _ K0.out]; rfl); have p3 : w1.cell? ⟨w.heap.size, 3, none⟩ = some (v) := (by rw [cell_of_row _ _ _ _ _ _ K0.out]; rfl); clear hb1)
    | (go_at_call 43; refine (isNumber_any _ _).mono ?_; rintro e w' ⟨rfl, rfl⟩)
    | (go_at_call 31; refine (Vars_yes t v _ (HH.out.below B1.out) HVL.out).mono ?_; rintro e w2 ⟨x, rfl, hrow, hb2⟩; have HROW := Lib.hid hrow; have K2F := Lib.hid ((hb2.block (w.heap.size + 1) (by omega)).trans KF.out); have K2 := Lib.hid ((hb2.block (w.heap.size + 1 + 1) (by omega)).trans K1.out); have K20 := Lib.hid ((hb2.block w.heap.size (by omega)).trans K0.out); have B2 := Lib.hid (B1.out.trans (hb2.mono B1.out.size)); have hf2 : w2.cell? ⟨w.heap.size + 1, 0, none⟩ = some (.int .i64 f) := (by rw [cell_of_row _ _ _ _ _ _ K2F.out]; rfl); have pp0 : w2.cell? ⟨w.heap.size, 0, none⟩ = some (.int .i64 t.kind) := (by rw [cell_of_row _ _ _ _ _ _ K20.out]; rfl); have pp1 : w2.cell? ⟨w.heap.size, 1, none⟩ = some (.int .i64 t.num) := (by rw [cell_of_row _ _ _ _ _ _ K20.out]; rfl); have pp2 : w2.cell? ⟨w.heap.size, 2, none⟩ = some (.string t.name) := (by rw [cell_of_row _ _ _ _ _ _ K20.out]; rfl); have pp3 : w2.cell? ⟨w.heap.size, 3, none⟩ = some (v) := (by rw [cell_of_row _ _ _ _ _ _ K20.out]; rfl); have c0 : w2.cell? ⟨w.heap.size + 1 + 1, 0, none⟩ = some (.int .i64 0) := (by rw [cell_of_row _ _ _ _ _ _ K2.out]; rfl); have c1 : w2.cell? ⟨w.heap.size + 1 + 1, 1, none⟩ = some (.int .i64 0) := (by rw [cell_of_row _ _ _ _ _ _ K2.out]; rfl); have c2 : w2.cell? ⟨w.heap.size + 1 + 1, 2, none⟩ = some (.string ⟨#[]⟩) := (by rw [cell_of_row _ _ _ _ _ _ K2.out]; rfl); have c3 : w2.cell? ⟨w.heap.size + 1 + 1, 3, none⟩ = some (.slice none 0 0) := (by rw [cell_of_row _ _ _ _ _ _ K2.out]; rfl); have cf0 := frozen_of_row _ _ 0 _ _ K2.out; have cf1 := frozen_of_row _ _ 1 _ _ K2.out; have cf2 := frozen_of_row _ _ 2 _ _ K2.out; have cf3 := frozen_of_row _ _ 3 _ _ K2.out; clear hb2 hrow)
    | (go_at_call 44; refine (contf_own f (w.heap.size + 1) HF.out HX.out hf2 HROW.out).mono ?_; rintro e w' ⟨rfl, rfl⟩))
  have FO := four K2.out (.int .i64 0) (.int .i64 0) (.string ⟨#[]⟩) (.slice none 0 0)
  have PE := FO.2.2.2 _ _ (by omega) B2.out
  generalize ((((w2.setCell ⟨w.heap.size + 1 + 1, 0, none⟩ (.int .i64 0)).setCell ⟨w.heap.size + 1 + 1, 1, none⟩ (.int .i64 0)).setCell ⟨w.heap.size + 1 + 1, 2, none⟩ (.string ⟨#[]⟩)).setCell ⟨w.heap.size + 1 + 1, 3, none⟩ (.slice none 0 0)) = W3 at *
  have k0 : W3.cell? ⟨w.heap.size + 1 + 1, 0, none⟩ = some (.int .i64 0) := by rw [cell_of_row _ _ _ _ _ _ FO.1]; rfl
  have k1 : W3.cell? ⟨w.heap.size + 1 + 1, 1, none⟩ = some (.int .i64 0) := by rw [cell_of_row _ _ _ _ _ _ FO.1]; rfl
  have k2 : W3.cell? ⟨w.heap.size + 1 + 1, 2, none⟩ = some (.string ⟨#[]⟩) := by rw [cell_of_row _ _ _ _ _ _ FO.1]; rfl
  have k3 : W3.cell? ⟨w.heap.size + 1 + 1, 3, none⟩ = some (.slice none 0 0) := by rw [cell_of_row _ _ _ _ _ _ FO.1]; rfl
  exact bodyPost_ret (v := .tuple #[zv, .int .i64 2]) (by simp [results, Try.results14, go_sem, k0, k1, k2, k3]) rfl ⟨.slice none 0 0, rfl, zero_own, PE⟩

theorem made_e {w w2 : World} {b c : Nat} {T : Tm} {y : Value} {n : Int} {a0 a1 a2 a3 : Value} (hc : w.heap.size ≤ b) (hcb : b < c) (hb : Below w.heap.size w w2) (hy : OwnT (fun b => c ≤ b ∧ b < w2.heap.size) w2 T y) (h : w2.heap[b]? = some (.cells #[a0, a1, a2, a3] 24 (0, 0)))
    (w3 : World) (e : w3 = ((((w2.setCell ⟨b, 0, none⟩ (.int .i64 T.kind)).setCell ⟨b, 1, none⟩ (.int .i64 T.num)).setCell ⟨b, 2, none⟩ (.string T.name)).setCell ⟨b, 3, none⟩ y)) :
    MadeE T n w (.returned (.tuple #[tv T y, .int .i64 n])) w3 := by
  obtain ⟨F1, F2, F3, F4⟩ := four h (.int .i64 T.kind) (.int .i64 T.num) (.string T.name) y
  rw [← e] at F1 F2 F3 F4
  exact ⟨y, rfl, hy.keep (fun b hb => F2 b (by omega)) (fun b hb _ => ⟨by omega, by omega⟩), F4 _ _ hc hb⟩

set_option maxHeartbeats 2000000 in
theorem Rename_yes (t : Tm) (v : Value) (f : Int) (w : World) (h : LiesT w t v) (hval : validB t = true) (hf : numB f = true) (hbad : decide (0 ≤ badF f (varsF [] t) 0) = false) : Calls Try.prog 14 #[tv t v, .int .i64 f] w (MadeE (mapT (sh f) t) 0 w) := by
  have HN := Lib.hid (validB_nodes hval).1
  have HBAD : Hid (∀ x ∈ varsF [] t, numB (x + f) = true) := by
    have h1 := badF_iff f (varsF [] t) 0
    simp only [decide_eq_false_iff_not] at hbad
    intro x hx
    rcases Bool.eq_false_or_eq_true (numB (x + f)) with h | h
    · exact h
    · exact absurd (h1.2 (fun h2 => by rw [h2 x hx] at h; cases h)) hbad
  have HH := Lib.hid h
  have HB : Hid (∀ o1 o2 o3, Below w.heap.size w (((w.alloc o1).alloc o2).alloc o3)) := fun o1 o2 o3 => (((Below.refl w.heap.size w).alloc (Nat.le_refl _) _).alloc (by simp) _).alloc (by simp <;> omega) _
  have HL : Hid (∀ o1 o2 o3, LiesT (((w.alloc o1).alloc o2).alloc o3) t v) := fun o1 o2 o3 => HH.out.below (HB.out o1 o2 o3)
  have HR : Hid (∀ o1 o2 o3, (((w.alloc o1).alloc o2).alloc o3).heap[w.heap.size]? = some o1 ∧ (((w.alloc o1).alloc o2).alloc o3).heap[w.heap.size + 1]? = some o2 ∧ (((w.alloc o1).alloc o2).alloc o3).heap[w.heap.size + 1 + 1]? = some o3) := fun o1 o2 o3 => rows3 w o1 o2 o3
  have HVL := Lib.hid hval
  have HX : Hid (∀ x ∈ varsF [] t, numB x = true) := varsF_num t (validB_nodes hval).1 [] (by simp)
  have HF := Lib.hid hf
  clear h hval
  simp only [tv]
  go_enter Try.func14, Try.ntmps14
  go_wp2_with (first
    | (go_at_call 29; refine (Valid_any t v _ (HL.out _ _ _)).mono ?_; rintro e w1 ⟨rfl, hb1⟩; have z1 : w.heap.size + 3 ≤ w1.heap.size := (by have := hb1.size; simp at this; omega); have K0 := Lib.hid ((hb1.block w.heap.size (by simp <;> omega)).trans (HR.out _ _ _).1); have KF := Lib.hid ((hb1.block (w.heap.size + 1) (by simp <;> omega)).trans (HR.out _ _ _).2.1); have K1 := Lib.hid ((hb1.block (w.heap.size + 1 + 1) (by simp)).trans (HR.out _ _ _).2.2); have B1 := Lib.hid ((HB.out _ _ _).trans (hb1.mono (by simp <;> omega))); have hv1 := HVL.out; have pf : w1.cell? ⟨w.heap.size + 1, 0, none⟩ = some (.int .i64 f) := (by rw [cell_of_row _ _ _ _ _ _ KF.out]; rfl); have p0 : w1.cell? ⟨w.heap.size, 0, none⟩ = some (.int .i64 t.kind) := (by rw [cell_of_row _ _ _ _ _ _ K0.out]; rfl); have p1 : w1.cell? ⟨w.heap.size, 1, none⟩ = some (.int .i64 t.num) := (by rw [cell_of_row _ _ _ _ _ _ K0.out]; rfl); have p2 : w1.cell? ⟨w.heap.size, 2, none⟩ = some (.string t.name) := (by rw [cell_of_row _ _ _ _ _ _ K0.out]; rfl); have p3 : w1.cell? ⟨w.heap.size, 3, none⟩ = some (v) := (by rw [cell_of_row _ _ _ _ _ _ K0.out]; rfl); clear hb1)
    | (go_at_call 43; refine (isNumber_any _ _).mono ?_; rintro e w' ⟨rfl, rfl⟩)
    | (go_at_call 31; refine (Vars_yes t v _ (HH.out.below B1.out) HVL.out).mono ?_; rintro e w2 ⟨x, rfl, hrow, hb2⟩; have HROW := Lib.hid hrow; have K2F := Lib.hid ((hb2.block (w.heap.size + 1) (by omega)).trans KF.out); have K2 := Lib.hid ((hb2.block (w.heap.size + 1 + 1) (by omega)).trans K1.out); have K20 := Lib.hid ((hb2.block w.heap.size (by omega)).trans K0.out); have B2 := Lib.hid (B1.out.trans (hb2.mono B1.out.size)); have hf2 : w2.cell? ⟨w.heap.size + 1, 0, none⟩ = some (.int .i64 f) := (by rw [cell_of_row _ _ _ _ _ _ K2F.out]; rfl); have pp0 : w2.cell? ⟨w.heap.size, 0, none⟩ = some (.int .i64 t.kind) := (by rw [cell_of_row _ _ _ _ _ _ K20.out]; rfl); have pp1 : w2.cell? ⟨w.heap.size, 1, none⟩ = some (.int .i64 t.num) := (by rw [cell_of_row _ _ _ _ _ _ K20.out]; rfl); have pp2 : w2.cell? ⟨w.heap.size, 2, none⟩ = some (.string t.name) := (by rw [cell_of_row _ _ _ _ _ _ K20.out]; rfl); have pp3 : w2.cell? ⟨w.heap.size, 3, none⟩ = some (v) := (by rw [cell_of_row _ _ _ _ _ _ K20.out]; rfl); clear hb2 hrow)
    | (go_at_call 44; refine (contf_own f (w.heap.size + 1) HF.out HX.out hf2 HROW.out).mono ?_; rintro e w' ⟨rfl, rfl⟩)
    | (go_at_call 46; refine (subst_rename (V1 f (w.heap.size + 1)) (V1_keep _ _) w (fun g => g = w.heap.size + 1) (sh f) (varsF [] t) (.pointer (some ⟨w.heap.size + 1, 0, none⟩)) (rename_put f (w.heap.size + 1) w (varsF [] t) _ HBAD.out (numB_iff.1 HF.out).1 (numB_iff.1 HF.out).2) t v [] _ HH.out ⟨fun g => Iff.rfl, K2F.out⟩ B2.out HN.out (List.prefix_refl _)).mono ?_; rintro e w3 ⟨y, rfl, hy, _, hz3, hf3, hb3⟩; obtain ⟨ya, yc, rfl⟩ := hy.slice; have K3 := Lib.hid ((hf3 (w.heap.size + 1 + 1) (by have := (Array.getElem?_eq_some_iff.1 K2.out).1; omega) (by omega)).trans K2.out); have KB := Lib.hid hb3; have KY := Lib.hid hy; have KZ : Hid (w.heap.size + 3 ≤ w2.heap.size) := (Array.getElem?_eq_some_iff.1 K2.out).1; have d0 : w3.cell? ⟨w.heap.size + 1 + 1, 0, none⟩ = some (.int .i64 0) := (by rw [cell_of_row _ _ _ _ _ _ K3.out]; rfl); have d1 : w3.cell? ⟨w.heap.size + 1 + 1, 1, none⟩ = some (.int .i64 0) := (by rw [cell_of_row _ _ _ _ _ _ K3.out]; rfl); have d2 : w3.cell? ⟨w.heap.size + 1 + 1, 2, none⟩ = some (.string ⟨#[]⟩) := (by rw [cell_of_row _ _ _ _ _ _ K3.out]; rfl); have d3 : w3.cell? ⟨w.heap.size + 1 + 1, 3, none⟩ = some (.slice none 0 0) := (by rw [cell_of_row _ _ _ _ _ _ K3.out]; rfl); have df0 := frozen_of_row _ _ 0 _ _ K3.out; have df1 := frozen_of_row _ _ 1 _ _ K3.out; have df2 := frozen_of_row _ _ 2 _ _ K3.out; have df3 := frozen_of_row _ _ 3 _ _ K3.out; clear hb3 hy hz3 hf3))
  have FO := four K3.out (.int .i64 (mapT (sh f) t).kind) (.int .i64 (mapT (sh f) t).num) (.string (mapT (sh f) t).name) (.slice ya (mapT (sh f) t).args.length yc)
  have PE := made_e (n := 0) (T := mapT (sh f) t) (c := w2.heap.size) (by omega) (by have := KZ.out; omega) KB.out KY.out K3.out _ rfl
  generalize ((((w3.setCell ⟨w.heap.size + 1 + 1, 0, none⟩ (.int .i64 (mapT (sh f) t).kind)).setCell ⟨w.heap.size + 1 + 1, 1, none⟩ (.int .i64 (mapT (sh f) t).num)).setCell ⟨w.heap.size + 1 + 1, 2, none⟩ (.string (mapT (sh f) t).name)).setCell ⟨w.heap.size + 1 + 1, 3, none⟩ (.slice ya (mapT (sh f) t).args.length yc)) = W3 at *
  have k0 : W3.cell? ⟨w.heap.size + 1 + 1, 0, none⟩ = some (.int .i64 (mapT (sh f) t).kind) := by rw [cell_of_row _ _ _ _ _ _ FO.1]; rfl
  have k1 : W3.cell? ⟨w.heap.size + 1 + 1, 1, none⟩ = some (.int .i64 (mapT (sh f) t).num) := by rw [cell_of_row _ _ _ _ _ _ FO.1]; rfl
  have k2 : W3.cell? ⟨w.heap.size + 1 + 1, 2, none⟩ = some (.string (mapT (sh f) t).name) := by rw [cell_of_row _ _ _ _ _ _ FO.1]; rfl
  have k3 : W3.cell? ⟨w.heap.size + 1 + 1, 3, none⟩ = some (.slice ya (mapT (sh f) t).args.length yc) := by rw [cell_of_row _ _ _ _ _ _ FO.1]; rfl
  exact bodyPost_ret (v := .tuple #[.agg #[.int .i64 (mapT (sh f) t).kind, .int .i64 (mapT (sh f) t).num, .string (mapT (sh f) t).name, .slice ya (mapT (sh f) t).args.length yc], .int .i64 0]) (by simp [results, Try.results14, go_sem, k0, k1, k2, k3]) rfl PE

end Go.Proofs.Ytdgflagafilobaa
