/- The specification's Rename. -/
import Derived.Test.YteilodihjhdngaaRC
import Derived.Test.YteilodihjhdngaaSA
import Derived.Test.YteilodihjhdngaaIL
namespace Go.Proofs.Yteilodihjhdngaa
open Go.RowKit Go.Proofs.HT

/-- The result of Rename and its code. -/
def renR (t : Tm) (f : Int) : Tm × Int := if validB t = true ∧ numB f = true then (if decide (0 ≤ badF f (varsF [] t) 0) = true then (z0, 2) else (mapT (sh f) t, 0)) else (z0, 1)
/-- Two new boxes of four cells: what there is, and what is kept. -/
theorem boxes2 {w : World} {t : Tm} {v : Value} (h : LiesT w t v) (o1 o2 : Obj) : LiesT ((w.alloc o1).alloc o2) t v ∧ Below w.heap.size w ((w.alloc o1).alloc o2) ∧ ((w.alloc o1).alloc o2).heap[w.heap.size]? = some o1 ∧ ((w.alloc o1).alloc o2).heap[w.heap.size + 1]? = some o2 := by
  have hb : Below w.heap.size w ((w.alloc o1).alloc o2) := ((Below.refl w.heap.size w).alloc (Nat.le_refl _) _).alloc (by simp) _
  exact ⟨h.below hb, hb, by rw [Below.heap_alloc _ _ _ (by simp), heap_alloc_new], by have h := heap_alloc_new (w.alloc o1) o2; simpa using h⟩

end Go.Proofs.Yteilodihjhdngaa

/- The specification's Canon and Variant. -/
namespace Go.Proofs.Yteilodihjhdngaa
open Go.RowKit Go.Proofs.HT

end Go.Proofs.Yteilodihjhdngaa

/- The specification's Variant. -/
namespace Go.Proofs.Yteilodihjhdngaa
open Go.RowKit Go.Proofs.HT

end Go.Proofs.Yteilodihjhdngaa

/- The specification's Clone, valid, Var, Int, Atom, Struct. -/
namespace Go.Proofs.Yteilodihjhdngaa
open Go.RowKit Go.Proofs.HT

theorem valid_is (t : Tm) (v : Value) (b : Bool) (hb : validB t = b) (w : World) (h : LiesT w t v) : Calls Try.prog 51 #[tv t v] w fun e w' => e = .returned (.bool b) ∧ Below w.heap.size w w' := by
  subst hb; exact valid_any t v w h

set_option maxHeartbeats 2000000 in
theorem clone_no (t : Tm) (v : Value) (w : World) (h : LiesT w t v) (hval : validB t = false) : Calls Try.prog 52 #[tv t v] w (MadeEnd z0 w) := by
  have HX := Lib.hid (fun o1 o2 => boxes2 h o1 o2)
  have HVL := Lib.hid hval
  clear h hval
  simp only [tv]
  go_enter Try.func52, Try.ntmps52
  go_wp2_with fail
  refine (valid_is t v false HVL.out _ (HX.out _ _).1).mono ?_
  rintro e w1 ⟨rfl, hb1⟩
  have z1 : w.heap.size + 2 ≤ w1.heap.size := by have := hb1.size; simp at this; omega
  have K0 := Lib.hid ((hb1.block w.heap.size (by simp <;> omega)).trans (HX.out _ _).2.2.1)
  have K1 := Lib.hid ((hb1.block (w.heap.size + 1) (by simp)).trans (HX.out _ _).2.2.2)
  have B1 := Lib.hid ((HX.out _ _).2.1.trans (hb1.mono (by simp <;> omega)))
  clear hb1
  have c0 : w1.cell? ⟨w.heap.size + 1, 0, none⟩ = some (.int .i64 0) := by rw [cell_of_row _ _ _ _ _ _ K1.out]; rfl
  have c1 : w1.cell? ⟨w.heap.size + 1, 1, none⟩ = some (.int .i64 0) := by rw [cell_of_row _ _ _ _ _ _ K1.out]; rfl
  have c2 : w1.cell? ⟨w.heap.size + 1, 2, none⟩ = some (.string ⟨#[]⟩) := by rw [cell_of_row _ _ _ _ _ _ K1.out]; rfl
  have c3 : w1.cell? ⟨w.heap.size + 1, 3, none⟩ = some (.slice none 0 0) := by rw [cell_of_row _ _ _ _ _ _ K1.out]; rfl
  have cf0 := frozen_of_row _ _ 0 _ _ K1.out
  have cf1 := frozen_of_row _ _ 1 _ _ K1.out
  have cf2 := frozen_of_row _ _ 2 _ _ K1.out
  have cf3 := frozen_of_row _ _ 3 _ _ K1.out
  go_wp2_with fail
  have FO := four K1.out (.int .i64 0) (.int .i64 0) (.string ⟨#[]⟩) (.slice none 0 0)
  have PE := FO.2.2.2 _ _ (by omega) B1.out
  generalize ((((w1.setCell ⟨w.heap.size + 1, 0, none⟩ (.int .i64 0)).setCell ⟨w.heap.size + 1, 1, none⟩ (.int .i64 0)).setCell ⟨w.heap.size + 1, 2, none⟩ (.string ⟨#[]⟩)).setCell ⟨w.heap.size + 1, 3, none⟩ (.slice none 0 0)) = W3 at *
  have k0 : W3.cell? ⟨w.heap.size + 1, 0, none⟩ = some (.int .i64 0) := by rw [cell_of_row _ _ _ _ _ _ FO.1]; rfl
  have k1 : W3.cell? ⟨w.heap.size + 1, 1, none⟩ = some (.int .i64 0) := by rw [cell_of_row _ _ _ _ _ _ FO.1]; rfl
  have k2 : W3.cell? ⟨w.heap.size + 1, 2, none⟩ = some (.string ⟨#[]⟩) := by rw [cell_of_row _ _ _ _ _ _ FO.1]; rfl
  have k3 : W3.cell? ⟨w.heap.size + 1, 3, none⟩ = some (.slice none 0 0) := by rw [cell_of_row _ _ _ _ _ _ FO.1]; rfl
  exact bodyPost_ret (v := zv) (by simp [results, Try.results52, go_sem, k0, k1, k2, k3]) rfl ⟨.slice none 0 0, rfl, zero_own, PE⟩

set_option maxHeartbeats 2000000 in
theorem clone_yes (t : Tm) (v : Value) (w : World) (h : LiesT w t v) (hval : validB t = true) : Calls Try.prog 52 #[tv t v] w (MadeEnd t w) := by
  have HX := Lib.hid (fun o1 o2 => boxes2 h o1 o2)
  have HH := Lib.hid h
  have HVL := Lib.hid hval
  have HN := Lib.hid (validB_nodes hval)
  clear h hval
  simp only [tv]
  go_enter Try.func52, Try.ntmps52
  go_wp2_with fail
  refine (valid_is t v true HVL.out _ (HX.out _ _).1).mono ?_
  rintro e w1 ⟨rfl, hb1⟩
  have z1 : w.heap.size + 2 ≤ w1.heap.size := by have := hb1.size; simp at this; omega
  have K0 := Lib.hid ((hb1.block w.heap.size (by simp <;> omega)).trans (HX.out _ _).2.2.1)
  have K1 := Lib.hid ((hb1.block (w.heap.size + 1) (by simp)).trans (HX.out _ _).2.2.2)
  have B1 := Lib.hid ((HX.out _ _).2.1.trans (hb1.mono (by simp <;> omega)))
  clear hb1
  have p0 : w1.cell? ⟨w.heap.size, 0, none⟩ = some (.int .i64 t.kind) := by rw [cell_of_row _ _ _ _ _ _ K0.out]; rfl
  have p1 : w1.cell? ⟨w.heap.size, 1, none⟩ = some (.int .i64 t.num) := by rw [cell_of_row _ _ _ _ _ _ K0.out]; rfl
  have p2 : w1.cell? ⟨w.heap.size, 2, none⟩ = some (.string t.name) := by rw [cell_of_row _ _ _ _ _ _ K0.out]; rfl
  have p3 : w1.cell? ⟨w.heap.size, 3, none⟩ = some (v) := by rw [cell_of_row _ _ _ _ _ _ K0.out]; rfl
  go_wp2_with fail
  refine (copied_any t v w1 (HH.out.below B1.out) (by have := HN.out.2; omega)).mono ?_
  rintro e w3 ⟨y, rfl, hy, hb3⟩
  obtain ⟨ya, yc, rfl⟩ := hy.slice
  have K3 := Lib.hid ((hb3.block (w.heap.size + 1) (by omega)).trans K1.out)
  have B3 := Lib.hid (B1.out.trans (hb3.mono B1.out.size))
  have HY := Lib.hid hy
  clear hb3 hy
  have c0 : w3.cell? ⟨w.heap.size + 1, 0, none⟩ = some (.int .i64 0) := by rw [cell_of_row _ _ _ _ _ _ K3.out]; rfl
  have c1 : w3.cell? ⟨w.heap.size + 1, 1, none⟩ = some (.int .i64 0) := by rw [cell_of_row _ _ _ _ _ _ K3.out]; rfl
  have c2 : w3.cell? ⟨w.heap.size + 1, 2, none⟩ = some (.string ⟨#[]⟩) := by rw [cell_of_row _ _ _ _ _ _ K3.out]; rfl
  have c3 : w3.cell? ⟨w.heap.size + 1, 3, none⟩ = some (.slice none 0 0) := by rw [cell_of_row _ _ _ _ _ _ K3.out]; rfl
  have cf0 := frozen_of_row _ _ 0 _ _ K3.out
  have cf1 := frozen_of_row _ _ 1 _ _ K3.out
  have cf2 := frozen_of_row _ _ 2 _ _ K3.out
  have cf3 := frozen_of_row _ _ 3 _ _ K3.out
  go_wp2_with fail
  have FO := four K3.out (.int .i64 t.kind) (.int .i64 t.num) (.string t.name) (.slice ya t.args.length yc)
  have PE := made_end (T := t) B3.out (HY.out.keep (fun _ _ => rfl) (fun b hb _ => ⟨by have := hb.1; omega, hb.2⟩)) K3.out _ rfl
  generalize ((((w3.setCell ⟨w.heap.size + 1, 0, none⟩ (.int .i64 t.kind)).setCell ⟨w.heap.size + 1, 1, none⟩ (.int .i64 t.num)).setCell ⟨w.heap.size + 1, 2, none⟩ (.string t.name)).setCell ⟨w.heap.size + 1, 3, none⟩ (.slice ya t.args.length yc)) = W3 at *
  have k0 : W3.cell? ⟨w.heap.size + 1, 0, none⟩ = some (.int .i64 t.kind) := by rw [cell_of_row _ _ _ _ _ _ FO.1]; rfl
  have k1 : W3.cell? ⟨w.heap.size + 1, 1, none⟩ = some (.int .i64 t.num) := by rw [cell_of_row _ _ _ _ _ _ FO.1]; rfl
  have k2 : W3.cell? ⟨w.heap.size + 1, 2, none⟩ = some (.string t.name) := by rw [cell_of_row _ _ _ _ _ _ FO.1]; rfl
  have k3 : W3.cell? ⟨w.heap.size + 1, 3, none⟩ = some (.slice ya t.args.length yc) := by rw [cell_of_row _ _ _ _ _ _ FO.1]; rfl
  exact bodyPost_ret (v := tv t (.slice ya t.args.length yc)) (by simp [results, Try.results52, go_sem, k0, k1, k2, k3]) rfl PE

theorem clone_any (t : Tm) (v : Value) (w : World) (h : LiesT w t v) : Calls Try.prog 52 #[tv t v] w (MadeV t w) := by
  unfold MadeV
  rcases Bool.eq_false_or_eq_true (validB t) with hv | hv
  · rw [if_pos hv]; exact clone_yes t v w h hv
  · rw [if_neg (by rw [hv]; simp)]; exact clone_no t v w h hv

end Go.Proofs.Yteilodihjhdngaa

/- The specification's valid, Var, Int, Atom, Struct. -/
namespace Go.Proofs.Yteilodihjhdngaa
open Go.RowKit Go.Proofs.HT

set_option maxHeartbeats 2000000 in
theorem rvalid_any (t : Tm) (v : Value) (w : World) (h : LiesT w t v) : Calls Try.prog 80 #[tv t v] w (MadeV t w) := by
  obtain ⟨Q, hQ⟩ : ∃ Q, (if validB t = true then t else z0) = Q := ⟨_, rfl⟩
  have HX := Lib.hid (fun o1 o2 => boxes2 h o1 o2)
  have HC : Hid (∀ w1, LiesT w1 t v → Calls Try.prog 52 #[tv t v] w1 (MadeEnd Q w1)) := by show ∀ w1, _; intro w1 h1; have h2 := clone_any t v w1 h1; unfold MadeV at h2; rw [hQ] at h2; exact h2
  unfold MadeV
  rw [hQ]
  clear h hQ
  simp only [tv]
  go_enter Try.func80, Try.ntmps80
  go_wp2_with fail
  refine (HC.out _ (HX.out _ _).1).mono ?_
  rintro e w3 ⟨y, rfl, hy, hb3⟩
  obtain ⟨ya, yc, rfl⟩ := hy.slice
  have z3 : w.heap.size + 2 ≤ w3.heap.size := by have := hb3.size; simp at this; omega
  have K3 := Lib.hid ((hb3.block (w.heap.size + 1) (by simp)).trans (HX.out _ _).2.2.2)
  have B3 := Lib.hid ((HX.out _ _).2.1.trans (hb3.mono (by simp <;> omega)))
  have HY := Lib.hid hy
  clear hb3 hy
  have c0 : w3.cell? ⟨w.heap.size + 1, 0, none⟩ = some (.int .i64 0) := by rw [cell_of_row _ _ _ _ _ _ K3.out]; rfl
  have c1 : w3.cell? ⟨w.heap.size + 1, 1, none⟩ = some (.int .i64 0) := by rw [cell_of_row _ _ _ _ _ _ K3.out]; rfl
  have c2 : w3.cell? ⟨w.heap.size + 1, 2, none⟩ = some (.string ⟨#[]⟩) := by rw [cell_of_row _ _ _ _ _ _ K3.out]; rfl
  have c3 : w3.cell? ⟨w.heap.size + 1, 3, none⟩ = some (.slice none 0 0) := by rw [cell_of_row _ _ _ _ _ _ K3.out]; rfl
  have cf0 := frozen_of_row _ _ 0 _ _ K3.out
  have cf1 := frozen_of_row _ _ 1 _ _ K3.out
  have cf2 := frozen_of_row _ _ 2 _ _ K3.out
  have cf3 := frozen_of_row _ _ 3 _ _ K3.out
  go_wp2_with fail
  have FO := four K3.out (.int .i64 Q.kind) (.int .i64 Q.num) (.string Q.name) (.slice ya Q.args.length yc)
  have PE := made_end (T := Q) B3.out (HY.out.keep (fun _ _ => rfl) (fun b hb _ => ⟨by have := hb.1; simp at this; omega, hb.2⟩)) K3.out _ rfl
  generalize ((((w3.setCell ⟨w.heap.size + 1, 0, none⟩ (.int .i64 Q.kind)).setCell ⟨w.heap.size + 1, 1, none⟩ (.int .i64 Q.num)).setCell ⟨w.heap.size + 1, 2, none⟩ (.string Q.name)).setCell ⟨w.heap.size + 1, 3, none⟩ (.slice ya Q.args.length yc)) = W3 at *
  have k0 : W3.cell? ⟨w.heap.size + 1, 0, none⟩ = some (.int .i64 Q.kind) := by rw [cell_of_row _ _ _ _ _ _ FO.1]; rfl
  have k1 : W3.cell? ⟨w.heap.size + 1, 1, none⟩ = some (.int .i64 Q.num) := by rw [cell_of_row _ _ _ _ _ _ FO.1]; rfl
  have k2 : W3.cell? ⟨w.heap.size + 1, 2, none⟩ = some (.string Q.name) := by rw [cell_of_row _ _ _ _ _ _ FO.1]; rfl
  have k3 : W3.cell? ⟨w.heap.size + 1, 3, none⟩ = some (.slice ya Q.args.length yc) := by rw [cell_of_row _ _ _ _ _ _ FO.1]; rfl
  exact bodyPost_ret (v := tv Q (.slice ya Q.args.length yc)) (by simp [results, Try.results80, go_sem, k0, k1, k2, k3]) rfl PE

end Go.Proofs.Yteilodihjhdngaa
