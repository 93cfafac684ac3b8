/- The program's Clone and Canon. -/
import Derived.Test.YtehnhjhflaljhaaDoorS7
namespace Go.Proofs.YtehnhjhflaljhaaDoor
open Go.RowKit Go.Proofs.HT

theorem validB_nodes {t : Tm} (h : validB t = true) : nodesB t = true ∧ cnt t ≤ 2000 := by unfold validB at h; simp at h; exact ⟨h.2, h.1⟩
/-- A term is stored in the result's cell, the second block of the call. -/
theorem made_end {w w2 : World} {T : Tm} {y : Value} {a0 a1 a2 a3 : Value} (hb : Below w.heap.size w w2) (hy : OwnT (fun b => w.heap.size + 2 ≤ b ∧ b < w2.heap.size) w2 T y) (h : w2.heap[w.heap.size + 1]? = some (.cells #[a0, a1, a2, a3] 24 (0, 0)))
    (w3 : World) (e : w3 = ((((w2.setCell ⟨w.heap.size + 1, 0, none⟩ (.int .i64 T.kind)).setCell ⟨w.heap.size + 1, 1, none⟩ (.int .i64 T.num)).setCell ⟨w.heap.size + 1, 2, none⟩ (.string T.name)).setCell ⟨w.heap.size + 1, 3, none⟩ y)) :
    MadeEnd T w (.returned (tv T y)) w3 := by
  obtain ⟨F1, F2, F3, F4⟩ := four h (.int .i64 T.kind) (.int .i64 T.num) (.string T.name) y
  rw [← e] at F1 F2 F3 F4
  exact ⟨y, rfl, hy.keep (fun b hb => F2 b (by omega)) (fun b hb _ => ⟨by omega, by omega⟩), F4 _ _ (by omega) hb⟩

set_option maxHeartbeats 1000000 in
theorem Clone_no (t : Tm) (v : Value) (w : World) (h : LiesT w t v) (hval : validB t = false) : Calls Tryd.prog 68 #[tv t v] w fun e w' => e = .returned zv ∧ Below w.heap.size w w' := by
  have HH := Lib.hid h
  have HB : Hid (∀ o1 o2, Below w.heap.size w ((w.alloc o1).alloc o2)) := fun o1 o2 => ((Below.refl w.heap.size w).alloc (Nat.le_refl _) _).alloc (by simp) _
  have HL : Hid (∀ o1 o2, LiesT ((w.alloc o1).alloc o2) t v) := fun o1 o2 => HH.out.below (HB.out o1 o2)
  have HR : Hid (∀ o1 o2, ((w.alloc o1).alloc o2).heap[w.heap.size]? = some o1 ∧ ((w.alloc o1).alloc o2).heap[w.heap.size + 1]? = some o2) := fun o1 o2 => ⟨by rw [Below.heap_alloc _ _ _ (by simp), heap_alloc_new], by have h := heap_alloc_new (w.alloc o1) o2; simpa using h⟩
  have HVL := Lib.hid hval
  clear h hval
  simp only [tv]
  go_enter Tryd.func68, Tryd.ntmps68
  go_wp2_with (go_at_call 36; refine (Valid_any t v _ (HL.out _ _)).mono ?_; rintro e w1 ⟨rfl, hb1⟩; have z1 : w.heap.size + 2 ≤ w1.heap.size := (by have := hb1.size; simp at this; omega); have z0 : w.heap.size < w1.heap.size := (by omega); have K0 := Lib.hid ((hb1.block w.heap.size (by simp; omega)).trans (HR.out _ _).1); have K1 := Lib.hid ((hb1.block (w.heap.size + 1) (by simp)).trans (HR.out _ _).2); have B1 := Lib.hid ((HB.out _ _).trans (hb1.mono (by simp; omega))); have hv1 := HVL.out; have p0 : w1.cell? ⟨w.heap.size, 0, none⟩ = some (.int .i64 t.kind) := (by rw [cell_of_row _ _ _ _ _ _ K0.out]; rfl); have p1 : w1.cell? ⟨w.heap.size, 1, none⟩ = some (.int .i64 t.num) := (by rw [cell_of_row _ _ _ _ _ _ K0.out]; rfl); have p2 : w1.cell? ⟨w.heap.size, 2, none⟩ = some (.string t.name) := (by rw [cell_of_row _ _ _ _ _ _ K0.out]; rfl); have p3 : w1.cell? ⟨w.heap.size, 3, none⟩ = some (v) := (by rw [cell_of_row _ _ _ _ _ _ K0.out]; rfl); have c0 : w1.cell? ⟨w.heap.size + 1, 0, none⟩ = some (.int .i64 0) := (by rw [cell_of_row _ _ _ _ _ _ K1.out]; rfl); have c1 : w1.cell? ⟨w.heap.size + 1, 1, none⟩ = some (.int .i64 0) := (by rw [cell_of_row _ _ _ _ _ _ K1.out]; rfl); have c2 : w1.cell? ⟨w.heap.size + 1, 2, none⟩ = some (.string ⟨#[]⟩) := (by rw [cell_of_row _ _ _ _ _ _ K1.out]; rfl); have c3 : w1.cell? ⟨w.heap.size + 1, 3, none⟩ = some (.slice none 0 0) := (by rw [cell_of_row _ _ _ _ _ _ K1.out]; rfl); have cf0 := frozen_of_row _ _ 0 _ _ K1.out; have cf1 := frozen_of_row _ _ 1 _ _ K1.out; have cf2 := frozen_of_row _ _ 2 _ _ K1.out; have cf3 := frozen_of_row _ _ 3 _ _ K1.out; clear hb1)
  have FO := four K1.out (.int .i64 0) (.int .i64 0) (.string ⟨#[]⟩) (.slice none 0 0)
  have PE := FO.2.2.2 _ _ (by omega) B1.out
  generalize ((((w1.setCell ⟨w.heap.size + 1, 0, none⟩ (.int .i64 0)).setCell ⟨w.heap.size + 1, 1, none⟩ (.int .i64 0)).setCell ⟨w.heap.size + 1, 2, none⟩ (.string ⟨#[]⟩)).setCell ⟨w.heap.size + 1, 3, none⟩ (.slice none 0 0)) = W3 at *
  have k0 : W3.cell? ⟨w.heap.size + 1, 0, none⟩ = some (.int .i64 0) := by rw [cell_of_row _ _ _ _ _ _ FO.1]; rfl
  have k1 : W3.cell? ⟨w.heap.size + 1, 1, none⟩ = some (.int .i64 0) := by rw [cell_of_row _ _ _ _ _ _ FO.1]; rfl
  have k2 : W3.cell? ⟨w.heap.size + 1, 2, none⟩ = some (.string ⟨#[]⟩) := by rw [cell_of_row _ _ _ _ _ _ FO.1]; rfl
  have k3 : W3.cell? ⟨w.heap.size + 1, 3, none⟩ = some (.slice none 0 0) := by rw [cell_of_row _ _ _ _ _ _ FO.1]; rfl
  exact bodyPost_ret (v := zv) (by simp [results, Tryd.results68, go_sem, k0, k1, k2, k3]) rfl ⟨rfl, PE⟩

set_option maxHeartbeats 1000000 in
theorem Clone_yes (t : Tm) (v : Value) (w : World) (h : LiesT w t v) (hval : validB t = true) : Calls Tryd.prog 68 #[tv t v] w (MadeEnd t w) := by
  have HH := Lib.hid h
  have HB : Hid (∀ o1 o2, Below w.heap.size w ((w.alloc o1).alloc o2)) := fun o1 o2 => ((Below.refl w.heap.size w).alloc (Nat.le_refl _) _).alloc (by simp) _
  have HL : Hid (∀ o1 o2, LiesT ((w.alloc o1).alloc o2) t v) := fun o1 o2 => HH.out.below (HB.out o1 o2)
  have HR : Hid (∀ o1 o2, ((w.alloc o1).alloc o2).heap[w.heap.size]? = some o1 ∧ ((w.alloc o1).alloc o2).heap[w.heap.size + 1]? = some o2) := fun o1 o2 => ⟨by rw [Below.heap_alloc _ _ _ (by simp), heap_alloc_new], by have h := heap_alloc_new (w.alloc o1) o2; simpa using h⟩
  have HVL := Lib.hid hval
  have HN := Lib.hid (validB_nodes hval).1
  clear h hval
  simp only [tv]
  go_enter Tryd.func68, Tryd.ntmps68
  go_wp2_with (first
    | (go_at_call 36; refine (Valid_any t v _ (HL.out _ _)).mono ?_; rintro e w1 ⟨rfl, hb1⟩; have z1 : w.heap.size + 2 ≤ w1.heap.size := (by have := hb1.size; simp at this; omega); have z0 : w.heap.size < w1.heap.size := (by omega); have K0 := Lib.hid ((hb1.block w.heap.size (by simp; omega)).trans (HR.out _ _).1); have K1 := Lib.hid ((hb1.block (w.heap.size + 1) (by simp)).trans (HR.out _ _).2); have B1 := Lib.hid ((HB.out _ _).trans (hb1.mono (by simp; omega))); have hv1 := HVL.out; have p0 : w1.cell? ⟨w.heap.size, 0, none⟩ = some (.int .i64 t.kind) := (by rw [cell_of_row _ _ _ _ _ _ K0.out]; rfl); have p1 : w1.cell? ⟨w.heap.size, 1, none⟩ = some (.int .i64 t.num) := (by rw [cell_of_row _ _ _ _ _ _ K0.out]; rfl); have p2 : w1.cell? ⟨w.heap.size, 2, none⟩ = some (.string t.name) := (by rw [cell_of_row _ _ _ _ _ _ K0.out]; rfl); have p3 : w1.cell? ⟨w.heap.size, 3, none⟩ = some (v) := (by rw [cell_of_row _ _ _ _ _ _ K0.out]; rfl); clear hb1)
    | (go_at_call 81; refine (copy_any w t v _ HH.out B1.out HN.out).mono ?_; rintro e w2 ⟨y, rfl, hy, hb2⟩; obtain ⟨ya, yc, rfl⟩ := hy.slice; have K2 := Lib.hid ((hb2.block (w.heap.size + 1) (by omega)).trans K1.out); have KB := Lib.hid (B1.out.trans (hb2.mono B1.out.size)); have KY := Lib.hid hy; have d0 : w2.cell? ⟨w.heap.size + 1, 0, none⟩ = some (.int .i64 0) := (by rw [cell_of_row _ _ _ _ _ _ K2.out]; rfl); have d1 : w2.cell? ⟨w.heap.size + 1, 1, none⟩ = some (.int .i64 0) := (by rw [cell_of_row _ _ _ _ _ _ K2.out]; rfl); have d2 : w2.cell? ⟨w.heap.size + 1, 2, none⟩ = some (.string ⟨#[]⟩) := (by rw [cell_of_row _ _ _ _ _ _ K2.out]; rfl); have d3 : w2.cell? ⟨w.heap.size + 1, 3, none⟩ = some (.slice none 0 0) := (by rw [cell_of_row _ _ _ _ _ _ K2.out]; rfl); have df0 := frozen_of_row _ _ 0 _ _ K2.out; have df1 := frozen_of_row _ _ 1 _ _ K2.out; have df2 := frozen_of_row _ _ 2 _ _ K2.out; have df3 := frozen_of_row _ _ 3 _ _ K2.out; clear hb2 hy))
  have FO := four K2.out (.int .i64 t.kind) (.int .i64 t.num) (.string t.name) (.slice ya t.args.length yc)
  have PE := made_end (T := t) KB.out (KY.out.keep (fun _ _ => rfl) (fun b hb _ => ⟨by omega, hb.2⟩)) K2.out _ rfl
  generalize ((((w2.setCell ⟨w.heap.size + 1, 0, none⟩ (.int .i64 t.kind)).setCell ⟨w.heap.size + 1, 1, none⟩ (.int .i64 t.num)).setCell ⟨w.heap.size + 1, 2, none⟩ (.string t.name)).setCell ⟨w.heap.size + 1, 3, none⟩ (.slice ya t.args.length yc)) = W3 at *
  have k0 : W3.cell? ⟨w.heap.size + 1, 0, none⟩ = some (.int .i64 t.kind) := by rw [cell_of_row _ _ _ _ _ _ FO.1]; rfl
  have k1 : W3.cell? ⟨w.heap.size + 1, 1, none⟩ = some (.int .i64 t.num) := by rw [cell_of_row _ _ _ _ _ _ FO.1]; rfl
  have k2 : W3.cell? ⟨w.heap.size + 1, 2, none⟩ = some (.string t.name) := by rw [cell_of_row _ _ _ _ _ _ FO.1]; rfl
  have k3 : W3.cell? ⟨w.heap.size + 1, 3, none⟩ = some (.slice ya t.args.length yc) := by rw [cell_of_row _ _ _ _ _ _ FO.1]; rfl
  exact bodyPost_ret (v := .agg #[.int .i64 t.kind, .int .i64 t.num, .string t.name, .slice ya t.args.length yc]) (by simp [results, Tryd.results68, go_sem, k0, k1, k2, k3]) rfl PE

/-- The canonical form. -/
def canT (t : Tm) : Tm := mapT (nb (varsF [] t)) t
end Go.Proofs.YtehnhjhflaljhaaDoor
