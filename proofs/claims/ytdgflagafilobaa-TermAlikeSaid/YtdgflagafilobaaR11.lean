/- The specification's Canon and Variant. -/
import Derived.Test.YtdgflagafilobaaD4
namespace Go.Proofs.Ytdgflagafilobaa
open Go.RowKit Go.Proofs.HT

set_option maxHeartbeats 2000000 in
theorem canon_no (t : Tm) (v : Value) (w : World) (h : LiesT w t v) (hval : validB t = false) : Calls Try.prog 39 #[tv t v] w (MadeEnd z0 w) := by
  have HX := Lib.hid (fun o1 o2 => boxes2 h o1 o2)
  have HVL := Lib.hid hval
  clear h hval
  simp only [tv]
  go_enter Try.func39, Try.ntmps39
  go_wp2_with fail
  refine (valid_is t v false HVL.out _ (HX.out _ _).1).mono ?_
  rintro e w1 ⟨rfl, hb1⟩
  have z1 : w.heap.size + 2 ≤ w1.heap.size := by have := hb1.size; simp at this; omega
  have K0 := Lib.hid ((hb1.block w.heap.size (by simp <;> omega)).trans (HX.out _ _).2.2.1)
  have K1 := Lib.hid ((hb1.block (w.heap.size + 1) (by simp)).trans (HX.out _ _).2.2.2)
  have B1 := Lib.hid ((HX.out _ _).2.1.trans (hb1.mono (by simp <;> omega)))
  clear hb1
  have c0 : w1.cell? ⟨w.heap.size + 1, 0, none⟩ = some (.int .i64 0) := by rw [cell_of_row _ _ _ _ _ _ K1.out]; rfl
  have c1 : w1.cell? ⟨w.heap.size + 1, 1, none⟩ = some (.int .i64 0) := by rw [cell_of_row _ _ _ _ _ _ K1.out]; rfl
  have c2 : w1.cell? ⟨w.heap.size + 1, 2, none⟩ = some (.string ⟨#[]⟩) := by rw [cell_of_row _ _ _ _ _ _ K1.out]; rfl
  have c3 : w1.cell? ⟨w.heap.size + 1, 3, none⟩ = some (.slice none 0 0) := by rw [cell_of_row _ _ _ _ _ _ K1.out]; rfl
  have cf0 := frozen_of_row _ _ 0 _ _ K1.out
  have cf1 := frozen_of_row _ _ 1 _ _ K1.out
  have cf2 := frozen_of_row _ _ 2 _ _ K1.out
  have cf3 := frozen_of_row _ _ 3 _ _ K1.out
  go_wp2_with fail
  have FO := four K1.out (.int .i64 0) (.int .i64 0) (.string ⟨#[]⟩) (.slice none 0 0)
  have PE := FO.2.2.2 _ _ (by omega) B1.out
  generalize ((((w1.setCell ⟨w.heap.size + 1, 0, none⟩ (.int .i64 0)).setCell ⟨w.heap.size + 1, 1, none⟩ (.int .i64 0)).setCell ⟨w.heap.size + 1, 2, none⟩ (.string ⟨#[]⟩)).setCell ⟨w.heap.size + 1, 3, none⟩ (.slice none 0 0)) = W3 at *
  have k0 : W3.cell? ⟨w.heap.size + 1, 0, none⟩ = some (.int .i64 0) := by rw [cell_of_row _ _ _ _ _ _ FO.1]; rfl
  have k1 : W3.cell? ⟨w.heap.size + 1, 1, none⟩ = some (.int .i64 0) := by rw [cell_of_row _ _ _ _ _ _ FO.1]; rfl
  have k2 : W3.cell? ⟨w.heap.size + 1, 2, none⟩ = some (.string ⟨#[]⟩) := by rw [cell_of_row _ _ _ _ _ _ FO.1]; rfl
  have k3 : W3.cell? ⟨w.heap.size + 1, 3, none⟩ = some (.slice none 0 0) := by rw [cell_of_row _ _ _ _ _ _ FO.1]; rfl
  exact bodyPost_ret (v := zv) (by simp [results, Try.results39, go_sem, k0, k1, k2, k3]) rfl ⟨.slice none 0 0, rfl, zero_own, PE⟩

set_option maxHeartbeats 2000000 in
theorem canon_yes (t : Tm) (v : Value) (w : World) (h : LiesT w t v) (hval : validB t = true) : Calls Try.prog 39 #[tv t v] w (MadeEnd (canT t) w) := by
  have HX := Lib.hid (fun o1 o2 => boxes2 h o1 o2)
  have HH := Lib.hid h
  have HVL := Lib.hid hval
  have HN := Lib.hid (validB_nodes hval)
  clear h hval
  simp only [tv]
  go_enter Try.func39, Try.ntmps39
  go_wp2_with fail
  refine (valid_is t v true HVL.out _ (HX.out _ _).1).mono ?_
  rintro e w1 ⟨rfl, hb1⟩
  have z1 : w.heap.size + 2 ≤ w1.heap.size := by have := hb1.size; simp at this; omega
  have K0 := Lib.hid ((hb1.block w.heap.size (by simp <;> omega)).trans (HX.out _ _).2.2.1)
  have K1 := Lib.hid ((hb1.block (w.heap.size + 1) (by simp)).trans (HX.out _ _).2.2.2)
  have B1 := Lib.hid ((HX.out _ _).2.1.trans (hb1.mono (by simp <;> omega)))
  clear hb1
  have h1 : Below w1.heap.size w1 w1.drew := (Below.refl _ _).drew
  have p0 : w1.cell? ⟨w.heap.size, 0, none⟩ = some (.int .i64 t.kind) := by rw [cell_of_row _ _ _ _ _ _ K0.out]; rfl
  have p1 : w1.cell? ⟨w.heap.size, 1, none⟩ = some (.int .i64 t.num) := by rw [cell_of_row _ _ _ _ _ _ K0.out]; rfl
  have p2 : w1.cell? ⟨w.heap.size, 2, none⟩ = some (.string t.name) := by rw [cell_of_row _ _ _ _ _ _ K0.out]; rfl
  have p3 : w1.cell? ⟨w.heap.size, 3, none⟩ = some (v) := by rw [cell_of_row _ _ _ _ _ _ K0.out]; rfl
  go_wp2_with fail
  have HT := Lib.hid (HH.out.below B1.out)
  have g1 : Below w.heap.size w w1.drew := B1.out.drew
  go_region_held3 (fun w' => Below w.heap.size w w' ∧ w'.cell? ⟨w.heap.size, 0, none⟩ = some (.int .i64 t.kind) ∧ w'.cell? ⟨w.heap.size, 1, none⟩ = some (.int .i64 t.num) ∧ w'.cell? ⟨w.heap.size, 2, none⟩ = some (.string t.name) ∧ w'.cell? ⟨w.heap.size, 3, none⟩ = some (v))
    (first | exact HS9 | exact ⟨g1, cell_below h1 _ _ p0, cell_below h1 _ _ p1, cell_below h1 _ _ p2, cell_below h1 _ _ p3⟩ | exact ⟨g2, cell_below h5 _ _ p0, cell_below h5 _ _ p1, cell_below h5 _ _ p2, cell_below h5 _ _ p3⟩ | go_keep)
    (first
      | (go_at_call 48; refine (vars_any t w1.drew w1.drew.heap.size v (.slice none 0 0) [] w1.drew (HT.out.below h1) (Below.refl _ _) (Nat.le_refl _) (Nat.le_refl _) (World.ownsRow_nil _ _ _ _) (by have := HN.out.2; simp; omega) HN.out.1).mono ?_; rintro e w2 ⟨y, rfl, hrow, hg, _⟩; have HROW := Lib.hid hrow; have h5 : Below w1.heap.size w1 w2 := h1.trans ((Below.refl w1.heap.size w1.drew).grown hg (Nat.le_refl _) (fun q hq => by cases hq)); have g2 : Below w.heap.size w w2 := B1.out.trans (h5.mono B1.out.size); clear hg hrow)
      | (go_at_call 69; refine (number_any _ _ (varsF [] t) t v _ (HT.out.below h5) HROW.out (by have := HN.out.2; omega) HN.out.1).mono ?_; rintro e w3 ⟨y3, he, hy3, hb3⟩; obtain ⟨ya, yc, rfl⟩ : ∃ a c, y3 = .slice a (canT t).args.length c := hy3.slice; obtain rfl : e = .returned (tv (canT t) (.slice ya (canT t).args.length yc)) := he; have HY := Lib.hid hy3; have z2 : w1.heap.size ≤ w2.heap.size := h5.size; have h5 : Below w1.heap.size w1 w3 := h5.trans (hb3.mono h5.size); have g2 : Below w.heap.size w w3 := B1.out.trans (h5.mono B1.out.size); have K3 := Lib.hid ((h5.block (w.heap.size + 1) (by omega)).trans K1.out); have K4 := Lib.hid ((h5.block w.heap.size (by omega)).trans K0.out); have c0 : w3.cell? ⟨w.heap.size + 1, 0, none⟩ = some (.int .i64 0) := (by rw [cell_of_row _ _ _ _ _ _ K3.out]; rfl); have c1 : w3.cell? ⟨w.heap.size + 1, 1, none⟩ = some (.int .i64 0) := (by rw [cell_of_row _ _ _ _ _ _ K3.out]; rfl); have c2 : w3.cell? ⟨w.heap.size + 1, 2, none⟩ = some (.string ⟨#[]⟩) := (by rw [cell_of_row _ _ _ _ _ _ K3.out]; rfl); have c3 : w3.cell? ⟨w.heap.size + 1, 3, none⟩ = some (.slice none 0 0) := (by rw [cell_of_row _ _ _ _ _ _ K3.out]; rfl); have cf0 := frozen_of_row _ _ 0 _ _ K3.out; have cf1 := frozen_of_row _ _ 1 _ _ K3.out; have cf2 := frozen_of_row _ _ 2 _ _ K3.out; have cf3 := frozen_of_row _ _ 3 _ _ K3.out; have FO := four K3.out (.int .i64 (canT t).kind) (.int .i64 (canT t).num) (.string (canT t).name) (.slice ya (canT t).args.length yc); have K5 := (FO.2.1 w.heap.size (by omega)).trans K4.out; have HS9 : Below w.heap.size w ((((w3.setCell ⟨w.heap.size + 1, 0, none⟩ (.int .i64 (canT t).kind)).setCell ⟨w.heap.size + 1, 1, none⟩ (.int .i64 (canT t).num)).setCell ⟨w.heap.size + 1, 2, none⟩ (.string (canT t).name)).setCell ⟨w.heap.size + 1, 3, none⟩ (.slice ya (canT t).args.length yc)) ∧ ((((w3.setCell ⟨w.heap.size + 1, 0, none⟩ (.int .i64 (canT t).kind)).setCell ⟨w.heap.size + 1, 1, none⟩ (.int .i64 (canT t).num)).setCell ⟨w.heap.size + 1, 2, none⟩ (.string (canT t).name)).setCell ⟨w.heap.size + 1, 3, none⟩ (.slice ya (canT t).args.length yc)).cell? ⟨w.heap.size, 0, none⟩ = some (.int .i64 t.kind) ∧ ((((w3.setCell ⟨w.heap.size + 1, 0, none⟩ (.int .i64 (canT t).kind)).setCell ⟨w.heap.size + 1, 1, none⟩ (.int .i64 (canT t).num)).setCell ⟨w.heap.size + 1, 2, none⟩ (.string (canT t).name)).setCell ⟨w.heap.size + 1, 3, none⟩ (.slice ya (canT t).args.length yc)).cell? ⟨w.heap.size, 1, none⟩ = some (.int .i64 t.num) ∧ ((((w3.setCell ⟨w.heap.size + 1, 0, none⟩ (.int .i64 (canT t).kind)).setCell ⟨w.heap.size + 1, 1, none⟩ (.int .i64 (canT t).num)).setCell ⟨w.heap.size + 1, 2, none⟩ (.string (canT t).name)).setCell ⟨w.heap.size + 1, 3, none⟩ (.slice ya (canT t).args.length yc)).cell? ⟨w.heap.size, 2, none⟩ = some (.string t.name) ∧ ((((w3.setCell ⟨w.heap.size + 1, 0, none⟩ (.int .i64 (canT t).kind)).setCell ⟨w.heap.size + 1, 1, none⟩ (.int .i64 (canT t).num)).setCell ⟨w.heap.size + 1, 2, none⟩ (.string (canT t).name)).setCell ⟨w.heap.size + 1, 3, none⟩ (.slice ya (canT t).args.length yc)).cell? ⟨w.heap.size, 3, none⟩ = some (v) := ⟨FO.2.2.2 _ _ (by omega) g2, (by rw [cell_of_row _ _ _ _ _ _ K5]; rfl), (by rw [cell_of_row _ _ _ _ _ _ K5]; rfl), (by rw [cell_of_row _ _ _ _ _ _ K5]; rfl), (by rw [cell_of_row _ _ _ _ _ _ K5]; rfl)⟩; clear hb3 hy3))
  go_wp2_with fail
  have PE := made_end (T := canT t) g2 (HY.out.keep (fun _ _ => rfl) (fun b hb _ => ⟨by omega, hb.2⟩)) K3.out _ rfl
  have FO2 := FO.1
  generalize ((((w3.setCell ⟨w.heap.size + 1, 0, none⟩ (.int .i64 (canT t).kind)).setCell ⟨w.heap.size + 1, 1, none⟩ (.int .i64 (canT t).num)).setCell ⟨w.heap.size + 1, 2, none⟩ (.string (canT t).name)).setCell ⟨w.heap.size + 1, 3, none⟩ (.slice ya (canT t).args.length yc)) = W3 at *
  have k0 : W3.cell? ⟨w.heap.size + 1, 0, none⟩ = some (.int .i64 (canT t).kind) := by rw [cell_of_row _ _ _ _ _ _ FO2]; rfl
  have k1 : W3.cell? ⟨w.heap.size + 1, 1, none⟩ = some (.int .i64 (canT t).num) := by rw [cell_of_row _ _ _ _ _ _ FO2]; rfl
  have k2 : W3.cell? ⟨w.heap.size + 1, 2, none⟩ = some (.string (canT t).name) := by rw [cell_of_row _ _ _ _ _ _ FO2]; rfl
  have k3 : W3.cell? ⟨w.heap.size + 1, 3, none⟩ = some (.slice ya (canT t).args.length yc) := by rw [cell_of_row _ _ _ _ _ _ FO2]; rfl
  exact bodyPost_ret (v := tv (canT t) (.slice ya (canT t).args.length yc)) (by simp [results, Try.results39, go_sem, k0, k1, k2, k3]) rfl PE

end Go.Proofs.Ytdgflagafilobaa
