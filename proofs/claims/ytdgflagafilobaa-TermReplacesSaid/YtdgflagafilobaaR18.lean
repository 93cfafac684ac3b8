/- The contract of the specification's Replace. -/
import Derived.Test.YtdgflagafilobaaR17
import Derived.Test.YtdgflagafilobaaR10
import Derived.Deep.RegionHeld3
import Derived.Deep.DeepCutAuto
namespace Go.Proofs.Ytdgflagafilobaa
open Go.RowKit Go.Proofs.HT

set_option maxHeartbeats 2000000 in
theorem replace_invalid (t d : Tm) (v bv : Value) (x : Int) (w : World) (h : LiesT w t v) (hby : LiesT w d bv) (hval : validB t = false) : Calls Try.prog 18 #[tv t v, .int .i64 x, tv d bv] w (MadeE z0 1 w) := by
  have HX := Lib.hid (fun o1 o2 o3 => boxes3 w o1 o2 o3)
  have HH := Lib.hid h
  have HY := Lib.hid hby
  have HVL := Lib.hid hval
  clear h hby hval
  simp only [tv]
  go_enter Try.func18, Try.ntmps18
  go_wp2_with fail
  refine (valid_is t v false HVL.out _ (HH.out.below (HX.out _ _ _).1)).mono ?_
  rintro e w1 ⟨rfl, hb1⟩
  have z1 : w.heap.size + 3 ≤ w1.heap.size := by have := hb1.size; simp at this; omega
  have K0 := Lib.hid ((hb1.block w.heap.size (by simp <;> omega)).trans (HX.out _ _ _).2.1)
  have K1 := Lib.hid ((hb1.block (w.heap.size + 1) (by simp <;> omega)).trans (HX.out _ _ _).2.2.1)
  have K2 := Lib.hid ((hb1.block (w.heap.size + 1 + 1) (by simp)).trans (HX.out _ _ _).2.2.2)
  have B1 := Lib.hid ((HX.out _ _ _).1.trans (hb1.mono (by simp <;> omega)))
  clear hb1
  have c0 : w1.cell? ⟨w.heap.size + 1 + 1, 0, none⟩ = some (.int .i64 0) := by rw [cell_of_row _ _ _ _ _ _ K2.out]; rfl
  have c1 : w1.cell? ⟨w.heap.size + 1 + 1, 1, none⟩ = some (.int .i64 0) := by rw [cell_of_row _ _ _ _ _ _ K2.out]; rfl
  have c2 : w1.cell? ⟨w.heap.size + 1 + 1, 2, none⟩ = some (.string ⟨#[]⟩) := by rw [cell_of_row _ _ _ _ _ _ K2.out]; rfl
  have c3 : w1.cell? ⟨w.heap.size + 1 + 1, 3, none⟩ = some (.slice none 0 0) := by rw [cell_of_row _ _ _ _ _ _ K2.out]; rfl
  have cf0 := frozen_of_row _ _ 0 _ _ K2.out
  have cf1 := frozen_of_row _ _ 1 _ _ K2.out
  have cf2 := frozen_of_row _ _ 2 _ _ K2.out
  have cf3 := frozen_of_row _ _ 3 _ _ K2.out
  go_wp2_with fail
  have FO := four K2.out (.int .i64 0) (.int .i64 0) (.string ⟨#[]⟩) (.slice none 0 0)
  have PE := FO.2.2.2 _ _ (by omega) B1.out
  generalize ((((w1.setCell ⟨w.heap.size + 1 + 1, 0, none⟩ (.int .i64 0)).setCell ⟨w.heap.size + 1 + 1, 1, none⟩ (.int .i64 0)).setCell ⟨w.heap.size + 1 + 1, 2, none⟩ (.string ⟨#[]⟩)).setCell ⟨w.heap.size + 1 + 1, 3, none⟩ (.slice none 0 0)) = W3 at *
  have k0 : W3.cell? ⟨w.heap.size + 1 + 1, 0, none⟩ = some (.int .i64 0) := by rw [cell_of_row _ _ _ _ _ _ FO.1]; rfl
  have k1 : W3.cell? ⟨w.heap.size + 1 + 1, 1, none⟩ = some (.int .i64 0) := by rw [cell_of_row _ _ _ _ _ _ FO.1]; rfl
  have k2 : W3.cell? ⟨w.heap.size + 1 + 1, 2, none⟩ = some (.string ⟨#[]⟩) := by rw [cell_of_row _ _ _ _ _ _ FO.1]; rfl
  have k3 : W3.cell? ⟨w.heap.size + 1 + 1, 3, none⟩ = some (.slice none 0 0) := by rw [cell_of_row _ _ _ _ _ _ FO.1]; rfl
  exact bodyPost_ret (v := .tuple #[zv, .int .i64 1]) (by simp [results, Try.results18, go_sem, k0, k1, k2, k3]) rfl ⟨.slice none 0 0, rfl, zero_own, PE⟩

set_option maxHeartbeats 2000000 in
theorem replace_low (t d : Tm) (v bv : Value) (x : Int) (w : World) (h : LiesT w t v) (hby : LiesT w d bv) (hval : validB t = true) (hx : x < 0) : Calls Try.prog 18 #[tv t v, .int .i64 x, tv d bv] w (MadeE z0 1 w) := by
  have HX := Lib.hid (fun o1 o2 o3 => boxes3 w o1 o2 o3)
  have HH := Lib.hid h
  have HY := Lib.hid hby
  have HVL := Lib.hid hval
  have e0 : decide (x < 0) = true := by simpa using hx
  clear h hby hval hx
  simp only [tv]
  go_enter Try.func18, Try.ntmps18
  go_wp2_with fail
  refine (valid_is t v true HVL.out _ (HH.out.below (HX.out _ _ _).1)).mono ?_
  rintro e w1 ⟨rfl, hb1⟩
  have z1 : w.heap.size + 3 ≤ w1.heap.size := by have := hb1.size; simp at this; omega
  have K0 := Lib.hid ((hb1.block w.heap.size (by simp <;> omega)).trans (HX.out _ _ _).2.1)
  have K1 := Lib.hid ((hb1.block (w.heap.size + 1) (by simp <;> omega)).trans (HX.out _ _ _).2.2.1)
  have K2 := Lib.hid ((hb1.block (w.heap.size + 1 + 1) (by simp)).trans (HX.out _ _ _).2.2.2)
  have B1 := Lib.hid ((HX.out _ _ _).1.trans (hb1.mono (by simp <;> omega)))
  clear hb1
  have c0 : w1.cell? ⟨w.heap.size + 1 + 1, 0, none⟩ = some (.int .i64 0) := by rw [cell_of_row _ _ _ _ _ _ K2.out]; rfl
  have c1 : w1.cell? ⟨w.heap.size + 1 + 1, 1, none⟩ = some (.int .i64 0) := by rw [cell_of_row _ _ _ _ _ _ K2.out]; rfl
  have c2 : w1.cell? ⟨w.heap.size + 1 + 1, 2, none⟩ = some (.string ⟨#[]⟩) := by rw [cell_of_row _ _ _ _ _ _ K2.out]; rfl
  have c3 : w1.cell? ⟨w.heap.size + 1 + 1, 3, none⟩ = some (.slice none 0 0) := by rw [cell_of_row _ _ _ _ _ _ K2.out]; rfl
  have cf0 := frozen_of_row _ _ 0 _ _ K2.out
  have cf1 := frozen_of_row _ _ 1 _ _ K2.out
  have cf2 := frozen_of_row _ _ 2 _ _ K2.out
  have cf3 := frozen_of_row _ _ 3 _ _ K2.out
  go_wp2_with fail
  have FO := four K2.out (.int .i64 0) (.int .i64 0) (.string ⟨#[]⟩) (.slice none 0 0)
  have PE := FO.2.2.2 _ _ (by omega) B1.out
  generalize ((((w1.setCell ⟨w.heap.size + 1 + 1, 0, none⟩ (.int .i64 0)).setCell ⟨w.heap.size + 1 + 1, 1, none⟩ (.int .i64 0)).setCell ⟨w.heap.size + 1 + 1, 2, none⟩ (.string ⟨#[]⟩)).setCell ⟨w.heap.size + 1 + 1, 3, none⟩ (.slice none 0 0)) = W3 at *
  have k0 : W3.cell? ⟨w.heap.size + 1 + 1, 0, none⟩ = some (.int .i64 0) := by rw [cell_of_row _ _ _ _ _ _ FO.1]; rfl
  have k1 : W3.cell? ⟨w.heap.size + 1 + 1, 1, none⟩ = some (.int .i64 0) := by rw [cell_of_row _ _ _ _ _ _ FO.1]; rfl
  have k2 : W3.cell? ⟨w.heap.size + 1 + 1, 2, none⟩ = some (.string ⟨#[]⟩) := by rw [cell_of_row _ _ _ _ _ _ FO.1]; rfl
  have k3 : W3.cell? ⟨w.heap.size + 1 + 1, 3, none⟩ = some (.slice none 0 0) := by rw [cell_of_row _ _ _ _ _ _ FO.1]; rfl
  exact bodyPost_ret (v := .tuple #[zv, .int .i64 1]) (by simp [results, Try.results18, go_sem, k0, k1, k2, k3]) rfl ⟨.slice none 0 0, rfl, zero_own, PE⟩

set_option maxHeartbeats 2000000 in
theorem replace_high (t d : Tm) (v bv : Value) (x : Int) (w : World) (h : LiesT w t v) (hby : LiesT w d bv) (hval : validB t = true) (hx : 1099511627776 < x) : Calls Try.prog 18 #[tv t v, .int .i64 x, tv d bv] w (MadeE z0 1 w) := by
  have HX := Lib.hid (fun o1 o2 o3 => boxes3 w o1 o2 o3)
  have HH := Lib.hid h
  have HY := Lib.hid hby
  have HVL := Lib.hid hval
  have e0 : decide (x < 0) = false := by simp; omega
  have e1 : decide (1099511627776 < x) = true := by simpa using hx
  clear h hby hval hx
  simp only [tv]
  go_enter Try.func18, Try.ntmps18
  go_wp2_with fail
  refine (valid_is t v true HVL.out _ (HH.out.below (HX.out _ _ _).1)).mono ?_
  rintro e w1 ⟨rfl, hb1⟩
  have z1 : w.heap.size + 3 ≤ w1.heap.size := by have := hb1.size; simp at this; omega
  have K0 := Lib.hid ((hb1.block w.heap.size (by simp <;> omega)).trans (HX.out _ _ _).2.1)
  have K1 := Lib.hid ((hb1.block (w.heap.size + 1) (by simp <;> omega)).trans (HX.out _ _ _).2.2.1)
  have K2 := Lib.hid ((hb1.block (w.heap.size + 1 + 1) (by simp)).trans (HX.out _ _ _).2.2.2)
  have B1 := Lib.hid ((HX.out _ _ _).1.trans (hb1.mono (by simp <;> omega)))
  clear hb1
  have c0 : w1.cell? ⟨w.heap.size + 1 + 1, 0, none⟩ = some (.int .i64 0) := by rw [cell_of_row _ _ _ _ _ _ K2.out]; rfl
  have c1 : w1.cell? ⟨w.heap.size + 1 + 1, 1, none⟩ = some (.int .i64 0) := by rw [cell_of_row _ _ _ _ _ _ K2.out]; rfl
  have c2 : w1.cell? ⟨w.heap.size + 1 + 1, 2, none⟩ = some (.string ⟨#[]⟩) := by rw [cell_of_row _ _ _ _ _ _ K2.out]; rfl
  have c3 : w1.cell? ⟨w.heap.size + 1 + 1, 3, none⟩ = some (.slice none 0 0) := by rw [cell_of_row _ _ _ _ _ _ K2.out]; rfl
  have cf0 := frozen_of_row _ _ 0 _ _ K2.out
  have cf1 := frozen_of_row _ _ 1 _ _ K2.out
  have cf2 := frozen_of_row _ _ 2 _ _ K2.out
  have cf3 := frozen_of_row _ _ 3 _ _ K2.out
  go_wp2_with fail
  have FO := four K2.out (.int .i64 0) (.int .i64 0) (.string ⟨#[]⟩) (.slice none 0 0)
  have PE := FO.2.2.2 _ _ (by omega) B1.out
  generalize ((((w1.setCell ⟨w.heap.size + 1 + 1, 0, none⟩ (.int .i64 0)).setCell ⟨w.heap.size + 1 + 1, 1, none⟩ (.int .i64 0)).setCell ⟨w.heap.size + 1 + 1, 2, none⟩ (.string ⟨#[]⟩)).setCell ⟨w.heap.size + 1 + 1, 3, none⟩ (.slice none 0 0)) = W3 at *
  have k0 : W3.cell? ⟨w.heap.size + 1 + 1, 0, none⟩ = some (.int .i64 0) := by rw [cell_of_row _ _ _ _ _ _ FO.1]; rfl
  have k1 : W3.cell? ⟨w.heap.size + 1 + 1, 1, none⟩ = some (.int .i64 0) := by rw [cell_of_row _ _ _ _ _ _ FO.1]; rfl
  have k2 : W3.cell? ⟨w.heap.size + 1 + 1, 2, none⟩ = some (.string ⟨#[]⟩) := by rw [cell_of_row _ _ _ _ _ _ FO.1]; rfl
  have k3 : W3.cell? ⟨w.heap.size + 1 + 1, 3, none⟩ = some (.slice none 0 0) := by rw [cell_of_row _ _ _ _ _ _ FO.1]; rfl
  exact bodyPost_ret (v := .tuple #[zv, .int .i64 1]) (by simp [results, Try.results18, go_sem, k0, k1, k2, k3]) rfl ⟨.slice none 0 0, rfl, zero_own, PE⟩

theorem replace_number (t d : Tm) (v bv : Value) (x : Int) (w : World) (h : LiesT w t v) (hby : LiesT w d bv) (hval : validB t = true) (hx : numB x = false) : Calls Try.prog 18 #[tv t v, .int .i64 x, tv d bv] w (MadeE z0 1 w) := by
  by_cases h0 : x < 0
  · exact replace_low t d v bv x w h hby hval h0
  · exact replace_high t d v bv x w h hby hval (by rw [numB_not] at hx; omega)

set_option maxHeartbeats 2000000 in
theorem replace_by (t d : Tm) (v bv : Value) (x : Int) (w : World) (h : LiesT w t v) (hby : LiesT w d bv) (hval : validB t = true) (hx : numB x = true) (hyv : validB d = false) : Calls Try.prog 18 #[tv t v, .int .i64 x, tv d bv] w (MadeE z0 1 w) := by
  have HX := Lib.hid (fun o1 o2 o3 => boxes3 w o1 o2 o3)
  have HH := Lib.hid h
  have HY := Lib.hid hby
  have HVL := Lib.hid hval
  have HYL := Lib.hid hyv
  have e0 : decide (x < 0) = false := by have := (numB_iff.1 hx).1; simp; omega
  have e1 : decide (1099511627776 < x) = false := by have := (numB_iff.1 hx).2; simp; omega
  clear h hby hval hx hyv
  simp only [tv]
  go_enter Try.func18, Try.ntmps18
  go_wp2_with fail
  refine (valid_is t v true HVL.out _ (HH.out.below (HX.out _ _ _).1)).mono ?_
  rintro e w1 ⟨rfl, hb1⟩
  have z1 : w.heap.size + 3 ≤ w1.heap.size := by have := hb1.size; simp at this; omega
  have K0 := Lib.hid ((hb1.block w.heap.size (by simp <;> omega)).trans (HX.out _ _ _).2.1)
  have K1 := Lib.hid ((hb1.block (w.heap.size + 1) (by simp <;> omega)).trans (HX.out _ _ _).2.2.1)
  have K2 := Lib.hid ((hb1.block (w.heap.size + 1 + 1) (by simp)).trans (HX.out _ _ _).2.2.2)
  have B1 := Lib.hid ((HX.out _ _ _).1.trans (hb1.mono (by simp <;> omega)))
  clear hb1
  have b0 : w1.cell? ⟨w.heap.size + 1, 0, none⟩ = some (.int .i64 d.kind) := by rw [cell_of_row _ _ _ _ _ _ K1.out]; rfl
  have b1 : w1.cell? ⟨w.heap.size + 1, 1, none⟩ = some (.int .i64 d.num) := by rw [cell_of_row _ _ _ _ _ _ K1.out]; rfl
  have b2 : w1.cell? ⟨w.heap.size + 1, 2, none⟩ = some (.string d.name) := by rw [cell_of_row _ _ _ _ _ _ K1.out]; rfl
  have b3 : w1.cell? ⟨w.heap.size + 1, 3, none⟩ = some (bv) := by rw [cell_of_row _ _ _ _ _ _ K1.out]; rfl
  go_wp2_with fail
  refine (valid_is d bv false HYL.out _ (HY.out.below B1.out)).mono ?_
  rintro e w2 ⟨rfl, hb2⟩
  have z2 : w.heap.size + 3 ≤ w2.heap.size := by have := hb2.size; omega
  have J0 := Lib.hid ((hb2.block w.heap.size (by omega)).trans K0.out)
  have J1 := Lib.hid ((hb2.block (w.heap.size + 1) (by omega)).trans K1.out)
  have J2 := Lib.hid ((hb2.block (w.heap.size + 1 + 1) (by omega)).trans K2.out)
  have B2 := Lib.hid (B1.out.trans (hb2.mono B1.out.size))
  clear hb2 b0 b1 b2 b3 K0 K1 K2 B1
  have c0 : w2.cell? ⟨w.heap.size + 1 + 1, 0, none⟩ = some (.int .i64 0) := by rw [cell_of_row _ _ _ _ _ _ J2.out]; rfl
  have c1 : w2.cell? ⟨w.heap.size + 1 + 1, 1, none⟩ = some (.int .i64 0) := by rw [cell_of_row _ _ _ _ _ _ J2.out]; rfl
  have c2 : w2.cell? ⟨w.heap.size + 1 + 1, 2, none⟩ = some (.string ⟨#[]⟩) := by rw [cell_of_row _ _ _ _ _ _ J2.out]; rfl
  have c3 : w2.cell? ⟨w.heap.size + 1 + 1, 3, none⟩ = some (.slice none 0 0) := by rw [cell_of_row _ _ _ _ _ _ J2.out]; rfl
  have cf0 := frozen_of_row _ _ 0 _ _ J2.out
  have cf1 := frozen_of_row _ _ 1 _ _ J2.out
  have cf2 := frozen_of_row _ _ 2 _ _ J2.out
  have cf3 := frozen_of_row _ _ 3 _ _ J2.out
  go_wp2_with fail
  have FO := four J2.out (.int .i64 0) (.int .i64 0) (.string ⟨#[]⟩) (.slice none 0 0)
  have PE := FO.2.2.2 _ _ (by omega) B2.out
  generalize ((((w2.setCell ⟨w.heap.size + 1 + 1, 0, none⟩ (.int .i64 0)).setCell ⟨w.heap.size + 1 + 1, 1, none⟩ (.int .i64 0)).setCell ⟨w.heap.size + 1 + 1, 2, none⟩ (.string ⟨#[]⟩)).setCell ⟨w.heap.size + 1 + 1, 3, none⟩ (.slice none 0 0)) = W3 at *
  have k0 : W3.cell? ⟨w.heap.size + 1 + 1, 0, none⟩ = some (.int .i64 0) := by rw [cell_of_row _ _ _ _ _ _ FO.1]; rfl
  have k1 : W3.cell? ⟨w.heap.size + 1 + 1, 1, none⟩ = some (.int .i64 0) := by rw [cell_of_row _ _ _ _ _ _ FO.1]; rfl
  have k2 : W3.cell? ⟨w.heap.size + 1 + 1, 2, none⟩ = some (.string ⟨#[]⟩) := by rw [cell_of_row _ _ _ _ _ _ FO.1]; rfl
  have k3 : W3.cell? ⟨w.heap.size + 1 + 1, 3, none⟩ = some (.slice none 0 0) := by rw [cell_of_row _ _ _ _ _ _ FO.1]; rfl
  exact bodyPost_ret (v := .tuple #[zv, .int .i64 1]) (by simp [results, Try.results18, go_sem, k0, k1, k2, k3]) rfl ⟨.slice none 0 0, rfl, zero_own, PE⟩

set_option maxHeartbeats 2000000 in
theorem replace_long (t d : Tm) (v bv : Value) (x : Int) (w : World) (h : LiesT w t v) (hby : LiesT w d bv) (hval : validB t = true) (hx : numB x = true) (hyv : validB d = true) (hlong : decide (2000 < repN t d x) = true) : Calls Try.prog 18 #[tv t v, .int .i64 x, tv d bv] w (MadeE z0 2 w) := by
  have HX := Lib.hid (fun o1 o2 o3 => boxes3 w o1 o2 o3)
  have HH := Lib.hid h
  have HY := Lib.hid hby
  have HVL := Lib.hid hval
  have HYL := Lib.hid hyv
  have e0 : decide (x < 0) = false := by have := (numB_iff.1 hx).1; simp; omega
  have e1 : decide (1099511627776 < x) = false := by have := (numB_iff.1 hx).2; simp; omega
  have HCT : Hid (cntM t 2001 = cnt t) := cntM_val (validB_nodes hval).2
  have HCB : Hid (cntM d 2001 = cnt d) := cntM_val (validB_nodes hyv).2
  have HCN := Lib.hid (validB_nodes hval).2
  have HCD := Lib.hid (validB_nodes hyv).2
  have HNO := Lib.hid (validB_nodes hval).1
  have hc1 := (validB_nodes hval).2
  have hc2 := (validB_nodes hyv).2
  have hc3 := cnt_pos d
  have hoc : occT x t ≤ 2000 := by have := occT_le x t; omega
  obtain ⟨q, hq⟩ : ∃ q : Nat, cnt d = q + 1 := ⟨cnt d - 1, by omega⟩
  have hpb := prod_bd (occT x t) q (by omega) (by omega)
  have e1b : (cnt d : Int) - 1 = q := by omega
  unfold repN at hlong
  rw [e1b] at hlong
  obtain ⟨p, hp⟩ : ∃ p : Int, (occT x t : Int) * (q : Int) = p := ⟨_, rfl⟩
  rw [hp] at hpb hlong
  have W1 : IntKind.i64.wrap (cntM d 2001 - 1) = q := by rw [HCB.out, e1b]; exact IntWalk.i64_in _ (by omega)
  have W2 : IntKind.i64.wrap ((occT x t : Int) * (q : Int)) = p := by rw [hp]; exact IntWalk.i64_in _ (by omega)
  have W3 : IntKind.i64.wrap (cntM t 2001 + p) = cnt t + p := by rw [HCT.out]; exact IntWalk.i64_in _ (by omega)
  have HW1 := Lib.hid W1
  have HW2 := Lib.hid W2
  have HW3 := Lib.hid W3
  have HLONG := Lib.hid hlong
  clear hc1 hc2 hc3 hoc hpb e1b hq hp W1 W2 W3 hlong
  clear h hby hval hx hyv
  simp only [tv]
  go_enter Try.func18, Try.ntmps18
  go_wp2_with fail
  refine (valid_is t v true HVL.out _ (HH.out.below (HX.out _ _ _).1)).mono ?_
  rintro e w1 ⟨rfl, hb1⟩
  have z1 : w.heap.size + 3 ≤ w1.heap.size := by have := hb1.size; simp at this; omega
  have K0 := Lib.hid ((hb1.block w.heap.size (by simp <;> omega)).trans (HX.out _ _ _).2.1)
  have K1 := Lib.hid ((hb1.block (w.heap.size + 1) (by simp <;> omega)).trans (HX.out _ _ _).2.2.1)
  have K2 := Lib.hid ((hb1.block (w.heap.size + 1 + 1) (by simp)).trans (HX.out _ _ _).2.2.2)
  have B1 := Lib.hid ((HX.out _ _ _).1.trans (hb1.mono (by simp <;> omega)))
  clear hb1
  have b0 : w1.cell? ⟨w.heap.size + 1, 0, none⟩ = some (.int .i64 d.kind) := by rw [cell_of_row _ _ _ _ _ _ K1.out]; rfl
  have b1 : w1.cell? ⟨w.heap.size + 1, 1, none⟩ = some (.int .i64 d.num) := by rw [cell_of_row _ _ _ _ _ _ K1.out]; rfl
  have b2 : w1.cell? ⟨w.heap.size + 1, 2, none⟩ = some (.string d.name) := by rw [cell_of_row _ _ _ _ _ _ K1.out]; rfl
  have b3 : w1.cell? ⟨w.heap.size + 1, 3, none⟩ = some (bv) := by rw [cell_of_row _ _ _ _ _ _ K1.out]; rfl
  go_wp2_with fail
  refine (valid_is d bv true HYL.out _ (HY.out.below B1.out)).mono ?_
  rintro e w2 ⟨rfl, hb2⟩
  have z2 : w.heap.size + 3 ≤ w2.heap.size := by have := hb2.size; omega
  have J0 := Lib.hid ((hb2.block w.heap.size (by omega)).trans K0.out)
  have J1 := Lib.hid ((hb2.block (w.heap.size + 1) (by omega)).trans K1.out)
  have J2 := Lib.hid ((hb2.block (w.heap.size + 1 + 1) (by omega)).trans K2.out)
  have B2 := Lib.hid (B1.out.trans (hb2.mono B1.out.size))
  clear hb2 b0 b1 b2 b3 K0 K1 K2 B1
  have p0 : w2.cell? ⟨w.heap.size, 0, none⟩ = some (.int .i64 t.kind) := by rw [cell_of_row _ _ _ _ _ _ J0.out]; rfl
  have p1 : w2.cell? ⟨w.heap.size, 1, none⟩ = some (.int .i64 t.num) := by rw [cell_of_row _ _ _ _ _ _ J0.out]; rfl
  have p2 : w2.cell? ⟨w.heap.size, 2, none⟩ = some (.string t.name) := by rw [cell_of_row _ _ _ _ _ _ J0.out]; rfl
  have p3 : w2.cell? ⟨w.heap.size, 3, none⟩ = some (v) := by rw [cell_of_row _ _ _ _ _ _ J0.out]; rfl
  have q0 : w2.cell? ⟨w.heap.size + 1, 0, none⟩ = some (.int .i64 d.kind) := by rw [cell_of_row _ _ _ _ _ _ J1.out]; rfl
  have q1 : w2.cell? ⟨w.heap.size + 1, 1, none⟩ = some (.int .i64 d.num) := by rw [cell_of_row _ _ _ _ _ _ J1.out]; rfl
  have q2 : w2.cell? ⟨w.heap.size + 1, 2, none⟩ = some (.string d.name) := by rw [cell_of_row _ _ _ _ _ _ J1.out]; rfl
  have q3 : w2.cell? ⟨w.heap.size + 1, 3, none⟩ = some (bv) := by rw [cell_of_row _ _ _ _ _ _ J1.out]; rfl
  have W1 := HW1.out
  have W2 := HW2.out
  have W3 := HW3.out
  have hlong := HLONG.out
  go_wp2_with fail
  have hS0 : Below w2.heap.size w2 w2.drew := (Below.refl _ _).drew
  go_region_held3 (fun w' => Below w2.heap.size w2 w' ∧ w'.cell? ⟨w.heap.size, 0, none⟩ = some (.int .i64 t.kind) ∧ w'.cell? ⟨w.heap.size, 1, none⟩ = some (.int .i64 t.num) ∧ w'.cell? ⟨w.heap.size, 2, none⟩ = some (.string t.name) ∧ w'.cell? ⟨w.heap.size, 3, none⟩ = some (v) ∧ w'.cell? ⟨w.heap.size + 1, 0, none⟩ = some (.int .i64 d.kind) ∧ w'.cell? ⟨w.heap.size + 1, 1, none⟩ = some (.int .i64 d.num) ∧ w'.cell? ⟨w.heap.size + 1, 2, none⟩ = some (.string d.name) ∧ w'.cell? ⟨w.heap.size + 1, 3, none⟩ = some (bv))
    (first | exact ⟨h5, cell_below h5 _ _ p0, cell_below h5 _ _ p1, cell_below h5 _ _ p2, cell_below h5 _ _ p3, cell_below h5 _ _ q0, cell_below h5 _ _ q1, cell_below h5 _ _ q2, cell_below h5 _ _ q3⟩ | exact ⟨hS0, p0, p1, p2, p3, q0, q1, q2, q3⟩ | go_keep)
    (first
      | (go_at_call_of 35 (Value.agg #[.int .i64 t.kind, .int .i64 t.num, .string t.name, v]); refine (size_any t v _ (HH.out.below (B2.out.trans (Below.mono (by assumption : Below w2.heap.size w2 _) B2.out.size)))).mono ?_; rintro e w3 ⟨rfl, hb3⟩; have h5 : Below w2.heap.size w2 w3 := Below.trans (by assumption : Below w2.heap.size w2 _) (hb3.mono (Below.size (by assumption : Below w2.heap.size w2 _))))
      | (go_at_call_of 53 (Value.agg #[.int .i64 t.kind, .int .i64 t.num, .string t.name, v]); refine (occ_any x t v _ (HH.out.below (B2.out.trans (Below.mono (by assumption : Below w2.heap.size w2 _) B2.out.size))) (by have := HCN.out; omega)).mono ?_; rintro e w4 ⟨rfl, hb4⟩; have h5 : Below w2.heap.size w2 w4 := Below.trans (by assumption : Below w2.heap.size w2 _) (hb4.mono (Below.size (by assumption : Below w2.heap.size w2 _))))
      | (go_at_call_of 35 (Value.agg #[.int .i64 d.kind, .int .i64 d.num, .string d.name, bv]); refine (size_any d bv _ (HY.out.below (B2.out.trans (Below.mono (by assumption : Below w2.heap.size w2 _) B2.out.size)))).mono ?_; rintro e w5 ⟨rfl, hb5⟩; have h5 : Below w2.heap.size w2 w5 := Below.trans (by assumption : Below w2.heap.size w2 _) (hb5.mono (Below.size (by assumption : Below w2.heap.size w2 _)))))
  have z5 : w.heap.size + 3 ≤ w5.heap.size := by have := h5.size; omega
  have M0 := Lib.hid ((h5.block w.heap.size (by omega)).trans J0.out)
  have M1 := Lib.hid ((h5.block (w.heap.size + 1) (by omega)).trans J1.out)
  have M2 := Lib.hid ((h5.block (w.heap.size + 1 + 1) (by omega)).trans J2.out)
  have B5 := Lib.hid (B2.out.trans (h5.mono B2.out.size))
  clear h5 p0 p1 p2 p3 q0 q1 q2 q3
  have c0 : w5.cell? ⟨w.heap.size + 1 + 1, 0, none⟩ = some (.int .i64 0) := by rw [cell_of_row _ _ _ _ _ _ M2.out]; rfl
  have c1 : w5.cell? ⟨w.heap.size + 1 + 1, 1, none⟩ = some (.int .i64 0) := by rw [cell_of_row _ _ _ _ _ _ M2.out]; rfl
  have c2 : w5.cell? ⟨w.heap.size + 1 + 1, 2, none⟩ = some (.string ⟨#[]⟩) := by rw [cell_of_row _ _ _ _ _ _ M2.out]; rfl
  have c3 : w5.cell? ⟨w.heap.size + 1 + 1, 3, none⟩ = some (.slice none 0 0) := by rw [cell_of_row _ _ _ _ _ _ M2.out]; rfl
  have cf0 := frozen_of_row _ _ 0 _ _ M2.out
  have cf1 := frozen_of_row _ _ 1 _ _ M2.out
  have cf2 := frozen_of_row _ _ 2 _ _ M2.out
  have cf3 := frozen_of_row _ _ 3 _ _ M2.out
  go_wp2_with fail
  have FO := four M2.out (.int .i64 0) (.int .i64 0) (.string ⟨#[]⟩) (.slice none 0 0)
  have PE := FO.2.2.2 _ _ (by omega) B5.out
  generalize ((((w5.setCell ⟨w.heap.size + 1 + 1, 0, none⟩ (.int .i64 0)).setCell ⟨w.heap.size + 1 + 1, 1, none⟩ (.int .i64 0)).setCell ⟨w.heap.size + 1 + 1, 2, none⟩ (.string ⟨#[]⟩)).setCell ⟨w.heap.size + 1 + 1, 3, none⟩ (.slice none 0 0)) = W3 at *
  have k0 : W3.cell? ⟨w.heap.size + 1 + 1, 0, none⟩ = some (.int .i64 0) := by rw [cell_of_row _ _ _ _ _ _ FO.1]; rfl
  have k1 : W3.cell? ⟨w.heap.size + 1 + 1, 1, none⟩ = some (.int .i64 0) := by rw [cell_of_row _ _ _ _ _ _ FO.1]; rfl
  have k2 : W3.cell? ⟨w.heap.size + 1 + 1, 2, none⟩ = some (.string ⟨#[]⟩) := by rw [cell_of_row _ _ _ _ _ _ FO.1]; rfl
  have k3 : W3.cell? ⟨w.heap.size + 1 + 1, 3, none⟩ = some (.slice none 0 0) := by rw [cell_of_row _ _ _ _ _ _ FO.1]; rfl
  exact bodyPost_ret (v := .tuple #[zv, .int .i64 2]) (by simp [results, Try.results18, go_sem, k0, k1, k2, k3]) rfl ⟨.slice none 0 0, rfl, zero_own, PE⟩

set_option maxHeartbeats 2000000 in
theorem replace_yes (t d : Tm) (v bv : Value) (x : Int) (w : World) (h : LiesT w t v) (hby : LiesT w d bv) (hval : validB t = true) (hx : numB x = true) (hyv : validB d = true) (hlong : decide (2000 < repN t d x) = false) : Calls Try.prog 18 #[tv t v, .int .i64 x, tv d bv] w (MadeE (mapT (gR x d) t) 0 w) := by
  have HX := Lib.hid (fun o1 o2 o3 => boxes3 w o1 o2 o3)
  have HH := Lib.hid h
  have HY := Lib.hid hby
  have HVL := Lib.hid hval
  have HYL := Lib.hid hyv
  have e0 : decide (x < 0) = false := by have := (numB_iff.1 hx).1; simp; omega
  have e1 : decide (1099511627776 < x) = false := by have := (numB_iff.1 hx).2; simp; omega
  have HCT : Hid (cntM t 2001 = cnt t) := cntM_val (validB_nodes hval).2
  have HCB : Hid (cntM d 2001 = cnt d) := cntM_val (validB_nodes hyv).2
  have HCN := Lib.hid (validB_nodes hval).2
  have HCD := Lib.hid (validB_nodes hyv).2
  have HNO := Lib.hid (validB_nodes hval).1
  have hc1 := (validB_nodes hval).2
  have hc2 := (validB_nodes hyv).2
  have hc3 := cnt_pos d
  have hoc : occT x t ≤ 2000 := by have := occT_le x t; omega
  obtain ⟨q, hq⟩ : ∃ q : Nat, cnt d = q + 1 := ⟨cnt d - 1, by omega⟩
  have hpb := prod_bd (occT x t) q (by omega) (by omega)
  have e1b : (cnt d : Int) - 1 = q := by omega
  unfold repN at hlong
  rw [e1b] at hlong
  obtain ⟨p, hp⟩ : ∃ p : Int, (occT x t : Int) * (q : Int) = p := ⟨_, rfl⟩
  rw [hp] at hpb hlong
  have W1 : IntKind.i64.wrap (cntM d 2001 - 1) = q := by rw [HCB.out, e1b]; exact IntWalk.i64_in _ (by omega)
  have W2 : IntKind.i64.wrap ((occT x t : Int) * (q : Int)) = p := by rw [hp]; exact IntWalk.i64_in _ (by omega)
  have W3 : IntKind.i64.wrap (cntM t 2001 + p) = cnt t + p := by rw [HCT.out]; exact IntWalk.i64_in _ (by omega)
  have HW1 := Lib.hid W1
  have HW2 := Lib.hid W2
  have HW3 := Lib.hid W3
  have HLONG := Lib.hid hlong
  clear hc1 hc2 hc3 hoc hpb e1b hq hp W1 W2 W3 hlong
  clear h hby hval hx hyv
  simp only [tv]
  go_enter Try.func18, Try.ntmps18
  go_wp2_with fail
  refine (valid_is t v true HVL.out _ (HH.out.below (HX.out _ _ _).1)).mono ?_
  rintro e w1 ⟨rfl, hb1⟩
  have z1 : w.heap.size + 3 ≤ w1.heap.size := by have := hb1.size; simp at this; omega
  have K0 := Lib.hid ((hb1.block w.heap.size (by simp <;> omega)).trans (HX.out _ _ _).2.1)
  have K1 := Lib.hid ((hb1.block (w.heap.size + 1) (by simp <;> omega)).trans (HX.out _ _ _).2.2.1)
  have K2 := Lib.hid ((hb1.block (w.heap.size + 1 + 1) (by simp)).trans (HX.out _ _ _).2.2.2)
  have B1 := Lib.hid ((HX.out _ _ _).1.trans (hb1.mono (by simp <;> omega)))
  clear hb1
  have b0 : w1.cell? ⟨w.heap.size + 1, 0, none⟩ = some (.int .i64 d.kind) := by rw [cell_of_row _ _ _ _ _ _ K1.out]; rfl
  have b1 : w1.cell? ⟨w.heap.size + 1, 1, none⟩ = some (.int .i64 d.num) := by rw [cell_of_row _ _ _ _ _ _ K1.out]; rfl
  have b2 : w1.cell? ⟨w.heap.size + 1, 2, none⟩ = some (.string d.name) := by rw [cell_of_row _ _ _ _ _ _ K1.out]; rfl
  have b3 : w1.cell? ⟨w.heap.size + 1, 3, none⟩ = some (bv) := by rw [cell_of_row _ _ _ _ _ _ K1.out]; rfl
  go_wp2_with fail
  refine (valid_is d bv true HYL.out _ (HY.out.below B1.out)).mono ?_
  rintro e w2 ⟨rfl, hb2⟩
  have z2 : w.heap.size + 3 ≤ w2.heap.size := by have := hb2.size; omega
  have J0 := Lib.hid ((hb2.block w.heap.size (by omega)).trans K0.out)
  have J1 := Lib.hid ((hb2.block (w.heap.size + 1) (by omega)).trans K1.out)
  have J2 := Lib.hid ((hb2.block (w.heap.size + 1 + 1) (by omega)).trans K2.out)
  have B2 := Lib.hid (B1.out.trans (hb2.mono B1.out.size))
  clear hb2 b0 b1 b2 b3 K0 K1 K2 B1
  have p0 : w2.cell? ⟨w.heap.size, 0, none⟩ = some (.int .i64 t.kind) := by rw [cell_of_row _ _ _ _ _ _ J0.out]; rfl
  have p1 : w2.cell? ⟨w.heap.size, 1, none⟩ = some (.int .i64 t.num) := by rw [cell_of_row _ _ _ _ _ _ J0.out]; rfl
  have p2 : w2.cell? ⟨w.heap.size, 2, none⟩ = some (.string t.name) := by rw [cell_of_row _ _ _ _ _ _ J0.out]; rfl
  have p3 : w2.cell? ⟨w.heap.size, 3, none⟩ = some (v) := by rw [cell_of_row _ _ _ _ _ _ J0.out]; rfl
  have q0 : w2.cell? ⟨w.heap.size + 1, 0, none⟩ = some (.int .i64 d.kind) := by rw [cell_of_row _ _ _ _ _ _ J1.out]; rfl
  have q1 : w2.cell? ⟨w.heap.size + 1, 1, none⟩ = some (.int .i64 d.num) := by rw [cell_of_row _ _ _ _ _ _ J1.out]; rfl
  have q2 : w2.cell? ⟨w.heap.size + 1, 2, none⟩ = some (.string d.name) := by rw [cell_of_row _ _ _ _ _ _ J1.out]; rfl
  have q3 : w2.cell? ⟨w.heap.size + 1, 3, none⟩ = some (bv) := by rw [cell_of_row _ _ _ _ _ _ J1.out]; rfl
  have W1 := HW1.out
  have W2 := HW2.out
  have W3 := HW3.out
  have hlong := HLONG.out
  go_wp2_with fail
  have hS0 : Below w2.heap.size w2 w2.drew := (Below.refl _ _).drew
  go_region_held3 (fun w' => Below w2.heap.size w2 w' ∧ w'.cell? ⟨w.heap.size, 0, none⟩ = some (.int .i64 t.kind) ∧ w'.cell? ⟨w.heap.size, 1, none⟩ = some (.int .i64 t.num) ∧ w'.cell? ⟨w.heap.size, 2, none⟩ = some (.string t.name) ∧ w'.cell? ⟨w.heap.size, 3, none⟩ = some (v) ∧ w'.cell? ⟨w.heap.size + 1, 0, none⟩ = some (.int .i64 d.kind) ∧ w'.cell? ⟨w.heap.size + 1, 1, none⟩ = some (.int .i64 d.num) ∧ w'.cell? ⟨w.heap.size + 1, 2, none⟩ = some (.string d.name) ∧ w'.cell? ⟨w.heap.size + 1, 3, none⟩ = some (bv))
    (first | exact ⟨h5, cell_below h5 _ _ p0, cell_below h5 _ _ p1, cell_below h5 _ _ p2, cell_below h5 _ _ p3, cell_below h5 _ _ q0, cell_below h5 _ _ q1, cell_below h5 _ _ q2, cell_below h5 _ _ q3⟩ | exact ⟨hS0, p0, p1, p2, p3, q0, q1, q2, q3⟩ | go_keep)
    (first
      | (go_at_call_of 35 (Value.agg #[.int .i64 t.kind, .int .i64 t.num, .string t.name, v]); refine (size_any t v _ (HH.out.below (B2.out.trans (Below.mono (by assumption : Below w2.heap.size w2 _) B2.out.size)))).mono ?_; rintro e w3 ⟨rfl, hb3⟩; have h5 : Below w2.heap.size w2 w3 := Below.trans (by assumption : Below w2.heap.size w2 _) (hb3.mono (Below.size (by assumption : Below w2.heap.size w2 _))))
      | (go_at_call_of 53 (Value.agg #[.int .i64 t.kind, .int .i64 t.num, .string t.name, v]); refine (occ_any x t v _ (HH.out.below (B2.out.trans (Below.mono (by assumption : Below w2.heap.size w2 _) B2.out.size))) (by have := HCN.out; omega)).mono ?_; rintro e w4 ⟨rfl, hb4⟩; have h5 : Below w2.heap.size w2 w4 := Below.trans (by assumption : Below w2.heap.size w2 _) (hb4.mono (Below.size (by assumption : Below w2.heap.size w2 _))))
      | (go_at_call_of 35 (Value.agg #[.int .i64 d.kind, .int .i64 d.num, .string d.name, bv]); refine (size_any d bv _ (HY.out.below (B2.out.trans (Below.mono (by assumption : Below w2.heap.size w2 _) B2.out.size)))).mono ?_; rintro e w5 ⟨rfl, hb5⟩; have h5 : Below w2.heap.size w2 w5 := Below.trans (by assumption : Below w2.heap.size w2 _) (hb5.mono (Below.size (by assumption : Below w2.heap.size w2 _)))))
  have z5 : w.heap.size + 3 ≤ w5.heap.size := by have := h5.size; omega
  have M0 := Lib.hid ((h5.block w.heap.size (by omega)).trans J0.out)
  have M1 := Lib.hid ((h5.block (w.heap.size + 1) (by omega)).trans J1.out)
  have M2 := Lib.hid ((h5.block (w.heap.size + 1 + 1) (by omega)).trans J2.out)
  have B5 := Lib.hid (B2.out.trans (h5.mono B2.out.size))
  clear h5 p0 p1 p2 p3 q0 q1 q2 q3
  have p0 : w5.cell? ⟨w.heap.size, 0, none⟩ = some (.int .i64 t.kind) := by rw [cell_of_row _ _ _ _ _ _ M0.out]; rfl
  have p1 : w5.cell? ⟨w.heap.size, 1, none⟩ = some (.int .i64 t.num) := by rw [cell_of_row _ _ _ _ _ _ M0.out]; rfl
  have p2 : w5.cell? ⟨w.heap.size, 2, none⟩ = some (.string t.name) := by rw [cell_of_row _ _ _ _ _ _ M0.out]; rfl
  have p3 : w5.cell? ⟨w.heap.size, 3, none⟩ = some (v) := by rw [cell_of_row _ _ _ _ _ _ M0.out]; rfl
  have q0 : w5.cell? ⟨w.heap.size + 1, 0, none⟩ = some (.int .i64 d.kind) := by rw [cell_of_row _ _ _ _ _ _ M1.out]; rfl
  have q1 : w5.cell? ⟨w.heap.size + 1, 1, none⟩ = some (.int .i64 d.num) := by rw [cell_of_row _ _ _ _ _ _ M1.out]; rfl
  have q2 : w5.cell? ⟨w.heap.size + 1, 2, none⟩ = some (.string d.name) := by rw [cell_of_row _ _ _ _ _ _ M1.out]; rfl
  have q3 : w5.cell? ⟨w.heap.size + 1, 3, none⟩ = some (bv) := by rw [cell_of_row _ _ _ _ _ _ M1.out]; rfl
  go_wp2_with fail
  refine (put_any x d bv (by have := HCD.out; omega) t v w5 (HH.out.below B5.out) (HY.out.below B5.out) (by have := HCN.out; omega) HNO.out).mono ?_
  rintro e w6 ⟨y, rfl, hy, hb6⟩
  obtain ⟨ya, yc, rfl⟩ := hy.slice
  have z6 : w.heap.size + 3 ≤ w6.heap.size := by have := hb6.size; omega
  have K3 := Lib.hid ((hb6.block (w.heap.size + 1 + 1) (by omega)).trans M2.out)
  have B6 := Lib.hid (B5.out.trans (hb6.mono B5.out.size))
  have HY6 := Lib.hid hy
  clear p0 p1 p2 p3 q0 q1 q2 q3 hb6 hy
  have c0 : w6.cell? ⟨w.heap.size + 1 + 1, 0, none⟩ = some (.int .i64 0) := by rw [cell_of_row _ _ _ _ _ _ K3.out]; rfl
  have c1 : w6.cell? ⟨w.heap.size + 1 + 1, 1, none⟩ = some (.int .i64 0) := by rw [cell_of_row _ _ _ _ _ _ K3.out]; rfl
  have c2 : w6.cell? ⟨w.heap.size + 1 + 1, 2, none⟩ = some (.string ⟨#[]⟩) := by rw [cell_of_row _ _ _ _ _ _ K3.out]; rfl
  have c3 : w6.cell? ⟨w.heap.size + 1 + 1, 3, none⟩ = some (.slice none 0 0) := by rw [cell_of_row _ _ _ _ _ _ K3.out]; rfl
  have cf0 := frozen_of_row _ _ 0 _ _ K3.out
  have cf1 := frozen_of_row _ _ 1 _ _ K3.out
  have cf2 := frozen_of_row _ _ 2 _ _ K3.out
  have cf3 := frozen_of_row _ _ 3 _ _ K3.out
  go_wp2_with fail
  have FO := four K3.out (.int .i64 (mapT (gR x d) t).kind) (.int .i64 (mapT (gR x d) t).num) (.string (mapT (gR x d) t).name) (.slice ya (mapT (gR x d) t).args.length yc)
  have PE := made_e (n := 0) (T := mapT (gR x d) t) (b := w.heap.size + 1 + 1) (c := w5.heap.size) (by omega) (by omega) B6.out HY6.out K3.out _ rfl
  generalize ((((w6.setCell ⟨w.heap.size + 1 + 1, 0, none⟩ (.int .i64 (mapT (gR x d) t).kind)).setCell ⟨w.heap.size + 1 + 1, 1, none⟩ (.int .i64 (mapT (gR x d) t).num)).setCell ⟨w.heap.size + 1 + 1, 2, none⟩ (.string (mapT (gR x d) t).name)).setCell ⟨w.heap.size + 1 + 1, 3, none⟩ (.slice ya (mapT (gR x d) t).args.length yc)) = W3 at *
  have k0 : W3.cell? ⟨w.heap.size + 1 + 1, 0, none⟩ = some (.int .i64 (mapT (gR x d) t).kind) := by rw [cell_of_row _ _ _ _ _ _ FO.1]; rfl
  have k1 : W3.cell? ⟨w.heap.size + 1 + 1, 1, none⟩ = some (.int .i64 (mapT (gR x d) t).num) := by rw [cell_of_row _ _ _ _ _ _ FO.1]; rfl
  have k2 : W3.cell? ⟨w.heap.size + 1 + 1, 2, none⟩ = some (.string (mapT (gR x d) t).name) := by rw [cell_of_row _ _ _ _ _ _ FO.1]; rfl
  have k3 : W3.cell? ⟨w.heap.size + 1 + 1, 3, none⟩ = some (.slice ya (mapT (gR x d) t).args.length yc) := by rw [cell_of_row _ _ _ _ _ _ FO.1]; rfl
  exact bodyPost_ret (v := .tuple #[.agg #[.int .i64 (mapT (gR x d) t).kind, .int .i64 (mapT (gR x d) t).num, .string (mapT (gR x d) t).name, .slice ya (mapT (gR x d) t).args.length yc], .int .i64 0]) (by simp [results, Try.results18, go_sem, k0, k1, k2, k3]) rfl PE

end Go.Proofs.Ytdgflagafilobaa
