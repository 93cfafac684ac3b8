/- The program's Replace. -/
import Derived.Test.YtdgflagafilobaaS10
import Derived.Deep.RegionHeld3
import Derived.Deep.DeepCutAuto
namespace Go.Proofs.Ytdgflagafilobaa
open Go.RowKit Go.Proofs.HT

set_option maxHeartbeats 1000000 in
theorem Replace_invalid (t d : Tm) (v bv : Value) (x : Int) (w : World) (h : LiesT w t v) (hby : LiesT w d bv) (hval : validB t = false) : Calls Try.prog 17 #[tv t v, .int .i64 x, tv d bv] w (MadeE z0 1 w) := by
  have HH := Lib.hid h
  have HY := Lib.hid hby
  have HB : Hid (∀ o1 o2 o3 o4, Below w.heap.size w ((((w.alloc o1).alloc o2).alloc o3).alloc o4)) := fun o1 o2 o3 o4 => ((((Below.refl w.heap.size w).alloc (Nat.le_refl _) _).alloc (by simp) _).alloc (by simp <;> omega) _).alloc (by simp <;> omega) _
  have HL : Hid (∀ o1 o2 o3 o4, LiesT ((((w.alloc o1).alloc o2).alloc o3).alloc o4) t v) := fun o1 o2 o3 o4 => HH.out.below (HB.out o1 o2 o3 o4)
  have HR := Lib.hid (rows4 w)
  have HVL := Lib.hid hval
  clear h hval hby
  simp only [tv]
  go_enter Try.func17, Try.ntmps17
  go_wp2_with (first
    | (go_at_call_of 29 (Value.agg #[.int .i64 t.kind, .int .i64 t.num, .string t.name, v]); refine (Valid_any t v _ (HL.out _ _ _ _)).mono ?_; rintro e w1 ⟨rfl, hb1⟩; have z1 : w.heap.size + 4 ≤ w1.heap.size := (by have := hb1.size; simp at this; omega); have K0 := Lib.hid ((hb1.block w.heap.size (by simp <;> omega)).trans (HR.out _ _ _ _).1); have KF := Lib.hid ((hb1.block (w.heap.size + 1) (by simp <;> omega)).trans (HR.out _ _ _ _).2.1); have KY := Lib.hid ((hb1.block (w.heap.size + 1 + 1) (by simp <;> omega)).trans (HR.out _ _ _ _).2.2.1); have K1 := Lib.hid ((hb1.block (w.heap.size + 1 + 1 + 1) (by simp)).trans (HR.out _ _ _ _).2.2.2.1); have B1 := Lib.hid ((HB.out _ _ _ _).trans (hb1.mono (by simp <;> omega))); have hv1 := HVL.out; have pf : w1.cell? ⟨w.heap.size + 1, 0, none⟩ = some (.int .i64 x) := (by rw [cell_of_row _ _ _ _ _ _ KF.out]; rfl); have y0 : w1.cell? ⟨w.heap.size + 1 + 1, 0, none⟩ = some (.int .i64 d.kind) := (by rw [cell_of_row _ _ _ _ _ _ KY.out]; rfl); have y1 : w1.cell? ⟨w.heap.size + 1 + 1, 1, none⟩ = some (.int .i64 d.num) := (by rw [cell_of_row _ _ _ _ _ _ KY.out]; rfl); have y2 : w1.cell? ⟨w.heap.size + 1 + 1, 2, none⟩ = some (.string d.name) := (by rw [cell_of_row _ _ _ _ _ _ KY.out]; rfl); have y3 : w1.cell? ⟨w.heap.size + 1 + 1, 3, none⟩ = some (bv) := (by rw [cell_of_row _ _ _ _ _ _ KY.out]; rfl); have c0 : w1.cell? ⟨w.heap.size + 1 + 1 + 1, 0, none⟩ = some (.int .i64 0) := (by rw [cell_of_row _ _ _ _ _ _ K1.out]; rfl); have c1 : w1.cell? ⟨w.heap.size + 1 + 1 + 1, 1, none⟩ = some (.int .i64 0) := (by rw [cell_of_row _ _ _ _ _ _ K1.out]; rfl); have c2 : w1.cell? ⟨w.heap.size + 1 + 1 + 1, 2, none⟩ = some (.string ⟨#[]⟩) := (by rw [cell_of_row _ _ _ _ _ _ K1.out]; rfl); have c3 : w1.cell? ⟨w.heap.size + 1 + 1 + 1, 3, none⟩ = some (.slice none 0 0) := (by rw [cell_of_row _ _ _ _ _ _ K1.out]; rfl); have cf0 := frozen_of_row _ _ 0 _ _ K1.out; have cf1 := frozen_of_row _ _ 1 _ _ K1.out; have cf2 := frozen_of_row _ _ 2 _ _ K1.out; have cf3 := frozen_of_row _ _ 3 _ _ K1.out; clear hb1))
  have FO := four K1.out (.int .i64 0) (.int .i64 0) (.string ⟨#[]⟩) (.slice none 0 0)
  have PE := FO.2.2.2 _ _ (by omega) B1.out
  generalize ((((w1.setCell ⟨w.heap.size + 1 + 1 + 1, 0, none⟩ (.int .i64 0)).setCell ⟨w.heap.size + 1 + 1 + 1, 1, none⟩ (.int .i64 0)).setCell ⟨w.heap.size + 1 + 1 + 1, 2, none⟩ (.string ⟨#[]⟩)).setCell ⟨w.heap.size + 1 + 1 + 1, 3, none⟩ (.slice none 0 0)) = W3 at *
  have k0 : W3.cell? ⟨w.heap.size + 1 + 1 + 1, 0, none⟩ = some (.int .i64 0) := by rw [cell_of_row _ _ _ _ _ _ FO.1]; rfl
  have k1 : W3.cell? ⟨w.heap.size + 1 + 1 + 1, 1, none⟩ = some (.int .i64 0) := by rw [cell_of_row _ _ _ _ _ _ FO.1]; rfl
  have k2 : W3.cell? ⟨w.heap.size + 1 + 1 + 1, 2, none⟩ = some (.string ⟨#[]⟩) := by rw [cell_of_row _ _ _ _ _ _ FO.1]; rfl
  have k3 : W3.cell? ⟨w.heap.size + 1 + 1 + 1, 3, none⟩ = some (.slice none 0 0) := by rw [cell_of_row _ _ _ _ _ _ FO.1]; rfl
  exact bodyPost_ret (v := .tuple #[zv, .int .i64 1]) (by simp [results, Try.results17, go_sem, k0, k1, k2, k3]) rfl ⟨.slice none 0 0, rfl, zero_own, PE⟩

set_option maxHeartbeats 1000000 in
theorem Replace_number (t d : Tm) (v bv : Value) (x : Int) (w : World) (h : LiesT w t v) (hby : LiesT w d bv) (hval : validB t = true) (hx : numB x = false) : Calls Try.prog 17 #[tv t v, .int .i64 x, tv d bv] w (MadeE z0 1 w) := by
  have HH := Lib.hid h
  have HY := Lib.hid hby
  have HB : Hid (∀ o1 o2 o3 o4, Below w.heap.size w ((((w.alloc o1).alloc o2).alloc o3).alloc o4)) := fun o1 o2 o3 o4 => ((((Below.refl w.heap.size w).alloc (Nat.le_refl _) _).alloc (by simp) _).alloc (by simp <;> omega) _).alloc (by simp <;> omega) _
  have HL : Hid (∀ o1 o2 o3 o4, LiesT ((((w.alloc o1).alloc o2).alloc o3).alloc o4) t v) := fun o1 o2 o3 o4 => HH.out.below (HB.out o1 o2 o3 o4)
  have HR := Lib.hid (rows4 w)
  have HVL := Lib.hid hval
  clear h hval hby
  simp only [tv]
  go_enter Try.func17, Try.ntmps17
  go_wp2_with (first
    | (go_at_call_of 29 (Value.agg #[.int .i64 t.kind, .int .i64 t.num, .string t.name, v]); refine (Valid_any t v _ (HL.out _ _ _ _)).mono ?_; rintro e w1 ⟨rfl, hb1⟩; have z1 : w.heap.size + 4 ≤ w1.heap.size := (by have := hb1.size; simp at this; omega); have K0 := Lib.hid ((hb1.block w.heap.size (by simp <;> omega)).trans (HR.out _ _ _ _).1); have KF := Lib.hid ((hb1.block (w.heap.size + 1) (by simp <;> omega)).trans (HR.out _ _ _ _).2.1); have KY := Lib.hid ((hb1.block (w.heap.size + 1 + 1) (by simp <;> omega)).trans (HR.out _ _ _ _).2.2.1); have K1 := Lib.hid ((hb1.block (w.heap.size + 1 + 1 + 1) (by simp)).trans (HR.out _ _ _ _).2.2.2.1); have B1 := Lib.hid ((HB.out _ _ _ _).trans (hb1.mono (by simp <;> omega))); have hv1 := HVL.out; have pf : w1.cell? ⟨w.heap.size + 1, 0, none⟩ = some (.int .i64 x) := (by rw [cell_of_row _ _ _ _ _ _ KF.out]; rfl); have y0 : w1.cell? ⟨w.heap.size + 1 + 1, 0, none⟩ = some (.int .i64 d.kind) := (by rw [cell_of_row _ _ _ _ _ _ KY.out]; rfl); have y1 : w1.cell? ⟨w.heap.size + 1 + 1, 1, none⟩ = some (.int .i64 d.num) := (by rw [cell_of_row _ _ _ _ _ _ KY.out]; rfl); have y2 : w1.cell? ⟨w.heap.size + 1 + 1, 2, none⟩ = some (.string d.name) := (by rw [cell_of_row _ _ _ _ _ _ KY.out]; rfl); have y3 : w1.cell? ⟨w.heap.size + 1 + 1, 3, none⟩ = some (bv) := (by rw [cell_of_row _ _ _ _ _ _ KY.out]; rfl); have c0 : w1.cell? ⟨w.heap.size + 1 + 1 + 1, 0, none⟩ = some (.int .i64 0) := (by rw [cell_of_row _ _ _ _ _ _ K1.out]; rfl); have c1 : w1.cell? ⟨w.heap.size + 1 + 1 + 1, 1, none⟩ = some (.int .i64 0) := (by rw [cell_of_row _ _ _ _ _ _ K1.out]; rfl); have c2 : w1.cell? ⟨w.heap.size + 1 + 1 + 1, 2, none⟩ = some (.string ⟨#[]⟩) := (by rw [cell_of_row _ _ _ _ _ _ K1.out]; rfl); have c3 : w1.cell? ⟨w.heap.size + 1 + 1 + 1, 3, none⟩ = some (.slice none 0 0) := (by rw [cell_of_row _ _ _ _ _ _ K1.out]; rfl); have cf0 := frozen_of_row _ _ 0 _ _ K1.out; have cf1 := frozen_of_row _ _ 1 _ _ K1.out; have cf2 := frozen_of_row _ _ 2 _ _ K1.out; have cf3 := frozen_of_row _ _ 3 _ _ K1.out; clear hb1)
    | (go_at_call 43; refine (isNumber_any _ _).mono ?_; rintro e w' ⟨rfl, rfl⟩))
  have FO := four K1.out (.int .i64 0) (.int .i64 0) (.string ⟨#[]⟩) (.slice none 0 0)
  have PE := FO.2.2.2 _ _ (by omega) B1.out
  generalize ((((w1.setCell ⟨w.heap.size + 1 + 1 + 1, 0, none⟩ (.int .i64 0)).setCell ⟨w.heap.size + 1 + 1 + 1, 1, none⟩ (.int .i64 0)).setCell ⟨w.heap.size + 1 + 1 + 1, 2, none⟩ (.string ⟨#[]⟩)).setCell ⟨w.heap.size + 1 + 1 + 1, 3, none⟩ (.slice none 0 0)) = W3 at *
  have k0 : W3.cell? ⟨w.heap.size + 1 + 1 + 1, 0, none⟩ = some (.int .i64 0) := by rw [cell_of_row _ _ _ _ _ _ FO.1]; rfl
  have k1 : W3.cell? ⟨w.heap.size + 1 + 1 + 1, 1, none⟩ = some (.int .i64 0) := by rw [cell_of_row _ _ _ _ _ _ FO.1]; rfl
  have k2 : W3.cell? ⟨w.heap.size + 1 + 1 + 1, 2, none⟩ = some (.string ⟨#[]⟩) := by rw [cell_of_row _ _ _ _ _ _ FO.1]; rfl
  have k3 : W3.cell? ⟨w.heap.size + 1 + 1 + 1, 3, none⟩ = some (.slice none 0 0) := by rw [cell_of_row _ _ _ _ _ _ FO.1]; rfl
  exact bodyPost_ret (v := .tuple #[zv, .int .i64 1]) (by simp [results, Try.results17, go_sem, k0, k1, k2, k3]) rfl ⟨.slice none 0 0, rfl, zero_own, PE⟩

set_option maxHeartbeats 1000000 in
theorem Replace_by (t d : Tm) (v bv : Value) (x : Int) (w : World) (h : LiesT w t v) (hby : LiesT w d bv) (hval : validB t = true) (hx : numB x = true) (hyv : validB d = false) : Calls Try.prog 17 #[tv t v, .int .i64 x, tv d bv] w (MadeE z0 1 w) := by
  have HYL := Lib.hid hyv
  clear hyv
  have HH := Lib.hid h
  have HY := Lib.hid hby
  have HB : Hid (∀ o1 o2 o3 o4, Below w.heap.size w ((((w.alloc o1).alloc o2).alloc o3).alloc o4)) := fun o1 o2 o3 o4 => ((((Below.refl w.heap.size w).alloc (Nat.le_refl _) _).alloc (by simp) _).alloc (by simp <;> omega) _).alloc (by simp <;> omega) _
  have HL : Hid (∀ o1 o2 o3 o4, LiesT ((((w.alloc o1).alloc o2).alloc o3).alloc o4) t v) := fun o1 o2 o3 o4 => HH.out.below (HB.out o1 o2 o3 o4)
  have HR := Lib.hid (rows4 w)
  have HVL := Lib.hid hval
  clear h hval hby
  simp only [tv]
  go_enter Try.func17, Try.ntmps17
  go_wp2_with (first
    | (go_at_call_of 29 (Value.agg #[.int .i64 t.kind, .int .i64 t.num, .string t.name, v]); refine (Valid_any t v _ (HL.out _ _ _ _)).mono ?_; rintro e w1 ⟨rfl, hb1⟩; have z1 : w.heap.size + 4 ≤ w1.heap.size := (by have := hb1.size; simp at this; omega); have K0 := Lib.hid ((hb1.block w.heap.size (by simp <;> omega)).trans (HR.out _ _ _ _).1); have KF := Lib.hid ((hb1.block (w.heap.size + 1) (by simp <;> omega)).trans (HR.out _ _ _ _).2.1); have KY := Lib.hid ((hb1.block (w.heap.size + 1 + 1) (by simp <;> omega)).trans (HR.out _ _ _ _).2.2.1); have K1 := Lib.hid ((hb1.block (w.heap.size + 1 + 1 + 1) (by simp)).trans (HR.out _ _ _ _).2.2.2.1); have B1 := Lib.hid ((HB.out _ _ _ _).trans (hb1.mono (by simp <;> omega))); have hv1 := HVL.out; have pf : w1.cell? ⟨w.heap.size + 1, 0, none⟩ = some (.int .i64 x) := (by rw [cell_of_row _ _ _ _ _ _ KF.out]; rfl); have y0 : w1.cell? ⟨w.heap.size + 1 + 1, 0, none⟩ = some (.int .i64 d.kind) := (by rw [cell_of_row _ _ _ _ _ _ KY.out]; rfl); have y1 : w1.cell? ⟨w.heap.size + 1 + 1, 1, none⟩ = some (.int .i64 d.num) := (by rw [cell_of_row _ _ _ _ _ _ KY.out]; rfl); have y2 : w1.cell? ⟨w.heap.size + 1 + 1, 2, none⟩ = some (.string d.name) := (by rw [cell_of_row _ _ _ _ _ _ KY.out]; rfl); have y3 : w1.cell? ⟨w.heap.size + 1 + 1, 3, none⟩ = some (bv) := (by rw [cell_of_row _ _ _ _ _ _ KY.out]; rfl); clear hb1)
    | (go_at_call 43; refine (isNumber_any _ _).mono ?_; rintro e w' ⟨rfl, rfl⟩)
    | (go_at_call_of 29 (Value.agg #[.int .i64 d.kind, .int .i64 d.num, .string d.name, bv]); refine (Valid_any d bv _ (HY.out.below B1.out)).mono ?_; rintro e w2 ⟨rfl, hb2⟩; have z2 : w1.heap.size ≤ w2.heap.size := hb2.size; have J0 := Lib.hid ((hb2.block w.heap.size (by omega)).trans K0.out); have JF := Lib.hid ((hb2.block (w.heap.size + 1) (by omega)).trans KF.out); have JY := Lib.hid ((hb2.block (w.heap.size + 1 + 1) (by omega)).trans KY.out); have J1 := Lib.hid ((hb2.block (w.heap.size + 1 + 1 + 1) (by omega)).trans K1.out); have B2 := Lib.hid (B1.out.trans (hb2.mono B1.out.size)); have hv2 := HYL.out; have d0 : w2.cell? ⟨w.heap.size + 1 + 1 + 1, 0, none⟩ = some (.int .i64 0) := (by rw [cell_of_row _ _ _ _ _ _ J1.out]; rfl); have d1 : w2.cell? ⟨w.heap.size + 1 + 1 + 1, 1, none⟩ = some (.int .i64 0) := (by rw [cell_of_row _ _ _ _ _ _ J1.out]; rfl); have d2 : w2.cell? ⟨w.heap.size + 1 + 1 + 1, 2, none⟩ = some (.string ⟨#[]⟩) := (by rw [cell_of_row _ _ _ _ _ _ J1.out]; rfl); have d3 : w2.cell? ⟨w.heap.size + 1 + 1 + 1, 3, none⟩ = some (.slice none 0 0) := (by rw [cell_of_row _ _ _ _ _ _ J1.out]; rfl); have df0 := frozen_of_row _ _ 0 _ _ J1.out; have df1 := frozen_of_row _ _ 1 _ _ J1.out; have df2 := frozen_of_row _ _ 2 _ _ J1.out; have df3 := frozen_of_row _ _ 3 _ _ J1.out; clear hb2))
  have FO := four J1.out (.int .i64 0) (.int .i64 0) (.string ⟨#[]⟩) (.slice none 0 0)
  have PE := FO.2.2.2 _ _ (by omega) B2.out
  generalize ((((w2.setCell ⟨w.heap.size + 1 + 1 + 1, 0, none⟩ (.int .i64 0)).setCell ⟨w.heap.size + 1 + 1 + 1, 1, none⟩ (.int .i64 0)).setCell ⟨w.heap.size + 1 + 1 + 1, 2, none⟩ (.string ⟨#[]⟩)).setCell ⟨w.heap.size + 1 + 1 + 1, 3, none⟩ (.slice none 0 0)) = W3 at *
  have k0 : W3.cell? ⟨w.heap.size + 1 + 1 + 1, 0, none⟩ = some (.int .i64 0) := by rw [cell_of_row _ _ _ _ _ _ FO.1]; rfl
  have k1 : W3.cell? ⟨w.heap.size + 1 + 1 + 1, 1, none⟩ = some (.int .i64 0) := by rw [cell_of_row _ _ _ _ _ _ FO.1]; rfl
  have k2 : W3.cell? ⟨w.heap.size + 1 + 1 + 1, 2, none⟩ = some (.string ⟨#[]⟩) := by rw [cell_of_row _ _ _ _ _ _ FO.1]; rfl
  have k3 : W3.cell? ⟨w.heap.size + 1 + 1 + 1, 3, none⟩ = some (.slice none 0 0) := by rw [cell_of_row _ _ _ _ _ _ FO.1]; rfl
  exact bodyPost_ret (v := .tuple #[zv, .int .i64 1]) (by simp [results, Try.results17, go_sem, k0, k1, k2, k3]) rfl ⟨.slice none 0 0, rfl, zero_own, PE⟩

/-- How often a variable occurs. -/
def occT (x : Int) (t : Tm) : Nat := occN x (pre t)
theorem vr_start (x : Int) (w w2 : World) (z : w.heap.size + 2 ≤ w2.heap.size) (h : w2.heap[w.heap.size + 1]? = some (.cells #[.int .i64 x] 2 (0, 0))) :
    VR x (w.heap.size + 1) w2.heap.size [] (fun g => g = w.heap.size + 1 ∨ g = w2.heap.size) (w2.alloc (.cells #[.int .i64 0] 3)) :=
  ⟨fun _ => Iff.rfl, by rw [Below.heap_alloc _ _ _ (by omega)]; exact h, by rw [heap_alloc_new]; rfl⟩
/-- The size of the result. -/
def repN (t d : Tm) (x : Int) : Int := cnt t + occT x t * ((cnt d : Int) - 1)
theorem cntM_val {t : Tm} (h : cnt t ≤ 2000) : cntM t 2001 = cnt t := by unfold cntM; rw [if_pos (by omega)]
theorem prod_bd (o q : Nat) (ho : o ≤ 2001) (hq : q ≤ 2000) : 0 ≤ (o : Int) * (q : Int) ∧ (o : Int) * (q : Int) ≤ 10000000 := by
  have h := Nat.mul_le_mul ho hq
  have h2 : ((o * q : Nat) : Int) = (o : Int) * (q : Int) := by simp
  omega

set_option maxHeartbeats 2000000 in
theorem Replace_long (t d : Tm) (v bv : Value) (x : Int) (w : World) (h : LiesT w t v) (hby : LiesT w d bv) (hval : validB t = true) (hx : numB x = true) (hyv : validB d = true) (hlong : decide (2000 < repN t d x) = true) : Calls Try.prog 17 #[tv t v, .int .i64 x, tv d bv] w (MadeE z0 2 w) := by
  have HYL := Lib.hid hyv
  have HTK : Hid (occN x ((pre t).take 2001) = occT x t) := by show _ = _; rw [List.take_of_length_le (by rw [pre_len]; have := (validB_nodes hval).2; omega)]; rfl
  have HCT : Hid (cntM t 2001 = cnt t) := cntM_val (validB_nodes hval).2
  have HCB : Hid (cntM d 2001 = cnt d) := cntM_val (validB_nodes hyv).2
  have hc1 := (validB_nodes hval).2
  have hc2 := (validB_nodes hyv).2
  have hc3 := cnt_pos d
  have hoc : occT x t ≤ 2000 := by have := occN_le x (pre t); rw [pre_len] at this; unfold occT; omega
  obtain ⟨q, hq⟩ : ∃ q : Nat, cnt d = q + 1 := ⟨cnt d - 1, by omega⟩
  have hpb := prod_bd (occT x t) q (by omega) (by omega)
  have e1 : (cnt d : Int) - 1 = q := by omega
  unfold repN at hlong
  rw [e1] at hlong
  obtain ⟨p, hp⟩ : ∃ p : Int, (occT x t : Int) * (q : Int) = p := ⟨_, rfl⟩
  rw [hp] at hpb hlong
  have W1 : IntKind.i64.wrap (cntM d 2001 - 1) = q := by rw [HCB.out, e1]; exact IntWalk.i64_in _ (by omega)
  have W2 : IntKind.i64.wrap ((occT x t : Int) * (q : Int)) = p := by rw [hp]; exact IntWalk.i64_in _ (by omega)
  have W3 : IntKind.i64.wrap (cntM t 2001 + p) = cnt t + p := by rw [HCT.out]; exact IntWalk.i64_in _ (by omega)
  have HW1 := Lib.hid W1
  have HW2 := Lib.hid W2
  have HW3 := Lib.hid W3
  have HLONG := Lib.hid hlong
  clear hyv hc1 hc2 hc3 hoc hpb e1 hq hp W1 W2 W3 hlong
  have HH := Lib.hid h
  have HY := Lib.hid hby
  have HB : Hid (∀ o1 o2 o3 o4, Below w.heap.size w ((((w.alloc o1).alloc o2).alloc o3).alloc o4)) := fun o1 o2 o3 o4 => ((((Below.refl w.heap.size w).alloc (Nat.le_refl _) _).alloc (by simp) _).alloc (by simp <;> omega) _).alloc (by simp <;> omega) _
  have HL : Hid (∀ o1 o2 o3 o4, LiesT ((((w.alloc o1).alloc o2).alloc o3).alloc o4) t v) := fun o1 o2 o3 o4 => HH.out.below (HB.out o1 o2 o3 o4)
  have HR := Lib.hid (rows4 w)
  have HVL := Lib.hid hval
  clear h hval hby
  simp only [tv]
  go_enter Try.func17, Try.ntmps17
  go_wp2_with (first
    | (go_at_call_of 29 (Value.agg #[.int .i64 t.kind, .int .i64 t.num, .string t.name, v]); refine (Valid_any t v _ (HL.out _ _ _ _)).mono ?_; rintro e w1 ⟨rfl, hb1⟩; have z1 : w.heap.size + 4 ≤ w1.heap.size := (by have := hb1.size; simp at this; omega); have K0 := Lib.hid ((hb1.block w.heap.size (by simp <;> omega)).trans (HR.out _ _ _ _).1); have KF := Lib.hid ((hb1.block (w.heap.size + 1) (by simp <;> omega)).trans (HR.out _ _ _ _).2.1); have KY := Lib.hid ((hb1.block (w.heap.size + 1 + 1) (by simp <;> omega)).trans (HR.out _ _ _ _).2.2.1); have K1 := Lib.hid ((hb1.block (w.heap.size + 1 + 1 + 1) (by simp)).trans (HR.out _ _ _ _).2.2.2.1); have B1 := Lib.hid ((HB.out _ _ _ _).trans (hb1.mono (by simp <;> omega))); have hv1 := HVL.out; have pf : w1.cell? ⟨w.heap.size + 1, 0, none⟩ = some (.int .i64 x) := (by rw [cell_of_row _ _ _ _ _ _ KF.out]; rfl); have y0 : w1.cell? ⟨w.heap.size + 1 + 1, 0, none⟩ = some (.int .i64 d.kind) := (by rw [cell_of_row _ _ _ _ _ _ KY.out]; rfl); have y1 : w1.cell? ⟨w.heap.size + 1 + 1, 1, none⟩ = some (.int .i64 d.num) := (by rw [cell_of_row _ _ _ _ _ _ KY.out]; rfl); have y2 : w1.cell? ⟨w.heap.size + 1 + 1, 2, none⟩ = some (.string d.name) := (by rw [cell_of_row _ _ _ _ _ _ KY.out]; rfl); have y3 : w1.cell? ⟨w.heap.size + 1 + 1, 3, none⟩ = some (bv) := (by rw [cell_of_row _ _ _ _ _ _ KY.out]; rfl); clear hb1)
    | (go_at_call 43; refine (isNumber_any _ _).mono ?_; rintro e w' ⟨rfl, rfl⟩)
    | (go_at_call_of 29 (Value.agg #[.int .i64 d.kind, .int .i64 d.num, .string d.name, bv]); refine (Valid_any d bv _ (HY.out.below B1.out)).mono ?_; rintro e w2 ⟨rfl, hb2⟩; have z2 : w1.heap.size ≤ w2.heap.size := hb2.size; have J0 := Lib.hid ((hb2.block w.heap.size (by omega)).trans K0.out); have JF := Lib.hid ((hb2.block (w.heap.size + 1) (by omega)).trans KF.out); have JY := Lib.hid ((hb2.block (w.heap.size + 1 + 1) (by omega)).trans KY.out); have J1 := Lib.hid ((hb2.block (w.heap.size + 1 + 1 + 1) (by omega)).trans K1.out); have B2 := Lib.hid (B1.out.trans (hb2.mono B1.out.size)); have hv2 := HYL.out; have d0 : w2.cell? ⟨w.heap.size, 0, none⟩ = some (.int .i64 t.kind) := (by rw [cell_of_row _ _ _ _ _ _ J0.out]; rfl); have d1 : w2.cell? ⟨w.heap.size, 1, none⟩ = some (.int .i64 t.num) := (by rw [cell_of_row _ _ _ _ _ _ J0.out]; rfl); have d2 : w2.cell? ⟨w.heap.size, 2, none⟩ = some (.string t.name) := (by rw [cell_of_row _ _ _ _ _ _ J0.out]; rfl); have d3 : w2.cell? ⟨w.heap.size, 3, none⟩ = some (v) := (by rw [cell_of_row _ _ _ _ _ _ J0.out]; rfl); have zz0 : w.heap.size < w2.heap.size := (by omega); clear hb2)
    | (go_at_call 50; refine (walk_repl (VR x (w.heap.size + 1) w2.heap.size) (VR_keep _ _ _) w (.pointer (some ⟨w.heap.size + 1, 0, none⟩)) (.pointer (some ⟨w2.heap.size, 0, none⟩)) (Lib.hid (fun ns own t v w' h0 h1 _ h3 => repl_visit x _ _ (by omega) w (by omega) ns own t v w' h0 h1 h3)) t v (fun g => g = w.heap.size + 1 ∨ g = w2.heap.size) _ HH.out (vr_start x w w2 (by omega) JF.out) (B2.out.alloc B2.out.size _)).mono ?_; rintro e w3 ⟨rfl, own3, ⟨hvo, hva, hvb⟩, _, hz3, hf3, hb3⟩; rw [HTK.out] at hvb; have z3 : w2.heap.size + 1 ≤ w3.heap.size := (by simpa using hz3); have L0 := Lib.hid ((hf3 w.heap.size (by simp <;> omega) (by omega)).trans ((Below.heap_alloc _ _ _ (by omega)).trans J0.out)); have LY := Lib.hid ((hf3 (w.heap.size + 1 + 1) (by simp <;> omega) (by omega)).trans ((Below.heap_alloc _ _ _ (by omega)).trans JY.out)); have L1 := Lib.hid ((hf3 (w.heap.size + 1 + 1 + 1) (by simp <;> omega) (by omega)).trans ((Below.heap_alloc _ _ _ (by omega)).trans J1.out)); have LF := Lib.hid hva; have LO := Lib.hid hvb; have B3 := Lib.hid hb3; have oc : w3.cell? ⟨w2.heap.size, 0, none⟩ = some (.int .i64 (occT x t)) := (by rw [cell_of_row _ _ _ _ _ _ LO.out]; rfl); have yy0 : w3.cell? ⟨w.heap.size + 1 + 1, 0, none⟩ = some (.int .i64 d.kind) := (by rw [cell_of_row _ _ _ _ _ _ LY.out]; rfl); have yy1 : w3.cell? ⟨w.heap.size + 1 + 1, 1, none⟩ = some (.int .i64 d.num) := (by rw [cell_of_row _ _ _ _ _ _ LY.out]; rfl); have yy2 : w3.cell? ⟨w.heap.size + 1 + 1, 2, none⟩ = some (.string d.name) := (by rw [cell_of_row _ _ _ _ _ _ LY.out]; rfl); have yy3 : w3.cell? ⟨w.heap.size + 1 + 1, 3, none⟩ = some (bv) := (by rw [cell_of_row _ _ _ _ _ _ LY.out]; rfl); clear hvo hva hvb hz3 hf3 hb3))
  have W1 := HW1.out
  have W2 := HW2.out
  have W3 := HW3.out
  have hlong := HLONG.out
  have hS0 : Below w3.heap.size w3 w3.drew := (Below.refl _ _).drew
  go_region_held3 (fun w' => Below w3.heap.size w3 w' ∧ w'.cell? ⟨w2.heap.size, 0, none⟩ = some (.int .i64 (occT x t)) ∧ w'.cell? ⟨w.heap.size + 1 + 1, 0, none⟩ = some (.int .i64 d.kind) ∧ w'.cell? ⟨w.heap.size + 1 + 1, 1, none⟩ = some (.int .i64 d.num) ∧ w'.cell? ⟨w.heap.size + 1 + 1, 2, none⟩ = some (.string d.name) ∧ w'.cell? ⟨w.heap.size + 1 + 1, 3, none⟩ = some bv)
    (first | exact ⟨h5, cell_below h5 _ _ oc, cell_below h5 _ _ yy0, cell_below h5 _ _ yy1, cell_below h5 _ _ yy2, cell_below h5 _ _ yy3⟩ | exact ⟨hS0, oc, yy0, yy1, yy2, yy3⟩ | go_keep)
    (first | (go_at_call 32; refine (Size_any d bv _ (HY.out.below (B3.out.trans (Below.mono ‹Below w3.heap.size w3 _› B3.out.size)))).mono ?_; rintro e w4 ⟨rfl, hb4⟩; have h5 : Below w3.heap.size w3 w4 := Below.trans ‹Below w3.heap.size w3 _› (hb4.mono (Below.size ‹Below w3.heap.size w3 _›))))
  have z3b : w.heap.size + 4 ≤ w3.heap.size := (Array.getElem?_eq_some_iff.1 L1.out).1
  have M1 := Lib.hid ((h5.block (w.heap.size + 1 + 1 + 1) (by omega)).trans L1.out)
  have B4 := Lib.hid (B3.out.trans (h5.mono B3.out.size))
  have m0 : w4.cell? ⟨w.heap.size + 1 + 1 + 1, 0, none⟩ = some (.int .i64 0) := (by rw [cell_of_row _ _ _ _ _ _ M1.out]; rfl)
  have m1 : w4.cell? ⟨w.heap.size + 1 + 1 + 1, 1, none⟩ = some (.int .i64 0) := (by rw [cell_of_row _ _ _ _ _ _ M1.out]; rfl)
  have m2 : w4.cell? ⟨w.heap.size + 1 + 1 + 1, 2, none⟩ = some (.string ⟨#[]⟩) := (by rw [cell_of_row _ _ _ _ _ _ M1.out]; rfl)
  have m3 : w4.cell? ⟨w.heap.size + 1 + 1 + 1, 3, none⟩ = some (.slice none 0 0) := (by rw [cell_of_row _ _ _ _ _ _ M1.out]; rfl)
  have mf0 := frozen_of_row _ _ 0 _ _ M1.out
  have mf1 := frozen_of_row _ _ 1 _ _ M1.out
  have mf2 := frozen_of_row _ _ 2 _ _ M1.out
  have mf3 := frozen_of_row _ _ 3 _ _ M1.out
  clear h5
  go_wp2_with fail
  have FO := four M1.out (.int .i64 0) (.int .i64 0) (.string ⟨#[]⟩) (.slice none 0 0)
  have PE := FO.2.2.2 _ _ (by omega) B4.out
  generalize ((((w4.setCell ⟨w.heap.size + 1 + 1 + 1, 0, none⟩ (.int .i64 0)).setCell ⟨w.heap.size + 1 + 1 + 1, 1, none⟩ (.int .i64 0)).setCell ⟨w.heap.size + 1 + 1 + 1, 2, none⟩ (.string ⟨#[]⟩)).setCell ⟨w.heap.size + 1 + 1 + 1, 3, none⟩ (.slice none 0 0)) = W3 at *
  have k0 : W3.cell? ⟨w.heap.size + 1 + 1 + 1, 0, none⟩ = some (.int .i64 0) := by rw [cell_of_row _ _ _ _ _ _ FO.1]; rfl
  have k1 : W3.cell? ⟨w.heap.size + 1 + 1 + 1, 1, none⟩ = some (.int .i64 0) := by rw [cell_of_row _ _ _ _ _ _ FO.1]; rfl
  have k2 : W3.cell? ⟨w.heap.size + 1 + 1 + 1, 2, none⟩ = some (.string ⟨#[]⟩) := by rw [cell_of_row _ _ _ _ _ _ FO.1]; rfl
  have k3 : W3.cell? ⟨w.heap.size + 1 + 1 + 1, 3, none⟩ = some (.slice none 0 0) := by rw [cell_of_row _ _ _ _ _ _ FO.1]; rfl
  exact bodyPost_ret (v := .tuple #[zv, .int .i64 2]) (by simp [results, Try.results17, go_sem, k0, k1, k2, k3]) rfl ⟨.slice none 0 0, rfl, zero_own, PE⟩

set_option maxHeartbeats 2000000 in
theorem Replace_yes (t d : Tm) (v bv : Value) (x : Int) (w : World) (h : LiesT w t v) (hby : LiesT w d bv) (hval : validB t = true) (hx : numB x = true) (hyv : validB d = true) (hlong : decide (2000 < repN t d x) = false) : Calls Try.prog 17 #[tv t v, .int .i64 x, tv d bv] w (MadeE (mapT (gR x d) t) 0 w) := by
  have HN := Lib.hid (validB_nodes hval).1
  have HND := Lib.hid (validB_nodes hyv).1
  have HYL := Lib.hid hyv
  have HTK : Hid (occN x ((pre t).take 2001) = occT x t) := by show _ = _; rw [List.take_of_length_le (by rw [pre_len]; have := (validB_nodes hval).2; omega)]; rfl
  have HCT : Hid (cntM t 2001 = cnt t) := cntM_val (validB_nodes hval).2
  have HCB : Hid (cntM d 2001 = cnt d) := cntM_val (validB_nodes hyv).2
  have hc1 := (validB_nodes hval).2
  have hc2 := (validB_nodes hyv).2
  have hc3 := cnt_pos d
  have hoc : occT x t ≤ 2000 := by have := occN_le x (pre t); rw [pre_len] at this; unfold occT; omega
  obtain ⟨q, hq⟩ : ∃ q : Nat, cnt d = q + 1 := ⟨cnt d - 1, by omega⟩
  have hpb := prod_bd (occT x t) q (by omega) (by omega)
  have e1 : (cnt d : Int) - 1 = q := by omega
  unfold repN at hlong
  rw [e1] at hlong
  obtain ⟨p, hp⟩ : ∃ p : Int, (occT x t : Int) * (q : Int) = p := ⟨_, rfl⟩
  rw [hp] at hpb hlong
  have W1 : IntKind.i64.wrap (cntM d 2001 - 1) = q := by rw [HCB.out, e1]; exact IntWalk.i64_in _ (by omega)
  have W2 : IntKind.i64.wrap ((occT x t : Int) * (q : Int)) = p := by rw [hp]; exact IntWalk.i64_in _ (by omega)
  have W3 : IntKind.i64.wrap (cntM t 2001 + p) = cnt t + p := by rw [HCT.out]; exact IntWalk.i64_in _ (by omega)
  have HW1 := Lib.hid W1
  have HW2 := Lib.hid W2
  have HW3 := Lib.hid W3
  have HLONG := Lib.hid hlong
  clear hyv hc1 hc2 hc3 hoc hpb e1 hq hp W1 W2 W3 hlong
  have HH := Lib.hid h
  have HY := Lib.hid hby
  have HB : Hid (∀ o1 o2 o3 o4, Below w.heap.size w ((((w.alloc o1).alloc o2).alloc o3).alloc o4)) := fun o1 o2 o3 o4 => ((((Below.refl w.heap.size w).alloc (Nat.le_refl _) _).alloc (by simp) _).alloc (by simp <;> omega) _).alloc (by simp <;> omega) _
  have HL : Hid (∀ o1 o2 o3 o4, LiesT ((((w.alloc o1).alloc o2).alloc o3).alloc o4) t v) := fun o1 o2 o3 o4 => HH.out.below (HB.out o1 o2 o3 o4)
  have HR := Lib.hid (rows4 w)
  have HVL := Lib.hid hval
  clear h hval hby
  simp only [tv]
  go_enter Try.func17, Try.ntmps17
  go_wp2_with (first
    | (go_at_call_of 29 (Value.agg #[.int .i64 t.kind, .int .i64 t.num, .string t.name, v]); refine (Valid_any t v _ (HL.out _ _ _ _)).mono ?_; rintro e w1 ⟨rfl, hb1⟩; have z1 : w.heap.size + 4 ≤ w1.heap.size := (by have := hb1.size; simp at this; omega); have K0 := Lib.hid ((hb1.block w.heap.size (by simp <;> omega)).trans (HR.out _ _ _ _).1); have KF := Lib.hid ((hb1.block (w.heap.size + 1) (by simp <;> omega)).trans (HR.out _ _ _ _).2.1); have KY := Lib.hid ((hb1.block (w.heap.size + 1 + 1) (by simp <;> omega)).trans (HR.out _ _ _ _).2.2.1); have K1 := Lib.hid ((hb1.block (w.heap.size + 1 + 1 + 1) (by simp)).trans (HR.out _ _ _ _).2.2.2.1); have B1 := Lib.hid ((HB.out _ _ _ _).trans (hb1.mono (by simp <;> omega))); have hv1 := HVL.out; have pf : w1.cell? ⟨w.heap.size + 1, 0, none⟩ = some (.int .i64 x) := (by rw [cell_of_row _ _ _ _ _ _ KF.out]; rfl); have y0 : w1.cell? ⟨w.heap.size + 1 + 1, 0, none⟩ = some (.int .i64 d.kind) := (by rw [cell_of_row _ _ _ _ _ _ KY.out]; rfl); have y1 : w1.cell? ⟨w.heap.size + 1 + 1, 1, none⟩ = some (.int .i64 d.num) := (by rw [cell_of_row _ _ _ _ _ _ KY.out]; rfl); have y2 : w1.cell? ⟨w.heap.size + 1 + 1, 2, none⟩ = some (.string d.name) := (by rw [cell_of_row _ _ _ _ _ _ KY.out]; rfl); have y3 : w1.cell? ⟨w.heap.size + 1 + 1, 3, none⟩ = some (bv) := (by rw [cell_of_row _ _ _ _ _ _ KY.out]; rfl); clear hb1)
    | (go_at_call 43; refine (isNumber_any _ _).mono ?_; rintro e w' ⟨rfl, rfl⟩)
    | (go_at_call_of 29 (Value.agg #[.int .i64 d.kind, .int .i64 d.num, .string d.name, bv]); refine (Valid_any d bv _ (HY.out.below B1.out)).mono ?_; rintro e w2 ⟨rfl, hb2⟩; have z2 : w1.heap.size ≤ w2.heap.size := hb2.size; have J0 := Lib.hid ((hb2.block w.heap.size (by omega)).trans K0.out); have JF := Lib.hid ((hb2.block (w.heap.size + 1) (by omega)).trans KF.out); have JY := Lib.hid ((hb2.block (w.heap.size + 1 + 1) (by omega)).trans KY.out); have J1 := Lib.hid ((hb2.block (w.heap.size + 1 + 1 + 1) (by omega)).trans K1.out); have B2 := Lib.hid (B1.out.trans (hb2.mono B1.out.size)); have hv2 := HYL.out; have d0 : w2.cell? ⟨w.heap.size, 0, none⟩ = some (.int .i64 t.kind) := (by rw [cell_of_row _ _ _ _ _ _ J0.out]; rfl); have d1 : w2.cell? ⟨w.heap.size, 1, none⟩ = some (.int .i64 t.num) := (by rw [cell_of_row _ _ _ _ _ _ J0.out]; rfl); have d2 : w2.cell? ⟨w.heap.size, 2, none⟩ = some (.string t.name) := (by rw [cell_of_row _ _ _ _ _ _ J0.out]; rfl); have d3 : w2.cell? ⟨w.heap.size, 3, none⟩ = some (v) := (by rw [cell_of_row _ _ _ _ _ _ J0.out]; rfl); have zz0 : w.heap.size < w2.heap.size := (by omega); clear hb2)
    | (go_at_call 50; refine (walk_repl (VR x (w.heap.size + 1) w2.heap.size) (VR_keep _ _ _) w (.pointer (some ⟨w.heap.size + 1, 0, none⟩)) (.pointer (some ⟨w2.heap.size, 0, none⟩)) (Lib.hid (fun ns own t v w' h0 h1 _ h3 => repl_visit x _ _ (by omega) w (by omega) ns own t v w' h0 h1 h3)) t v (fun g => g = w.heap.size + 1 ∨ g = w2.heap.size) _ HH.out (vr_start x w w2 (by omega) JF.out) (B2.out.alloc B2.out.size _)).mono ?_; rintro e w3 ⟨rfl, own3, ⟨hvo, hva, hvb⟩, _, hz3, hf3, hb3⟩; rw [HTK.out] at hvb; have z3 : w2.heap.size + 1 ≤ w3.heap.size := (by simpa using hz3); have L0 := Lib.hid ((hf3 w.heap.size (by simp <;> omega) (by omega)).trans ((Below.heap_alloc _ _ _ (by omega)).trans J0.out)); have LY := Lib.hid ((hf3 (w.heap.size + 1 + 1) (by simp <;> omega) (by omega)).trans ((Below.heap_alloc _ _ _ (by omega)).trans JY.out)); have L1 := Lib.hid ((hf3 (w.heap.size + 1 + 1 + 1) (by simp <;> omega) (by omega)).trans ((Below.heap_alloc _ _ _ (by omega)).trans J1.out)); have LF := Lib.hid hva; have LO := Lib.hid hvb; have B3 := Lib.hid hb3; have oc : w3.cell? ⟨w2.heap.size, 0, none⟩ = some (.int .i64 (occT x t)) := (by rw [cell_of_row _ _ _ _ _ _ LO.out]; rfl); have yy0 : w3.cell? ⟨w.heap.size + 1 + 1, 0, none⟩ = some (.int .i64 d.kind) := (by rw [cell_of_row _ _ _ _ _ _ LY.out]; rfl); have yy1 : w3.cell? ⟨w.heap.size + 1 + 1, 1, none⟩ = some (.int .i64 d.num) := (by rw [cell_of_row _ _ _ _ _ _ LY.out]; rfl); have yy2 : w3.cell? ⟨w.heap.size + 1 + 1, 2, none⟩ = some (.string d.name) := (by rw [cell_of_row _ _ _ _ _ _ LY.out]; rfl); have yy3 : w3.cell? ⟨w.heap.size + 1 + 1, 3, none⟩ = some (bv) := (by rw [cell_of_row _ _ _ _ _ _ LY.out]; rfl); clear hvo hva hvb hz3 hf3 hb3))
  have W1 := HW1.out
  have W2 := HW2.out
  have W3 := HW3.out
  have hlong := HLONG.out
  have hS0 : Below w3.heap.size w3 w3.drew := (Below.refl _ _).drew
  go_region_held3 (fun w' => Below w3.heap.size w3 w' ∧ w'.cell? ⟨w2.heap.size, 0, none⟩ = some (.int .i64 (occT x t)) ∧ w'.cell? ⟨w.heap.size + 1 + 1, 0, none⟩ = some (.int .i64 d.kind) ∧ w'.cell? ⟨w.heap.size + 1 + 1, 1, none⟩ = some (.int .i64 d.num) ∧ w'.cell? ⟨w.heap.size + 1 + 1, 2, none⟩ = some (.string d.name) ∧ w'.cell? ⟨w.heap.size + 1 + 1, 3, none⟩ = some bv)
    (first | exact ⟨h5, cell_below h5 _ _ oc, cell_below h5 _ _ yy0, cell_below h5 _ _ yy1, cell_below h5 _ _ yy2, cell_below h5 _ _ yy3⟩ | exact ⟨hS0, oc, yy0, yy1, yy2, yy3⟩ | go_keep)
    (first | (go_at_call 32; refine (Size_any d bv _ (HY.out.below (B3.out.trans (Below.mono ‹Below w3.heap.size w3 _› B3.out.size)))).mono ?_; rintro e w4 ⟨rfl, hb4⟩; have h5 : Below w3.heap.size w3 w4 := Below.trans ‹Below w3.heap.size w3 _› (hb4.mono (Below.size ‹Below w3.heap.size w3 _›))))
  have z3b : w.heap.size + 4 ≤ w3.heap.size := (Array.getElem?_eq_some_iff.1 L1.out).1
  have M1 := Lib.hid ((h5.block (w.heap.size + 1 + 1 + 1) (by omega)).trans L1.out)
  have B4 := Lib.hid (B3.out.trans (h5.mono B3.out.size))
  have M0 := Lib.hid ((h5.block w.heap.size (by omega)).trans L0.out)
  have MF := Lib.hid ((h5.block (w.heap.size + 1) (by omega)).trans LF.out)
  have MY := Lib.hid ((h5.block (w.heap.size + 1 + 1) (by omega)).trans LY.out)
  have m0 : w4.cell? ⟨w.heap.size, 0, none⟩ = some (.int .i64 t.kind) := (by rw [cell_of_row _ _ _ _ _ _ M0.out]; rfl)
  have m1 : w4.cell? ⟨w.heap.size, 1, none⟩ = some (.int .i64 t.num) := (by rw [cell_of_row _ _ _ _ _ _ M0.out]; rfl)
  have m2 : w4.cell? ⟨w.heap.size, 2, none⟩ = some (.string t.name) := (by rw [cell_of_row _ _ _ _ _ _ M0.out]; rfl)
  have m3 : w4.cell? ⟨w.heap.size, 3, none⟩ = some (v) := (by rw [cell_of_row _ _ _ _ _ _ M0.out]; rfl)
  clear h5
  go_wp2_with (go_at_call 46; refine (subst_replace (V2 x d bv (w.heap.size + 1) (w.heap.size + 1 + 1)) (V2_keep _ _ _ _ _) w (fun g => g = w.heap.size + 1 ∨ g = w.heap.size + 1 + 1) (gR x d) (varsF [] t) (.pointer (some ⟨w.heap.size + 1, 0, none⟩)) (.pointer (some ⟨w.heap.size + 1 + 1, 0, none⟩)) (replace_put x d bv _ _ w (varsF [] t) _ HY.out HND.out) t v [] _ HH.out ⟨fun g => Iff.rfl, MF.out, MY.out⟩ B4.out HN.out (List.prefix_refl _)).mono ?_; rintro e w5 ⟨y, rfl, hy, _, hz5, hf5, hb5⟩; obtain ⟨ya, yc, rfl⟩ := hy.slice; have KZ : Hid (w.heap.size + 4 ≤ w4.heap.size) := (Array.getElem?_eq_some_iff.1 M1.out).1; have N1 := Lib.hid ((hf5 (w.heap.size + 1 + 1 + 1) (by have := KZ.out; omega) (by omega)).trans M1.out); have KB := Lib.hid hb5; have KY5 := Lib.hid hy; have d0 : w5.cell? ⟨w.heap.size + 1 + 1 + 1, 0, none⟩ = some (.int .i64 0) := (by rw [cell_of_row _ _ _ _ _ _ N1.out]; rfl); have d1 : w5.cell? ⟨w.heap.size + 1 + 1 + 1, 1, none⟩ = some (.int .i64 0) := (by rw [cell_of_row _ _ _ _ _ _ N1.out]; rfl); have d2 : w5.cell? ⟨w.heap.size + 1 + 1 + 1, 2, none⟩ = some (.string ⟨#[]⟩) := (by rw [cell_of_row _ _ _ _ _ _ N1.out]; rfl); have d3 : w5.cell? ⟨w.heap.size + 1 + 1 + 1, 3, none⟩ = some (.slice none 0 0) := (by rw [cell_of_row _ _ _ _ _ _ N1.out]; rfl); have df0 := frozen_of_row _ _ 0 _ _ N1.out; have df1 := frozen_of_row _ _ 1 _ _ N1.out; have df2 := frozen_of_row _ _ 2 _ _ N1.out; have df3 := frozen_of_row _ _ 3 _ _ N1.out; clear hb5 hy hz5 hf5)
  have FO := four N1.out (.int .i64 (mapT (gR x d) t).kind) (.int .i64 (mapT (gR x d) t).num) (.string (mapT (gR x d) t).name) (.slice ya (mapT (gR x d) t).args.length yc)
  have PE := made_e (n := 0) (T := mapT (gR x d) t) (c := w4.heap.size) (by omega) (by have := KZ.out; omega) KB.out KY5.out N1.out _ rfl
  generalize ((((w5.setCell ⟨w.heap.size + 1 + 1 + 1, 0, none⟩ (.int .i64 (mapT (gR x d) t).kind)).setCell ⟨w.heap.size + 1 + 1 + 1, 1, none⟩ (.int .i64 (mapT (gR x d) t).num)).setCell ⟨w.heap.size + 1 + 1 + 1, 2, none⟩ (.string (mapT (gR x d) t).name)).setCell ⟨w.heap.size + 1 + 1 + 1, 3, none⟩ (.slice ya (mapT (gR x d) t).args.length yc)) = W3 at *
  have k0 : W3.cell? ⟨w.heap.size + 1 + 1 + 1, 0, none⟩ = some (.int .i64 (mapT (gR x d) t).kind) := by rw [cell_of_row _ _ _ _ _ _ FO.1]; rfl
  have k1 : W3.cell? ⟨w.heap.size + 1 + 1 + 1, 1, none⟩ = some (.int .i64 (mapT (gR x d) t).num) := by rw [cell_of_row _ _ _ _ _ _ FO.1]; rfl
  have k2 : W3.cell? ⟨w.heap.size + 1 + 1 + 1, 2, none⟩ = some (.string (mapT (gR x d) t).name) := by rw [cell_of_row _ _ _ _ _ _ FO.1]; rfl
  have k3 : W3.cell? ⟨w.heap.size + 1 + 1 + 1, 3, none⟩ = some (.slice ya (mapT (gR x d) t).args.length yc) := by rw [cell_of_row _ _ _ _ _ _ FO.1]; rfl
  exact bodyPost_ret (v := .tuple #[.agg #[.int .i64 (mapT (gR x d) t).kind, .int .i64 (mapT (gR x d) t).num, .string (mapT (gR x d) t).name, .slice ya (mapT (gR x d) t).args.length yc], .int .i64 0]) (by simp [results, Try.results17, go_sem, k0, k1, k2, k3]) rfl PE

end Go.Proofs.Ytdgflagafilobaa
