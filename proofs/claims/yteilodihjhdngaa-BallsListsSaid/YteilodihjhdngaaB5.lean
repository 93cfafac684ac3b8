/- The specification's checks. -/
import Derived.Test.YteilodihjhdngaaB4
import Derived.Test.YteilodihjhdngaaB3
set_option linter.unusedVariables false
set_option linter.unusedSimpArgs false
namespace Go.Proofs.Yteilodihjhdngaa
open Go.RowKit Go.Proofs.HT


set_option maxHeartbeats 8000000 in
theorem rAtom_any (t : Tm) (v : Value) (w : World) (h : LiesT w t v) : Calls Try.prog 36 #[tv t v] w (Chk1 (.string (atomS t)) (chkB t ⟨#[97, 116, 111, 109]⟩ (t.kind == 2)) (chkO t (t.kind == 2)) w) := by
  obtain ⟨va, vc, rfl⟩ : ∃ a k, v = .slice a t.args.length k := h.slice
  have F0 := Lib.hid (Fr.start w t (.slice va t.args.length vc))
  have H := Lib.hid h
  cases hv : validB t
  · have eB : chkB t ⟨#[97, 116, 111, 109]⟩ (t.kind == 2) = z0 := by unfold chkB; rw [hv]; rfl
    have eO : chkO t (t.kind == 2) = false := by unfold chkO; rw [hv]; rfl
    have eV : atomS t = ⟨#[]⟩ := by unfold atomS; rw [eO]; rfl
    rw [eV]
    clear eV
    rw [eB, eO]
    have HV := Lib.hid hv
    clear h hv eB eO
    simp only [tv]
    go_enter Try.func36, Try.ntmps36
    go_wp2_with fail
    refine (valid_is t _ false HV.out _ (H.out.below F0.out.b)).mono ?_
    rintro e w1 ⟨rfl, hb1⟩
    have F1 := Lib.hid (F0.out.step hb1)
    clear hb1
    obtain ⟨c0, c1, c2, c3⟩ : w1.cell? ⟨w.heap.size + 1, 0, none⟩ = some (.int .i64 0) ∧ w1.cell? ⟨w.heap.size + 1, 1, none⟩ = some (.int .i64 0) ∧ w1.cell? ⟨w.heap.size + 1, 2, none⟩ = some (.string ⟨#[]⟩) ∧ w1.cell? ⟨w.heap.size + 1, 3, none⟩ = some (.slice none 0 0) := F1.out.r.cells
    obtain ⟨f0, f1, f2, f3⟩ := F1.out.r.froz
    go_wp2_with fail
    clear c0 c1 c2 c3 f0 f1 f2 f3
    have FZ : Hid (Fr w ((((w1.setCell ⟨w.heap.size + 1, 0, none⟩ (.int .i64 0)).setCell ⟨w.heap.size + 1, 1, none⟩ (.int .i64 0)).setCell ⟨w.heap.size + 1, 2, none⟩ (.string ⟨#[]⟩)).setCell ⟨w.heap.size + 1, 3, none⟩ (.slice none 0 0)) t (.slice va t.args.length vc) z0 (.slice none 0 0)) := Lib.hid (F1.out.putR z0 (.slice none 0 0) _ rfl)
    generalize ((((w1.setCell ⟨w.heap.size + 1, 0, none⟩ (.int .i64 0)).setCell ⟨w.heap.size + 1, 1, none⟩ (.int .i64 0)).setCell ⟨w.heap.size + 1, 2, none⟩ (.string ⟨#[]⟩)).setCell ⟨w.heap.size + 1, 3, none⟩ (.slice none 0 0)) = WZ at *
    obtain ⟨k0, k1, k2, k3⟩ : WZ.cell? ⟨w.heap.size + 1, 0, none⟩ = some (.int .i64 0) ∧ WZ.cell? ⟨w.heap.size + 1, 1, none⟩ = some (.int .i64 0) ∧ WZ.cell? ⟨w.heap.size + 1, 2, none⟩ = some (.string ⟨#[]⟩) ∧ WZ.cell? ⟨w.heap.size + 1, 3, none⟩ = some (.slice none 0 0) := FZ.out.r.cells
    exact bodyPost_ret (v := .tuple #[.string ⟨#[]⟩, zv, .bool false]) (by simp [results, Try.results36, go_sem, k0, k1, k2, k3]) rfl (FZ.out.chk1 (Beh.zero _ _) (.string ⟨#[]⟩) false)
  · have HV := Lib.hid hv
    rcases Bool.eq_false_or_eq_true (t.kind == 0) with h1 | h1
    · have eB : chkB t ⟨#[97, 116, 111, 109]⟩ (t.kind == 2) = instT := by unfold chkB; rw [if_pos hv, if_pos h1]
      have eO : chkO t (t.kind == 2) = false := by unfold chkO; rw [hv]; simp [bne, h1]
      have eV : atomS t = ⟨#[]⟩ := by unfold atomS; rw [eO]; rfl
      rw [eV]
      clear eV
      rw [eB, eO]
      have HCI : Hid (∀ w0, Calls Try.prog 21 #[] w0 (MadeEnd instT w0)) := Lib.hid (fun w0 => rInst_any w0)
      generalize instT = Q at *
      clear hv eB eO
      simp only [tv]
      go_enter Try.func36, Try.ntmps36
      go_wp2_with fail
      refine (valid_is t _ true HV.out _ (H.out.below F0.out.b)).mono ?_
      rintro e w1 ⟨rfl, hb1⟩
      have F1 := Lib.hid (F0.out.step hb1)
      clear hb1
      obtain ⟨p0, p1, p2, p3⟩ := F1.out.p.cells
      go_wp2_with fail
      refine (HCI.out _).mono ?_
      clear p0 p1 p2 p3
      rintro e w7 ⟨y, rfl, hy, hb7⟩
      obtain ⟨ya, yc, rfl⟩ := hy.slice
      have F8 := Lib.hid (F1.out.step hb7)
      have Y8 : Hid (Beh w w7 Q (.slice ya Q.args.length yc)) := Lib.hid (Beh.of hy F1.out.z)
      clear hb7 hy
      obtain ⟨c0, c1, c2, c3⟩ : w7.cell? ⟨w.heap.size + 1, 0, none⟩ = some (.int .i64 0) ∧ w7.cell? ⟨w.heap.size + 1, 1, none⟩ = some (.int .i64 0) ∧ w7.cell? ⟨w.heap.size + 1, 2, none⟩ = some (.string ⟨#[]⟩) ∧ w7.cell? ⟨w.heap.size + 1, 3, none⟩ = some (.slice none 0 0) := F8.out.r.cells
      obtain ⟨f0, f1, f2, f3⟩ := F8.out.r.froz
      go_wp2_with fail
      clear c0 c1 c2 c3 f0 f1 f2 f3
      have F9 : Hid (Fr w ((((w7.setCell ⟨w.heap.size + 1, 0, none⟩ (.int .i64 Q.kind)).setCell ⟨w.heap.size + 1, 1, none⟩ (.int .i64 Q.num)).setCell ⟨w.heap.size + 1, 2, none⟩ (.string Q.name)).setCell ⟨w.heap.size + 1, 3, none⟩ (.slice ya Q.args.length yc)) t (.slice va t.args.length vc) Q (.slice ya Q.args.length yc)) := Lib.hid (F8.out.putR Q (.slice ya Q.args.length yc) _ rfl)
      have Y9 : Hid (Beh w ((((w7.setCell ⟨w.heap.size + 1, 0, none⟩ (.int .i64 Q.kind)).setCell ⟨w.heap.size + 1, 1, none⟩ (.int .i64 Q.num)).setCell ⟨w.heap.size + 1, 2, none⟩ (.string Q.name)).setCell ⟨w.heap.size + 1, 3, none⟩ (.slice ya Q.args.length yc)) Q (.slice ya Q.args.length yc)) := Lib.hid (Beh.put Y8.out (by omega) (F8.out.r) _ _ _ _ _ rfl)
      generalize ((((w7.setCell ⟨w.heap.size + 1, 0, none⟩ (.int .i64 Q.kind)).setCell ⟨w.heap.size + 1, 1, none⟩ (.int .i64 Q.num)).setCell ⟨w.heap.size + 1, 2, none⟩ (.string Q.name)).setCell ⟨w.heap.size + 1, 3, none⟩ (.slice ya Q.args.length yc)) = W9 at *
      obtain ⟨k0, k1, k2, k3⟩ : W9.cell? ⟨w.heap.size + 1, 0, none⟩ = some (.int .i64 Q.kind) ∧ W9.cell? ⟨w.heap.size + 1, 1, none⟩ = some (.int .i64 Q.num) ∧ W9.cell? ⟨w.heap.size + 1, 2, none⟩ = some (.string Q.name) ∧ W9.cell? ⟨w.heap.size + 1, 3, none⟩ = some (.slice ya Q.args.length yc) := F9.out.r.cells
      exact bodyPost_ret (v := .tuple #[.string ⟨#[]⟩, tv Q (.slice ya Q.args.length yc), .bool false]) (by simp [results, Try.results36, go_sem, k0, k1, k2, k3]) rfl (F9.out.chk1 Y9.out (.string ⟨#[]⟩) false)
    · rcases (Bool.eq_false_or_eq_true (t.kind == 2)).symm with hq | hq
      · skip
        have eB : chkB t ⟨#[97, 116, 111, 109]⟩ (t.kind == 2) = typeT ⟨#[97, 116, 111, 109]⟩ t := by unfold chkB; rw [if_pos hv, if_neg (by rw [h1]; simp), if_neg (by rw [hq]; simp)]
        have eO : chkO t (t.kind == 2) = false := by unfold chkO; rw [hq]; simp
        have eV : atomS t = ⟨#[]⟩ := by unfold atomS; rw [eO]; rfl
        rw [eV]
        clear eV
        rw [eB, eO]
        have HCI : Hid (∀ w0, LiesT w0 t (.slice va t.args.length vc) → Calls Try.prog 23 #[.string ⟨#[97, 116, 111, 109]⟩, tv t (.slice va t.args.length vc)] w0 (MadeEnd (typeT ⟨#[97, 116, 111, 109]⟩ t) w0)) := Lib.hid (fun w0 h => rType_any t _ ⟨#[97, 116, 111, 109]⟩ w0 h (by simp [ByteArray.size]))
        generalize typeT ⟨#[97, 116, 111, 109]⟩ t = Q at *
        have h2 : (t.kind != 2) = true := by simp [bne, hq]
        have h3 := hq
        clear hv eB eO h hq
        simp only [tv]
        go_enter Try.func36, Try.ntmps36
        go_wp2_with fail
        refine (valid_is t _ true HV.out _ (H.out.below F0.out.b)).mono ?_
        rintro e w1 ⟨rfl, hb1⟩
        have F1 := Lib.hid (F0.out.step hb1)
        clear hb1
        obtain ⟨p0, p1, p2, p3⟩ := F1.out.p.cells
        go_wp2_with fail
        refine (HCI.out _ (H.out.below F1.out.b)).mono ?_
        clear p0 p1 p2 p3
        rintro e w7 ⟨y, rfl, hy, hb7⟩
        obtain ⟨ya, yc, rfl⟩ := hy.slice
        have F8 := Lib.hid (F1.out.step hb7)
        have Y8 : Hid (Beh w w7 Q (.slice ya Q.args.length yc)) := Lib.hid (Beh.of hy F1.out.z)
        clear hb7 hy
        obtain ⟨c0, c1, c2, c3⟩ : w7.cell? ⟨w.heap.size + 1, 0, none⟩ = some (.int .i64 0) ∧ w7.cell? ⟨w.heap.size + 1, 1, none⟩ = some (.int .i64 0) ∧ w7.cell? ⟨w.heap.size + 1, 2, none⟩ = some (.string ⟨#[]⟩) ∧ w7.cell? ⟨w.heap.size + 1, 3, none⟩ = some (.slice none 0 0) := F8.out.r.cells
        obtain ⟨f0, f1, f2, f3⟩ := F8.out.r.froz
        go_wp2_with fail
        clear c0 c1 c2 c3 f0 f1 f2 f3
        have F9 : Hid (Fr w ((((w7.setCell ⟨w.heap.size + 1, 0, none⟩ (.int .i64 Q.kind)).setCell ⟨w.heap.size + 1, 1, none⟩ (.int .i64 Q.num)).setCell ⟨w.heap.size + 1, 2, none⟩ (.string Q.name)).setCell ⟨w.heap.size + 1, 3, none⟩ (.slice ya Q.args.length yc)) t (.slice va t.args.length vc) Q (.slice ya Q.args.length yc)) := Lib.hid (F8.out.putR Q (.slice ya Q.args.length yc) _ rfl)
        have Y9 : Hid (Beh w ((((w7.setCell ⟨w.heap.size + 1, 0, none⟩ (.int .i64 Q.kind)).setCell ⟨w.heap.size + 1, 1, none⟩ (.int .i64 Q.num)).setCell ⟨w.heap.size + 1, 2, none⟩ (.string Q.name)).setCell ⟨w.heap.size + 1, 3, none⟩ (.slice ya Q.args.length yc)) Q (.slice ya Q.args.length yc)) := Lib.hid (Beh.put Y8.out (by omega) (F8.out.r) _ _ _ _ _ rfl)
        generalize ((((w7.setCell ⟨w.heap.size + 1, 0, none⟩ (.int .i64 Q.kind)).setCell ⟨w.heap.size + 1, 1, none⟩ (.int .i64 Q.num)).setCell ⟨w.heap.size + 1, 2, none⟩ (.string Q.name)).setCell ⟨w.heap.size + 1, 3, none⟩ (.slice ya Q.args.length yc)) = W9 at *
        obtain ⟨k0, k1, k2, k3⟩ : W9.cell? ⟨w.heap.size + 1, 0, none⟩ = some (.int .i64 Q.kind) ∧ W9.cell? ⟨w.heap.size + 1, 1, none⟩ = some (.int .i64 Q.num) ∧ W9.cell? ⟨w.heap.size + 1, 2, none⟩ = some (.string Q.name) ∧ W9.cell? ⟨w.heap.size + 1, 3, none⟩ = some (.slice ya Q.args.length yc) := F9.out.r.cells
        exact bodyPost_ret (v := .tuple #[.string ⟨#[]⟩, tv Q (.slice ya Q.args.length yc), .bool false]) (by simp [results, Try.results36, go_sem, k0, k1, k2, k3]) rfl (F9.out.chk1 Y9.out (.string ⟨#[]⟩) false)
      · skip
        have eB : chkB t ⟨#[97, 116, 111, 109]⟩ (t.kind == 2) = z0 := by unfold chkB; rw [if_pos hv, if_neg (by rw [h1]; simp), if_pos hq]
        have eO : chkO t (t.kind == 2) = true := by unfold chkO; rw [hv, hq]; simp [bne, h1]
        have eV : atomS t = t.name := by unfold atomS; rw [eO]; rfl
        rw [eV]
        clear eV
        rw [eB, eO]
        have h2 : (t.kind != 2) = false := by simp [bne, hq]
        have h3 := hq
        clear hv eB eO hq
        simp only [tv]
        go_enter Try.func36, Try.ntmps36
        go_wp2_with fail
        refine (valid_is t _ true HV.out _ (H.out.below F0.out.b)).mono ?_
        rintro e w1 ⟨rfl, hb1⟩
        have F1 := Lib.hid (F0.out.step hb1)
        clear hb1
        obtain ⟨p0, p1, p2, p3⟩ := F1.out.p.cells
        obtain ⟨c0, c1, c2, c3⟩ : w1.cell? ⟨w.heap.size + 1, 0, none⟩ = some (.int .i64 0) ∧ w1.cell? ⟨w.heap.size + 1, 1, none⟩ = some (.int .i64 0) ∧ w1.cell? ⟨w.heap.size + 1, 2, none⟩ = some (.string ⟨#[]⟩) ∧ w1.cell? ⟨w.heap.size + 1, 3, none⟩ = some (.slice none 0 0) := F1.out.r.cells
        obtain ⟨f0, f1, f2, f3⟩ := F1.out.r.froz
        go_wp2_with fail
        clear c0 c1 c2 c3 f0 f1 f2 f3
        have FZ : Hid (Fr w ((((w1.setCell ⟨w.heap.size + 1, 0, none⟩ (.int .i64 0)).setCell ⟨w.heap.size + 1, 1, none⟩ (.int .i64 0)).setCell ⟨w.heap.size + 1, 2, none⟩ (.string ⟨#[]⟩)).setCell ⟨w.heap.size + 1, 3, none⟩ (.slice none 0 0)) t (.slice va t.args.length vc) z0 (.slice none 0 0)) := Lib.hid (F1.out.putR z0 (.slice none 0 0) _ rfl)
        generalize ((((w1.setCell ⟨w.heap.size + 1, 0, none⟩ (.int .i64 0)).setCell ⟨w.heap.size + 1, 1, none⟩ (.int .i64 0)).setCell ⟨w.heap.size + 1, 2, none⟩ (.string ⟨#[]⟩)).setCell ⟨w.heap.size + 1, 3, none⟩ (.slice none 0 0)) = WZ at *
        obtain ⟨k0, k1, k2, k3⟩ : WZ.cell? ⟨w.heap.size + 1, 0, none⟩ = some (.int .i64 0) ∧ WZ.cell? ⟨w.heap.size + 1, 1, none⟩ = some (.int .i64 0) ∧ WZ.cell? ⟨w.heap.size + 1, 2, none⟩ = some (.string ⟨#[]⟩) ∧ WZ.cell? ⟨w.heap.size + 1, 3, none⟩ = some (.slice none 0 0) := FZ.out.r.cells
        exact bodyPost_ret (v := .tuple #[.string t.name, zv, .bool true]) (by simp [results, Try.results36, go_sem, k0, k1, k2, k3]) rfl (FZ.out.chk1 (Beh.zero _ _) (.string t.name) true)

set_option maxHeartbeats 8000000 in
theorem rInt_any (t : Tm) (v : Value) (w : World) (h : LiesT w t v) : Calls Try.prog 38 #[tv t v] w (Chk1 (.int .i64 (intN t)) (chkB t ⟨#[105, 110, 116, 101, 103, 101, 114]⟩ (t.kind == 1)) (chkO t (t.kind == 1)) w) := by
  obtain ⟨va, vc, rfl⟩ : ∃ a k, v = .slice a t.args.length k := h.slice
  have F0 := Lib.hid (Fr.start w t (.slice va t.args.length vc))
  have H := Lib.hid h
  cases hv : validB t
  · have eB : chkB t ⟨#[105, 110, 116, 101, 103, 101, 114]⟩ (t.kind == 1) = z0 := by unfold chkB; rw [hv]; rfl
    have eO : chkO t (t.kind == 1) = false := by unfold chkO; rw [hv]; rfl
    have eV : intN t = 0 := by unfold intN; rw [eO]; rfl
    rw [eV]
    clear eV
    rw [eB, eO]
    have HV := Lib.hid hv
    clear h hv eB eO
    simp only [tv]
    go_enter Try.func38, Try.ntmps38
    go_wp2_with fail
    refine (valid_is t _ false HV.out _ (H.out.below F0.out.b)).mono ?_
    rintro e w1 ⟨rfl, hb1⟩
    have F1 := Lib.hid (F0.out.step hb1)
    clear hb1
    obtain ⟨c0, c1, c2, c3⟩ : w1.cell? ⟨w.heap.size + 1, 0, none⟩ = some (.int .i64 0) ∧ w1.cell? ⟨w.heap.size + 1, 1, none⟩ = some (.int .i64 0) ∧ w1.cell? ⟨w.heap.size + 1, 2, none⟩ = some (.string ⟨#[]⟩) ∧ w1.cell? ⟨w.heap.size + 1, 3, none⟩ = some (.slice none 0 0) := F1.out.r.cells
    obtain ⟨f0, f1, f2, f3⟩ := F1.out.r.froz
    go_wp2_with fail
    clear c0 c1 c2 c3 f0 f1 f2 f3
    have FZ : Hid (Fr w ((((w1.setCell ⟨w.heap.size + 1, 0, none⟩ (.int .i64 0)).setCell ⟨w.heap.size + 1, 1, none⟩ (.int .i64 0)).setCell ⟨w.heap.size + 1, 2, none⟩ (.string ⟨#[]⟩)).setCell ⟨w.heap.size + 1, 3, none⟩ (.slice none 0 0)) t (.slice va t.args.length vc) z0 (.slice none 0 0)) := Lib.hid (F1.out.putR z0 (.slice none 0 0) _ rfl)
    generalize ((((w1.setCell ⟨w.heap.size + 1, 0, none⟩ (.int .i64 0)).setCell ⟨w.heap.size + 1, 1, none⟩ (.int .i64 0)).setCell ⟨w.heap.size + 1, 2, none⟩ (.string ⟨#[]⟩)).setCell ⟨w.heap.size + 1, 3, none⟩ (.slice none 0 0)) = WZ at *
    obtain ⟨k0, k1, k2, k3⟩ : WZ.cell? ⟨w.heap.size + 1, 0, none⟩ = some (.int .i64 0) ∧ WZ.cell? ⟨w.heap.size + 1, 1, none⟩ = some (.int .i64 0) ∧ WZ.cell? ⟨w.heap.size + 1, 2, none⟩ = some (.string ⟨#[]⟩) ∧ WZ.cell? ⟨w.heap.size + 1, 3, none⟩ = some (.slice none 0 0) := FZ.out.r.cells
    exact bodyPost_ret (v := .tuple #[.int .i64 0, zv, .bool false]) (by simp [results, Try.results38, go_sem, k0, k1, k2, k3]) rfl (FZ.out.chk1 (Beh.zero _ _) (.int .i64 0) false)
  · have HV := Lib.hid hv
    rcases Bool.eq_false_or_eq_true (t.kind == 0) with h1 | h1
    · have eB : chkB t ⟨#[105, 110, 116, 101, 103, 101, 114]⟩ (t.kind == 1) = instT := by unfold chkB; rw [if_pos hv, if_pos h1]
      have eO : chkO t (t.kind == 1) = false := by unfold chkO; rw [hv]; simp [bne, h1]
      have eV : intN t = 0 := by unfold intN; rw [eO]; rfl
      rw [eV]
      clear eV
      rw [eB, eO]
      have HCI : Hid (∀ w0, Calls Try.prog 21 #[] w0 (MadeEnd instT w0)) := Lib.hid (fun w0 => rInst_any w0)
      generalize instT = Q at *
      clear hv eB eO
      simp only [tv]
      go_enter Try.func38, Try.ntmps38
      go_wp2_with fail
      refine (valid_is t _ true HV.out _ (H.out.below F0.out.b)).mono ?_
      rintro e w1 ⟨rfl, hb1⟩
      have F1 := Lib.hid (F0.out.step hb1)
      clear hb1
      obtain ⟨p0, p1, p2, p3⟩ := F1.out.p.cells
      go_wp2_with fail
      refine (HCI.out _).mono ?_
      clear p0 p1 p2 p3
      rintro e w7 ⟨y, rfl, hy, hb7⟩
      obtain ⟨ya, yc, rfl⟩ := hy.slice
      have F8 := Lib.hid (F1.out.step hb7)
      have Y8 : Hid (Beh w w7 Q (.slice ya Q.args.length yc)) := Lib.hid (Beh.of hy F1.out.z)
      clear hb7 hy
      obtain ⟨c0, c1, c2, c3⟩ : w7.cell? ⟨w.heap.size + 1, 0, none⟩ = some (.int .i64 0) ∧ w7.cell? ⟨w.heap.size + 1, 1, none⟩ = some (.int .i64 0) ∧ w7.cell? ⟨w.heap.size + 1, 2, none⟩ = some (.string ⟨#[]⟩) ∧ w7.cell? ⟨w.heap.size + 1, 3, none⟩ = some (.slice none 0 0) := F8.out.r.cells
      obtain ⟨f0, f1, f2, f3⟩ := F8.out.r.froz
      go_wp2_with fail
      clear c0 c1 c2 c3 f0 f1 f2 f3
      have F9 : Hid (Fr w ((((w7.setCell ⟨w.heap.size + 1, 0, none⟩ (.int .i64 Q.kind)).setCell ⟨w.heap.size + 1, 1, none⟩ (.int .i64 Q.num)).setCell ⟨w.heap.size + 1, 2, none⟩ (.string Q.name)).setCell ⟨w.heap.size + 1, 3, none⟩ (.slice ya Q.args.length yc)) t (.slice va t.args.length vc) Q (.slice ya Q.args.length yc)) := Lib.hid (F8.out.putR Q (.slice ya Q.args.length yc) _ rfl)
      have Y9 : Hid (Beh w ((((w7.setCell ⟨w.heap.size + 1, 0, none⟩ (.int .i64 Q.kind)).setCell ⟨w.heap.size + 1, 1, none⟩ (.int .i64 Q.num)).setCell ⟨w.heap.size + 1, 2, none⟩ (.string Q.name)).setCell ⟨w.heap.size + 1, 3, none⟩ (.slice ya Q.args.length yc)) Q (.slice ya Q.args.length yc)) := Lib.hid (Beh.put Y8.out (by omega) (F8.out.r) _ _ _ _ _ rfl)
      generalize ((((w7.setCell ⟨w.heap.size + 1, 0, none⟩ (.int .i64 Q.kind)).setCell ⟨w.heap.size + 1, 1, none⟩ (.int .i64 Q.num)).setCell ⟨w.heap.size + 1, 2, none⟩ (.string Q.name)).setCell ⟨w.heap.size + 1, 3, none⟩ (.slice ya Q.args.length yc)) = W9 at *
      obtain ⟨k0, k1, k2, k3⟩ : W9.cell? ⟨w.heap.size + 1, 0, none⟩ = some (.int .i64 Q.kind) ∧ W9.cell? ⟨w.heap.size + 1, 1, none⟩ = some (.int .i64 Q.num) ∧ W9.cell? ⟨w.heap.size + 1, 2, none⟩ = some (.string Q.name) ∧ W9.cell? ⟨w.heap.size + 1, 3, none⟩ = some (.slice ya Q.args.length yc) := F9.out.r.cells
      exact bodyPost_ret (v := .tuple #[.int .i64 0, tv Q (.slice ya Q.args.length yc), .bool false]) (by simp [results, Try.results38, go_sem, k0, k1, k2, k3]) rfl (F9.out.chk1 Y9.out (.int .i64 0) false)
    · rcases (Bool.eq_false_or_eq_true (t.kind == 1)).symm with hq | hq
      · skip
        have eB : chkB t ⟨#[105, 110, 116, 101, 103, 101, 114]⟩ (t.kind == 1) = typeT ⟨#[105, 110, 116, 101, 103, 101, 114]⟩ t := by unfold chkB; rw [if_pos hv, if_neg (by rw [h1]; simp), if_neg (by rw [hq]; simp)]
        have eO : chkO t (t.kind == 1) = false := by unfold chkO; rw [hq]; simp
        have eV : intN t = 0 := by unfold intN; rw [eO]; rfl
        rw [eV]
        clear eV
        rw [eB, eO]
        have HCI : Hid (∀ w0, LiesT w0 t (.slice va t.args.length vc) → Calls Try.prog 23 #[.string ⟨#[105, 110, 116, 101, 103, 101, 114]⟩, tv t (.slice va t.args.length vc)] w0 (MadeEnd (typeT ⟨#[105, 110, 116, 101, 103, 101, 114]⟩ t) w0)) := Lib.hid (fun w0 h => rType_any t _ ⟨#[105, 110, 116, 101, 103, 101, 114]⟩ w0 h (by simp [ByteArray.size]))
        generalize typeT ⟨#[105, 110, 116, 101, 103, 101, 114]⟩ t = Q at *
        have h2 : (t.kind != 1) = true := by simp [bne, hq]
        have h3 := hq
        clear hv eB eO h hq
        simp only [tv]
        go_enter Try.func38, Try.ntmps38
        go_wp2_with fail
        refine (valid_is t _ true HV.out _ (H.out.below F0.out.b)).mono ?_
        rintro e w1 ⟨rfl, hb1⟩
        have F1 := Lib.hid (F0.out.step hb1)
        clear hb1
        obtain ⟨p0, p1, p2, p3⟩ := F1.out.p.cells
        go_wp2_with fail
        refine (HCI.out _ (H.out.below F1.out.b)).mono ?_
        clear p0 p1 p2 p3
        rintro e w7 ⟨y, rfl, hy, hb7⟩
        obtain ⟨ya, yc, rfl⟩ := hy.slice
        have F8 := Lib.hid (F1.out.step hb7)
        have Y8 : Hid (Beh w w7 Q (.slice ya Q.args.length yc)) := Lib.hid (Beh.of hy F1.out.z)
        clear hb7 hy
        obtain ⟨c0, c1, c2, c3⟩ : w7.cell? ⟨w.heap.size + 1, 0, none⟩ = some (.int .i64 0) ∧ w7.cell? ⟨w.heap.size + 1, 1, none⟩ = some (.int .i64 0) ∧ w7.cell? ⟨w.heap.size + 1, 2, none⟩ = some (.string ⟨#[]⟩) ∧ w7.cell? ⟨w.heap.size + 1, 3, none⟩ = some (.slice none 0 0) := F8.out.r.cells
        obtain ⟨f0, f1, f2, f3⟩ := F8.out.r.froz
        go_wp2_with fail
        clear c0 c1 c2 c3 f0 f1 f2 f3
        have F9 : Hid (Fr w ((((w7.setCell ⟨w.heap.size + 1, 0, none⟩ (.int .i64 Q.kind)).setCell ⟨w.heap.size + 1, 1, none⟩ (.int .i64 Q.num)).setCell ⟨w.heap.size + 1, 2, none⟩ (.string Q.name)).setCell ⟨w.heap.size + 1, 3, none⟩ (.slice ya Q.args.length yc)) t (.slice va t.args.length vc) Q (.slice ya Q.args.length yc)) := Lib.hid (F8.out.putR Q (.slice ya Q.args.length yc) _ rfl)
        have Y9 : Hid (Beh w ((((w7.setCell ⟨w.heap.size + 1, 0, none⟩ (.int .i64 Q.kind)).setCell ⟨w.heap.size + 1, 1, none⟩ (.int .i64 Q.num)).setCell ⟨w.heap.size + 1, 2, none⟩ (.string Q.name)).setCell ⟨w.heap.size + 1, 3, none⟩ (.slice ya Q.args.length yc)) Q (.slice ya Q.args.length yc)) := Lib.hid (Beh.put Y8.out (by omega) (F8.out.r) _ _ _ _ _ rfl)
        generalize ((((w7.setCell ⟨w.heap.size + 1, 0, none⟩ (.int .i64 Q.kind)).setCell ⟨w.heap.size + 1, 1, none⟩ (.int .i64 Q.num)).setCell ⟨w.heap.size + 1, 2, none⟩ (.string Q.name)).setCell ⟨w.heap.size + 1, 3, none⟩ (.slice ya Q.args.length yc)) = W9 at *
        obtain ⟨k0, k1, k2, k3⟩ : W9.cell? ⟨w.heap.size + 1, 0, none⟩ = some (.int .i64 Q.kind) ∧ W9.cell? ⟨w.heap.size + 1, 1, none⟩ = some (.int .i64 Q.num) ∧ W9.cell? ⟨w.heap.size + 1, 2, none⟩ = some (.string Q.name) ∧ W9.cell? ⟨w.heap.size + 1, 3, none⟩ = some (.slice ya Q.args.length yc) := F9.out.r.cells
        exact bodyPost_ret (v := .tuple #[.int .i64 0, tv Q (.slice ya Q.args.length yc), .bool false]) (by simp [results, Try.results38, go_sem, k0, k1, k2, k3]) rfl (F9.out.chk1 Y9.out (.int .i64 0) false)
      · skip
        have eB : chkB t ⟨#[105, 110, 116, 101, 103, 101, 114]⟩ (t.kind == 1) = z0 := by unfold chkB; rw [if_pos hv, if_neg (by rw [h1]; simp), if_pos hq]
        have eO : chkO t (t.kind == 1) = true := by unfold chkO; rw [hv, hq]; simp [bne, h1]
        have eV : intN t = t.num := by unfold intN; rw [eO]; rfl
        rw [eV]
        clear eV
        rw [eB, eO]
        have h2 : (t.kind != 1) = false := by simp [bne, hq]
        have h3 := hq
        clear hv eB eO hq
        simp only [tv]
        go_enter Try.func38, Try.ntmps38
        go_wp2_with fail
        refine (valid_is t _ true HV.out _ (H.out.below F0.out.b)).mono ?_
        rintro e w1 ⟨rfl, hb1⟩
        have F1 := Lib.hid (F0.out.step hb1)
        clear hb1
        obtain ⟨p0, p1, p2, p3⟩ := F1.out.p.cells
        obtain ⟨c0, c1, c2, c3⟩ : w1.cell? ⟨w.heap.size + 1, 0, none⟩ = some (.int .i64 0) ∧ w1.cell? ⟨w.heap.size + 1, 1, none⟩ = some (.int .i64 0) ∧ w1.cell? ⟨w.heap.size + 1, 2, none⟩ = some (.string ⟨#[]⟩) ∧ w1.cell? ⟨w.heap.size + 1, 3, none⟩ = some (.slice none 0 0) := F1.out.r.cells
        obtain ⟨f0, f1, f2, f3⟩ := F1.out.r.froz
        go_wp2_with fail
        clear c0 c1 c2 c3 f0 f1 f2 f3
        have FZ : Hid (Fr w ((((w1.setCell ⟨w.heap.size + 1, 0, none⟩ (.int .i64 0)).setCell ⟨w.heap.size + 1, 1, none⟩ (.int .i64 0)).setCell ⟨w.heap.size + 1, 2, none⟩ (.string ⟨#[]⟩)).setCell ⟨w.heap.size + 1, 3, none⟩ (.slice none 0 0)) t (.slice va t.args.length vc) z0 (.slice none 0 0)) := Lib.hid (F1.out.putR z0 (.slice none 0 0) _ rfl)
        generalize ((((w1.setCell ⟨w.heap.size + 1, 0, none⟩ (.int .i64 0)).setCell ⟨w.heap.size + 1, 1, none⟩ (.int .i64 0)).setCell ⟨w.heap.size + 1, 2, none⟩ (.string ⟨#[]⟩)).setCell ⟨w.heap.size + 1, 3, none⟩ (.slice none 0 0)) = WZ at *
        obtain ⟨k0, k1, k2, k3⟩ : WZ.cell? ⟨w.heap.size + 1, 0, none⟩ = some (.int .i64 0) ∧ WZ.cell? ⟨w.heap.size + 1, 1, none⟩ = some (.int .i64 0) ∧ WZ.cell? ⟨w.heap.size + 1, 2, none⟩ = some (.string ⟨#[]⟩) ∧ WZ.cell? ⟨w.heap.size + 1, 3, none⟩ = some (.slice none 0 0) := FZ.out.r.cells
        exact bodyPost_ret (v := .tuple #[.int .i64 t.num, zv, .bool true]) (by simp [results, Try.results38, go_sem, k0, k1, k2, k3]) rfl (FZ.out.chk1 (Beh.zero _ _) (.int .i64 t.num) true)

set_option maxHeartbeats 8000000 in
theorem rCallable_any (t : Tm) (v : Value) (w : World) (h : LiesT w t v) : Calls Try.prog 40 #[tv t v] w (Chk0 (chkB t ⟨#[99, 97, 108, 108, 97, 98, 108, 101]⟩ (t.kind != 1)) (chkO t (t.kind != 1)) w) := by
  obtain ⟨va, vc, rfl⟩ : ∃ a k, v = .slice a t.args.length k := h.slice
  have F0 := Lib.hid (Fr.start w t (.slice va t.args.length vc))
  have H := Lib.hid h
  cases hv : validB t
  · have eB : chkB t ⟨#[99, 97, 108, 108, 97, 98, 108, 101]⟩ (t.kind != 1) = z0 := by unfold chkB; rw [hv]; rfl
    have eO : chkO t (t.kind != 1) = false := by unfold chkO; rw [hv]; rfl
    rw [eB, eO]
    have HV := Lib.hid hv
    clear h hv eB eO
    simp only [tv]
    go_enter Try.func40, Try.ntmps40
    go_wp2_with fail
    refine (valid_is t _ false HV.out _ (H.out.below F0.out.b)).mono ?_
    rintro e w1 ⟨rfl, hb1⟩
    have F1 := Lib.hid (F0.out.step hb1)
    clear hb1
    obtain ⟨c0, c1, c2, c3⟩ : w1.cell? ⟨w.heap.size + 1, 0, none⟩ = some (.int .i64 0) ∧ w1.cell? ⟨w.heap.size + 1, 1, none⟩ = some (.int .i64 0) ∧ w1.cell? ⟨w.heap.size + 1, 2, none⟩ = some (.string ⟨#[]⟩) ∧ w1.cell? ⟨w.heap.size + 1, 3, none⟩ = some (.slice none 0 0) := F1.out.r.cells
    obtain ⟨f0, f1, f2, f3⟩ := F1.out.r.froz
    go_wp2_with fail
    clear c0 c1 c2 c3 f0 f1 f2 f3
    have FZ : Hid (Fr w ((((w1.setCell ⟨w.heap.size + 1, 0, none⟩ (.int .i64 0)).setCell ⟨w.heap.size + 1, 1, none⟩ (.int .i64 0)).setCell ⟨w.heap.size + 1, 2, none⟩ (.string ⟨#[]⟩)).setCell ⟨w.heap.size + 1, 3, none⟩ (.slice none 0 0)) t (.slice va t.args.length vc) z0 (.slice none 0 0)) := Lib.hid (F1.out.putR z0 (.slice none 0 0) _ rfl)
    generalize ((((w1.setCell ⟨w.heap.size + 1, 0, none⟩ (.int .i64 0)).setCell ⟨w.heap.size + 1, 1, none⟩ (.int .i64 0)).setCell ⟨w.heap.size + 1, 2, none⟩ (.string ⟨#[]⟩)).setCell ⟨w.heap.size + 1, 3, none⟩ (.slice none 0 0)) = WZ at *
    obtain ⟨k0, k1, k2, k3⟩ : WZ.cell? ⟨w.heap.size + 1, 0, none⟩ = some (.int .i64 0) ∧ WZ.cell? ⟨w.heap.size + 1, 1, none⟩ = some (.int .i64 0) ∧ WZ.cell? ⟨w.heap.size + 1, 2, none⟩ = some (.string ⟨#[]⟩) ∧ WZ.cell? ⟨w.heap.size + 1, 3, none⟩ = some (.slice none 0 0) := FZ.out.r.cells
    exact bodyPost_ret (v := .tuple #[zv, .bool false]) (by simp [results, Try.results40, go_sem, k0, k1, k2, k3]) rfl (FZ.out.chk0 (Beh.zero _ _) false)
  · have HV := Lib.hid hv
    rcases Bool.eq_false_or_eq_true (t.kind == 0) with h1 | h1
    · have eB : chkB t ⟨#[99, 97, 108, 108, 97, 98, 108, 101]⟩ (t.kind != 1) = instT := by unfold chkB; rw [if_pos hv, if_pos h1]
      have eO : chkO t (t.kind != 1) = false := by unfold chkO; rw [hv]; simp [bne, h1]
      rw [eB, eO]
      have HCI : Hid (∀ w0, Calls Try.prog 21 #[] w0 (MadeEnd instT w0)) := Lib.hid (fun w0 => rInst_any w0)
      generalize instT = Q at *
      clear hv eB eO
      simp only [tv]
      go_enter Try.func40, Try.ntmps40
      go_wp2_with fail
      refine (valid_is t _ true HV.out _ (H.out.below F0.out.b)).mono ?_
      rintro e w1 ⟨rfl, hb1⟩
      have F1 := Lib.hid (F0.out.step hb1)
      clear hb1
      obtain ⟨p0, p1, p2, p3⟩ := F1.out.p.cells
      go_wp2_with fail
      refine (HCI.out _).mono ?_
      clear p0 p1 p2 p3
      rintro e w7 ⟨y, rfl, hy, hb7⟩
      obtain ⟨ya, yc, rfl⟩ := hy.slice
      have F8 := Lib.hid (F1.out.step hb7)
      have Y8 : Hid (Beh w w7 Q (.slice ya Q.args.length yc)) := Lib.hid (Beh.of hy F1.out.z)
      clear hb7 hy
      obtain ⟨c0, c1, c2, c3⟩ : w7.cell? ⟨w.heap.size + 1, 0, none⟩ = some (.int .i64 0) ∧ w7.cell? ⟨w.heap.size + 1, 1, none⟩ = some (.int .i64 0) ∧ w7.cell? ⟨w.heap.size + 1, 2, none⟩ = some (.string ⟨#[]⟩) ∧ w7.cell? ⟨w.heap.size + 1, 3, none⟩ = some (.slice none 0 0) := F8.out.r.cells
      obtain ⟨f0, f1, f2, f3⟩ := F8.out.r.froz
      go_wp2_with fail
      clear c0 c1 c2 c3 f0 f1 f2 f3
      have F9 : Hid (Fr w ((((w7.setCell ⟨w.heap.size + 1, 0, none⟩ (.int .i64 Q.kind)).setCell ⟨w.heap.size + 1, 1, none⟩ (.int .i64 Q.num)).setCell ⟨w.heap.size + 1, 2, none⟩ (.string Q.name)).setCell ⟨w.heap.size + 1, 3, none⟩ (.slice ya Q.args.length yc)) t (.slice va t.args.length vc) Q (.slice ya Q.args.length yc)) := Lib.hid (F8.out.putR Q (.slice ya Q.args.length yc) _ rfl)
      have Y9 : Hid (Beh w ((((w7.setCell ⟨w.heap.size + 1, 0, none⟩ (.int .i64 Q.kind)).setCell ⟨w.heap.size + 1, 1, none⟩ (.int .i64 Q.num)).setCell ⟨w.heap.size + 1, 2, none⟩ (.string Q.name)).setCell ⟨w.heap.size + 1, 3, none⟩ (.slice ya Q.args.length yc)) Q (.slice ya Q.args.length yc)) := Lib.hid (Beh.put Y8.out (by omega) (F8.out.r) _ _ _ _ _ rfl)
      generalize ((((w7.setCell ⟨w.heap.size + 1, 0, none⟩ (.int .i64 Q.kind)).setCell ⟨w.heap.size + 1, 1, none⟩ (.int .i64 Q.num)).setCell ⟨w.heap.size + 1, 2, none⟩ (.string Q.name)).setCell ⟨w.heap.size + 1, 3, none⟩ (.slice ya Q.args.length yc)) = W9 at *
      obtain ⟨k0, k1, k2, k3⟩ : W9.cell? ⟨w.heap.size + 1, 0, none⟩ = some (.int .i64 Q.kind) ∧ W9.cell? ⟨w.heap.size + 1, 1, none⟩ = some (.int .i64 Q.num) ∧ W9.cell? ⟨w.heap.size + 1, 2, none⟩ = some (.string Q.name) ∧ W9.cell? ⟨w.heap.size + 1, 3, none⟩ = some (.slice ya Q.args.length yc) := F9.out.r.cells
      exact bodyPost_ret (v := .tuple #[tv Q (.slice ya Q.args.length yc), .bool false]) (by simp [results, Try.results40, go_sem, k0, k1, k2, k3]) rfl (F9.out.chk0 Y9.out false)
    · rcases (Bool.eq_false_or_eq_true (t.kind != 1)).symm with hq | hq
      · skip
        have eB : chkB t ⟨#[99, 97, 108, 108, 97, 98, 108, 101]⟩ (t.kind != 1) = typeT ⟨#[99, 97, 108, 108, 97, 98, 108, 101]⟩ t := by unfold chkB; rw [if_pos hv, if_neg (by rw [h1]; simp), if_neg (by rw [hq]; simp)]
        have eO : chkO t (t.kind != 1) = false := by unfold chkO; rw [hq]; simp
        rw [eB, eO]
        have HCI : Hid (∀ w0, LiesT w0 t (.slice va t.args.length vc) → Calls Try.prog 23 #[.string ⟨#[99, 97, 108, 108, 97, 98, 108, 101]⟩, tv t (.slice va t.args.length vc)] w0 (MadeEnd (typeT ⟨#[99, 97, 108, 108, 97, 98, 108, 101]⟩ t) w0)) := Lib.hid (fun w0 h => rType_any t _ ⟨#[99, 97, 108, 108, 97, 98, 108, 101]⟩ w0 h (by simp [ByteArray.size]))
        generalize typeT ⟨#[99, 97, 108, 108, 97, 98, 108, 101]⟩ t = Q at *
        have h3 : (t.kind == 1) = true := by simpa [bne] using hq
        clear hv eB eO h hq
        simp only [tv]
        go_enter Try.func40, Try.ntmps40
        go_wp2_with fail
        refine (valid_is t _ true HV.out _ (H.out.below F0.out.b)).mono ?_
        rintro e w1 ⟨rfl, hb1⟩
        have F1 := Lib.hid (F0.out.step hb1)
        clear hb1
        obtain ⟨p0, p1, p2, p3⟩ := F1.out.p.cells
        go_wp2_with fail
        refine (HCI.out _ (H.out.below F1.out.b)).mono ?_
        clear p0 p1 p2 p3
        rintro e w7 ⟨y, rfl, hy, hb7⟩
        obtain ⟨ya, yc, rfl⟩ := hy.slice
        have F8 := Lib.hid (F1.out.step hb7)
        have Y8 : Hid (Beh w w7 Q (.slice ya Q.args.length yc)) := Lib.hid (Beh.of hy F1.out.z)
        clear hb7 hy
        obtain ⟨c0, c1, c2, c3⟩ : w7.cell? ⟨w.heap.size + 1, 0, none⟩ = some (.int .i64 0) ∧ w7.cell? ⟨w.heap.size + 1, 1, none⟩ = some (.int .i64 0) ∧ w7.cell? ⟨w.heap.size + 1, 2, none⟩ = some (.string ⟨#[]⟩) ∧ w7.cell? ⟨w.heap.size + 1, 3, none⟩ = some (.slice none 0 0) := F8.out.r.cells
        obtain ⟨f0, f1, f2, f3⟩ := F8.out.r.froz
        go_wp2_with fail
        clear c0 c1 c2 c3 f0 f1 f2 f3
        have F9 : Hid (Fr w ((((w7.setCell ⟨w.heap.size + 1, 0, none⟩ (.int .i64 Q.kind)).setCell ⟨w.heap.size + 1, 1, none⟩ (.int .i64 Q.num)).setCell ⟨w.heap.size + 1, 2, none⟩ (.string Q.name)).setCell ⟨w.heap.size + 1, 3, none⟩ (.slice ya Q.args.length yc)) t (.slice va t.args.length vc) Q (.slice ya Q.args.length yc)) := Lib.hid (F8.out.putR Q (.slice ya Q.args.length yc) _ rfl)
        have Y9 : Hid (Beh w ((((w7.setCell ⟨w.heap.size + 1, 0, none⟩ (.int .i64 Q.kind)).setCell ⟨w.heap.size + 1, 1, none⟩ (.int .i64 Q.num)).setCell ⟨w.heap.size + 1, 2, none⟩ (.string Q.name)).setCell ⟨w.heap.size + 1, 3, none⟩ (.slice ya Q.args.length yc)) Q (.slice ya Q.args.length yc)) := Lib.hid (Beh.put Y8.out (by omega) (F8.out.r) _ _ _ _ _ rfl)
        generalize ((((w7.setCell ⟨w.heap.size + 1, 0, none⟩ (.int .i64 Q.kind)).setCell ⟨w.heap.size + 1, 1, none⟩ (.int .i64 Q.num)).setCell ⟨w.heap.size + 1, 2, none⟩ (.string Q.name)).setCell ⟨w.heap.size + 1, 3, none⟩ (.slice ya Q.args.length yc)) = W9 at *
        obtain ⟨k0, k1, k2, k3⟩ : W9.cell? ⟨w.heap.size + 1, 0, none⟩ = some (.int .i64 Q.kind) ∧ W9.cell? ⟨w.heap.size + 1, 1, none⟩ = some (.int .i64 Q.num) ∧ W9.cell? ⟨w.heap.size + 1, 2, none⟩ = some (.string Q.name) ∧ W9.cell? ⟨w.heap.size + 1, 3, none⟩ = some (.slice ya Q.args.length yc) := F9.out.r.cells
        exact bodyPost_ret (v := .tuple #[tv Q (.slice ya Q.args.length yc), .bool false]) (by simp [results, Try.results40, go_sem, k0, k1, k2, k3]) rfl (F9.out.chk0 Y9.out false)
      · skip
        have eB : chkB t ⟨#[99, 97, 108, 108, 97, 98, 108, 101]⟩ (t.kind != 1) = z0 := by unfold chkB; rw [if_pos hv, if_neg (by rw [h1]; simp), if_pos hq]
        have eO : chkO t (t.kind != 1) = true := by unfold chkO; rw [hv, hq]; simp [bne, h1]
        rw [eB, eO]
        have h3 : (t.kind == 1) = false := by simpa [bne] using hq
        clear hv eB eO hq
        simp only [tv]
        go_enter Try.func40, Try.ntmps40
        go_wp2_with fail
        refine (valid_is t _ true HV.out _ (H.out.below F0.out.b)).mono ?_
        rintro e w1 ⟨rfl, hb1⟩
        have F1 := Lib.hid (F0.out.step hb1)
        clear hb1
        obtain ⟨p0, p1, p2, p3⟩ := F1.out.p.cells
        obtain ⟨c0, c1, c2, c3⟩ : w1.cell? ⟨w.heap.size + 1, 0, none⟩ = some (.int .i64 0) ∧ w1.cell? ⟨w.heap.size + 1, 1, none⟩ = some (.int .i64 0) ∧ w1.cell? ⟨w.heap.size + 1, 2, none⟩ = some (.string ⟨#[]⟩) ∧ w1.cell? ⟨w.heap.size + 1, 3, none⟩ = some (.slice none 0 0) := F1.out.r.cells
        obtain ⟨f0, f1, f2, f3⟩ := F1.out.r.froz
        go_wp2_with fail
        clear c0 c1 c2 c3 f0 f1 f2 f3
        have FZ : Hid (Fr w ((((w1.setCell ⟨w.heap.size + 1, 0, none⟩ (.int .i64 0)).setCell ⟨w.heap.size + 1, 1, none⟩ (.int .i64 0)).setCell ⟨w.heap.size + 1, 2, none⟩ (.string ⟨#[]⟩)).setCell ⟨w.heap.size + 1, 3, none⟩ (.slice none 0 0)) t (.slice va t.args.length vc) z0 (.slice none 0 0)) := Lib.hid (F1.out.putR z0 (.slice none 0 0) _ rfl)
        generalize ((((w1.setCell ⟨w.heap.size + 1, 0, none⟩ (.int .i64 0)).setCell ⟨w.heap.size + 1, 1, none⟩ (.int .i64 0)).setCell ⟨w.heap.size + 1, 2, none⟩ (.string ⟨#[]⟩)).setCell ⟨w.heap.size + 1, 3, none⟩ (.slice none 0 0)) = WZ at *
        obtain ⟨k0, k1, k2, k3⟩ : WZ.cell? ⟨w.heap.size + 1, 0, none⟩ = some (.int .i64 0) ∧ WZ.cell? ⟨w.heap.size + 1, 1, none⟩ = some (.int .i64 0) ∧ WZ.cell? ⟨w.heap.size + 1, 2, none⟩ = some (.string ⟨#[]⟩) ∧ WZ.cell? ⟨w.heap.size + 1, 3, none⟩ = some (.slice none 0 0) := FZ.out.r.cells
        exact bodyPost_ret (v := .tuple #[zv, .bool true]) (by simp [results, Try.results40, go_sem, k0, k1, k2, k3]) rfl (FZ.out.chk0 (Beh.zero _ _) true)

set_option maxHeartbeats 8000000 in
theorem rAtomic_any (t : Tm) (v : Value) (w : World) (h : LiesT w t v) : Calls Try.prog 42 #[tv t v] w (Chk0 (chkB t ⟨#[97, 116, 111, 109, 105, 99]⟩ (t.kind != 3)) (chkO t (t.kind != 3)) w) := by
  obtain ⟨va, vc, rfl⟩ : ∃ a k, v = .slice a t.args.length k := h.slice
  have F0 := Lib.hid (Fr.start w t (.slice va t.args.length vc))
  have H := Lib.hid h
  cases hv : validB t
  · have eB : chkB t ⟨#[97, 116, 111, 109, 105, 99]⟩ (t.kind != 3) = z0 := by unfold chkB; rw [hv]; rfl
    have eO : chkO t (t.kind != 3) = false := by unfold chkO; rw [hv]; rfl
    rw [eB, eO]
    have HV := Lib.hid hv
    clear h hv eB eO
    simp only [tv]
    go_enter Try.func42, Try.ntmps42
    go_wp2_with fail
    refine (valid_is t _ false HV.out _ (H.out.below F0.out.b)).mono ?_
    rintro e w1 ⟨rfl, hb1⟩
    have F1 := Lib.hid (F0.out.step hb1)
    clear hb1
    obtain ⟨c0, c1, c2, c3⟩ : w1.cell? ⟨w.heap.size + 1, 0, none⟩ = some (.int .i64 0) ∧ w1.cell? ⟨w.heap.size + 1, 1, none⟩ = some (.int .i64 0) ∧ w1.cell? ⟨w.heap.size + 1, 2, none⟩ = some (.string ⟨#[]⟩) ∧ w1.cell? ⟨w.heap.size + 1, 3, none⟩ = some (.slice none 0 0) := F1.out.r.cells
    obtain ⟨f0, f1, f2, f3⟩ := F1.out.r.froz
    go_wp2_with fail
    clear c0 c1 c2 c3 f0 f1 f2 f3
    have FZ : Hid (Fr w ((((w1.setCell ⟨w.heap.size + 1, 0, none⟩ (.int .i64 0)).setCell ⟨w.heap.size + 1, 1, none⟩ (.int .i64 0)).setCell ⟨w.heap.size + 1, 2, none⟩ (.string ⟨#[]⟩)).setCell ⟨w.heap.size + 1, 3, none⟩ (.slice none 0 0)) t (.slice va t.args.length vc) z0 (.slice none 0 0)) := Lib.hid (F1.out.putR z0 (.slice none 0 0) _ rfl)
    generalize ((((w1.setCell ⟨w.heap.size + 1, 0, none⟩ (.int .i64 0)).setCell ⟨w.heap.size + 1, 1, none⟩ (.int .i64 0)).setCell ⟨w.heap.size + 1, 2, none⟩ (.string ⟨#[]⟩)).setCell ⟨w.heap.size + 1, 3, none⟩ (.slice none 0 0)) = WZ at *
    obtain ⟨k0, k1, k2, k3⟩ : WZ.cell? ⟨w.heap.size + 1, 0, none⟩ = some (.int .i64 0) ∧ WZ.cell? ⟨w.heap.size + 1, 1, none⟩ = some (.int .i64 0) ∧ WZ.cell? ⟨w.heap.size + 1, 2, none⟩ = some (.string ⟨#[]⟩) ∧ WZ.cell? ⟨w.heap.size + 1, 3, none⟩ = some (.slice none 0 0) := FZ.out.r.cells
    exact bodyPost_ret (v := .tuple #[zv, .bool false]) (by simp [results, Try.results42, go_sem, k0, k1, k2, k3]) rfl (FZ.out.chk0 (Beh.zero _ _) false)
  · have HV := Lib.hid hv
    rcases Bool.eq_false_or_eq_true (t.kind == 0) with h1 | h1
    · have eB : chkB t ⟨#[97, 116, 111, 109, 105, 99]⟩ (t.kind != 3) = instT := by unfold chkB; rw [if_pos hv, if_pos h1]
      have eO : chkO t (t.kind != 3) = false := by unfold chkO; rw [hv]; simp [bne, h1]
      rw [eB, eO]
      have HCI : Hid (∀ w0, Calls Try.prog 21 #[] w0 (MadeEnd instT w0)) := Lib.hid (fun w0 => rInst_any w0)
      generalize instT = Q at *
      clear hv eB eO
      simp only [tv]
      go_enter Try.func42, Try.ntmps42
      go_wp2_with fail
      refine (valid_is t _ true HV.out _ (H.out.below F0.out.b)).mono ?_
      rintro e w1 ⟨rfl, hb1⟩
      have F1 := Lib.hid (F0.out.step hb1)
      clear hb1
      obtain ⟨p0, p1, p2, p3⟩ := F1.out.p.cells
      go_wp2_with fail
      refine (HCI.out _).mono ?_
      clear p0 p1 p2 p3
      rintro e w7 ⟨y, rfl, hy, hb7⟩
      obtain ⟨ya, yc, rfl⟩ := hy.slice
      have F8 := Lib.hid (F1.out.step hb7)
      have Y8 : Hid (Beh w w7 Q (.slice ya Q.args.length yc)) := Lib.hid (Beh.of hy F1.out.z)
      clear hb7 hy
      obtain ⟨c0, c1, c2, c3⟩ : w7.cell? ⟨w.heap.size + 1, 0, none⟩ = some (.int .i64 0) ∧ w7.cell? ⟨w.heap.size + 1, 1, none⟩ = some (.int .i64 0) ∧ w7.cell? ⟨w.heap.size + 1, 2, none⟩ = some (.string ⟨#[]⟩) ∧ w7.cell? ⟨w.heap.size + 1, 3, none⟩ = some (.slice none 0 0) := F8.out.r.cells
      obtain ⟨f0, f1, f2, f3⟩ := F8.out.r.froz
      go_wp2_with fail
      clear c0 c1 c2 c3 f0 f1 f2 f3
      have F9 : Hid (Fr w ((((w7.setCell ⟨w.heap.size + 1, 0, none⟩ (.int .i64 Q.kind)).setCell ⟨w.heap.size + 1, 1, none⟩ (.int .i64 Q.num)).setCell ⟨w.heap.size + 1, 2, none⟩ (.string Q.name)).setCell ⟨w.heap.size + 1, 3, none⟩ (.slice ya Q.args.length yc)) t (.slice va t.args.length vc) Q (.slice ya Q.args.length yc)) := Lib.hid (F8.out.putR Q (.slice ya Q.args.length yc) _ rfl)
      have Y9 : Hid (Beh w ((((w7.setCell ⟨w.heap.size + 1, 0, none⟩ (.int .i64 Q.kind)).setCell ⟨w.heap.size + 1, 1, none⟩ (.int .i64 Q.num)).setCell ⟨w.heap.size + 1, 2, none⟩ (.string Q.name)).setCell ⟨w.heap.size + 1, 3, none⟩ (.slice ya Q.args.length yc)) Q (.slice ya Q.args.length yc)) := Lib.hid (Beh.put Y8.out (by omega) (F8.out.r) _ _ _ _ _ rfl)
      generalize ((((w7.setCell ⟨w.heap.size + 1, 0, none⟩ (.int .i64 Q.kind)).setCell ⟨w.heap.size + 1, 1, none⟩ (.int .i64 Q.num)).setCell ⟨w.heap.size + 1, 2, none⟩ (.string Q.name)).setCell ⟨w.heap.size + 1, 3, none⟩ (.slice ya Q.args.length yc)) = W9 at *
      obtain ⟨k0, k1, k2, k3⟩ : W9.cell? ⟨w.heap.size + 1, 0, none⟩ = some (.int .i64 Q.kind) ∧ W9.cell? ⟨w.heap.size + 1, 1, none⟩ = some (.int .i64 Q.num) ∧ W9.cell? ⟨w.heap.size + 1, 2, none⟩ = some (.string Q.name) ∧ W9.cell? ⟨w.heap.size + 1, 3, none⟩ = some (.slice ya Q.args.length yc) := F9.out.r.cells
      exact bodyPost_ret (v := .tuple #[tv Q (.slice ya Q.args.length yc), .bool false]) (by simp [results, Try.results42, go_sem, k0, k1, k2, k3]) rfl (F9.out.chk0 Y9.out false)
    · rcases (Bool.eq_false_or_eq_true (t.kind != 3)).symm with hq | hq
      · skip
        have eB : chkB t ⟨#[97, 116, 111, 109, 105, 99]⟩ (t.kind != 3) = typeT ⟨#[97, 116, 111, 109, 105, 99]⟩ t := by unfold chkB; rw [if_pos hv, if_neg (by rw [h1]; simp), if_neg (by rw [hq]; simp)]
        have eO : chkO t (t.kind != 3) = false := by unfold chkO; rw [hq]; simp
        rw [eB, eO]
        have HCI : Hid (∀ w0, LiesT w0 t (.slice va t.args.length vc) → Calls Try.prog 23 #[.string ⟨#[97, 116, 111, 109, 105, 99]⟩, tv t (.slice va t.args.length vc)] w0 (MadeEnd (typeT ⟨#[97, 116, 111, 109, 105, 99]⟩ t) w0)) := Lib.hid (fun w0 h => rType_any t _ ⟨#[97, 116, 111, 109, 105, 99]⟩ w0 h (by simp [ByteArray.size]))
        generalize typeT ⟨#[97, 116, 111, 109, 105, 99]⟩ t = Q at *
        have h3 : (t.kind == 3) = true := by simpa [bne] using hq
        clear hv eB eO h hq
        simp only [tv]
        go_enter Try.func42, Try.ntmps42
        go_wp2_with fail
        refine (valid_is t _ true HV.out _ (H.out.below F0.out.b)).mono ?_
        rintro e w1 ⟨rfl, hb1⟩
        have F1 := Lib.hid (F0.out.step hb1)
        clear hb1
        obtain ⟨p0, p1, p2, p3⟩ := F1.out.p.cells
        go_wp2_with fail
        refine (HCI.out _ (H.out.below F1.out.b)).mono ?_
        clear p0 p1 p2 p3
        rintro e w7 ⟨y, rfl, hy, hb7⟩
        obtain ⟨ya, yc, rfl⟩ := hy.slice
        have F8 := Lib.hid (F1.out.step hb7)
        have Y8 : Hid (Beh w w7 Q (.slice ya Q.args.length yc)) := Lib.hid (Beh.of hy F1.out.z)
        clear hb7 hy
        obtain ⟨c0, c1, c2, c3⟩ : w7.cell? ⟨w.heap.size + 1, 0, none⟩ = some (.int .i64 0) ∧ w7.cell? ⟨w.heap.size + 1, 1, none⟩ = some (.int .i64 0) ∧ w7.cell? ⟨w.heap.size + 1, 2, none⟩ = some (.string ⟨#[]⟩) ∧ w7.cell? ⟨w.heap.size + 1, 3, none⟩ = some (.slice none 0 0) := F8.out.r.cells
        obtain ⟨f0, f1, f2, f3⟩ := F8.out.r.froz
        go_wp2_with fail
        clear c0 c1 c2 c3 f0 f1 f2 f3
        have F9 : Hid (Fr w ((((w7.setCell ⟨w.heap.size + 1, 0, none⟩ (.int .i64 Q.kind)).setCell ⟨w.heap.size + 1, 1, none⟩ (.int .i64 Q.num)).setCell ⟨w.heap.size + 1, 2, none⟩ (.string Q.name)).setCell ⟨w.heap.size + 1, 3, none⟩ (.slice ya Q.args.length yc)) t (.slice va t.args.length vc) Q (.slice ya Q.args.length yc)) := Lib.hid (F8.out.putR Q (.slice ya Q.args.length yc) _ rfl)
        have Y9 : Hid (Beh w ((((w7.setCell ⟨w.heap.size + 1, 0, none⟩ (.int .i64 Q.kind)).setCell ⟨w.heap.size + 1, 1, none⟩ (.int .i64 Q.num)).setCell ⟨w.heap.size + 1, 2, none⟩ (.string Q.name)).setCell ⟨w.heap.size + 1, 3, none⟩ (.slice ya Q.args.length yc)) Q (.slice ya Q.args.length yc)) := Lib.hid (Beh.put Y8.out (by omega) (F8.out.r) _ _ _ _ _ rfl)
        generalize ((((w7.setCell ⟨w.heap.size + 1, 0, none⟩ (.int .i64 Q.kind)).setCell ⟨w.heap.size + 1, 1, none⟩ (.int .i64 Q.num)).setCell ⟨w.heap.size + 1, 2, none⟩ (.string Q.name)).setCell ⟨w.heap.size + 1, 3, none⟩ (.slice ya Q.args.length yc)) = W9 at *
        obtain ⟨k0, k1, k2, k3⟩ : W9.cell? ⟨w.heap.size + 1, 0, none⟩ = some (.int .i64 Q.kind) ∧ W9.cell? ⟨w.heap.size + 1, 1, none⟩ = some (.int .i64 Q.num) ∧ W9.cell? ⟨w.heap.size + 1, 2, none⟩ = some (.string Q.name) ∧ W9.cell? ⟨w.heap.size + 1, 3, none⟩ = some (.slice ya Q.args.length yc) := F9.out.r.cells
        exact bodyPost_ret (v := .tuple #[tv Q (.slice ya Q.args.length yc), .bool false]) (by simp [results, Try.results42, go_sem, k0, k1, k2, k3]) rfl (F9.out.chk0 Y9.out false)
      · skip
        have eB : chkB t ⟨#[97, 116, 111, 109, 105, 99]⟩ (t.kind != 3) = z0 := by unfold chkB; rw [if_pos hv, if_neg (by rw [h1]; simp), if_pos hq]
        have eO : chkO t (t.kind != 3) = true := by unfold chkO; rw [hv, hq]; simp [bne, h1]
        rw [eB, eO]
        have h3 : (t.kind == 3) = false := by simpa [bne] using hq
        clear hv eB eO hq
        simp only [tv]
        go_enter Try.func42, Try.ntmps42
        go_wp2_with fail
        refine (valid_is t _ true HV.out _ (H.out.below F0.out.b)).mono ?_
        rintro e w1 ⟨rfl, hb1⟩
        have F1 := Lib.hid (F0.out.step hb1)
        clear hb1
        obtain ⟨p0, p1, p2, p3⟩ := F1.out.p.cells
        obtain ⟨c0, c1, c2, c3⟩ : w1.cell? ⟨w.heap.size + 1, 0, none⟩ = some (.int .i64 0) ∧ w1.cell? ⟨w.heap.size + 1, 1, none⟩ = some (.int .i64 0) ∧ w1.cell? ⟨w.heap.size + 1, 2, none⟩ = some (.string ⟨#[]⟩) ∧ w1.cell? ⟨w.heap.size + 1, 3, none⟩ = some (.slice none 0 0) := F1.out.r.cells
        obtain ⟨f0, f1, f2, f3⟩ := F1.out.r.froz
        go_wp2_with fail
        clear c0 c1 c2 c3 f0 f1 f2 f3
        have FZ : Hid (Fr w ((((w1.setCell ⟨w.heap.size + 1, 0, none⟩ (.int .i64 0)).setCell ⟨w.heap.size + 1, 1, none⟩ (.int .i64 0)).setCell ⟨w.heap.size + 1, 2, none⟩ (.string ⟨#[]⟩)).setCell ⟨w.heap.size + 1, 3, none⟩ (.slice none 0 0)) t (.slice va t.args.length vc) z0 (.slice none 0 0)) := Lib.hid (F1.out.putR z0 (.slice none 0 0) _ rfl)
        generalize ((((w1.setCell ⟨w.heap.size + 1, 0, none⟩ (.int .i64 0)).setCell ⟨w.heap.size + 1, 1, none⟩ (.int .i64 0)).setCell ⟨w.heap.size + 1, 2, none⟩ (.string ⟨#[]⟩)).setCell ⟨w.heap.size + 1, 3, none⟩ (.slice none 0 0)) = WZ at *
        obtain ⟨k0, k1, k2, k3⟩ : WZ.cell? ⟨w.heap.size + 1, 0, none⟩ = some (.int .i64 0) ∧ WZ.cell? ⟨w.heap.size + 1, 1, none⟩ = some (.int .i64 0) ∧ WZ.cell? ⟨w.heap.size + 1, 2, none⟩ = some (.string ⟨#[]⟩) ∧ WZ.cell? ⟨w.heap.size + 1, 3, none⟩ = some (.slice none 0 0) := FZ.out.r.cells
        exact bodyPost_ret (v := .tuple #[zv, .bool true]) (by simp [results, Try.results42, go_sem, k0, k1, k2, k3]) rfl (FZ.out.chk0 (Beh.zero _ _) true)

end Go.Proofs.Yteilodihjhdngaa

/- The specification's Char, Code, Formal. -/
namespace Go.Proofs.Yteilodihjhdngaa
open Go.RowKit Go.Proofs.HT


set_option maxHeartbeats 8000000 in
theorem rChar_any (t : Tm) (v : Value) (w : World) (h : LiesT w t v) : Calls Try.prog 46 #[tv t v] w (Chk1 (.int .i64 (chN t)) (chkB t ⟨#[99, 104, 97, 114, 97, 99, 116, 101, 114]⟩ (chQ t)) (chkO t (chQ t)) w) := by
  obtain ⟨va, vc, rfl⟩ : ∃ a k, v = .slice a t.args.length k := h.slice
  have F0 := Lib.hid (Fr.start w t (.slice va t.args.length vc))
  have H := Lib.hid h
  cases hv : validB t
  · have eB : chkB t ⟨#[99, 104, 97, 114, 97, 99, 116, 101, 114]⟩ (chQ t) = z0 := by unfold chkB; rw [hv]; rfl
    have eO : chkO t (chQ t) = false := by unfold chkO; rw [hv]; rfl
    have eV : chN t = 0 := by unfold chN; rw [eO]; rfl
    rw [eV]
    clear eV
    rw [eB, eO]
    have HV := Lib.hid hv
    clear h hv eB eO
    simp only [tv]
    go_enter Try.func46, Try.ntmps46
    go_wp2_with fail
    refine (valid_is t _ false HV.out _ (H.out.below F0.out.b)).mono ?_
    rintro e w1 ⟨rfl, hb1⟩
    have F1 := Lib.hid (F0.out.step hb1)
    clear hb1
    obtain ⟨c0, c1, c2, c3⟩ : w1.cell? ⟨w.heap.size + 1, 0, none⟩ = some (.int .i64 0) ∧ w1.cell? ⟨w.heap.size + 1, 1, none⟩ = some (.int .i64 0) ∧ w1.cell? ⟨w.heap.size + 1, 2, none⟩ = some (.string ⟨#[]⟩) ∧ w1.cell? ⟨w.heap.size + 1, 3, none⟩ = some (.slice none 0 0) := F1.out.r.cells
    obtain ⟨f0, f1, f2, f3⟩ := F1.out.r.froz
    go_wp2_with fail
    clear c0 c1 c2 c3 f0 f1 f2 f3
    have FZ : Hid (Fr w ((((w1.setCell ⟨w.heap.size + 1, 0, none⟩ (.int .i64 0)).setCell ⟨w.heap.size + 1, 1, none⟩ (.int .i64 0)).setCell ⟨w.heap.size + 1, 2, none⟩ (.string ⟨#[]⟩)).setCell ⟨w.heap.size + 1, 3, none⟩ (.slice none 0 0)) t (.slice va t.args.length vc) z0 (.slice none 0 0)) := Lib.hid (F1.out.putR z0 (.slice none 0 0) _ rfl)
    generalize ((((w1.setCell ⟨w.heap.size + 1, 0, none⟩ (.int .i64 0)).setCell ⟨w.heap.size + 1, 1, none⟩ (.int .i64 0)).setCell ⟨w.heap.size + 1, 2, none⟩ (.string ⟨#[]⟩)).setCell ⟨w.heap.size + 1, 3, none⟩ (.slice none 0 0)) = WZ at *
    obtain ⟨k0, k1, k2, k3⟩ : WZ.cell? ⟨w.heap.size + 1, 0, none⟩ = some (.int .i64 0) ∧ WZ.cell? ⟨w.heap.size + 1, 1, none⟩ = some (.int .i64 0) ∧ WZ.cell? ⟨w.heap.size + 1, 2, none⟩ = some (.string ⟨#[]⟩) ∧ WZ.cell? ⟨w.heap.size + 1, 3, none⟩ = some (.slice none 0 0) := FZ.out.r.cells
    exact bodyPost_ret (v := .tuple #[.int .i64 0, zv, .bool false]) (by simp [results, Try.results46, go_sem, k0, k1, k2, k3]) rfl (FZ.out.chk1 (Beh.zero _ _) (.int .i64 0) false)
  · have HV := Lib.hid hv
    rcases Bool.eq_false_or_eq_true (t.kind == 0) with h1 | h1
    · have eB : chkB t ⟨#[99, 104, 97, 114, 97, 99, 116, 101, 114]⟩ (chQ t) = instT := by unfold chkB; rw [if_pos hv, if_pos h1]
      have eO : chkO t (chQ t) = false := by unfold chkO; rw [hv]; simp [bne, h1]
      have eV : chN t = 0 := by unfold chN; rw [eO]; rfl
      rw [eV]
      clear eV
      rw [eB, eO]
      have HCI : Hid (∀ w0, Calls Try.prog 21 #[] w0 (MadeEnd instT w0)) := Lib.hid (fun w0 => rInst_any w0)
      generalize instT = Q at *
      clear hv eB eO
      simp only [tv]
      go_enter Try.func46, Try.ntmps46
      go_wp2_with fail
      refine (valid_is t _ true HV.out _ (H.out.below F0.out.b)).mono ?_
      rintro e w1 ⟨rfl, hb1⟩
      have F1 := Lib.hid (F0.out.step hb1)
      clear hb1
      obtain ⟨p0, p1, p2, p3⟩ := F1.out.p.cells
      go_wp2_with fail
      refine (HCI.out _).mono ?_
      clear p0 p1 p2 p3
      rintro e w7 ⟨y, rfl, hy, hb7⟩
      obtain ⟨ya, yc, rfl⟩ := hy.slice
      have F8 := Lib.hid (F1.out.step hb7)
      have Y8 : Hid (Beh w w7 Q (.slice ya Q.args.length yc)) := Lib.hid (Beh.of hy F1.out.z)
      clear hb7 hy
      obtain ⟨c0, c1, c2, c3⟩ : w7.cell? ⟨w.heap.size + 1, 0, none⟩ = some (.int .i64 0) ∧ w7.cell? ⟨w.heap.size + 1, 1, none⟩ = some (.int .i64 0) ∧ w7.cell? ⟨w.heap.size + 1, 2, none⟩ = some (.string ⟨#[]⟩) ∧ w7.cell? ⟨w.heap.size + 1, 3, none⟩ = some (.slice none 0 0) := F8.out.r.cells
      obtain ⟨f0, f1, f2, f3⟩ := F8.out.r.froz
      go_wp2_with fail
      clear c0 c1 c2 c3 f0 f1 f2 f3
      have F9 : Hid (Fr w ((((w7.setCell ⟨w.heap.size + 1, 0, none⟩ (.int .i64 Q.kind)).setCell ⟨w.heap.size + 1, 1, none⟩ (.int .i64 Q.num)).setCell ⟨w.heap.size + 1, 2, none⟩ (.string Q.name)).setCell ⟨w.heap.size + 1, 3, none⟩ (.slice ya Q.args.length yc)) t (.slice va t.args.length vc) Q (.slice ya Q.args.length yc)) := Lib.hid (F8.out.putR Q (.slice ya Q.args.length yc) _ rfl)
      have Y9 : Hid (Beh w ((((w7.setCell ⟨w.heap.size + 1, 0, none⟩ (.int .i64 Q.kind)).setCell ⟨w.heap.size + 1, 1, none⟩ (.int .i64 Q.num)).setCell ⟨w.heap.size + 1, 2, none⟩ (.string Q.name)).setCell ⟨w.heap.size + 1, 3, none⟩ (.slice ya Q.args.length yc)) Q (.slice ya Q.args.length yc)) := Lib.hid (Beh.put Y8.out (by omega) (F8.out.r) _ _ _ _ _ rfl)
      generalize ((((w7.setCell ⟨w.heap.size + 1, 0, none⟩ (.int .i64 Q.kind)).setCell ⟨w.heap.size + 1, 1, none⟩ (.int .i64 Q.num)).setCell ⟨w.heap.size + 1, 2, none⟩ (.string Q.name)).setCell ⟨w.heap.size + 1, 3, none⟩ (.slice ya Q.args.length yc)) = W9 at *
      obtain ⟨k0, k1, k2, k3⟩ : W9.cell? ⟨w.heap.size + 1, 0, none⟩ = some (.int .i64 Q.kind) ∧ W9.cell? ⟨w.heap.size + 1, 1, none⟩ = some (.int .i64 Q.num) ∧ W9.cell? ⟨w.heap.size + 1, 2, none⟩ = some (.string Q.name) ∧ W9.cell? ⟨w.heap.size + 1, 3, none⟩ = some (.slice ya Q.args.length yc) := F9.out.r.cells
      exact bodyPost_ret (v := .tuple #[.int .i64 0, tv Q (.slice ya Q.args.length yc), .bool false]) (by simp [results, Try.results46, go_sem, k0, k1, k2, k3]) rfl (F9.out.chk1 Y9.out (.int .i64 0) false)
    · rcases (Bool.eq_false_or_eq_true (t.kind == 2)).symm with hk | hk
      · skip
        have hq : chQ t = false := by unfold chQ; rw [hk]; rfl
        have eB : chkB t ⟨#[99, 104, 97, 114, 97, 99, 116, 101, 114]⟩ (chQ t) = typeT ⟨#[99, 104, 97, 114, 97, 99, 116, 101, 114]⟩ t := by unfold chkB; rw [if_pos hv, if_neg (by rw [h1]; simp), if_neg (by rw [hq]; simp)]
        have eO : chkO t (chQ t) = false := by unfold chkO; rw [hq]; simp
        have eV : chN t = 0 := by unfold chN; rw [eO]; rfl
        rw [eV]
        clear eV
        rw [eB, eO]
        have HCI : Hid (∀ w0, LiesT w0 t (.slice va t.args.length vc) → Calls Try.prog 23 #[.string ⟨#[99, 104, 97, 114, 97, 99, 116, 101, 114]⟩, tv t (.slice va t.args.length vc)] w0 (MadeEnd (typeT ⟨#[99, 104, 97, 114, 97, 99, 116, 101, 114]⟩ t) w0)) := Lib.hid (fun w0 h => rType_any t _ ⟨#[99, 104, 97, 114, 97, 99, 116, 101, 114]⟩ w0 h (by simp [ByteArray.size]))
        generalize typeT ⟨#[99, 104, 97, 114, 97, 99, 116, 101, 114]⟩ t = Q at *
        have h2 : (t.kind != 2) = true := by simp [bne, hk]
        have h3 := hk
        clear hv eB eO h hq
        simp only [tv]
        go_enter Try.func46, Try.ntmps46
        go_wp2_with fail
        refine (valid_is t _ true HV.out _ (H.out.below F0.out.b)).mono ?_
        rintro e w1 ⟨rfl, hb1⟩
        have F1 := Lib.hid (F0.out.step hb1)
        clear hb1
        obtain ⟨p0, p1, p2, p3⟩ := F1.out.p.cells
        go_wp2_with fail
        refine (HCI.out _ (H.out.below F1.out.b)).mono ?_
        clear p0 p1 p2 p3
        rintro e w7 ⟨y, rfl, hy, hb7⟩
        obtain ⟨ya, yc, rfl⟩ := hy.slice
        have F8 := Lib.hid (F1.out.step hb7)
        have Y8 : Hid (Beh w w7 Q (.slice ya Q.args.length yc)) := Lib.hid (Beh.of hy F1.out.z)
        clear hb7 hy
        obtain ⟨c0, c1, c2, c3⟩ : w7.cell? ⟨w.heap.size + 1, 0, none⟩ = some (.int .i64 0) ∧ w7.cell? ⟨w.heap.size + 1, 1, none⟩ = some (.int .i64 0) ∧ w7.cell? ⟨w.heap.size + 1, 2, none⟩ = some (.string ⟨#[]⟩) ∧ w7.cell? ⟨w.heap.size + 1, 3, none⟩ = some (.slice none 0 0) := F8.out.r.cells
        obtain ⟨f0, f1, f2, f3⟩ := F8.out.r.froz
        go_wp2_with fail
        clear c0 c1 c2 c3 f0 f1 f2 f3
        have F9 : Hid (Fr w ((((w7.setCell ⟨w.heap.size + 1, 0, none⟩ (.int .i64 Q.kind)).setCell ⟨w.heap.size + 1, 1, none⟩ (.int .i64 Q.num)).setCell ⟨w.heap.size + 1, 2, none⟩ (.string Q.name)).setCell ⟨w.heap.size + 1, 3, none⟩ (.slice ya Q.args.length yc)) t (.slice va t.args.length vc) Q (.slice ya Q.args.length yc)) := Lib.hid (F8.out.putR Q (.slice ya Q.args.length yc) _ rfl)
        have Y9 : Hid (Beh w ((((w7.setCell ⟨w.heap.size + 1, 0, none⟩ (.int .i64 Q.kind)).setCell ⟨w.heap.size + 1, 1, none⟩ (.int .i64 Q.num)).setCell ⟨w.heap.size + 1, 2, none⟩ (.string Q.name)).setCell ⟨w.heap.size + 1, 3, none⟩ (.slice ya Q.args.length yc)) Q (.slice ya Q.args.length yc)) := Lib.hid (Beh.put Y8.out (by omega) (F8.out.r) _ _ _ _ _ rfl)
        generalize ((((w7.setCell ⟨w.heap.size + 1, 0, none⟩ (.int .i64 Q.kind)).setCell ⟨w.heap.size + 1, 1, none⟩ (.int .i64 Q.num)).setCell ⟨w.heap.size + 1, 2, none⟩ (.string Q.name)).setCell ⟨w.heap.size + 1, 3, none⟩ (.slice ya Q.args.length yc)) = W9 at *
        obtain ⟨k0, k1, k2, k3⟩ : W9.cell? ⟨w.heap.size + 1, 0, none⟩ = some (.int .i64 Q.kind) ∧ W9.cell? ⟨w.heap.size + 1, 1, none⟩ = some (.int .i64 Q.num) ∧ W9.cell? ⟨w.heap.size + 1, 2, none⟩ = some (.string Q.name) ∧ W9.cell? ⟨w.heap.size + 1, 3, none⟩ = some (.slice ya Q.args.length yc) := F9.out.r.cells
        exact bodyPost_ret (v := .tuple #[.int .i64 0, tv Q (.slice ya Q.args.length yc), .bool false]) (by simp [results, Try.results46, go_sem, k0, k1, k2, k3]) rfl (F9.out.chk1 Y9.out (.int .i64 0) false)
      · by_cases hs1 : t.name.size = 1
        rotate_left
        · skip
          have hq : chQ t = false := by unfold chQ; rw [hk, decide_eq_false hs1]; rfl
          have eB : chkB t ⟨#[99, 104, 97, 114, 97, 99, 116, 101, 114]⟩ (chQ t) = typeT ⟨#[99, 104, 97, 114, 97, 99, 116, 101, 114]⟩ t := by unfold chkB; rw [if_pos hv, if_neg (by rw [h1]; simp), if_neg (by rw [hq]; simp)]
          have eO : chkO t (chQ t) = false := by unfold chkO; rw [hq]; simp
          have eV : chN t = 0 := by unfold chN; rw [eO]; rfl
          rw [eV]
          clear eV
          rw [eB, eO]
          have HCI : Hid (∀ w0, LiesT w0 t (.slice va t.args.length vc) → Calls Try.prog 23 #[.string ⟨#[99, 104, 97, 114, 97, 99, 116, 101, 114]⟩, tv t (.slice va t.args.length vc)] w0 (MadeEnd (typeT ⟨#[99, 104, 97, 114, 97, 99, 116, 101, 114]⟩ t) w0)) := Lib.hid (fun w0 h => rType_any t _ ⟨#[99, 104, 97, 114, 97, 99, 116, 101, 114]⟩ w0 h (by simp [ByteArray.size]))
          generalize typeT ⟨#[99, 104, 97, 114, 97, 99, 116, 101, 114]⟩ t = Q at *
          have h2 : (t.kind != 2) = false := by simp [bne, hk]
          have h3 := hk
          have h4 : ((t.name.size : Int) != 1) = true := by simp; omega
          have h5 : ((t.name.size : Int) == 1) = false := by simp; omega
          clear hv eB eO h hq
          simp only [tv]
          go_enter Try.func46, Try.ntmps46
          go_wp2_with fail
          refine (valid_is t _ true HV.out _ (H.out.below F0.out.b)).mono ?_
          rintro e w1 ⟨rfl, hb1⟩
          have F1 := Lib.hid (F0.out.step hb1)
          clear hb1
          obtain ⟨p0, p1, p2, p3⟩ := F1.out.p.cells
          go_wp2_with fail
          refine (HCI.out _ (H.out.below F1.out.b)).mono ?_
          clear p0 p1 p2 p3
          rintro e w7 ⟨y, rfl, hy, hb7⟩
          obtain ⟨ya, yc, rfl⟩ := hy.slice
          have F8 := Lib.hid (F1.out.step hb7)
          have Y8 : Hid (Beh w w7 Q (.slice ya Q.args.length yc)) := Lib.hid (Beh.of hy F1.out.z)
          clear hb7 hy
          obtain ⟨c0, c1, c2, c3⟩ : w7.cell? ⟨w.heap.size + 1, 0, none⟩ = some (.int .i64 0) ∧ w7.cell? ⟨w.heap.size + 1, 1, none⟩ = some (.int .i64 0) ∧ w7.cell? ⟨w.heap.size + 1, 2, none⟩ = some (.string ⟨#[]⟩) ∧ w7.cell? ⟨w.heap.size + 1, 3, none⟩ = some (.slice none 0 0) := F8.out.r.cells
          obtain ⟨f0, f1, f2, f3⟩ := F8.out.r.froz
          go_wp2_with fail
          clear c0 c1 c2 c3 f0 f1 f2 f3
          have F9 : Hid (Fr w ((((w7.setCell ⟨w.heap.size + 1, 0, none⟩ (.int .i64 Q.kind)).setCell ⟨w.heap.size + 1, 1, none⟩ (.int .i64 Q.num)).setCell ⟨w.heap.size + 1, 2, none⟩ (.string Q.name)).setCell ⟨w.heap.size + 1, 3, none⟩ (.slice ya Q.args.length yc)) t (.slice va t.args.length vc) Q (.slice ya Q.args.length yc)) := Lib.hid (F8.out.putR Q (.slice ya Q.args.length yc) _ rfl)
          have Y9 : Hid (Beh w ((((w7.setCell ⟨w.heap.size + 1, 0, none⟩ (.int .i64 Q.kind)).setCell ⟨w.heap.size + 1, 1, none⟩ (.int .i64 Q.num)).setCell ⟨w.heap.size + 1, 2, none⟩ (.string Q.name)).setCell ⟨w.heap.size + 1, 3, none⟩ (.slice ya Q.args.length yc)) Q (.slice ya Q.args.length yc)) := Lib.hid (Beh.put Y8.out (by omega) (F8.out.r) _ _ _ _ _ rfl)
          generalize ((((w7.setCell ⟨w.heap.size + 1, 0, none⟩ (.int .i64 Q.kind)).setCell ⟨w.heap.size + 1, 1, none⟩ (.int .i64 Q.num)).setCell ⟨w.heap.size + 1, 2, none⟩ (.string Q.name)).setCell ⟨w.heap.size + 1, 3, none⟩ (.slice ya Q.args.length yc)) = W9 at *
          obtain ⟨k0, k1, k2, k3⟩ : W9.cell? ⟨w.heap.size + 1, 0, none⟩ = some (.int .i64 Q.kind) ∧ W9.cell? ⟨w.heap.size + 1, 1, none⟩ = some (.int .i64 Q.num) ∧ W9.cell? ⟨w.heap.size + 1, 2, none⟩ = some (.string Q.name) ∧ W9.cell? ⟨w.heap.size + 1, 3, none⟩ = some (.slice ya Q.args.length yc) := F9.out.r.cells
          exact bodyPost_ret (v := .tuple #[.int .i64 0, tv Q (.slice ya Q.args.length yc), .bool false]) (by simp [results, Try.results46, go_sem, k0, k1, k2, k3]) rfl (F9.out.chk1 Y9.out (.int .i64 0) false)
        · skip
          obtain ⟨b, hb⟩ : ∃ b, t.name = ⟨#[b]⟩ := by
            rcases hnm : t.name with ⟨⟨l⟩⟩
            rw [hnm] at hs1
            match l, hs1 with
            | [b], _ => exact ⟨b, rfl⟩
          have hq : chQ t = true := by unfold chQ; rw [hk, hs1]; rfl
          have eB : chkB t ⟨#[99, 104, 97, 114, 97, 99, 116, 101, 114]⟩ (chQ t) = z0 := by unfold chkB; rw [if_pos hv, if_neg (by rw [h1]; simp), if_pos hq]
          have eO : chkO t (chQ t) = true := by unfold chkO; rw [hv, hq]; simp [bne, h1]
          have eV : chN t = b.toNat := by unfold chN; rw [eO, hb]; rfl
          rw [eV, eB, eO]
          have HVC : Hid (∀ w0, Below w.heap.size w w0 → Calls Try.prog 51 #[.agg #[.int .i64 t.kind, .int .i64 t.num, .string ⟨#[b]⟩, .slice va t.args.length vc]] w0 fun e w' => e = .returned (.bool true) ∧ Below w0.heap.size w0 w') := Lib.hid (fun w0 hbb => by have hh := valid_is t (.slice va t.args.length vc) true HV.out w0 (H.out.below hbb); simp only [tv] at hh; rw [hb] at hh; exact hh)
          have FP : Hid (∀ w1 z y, Fr w w1 t (.slice va t.args.length vc) z y → w1.cell? ⟨w.heap.size, 2, none⟩ = some (.string ⟨#[b]⟩)) := Lib.hid (fun w1 z y h => by rw [← hb]; exact h.p.cells.2.2.1)
          have F0 : Hid (Fr w ((w.alloc (.cells #[.int .i64 t.kind, .int .i64 t.num, .string ⟨#[b]⟩, .slice va t.args.length vc] 24)).alloc (.cells #[.int .i64 0, .int .i64 0, .string ⟨#[]⟩, .slice none 0 0] 24)) t (.slice va t.args.length vc) z0 (.slice none 0 0)) := Lib.hid (by rw [← hb]; exact F0.out)
          have h2 : (t.kind != 2) = false := by simp [bne, hk]
          simp only [tv]
          rw [hb]
          clear h hv eB eO eV hq hb hs1 H HV
          go_enter Try.func46, Try.ntmps46
          go_wp2_with fail
          refine (HVC.out _ F0.out.b).mono ?_
          rintro e w1 ⟨rfl, hb1⟩
          have F1 := Lib.hid (F0.out.step hb1)
          clear hb1
          obtain ⟨p0, p1, px, p3⟩ := F1.out.p.cells
          clear px
          have p2 := FP.out _ _ _ F1.out
          obtain ⟨c0, c1, c2, c3⟩ : w1.cell? ⟨w.heap.size + 1, 0, none⟩ = some (.int .i64 0) ∧ w1.cell? ⟨w.heap.size + 1, 1, none⟩ = some (.int .i64 0) ∧ w1.cell? ⟨w.heap.size + 1, 2, none⟩ = some (.string ⟨#[]⟩) ∧ w1.cell? ⟨w.heap.size + 1, 3, none⟩ = some (.slice none 0 0) := F1.out.r.cells
          obtain ⟨f0, f1, f2, f3⟩ := F1.out.r.froz
          go_wp2_with fail
          clear c0 c1 c2 c3 f0 f1 f2 f3
          have FZ : Hid (Fr w ((((w1.setCell ⟨w.heap.size + 1, 0, none⟩ (.int .i64 0)).setCell ⟨w.heap.size + 1, 1, none⟩ (.int .i64 0)).setCell ⟨w.heap.size + 1, 2, none⟩ (.string ⟨#[]⟩)).setCell ⟨w.heap.size + 1, 3, none⟩ (.slice none 0 0)) t (.slice va t.args.length vc) z0 (.slice none 0 0)) := Lib.hid (F1.out.putR z0 (.slice none 0 0) _ rfl)
          generalize ((((w1.setCell ⟨w.heap.size + 1, 0, none⟩ (.int .i64 0)).setCell ⟨w.heap.size + 1, 1, none⟩ (.int .i64 0)).setCell ⟨w.heap.size + 1, 2, none⟩ (.string ⟨#[]⟩)).setCell ⟨w.heap.size + 1, 3, none⟩ (.slice none 0 0)) = WZ at *
          obtain ⟨k0, k1, k2, k3⟩ : WZ.cell? ⟨w.heap.size + 1, 0, none⟩ = some (.int .i64 0) ∧ WZ.cell? ⟨w.heap.size + 1, 1, none⟩ = some (.int .i64 0) ∧ WZ.cell? ⟨w.heap.size + 1, 2, none⟩ = some (.string ⟨#[]⟩) ∧ WZ.cell? ⟨w.heap.size + 1, 3, none⟩ = some (.slice none 0 0) := FZ.out.r.cells
          exact bodyPost_ret (v := .tuple #[.int .i64 (b.toNat : Nat), zv, .bool true]) (by simp [results, Try.results46, go_sem, k0, k1, k2, k3]; exact wrapB b) rfl (FZ.out.chk1 (Beh.zero _ _) (.int .i64 (b.toNat : Nat)) true)

/-- What the specification's Formal returns: a part of the ball. -/
def ChkF (B : Tm) (q : Bool) (w : World) (e : Ending) (w' : World) : Prop := ∃ v, e = .returned (.tuple #[tv B v, .bool q]) ∧ LiesT w' B v ∧ Below w.heap.size w w'
theorem isE_parts {t : Tm} (hv : validB t = true) {x y : Bool} (h2 : (t.name.data.toList == (⟨#[101, 114, 114, 111, 114]⟩ : ByteArray).data.toList) = x) (h3 : (t.args.length == 2) = y) : isE t = ((t.kind == 3) && (x && y)) := by
  unfold isE isS; rw [hv, h2, h3, Bool.true_and]
set_option maxHeartbeats 8000000 in
theorem rFormal_any (t : Tm) (v : Value) (w : World) (h : LiesT w t v) : Calls Try.prog 33 #[tv t v] w (ChkF (formT t) (isE t) w) := by
  obtain ⟨va, vc, rfl⟩ : ∃ a k, v = .slice a t.args.length k := h.slice
  have F0 := Lib.hid (Fr.start w t (.slice va t.args.length vc))
  have H := Lib.hid h
  cases hv : validB t
  · have e1 : isE t = false := by unfold isE; rw [hv]; rfl
    have e2 : formT t = z0 := by unfold formT; rw [e1]; rfl
    rw [e1, e2]
    have HV := Lib.hid hv
    clear h hv e1 e2
    simp only [tv]
    go_enter Try.func33, Try.ntmps33
    go_wp2_with fail
    refine (valid_is t _ false HV.out _ (H.out.below F0.out.b)).mono ?_
    rintro e w1 ⟨rfl, hb1⟩
    have F1 := Lib.hid (F0.out.step hb1)
    clear hb1
    obtain ⟨c0, c1, c2, c3⟩ : w1.cell? ⟨w.heap.size + 1, 0, none⟩ = some (.int .i64 0) ∧ w1.cell? ⟨w.heap.size + 1, 1, none⟩ = some (.int .i64 0) ∧ w1.cell? ⟨w.heap.size + 1, 2, none⟩ = some (.string ⟨#[]⟩) ∧ w1.cell? ⟨w.heap.size + 1, 3, none⟩ = some (.slice none 0 0) := F1.out.r.cells
    obtain ⟨f0, f1, f2, f3⟩ := F1.out.r.froz
    go_wp2_with fail
    clear c0 c1 c2 c3 f0 f1 f2 f3
    have FZ : Hid (Fr w ((((w1.setCell ⟨w.heap.size + 1, 0, none⟩ (.int .i64 0)).setCell ⟨w.heap.size + 1, 1, none⟩ (.int .i64 0)).setCell ⟨w.heap.size + 1, 2, none⟩ (.string ⟨#[]⟩)).setCell ⟨w.heap.size + 1, 3, none⟩ (.slice none 0 0)) t (.slice va t.args.length vc) z0 (.slice none 0 0)) := Lib.hid (F1.out.putR z0 (.slice none 0 0) _ rfl)
    generalize ((((w1.setCell ⟨w.heap.size + 1, 0, none⟩ (.int .i64 0)).setCell ⟨w.heap.size + 1, 1, none⟩ (.int .i64 0)).setCell ⟨w.heap.size + 1, 2, none⟩ (.string ⟨#[]⟩)).setCell ⟨w.heap.size + 1, 3, none⟩ (.slice none 0 0)) = WZ at *
    obtain ⟨k0, k1, k2, k3⟩ : WZ.cell? ⟨w.heap.size + 1, 0, none⟩ = some (.int .i64 0) ∧ WZ.cell? ⟨w.heap.size + 1, 1, none⟩ = some (.int .i64 0) ∧ WZ.cell? ⟨w.heap.size + 1, 2, none⟩ = some (.string ⟨#[]⟩) ∧ WZ.cell? ⟨w.heap.size + 1, 3, none⟩ = some (.slice none 0 0) := FZ.out.r.cells
    exact bodyPost_ret (v := .tuple #[zv, .bool false]) (by simp [results, Try.results33, go_sem, k0, k1, k2, k3]) rfl ⟨.slice none 0 0, rfl, OwnT.lies (S := fun _ => True) _ _ zero_own, FZ.out.b⟩
  · have HV := Lib.hid hv
    obtain ⟨x2, h2⟩ : ∃ x, (t.name.data.toList == (⟨#[101, 114, 114, 111, 114]⟩ : ByteArray).data.toList) = x := ⟨_, rfl⟩
    obtain ⟨x3, h3⟩ : ∃ x, (t.args.length == 2) = x := ⟨_, rfl⟩
    have he := isE_parts hv h2 h3
    have h2 : (t.name.toList == [101, 114, 114, 111, 114]) = x2 := by rw [Lib.toList_data]; exact h2
    rcases Bool.eq_false_or_eq_true (t.kind == 3) with h1 | h1
    rotate_left
    · have e1 : isE t = false := by rw [he, h1]; rfl
      have e2 : formT t = z0 := by unfold formT; rw [e1]; rfl
      have h4 : (t.kind != 3) = true := by simp [bne, h1]
      rw [e1, e2]
      clear h hv e1 e2 he h2 h3
      simp only [tv]
      go_enter Try.func33, Try.ntmps33
      go_wp2_with fail
      refine (valid_is t _ true HV.out _ (H.out.below F0.out.b)).mono ?_
      rintro e w1 ⟨rfl, hb1⟩
      have F1 := Lib.hid (F0.out.step hb1)
      clear hb1
      obtain ⟨p0, p1, p2, p3⟩ := F1.out.p.cells
      obtain ⟨c0, c1, c2, c3⟩ : w1.cell? ⟨w.heap.size + 1, 0, none⟩ = some (.int .i64 0) ∧ w1.cell? ⟨w.heap.size + 1, 1, none⟩ = some (.int .i64 0) ∧ w1.cell? ⟨w.heap.size + 1, 2, none⟩ = some (.string ⟨#[]⟩) ∧ w1.cell? ⟨w.heap.size + 1, 3, none⟩ = some (.slice none 0 0) := F1.out.r.cells
      obtain ⟨f0, f1, f2, f3⟩ := F1.out.r.froz
      go_wp2_with fail
      clear c0 c1 c2 c3 f0 f1 f2 f3
      have FZ : Hid (Fr w ((((w1.setCell ⟨w.heap.size + 1, 0, none⟩ (.int .i64 0)).setCell ⟨w.heap.size + 1, 1, none⟩ (.int .i64 0)).setCell ⟨w.heap.size + 1, 2, none⟩ (.string ⟨#[]⟩)).setCell ⟨w.heap.size + 1, 3, none⟩ (.slice none 0 0)) t (.slice va t.args.length vc) z0 (.slice none 0 0)) := Lib.hid (F1.out.putR z0 (.slice none 0 0) _ rfl)
      generalize ((((w1.setCell ⟨w.heap.size + 1, 0, none⟩ (.int .i64 0)).setCell ⟨w.heap.size + 1, 1, none⟩ (.int .i64 0)).setCell ⟨w.heap.size + 1, 2, none⟩ (.string ⟨#[]⟩)).setCell ⟨w.heap.size + 1, 3, none⟩ (.slice none 0 0)) = WZ at *
      obtain ⟨k0, k1, k2, k3⟩ : WZ.cell? ⟨w.heap.size + 1, 0, none⟩ = some (.int .i64 0) ∧ WZ.cell? ⟨w.heap.size + 1, 1, none⟩ = some (.int .i64 0) ∧ WZ.cell? ⟨w.heap.size + 1, 2, none⟩ = some (.string ⟨#[]⟩) ∧ WZ.cell? ⟨w.heap.size + 1, 3, none⟩ = some (.slice none 0 0) := FZ.out.r.cells
      exact bodyPost_ret (v := .tuple #[zv, .bool false]) (by simp [results, Try.results33, go_sem, k0, k1, k2, k3]) rfl ⟨.slice none 0 0, rfl, OwnT.lies (S := fun _ => True) _ _ zero_own, FZ.out.b⟩
    · have h4 : (t.kind != 3) = false := by simp [bne, h1]
      cases x2
      · have e1 : isE t = false := by rw [he, h1]; rfl
        have e2 : formT t = z0 := by unfold formT; rw [e1]; rfl
        have h5 : (t.name.toList != [101, 114, 114, 111, 114]) = true := by simp only [bne, h2]; rfl
        rw [e1, e2]
        clear h hv e1 e2 he h3
        simp only [tv]
        go_enter Try.func33, Try.ntmps33
        go_wp2_with fail
        refine (valid_is t _ true HV.out _ (H.out.below F0.out.b)).mono ?_
        rintro e w1 ⟨rfl, hb1⟩
        have F1 := Lib.hid (F0.out.step hb1)
        clear hb1
        obtain ⟨p0, p1, p2, p3⟩ := F1.out.p.cells
        obtain ⟨c0, c1, c2, c3⟩ : w1.cell? ⟨w.heap.size + 1, 0, none⟩ = some (.int .i64 0) ∧ w1.cell? ⟨w.heap.size + 1, 1, none⟩ = some (.int .i64 0) ∧ w1.cell? ⟨w.heap.size + 1, 2, none⟩ = some (.string ⟨#[]⟩) ∧ w1.cell? ⟨w.heap.size + 1, 3, none⟩ = some (.slice none 0 0) := F1.out.r.cells
        obtain ⟨f0, f1, f2, f3⟩ := F1.out.r.froz
        go_wp2_with fail
        clear c0 c1 c2 c3 f0 f1 f2 f3
        have FZ : Hid (Fr w ((((w1.setCell ⟨w.heap.size + 1, 0, none⟩ (.int .i64 0)).setCell ⟨w.heap.size + 1, 1, none⟩ (.int .i64 0)).setCell ⟨w.heap.size + 1, 2, none⟩ (.string ⟨#[]⟩)).setCell ⟨w.heap.size + 1, 3, none⟩ (.slice none 0 0)) t (.slice va t.args.length vc) z0 (.slice none 0 0)) := Lib.hid (F1.out.putR z0 (.slice none 0 0) _ rfl)
        generalize ((((w1.setCell ⟨w.heap.size + 1, 0, none⟩ (.int .i64 0)).setCell ⟨w.heap.size + 1, 1, none⟩ (.int .i64 0)).setCell ⟨w.heap.size + 1, 2, none⟩ (.string ⟨#[]⟩)).setCell ⟨w.heap.size + 1, 3, none⟩ (.slice none 0 0)) = WZ at *
        obtain ⟨k0, k1, k2, k3⟩ : WZ.cell? ⟨w.heap.size + 1, 0, none⟩ = some (.int .i64 0) ∧ WZ.cell? ⟨w.heap.size + 1, 1, none⟩ = some (.int .i64 0) ∧ WZ.cell? ⟨w.heap.size + 1, 2, none⟩ = some (.string ⟨#[]⟩) ∧ WZ.cell? ⟨w.heap.size + 1, 3, none⟩ = some (.slice none 0 0) := FZ.out.r.cells
        exact bodyPost_ret (v := .tuple #[zv, .bool false]) (by simp [results, Try.results33, go_sem, k0, k1, k2, k3]) rfl ⟨.slice none 0 0, rfl, OwnT.lies (S := fun _ => True) _ _ zero_own, FZ.out.b⟩
      · have h5 : (t.name.toList != [101, 114, 114, 111, 114]) = false := by simp only [bne, h2]; rfl
        cases x3
        · have e1 : isE t = false := by rw [he, h1]; rfl
          have e2 : formT t = z0 := by unfold formT; rw [e1]; rfl
          have h6 : ((t.args.length : Int) == 2) = false := by simp at h3 ⊢; omega
          have h7 : ((t.args.length : Int) != 2) = true := by simp at h3 ⊢; omega
          rw [e1, e2]
          clear h hv e1 e2 he h3
          simp only [tv]
          go_enter Try.func33, Try.ntmps33
          go_wp2_with fail
          refine (valid_is t _ true HV.out _ (H.out.below F0.out.b)).mono ?_
          rintro e w1 ⟨rfl, hb1⟩
          have F1 := Lib.hid (F0.out.step hb1)
          clear hb1
          obtain ⟨p0, p1, p2, p3⟩ := F1.out.p.cells
          obtain ⟨c0, c1, c2, c3⟩ : w1.cell? ⟨w.heap.size + 1, 0, none⟩ = some (.int .i64 0) ∧ w1.cell? ⟨w.heap.size + 1, 1, none⟩ = some (.int .i64 0) ∧ w1.cell? ⟨w.heap.size + 1, 2, none⟩ = some (.string ⟨#[]⟩) ∧ w1.cell? ⟨w.heap.size + 1, 3, none⟩ = some (.slice none 0 0) := F1.out.r.cells
          obtain ⟨f0, f1, f2, f3⟩ := F1.out.r.froz
          go_wp2_with fail
          clear c0 c1 c2 c3 f0 f1 f2 f3
          have FZ : Hid (Fr w ((((w1.setCell ⟨w.heap.size + 1, 0, none⟩ (.int .i64 0)).setCell ⟨w.heap.size + 1, 1, none⟩ (.int .i64 0)).setCell ⟨w.heap.size + 1, 2, none⟩ (.string ⟨#[]⟩)).setCell ⟨w.heap.size + 1, 3, none⟩ (.slice none 0 0)) t (.slice va t.args.length vc) z0 (.slice none 0 0)) := Lib.hid (F1.out.putR z0 (.slice none 0 0) _ rfl)
          generalize ((((w1.setCell ⟨w.heap.size + 1, 0, none⟩ (.int .i64 0)).setCell ⟨w.heap.size + 1, 1, none⟩ (.int .i64 0)).setCell ⟨w.heap.size + 1, 2, none⟩ (.string ⟨#[]⟩)).setCell ⟨w.heap.size + 1, 3, none⟩ (.slice none 0 0)) = WZ at *
          obtain ⟨k0, k1, k2, k3⟩ : WZ.cell? ⟨w.heap.size + 1, 0, none⟩ = some (.int .i64 0) ∧ WZ.cell? ⟨w.heap.size + 1, 1, none⟩ = some (.int .i64 0) ∧ WZ.cell? ⟨w.heap.size + 1, 2, none⟩ = some (.string ⟨#[]⟩) ∧ WZ.cell? ⟨w.heap.size + 1, 3, none⟩ = some (.slice none 0 0) := FZ.out.r.cells
          exact bodyPost_ret (v := .tuple #[zv, .bool false]) (by simp [results, Try.results33, go_sem, k0, k1, k2, k3]) rfl ⟨.slice none 0 0, rfl, OwnT.lies (S := fun _ => True) _ _ zero_own, FZ.out.b⟩
        · have hlen : t.args.length = 2 := by simpa using h3
          have e1 : isE t = true := by rw [he, h1]; rfl
          obtain ⟨_, b, off, ua, uc, hva, c0, c1, c2, c3, hu⟩ := arg_at h 0 (by omega)
          have e2 : formT t = t.args[0]'(by omega) := by
            have hl : 0 < t.args.length := by omega
            unfold formT; rw [e1, if_pos rfl, List.getD_eq_getElem?_getD, List.getElem?_eq_getElem hl]; rfl
          rw [e1, e2]
          subst hva
          obtain ⟨U, hU⟩ : ∃ U, t.args[0]'(by omega) = U := ⟨_, rfl⟩
          rw [hU] at c0 c1 c2 c3 hu ⊢
          have C0 : Hid (w.cell? ⟨b, off, none⟩ = some (.int .i64 U.kind) ∧ w.cell? ⟨b, off + 1, none⟩ = some (.int .i64 U.num) ∧ w.cell? ⟨b, off + 2, none⟩ = some (.string U.name) ∧ w.cell? ⟨b, off + 3, none⟩ = some (.slice ua U.args.length uc)) := Lib.hid (by simp only [Nat.zero_mul, Nat.add_zero] at c0 c1 c2 c3; exact ⟨c0, c1, c2, c3⟩)
          have HU := Lib.hid hu
          have HVC : Hid (∀ w0, Below w.heap.size w w0 → Calls Try.prog 51 #[tv t (.slice (some ⟨b, off, none⟩) 2 vc)] w0 fun e w' => e = .returned (.bool true) ∧ Below w0.heap.size w0 w') := Lib.hid (fun w0 hb => by have hh := valid_is t (.slice (some ⟨b, off, none⟩) t.args.length vc) true hv w0 (H.out.below hb); rw [hlen] at hh; exact hh)
          rw [hlen] at F0 ⊢
          clear h hv e1 e2 hU c0 c1 c2 c3 hu H HV hlen he h3
          simp only [tv]
          go_enter Try.func33, Try.ntmps33
          go_wp2_with fail
          refine (HVC.out _ F0.out.b).mono ?_
          rintro e w1 ⟨rfl, hb1⟩
          have F1 := Lib.hid (F0.out.step hb1)
          clear hb1
          obtain ⟨p0, p1, p2, p3⟩ := F1.out.p.cells
          obtain ⟨d0, d1, d2, d3⟩ : w1.cell? ⟨b, off, none⟩ = some (.int .i64 U.kind) ∧ w1.cell? ⟨b, off + 1, none⟩ = some (.int .i64 U.num) ∧ w1.cell? ⟨b, off + 2, none⟩ = some (.string U.name) ∧ w1.cell? ⟨b, off + 3, none⟩ = some (.slice ua U.args.length uc) := ⟨cell_below F1.out.b _ _ C0.out.1, cell_below F1.out.b _ _ C0.out.2.1, cell_below F1.out.b _ _ C0.out.2.2.1, cell_below F1.out.b _ _ C0.out.2.2.2⟩
          obtain ⟨c0, c1, c2, c3⟩ : w1.cell? ⟨w.heap.size + 1, 0, none⟩ = some (.int .i64 0) ∧ w1.cell? ⟨w.heap.size + 1, 1, none⟩ = some (.int .i64 0) ∧ w1.cell? ⟨w.heap.size + 1, 2, none⟩ = some (.string ⟨#[]⟩) ∧ w1.cell? ⟨w.heap.size + 1, 3, none⟩ = some (.slice none 0 0) := F1.out.r.cells
          obtain ⟨f0, f1, f2, f3⟩ := F1.out.r.froz
          go_wp2_with fail
          clear c0 c1 c2 c3 f0 f1 f2 f3
          clear p0 p1 p2 p3 d0 d1 d2 d3
          have FZ : Hid (Fr w ((((w1.setCell ⟨w.heap.size + 1, 0, none⟩ (.int .i64 U.kind)).setCell ⟨w.heap.size + 1, 1, none⟩ (.int .i64 U.num)).setCell ⟨w.heap.size + 1, 2, none⟩ (.string U.name)).setCell ⟨w.heap.size + 1, 3, none⟩ (.slice ua U.args.length uc)) t (.slice (some ⟨b, off, none⟩) 2 vc) U (.slice ua U.args.length uc)) := Lib.hid (F1.out.putR U (.slice ua U.args.length uc) _ rfl)
          generalize ((((w1.setCell ⟨w.heap.size + 1, 0, none⟩ (.int .i64 U.kind)).setCell ⟨w.heap.size + 1, 1, none⟩ (.int .i64 U.num)).setCell ⟨w.heap.size + 1, 2, none⟩ (.string U.name)).setCell ⟨w.heap.size + 1, 3, none⟩ (.slice ua U.args.length uc)) = WZ at *
          obtain ⟨k0, k1, k2, k3⟩ : WZ.cell? ⟨w.heap.size + 1, 0, none⟩ = some (.int .i64 U.kind) ∧ WZ.cell? ⟨w.heap.size + 1, 1, none⟩ = some (.int .i64 U.num) ∧ WZ.cell? ⟨w.heap.size + 1, 2, none⟩ = some (.string U.name) ∧ WZ.cell? ⟨w.heap.size + 1, 3, none⟩ = some (.slice ua U.args.length uc) := FZ.out.r.cells
          exact bodyPost_ret (v := .tuple #[tv U (.slice ua U.args.length uc), .bool true]) (by simp [results, Try.results33, go_sem, k0, k1, k2, k3]) rfl ⟨_, rfl, HU.out.below FZ.out.b, FZ.out.b⟩

end Go.Proofs.Yteilodihjhdngaa
