/- The specification's List. -/
import Derived.Test.YteilodihjhdngaaB6
set_option linter.unusedVariables false
set_option linter.unusedSimpArgs false
namespace Go.Proofs.Yteilodihjhdngaa
open Go.RowKit Go.Proofs.HT

set_option maxHeartbeats 16000000 in
theorem rList_any (t : Tm) (v : Value) (w : World) (h : LiesT w t v) : Calls Try.prog 44 #[tv t v] w (ChkL (lsL t) (lsB t) (lsO t) w) := by
  obtain ⟨va, vc, rfl⟩ : ∃ a k, v = .slice a t.args.length k := h.slice
  have F0 := Lib.hid (Fr.start w t (.slice va t.args.length vc))
  have H := Lib.hid h
  cases hv : validB t
  · have e1 : lsO t = false := by unfold lsO; rw [hv]; rfl
    have e2 : lsB t = z0 := by unfold lsB; rw [hv]; rfl
    have e3 : lsL t = [] := by unfold lsL; rw [e1]; rfl
    rw [e1, e2, e3]
    have HV := Lib.hid hv
    clear h hv e1 e2 e3
    simp only [tv]
    go_enter Try.func44, Try.ntmps44
    go_wp2_with fail
    refine (valid_is t _ false HV.out _ (H.out.below F0.out.b)).mono ?_
    rintro e w1 ⟨rfl, hb1⟩
    have F1 := Lib.hid (F0.out.step hb1)
    clear hb1
    obtain ⟨c0, c1, c2, c3⟩ : w1.cell? ⟨w.heap.size + 1, 0, none⟩ = some (.int .i64 0) ∧ w1.cell? ⟨w.heap.size + 1, 1, none⟩ = some (.int .i64 0) ∧ w1.cell? ⟨w.heap.size + 1, 2, none⟩ = some (.string ⟨#[]⟩) ∧ w1.cell? ⟨w.heap.size + 1, 3, none⟩ = some (.slice none 0 0) := F1.out.r.cells
    obtain ⟨f0, f1, f2, f3⟩ := F1.out.r.froz
    go_wp2_with fail
    clear c0 c1 c2 c3 f0 f1 f2 f3
    have FZ : Hid (Fr w ((((w1.setCell ⟨w.heap.size + 1, 0, none⟩ (.int .i64 0)).setCell ⟨w.heap.size + 1, 1, none⟩ (.int .i64 0)).setCell ⟨w.heap.size + 1, 2, none⟩ (.string ⟨#[]⟩)).setCell ⟨w.heap.size + 1, 3, none⟩ (.slice none 0 0)) t (.slice va t.args.length vc) z0 (.slice none 0 0)) := Lib.hid (F1.out.putR z0 (.slice none 0 0) _ rfl)
    generalize ((((w1.setCell ⟨w.heap.size + 1, 0, none⟩ (.int .i64 0)).setCell ⟨w.heap.size + 1, 1, none⟩ (.int .i64 0)).setCell ⟨w.heap.size + 1, 2, none⟩ (.string ⟨#[]⟩)).setCell ⟨w.heap.size + 1, 3, none⟩ (.slice none 0 0)) = WZ at *
    obtain ⟨k0, k1, k2, k3⟩ : WZ.cell? ⟨w.heap.size + 1, 0, none⟩ = some (.int .i64 0) ∧ WZ.cell? ⟨w.heap.size + 1, 1, none⟩ = some (.int .i64 0) ∧ WZ.cell? ⟨w.heap.size + 1, 2, none⟩ = some (.string ⟨#[]⟩) ∧ WZ.cell? ⟨w.heap.size + 1, 3, none⟩ = some (.slice none 0 0) := FZ.out.r.cells
    exact bodyPost_ret (v := .tuple #[.slice none 0 0, zv, .bool false]) (by simp [results, Try.results44, go_sem, k0, k1, k2, k3]) rfl (FZ.out.chkL (OwnT.lies (S := fun _ => True) _ _ zero_own) [] (.slice none 0 0) false (nil_lies _))
  · obtain ⟨RL, hRL⟩ : ∃ r, lsL t = r := ⟨_, rfl⟩
    obtain ⟨RB, hRB⟩ : ∃ r, lsB t = r := ⟨_, rfl⟩
    obtain ⟨RO, hRO⟩ : ∃ r, lsO t = r := ⟨_, rfl⟩
    rw [hRL, hRB, hRO]
    have HRL : Hid (RL = if RO = true then (elemsT t).1 else []) := Lib.hid (by rw [← hRL]; unfold lsL; rw [hRO])
    have HRB : Hid (RB = if ((elemsT t).2.kind == 0) = true then instT else if isNil (elemsT t).2 = true then z0 else typeT ⟨#[108, 105, 115, 116]⟩ t) := Lib.hid (by rw [← hRB]; unfold lsB; rw [if_pos hv])
    have HRO : Hid (RO = isNil (elemsT t).2) := Lib.hid (by rw [← hRO]; unfold lsO; rw [hv, Bool.true_and])
    have HV := Lib.hid hv
    have HEL : Hid (∀ w0, Below w.heap.size w w0 → Calls Try.prog 75 #[tv t (.slice va t.args.length vc)] w0 (ElE t w0)) := Lib.hid (fun w0 hb => rElems_any t _ w0 (H.out.below hb) HV.out)
    clear h hv hRL hRB hRO
    simp only [tv]
    go_enter Try.func44, Try.ntmps44
    go_wp2_with fail
    refine (valid_is t _ true HV.out _ (H.out.below F0.out.b)).mono ?_
    rintro e w1 ⟨rfl, hb1⟩
    have F1 := Lib.hid (F0.out.step hb1)
    clear hb1
    obtain ⟨p0, p1, p2, p3⟩ := F1.out.p.cells
    go_wp2_with fail
    refine (HEL.out _ F1.out.b).mono ?_
    rintro e w5 ⟨x, u, rfl, hx, hu, hb5⟩
    obtain ⟨xa, xc, rfl⟩ : ∃ a c, x = .slice a (elemsT t).1.length c := hx.slice
    obtain ⟨ua, uc, rfl⟩ := hu.slice
    obtain ⟨L, hL⟩ : ∃ r, (elemsT t).1 = r := ⟨_, rfl⟩
    obtain ⟨U, hU⟩ : ∃ r, (elemsT t).2 = r := ⟨_, rfl⟩
    rw [hL] at hx HRL ⊢
    rw [hU] at hu HRB HRO ⊢
    have HX := Lib.hid hx
    have F5 : Hid (Fr w (w5.alloc (.cells #[.int .i64 U.kind, .int .i64 U.num, .string U.name, .slice ua U.args.length uc] 24)) t (.slice va t.args.length vc) z0 (.slice none 0 0)) := Lib.hid ((F1.out.step hb5).step (al0 _ _))
    have HX5 : Hid (OwnT (fun b => w.heap.size + 2 ≤ b ∧ b < w5.heap.size) (w5.alloc (.cells #[.int .i64 U.kind, .int .i64 U.num, .string U.name, .slice ua U.args.length uc] 24)) (.mk 3 0 ⟨#[]⟩ L) (.slice xa L.length xc)) := Lib.hid (hx.keep (fun b hb => (al0 w5 _).block b hb.2) (fun b hb _ => ⟨by have := hb.1; have := F1.out.z; omega, hb.2⟩))
    obtain ⟨m, hm⟩ : ∃ m, L.length = m := ⟨_, rfl⟩
    rw [hm] at HX5 ⊢
    clear hx hu hb5 hL hU HX hm p0 p1 p2 p3
    obtain ⟨p0, p1, p2, p3⟩ := F5.out.p.cells
    rcases Bool.eq_false_or_eq_true (U.kind == 0) with hk | hk
    · have e4 : isNil U = false := by unfold isNil; have : U.kind = 0 := by simpa using hk
                                      rw [this]; rfl
      obtain rfl : RO = false := by rw [HRO.out, e4]
      obtain rfl : RB = instT := by rw [HRB.out, if_pos hk]
      obtain rfl : RL = [] := by rw [HRL.out]; rfl
      have HC1 : Hid (∀ w0, Calls Try.prog 21 #[] w0 (MadeEnd instT w0)) := Lib.hid (fun w0 => rInst_any w0)
      generalize instT = R at *
      clear e4
      go_wp2_with fail
      refine (HC1.out _).mono ?_
      rintro e w8 ⟨yr, rfl, hyr, hb8⟩
      obtain ⟨yra, yrc, rfl⟩ := hyr.slice
      have FA := Lib.hid (F5.out.step hb8)
      have YA : Hid (Beh w w8 R (.slice yra R.args.length yrc)) := Lib.hid (Beh.of hyr F5.out.z)
      clear hb8 hyr p0 p1 p2 p3
      obtain ⟨c0, c1, c2, c3⟩ : w8.cell? ⟨w.heap.size + 1, 0, none⟩ = some (.int .i64 0) ∧ w8.cell? ⟨w.heap.size + 1, 1, none⟩ = some (.int .i64 0) ∧ w8.cell? ⟨w.heap.size + 1, 2, none⟩ = some (.string ⟨#[]⟩) ∧ w8.cell? ⟨w.heap.size + 1, 3, none⟩ = some (.slice none 0 0) := FA.out.r.cells
      obtain ⟨f0, f1, f2, f3⟩ := FA.out.r.froz
      go_wp2_with fail
      clear c0 c1 c2 c3 f0 f1 f2 f3
      have FB : Hid (Fr w ((((w8.setCell ⟨w.heap.size + 1, 0, none⟩ (.int .i64 R.kind)).setCell ⟨w.heap.size + 1, 1, none⟩ (.int .i64 R.num)).setCell ⟨w.heap.size + 1, 2, none⟩ (.string R.name)).setCell ⟨w.heap.size + 1, 3, none⟩ (.slice yra R.args.length yrc)) t (.slice va t.args.length vc) R (.slice yra R.args.length yrc)) := Lib.hid (FA.out.putR R (.slice yra R.args.length yrc) _ rfl)
      have YB : Hid (Beh w ((((w8.setCell ⟨w.heap.size + 1, 0, none⟩ (.int .i64 R.kind)).setCell ⟨w.heap.size + 1, 1, none⟩ (.int .i64 R.num)).setCell ⟨w.heap.size + 1, 2, none⟩ (.string R.name)).setCell ⟨w.heap.size + 1, 3, none⟩ (.slice yra R.args.length yrc)) R (.slice yra R.args.length yrc)) := Lib.hid (Beh.put YA.out (by omega) (FA.out.r) _ _ _ _ _ rfl)
      generalize ((((w8.setCell ⟨w.heap.size + 1, 0, none⟩ (.int .i64 R.kind)).setCell ⟨w.heap.size + 1, 1, none⟩ (.int .i64 R.num)).setCell ⟨w.heap.size + 1, 2, none⟩ (.string R.name)).setCell ⟨w.heap.size + 1, 3, none⟩ (.slice yra R.args.length yrc)) = WB at *
      obtain ⟨k0, k1, k2, k3⟩ : WB.cell? ⟨w.heap.size + 1, 0, none⟩ = some (.int .i64 R.kind) ∧ WB.cell? ⟨w.heap.size + 1, 1, none⟩ = some (.int .i64 R.num) ∧ WB.cell? ⟨w.heap.size + 1, 2, none⟩ = some (.string R.name) ∧ WB.cell? ⟨w.heap.size + 1, 3, none⟩ = some (.slice yra R.args.length yrc) := FB.out.r.cells
      exact bodyPost_ret (v := .tuple #[.slice none 0 0, tv R (.slice yra R.args.length yrc), .bool false]) (by simp [results, Try.results44, go_sem, k0, k1, k2, k3]) rfl (FB.out.chkL (OwnT.lies _ _ YB.out) [] (.slice none 0 0) false (nil_lies _))
    · obtain ⟨x2, h2⟩ : ∃ x, (U.name.data.toList == [91, 93]) = x := ⟨_, rfl⟩
      have hnl : isNil U = ((U.kind == 2) && x2) := by unfold isNil; rw [h2]
      have h2 : (U.name.toList == [91, 93]) = x2 := by rw [Lib.toList_data]; exact h2
      have HC1 : Hid (∀ w0, Below w.heap.size w w0 → Calls Try.prog 23 #[.string ⟨#[108, 105, 115, 116]⟩, tv t (.slice va t.args.length vc)] w0 (MadeEnd (typeT ⟨#[108, 105, 115, 116]⟩ t) w0)) := Lib.hid (fun w0 hb => rType_any t _ ⟨#[108, 105, 115, 116]⟩ w0 (H.out.below hb) (by simp [ByteArray.size]))
      have HNO : Hid (isNil U = false → RO = false ∧ RB = typeT ⟨#[108, 105, 115, 116]⟩ t ∧ RL = []) := Lib.hid (fun e => by
        have h1 : RO = false := by rw [HRO.out, e]
        exact ⟨h1, by rw [HRB.out, if_neg (by rw [hk]; simp), if_neg (by rw [e]; simp)], by rw [HRL.out, h1]; rfl⟩)
      rcases Bool.eq_false_or_eq_true (U.kind == 2) with hk2 | hk2
      rotate_left
      · obtain ⟨rfl, rfl, rfl⟩ := HNO.out (by rw [hnl, hk2]; rfl)
        have h3 : (U.kind != 2) = true := by simp [bne, hk2]
        generalize typeT ⟨#[108, 105, 115, 116]⟩ t = R at *
        clear hnl h2 HNO
        go_wp2_with fail
        refine (HC1.out _ F5.out.b).mono ?_
        rintro e w8 ⟨yr, rfl, hyr, hb8⟩
        obtain ⟨yra, yrc, rfl⟩ := hyr.slice
        have FA := Lib.hid (F5.out.step hb8)
        have YA : Hid (Beh w w8 R (.slice yra R.args.length yrc)) := Lib.hid (Beh.of hyr F5.out.z)
        clear hb8 hyr p0 p1 p2 p3
        obtain ⟨c0, c1, c2, c3⟩ : w8.cell? ⟨w.heap.size + 1, 0, none⟩ = some (.int .i64 0) ∧ w8.cell? ⟨w.heap.size + 1, 1, none⟩ = some (.int .i64 0) ∧ w8.cell? ⟨w.heap.size + 1, 2, none⟩ = some (.string ⟨#[]⟩) ∧ w8.cell? ⟨w.heap.size + 1, 3, none⟩ = some (.slice none 0 0) := FA.out.r.cells
        obtain ⟨f0, f1, f2, f3⟩ := FA.out.r.froz
        go_wp2_with fail
        clear c0 c1 c2 c3 f0 f1 f2 f3
        have FB : Hid (Fr w ((((w8.setCell ⟨w.heap.size + 1, 0, none⟩ (.int .i64 R.kind)).setCell ⟨w.heap.size + 1, 1, none⟩ (.int .i64 R.num)).setCell ⟨w.heap.size + 1, 2, none⟩ (.string R.name)).setCell ⟨w.heap.size + 1, 3, none⟩ (.slice yra R.args.length yrc)) t (.slice va t.args.length vc) R (.slice yra R.args.length yrc)) := Lib.hid (FA.out.putR R (.slice yra R.args.length yrc) _ rfl)
        have YB : Hid (Beh w ((((w8.setCell ⟨w.heap.size + 1, 0, none⟩ (.int .i64 R.kind)).setCell ⟨w.heap.size + 1, 1, none⟩ (.int .i64 R.num)).setCell ⟨w.heap.size + 1, 2, none⟩ (.string R.name)).setCell ⟨w.heap.size + 1, 3, none⟩ (.slice yra R.args.length yrc)) R (.slice yra R.args.length yrc)) := Lib.hid (Beh.put YA.out (by omega) (FA.out.r) _ _ _ _ _ rfl)
        generalize ((((w8.setCell ⟨w.heap.size + 1, 0, none⟩ (.int .i64 R.kind)).setCell ⟨w.heap.size + 1, 1, none⟩ (.int .i64 R.num)).setCell ⟨w.heap.size + 1, 2, none⟩ (.string R.name)).setCell ⟨w.heap.size + 1, 3, none⟩ (.slice yra R.args.length yrc)) = WB at *
        obtain ⟨k0, k1, k2, k3⟩ : WB.cell? ⟨w.heap.size + 1, 0, none⟩ = some (.int .i64 R.kind) ∧ WB.cell? ⟨w.heap.size + 1, 1, none⟩ = some (.int .i64 R.num) ∧ WB.cell? ⟨w.heap.size + 1, 2, none⟩ = some (.string R.name) ∧ WB.cell? ⟨w.heap.size + 1, 3, none⟩ = some (.slice yra R.args.length yrc) := FB.out.r.cells
        exact bodyPost_ret (v := .tuple #[.slice none 0 0, tv R (.slice yra R.args.length yrc), .bool false]) (by simp [results, Try.results44, go_sem, k0, k1, k2, k3]) rfl (FB.out.chkL (OwnT.lies _ _ YB.out) [] (.slice none 0 0) false (nil_lies _))
      · have h3 : (U.kind != 2) = false := by simp [bne, hk2]
        cases x2
        · obtain ⟨rfl, rfl, rfl⟩ := HNO.out (by rw [hnl, hk2]; rfl)
          have h4 : (U.name.toList != [91, 93]) = true := by simp only [bne, h2]; rfl
          generalize typeT ⟨#[108, 105, 115, 116]⟩ t = R at *
          clear hnl HNO
          go_wp2_with fail
          refine (HC1.out _ F5.out.b).mono ?_
          rintro e w8 ⟨yr, rfl, hyr, hb8⟩
          obtain ⟨yra, yrc, rfl⟩ := hyr.slice
          have FA := Lib.hid (F5.out.step hb8)
          have YA : Hid (Beh w w8 R (.slice yra R.args.length yrc)) := Lib.hid (Beh.of hyr F5.out.z)
          clear hb8 hyr p0 p1 p2 p3
          obtain ⟨c0, c1, c2, c3⟩ : w8.cell? ⟨w.heap.size + 1, 0, none⟩ = some (.int .i64 0) ∧ w8.cell? ⟨w.heap.size + 1, 1, none⟩ = some (.int .i64 0) ∧ w8.cell? ⟨w.heap.size + 1, 2, none⟩ = some (.string ⟨#[]⟩) ∧ w8.cell? ⟨w.heap.size + 1, 3, none⟩ = some (.slice none 0 0) := FA.out.r.cells
          obtain ⟨f0, f1, f2, f3⟩ := FA.out.r.froz
          go_wp2_with fail
          clear c0 c1 c2 c3 f0 f1 f2 f3
          have FB : Hid (Fr w ((((w8.setCell ⟨w.heap.size + 1, 0, none⟩ (.int .i64 R.kind)).setCell ⟨w.heap.size + 1, 1, none⟩ (.int .i64 R.num)).setCell ⟨w.heap.size + 1, 2, none⟩ (.string R.name)).setCell ⟨w.heap.size + 1, 3, none⟩ (.slice yra R.args.length yrc)) t (.slice va t.args.length vc) R (.slice yra R.args.length yrc)) := Lib.hid (FA.out.putR R (.slice yra R.args.length yrc) _ rfl)
          have YB : Hid (Beh w ((((w8.setCell ⟨w.heap.size + 1, 0, none⟩ (.int .i64 R.kind)).setCell ⟨w.heap.size + 1, 1, none⟩ (.int .i64 R.num)).setCell ⟨w.heap.size + 1, 2, none⟩ (.string R.name)).setCell ⟨w.heap.size + 1, 3, none⟩ (.slice yra R.args.length yrc)) R (.slice yra R.args.length yrc)) := Lib.hid (Beh.put YA.out (by omega) (FA.out.r) _ _ _ _ _ rfl)
          generalize ((((w8.setCell ⟨w.heap.size + 1, 0, none⟩ (.int .i64 R.kind)).setCell ⟨w.heap.size + 1, 1, none⟩ (.int .i64 R.num)).setCell ⟨w.heap.size + 1, 2, none⟩ (.string R.name)).setCell ⟨w.heap.size + 1, 3, none⟩ (.slice yra R.args.length yrc)) = WB at *
          obtain ⟨k0, k1, k2, k3⟩ : WB.cell? ⟨w.heap.size + 1, 0, none⟩ = some (.int .i64 R.kind) ∧ WB.cell? ⟨w.heap.size + 1, 1, none⟩ = some (.int .i64 R.num) ∧ WB.cell? ⟨w.heap.size + 1, 2, none⟩ = some (.string R.name) ∧ WB.cell? ⟨w.heap.size + 1, 3, none⟩ = some (.slice yra R.args.length yrc) := FB.out.r.cells
          exact bodyPost_ret (v := .tuple #[.slice none 0 0, tv R (.slice yra R.args.length yrc), .bool false]) (by simp [results, Try.results44, go_sem, k0, k1, k2, k3]) rfl (FB.out.chkL (OwnT.lies _ _ YB.out) [] (.slice none 0 0) false (nil_lies _))
        · have h4 : (U.name.toList != [91, 93]) = false := by simp only [bne, h2]; rfl
          have e : isNil U = true := by rw [hnl, hk2]; rfl
          obtain rfl : RO = true := by rw [HRO.out, e]
          obtain rfl : RB = z0 := by rw [HRB.out, if_neg (by rw [hk]; simp), if_pos e]
          obtain rfl : L = RL := by rw [HRL.out]; rfl
          clear hnl HNO HC1 e HEL HRO HRB HRL
          obtain ⟨c0, c1, c2, c3⟩ : (w5.alloc (.cells #[.int .i64 U.kind, .int .i64 U.num, .string U.name, .slice ua U.args.length uc] 24)).cell? ⟨w.heap.size + 1, 0, none⟩ = some (.int .i64 0) ∧ (w5.alloc (.cells #[.int .i64 U.kind, .int .i64 U.num, .string U.name, .slice ua U.args.length uc] 24)).cell? ⟨w.heap.size + 1, 1, none⟩ = some (.int .i64 0) ∧ (w5.alloc (.cells #[.int .i64 U.kind, .int .i64 U.num, .string U.name, .slice ua U.args.length uc] 24)).cell? ⟨w.heap.size + 1, 2, none⟩ = some (.string ⟨#[]⟩) ∧ (w5.alloc (.cells #[.int .i64 U.kind, .int .i64 U.num, .string U.name, .slice ua U.args.length uc] 24)).cell? ⟨w.heap.size + 1, 3, none⟩ = some (.slice none 0 0) := F5.out.r.cells
          obtain ⟨f0, f1, f2, f3⟩ := F5.out.r.froz
          go_wp2_with fail
          clear c0 c1 c2 c3 f0 f1 f2 f3
          have HLZ : Hid (LiesA (((((w5.alloc (.cells #[.int .i64 U.kind, .int .i64 U.num, .string U.name, .slice ua U.args.length uc] 24)).setCell ⟨w.heap.size + 1, 0, none⟩ (.int .i64 0)).setCell ⟨w.heap.size + 1, 1, none⟩ (.int .i64 0)).setCell ⟨w.heap.size + 1, 2, none⟩ (.string ⟨#[]⟩)).setCell ⟨w.heap.size + 1, 3, none⟩ (.slice none 0 0)) L (.slice xa m xc)) := Lib.hid (OwnT.lies (S := fun b => w.heap.size + 2 ≤ b ∧ b < w5.heap.size) _ _ (HX5.out.keep (fun c hc => (four F5.out.r _ _ _ _).2.1 c (by have := hc.1; omega)) (fun _ h _ => h)))
          have FZ : Hid (Fr w (((((w5.alloc (.cells #[.int .i64 U.kind, .int .i64 U.num, .string U.name, .slice ua U.args.length uc] 24)).setCell ⟨w.heap.size + 1, 0, none⟩ (.int .i64 0)).setCell ⟨w.heap.size + 1, 1, none⟩ (.int .i64 0)).setCell ⟨w.heap.size + 1, 2, none⟩ (.string ⟨#[]⟩)).setCell ⟨w.heap.size + 1, 3, none⟩ (.slice none 0 0)) t (.slice va t.args.length vc) z0 (.slice none 0 0)) := Lib.hid (F5.out.putR z0 (.slice none 0 0) _ rfl)
          generalize (((((w5.alloc (.cells #[.int .i64 U.kind, .int .i64 U.num, .string U.name, .slice ua U.args.length uc] 24)).setCell ⟨w.heap.size + 1, 0, none⟩ (.int .i64 0)).setCell ⟨w.heap.size + 1, 1, none⟩ (.int .i64 0)).setCell ⟨w.heap.size + 1, 2, none⟩ (.string ⟨#[]⟩)).setCell ⟨w.heap.size + 1, 3, none⟩ (.slice none 0 0)) = WZ at *
          obtain ⟨k0, k1, k2, k3⟩ : WZ.cell? ⟨w.heap.size + 1, 0, none⟩ = some (.int .i64 0) ∧ WZ.cell? ⟨w.heap.size + 1, 1, none⟩ = some (.int .i64 0) ∧ WZ.cell? ⟨w.heap.size + 1, 2, none⟩ = some (.string ⟨#[]⟩) ∧ WZ.cell? ⟨w.heap.size + 1, 3, none⟩ = some (.slice none 0 0) := FZ.out.r.cells
          exact bodyPost_ret (v := .tuple #[.slice xa m xc, zv, .bool true]) (by simp [results, Try.results44, go_sem, k0, k1, k2, k3]) rfl (FZ.out.chkL (OwnT.lies (S := fun _ => True) _ _ zero_own) _ _ true HLZ.out)

end Go.Proofs.Yteilodihjhdngaa

/- The law's own helpers. -/
namespace Go.Proofs.Yteilodihjhdngaa
open Go.RowKit Go.Proofs.HT

set_option maxHeartbeats 1000000 in
theorem f_any (s : ByteArray) (a : Option Addr) (l cap : Nat) (w : World) : Calls Try.prog 58 #[.string s, .slice a l cap] w fun e w' => e = .returned (pv 3 0 s (.slice a l cap)) ∧ Below w.heap.size w w' := by
  have fr : ∀ o, Below w.heap.size w (w.alloc o) := fun o => al0 w o
  go_enter Try.func58, Try.ntmps58
  go_wp2_with fail
  exact bodyPost_ret (v := pv 3 0 s (.slice a l cap)) (by simp [results, Try.results58, go_sem]) rfl ⟨rfl, fr _⟩
set_option maxHeartbeats 1000000 in
theorem x_any (n : Int) (w : World) : Calls Try.prog 55 #[.int .i64 n] w fun e w' => e = .returned (pv 0 n ⟨#[]⟩ (.slice none 0 0)) ∧ Below w.heap.size w w' := by
  have fr : ∀ o, Below w.heap.size w (w.alloc o) := fun o => al0 w o
  go_enter Try.func55, Try.ntmps55
  go_wp2_with fail
  exact bodyPost_ret (v := pv 0 n ⟨#[]⟩ (.slice none 0 0)) (by simp [results, Try.results55, go_sem]) rfl ⟨rfl, fr _⟩
set_option maxHeartbeats 1000000 in
theorem n_any (n : Int) (w : World) : Calls Try.prog 60 #[.int .i64 n] w fun e w' => e = .returned (pv 1 n ⟨#[]⟩ (.slice none 0 0)) ∧ Below w.heap.size w w' := by
  have fr : ∀ o, Below w.heap.size w (w.alloc o) := fun o => al0 w o
  go_enter Try.func60, Try.ntmps60
  go_wp2_with fail
  exact bodyPost_ret (v := pv 1 n ⟨#[]⟩ (.slice none 0 0)) (by simp [results, Try.results60, go_sem]) rfl ⟨rfl, fr _⟩
set_option maxHeartbeats 1000000 in
theorem a_any (s : ByteArray) (w : World) : Calls Try.prog 53 #[.string s] w fun e w' => e = .returned (pv 2 0 s (.slice none 0 0)) ∧ Below w.heap.size w w' := by
  have fr : ∀ o, Below w.heap.size w (w.alloc o) := fun o => al0 w o
  go_enter Try.func53, Try.ntmps53
  go_wp2_with fail
  exact bodyPost_ret (v := pv 2 0 s (.slice none 0 0)) (by simp [results, Try.results53, go_sem]) rfl ⟨rfl, fr _⟩
theorem vr_lies {w : World} {n : Int} (h : I64 n) : LiesT w (vr n) (.slice none 0 0) := OwnT.lies (S := fun _ => True) _ _ (vr_own h)
theorem int_lies {w : World} {n : Int} (h : I64 n) : LiesT w (.mk 1 n ⟨#[]⟩ []) (.slice none 0 0) := intT_lies h
set_option maxHeartbeats 2000000 in
theorem lsame_any (t u : Tm) (v x : Value) (w : World) (hv : LiesT w t v) (hx : LiesT w u x) : Calls Try.prog 34 #[tv t v, tv u x] w fun e w' => e = .returned (.bool (sameV t u)) ∧ Below w.heap.size w w' := by
  obtain ⟨va, vc, rfl⟩ : ∃ a c, v = .slice a t.args.length c := hv.slice
  obtain ⟨xa, xc, rfl⟩ : ∃ a c, x = .slice a u.args.length c := hx.slice
  obtain ⟨q, hq⟩ : ∃ q, sameV t u = q := ⟨_, rfl⟩
  have HB : Hid (Below w.heap.size w ((w.alloc (.cells #[.int .i64 t.kind, .int .i64 t.num, .string t.name, .slice va t.args.length vc] 24)).alloc (.cells #[.int .i64 u.kind, .int .i64 u.num, .string u.name, .slice xa u.args.length xc] 24))) := Lib.hid ((al0 w _).trans ((al0 _ _).mono (by simp)))
  have HC := Lib.hid (same_any t u _ _ _ (hv.below HB.out) (hx.below HB.out))
  rw [hq] at HC ⊢
  clear hq hv hx
  simp only [tv]
  go_enter Try.func34, Try.ntmps34
  go_wp2_with fail
  refine HC.out.mono ?_
  rintro e w1 ⟨rfl, hb1⟩
  have B1 := Lib.hid (HB.out.trans (hb1.mono HB.out.size))
  go_wp2_with fail
  go_ret
  exact ⟨rfl, B1.out⟩
theorem lsame_is (t u : Tm) (b : Bool) (hs : sameV t u = b) (v x : Value) (w : World) (h : LiesT w t v) (hx : LiesT w u x) : Calls Try.prog 34 #[tv t v, tv u x] w fun e w' => e = .returned (.bool b) ∧ Below w.heap.size w w' := by
  subst hs; exact lsame_any t u v x w h hx
theorem lies_at {w : World} {g : Nat} {ty : TypeId} (l : List PV) (h : w.heap[g]? = some (.cells (flat l).toArray ty (0, 0))) (hl : ∀ p ∈ l, LiesT w p.1 p.2) (hn : l.length ≤ 1000) : LiesT w (.mk 3 0 ⟨#[]⟩ (l.map Prod.fst)) (.slice (some ⟨g, 0, none⟩) l.length l.length) := by
  unfold LiesT
  refine ⟨⟨by omega, by omega⟩, ⟨by omega, by omega⟩, by simp [ByteArray.size], .inr ⟨⟨g, 0, none⟩, l.length, by rw [List.length_map], by rw [List.length_map]; exact Nat.le_refl _, by omega, .inr rfl, LiesL.of_cells l 0 (fun k u hk => ?_) hl⟩⟩
  rw [Nat.zero_add, cell_of_row _ _ _ _ _ _ h]; simpa using hk
/-- A term that was made, perhaps of parts that lay there. -/
def LieE (T : Tm) (w : World) (e : Ending) (w' : World) : Prop := ∃ v, e = .returned (tv T v) ∧ LiesT w' T v ∧ Below w.heap.size w w'
set_option maxHeartbeats 4000000 in
theorem error1_any (c : Tm) (v : Value) (w : World) (h : LiesT w c v) : Calls Try.prog 56 #[tv c v] w (LieE (errT c) w) := by
  obtain ⟨va, vc, rfl⟩ : ∃ a k, v = .slice a c.args.length k := h.slice
  have F0 := Lib.hid (Fr.start w c (.slice va c.args.length vc))
  have H := Lib.hid h
  clear h
  simp only [tv]
  go_enter Try.func56, Try.ntmps56
  go_wp2_with fail
  obtain ⟨W, hW⟩ : ∃ W, ((w.alloc (.cells #[.int .i64 c.kind, .int .i64 c.num, .string c.name, .slice va c.args.length vc] 24)).alloc (.cells #[.int .i64 0, .int .i64 0, .string ⟨#[]⟩, .slice none 0 0] 24)) = W := ⟨_, rfl⟩
  rw [hW] at F0 ⊢
  clear hW
  have hS0 : Below W.heap.size W W.drew := (Below.refl _ _).drew
  have HSS : Hid (∀ w', Below W.heap.size W w' → (fun w' => Below w.heap.size w w' ∧ w'.cell? ⟨w.heap.size, 0, none⟩ = some (.int .i64 c.kind) ∧ w'.cell? ⟨w.heap.size, 1, none⟩ = some (.int .i64 c.num) ∧ w'.cell? ⟨w.heap.size, 2, none⟩ = some (.string c.name) ∧ w'.cell? ⟨w.heap.size, 3, none⟩ = some (.slice va c.args.length vc)) w') := Lib.hid (fun w' h => ⟨(F0.out.step h).b, (F0.out.step h).p.cells⟩)
  obtain ⟨p0, p1, p2, p3⟩ := F0.out.p.cells
  go_region_held3 (fun w' => Below w.heap.size w w' ∧ w'.cell? ⟨w.heap.size, 0, none⟩ = some (.int .i64 c.kind) ∧ w'.cell? ⟨w.heap.size, 1, none⟩ = some (.int .i64 c.num) ∧ w'.cell? ⟨w.heap.size, 2, none⟩ = some (.string c.name) ∧ w'.cell? ⟨w.heap.size, 3, none⟩ = some (.slice va c.args.length vc))
    (first | exact HS9 | exact HSS.out _ h6 | exact HSS.out _ h5 | exact HSS.out _ (h5.alloc h5.size _) | exact HSS.out _ hS0 | go_keep)
    (first
      | (go_at_call 53; ((with_reducible refine (a_any _ _).mono ?_); rintro e w2 ⟨rfl, hb2⟩; have h5 : Below W.heap.size W w2 := hS0.trans (hb2.mono hS0.size)))
      | (go_at_call 58; refine (f_any _ _ _ _ _).mono ?_; rintro e w7 ⟨rfl, hb3⟩; have h6 : Below W.heap.size W w7 := h5.trans ((al hb3).mono h5.size); have F8 := Lib.hid (F0.out.step h6); have G8 : Hid (w7.heap[w2.heap.size]? = some (.cells (flat [(c, .slice va c.args.length vc), (nilT, .slice none 0 0)]).toArray 24 (0, 0))) := Lib.hid ((hb3.block w2.heap.size (by simp)).trans (heap_alloc_new _ _)); have Z2 : Hid (w.heap.size + 2 ≤ w2.heap.size) := Lib.hid (by have hz8 := F0.out.z; have hz9 := h5.size; omega); obtain ⟨c0, c1, c2, c3⟩ : w7.cell? ⟨w.heap.size + 1, 0, none⟩ = some (.int .i64 0) ∧ w7.cell? ⟨w.heap.size + 1, 1, none⟩ = some (.int .i64 0) ∧ w7.cell? ⟨w.heap.size + 1, 2, none⟩ = some (.string ⟨#[]⟩) ∧ w7.cell? ⟨w.heap.size + 1, 3, none⟩ = some (.slice none 0 0) := F8.out.r.cells; obtain ⟨f0, f1, f2, f3⟩ := F8.out.r.froz; have HF9 := F8.out.putR (errT c) (.slice (some ⟨w2.heap.size, 0, none⟩) 2 2) _ rfl; have HS9 : (fun w' => Below w.heap.size w w' ∧ w'.cell? ⟨w.heap.size, 0, none⟩ = some (.int .i64 c.kind) ∧ w'.cell? ⟨w.heap.size, 1, none⟩ = some (.int .i64 c.num) ∧ w'.cell? ⟨w.heap.size, 2, none⟩ = some (.string c.name) ∧ w'.cell? ⟨w.heap.size, 3, none⟩ = some (.slice va c.args.length vc)) (((((w7.setCell ⟨w.heap.size + 1, 0, none⟩ (.int .i64 3)).setCell ⟨w.heap.size + 1, 1, none⟩ (.int .i64 0)).setCell ⟨w.heap.size + 1, 2, none⟩ (.string ⟨#[101, 114, 114, 111, 114]⟩)).setCell ⟨w.heap.size + 1, 3, none⟩ (.slice (some ⟨w2.heap.size, 0, none⟩) 2 2))) := ⟨HF9.b, HF9.p.cells⟩; clear HF9))
  clear p0 p1 p2 p3 hb3 hb2
  go_wp2_with fail
  clear HS9 c0 c1 c2 c3 f0 f1 f2 f3
  have F9 : Hid (Fr w (((((w7.setCell ⟨w.heap.size + 1, 0, none⟩ (.int .i64 3)).setCell ⟨w.heap.size + 1, 1, none⟩ (.int .i64 0)).setCell ⟨w.heap.size + 1, 2, none⟩ (.string ⟨#[101, 114, 114, 111, 114]⟩)).setCell ⟨w.heap.size + 1, 3, none⟩ (.slice (some ⟨w2.heap.size, 0, none⟩) 2 2))) c (.slice va c.args.length vc) (errT c) (.slice (some ⟨w2.heap.size, 0, none⟩) 2 2)) := Lib.hid (F8.out.putR (errT c) (.slice (some ⟨w2.heap.size, 0, none⟩) 2 2) _ rfl)
  have G9 : Hid (((((w7.setCell ⟨w.heap.size + 1, 0, none⟩ (.int .i64 3)).setCell ⟨w.heap.size + 1, 1, none⟩ (.int .i64 0)).setCell ⟨w.heap.size + 1, 2, none⟩ (.string ⟨#[101, 114, 114, 111, 114]⟩)).setCell ⟨w.heap.size + 1, 3, none⟩ (.slice (some ⟨w2.heap.size, 0, none⟩) 2 2)).heap[w2.heap.size]? = some (.cells (flat [(c, .slice va c.args.length vc), (nilT, .slice none 0 0)]).toArray 24 (0, 0))) := Lib.hid (((four F8.out.r _ _ _ _).2.1 _ (by have := Z2.out; omega)).trans G8.out)
  generalize ((((w7.setCell ⟨w.heap.size + 1, 0, none⟩ (.int .i64 3)).setCell ⟨w.heap.size + 1, 1, none⟩ (.int .i64 0)).setCell ⟨w.heap.size + 1, 2, none⟩ (.string ⟨#[101, 114, 114, 111, 114]⟩)).setCell ⟨w.heap.size + 1, 3, none⟩ (.slice (some ⟨w2.heap.size, 0, none⟩) 2 2)) = WE at *
  have HLE : LiesT WE (errT c) (.slice (some ⟨w2.heap.size, 0, none⟩) 2 2) := struct_lies (nm := ⟨#[101, 114, 114, 111, 114]⟩) (by simp [ByteArray.size]) (lies_at [(c, .slice va c.args.length vc), (nilT, .slice none 0 0)] G9.out (fun p hp => by
    simp only [List.mem_cons, List.mem_nil_iff, or_false] at hp
    rcases hp with rfl | rfl
    · exact H.out.below F9.out.b
    · exact atom_lies (by simp [ByteArray.size])) (by simp))
  obtain ⟨k0, k1, k2, k3⟩ : WE.cell? ⟨w.heap.size + 1, 0, none⟩ = some (.int .i64 3) ∧ WE.cell? ⟨w.heap.size + 1, 1, none⟩ = some (.int .i64 0) ∧ WE.cell? ⟨w.heap.size + 1, 2, none⟩ = some (.string ⟨#[101, 114, 114, 111, 114]⟩) ∧ WE.cell? ⟨w.heap.size + 1, 3, none⟩ = some (.slice (some ⟨w2.heap.size, 0, none⟩) 2 2) := F9.out.r.cells
  exact bodyPost_ret (v := pv 3 0 ⟨#[101, 114, 114, 111, 114]⟩ (.slice (some ⟨w2.heap.size, 0, none⟩) 2 2)) (by simp [results, Try.results56, go_sem, k0, k1, k2, k3]) rfl ⟨_, rfl, HLE, F9.out.b⟩

end Go.Proofs.Yteilodihjhdngaa
