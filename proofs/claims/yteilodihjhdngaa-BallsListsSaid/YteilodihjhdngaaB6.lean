/- The specification's Code. -/
import Derived.Test.YteilodihjhdngaaB5
import Derived.Test.YteilodihjhdngaaBK
import Derived.Deep.DeepCutAuto
import Derived.Deep.AppendLies
set_option linter.unusedVariables false
set_option linter.unusedSimpArgs false
namespace Go.Proofs.Yteilodihjhdngaa
open Go.RowKit Go.Proofs.HT

set_option maxHeartbeats 8000000 in
theorem rCode_any (t : Tm) (v : Value) (w : World) (h : LiesT w t v) : Calls Try.prog 48 #[tv t v] w (Chk1 (.int .i64 (codeN t)) (codeB t) (codeO t) w) := by
  obtain ⟨va, vc, rfl⟩ : ∃ a k, v = .slice a t.args.length k := h.slice
  have F0 := Lib.hid (Fr.start w t (.slice va t.args.length vc))
  have HCI := Lib.hid (rInt_any t _ _ (h.below F0.out.b))
  have HI := num_i64 h
  cases ho : chkO t (t.kind == 1)
  · have e1 : codeO t = false := by unfold codeO; rw [ho]; rfl
    have e2 : codeN t = 0 := by unfold codeN; rw [e1]; rfl
    have e3 : codeB t = chkB t ⟨#[105, 110, 116, 101, 103, 101, 114]⟩ (t.kind == 1) := by unfold codeB; rw [ho]; rfl
    have e4 : intN t = 0 := by unfold intN; rw [ho]; rfl
    rw [e1, e2, e3]
    rw [ho, e4] at HCI
    generalize chkB t ⟨#[105, 110, 116, 101, 103, 101, 114]⟩ (t.kind == 1) = Q at *
    clear h ho e1 e2 e3 e4
    simp only [tv]
    go_enter Try.func48, Try.ntmps48
    go_wp2_with fail
    refine HCI.out.mono ?_
    rintro e w7 ⟨y, rfl, hy, hb7⟩
    obtain ⟨ya, yc, rfl⟩ := hy.slice
    have F7 := Lib.hid (F0.out.step hb7)
    have Y7 : Hid (Beh w w7 Q (.slice ya Q.args.length yc)) := Lib.hid (Beh.of hy F0.out.z)
    clear hb7 hy
    have F8 : Hid (Fr w (w7.alloc (.cells #[.int .i64 Q.kind, .int .i64 Q.num, .string Q.name, .slice ya Q.args.length yc] 24)) t (.slice va t.args.length vc) z0 (.slice none 0 0)) := Lib.hid (F7.out.step (al0 _ _))
    have Y8 : Hid (Beh w (w7.alloc (.cells #[.int .i64 Q.kind, .int .i64 Q.num, .string Q.name, .slice ya Q.args.length yc] 24)) Q (.slice ya Q.args.length yc)) := Lib.hid (Y7.out.step (al0 _ _))
    have G6 := Lib.hid (RowT.new w7 Q (.slice ya Q.args.length yc))
    have Z6 := Lib.hid F7.out.z
    clear F7 Y7
    go_wp2_with fail
    obtain ⟨g6, hg6⟩ : ∃ g, w7.heap.size = g := ⟨_, rfl⟩
    rw [hg6] at G6 Z6 ⊢
    generalize w7.alloc (.cells #[.int .i64 Q.kind, .int .i64 Q.num, .string Q.name, .slice ya Q.args.length yc] 24) = W at *
    clear hg6
    obtain ⟨p0, p1, p2, p3⟩ := G6.out.cells
    obtain ⟨c0, c1, c2, c3⟩ : W.cell? ⟨w.heap.size + 1, 0, none⟩ = some (.int .i64 0) ∧ W.cell? ⟨w.heap.size + 1, 1, none⟩ = some (.int .i64 0) ∧ W.cell? ⟨w.heap.size + 1, 2, none⟩ = some (.string ⟨#[]⟩) ∧ W.cell? ⟨w.heap.size + 1, 3, none⟩ = some (.slice none 0 0) := F8.out.r.cells
    obtain ⟨f0, f1, f2, f3⟩ := F8.out.r.froz
    have FE : Hid (Fr w ((((W.setCell ⟨w.heap.size + 1, 0, none⟩ (.int .i64 Q.kind)).setCell ⟨w.heap.size + 1, 1, none⟩ (.int .i64 Q.num)).setCell ⟨w.heap.size + 1, 2, none⟩ (.string Q.name)).setCell ⟨w.heap.size + 1, 3, none⟩ (.slice ya Q.args.length yc)).drew t (.slice va t.args.length vc) Q (.slice ya Q.args.length yc)) := Lib.hid (Fr.drew (F8.out.putR Q (.slice ya Q.args.length yc) _ rfl))
    have YE : Hid (Beh w ((((W.setCell ⟨w.heap.size + 1, 0, none⟩ (.int .i64 Q.kind)).setCell ⟨w.heap.size + 1, 1, none⟩ (.int .i64 Q.num)).setCell ⟨w.heap.size + 1, 2, none⟩ (.string Q.name)).setCell ⟨w.heap.size + 1, 3, none⟩ (.slice ya Q.args.length yc)).drew Q (.slice ya Q.args.length yc)) := Lib.hid (Beh.step (Beh.put Y8.out (by omega) F8.out.r _ _ _ _ _ rfl) (Below.refl _ _).drew)
    have HSX : ((((W.setCell ⟨w.heap.size + 1, 0, none⟩ (.int .i64 Q.kind)).setCell ⟨w.heap.size + 1, 1, none⟩ (.int .i64 Q.num)).setCell ⟨w.heap.size + 1, 2, none⟩ (.string Q.name)).setCell ⟨w.heap.size + 1, 3, none⟩ (.slice ya Q.args.length yc)).cell? ⟨g6, 0, none⟩ = some (.int .i64 Q.kind) ∧ ((((W.setCell ⟨w.heap.size + 1, 0, none⟩ (.int .i64 Q.kind)).setCell ⟨w.heap.size + 1, 1, none⟩ (.int .i64 Q.num)).setCell ⟨w.heap.size + 1, 2, none⟩ (.string Q.name)).setCell ⟨w.heap.size + 1, 3, none⟩ (.slice ya Q.args.length yc)).cell? ⟨g6, 1, none⟩ = some (.int .i64 Q.num) ∧ ((((W.setCell ⟨w.heap.size + 1, 0, none⟩ (.int .i64 Q.kind)).setCell ⟨w.heap.size + 1, 1, none⟩ (.int .i64 Q.num)).setCell ⟨w.heap.size + 1, 2, none⟩ (.string Q.name)).setCell ⟨w.heap.size + 1, 3, none⟩ (.slice ya Q.args.length yc)).cell? ⟨g6, 2, none⟩ = some (.string Q.name) ∧ ((((W.setCell ⟨w.heap.size + 1, 0, none⟩ (.int .i64 Q.kind)).setCell ⟨w.heap.size + 1, 1, none⟩ (.int .i64 Q.num)).setCell ⟨w.heap.size + 1, 2, none⟩ (.string Q.name)).setCell ⟨w.heap.size + 1, 3, none⟩ (.slice ya Q.args.length yc)).cell? ⟨g6, 3, none⟩ = some (.slice ya Q.args.length yc) := (G6.out.apart F8.out.r (by have := Z6.out; omega) _ _ _ _).cells
    go_region_held3 (fun w' => w'.cell? ⟨g6, 0, none⟩ = some (.int .i64 Q.kind) ∧ w'.cell? ⟨g6, 1, none⟩ = some (.int .i64 Q.num) ∧ w'.cell? ⟨g6, 2, none⟩ = some (.string Q.name) ∧ w'.cell? ⟨g6, 3, none⟩ = some (.slice ya Q.args.length yc))
      (first | exact HSX | go_keep)
      (fail)
    go_wp2_with fail
    clear c0 c1 c2 c3 f0 f1 f2 f3 HSX p0 p1 p2 p3
    generalize ((((W.setCell ⟨w.heap.size + 1, 0, none⟩ (.int .i64 Q.kind)).setCell ⟨w.heap.size + 1, 1, none⟩ (.int .i64 Q.num)).setCell ⟨w.heap.size + 1, 2, none⟩ (.string Q.name)).setCell ⟨w.heap.size + 1, 3, none⟩ (.slice ya Q.args.length yc)).drew = WE at *
    obtain ⟨k0, k1, k2, k3⟩ : WE.cell? ⟨w.heap.size + 1, 0, none⟩ = some (.int .i64 Q.kind) ∧ WE.cell? ⟨w.heap.size + 1, 1, none⟩ = some (.int .i64 Q.num) ∧ WE.cell? ⟨w.heap.size + 1, 2, none⟩ = some (.string Q.name) ∧ WE.cell? ⟨w.heap.size + 1, 3, none⟩ = some (.slice ya Q.args.length yc) := FE.out.r.cells
    exact bodyPost_ret (v := .tuple #[.int .i64 0, tv Q (.slice ya Q.args.length yc), .bool false]) (by simp [results, Try.results48, go_sem, k0, k1, k2, k3]) rfl (FE.out.chk1 YE.out (.int .i64 0) false)
  · have e4 : intN t = t.num := by unfold intN; rw [ho]; rfl
    have hB := chkB_ok (kd := ⟨#[105, 110, 116, 101, 103, 101, 114]⟩) ho
    rw [ho, e4, hB] at HCI
    obtain ⟨n, hn⟩ : ∃ n, t.num = n := ⟨_, rfl⟩
    obtain ⟨Q, hQ⟩ : ∃ Q, z0 = Q := ⟨_, rfl⟩
    simp only [tv] at HCI
    rw [hn, hQ] at HCI
    rw [hn] at HI
    obtain ⟨hi1, hi2⟩ := HI
    have F0 : Hid (Fr w ((w.alloc (.cells #[.int .i64 t.kind, .int .i64 n, .string t.name, .slice va t.args.length vc] 24)).alloc (.cells #[.int .i64 0, .int .i64 0, .string ⟨#[]⟩, .slice none 0 0] 24)) t (.slice va t.args.length vc) z0 (.slice none 0 0)) := Lib.hid (by rw [← hn]; exact F0.out)
    by_cases hr : 0 ≤ n ∧ n ≤ 255
    · have e1 : codeO t = true := by unfold codeO; rw [ho, hn, decide_eq_true hr]; rfl
      have e2 : codeN t = n := by unfold codeN; rw [e1, ← hn]; rfl
      have e3 : codeB t = z0 := by unfold codeB; rw [ho, hn, if_pos rfl, if_pos hr]
      rw [e1, e2, e3]
      have d1 : decide (n < 0) = false := by simp; omega
      have d2 : decide (255 < n) = false := by simp; omega
      have d3 : ¬ n < 0 := by omega
      have d4 : ¬ 255 < n := by omega
      have HN := Lib.hid hn
      clear h ho e1 e2 e3 e4 hB hQ hr
      simp only [tv]
      rw [hn]
      clear hn
      go_enter Try.func48, Try.ntmps48
      go_wp2_with fail
      refine HCI.out.mono ?_
      rintro e w7 ⟨y, rfl, hy, hb7⟩
      obtain ⟨ya, yc, rfl⟩ := hy.slice
      have F7 := Lib.hid (F0.out.step hb7)
      have Y7 : Hid (Beh w w7 Q (.slice ya Q.args.length yc)) := Lib.hid (Beh.of hy F0.out.z)
      clear hb7 hy
      have F8 : Hid (Fr w (w7.alloc (.cells #[.int .i64 Q.kind, .int .i64 Q.num, .string Q.name, .slice ya Q.args.length yc] 24)) t (.slice va t.args.length vc) z0 (.slice none 0 0)) := Lib.hid (F7.out.step (al0 _ _))
      have Y8 : Hid (Beh w (w7.alloc (.cells #[.int .i64 Q.kind, .int .i64 Q.num, .string Q.name, .slice ya Q.args.length yc] 24)) Q (.slice ya Q.args.length yc)) := Lib.hid (Y7.out.step (al0 _ _))
      obtain ⟨c0, c1, c2, c3⟩ : (w7.alloc (.cells #[.int .i64 Q.kind, .int .i64 Q.num, .string Q.name, .slice ya Q.args.length yc] 24)).cell? ⟨w.heap.size + 1, 0, none⟩ = some (.int .i64 0) ∧ (w7.alloc (.cells #[.int .i64 Q.kind, .int .i64 Q.num, .string Q.name, .slice ya Q.args.length yc] 24)).cell? ⟨w.heap.size + 1, 1, none⟩ = some (.int .i64 0) ∧ (w7.alloc (.cells #[.int .i64 Q.kind, .int .i64 Q.num, .string Q.name, .slice ya Q.args.length yc] 24)).cell? ⟨w.heap.size + 1, 2, none⟩ = some (.string ⟨#[]⟩) ∧ (w7.alloc (.cells #[.int .i64 Q.kind, .int .i64 Q.num, .string Q.name, .slice ya Q.args.length yc] 24)).cell? ⟨w.heap.size + 1, 3, none⟩ = some (.slice none 0 0) := F8.out.r.cells
      obtain ⟨f0, f1, f2, f3⟩ := F8.out.r.froz
      go_wp2_with fail
      clear c0 c1 c2 c3 f0 f1 f2 f3
      have F9 : Hid (Fr w (((((w7.alloc (.cells #[.int .i64 Q.kind, .int .i64 Q.num, .string Q.name, .slice ya Q.args.length yc] 24)).setCell ⟨w.heap.size + 1, 0, none⟩ (.int .i64 0)).setCell ⟨w.heap.size + 1, 1, none⟩ (.int .i64 0)).setCell ⟨w.heap.size + 1, 2, none⟩ (.string ⟨#[]⟩)).setCell ⟨w.heap.size + 1, 3, none⟩ (.slice none 0 0)) t (.slice va t.args.length vc) z0 (.slice none 0 0)) := Lib.hid (F8.out.putR z0 (.slice none 0 0) _ rfl)
      generalize (((((w7.alloc (.cells #[.int .i64 Q.kind, .int .i64 Q.num, .string Q.name, .slice ya Q.args.length yc] 24)).setCell ⟨w.heap.size + 1, 0, none⟩ (.int .i64 0)).setCell ⟨w.heap.size + 1, 1, none⟩ (.int .i64 0)).setCell ⟨w.heap.size + 1, 2, none⟩ (.string ⟨#[]⟩)).setCell ⟨w.heap.size + 1, 3, none⟩ (.slice none 0 0)) = WZ at *
      obtain ⟨k0, k1, k2, k3⟩ : WZ.cell? ⟨w.heap.size + 1, 0, none⟩ = some (.int .i64 0) ∧ WZ.cell? ⟨w.heap.size + 1, 1, none⟩ = some (.int .i64 0) ∧ WZ.cell? ⟨w.heap.size + 1, 2, none⟩ = some (.string ⟨#[]⟩) ∧ WZ.cell? ⟨w.heap.size + 1, 3, none⟩ = some (.slice none 0 0) := F9.out.r.cells
      exact bodyPost_ret (v := .tuple #[.int .i64 n, zv, .bool true]) (by simp [results, Try.results48, go_sem, k0, k1, k2, k3]) rfl (F9.out.chk1 (Beh.zero _ _) (.int .i64 n) true)
    · have e1 : codeO t = false := by unfold codeO; rw [ho, hn, decide_eq_false hr]; rfl
      have e2 : codeN t = 0 := by unfold codeN; rw [e1]; rfl
      have e3 : codeB t = reprT ⟨#[99, 104, 97, 114, 97, 99, 116, 101, 114, 95, 99, 111, 100, 101]⟩ := by unfold codeB; rw [ho, hn, if_pos rfl, if_neg hr]
      rw [e1, e2, e3]
      have HR : Hid (∀ w0, Calls Try.prog 27 #[.string ⟨#[99, 104, 97, 114, 97, 99, 116, 101, 114, 95, 99, 111, 100, 101]⟩] w0 (MadeEnd (reprT ⟨#[99, 104, 97, 114, 97, 99, 116, 101, 114, 95, 99, 111, 100, 101]⟩) w0)) := Lib.hid (fun w0 => rRepresentation_any ⟨#[99, 104, 97, 114, 97, 99, 116, 101, 114, 95, 99, 111, 100, 101]⟩ w0 (by simp [ByteArray.size]))
      generalize reprT ⟨#[99, 104, 97, 114, 97, 99, 116, 101, 114, 95, 99, 111, 100, 101]⟩ = R at *
      have HN := Lib.hid hn
      clear h ho e1 e2 e3 e4 hB hQ
      simp only [tv]
      rw [hn]
      clear hn
      rcases Int.lt_or_le n 0 with hlo | hlo
      · have d1 : decide (n < 0) = true := by simpa using hlo
        clear hr
        go_enter Try.func48, Try.ntmps48
        go_wp2_with fail
        refine HCI.out.mono ?_
        rintro e w7 ⟨y, rfl, hy, hb7⟩
        obtain ⟨ya, yc, rfl⟩ := hy.slice
        have F7 := Lib.hid (F0.out.step hb7)
        have Y7 : Hid (Beh w w7 Q (.slice ya Q.args.length yc)) := Lib.hid (Beh.of hy F0.out.z)
        clear hb7 hy
        have F8 : Hid (Fr w (w7.alloc (.cells #[.int .i64 Q.kind, .int .i64 Q.num, .string Q.name, .slice ya Q.args.length yc] 24)) t (.slice va t.args.length vc) z0 (.slice none 0 0)) := Lib.hid (F7.out.step (al0 _ _))
        have Y8 : Hid (Beh w (w7.alloc (.cells #[.int .i64 Q.kind, .int .i64 Q.num, .string Q.name, .slice ya Q.args.length yc] 24)) Q (.slice ya Q.args.length yc)) := Lib.hid (Y7.out.step (al0 _ _))
        go_wp2_with fail
        refine (HR.out _).mono ?_
        rintro e w8 ⟨yr, rfl, hyr, hb8⟩
        obtain ⟨yra, yrc, rfl⟩ := hyr.slice
        have FA := Lib.hid (F8.out.step hb8)
        have YA : Hid (Beh w w8 R (.slice yra R.args.length yrc)) := Lib.hid (Beh.of hyr F8.out.z)
        clear hb8 hyr
        obtain ⟨c0, c1, c2, c3⟩ : w8.cell? ⟨w.heap.size + 1, 0, none⟩ = some (.int .i64 0) ∧ w8.cell? ⟨w.heap.size + 1, 1, none⟩ = some (.int .i64 0) ∧ w8.cell? ⟨w.heap.size + 1, 2, none⟩ = some (.string ⟨#[]⟩) ∧ w8.cell? ⟨w.heap.size + 1, 3, none⟩ = some (.slice none 0 0) := FA.out.r.cells
        obtain ⟨f0, f1, f2, f3⟩ := FA.out.r.froz
        go_wp2_with fail
        clear c0 c1 c2 c3 f0 f1 f2 f3
        have FB : Hid (Fr w ((((w8.setCell ⟨w.heap.size + 1, 0, none⟩ (.int .i64 R.kind)).setCell ⟨w.heap.size + 1, 1, none⟩ (.int .i64 R.num)).setCell ⟨w.heap.size + 1, 2, none⟩ (.string R.name)).setCell ⟨w.heap.size + 1, 3, none⟩ (.slice yra R.args.length yrc)) t (.slice va t.args.length vc) R (.slice yra R.args.length yrc)) := Lib.hid (FA.out.putR R (.slice yra R.args.length yrc) _ rfl)
        have YB : Hid (Beh w ((((w8.setCell ⟨w.heap.size + 1, 0, none⟩ (.int .i64 R.kind)).setCell ⟨w.heap.size + 1, 1, none⟩ (.int .i64 R.num)).setCell ⟨w.heap.size + 1, 2, none⟩ (.string R.name)).setCell ⟨w.heap.size + 1, 3, none⟩ (.slice yra R.args.length yrc)) R (.slice yra R.args.length yrc)) := Lib.hid (Beh.put YA.out (by omega) (FA.out.r) _ _ _ _ _ rfl)
        generalize ((((w8.setCell ⟨w.heap.size + 1, 0, none⟩ (.int .i64 R.kind)).setCell ⟨w.heap.size + 1, 1, none⟩ (.int .i64 R.num)).setCell ⟨w.heap.size + 1, 2, none⟩ (.string R.name)).setCell ⟨w.heap.size + 1, 3, none⟩ (.slice yra R.args.length yrc)) = WB at *
        obtain ⟨k0, k1, k2, k3⟩ : WB.cell? ⟨w.heap.size + 1, 0, none⟩ = some (.int .i64 R.kind) ∧ WB.cell? ⟨w.heap.size + 1, 1, none⟩ = some (.int .i64 R.num) ∧ WB.cell? ⟨w.heap.size + 1, 2, none⟩ = some (.string R.name) ∧ WB.cell? ⟨w.heap.size + 1, 3, none⟩ = some (.slice yra R.args.length yrc) := FB.out.r.cells
        exact bodyPost_ret (v := .tuple #[.int .i64 0, tv R (.slice yra R.args.length yrc), .bool false]) (by simp [results, Try.results48, go_sem, k0, k1, k2, k3]) rfl (FB.out.chk1 YB.out (.int .i64 0) false)
      · have d1 : decide (n < 0) = false := by simp; omega
        have d3 : ¬ n < 0 := by omega
        have d2 : decide (255 < n) = true := by simp; omega
        have d4 : 255 < n := by omega
        clear hr
        go_enter Try.func48, Try.ntmps48
        go_wp2_with fail
        refine HCI.out.mono ?_
        rintro e w7 ⟨y, rfl, hy, hb7⟩
        obtain ⟨ya, yc, rfl⟩ := hy.slice
        have F7 := Lib.hid (F0.out.step hb7)
        have Y7 : Hid (Beh w w7 Q (.slice ya Q.args.length yc)) := Lib.hid (Beh.of hy F0.out.z)
        clear hb7 hy
        have F8 : Hid (Fr w (w7.alloc (.cells #[.int .i64 Q.kind, .int .i64 Q.num, .string Q.name, .slice ya Q.args.length yc] 24)) t (.slice va t.args.length vc) z0 (.slice none 0 0)) := Lib.hid (F7.out.step (al0 _ _))
        have Y8 : Hid (Beh w (w7.alloc (.cells #[.int .i64 Q.kind, .int .i64 Q.num, .string Q.name, .slice ya Q.args.length yc] 24)) Q (.slice ya Q.args.length yc)) := Lib.hid (Y7.out.step (al0 _ _))
        go_wp2_with fail
        refine (HR.out _).mono ?_
        rintro e w8 ⟨yr, rfl, hyr, hb8⟩
        obtain ⟨yra, yrc, rfl⟩ := hyr.slice
        have FA := Lib.hid (F8.out.step hb8)
        have YA : Hid (Beh w w8 R (.slice yra R.args.length yrc)) := Lib.hid (Beh.of hyr F8.out.z)
        clear hb8 hyr
        obtain ⟨c0, c1, c2, c3⟩ : w8.cell? ⟨w.heap.size + 1, 0, none⟩ = some (.int .i64 0) ∧ w8.cell? ⟨w.heap.size + 1, 1, none⟩ = some (.int .i64 0) ∧ w8.cell? ⟨w.heap.size + 1, 2, none⟩ = some (.string ⟨#[]⟩) ∧ w8.cell? ⟨w.heap.size + 1, 3, none⟩ = some (.slice none 0 0) := FA.out.r.cells
        obtain ⟨f0, f1, f2, f3⟩ := FA.out.r.froz
        go_wp2_with fail
        clear c0 c1 c2 c3 f0 f1 f2 f3
        have FB : Hid (Fr w ((((w8.setCell ⟨w.heap.size + 1, 0, none⟩ (.int .i64 R.kind)).setCell ⟨w.heap.size + 1, 1, none⟩ (.int .i64 R.num)).setCell ⟨w.heap.size + 1, 2, none⟩ (.string R.name)).setCell ⟨w.heap.size + 1, 3, none⟩ (.slice yra R.args.length yrc)) t (.slice va t.args.length vc) R (.slice yra R.args.length yrc)) := Lib.hid (FA.out.putR R (.slice yra R.args.length yrc) _ rfl)
        have YB : Hid (Beh w ((((w8.setCell ⟨w.heap.size + 1, 0, none⟩ (.int .i64 R.kind)).setCell ⟨w.heap.size + 1, 1, none⟩ (.int .i64 R.num)).setCell ⟨w.heap.size + 1, 2, none⟩ (.string R.name)).setCell ⟨w.heap.size + 1, 3, none⟩ (.slice yra R.args.length yrc)) R (.slice yra R.args.length yrc)) := Lib.hid (Beh.put YA.out (by omega) (FA.out.r) _ _ _ _ _ rfl)
        generalize ((((w8.setCell ⟨w.heap.size + 1, 0, none⟩ (.int .i64 R.kind)).setCell ⟨w.heap.size + 1, 1, none⟩ (.int .i64 R.num)).setCell ⟨w.heap.size + 1, 2, none⟩ (.string R.name)).setCell ⟨w.heap.size + 1, 3, none⟩ (.slice yra R.args.length yrc)) = WB at *
        obtain ⟨k0, k1, k2, k3⟩ : WB.cell? ⟨w.heap.size + 1, 0, none⟩ = some (.int .i64 R.kind) ∧ WB.cell? ⟨w.heap.size + 1, 1, none⟩ = some (.int .i64 R.num) ∧ WB.cell? ⟨w.heap.size + 1, 2, none⟩ = some (.string R.name) ∧ WB.cell? ⟨w.heap.size + 1, 3, none⟩ = some (.slice yra R.args.length yrc) := FB.out.r.cells
        exact bodyPost_ret (v := .tuple #[.int .i64 0, tv R (.slice yra R.args.length yrc), .bool false]) (by simp [results, Try.results48, go_sem, k0, k1, k2, k3]) rfl (FB.out.chk1 YB.out (.int .i64 0) false)

end Go.Proofs.Yteilodihjhdngaa

/- The specification's Indicator. -/
namespace Go.Proofs.Yteilodihjhdngaa
open Go.RowKit Go.Proofs.HT

theorem ind_no {t : Tm} (h : inC t = false) : indB t = chkB t ⟨#[112, 114, 101, 100, 105, 99, 97, 116, 101, 95, 105, 110, 100, 105, 99, 97, 116, 111, 114]⟩ (isS t ⟨#[47]⟩ 2) ∧ indO t = false ∧ indS t = ⟨#[]⟩ ∧ indN t = 0 := by
  have e : indO t = false := by unfold indO; rw [h]; rfl
  exact ⟨by unfold indB; rw [h]; rfl, e, by unfold indS; rw [e]; rfl, by unfold indN; rw [e]; rfl⟩
theorem isS_parts {t : Tm} {x y : Bool} (h2 : (t.name.data.toList == (⟨#[47]⟩ : ByteArray).data.toList) = x) (h3 : (t.args.length == 2) = y) : isS t ⟨#[47]⟩ 2 = ((t.kind == 3) && (x && y)) := by
  unfold isS; rw [h2, h3]
theorem two_al (w1 : World) (A D : Tm) (a d : Value) : RowT ((w1.alloc (.cells #[.int .i64 A.kind, .int .i64 A.num, .string A.name, a] 24)).alloc (.cells #[.int .i64 D.kind, .int .i64 D.num, .string D.name, d] 24)).drew w1.heap.size A a ∧ RowT ((w1.alloc (.cells #[.int .i64 A.kind, .int .i64 A.num, .string A.name, a] 24)).alloc (.cells #[.int .i64 D.kind, .int .i64 D.num, .string D.name, d] 24)).drew (w1.heap.size + 1) D d ∧ Below w1.heap.size w1 ((w1.alloc (.cells #[.int .i64 A.kind, .int .i64 A.num, .string A.name, a] 24)).alloc (.cells #[.int .i64 D.kind, .int .i64 D.num, .string D.name, d] 24)).drew := by
  have h1 := (RowT.new w1 A a).below (al0 _ (.cells #[.int .i64 D.kind, .int .i64 D.num, .string D.name, d] 24))
  have h2 := RowT.new (w1.alloc (.cells #[.int .i64 A.kind, .int .i64 A.num, .string A.name, a] 24)) D d
  rw [show (w1.alloc (.cells #[.int .i64 A.kind, .int .i64 A.num, .string A.name, a] 24)).heap.size = w1.heap.size + 1 by simp] at h2
  exact ⟨h1, h2, ((al0 w1 _).trans ((al0 _ _).mono (by simp))).drew⟩
set_option maxRecDepth 4000 in
set_option maxHeartbeats 16000000 in
theorem rIndicator_any (t : Tm) (v : Value) (w : World) (h : LiesT w t v) : Calls Try.prog 50 #[tv t v] w (Chk2 (.string (indS t)) (.int .i64 (indN t)) (indB t) (indO t) w) := by
  obtain ⟨va, vc, rfl⟩ : ∃ a k, v = .slice a t.args.length k := h.slice
  have F0 := Lib.hid (Fr.start w t (.slice va t.args.length vc))
  have H := Lib.hid h
  cases hv : validB t
  · obtain ⟨eB, eO, eS, eN⟩ := ind_no (t := t) (by unfold inC chkO; rw [hv]; rfl)
    have eB2 : chkB t ⟨#[112, 114, 101, 100, 105, 99, 97, 116, 101, 95, 105, 110, 100, 105, 99, 97, 116, 111, 114]⟩ (isS t ⟨#[47]⟩ 2) = z0 := by unfold chkB; rw [hv]; rfl
    rw [eB, eB2, eO, eS, eN]
    have HV := Lib.hid hv
    clear h hv eB eO eS eN eB2
    simp only [tv]
    go_enter Try.func50, Try.ntmps50
    go_wp2_with fail
    refine (valid_is t _ false HV.out _ (H.out.below F0.out.b)).mono ?_
    rintro e w1 ⟨rfl, hb1⟩
    have F1 := Lib.hid (F0.out.step hb1)
    clear hb1
    obtain ⟨c0, c1, c2, c3⟩ : w1.cell? ⟨w.heap.size + 1, 0, none⟩ = some (.int .i64 0) ∧ w1.cell? ⟨w.heap.size + 1, 1, none⟩ = some (.int .i64 0) ∧ w1.cell? ⟨w.heap.size + 1, 2, none⟩ = some (.string ⟨#[]⟩) ∧ w1.cell? ⟨w.heap.size + 1, 3, none⟩ = some (.slice none 0 0) := F1.out.r.cells
    obtain ⟨f0, f1, f2, f3⟩ := F1.out.r.froz
    go_wp2_with fail
    clear c0 c1 c2 c3 f0 f1 f2 f3
    have FZ : Hid (Fr w ((((w1.setCell ⟨w.heap.size + 1, 0, none⟩ (.int .i64 0)).setCell ⟨w.heap.size + 1, 1, none⟩ (.int .i64 0)).setCell ⟨w.heap.size + 1, 2, none⟩ (.string ⟨#[]⟩)).setCell ⟨w.heap.size + 1, 3, none⟩ (.slice none 0 0)) t (.slice va t.args.length vc) z0 (.slice none 0 0)) := Lib.hid (F1.out.putR z0 (.slice none 0 0) _ rfl)
    generalize ((((w1.setCell ⟨w.heap.size + 1, 0, none⟩ (.int .i64 0)).setCell ⟨w.heap.size + 1, 1, none⟩ (.int .i64 0)).setCell ⟨w.heap.size + 1, 2, none⟩ (.string ⟨#[]⟩)).setCell ⟨w.heap.size + 1, 3, none⟩ (.slice none 0 0)) = WZ at *
    obtain ⟨k0, k1, k2, k3⟩ : WZ.cell? ⟨w.heap.size + 1, 0, none⟩ = some (.int .i64 0) ∧ WZ.cell? ⟨w.heap.size + 1, 1, none⟩ = some (.int .i64 0) ∧ WZ.cell? ⟨w.heap.size + 1, 2, none⟩ = some (.string ⟨#[]⟩) ∧ WZ.cell? ⟨w.heap.size + 1, 3, none⟩ = some (.slice none 0 0) := FZ.out.r.cells
    exact bodyPost_ret (v := .tuple #[.string ⟨#[]⟩, .int .i64 0, zv, .bool false]) (by simp [results, Try.results50, go_sem, k0, k1, k2, k3]) rfl (FZ.out.chk2 (Beh.zero _ _) (.string ⟨#[]⟩) (.int .i64 0) false)
  · have HV := Lib.hid hv
    rcases Bool.eq_false_or_eq_true (t.kind == 0) with h1 | h1
    · obtain ⟨eB, eO, eS, eN⟩ := ind_no (t := t) (by unfold inC chkO; rw [bne, h1, hv]; rfl)
      have eB2 : chkB t ⟨#[112, 114, 101, 100, 105, 99, 97, 116, 101, 95, 105, 110, 100, 105, 99, 97, 116, 111, 114]⟩ (isS t ⟨#[47]⟩ 2) = instT := by unfold chkB; rw [if_pos hv, if_pos h1]
      rw [eB, eB2, eO, eS, eN]
      have HCI : Hid (∀ w0, Calls Try.prog 21 #[] w0 (MadeEnd instT w0)) := Lib.hid (fun w0 => rInst_any w0)
      generalize instT = Q at *
      clear hv eB eO eS eN eB2
      simp only [tv]
      go_enter Try.func50, Try.ntmps50
      go_wp2_with fail
      refine (valid_is t _ true HV.out _ (H.out.below F0.out.b)).mono ?_
      rintro e w1 ⟨rfl, hb1⟩
      have F1 := Lib.hid (F0.out.step hb1)
      clear hb1
      obtain ⟨p0, p1, p2, p3⟩ := F1.out.p.cells
      go_wp2_with fail
      refine (HCI.out _).mono ?_
      clear p0 p1 p2 p3
      rintro e w7 ⟨y, rfl, hy, hb7⟩
      obtain ⟨ya, yc, rfl⟩ := hy.slice
      have F8 := Lib.hid (F1.out.step hb7)
      have Y8 : Hid (Beh w w7 Q (.slice ya Q.args.length yc)) := Lib.hid (Beh.of hy F1.out.z)
      clear hb7 hy
      obtain ⟨c0, c1, c2, c3⟩ : w7.cell? ⟨w.heap.size + 1, 0, none⟩ = some (.int .i64 0) ∧ w7.cell? ⟨w.heap.size + 1, 1, none⟩ = some (.int .i64 0) ∧ w7.cell? ⟨w.heap.size + 1, 2, none⟩ = some (.string ⟨#[]⟩) ∧ w7.cell? ⟨w.heap.size + 1, 3, none⟩ = some (.slice none 0 0) := F8.out.r.cells
      obtain ⟨f0, f1, f2, f3⟩ := F8.out.r.froz
      go_wp2_with fail
      clear c0 c1 c2 c3 f0 f1 f2 f3
      have F9 : Hid (Fr w ((((w7.setCell ⟨w.heap.size + 1, 0, none⟩ (.int .i64 Q.kind)).setCell ⟨w.heap.size + 1, 1, none⟩ (.int .i64 Q.num)).setCell ⟨w.heap.size + 1, 2, none⟩ (.string Q.name)).setCell ⟨w.heap.size + 1, 3, none⟩ (.slice ya Q.args.length yc)) t (.slice va t.args.length vc) Q (.slice ya Q.args.length yc)) := Lib.hid (F8.out.putR Q (.slice ya Q.args.length yc) _ rfl)
      have Y9 : Hid (Beh w ((((w7.setCell ⟨w.heap.size + 1, 0, none⟩ (.int .i64 Q.kind)).setCell ⟨w.heap.size + 1, 1, none⟩ (.int .i64 Q.num)).setCell ⟨w.heap.size + 1, 2, none⟩ (.string Q.name)).setCell ⟨w.heap.size + 1, 3, none⟩ (.slice ya Q.args.length yc)) Q (.slice ya Q.args.length yc)) := Lib.hid (Beh.put Y8.out (by omega) (F8.out.r) _ _ _ _ _ rfl)
      generalize ((((w7.setCell ⟨w.heap.size + 1, 0, none⟩ (.int .i64 Q.kind)).setCell ⟨w.heap.size + 1, 1, none⟩ (.int .i64 Q.num)).setCell ⟨w.heap.size + 1, 2, none⟩ (.string Q.name)).setCell ⟨w.heap.size + 1, 3, none⟩ (.slice ya Q.args.length yc)) = W9 at *
      obtain ⟨k0, k1, k2, k3⟩ : W9.cell? ⟨w.heap.size + 1, 0, none⟩ = some (.int .i64 Q.kind) ∧ W9.cell? ⟨w.heap.size + 1, 1, none⟩ = some (.int .i64 Q.num) ∧ W9.cell? ⟨w.heap.size + 1, 2, none⟩ = some (.string Q.name) ∧ W9.cell? ⟨w.heap.size + 1, 3, none⟩ = some (.slice ya Q.args.length yc) := F9.out.r.cells
      exact bodyPost_ret (v := .tuple #[.string ⟨#[]⟩, .int .i64 0, tv Q (.slice ya Q.args.length yc), .bool false]) (by simp [results, Try.results50, go_sem, k0, k1, k2, k3]) rfl (F9.out.chk2 Y9.out (.string ⟨#[]⟩) (.int .i64 0) false)
    · obtain ⟨x2, h2⟩ : ∃ x, (t.name.data.toList == (⟨#[47]⟩ : ByteArray).data.toList) = x := ⟨_, rfl⟩
      obtain ⟨x3, h3⟩ : ∃ x, (t.args.length == 2) = x := ⟨_, rfl⟩
      have he := isS_parts h2 h3
      have h2 : (t.name.toList == [47]) = x2 := by rw [Lib.toList_data]; exact h2
      have HTY : Hid (∀ w0, LiesT w0 t (.slice va t.args.length vc) → Calls Try.prog 23 #[.string ⟨#[112, 114, 101, 100, 105, 99, 97, 116, 101, 95, 105, 110, 100, 105, 99, 97, 116, 111, 114]⟩, tv t (.slice va t.args.length vc)] w0 (MadeEnd (typeT ⟨#[112, 114, 101, 100, 105, 99, 97, 116, 101, 95, 105, 110, 100, 105, 99, 97, 116, 111, 114]⟩ t) w0)) := Lib.hid (fun w0 h => rType_any t _ ⟨#[112, 114, 101, 100, 105, 99, 97, 116, 101, 95, 105, 110, 100, 105, 99, 97, 116, 111, 114]⟩ w0 h (by simp [ByteArray.size]))
      have HNO : Hid (isS t ⟨#[47]⟩ 2 = false → indB t = typeT ⟨#[112, 114, 101, 100, 105, 99, 97, 116, 101, 95, 105, 110, 100, 105, 99, 97, 116, 111, 114]⟩ t ∧ indO t = false ∧ indS t = ⟨#[]⟩ ∧ indN t = 0) := Lib.hid (fun hs => by
        obtain ⟨eB, eO, eS, eN⟩ := ind_no (t := t) (by unfold inC chkO; rw [hs]; simp)
        exact ⟨by rw [eB, hs]; unfold chkB; rw [if_pos HV.out, if_neg (by rw [h1]; simp), if_neg (by simp)], eO, eS, eN⟩)
      rcases Bool.eq_false_or_eq_true (t.kind == 3) with h4 | h4
      rotate_left
      · obtain ⟨eB, eO, eS, eN⟩ := HNO.out (by rw [he, h4]; rfl)
        have h5 : (t.kind != 3) = true := by simp [bne, h4]
        rw [eB, eO, eS, eN]
        generalize typeT ⟨#[112, 114, 101, 100, 105, 99, 97, 116, 101, 95, 105, 110, 100, 105, 99, 97, 116, 111, 114]⟩ t = Q at *
        clear h hv eB eO eS eN he h2 h3 HNO
        simp only [tv]
        go_enter Try.func50, Try.ntmps50
        go_wp2_with fail
        refine (valid_is t _ true HV.out _ (H.out.below F0.out.b)).mono ?_
        rintro e w1 ⟨rfl, hb1⟩
        have F1 := Lib.hid (F0.out.step hb1)
        clear hb1
        obtain ⟨p0, p1, p2, p3⟩ := F1.out.p.cells
        go_wp2_with fail
        refine (HTY.out _ (H.out.below F1.out.b)).mono ?_
        clear p0 p1 p2 p3
        rintro e w7 ⟨y, rfl, hy, hb7⟩
        obtain ⟨ya, yc, rfl⟩ := hy.slice
        have F8 := Lib.hid (F1.out.step hb7)
        have Y8 : Hid (Beh w w7 Q (.slice ya Q.args.length yc)) := Lib.hid (Beh.of hy F1.out.z)
        clear hb7 hy
        obtain ⟨c0, c1, c2, c3⟩ : w7.cell? ⟨w.heap.size + 1, 0, none⟩ = some (.int .i64 0) ∧ w7.cell? ⟨w.heap.size + 1, 1, none⟩ = some (.int .i64 0) ∧ w7.cell? ⟨w.heap.size + 1, 2, none⟩ = some (.string ⟨#[]⟩) ∧ w7.cell? ⟨w.heap.size + 1, 3, none⟩ = some (.slice none 0 0) := F8.out.r.cells
        obtain ⟨f0, f1, f2, f3⟩ := F8.out.r.froz
        go_wp2_with fail
        clear c0 c1 c2 c3 f0 f1 f2 f3
        have F9 : Hid (Fr w ((((w7.setCell ⟨w.heap.size + 1, 0, none⟩ (.int .i64 Q.kind)).setCell ⟨w.heap.size + 1, 1, none⟩ (.int .i64 Q.num)).setCell ⟨w.heap.size + 1, 2, none⟩ (.string Q.name)).setCell ⟨w.heap.size + 1, 3, none⟩ (.slice ya Q.args.length yc)) t (.slice va t.args.length vc) Q (.slice ya Q.args.length yc)) := Lib.hid (F8.out.putR Q (.slice ya Q.args.length yc) _ rfl)
        have Y9 : Hid (Beh w ((((w7.setCell ⟨w.heap.size + 1, 0, none⟩ (.int .i64 Q.kind)).setCell ⟨w.heap.size + 1, 1, none⟩ (.int .i64 Q.num)).setCell ⟨w.heap.size + 1, 2, none⟩ (.string Q.name)).setCell ⟨w.heap.size + 1, 3, none⟩ (.slice ya Q.args.length yc)) Q (.slice ya Q.args.length yc)) := Lib.hid (Beh.put Y8.out (by omega) (F8.out.r) _ _ _ _ _ rfl)
        generalize ((((w7.setCell ⟨w.heap.size + 1, 0, none⟩ (.int .i64 Q.kind)).setCell ⟨w.heap.size + 1, 1, none⟩ (.int .i64 Q.num)).setCell ⟨w.heap.size + 1, 2, none⟩ (.string Q.name)).setCell ⟨w.heap.size + 1, 3, none⟩ (.slice ya Q.args.length yc)) = W9 at *
        obtain ⟨k0, k1, k2, k3⟩ : W9.cell? ⟨w.heap.size + 1, 0, none⟩ = some (.int .i64 Q.kind) ∧ W9.cell? ⟨w.heap.size + 1, 1, none⟩ = some (.int .i64 Q.num) ∧ W9.cell? ⟨w.heap.size + 1, 2, none⟩ = some (.string Q.name) ∧ W9.cell? ⟨w.heap.size + 1, 3, none⟩ = some (.slice ya Q.args.length yc) := F9.out.r.cells
        exact bodyPost_ret (v := .tuple #[.string ⟨#[]⟩, .int .i64 0, tv Q (.slice ya Q.args.length yc), .bool false]) (by simp [results, Try.results50, go_sem, k0, k1, k2, k3]) rfl (F9.out.chk2 Y9.out (.string ⟨#[]⟩) (.int .i64 0) false)
      · have h5 : (t.kind != 3) = false := by simp [bne, h4]
        cases x2
        · obtain ⟨eB, eO, eS, eN⟩ := HNO.out (by rw [he, h4]; rfl)
          have h6 : (t.name.toList != [47]) = true := by simp only [bne, h2]; rfl
          rw [eB, eO, eS, eN]
          generalize typeT ⟨#[112, 114, 101, 100, 105, 99, 97, 116, 101, 95, 105, 110, 100, 105, 99, 97, 116, 111, 114]⟩ t = Q at *
          clear h hv eB eO eS eN he h3 HNO
          simp only [tv]
          go_enter Try.func50, Try.ntmps50
          go_wp2_with fail
          refine (valid_is t _ true HV.out _ (H.out.below F0.out.b)).mono ?_
          rintro e w1 ⟨rfl, hb1⟩
          have F1 := Lib.hid (F0.out.step hb1)
          clear hb1
          obtain ⟨p0, p1, p2, p3⟩ := F1.out.p.cells
          go_wp2_with fail
          refine (HTY.out _ (H.out.below F1.out.b)).mono ?_
          clear p0 p1 p2 p3
          rintro e w7 ⟨y, rfl, hy, hb7⟩
          obtain ⟨ya, yc, rfl⟩ := hy.slice
          have F8 := Lib.hid (F1.out.step hb7)
          have Y8 : Hid (Beh w w7 Q (.slice ya Q.args.length yc)) := Lib.hid (Beh.of hy F1.out.z)
          clear hb7 hy
          obtain ⟨c0, c1, c2, c3⟩ : w7.cell? ⟨w.heap.size + 1, 0, none⟩ = some (.int .i64 0) ∧ w7.cell? ⟨w.heap.size + 1, 1, none⟩ = some (.int .i64 0) ∧ w7.cell? ⟨w.heap.size + 1, 2, none⟩ = some (.string ⟨#[]⟩) ∧ w7.cell? ⟨w.heap.size + 1, 3, none⟩ = some (.slice none 0 0) := F8.out.r.cells
          obtain ⟨f0, f1, f2, f3⟩ := F8.out.r.froz
          go_wp2_with fail
          clear c0 c1 c2 c3 f0 f1 f2 f3
          have F9 : Hid (Fr w ((((w7.setCell ⟨w.heap.size + 1, 0, none⟩ (.int .i64 Q.kind)).setCell ⟨w.heap.size + 1, 1, none⟩ (.int .i64 Q.num)).setCell ⟨w.heap.size + 1, 2, none⟩ (.string Q.name)).setCell ⟨w.heap.size + 1, 3, none⟩ (.slice ya Q.args.length yc)) t (.slice va t.args.length vc) Q (.slice ya Q.args.length yc)) := Lib.hid (F8.out.putR Q (.slice ya Q.args.length yc) _ rfl)
          have Y9 : Hid (Beh w ((((w7.setCell ⟨w.heap.size + 1, 0, none⟩ (.int .i64 Q.kind)).setCell ⟨w.heap.size + 1, 1, none⟩ (.int .i64 Q.num)).setCell ⟨w.heap.size + 1, 2, none⟩ (.string Q.name)).setCell ⟨w.heap.size + 1, 3, none⟩ (.slice ya Q.args.length yc)) Q (.slice ya Q.args.length yc)) := Lib.hid (Beh.put Y8.out (by omega) (F8.out.r) _ _ _ _ _ rfl)
          generalize ((((w7.setCell ⟨w.heap.size + 1, 0, none⟩ (.int .i64 Q.kind)).setCell ⟨w.heap.size + 1, 1, none⟩ (.int .i64 Q.num)).setCell ⟨w.heap.size + 1, 2, none⟩ (.string Q.name)).setCell ⟨w.heap.size + 1, 3, none⟩ (.slice ya Q.args.length yc)) = W9 at *
          obtain ⟨k0, k1, k2, k3⟩ : W9.cell? ⟨w.heap.size + 1, 0, none⟩ = some (.int .i64 Q.kind) ∧ W9.cell? ⟨w.heap.size + 1, 1, none⟩ = some (.int .i64 Q.num) ∧ W9.cell? ⟨w.heap.size + 1, 2, none⟩ = some (.string Q.name) ∧ W9.cell? ⟨w.heap.size + 1, 3, none⟩ = some (.slice ya Q.args.length yc) := F9.out.r.cells
          exact bodyPost_ret (v := .tuple #[.string ⟨#[]⟩, .int .i64 0, tv Q (.slice ya Q.args.length yc), .bool false]) (by simp [results, Try.results50, go_sem, k0, k1, k2, k3]) rfl (F9.out.chk2 Y9.out (.string ⟨#[]⟩) (.int .i64 0) false)
        · have h6 : (t.name.toList != [47]) = false := by simp only [bne, h2]; rfl
          cases x3
          · obtain ⟨eB, eO, eS, eN⟩ := HNO.out (by rw [he, h4]; rfl)
            have h7 : ((t.args.length : Int) == 2) = false := by simp at h3 ⊢; omega
            have h8 : ((t.args.length : Int) != 2) = true := by simp at h3 ⊢; omega
            rw [eB, eO, eS, eN]
            generalize typeT ⟨#[112, 114, 101, 100, 105, 99, 97, 116, 101, 95, 105, 110, 100, 105, 99, 97, 116, 111, 114]⟩ t = Q at *
            clear h hv eB eO eS eN he h3 HNO
            simp only [tv]
            go_enter Try.func50, Try.ntmps50
            go_wp2_with fail
            refine (valid_is t _ true HV.out _ (H.out.below F0.out.b)).mono ?_
            rintro e w1 ⟨rfl, hb1⟩
            have F1 := Lib.hid (F0.out.step hb1)
            clear hb1
            obtain ⟨p0, p1, p2, p3⟩ := F1.out.p.cells
            go_wp2_with fail
            refine (HTY.out _ (H.out.below F1.out.b)).mono ?_
            clear p0 p1 p2 p3
            rintro e w7 ⟨y, rfl, hy, hb7⟩
            obtain ⟨ya, yc, rfl⟩ := hy.slice
            have F8 := Lib.hid (F1.out.step hb7)
            have Y8 : Hid (Beh w w7 Q (.slice ya Q.args.length yc)) := Lib.hid (Beh.of hy F1.out.z)
            clear hb7 hy
            obtain ⟨c0, c1, c2, c3⟩ : w7.cell? ⟨w.heap.size + 1, 0, none⟩ = some (.int .i64 0) ∧ w7.cell? ⟨w.heap.size + 1, 1, none⟩ = some (.int .i64 0) ∧ w7.cell? ⟨w.heap.size + 1, 2, none⟩ = some (.string ⟨#[]⟩) ∧ w7.cell? ⟨w.heap.size + 1, 3, none⟩ = some (.slice none 0 0) := F8.out.r.cells
            obtain ⟨f0, f1, f2, f3⟩ := F8.out.r.froz
            go_wp2_with fail
            clear c0 c1 c2 c3 f0 f1 f2 f3
            have F9 : Hid (Fr w ((((w7.setCell ⟨w.heap.size + 1, 0, none⟩ (.int .i64 Q.kind)).setCell ⟨w.heap.size + 1, 1, none⟩ (.int .i64 Q.num)).setCell ⟨w.heap.size + 1, 2, none⟩ (.string Q.name)).setCell ⟨w.heap.size + 1, 3, none⟩ (.slice ya Q.args.length yc)) t (.slice va t.args.length vc) Q (.slice ya Q.args.length yc)) := Lib.hid (F8.out.putR Q (.slice ya Q.args.length yc) _ rfl)
            have Y9 : Hid (Beh w ((((w7.setCell ⟨w.heap.size + 1, 0, none⟩ (.int .i64 Q.kind)).setCell ⟨w.heap.size + 1, 1, none⟩ (.int .i64 Q.num)).setCell ⟨w.heap.size + 1, 2, none⟩ (.string Q.name)).setCell ⟨w.heap.size + 1, 3, none⟩ (.slice ya Q.args.length yc)) Q (.slice ya Q.args.length yc)) := Lib.hid (Beh.put Y8.out (by omega) (F8.out.r) _ _ _ _ _ rfl)
            generalize ((((w7.setCell ⟨w.heap.size + 1, 0, none⟩ (.int .i64 Q.kind)).setCell ⟨w.heap.size + 1, 1, none⟩ (.int .i64 Q.num)).setCell ⟨w.heap.size + 1, 2, none⟩ (.string Q.name)).setCell ⟨w.heap.size + 1, 3, none⟩ (.slice ya Q.args.length yc)) = W9 at *
            obtain ⟨k0, k1, k2, k3⟩ : W9.cell? ⟨w.heap.size + 1, 0, none⟩ = some (.int .i64 Q.kind) ∧ W9.cell? ⟨w.heap.size + 1, 1, none⟩ = some (.int .i64 Q.num) ∧ W9.cell? ⟨w.heap.size + 1, 2, none⟩ = some (.string Q.name) ∧ W9.cell? ⟨w.heap.size + 1, 3, none⟩ = some (.slice ya Q.args.length yc) := F9.out.r.cells
            exact bodyPost_ret (v := .tuple #[.string ⟨#[]⟩, .int .i64 0, tv Q (.slice ya Q.args.length yc), .bool false]) (by simp [results, Try.results50, go_sem, k0, k1, k2, k3]) rfl (F9.out.chk2 Y9.out (.string ⟨#[]⟩) (.int .i64 0) false)
          · have hs : isS t ⟨#[47]⟩ 2 = true := by rw [he, h4]; rfl
            have hlen : t.args.length = 2 := by simpa using h3
            have hC : inC t = true := by unfold inC chkO; rw [hs, hv]; simp [bne, h1]
            obtain ⟨b, off, u0, k0, u1, k1, hva, hc2, hl0, hl1⟩ := two_of h hlen
            subst hva
            have hv0 := valid_arg hv 0 (by omega)
            have hv1 := valid_arg hv 1 (by omega)
            rw [← ag_at (show 0 < t.args.length by omega)] at hv0
            rw [← ag_at (show 1 < t.args.length by omega)] at hv1
            obtain ⟨RS, hRS⟩ : ∃ r, indS t = r := ⟨_, rfl⟩
            obtain ⟨RN, hRN⟩ : ∃ r, indN t = r := ⟨_, rfl⟩
            obtain ⟨RB, hRB⟩ : ∃ r, indB t = r := ⟨_, rfl⟩
            obtain ⟨RO, hRO⟩ : ∃ r, indO t = r := ⟨_, rfl⟩
            obtain ⟨A, hA⟩ : ∃ A, ag t 0 = A := ⟨_, rfl⟩
            obtain ⟨D, hD⟩ : ∃ D, ag t 1 = D := ⟨_, rfl⟩
            rw [hRS, hRN, hRB, hRO]
            have HBV : Hid (RB = if ((A.kind == 0) || (D.kind == 0)) = true then instT else if chkO A (A.kind == 2) = true then arB D else chkB A ⟨#[97, 116, 111, 109]⟩ (A.kind == 2)) := Lib.hid (by
              rw [← hRB]; unfold indB inV; rw [hC, hA, hD]; rfl)
            have HOV : Hid (RO = ((!((A.kind == 0) || (D.kind == 0))) && (chkO A (A.kind == 2) && arO D))) := Lib.hid (by
              rw [← hRO]; unfold indO inV; rw [hC, hA, hD]; rfl)
            have HSV : Hid (RS = if RO = true then A.name else ⟨#[]⟩) := Lib.hid (by rw [← hRS]; unfold indS; rw [hRO, hA])
            have HNV : Hid (RN = if RO = true then D.num else 0) := Lib.hid (by rw [← hRN]; unfold indN; rw [hRO, hD])
            have HTW : Hid (∀ w', Below w.heap.size w w' → (w'.cell? ⟨b, off, none⟩ = some (.int .i64 A.kind) ∧ w'.cell? ⟨b, off + 1, none⟩ = some (.int .i64 A.num) ∧ w'.cell? ⟨b, off + 2, none⟩ = some (.string A.name) ∧ w'.cell? ⟨b, off + 3, none⟩ = some (.slice u0 A.args.length k0)) ∧ (w'.cell? ⟨b, off + 4, none⟩ = some (.int .i64 D.kind) ∧ w'.cell? ⟨b, off + 4 + 1, none⟩ = some (.int .i64 D.num) ∧ w'.cell? ⟨b, off + 4 + 2, none⟩ = some (.string D.name) ∧ w'.cell? ⟨b, off + 4 + 3, none⟩ = some (.slice u1 D.args.length k1))) := Lib.hid (fun w' hb => by rw [← hA, ← hD]; exact hc2.below hb)
            rw [hA] at hl0 hv0
            rw [hD] at hl1 hv1
            have HA := Lib.hid hl0
            have HD := Lib.hid hl1
            have VA := Lib.hid hv0
            have VD := Lib.hid hv1
            have HVC : Hid (∀ w0, Below w.heap.size w w0 → Calls Try.prog 51 #[tv t (.slice (some ⟨b, off, none⟩) 2 vc)] w0 fun e w' => e = .returned (.bool true) ∧ Below w0.heap.size w0 w') := Lib.hid (fun w0 hb => by have hh := valid_is t (.slice (some ⟨b, off, none⟩) t.args.length vc) true hv w0 (H.out.below hb); rw [hlen] at hh; exact hh)
            rw [hlen] at F0 ⊢
            clear h hv he h3 HNO HTY hs hlen hC hc2 hv0 hv1 hl0 hl1 hRS hRN hRB hRO hA hD H HV
            simp only [tv]
            go_enter Try.func50, Try.ntmps50
            go_wp2_with fail
            refine (HVC.out _ F0.out.b).mono ?_
            rintro e w1 ⟨rfl, hb1⟩
            have F1 := Lib.hid (F0.out.step hb1)
            clear hb1 F0
            obtain ⟨p0, p1, p2, p3⟩ := F1.out.p.cells
            go_upto_region 7 with fail
            clear p0 p1 p2 p3
            go_cut [6, 7] from 32 to 39 (fun x6 x7 wx => ∃ g6 g7 : Nat, x6 = .pointer (some ⟨g6, 0, none⟩) ∧ x7 = .pointer (some ⟨g7, 0, none⟩) ∧ Hid (w1.heap.size ≤ g6 ∧ w1.heap.size ≤ g7) ∧ Hid (RowT wx g6 A (.slice u0 A.args.length k0) ∧ RowT wx g7 D (.slice u1 D.args.length k1) ∧ Below w1.heap.size w1 wx))
            case first =>
              obtain ⟨p0, p1, p2, p3⟩ := F1.out.p.cells
              obtain ⟨⟨a0, a1, a2, a3⟩, e0, e1, e2, e3⟩ := HTW.out _ F1.out.b
              go_region_held3 (fun w' => w'.cell? ⟨w.heap.size, 0, none⟩ = some (.int .i64 t.kind) ∧ w'.cell? ⟨w.heap.size, 1, none⟩ = some (.int .i64 t.num) ∧ w'.cell? ⟨w.heap.size, 2, none⟩ = some (.string t.name) ∧ w'.cell? ⟨w.heap.size, 3, none⟩ = some (.slice (some ⟨b, off, none⟩) 2 vc) ∧ w'.cell? ⟨b, off, none⟩ = some (.int .i64 A.kind) ∧ w'.cell? ⟨b, off + 1, none⟩ = some (.int .i64 A.num) ∧ w'.cell? ⟨b, off + 2, none⟩ = some (.string A.name) ∧ w'.cell? ⟨b, off + 3, none⟩ = some (.slice u0 A.args.length k0) ∧ w'.cell? ⟨b, off + 4, none⟩ = some (.int .i64 D.kind) ∧ w'.cell? ⟨b, off + 4 + 1, none⟩ = some (.int .i64 D.num) ∧ w'.cell? ⟨b, off + 4 + 2, none⟩ = some (.string D.name) ∧ w'.cell? ⟨b, off + 4 + 3, none⟩ = some (.slice u1 D.args.length k1))
                (go_keep)
                (fail)
              all_goals
                go_wp2_with fail
                go_meet
                first
                  | exact ⟨_, _, rfl, rfl, Lib.hid ⟨by omega, by omega⟩, Lib.hid ⟨(two_al w1 A D _ _).1, (two_al w1 A D _ _).2.1, (two_al w1 A D _ _).2.2⟩⟩
                  | exact ⟨_, _, rfl, rfl, Lib.hid ⟨by omega, by omega⟩, Lib.hid ⟨(two_al w1 D A _ _).2.1, (two_al w1 D A _ _).1, (two_al w1 D A _ _).2.2⟩⟩
            case rest =>
              obtain ⟨g6, g7, rfl, rfl, hge, hcut⟩ := hcut
              have ZG : Hid (w.heap.size + 2 ≤ g6 ∧ w.heap.size + 2 ≤ g7) := Lib.hid (by have := hge.out; have := F1.out.z; omega)
              clear hge
              have F2 := Lib.hid (F1.out.step hcut.out.2.2)
              have G6 := Lib.hid hcut.out.1
              have G7 := Lib.hid hcut.out.2.1
              clear hcut F1 HTW
              obtain ⟨a0, a1, a2, a3⟩ := G6.out.cells
              obtain ⟨e0, e1, e2, e3⟩ := G7.out.cells
              rcases Bool.eq_false_or_eq_true (A.kind == 0) with ha | ha
              · obtain rfl : RO = false := by rw [HOV.out, ha]; rfl
                obtain rfl : RB = instT := by rw [HBV.out, ha]; rfl
                obtain rfl : RS = ⟨#[]⟩ := by rw [HSV.out]; rfl
                obtain rfl : RN = 0 := by rw [HNV.out]; rfl
                have HC1 : Hid (∀ w0, Calls Try.prog 21 #[] w0 (MadeEnd instT w0)) := Lib.hid (fun w0 => rInst_any w0)
                generalize instT = Q at *
                go_wp2_with fail
                refine (HC1.out _).mono ?_
                clear a0 a1 a2 a3 e0 e1 e2 e3
                rintro e w7 ⟨y, rfl, hy, hb7⟩
                obtain ⟨ya, yc, rfl⟩ := hy.slice
                have F8 := Lib.hid (F2.out.step hb7)
                have Y8 : Hid (Beh w w7 Q (.slice ya Q.args.length yc)) := Lib.hid (Beh.of hy F2.out.z)
                clear hb7 hy
                obtain ⟨c0, c1, c2, c3⟩ : w7.cell? ⟨w.heap.size + 1, 0, none⟩ = some (.int .i64 0) ∧ w7.cell? ⟨w.heap.size + 1, 1, none⟩ = some (.int .i64 0) ∧ w7.cell? ⟨w.heap.size + 1, 2, none⟩ = some (.string ⟨#[]⟩) ∧ w7.cell? ⟨w.heap.size + 1, 3, none⟩ = some (.slice none 0 0) := F8.out.r.cells
                obtain ⟨f0, f1, f2, f3⟩ := F8.out.r.froz
                go_wp2_with fail
                clear c0 c1 c2 c3 f0 f1 f2 f3
                have F9 : Hid (Fr w ((((w7.setCell ⟨w.heap.size + 1, 0, none⟩ (.int .i64 Q.kind)).setCell ⟨w.heap.size + 1, 1, none⟩ (.int .i64 Q.num)).setCell ⟨w.heap.size + 1, 2, none⟩ (.string Q.name)).setCell ⟨w.heap.size + 1, 3, none⟩ (.slice ya Q.args.length yc)) t (.slice (some ⟨b, off, none⟩) 2 vc) Q (.slice ya Q.args.length yc)) := Lib.hid (F8.out.putR Q (.slice ya Q.args.length yc) _ rfl)
                have Y9 : Hid (Beh w ((((w7.setCell ⟨w.heap.size + 1, 0, none⟩ (.int .i64 Q.kind)).setCell ⟨w.heap.size + 1, 1, none⟩ (.int .i64 Q.num)).setCell ⟨w.heap.size + 1, 2, none⟩ (.string Q.name)).setCell ⟨w.heap.size + 1, 3, none⟩ (.slice ya Q.args.length yc)) Q (.slice ya Q.args.length yc)) := Lib.hid (Beh.put Y8.out (by omega) (F8.out.r) _ _ _ _ _ rfl)
                generalize ((((w7.setCell ⟨w.heap.size + 1, 0, none⟩ (.int .i64 Q.kind)).setCell ⟨w.heap.size + 1, 1, none⟩ (.int .i64 Q.num)).setCell ⟨w.heap.size + 1, 2, none⟩ (.string Q.name)).setCell ⟨w.heap.size + 1, 3, none⟩ (.slice ya Q.args.length yc)) = W9 at *
                obtain ⟨k0, k1, k2, k3⟩ : W9.cell? ⟨w.heap.size + 1, 0, none⟩ = some (.int .i64 Q.kind) ∧ W9.cell? ⟨w.heap.size + 1, 1, none⟩ = some (.int .i64 Q.num) ∧ W9.cell? ⟨w.heap.size + 1, 2, none⟩ = some (.string Q.name) ∧ W9.cell? ⟨w.heap.size + 1, 3, none⟩ = some (.slice ya Q.args.length yc) := F9.out.r.cells
                exact bodyPost_ret (v := .tuple #[.string ⟨#[]⟩, .int .i64 0, tv Q (.slice ya Q.args.length yc), .bool false]) (by simp [results, Try.results50, go_sem, k0, k1, k2, k3]) rfl (F9.out.chk2 Y9.out (.string ⟨#[]⟩) (.int .i64 0) false)
              · rcases Bool.eq_false_or_eq_true (D.kind == 0) with hd | hd
                · obtain rfl : RO = false := by rw [HOV.out, ha, hd]; rfl
                  obtain rfl : RB = instT := by rw [HBV.out, ha, hd]; rfl
                  obtain rfl : RS = ⟨#[]⟩ := by rw [HSV.out]; rfl
                  obtain rfl : RN = 0 := by rw [HNV.out]; rfl
                  have HC1 : Hid (∀ w0, Calls Try.prog 21 #[] w0 (MadeEnd instT w0)) := Lib.hid (fun w0 => rInst_any w0)
                  generalize instT = Q at *
                  go_wp2_with fail
                  refine (HC1.out _).mono ?_
                  clear a0 a1 a2 a3 e0 e1 e2 e3
                  rintro e w7 ⟨y, rfl, hy, hb7⟩
                  obtain ⟨ya, yc, rfl⟩ := hy.slice
                  have F8 := Lib.hid (F2.out.step hb7)
                  have Y8 : Hid (Beh w w7 Q (.slice ya Q.args.length yc)) := Lib.hid (Beh.of hy F2.out.z)
                  clear hb7 hy
                  obtain ⟨c0, c1, c2, c3⟩ : w7.cell? ⟨w.heap.size + 1, 0, none⟩ = some (.int .i64 0) ∧ w7.cell? ⟨w.heap.size + 1, 1, none⟩ = some (.int .i64 0) ∧ w7.cell? ⟨w.heap.size + 1, 2, none⟩ = some (.string ⟨#[]⟩) ∧ w7.cell? ⟨w.heap.size + 1, 3, none⟩ = some (.slice none 0 0) := F8.out.r.cells
                  obtain ⟨f0, f1, f2, f3⟩ := F8.out.r.froz
                  go_wp2_with fail
                  clear c0 c1 c2 c3 f0 f1 f2 f3
                  have F9 : Hid (Fr w ((((w7.setCell ⟨w.heap.size + 1, 0, none⟩ (.int .i64 Q.kind)).setCell ⟨w.heap.size + 1, 1, none⟩ (.int .i64 Q.num)).setCell ⟨w.heap.size + 1, 2, none⟩ (.string Q.name)).setCell ⟨w.heap.size + 1, 3, none⟩ (.slice ya Q.args.length yc)) t (.slice (some ⟨b, off, none⟩) 2 vc) Q (.slice ya Q.args.length yc)) := Lib.hid (F8.out.putR Q (.slice ya Q.args.length yc) _ rfl)
                  have Y9 : Hid (Beh w ((((w7.setCell ⟨w.heap.size + 1, 0, none⟩ (.int .i64 Q.kind)).setCell ⟨w.heap.size + 1, 1, none⟩ (.int .i64 Q.num)).setCell ⟨w.heap.size + 1, 2, none⟩ (.string Q.name)).setCell ⟨w.heap.size + 1, 3, none⟩ (.slice ya Q.args.length yc)) Q (.slice ya Q.args.length yc)) := Lib.hid (Beh.put Y8.out (by omega) (F8.out.r) _ _ _ _ _ rfl)
                  generalize ((((w7.setCell ⟨w.heap.size + 1, 0, none⟩ (.int .i64 Q.kind)).setCell ⟨w.heap.size + 1, 1, none⟩ (.int .i64 Q.num)).setCell ⟨w.heap.size + 1, 2, none⟩ (.string Q.name)).setCell ⟨w.heap.size + 1, 3, none⟩ (.slice ya Q.args.length yc)) = W9 at *
                  obtain ⟨k0, k1, k2, k3⟩ : W9.cell? ⟨w.heap.size + 1, 0, none⟩ = some (.int .i64 Q.kind) ∧ W9.cell? ⟨w.heap.size + 1, 1, none⟩ = some (.int .i64 Q.num) ∧ W9.cell? ⟨w.heap.size + 1, 2, none⟩ = some (.string Q.name) ∧ W9.cell? ⟨w.heap.size + 1, 3, none⟩ = some (.slice ya Q.args.length yc) := F9.out.r.cells
                  exact bodyPost_ret (v := .tuple #[.string ⟨#[]⟩, .int .i64 0, tv Q (.slice ya Q.args.length yc), .bool false]) (by simp [results, Try.results50, go_sem, k0, k1, k2, k3]) rfl (F9.out.chk2 Y9.out (.string ⟨#[]⟩) (.int .i64 0) false)
                · have HOV2 : Hid (RO = (chkO A (A.kind == 2) && arO D)) := Lib.hid (by rw [HOV.out, ha, hd]; rfl)
                  have HBV2 : Hid (RB = if chkO A (A.kind == 2) = true then arB D else chkB A ⟨#[97, 116, 111, 109]⟩ (A.kind == 2)) := Lib.hid (by rw [HBV.out, ha, hd]; rfl)
                  clear HOV HBV
                  rcases Bool.eq_false_or_eq_true (A.kind == 2) with ha2 | ha2
                  rotate_left
                  · have hc : chkO A (A.kind == 2) = false := by unfold chkO; rw [ha2]; simp
                    obtain rfl : RO = false := by rw [HOV2.out, hc]; rfl
                    obtain rfl : RB = typeT ⟨#[97, 116, 111, 109]⟩ A := by rw [HBV2.out, hc, ha2]; unfold chkB; rw [if_neg (by simp), if_pos VA.out, if_neg (by rw [ha]; simp), if_neg (by simp)]
                    obtain rfl : RS = ⟨#[]⟩ := by rw [HSV.out]; rfl
                    obtain rfl : RN = 0 := by rw [HNV.out]; rfl
                    have h9 : (A.kind != 2) = true := by simp [bne, ha2]
                    have HC1 : Hid (∀ w0, Below w.heap.size w w0 → Calls Try.prog 23 #[.string ⟨#[97, 116, 111, 109]⟩, tv A (.slice u0 A.args.length k0)] w0 (MadeEnd (typeT ⟨#[97, 116, 111, 109]⟩ A) w0)) := Lib.hid (fun w0 hb => rType_any A _ ⟨#[97, 116, 111, 109]⟩ w0 (HA.out.below hb) (by simp [ByteArray.size]))
                    generalize typeT ⟨#[97, 116, 111, 109]⟩ A = Q at *
                    clear hc
                    go_wp2_with fail
                    refine (HC1.out _ F2.out.b).mono ?_
                    clear a0 a1 a2 a3 e0 e1 e2 e3
                    rintro e w7 ⟨y, rfl, hy, hb7⟩
                    obtain ⟨ya, yc, rfl⟩ := hy.slice
                    have F8 := Lib.hid (F2.out.step hb7)
                    have Y8 : Hid (Beh w w7 Q (.slice ya Q.args.length yc)) := Lib.hid (Beh.of hy F2.out.z)
                    clear hb7 hy
                    obtain ⟨c0, c1, c2, c3⟩ : w7.cell? ⟨w.heap.size + 1, 0, none⟩ = some (.int .i64 0) ∧ w7.cell? ⟨w.heap.size + 1, 1, none⟩ = some (.int .i64 0) ∧ w7.cell? ⟨w.heap.size + 1, 2, none⟩ = some (.string ⟨#[]⟩) ∧ w7.cell? ⟨w.heap.size + 1, 3, none⟩ = some (.slice none 0 0) := F8.out.r.cells
                    obtain ⟨f0, f1, f2, f3⟩ := F8.out.r.froz
                    go_wp2_with fail
                    clear c0 c1 c2 c3 f0 f1 f2 f3
                    have F9 : Hid (Fr w ((((w7.setCell ⟨w.heap.size + 1, 0, none⟩ (.int .i64 Q.kind)).setCell ⟨w.heap.size + 1, 1, none⟩ (.int .i64 Q.num)).setCell ⟨w.heap.size + 1, 2, none⟩ (.string Q.name)).setCell ⟨w.heap.size + 1, 3, none⟩ (.slice ya Q.args.length yc)) t (.slice (some ⟨b, off, none⟩) 2 vc) Q (.slice ya Q.args.length yc)) := Lib.hid (F8.out.putR Q (.slice ya Q.args.length yc) _ rfl)
                    have Y9 : Hid (Beh w ((((w7.setCell ⟨w.heap.size + 1, 0, none⟩ (.int .i64 Q.kind)).setCell ⟨w.heap.size + 1, 1, none⟩ (.int .i64 Q.num)).setCell ⟨w.heap.size + 1, 2, none⟩ (.string Q.name)).setCell ⟨w.heap.size + 1, 3, none⟩ (.slice ya Q.args.length yc)) Q (.slice ya Q.args.length yc)) := Lib.hid (Beh.put Y8.out (by omega) (F8.out.r) _ _ _ _ _ rfl)
                    generalize ((((w7.setCell ⟨w.heap.size + 1, 0, none⟩ (.int .i64 Q.kind)).setCell ⟨w.heap.size + 1, 1, none⟩ (.int .i64 Q.num)).setCell ⟨w.heap.size + 1, 2, none⟩ (.string Q.name)).setCell ⟨w.heap.size + 1, 3, none⟩ (.slice ya Q.args.length yc)) = W9 at *
                    obtain ⟨k0, k1, k2, k3⟩ : W9.cell? ⟨w.heap.size + 1, 0, none⟩ = some (.int .i64 Q.kind) ∧ W9.cell? ⟨w.heap.size + 1, 1, none⟩ = some (.int .i64 Q.num) ∧ W9.cell? ⟨w.heap.size + 1, 2, none⟩ = some (.string Q.name) ∧ W9.cell? ⟨w.heap.size + 1, 3, none⟩ = some (.slice ya Q.args.length yc) := F9.out.r.cells
                    exact bodyPost_ret (v := .tuple #[.string ⟨#[]⟩, .int .i64 0, tv Q (.slice ya Q.args.length yc), .bool false]) (by simp [results, Try.results50, go_sem, k0, k1, k2, k3]) rfl (F9.out.chk2 Y9.out (.string ⟨#[]⟩) (.int .i64 0) false)
                  · have h9 : (A.kind != 2) = false := by simp [bne, ha2]
                    have hc : chkO A (A.kind == 2) = true := by unfold chkO; rw [VA.out, ha2]; simp [bne, ha]
                    have HBV3 : Hid (RB = arB D) := Lib.hid (by rw [HBV2.out, hc]; rfl)
                    have HOV3 : Hid (RO = arO D) := Lib.hid (by rw [HOV2.out, hc]; rfl)
                    clear HOV2 HBV2 hc
                    rcases Bool.eq_false_or_eq_true (D.kind == 1) with hd1 | hd1
                    rotate_left
                    · have hc : chkO D (D.kind == 1) = false := by unfold chkO; rw [hd1]; simp
                      obtain rfl : RO = false := by rw [HOV3.out]; unfold arO; rw [hc]; rfl
                      obtain rfl : RB = typeT ⟨#[105, 110, 116, 101, 103, 101, 114]⟩ D := by rw [HBV3.out]; unfold arB; rw [hc, hd1]; unfold chkB; rw [if_neg (by simp), if_pos VD.out, if_neg (by rw [hd]; simp), if_neg (by simp)]
                      obtain rfl : RS = ⟨#[]⟩ := by rw [HSV.out]; rfl
                      obtain rfl : RN = 0 := by rw [HNV.out]; rfl
                      have h10 : (D.kind != 1) = true := by simp [bne, hd1]
                      have HC1 : Hid (∀ w0, Below w.heap.size w w0 → Calls Try.prog 23 #[.string ⟨#[105, 110, 116, 101, 103, 101, 114]⟩, tv D (.slice u1 D.args.length k1)] w0 (MadeEnd (typeT ⟨#[105, 110, 116, 101, 103, 101, 114]⟩ D) w0)) := Lib.hid (fun w0 hb => rType_any D _ ⟨#[105, 110, 116, 101, 103, 101, 114]⟩ w0 (HD.out.below hb) (by simp [ByteArray.size]))
                      generalize typeT ⟨#[105, 110, 116, 101, 103, 101, 114]⟩ D = Q at *
                      clear hc
                      go_wp2_with fail
                      refine (HC1.out _ F2.out.b).mono ?_
                      clear a0 a1 a2 a3 e0 e1 e2 e3
                      rintro e w7 ⟨y, rfl, hy, hb7⟩
                      obtain ⟨ya, yc, rfl⟩ := hy.slice
                      have F8 := Lib.hid (F2.out.step hb7)
                      have Y8 : Hid (Beh w w7 Q (.slice ya Q.args.length yc)) := Lib.hid (Beh.of hy F2.out.z)
                      clear hb7 hy
                      obtain ⟨c0, c1, c2, c3⟩ : w7.cell? ⟨w.heap.size + 1, 0, none⟩ = some (.int .i64 0) ∧ w7.cell? ⟨w.heap.size + 1, 1, none⟩ = some (.int .i64 0) ∧ w7.cell? ⟨w.heap.size + 1, 2, none⟩ = some (.string ⟨#[]⟩) ∧ w7.cell? ⟨w.heap.size + 1, 3, none⟩ = some (.slice none 0 0) := F8.out.r.cells
                      obtain ⟨f0, f1, f2, f3⟩ := F8.out.r.froz
                      go_wp2_with fail
                      clear c0 c1 c2 c3 f0 f1 f2 f3
                      have F9 : Hid (Fr w ((((w7.setCell ⟨w.heap.size + 1, 0, none⟩ (.int .i64 Q.kind)).setCell ⟨w.heap.size + 1, 1, none⟩ (.int .i64 Q.num)).setCell ⟨w.heap.size + 1, 2, none⟩ (.string Q.name)).setCell ⟨w.heap.size + 1, 3, none⟩ (.slice ya Q.args.length yc)) t (.slice (some ⟨b, off, none⟩) 2 vc) Q (.slice ya Q.args.length yc)) := Lib.hid (F8.out.putR Q (.slice ya Q.args.length yc) _ rfl)
                      have Y9 : Hid (Beh w ((((w7.setCell ⟨w.heap.size + 1, 0, none⟩ (.int .i64 Q.kind)).setCell ⟨w.heap.size + 1, 1, none⟩ (.int .i64 Q.num)).setCell ⟨w.heap.size + 1, 2, none⟩ (.string Q.name)).setCell ⟨w.heap.size + 1, 3, none⟩ (.slice ya Q.args.length yc)) Q (.slice ya Q.args.length yc)) := Lib.hid (Beh.put Y8.out (by omega) (F8.out.r) _ _ _ _ _ rfl)
                      generalize ((((w7.setCell ⟨w.heap.size + 1, 0, none⟩ (.int .i64 Q.kind)).setCell ⟨w.heap.size + 1, 1, none⟩ (.int .i64 Q.num)).setCell ⟨w.heap.size + 1, 2, none⟩ (.string Q.name)).setCell ⟨w.heap.size + 1, 3, none⟩ (.slice ya Q.args.length yc)) = W9 at *
                      obtain ⟨k0, k1, k2, k3⟩ : W9.cell? ⟨w.heap.size + 1, 0, none⟩ = some (.int .i64 Q.kind) ∧ W9.cell? ⟨w.heap.size + 1, 1, none⟩ = some (.int .i64 Q.num) ∧ W9.cell? ⟨w.heap.size + 1, 2, none⟩ = some (.string Q.name) ∧ W9.cell? ⟨w.heap.size + 1, 3, none⟩ = some (.slice ya Q.args.length yc) := F9.out.r.cells
                      exact bodyPost_ret (v := .tuple #[.string ⟨#[]⟩, .int .i64 0, tv Q (.slice ya Q.args.length yc), .bool false]) (by simp [results, Try.results50, go_sem, k0, k1, k2, k3]) rfl (F9.out.chk2 Y9.out (.string ⟨#[]⟩) (.int .i64 0) false)
                    · have h10 : (D.kind != 1) = false := by simp [bne, hd1]
                      have hc : chkO D (D.kind == 1) = true := by unfold chkO; rw [VD.out, hd1]; simp [bne, hd]
                      obtain ⟨n, hn⟩ : ∃ n, D.num = n := ⟨_, rfl⟩
                      have hni := num_i64 HD.out
                      rw [hn] at hni
                      obtain ⟨hi1, hi2⟩ := hni
                      have HBV4 : Hid (RB = if n < 0 then withT D ⟨#[100, 111, 109, 97, 105, 110, 95, 101, 114, 114, 111, 114]⟩ [⟨#[110, 111, 116, 95, 108, 101, 115, 115, 95, 116, 104, 97, 110, 95, 122, 101, 114, 111]⟩] else if 8 < n then reprT ⟨#[109, 97, 120, 95, 97, 114, 105, 116, 121]⟩ else z0) := Lib.hid (by rw [HBV3.out]; unfold arB; rw [hc, hn, if_pos rfl])
                      have HOV4 : Hid (RO = decide (0 ≤ n ∧ n ≤ 8)) := Lib.hid (by rw [HOV3.out]; unfold arO; rw [hc, hn]; rfl)
                      have HNV4 : Hid (RN = if RO = true then n else 0) := Lib.hid (by rw [HNV.out, hn])
                      have HDC : Hid (∀ w0, Below w.heap.size w w0 → Calls Try.prog 24 #[.string ⟨#[110, 111, 116, 95, 108, 101, 115, 115, 95, 116, 104, 97, 110, 95, 122, 101, 114, 111]⟩, .agg #[.int .i64 D.kind, .int .i64 n, .string D.name, .slice u1 D.args.length k1]] w0 (MadeEnd (withT D ⟨#[100, 111, 109, 97, 105, 110, 95, 101, 114, 114, 111, 114]⟩ [⟨#[110, 111, 116, 95, 108, 101, 115, 115, 95, 116, 104, 97, 110, 95, 122, 101, 114, 111]⟩]) w0)) := Lib.hid (fun w0 hb => by have hh := rDomain_any D (.slice u1 D.args.length k1) ⟨#[110, 111, 116, 95, 108, 101, 115, 115, 95, 116, 104, 97, 110, 95, 122, 101, 114, 111]⟩ w0 (HD.out.below hb) (by simp [ByteArray.size]); simp only [tv] at hh; rw [hn] at hh; exact hh)
                      have HRC : Hid (∀ w0, Calls Try.prog 27 #[.string ⟨#[109, 97, 120, 95, 97, 114, 105, 116, 121]⟩] w0 (MadeEnd (reprT ⟨#[109, 97, 120, 95, 97, 114, 105, 116, 121]⟩) w0)) := Lib.hid (fun w0 => rRepresentation_any ⟨#[109, 97, 120, 95, 97, 114, 105, 116, 121]⟩ w0 (by simp [ByteArray.size]))
                      rw [hn] at e1
                      have HNQ := Lib.hid hn
                      clear hc HBV3 HOV3 HNV hn
                      rcases Int.lt_or_le n 0 with hlo | hlo
                      · have d1 : decide (n < 0) = true := by simpa using hlo
                        obtain rfl : RO = false := by rw [HOV4.out, decide_eq_false (by omega)]
                        obtain rfl : RB = withT D ⟨#[100, 111, 109, 97, 105, 110, 95, 101, 114, 114, 111, 114]⟩ [⟨#[110, 111, 116, 95, 108, 101, 115, 115, 95, 116, 104, 97, 110, 95, 122, 101, 114, 111]⟩] := by rw [HBV4.out, if_pos hlo]
                        obtain rfl : RS = ⟨#[]⟩ := by rw [HSV.out]; rfl
                        obtain rfl : RN = 0 := by rw [HNV4.out]; rfl
                        generalize withT D ⟨#[100, 111, 109, 97, 105, 110, 95, 101, 114, 114, 111, 114]⟩ [⟨#[110, 111, 116, 95, 108, 101, 115, 115, 95, 116, 104, 97, 110, 95, 122, 101, 114, 111]⟩] = Q at *
                        go_wp2_with fail
                        refine (HDC.out _ F2.out.b).mono ?_
                        clear a0 a1 a2 a3 e0 e1 e2 e3
                        rintro e w7 ⟨y, rfl, hy, hb7⟩
                        obtain ⟨ya, yc, rfl⟩ := hy.slice
                        have F8 := Lib.hid (F2.out.step hb7)
                        have Y8 : Hid (Beh w w7 Q (.slice ya Q.args.length yc)) := Lib.hid (Beh.of hy F2.out.z)
                        clear hb7 hy
                        obtain ⟨c0, c1, c2, c3⟩ : w7.cell? ⟨w.heap.size + 1, 0, none⟩ = some (.int .i64 0) ∧ w7.cell? ⟨w.heap.size + 1, 1, none⟩ = some (.int .i64 0) ∧ w7.cell? ⟨w.heap.size + 1, 2, none⟩ = some (.string ⟨#[]⟩) ∧ w7.cell? ⟨w.heap.size + 1, 3, none⟩ = some (.slice none 0 0) := F8.out.r.cells
                        obtain ⟨f0, f1, f2, f3⟩ := F8.out.r.froz
                        go_wp2_with fail
                        clear c0 c1 c2 c3 f0 f1 f2 f3
                        have F9 : Hid (Fr w ((((w7.setCell ⟨w.heap.size + 1, 0, none⟩ (.int .i64 Q.kind)).setCell ⟨w.heap.size + 1, 1, none⟩ (.int .i64 Q.num)).setCell ⟨w.heap.size + 1, 2, none⟩ (.string Q.name)).setCell ⟨w.heap.size + 1, 3, none⟩ (.slice ya Q.args.length yc)) t (.slice (some ⟨b, off, none⟩) 2 vc) Q (.slice ya Q.args.length yc)) := Lib.hid (F8.out.putR Q (.slice ya Q.args.length yc) _ rfl)
                        have Y9 : Hid (Beh w ((((w7.setCell ⟨w.heap.size + 1, 0, none⟩ (.int .i64 Q.kind)).setCell ⟨w.heap.size + 1, 1, none⟩ (.int .i64 Q.num)).setCell ⟨w.heap.size + 1, 2, none⟩ (.string Q.name)).setCell ⟨w.heap.size + 1, 3, none⟩ (.slice ya Q.args.length yc)) Q (.slice ya Q.args.length yc)) := Lib.hid (Beh.put Y8.out (by omega) (F8.out.r) _ _ _ _ _ rfl)
                        generalize ((((w7.setCell ⟨w.heap.size + 1, 0, none⟩ (.int .i64 Q.kind)).setCell ⟨w.heap.size + 1, 1, none⟩ (.int .i64 Q.num)).setCell ⟨w.heap.size + 1, 2, none⟩ (.string Q.name)).setCell ⟨w.heap.size + 1, 3, none⟩ (.slice ya Q.args.length yc)) = W9 at *
                        obtain ⟨k0, k1, k2, k3⟩ : W9.cell? ⟨w.heap.size + 1, 0, none⟩ = some (.int .i64 Q.kind) ∧ W9.cell? ⟨w.heap.size + 1, 1, none⟩ = some (.int .i64 Q.num) ∧ W9.cell? ⟨w.heap.size + 1, 2, none⟩ = some (.string Q.name) ∧ W9.cell? ⟨w.heap.size + 1, 3, none⟩ = some (.slice ya Q.args.length yc) := F9.out.r.cells
                        exact bodyPost_ret (v := .tuple #[.string ⟨#[]⟩, .int .i64 0, tv Q (.slice ya Q.args.length yc), .bool false]) (by simp [results, Try.results50, go_sem, k0, k1, k2, k3]) rfl (F9.out.chk2 Y9.out (.string ⟨#[]⟩) (.int .i64 0) false)
                      · have d1 : decide (n < 0) = false := by simp; omega
                        have d3 : ¬ n < 0 := by omega
                        by_cases hgt : 8 < n
                        · have d2 : decide (8 < n) = true := by simpa using hgt
                          obtain rfl : RO = false := by rw [HOV4.out, decide_eq_false (by omega)]
                          obtain rfl : RB = reprT ⟨#[109, 97, 120, 95, 97, 114, 105, 116, 121]⟩ := by rw [HBV4.out, if_neg d3, if_pos hgt]
                          obtain rfl : RS = ⟨#[]⟩ := by rw [HSV.out]; rfl
                          obtain rfl : RN = 0 := by rw [HNV4.out]; rfl
                          generalize reprT ⟨#[109, 97, 120, 95, 97, 114, 105, 116, 121]⟩ = Q at *
                          go_wp2_with fail
                          refine (HRC.out _).mono ?_
                          clear a0 a1 a2 a3 e0 e1 e2 e3
                          rintro e w7 ⟨y, rfl, hy, hb7⟩
                          obtain ⟨ya, yc, rfl⟩ := hy.slice
                          have F8 := Lib.hid (F2.out.step hb7)
                          have Y8 : Hid (Beh w w7 Q (.slice ya Q.args.length yc)) := Lib.hid (Beh.of hy F2.out.z)
                          clear hb7 hy
                          obtain ⟨c0, c1, c2, c3⟩ : w7.cell? ⟨w.heap.size + 1, 0, none⟩ = some (.int .i64 0) ∧ w7.cell? ⟨w.heap.size + 1, 1, none⟩ = some (.int .i64 0) ∧ w7.cell? ⟨w.heap.size + 1, 2, none⟩ = some (.string ⟨#[]⟩) ∧ w7.cell? ⟨w.heap.size + 1, 3, none⟩ = some (.slice none 0 0) := F8.out.r.cells
                          obtain ⟨f0, f1, f2, f3⟩ := F8.out.r.froz
                          go_wp2_with fail
                          clear c0 c1 c2 c3 f0 f1 f2 f3
                          have F9 : Hid (Fr w ((((w7.setCell ⟨w.heap.size + 1, 0, none⟩ (.int .i64 Q.kind)).setCell ⟨w.heap.size + 1, 1, none⟩ (.int .i64 Q.num)).setCell ⟨w.heap.size + 1, 2, none⟩ (.string Q.name)).setCell ⟨w.heap.size + 1, 3, none⟩ (.slice ya Q.args.length yc)) t (.slice (some ⟨b, off, none⟩) 2 vc) Q (.slice ya Q.args.length yc)) := Lib.hid (F8.out.putR Q (.slice ya Q.args.length yc) _ rfl)
                          have Y9 : Hid (Beh w ((((w7.setCell ⟨w.heap.size + 1, 0, none⟩ (.int .i64 Q.kind)).setCell ⟨w.heap.size + 1, 1, none⟩ (.int .i64 Q.num)).setCell ⟨w.heap.size + 1, 2, none⟩ (.string Q.name)).setCell ⟨w.heap.size + 1, 3, none⟩ (.slice ya Q.args.length yc)) Q (.slice ya Q.args.length yc)) := Lib.hid (Beh.put Y8.out (by omega) (F8.out.r) _ _ _ _ _ rfl)
                          generalize ((((w7.setCell ⟨w.heap.size + 1, 0, none⟩ (.int .i64 Q.kind)).setCell ⟨w.heap.size + 1, 1, none⟩ (.int .i64 Q.num)).setCell ⟨w.heap.size + 1, 2, none⟩ (.string Q.name)).setCell ⟨w.heap.size + 1, 3, none⟩ (.slice ya Q.args.length yc)) = W9 at *
                          obtain ⟨k0, k1, k2, k3⟩ : W9.cell? ⟨w.heap.size + 1, 0, none⟩ = some (.int .i64 Q.kind) ∧ W9.cell? ⟨w.heap.size + 1, 1, none⟩ = some (.int .i64 Q.num) ∧ W9.cell? ⟨w.heap.size + 1, 2, none⟩ = some (.string Q.name) ∧ W9.cell? ⟨w.heap.size + 1, 3, none⟩ = some (.slice ya Q.args.length yc) := F9.out.r.cells
                          exact bodyPost_ret (v := .tuple #[.string ⟨#[]⟩, .int .i64 0, tv Q (.slice ya Q.args.length yc), .bool false]) (by simp [results, Try.results50, go_sem, k0, k1, k2, k3]) rfl (F9.out.chk2 Y9.out (.string ⟨#[]⟩) (.int .i64 0) false)
                        · have d2 : decide (8 < n) = false := by simpa using hgt
                          obtain rfl : RO = true := by rw [HOV4.out, decide_eq_true (by omega)]
                          obtain rfl : RB = z0 := by rw [HBV4.out, if_neg d3, if_neg hgt]
                          obtain rfl : RS = A.name := by rw [HSV.out]; rfl
                          obtain rfl : n = RN := by rw [HNV4.out]; rfl
                          clear HOV4 HBV4 HSV HNV4 HDC HRC
                          obtain ⟨c0, c1, c2, c3⟩ : wc.cell? ⟨w.heap.size + 1, 0, none⟩ = some (.int .i64 0) ∧ wc.cell? ⟨w.heap.size + 1, 1, none⟩ = some (.int .i64 0) ∧ wc.cell? ⟨w.heap.size + 1, 2, none⟩ = some (.string ⟨#[]⟩) ∧ wc.cell? ⟨w.heap.size + 1, 3, none⟩ = some (.slice none 0 0) := F2.out.r.cells
                          obtain ⟨f0, f1, f2, f3⟩ := F2.out.r.froz
                          go_wp2_with fail
                          have FE : Hid (Fr w ((((wc.setCell ⟨w.heap.size + 1, 0, none⟩ (.int .i64 0)).setCell ⟨w.heap.size + 1, 1, none⟩ (.int .i64 0)).setCell ⟨w.heap.size + 1, 2, none⟩ (.string ⟨#[]⟩)).setCell ⟨w.heap.size + 1, 3, none⟩ (.slice none 0 0)).drew t (.slice (some ⟨b, off, none⟩) 2 vc) z0 (.slice none 0 0)) := Lib.hid (Fr.drew (F2.out.putR z0 (.slice none 0 0) _ rfl))
                          have HSX : ((((wc.setCell ⟨w.heap.size + 1, 0, none⟩ (.int .i64 0)).setCell ⟨w.heap.size + 1, 1, none⟩ (.int .i64 0)).setCell ⟨w.heap.size + 1, 2, none⟩ (.string ⟨#[]⟩)).setCell ⟨w.heap.size + 1, 3, none⟩ (.slice none 0 0)).cell? ⟨g6, 2, none⟩ = some (.string A.name) ∧ ((((wc.setCell ⟨w.heap.size + 1, 0, none⟩ (.int .i64 0)).setCell ⟨w.heap.size + 1, 1, none⟩ (.int .i64 0)).setCell ⟨w.heap.size + 1, 2, none⟩ (.string ⟨#[]⟩)).setCell ⟨w.heap.size + 1, 3, none⟩ (.slice none 0 0)).cell? ⟨g7, 1, none⟩ = some (.int .i64 n) := ⟨((G6.out.apart F2.out.r (by have := ZG.out; omega) _ _ _ _).cells).2.2.1, by rw [← HNQ.out]; exact ((G7.out.apart F2.out.r (by have := ZG.out; omega) _ _ _ _).cells).2.1⟩
                          go_region_held3 (fun w' => w'.cell? ⟨g6, 2, none⟩ = some (.string A.name) ∧ w'.cell? ⟨g7, 1, none⟩ = some (.int .i64 n))
                            (first | exact HSX | go_keep)
                            (fail)
                          go_wp2_with fail
                          generalize ((((wc.setCell ⟨w.heap.size + 1, 0, none⟩ (.int .i64 0)).setCell ⟨w.heap.size + 1, 1, none⟩ (.int .i64 0)).setCell ⟨w.heap.size + 1, 2, none⟩ (.string ⟨#[]⟩)).setCell ⟨w.heap.size + 1, 3, none⟩ (.slice none 0 0)).drew = WE at *
                          obtain ⟨k0', k1', k2', k3'⟩ : WE.cell? ⟨w.heap.size + 1, 0, none⟩ = some (.int .i64 0) ∧ WE.cell? ⟨w.heap.size + 1, 1, none⟩ = some (.int .i64 0) ∧ WE.cell? ⟨w.heap.size + 1, 2, none⟩ = some (.string ⟨#[]⟩) ∧ WE.cell? ⟨w.heap.size + 1, 3, none⟩ = some (.slice none 0 0) := FE.out.r.cells
                          exact bodyPost_ret (v := .tuple #[.string A.name, .int .i64 n, zv, .bool true]) (by simp [results, Try.results50, go_sem, k0', k1', k2', k3']) rfl (FE.out.chk2 (Beh.zero _ _) (.string A.name) (.int .i64 n) true)

end Go.Proofs.Yteilodihjhdngaa

/- The specification's IsCons, Elems and List. -/
namespace Go.Proofs.Yteilodihjhdngaa
open Go.RowKit Go.Proofs.HT

theorem wp_appL {ops : Array Oper} {rest : List Oper} {o : Oper} {a : Act} {Q : Exit → Act → World → Prop} (hgd : o.guard = none) (s x : Operand) (ho : o.op = .call { callee := .builtin .append, args := #[s, x], argTypes := #[22, 22] }) (w : World)
    (base n : Nat) (v : Value) (l m : List PV) (hs : a.eval s = v) (hown : Hid (w.ownsRow base 24 4 v n (flat l))) (ad : Addr) (k c : Nat) (hx : a.eval x = .slice (some ad) k c) (hk : m.length = k) (hk0 : 0 < k)
    (hm : Hid (∀ j u, (flat m)[j]? = some u → w.cell? (ad.add j) = some u)) (h1 : Hid (∀ p ∈ m, ∃ a c, p.2 = .slice a p.1.args.length c)) (hsz : n + k ≤ 1000000) (hbase : base ≤ w.heap.size)
    (h : ∀ g cap w', Hid (w'.ownsRow base 24 4 (.slice (some ⟨g, 0, none⟩) (n + k) cap) (n + k) (flat (l ++ m))) → Hid (Below base w w') → Hid (w.grownBy w' v.ownBlock) → Hid ((v.ownBlock = some g ∨ g = w.heap.size) ∧ g < w'.heap.size) → wpList Try.prog ops Q rest (a.put o.dst (.slice (some ⟨g, 0, none⟩) (n + k) cap)) w') : wpList Try.prog ops Q (o :: rest) a w := by
  obtain ⟨i0, hi0, hz0, hz1, hz2⟩ := info_parts info24
  refine wpList_append_lies w hgd s x 22 ho base 24 i0 _ 4 56 under22 hi0 hz0 hz1 hz2 rfl (by omega) v n (flat l) hs hown.out ad k c (flat m) hx (by rw [flat_length, hk]) hm.out (bflat_one m h1.out) hk0 (by simp only [maxLen]; omega) (by omega) hbase w.heap.size rfl ?_
  intro g cap w' h2 h3 h4 h5
  refine h g cap w' (Lib.hid ?_) (Lib.hid (grown_below hown.out h3 hbase)) (Lib.hid h3) (Lib.hid ⟨h4, h5⟩)
  rw [flat_append]; exact h2
/-- Terms that were cloned lie in blocks of their own, none of them the row's. -/
def Clones (base : Nat) (w : World) (v : Value) (l : List PV) : Prop := ∀ p ∈ l, OwnT (fun b => (base ≤ b ∧ b < w.heap.size) ∧ v.ownBlock ≠ some b) w p.1 p.2
theorem Clones.step {base n : Nat} {wr w5 w7 : World} {vo : Value} {lw : List PV} {t : Tm} {x : Value} {g cap k : Nat} {o : Obj} {xs : List Value} (h : Clones base wr vo lw) (hown : wr.ownsRow base 24 4 vo n xs) (hbs : base ≤ wr.heap.size) (h5 : Below wr.heap.size wr w5) (hx : OwnT (fun b => wr.heap.size ≤ b ∧ b < w5.heap.size) w5 t x)
    (hg : (w5.alloc o).grownBy w7 vo.ownBlock) (hgg : (vo.ownBlock = some g ∨ g = (w5.alloc o).heap.size) ∧ g < w7.heap.size) (hs7 : (w5.alloc o).heap.size ≤ w7.heap.size) (hblk : ∀ b, b < (w5.alloc o).heap.size → vo.ownBlock ≠ some b → w7.heap[b]? = (w5.alloc o).heap[b]?) : Clones base w7 (.slice (some ⟨g, 0, none⟩) k cap) (lw ++ [(t, x)]) := by
  have ha : (w5.alloc o).heap.size = w5.heap.size + 1 := by simp
  have hal : ∀ b, b < w5.heap.size → (w5.alloc o).heap[b]? = w5.heap[b]? := fun b hb => ((Below.refl w5.heap.size w5).alloc (Nat.le_refl _) o).block b hb
  have h5s := h5.size
  intro p hp
  rcases List.mem_append.1 hp with hp | hp
  · refine (h p hp).keep (fun b hS => ?_) (fun b hS _ => ⟨⟨hS.1.1, by omega⟩, ?_⟩)
    · exact (hblk b (by omega) hS.2).trans ((hal b (by omega)).trans (h5.block b hS.1.2))
    · intro h; simp only [Value.ownBlock, Option.some.injEq] at h
      subst h
      rcases hgg.1 with h1 | h1
      · exact hS.2 h1
      · omega
  · obtain rfl := List.mem_singleton.1 hp
    have hno : ∀ b, wr.heap.size ≤ b → vo.ownBlock ≠ some b := fun b hb h => by
      have := (hown.lt b h).2; omega
    refine hx.keep (fun b hS => ?_) (fun b hS _ => ⟨⟨by omega, by omega⟩, ?_⟩)
    · exact (hblk b (by omega) (hno b hS.1)).trans (hal b hS.2)
    · intro h; simp only [Value.ownBlock, Option.some.injEq] at h
      subst h
      rcases hgg.1 with h1 | h1
      · exact hno g hS.1 h1
      · omega


set_option maxHeartbeats 2000000 in
theorem risCons_any (t : Tm) (v : Value) (w : World) (h : LiesT w t v) : Calls Try.prog 89 #[tv t v] w fun e w' => e = .returned (.bool (isPairB t)) ∧ Below w.heap.size w w' := by
  rw [← isS_dot]
  obtain ⟨va, vc, rfl⟩ : ∃ a c, v = .slice a t.args.length c := h.slice
  obtain ⟨q, hq⟩ : ∃ q, isS t ⟨#[46]⟩ 2 = q := ⟨_, rfl⟩
  rw [hq]
  obtain ⟨m, hm⟩ : ∃ m, t.args.length = m := ⟨_, rfl⟩
  unfold isS at hq
  simp only [tv]
  rw [hm] at hq ⊢
  clear h hm
  obtain ⟨x2, h2⟩ : ∃ x, (t.name.data.toList == (⟨#[46]⟩ : ByteArray).data.toList) = x := ⟨_, rfl⟩
  obtain ⟨x3, h3⟩ : ∃ x, (m == 2) = x := ⟨_, rfl⟩
  have h5 : ((m : Int) == 2) = x3 := by rw [← h3, Bool.eq_iff_iff, beq_iff_eq, beq_iff_eq]; omega
  rw [h2, h3] at hq
  have h2 : (t.name.toList == [46]) = x2 := by rw [Lib.toList_data]; exact h2
  clear h3
  rcases Bool.eq_false_or_eq_true (t.kind == 3) with h1 | h1 <;> cases x2 <;> cases x3
  all_goals
    rw [h1] at hq
    simp at hq
    subst hq
    go_enter Try.func89, Try.ntmps89
    go_wp2_with fail
    go_ret
    exact ⟨rfl, al0 _ _⟩

def ElE (t : Tm) (w : World) (e : Ending) (w' : World) : Prop := ∃ x v, e = .returned (.tuple #[x, tv (elemsT t).2 v]) ∧ OwnT (fun b => w.heap.size ≤ b ∧ b < w'.heap.size) w' (.mk 3 0 ⟨#[]⟩ (elemsT t).1) x ∧ LiesT w' (elemsT t).2 v ∧ Below w.heap.size w w'
set_option maxHeartbeats 16000000 in
theorem rElems_any (t : Tm) (v : Value) (w : World) (h : LiesT w t v) (hv : validB t = true) : Calls Try.prog 75 #[tv t v] w (ElE t w) := by
  obtain ⟨va, vc, rfl⟩ : ∃ a k, v = .slice a t.args.length k := h.slice
  have F0 := Lib.hid (Fr.start w t (.slice va t.args.length vc))
  have H := Lib.hid h
  have HV := Lib.hid hv
  have HCN : Hid (cnt t ≤ 2000) := Lib.hid (cntM_valid hv).2
  clear h hv
  simp only [tv]
  go_enter Try.func75, Try.ntmps75
  go_wp2_with fail
  refine (valid_is t _ true HV.out _ (H.out.below F0.out.b)).mono ?_
  rintro e w1 ⟨rfl, hb1⟩
  have F1 := Lib.hid (F0.out.step hb1)
  clear hb1
  go_wp2_with fail
  go_loopw [4] (fun x wr => ∃ (l : List PV) (cur : Tm) (ca : Option Addr) (cc : Nat) (xa : Option Addr) (xc : Nat), x = .slice xa l.length xc ∧ l.length + cnt cur ≤ 2000 ∧ Hid (Fr w wr cur (.slice ca cur.args.length cc) z0 (.slice none 0 0)) ∧ Hid (LiesT w cur (.slice ca cur.args.length cc)) ∧ Hid (wr.ownsRow w1.heap.size 24 4 (.slice xa l.length xc) l.length (flat l)) ∧ Hid (Clones w1.heap.size wr (.slice xa l.length xc) l) ∧ Hid (w1.heap.size ≤ wr.heap.size) ∧ Hid (l.map Prod.fst ++ (elemsT cur).1 = (elemsT t).1 ∧ (elemsT cur).2 = (elemsT t).2)) (fun x _ => 2001 - (match x with | .slice _ n _ => n | _ => 0))
  case atStart => exact ⟨[], t, va, vc, none, 0, rfl, by have := HCN.out; simpa using this, F1, H, Lib.hid (World.ownsRow_nil _ _ _ _), Lib.hid (fun p hp => by cases hp), Lib.hid (Nat.le_refl _), Lib.hid ⟨by simp, rfl⟩⟩
  case round =>
    obtain ⟨l, cur, ca, cc, xa, xc, rfl, hcn, hfr, hli, hown, hcl, hbs, hel⟩ := hrel
    have hmm : l.length + 1 ≤ 2000 := by have := cnt_pos cur; omega
    have HIC : Hid (∀ w', Below w.heap.size w w' → Calls Try.prog 89 #[tv cur (.slice ca cur.args.length cc)] w' fun e w'' => e = .returned (.bool (isPairB cur)) ∧ Below w'.heap.size w' w'') := Lib.hid (fun w' hb => risCons_any cur _ w' (hli.out.below hb))
    rcases Bool.eq_false_or_eq_true (isPairB cur) with hp | hp
    · rw [hp] at HIC
      obtain ⟨k, x, y, rfl⟩ := pair_of hp
      clear hp
      obtain ⟨b, off, u0, k0, u1, k1, hva, hc2, hl0, hl1⟩ := two_of hli.out rfl
      subst hva
      have HCX : Hid (∀ w', Below w.heap.size w w' → (w'.cell? ⟨b, off, none⟩ = some (.int .i64 x.kind) ∧ w'.cell? ⟨b, off + 1, none⟩ = some (.int .i64 x.num) ∧ w'.cell? ⟨b, off + 2, none⟩ = some (.string x.name) ∧ w'.cell? ⟨b, off + 3, none⟩ = some (.slice u0 x.args.length k0)) ∧ (w'.cell? ⟨b, off + 4, none⟩ = some (.int .i64 y.kind) ∧ w'.cell? ⟨b, off + 4 + 1, none⟩ = some (.int .i64 y.num) ∧ w'.cell? ⟨b, off + 4 + 2, none⟩ = some (.string y.name) ∧ w'.cell? ⟨b, off + 4 + 3, none⟩ = some (.slice u1 y.args.length k1))) := Lib.hid (fun w' hb => hc2.below hb)
      have HX : Hid (LiesT w x (.slice u0 x.args.length k0)) := Lib.hid hl0
      have HY : Hid (LiesT w y (.slice u1 y.args.length k1)) := Lib.hid hl1
      have HCO : Hid (∀ w', Below w.heap.size w w' → Calls Try.prog 78 #[tv x (.slice u0 x.args.length k0)] w' (MadeEnd x w')) := Lib.hid (fun w' hb => copied_any x _ w' (HX.out.below hb) (by simp [cnt, cntL] at hcn; omega))
      have HRC : Hid (∀ w', Fr w w' (.mk 3 k dot [x, y]) (.slice (some ⟨b, off, none⟩) 2 cc) z0 (.slice none 0 0) → (w'.cell? ⟨w.heap.size, 0, none⟩ = some (.int .i64 3) ∧ w'.cell? ⟨w.heap.size, 1, none⟩ = some (.int .i64 k) ∧ w'.cell? ⟨w.heap.size, 2, none⟩ = some (.string dot) ∧ w'.cell? ⟨w.heap.size, 3, none⟩ = some (.slice (some ⟨b, off, none⟩) 2 cc)) ∧ (w'.frozen? ⟨w.heap.size, 0, none⟩ = false ∧ w'.frozen? ⟨w.heap.size, 1, none⟩ = false ∧ w'.frozen? ⟨w.heap.size, 2, none⟩ = false ∧ w'.frozen? ⟨w.heap.size, 3, none⟩ = false)) := Lib.hid (fun w' h => ⟨h.p.cells, h.p.froz⟩)
      have HFR : Hid (Fr w wr (.mk 3 k dot [x, y]) (.slice (some ⟨b, off, none⟩) 2 cc) z0 (.slice none 0 0)) := Lib.hid hfr.out
      have HIC2 : Hid (∀ w', Below w.heap.size w w' → Calls Try.prog 89 #[.agg #[.int .i64 3, .int .i64 k, .string dot, .slice (some ⟨b, off, none⟩) 2 cc]] w' fun e w'' => e = .returned (.bool true) ∧ Below w'.heap.size w' w'') := Lib.hid (fun w' hb => HIC.out w' hb)
      have HCN2 : Hid (l.length + 1 + cnt y ≤ 2000) := Lib.hid (by have := cnt_pos x; simp [cnt, cntL] at hcn; omega)
      obtain ⟨m, hm⟩ : ∃ m, l.length = m := ⟨_, rfl⟩
      have HM := Lib.hid hm
      rw [hm] at hown hcl HCN2 hmm ⊢
      clear hc2 hl0 hl1 hfr HIC hcn hm
      obtain ⟨⟨q0, q1, q2, q3⟩, g0, g1, g2, g3⟩ := HRC.out _ HFR.out
      go_wp2_with fail
      refine (HIC2.out _ HFR.out.b).mono ?_
      rintro e w5 ⟨rfl, hb5⟩
      have F5 := Lib.hid (HFR.out.step hb5)
      have B5 := Lib.hid hb5
      clear q0 q1 q2 q3 g0 g1 g2 g3 hb5
      obtain ⟨⟨q0, q1, q2, q3⟩, g0, g1, g2, g3⟩ := HRC.out _ F5.out
      obtain ⟨⟨x0, x1, x2, x3⟩, y0, y1, y2, y3⟩ := HCX.out _ F5.out.b
      go_wp2_with fail
      refine (HCO.out _ F5.out.b).mono ?_
      rintro e w6 ⟨z, rfl, hz, hb6⟩
      obtain ⟨za, zc, rfl⟩ := hz.slice
      have F6 := Lib.hid (F5.out.step hb6)
      have B6 : Hid (Below wr.heap.size wr w6) := Lib.hid (B5.out.trans (hb6.mono B5.out.size))
      have Z6 : Hid (OwnT (fun b => wr.heap.size ≤ b ∧ b < w6.heap.size) w6 x (.slice za x.args.length zc)) := Lib.hid (hz.keep (fun _ _ => rfl) (fun b hb _ => ⟨by have := B5.out.size; omega, hb.2⟩))
      clear hz hb6 q0 q1 q2 q3 g0 g1 g2 g3 x0 x1 x2 x3 y0 y1 y2 y3
      have HO1 : Hid ((w6.alloc (.cells #[.int .i64 x.kind, .int .i64 x.num, .string x.name, .slice za x.args.length zc] 24)).ownsRow w1.heap.size 24 4 (.slice xa m xc) m (flat l)) := Lib.hid ((HT.own_below hown.out B6.out).alloc _)
      have HRN := row_one w6 x (.slice za x.args.length zc)
      have HV1 := one_slice x za zc
      have hbase : w1.heap.size ≤ (w6.alloc (.cells #[.int .i64 x.kind, .int .i64 x.num, .string x.name, .slice za x.args.length zc] 24)).heap.size := by have h1 := hbs.out; have h2 := B6.out.size; have h3 := (al0 w6 (.cells #[.int .i64 x.kind, .int .i64 x.num, .string x.name, .slice za x.args.length zc] 24)).size; omega
      go_wp2_with (at_builtin; refine wp_appL rfl _ _ rfl _ w1.heap.size m (.slice xa m xc) l [(x, .slice za x.args.length zc)] rfl HO1 ⟨w6.heap.size, 0, none⟩ 1 1 rfl rfl (by omega) HRN HV1 (by omega) hbase ?_; intro g cap w7 hown7 hb7 hg7 hgg7; have F7 : Hid (Fr w w7 (.mk 3 k dot [x, y]) (.slice (some ⟨b, off, none⟩) 2 cc) z0 (.slice none 0 0)) := Lib.hid ((F6.out.step (al0 _ _)).stepB hb7.out F1.out.z hbase); obtain ⟨⟨v0, v1, v2, v3⟩, h0, h1, h2, h3⟩ := HRC.out _ F7.out; obtain ⟨⟨v4, v5, v6, v7⟩, v8, v9, v10, v11⟩ := HCX.out _ F7.out.b)
      go_roundw
      case rel =>
        have FP := F7.out.putP y (.slice u1 y.args.length k1) _ rfl
        have fo := four F7.out.p (.int .i64 y.kind) (.int .i64 y.num) (.string y.name) (.slice u1 y.args.length k1)
        have hml : (l ++ [((x, .slice za x.args.length zc) : PV)]).length = m + 1 := by simp; exact HM.out
        have hs7 := hg7.out.size
        have hst := hcl.out.step hown.out hbs.out B6.out Z6.out hg7.out hgg7.out hs7 (fun b h1 h2 => hg7.out.block b h1 (fun h => h2 h.symm)) (k := m + 1) (cap := cap)
        have hz1 := F1.out.z
        refine ⟨l ++ [(x, .slice za x.args.length zc)], y, u1, k1, some ⟨g, 0, none⟩, cap, by rw [hml], by rw [hml]; exact HCN2.out, Lib.hid FP, HY, Lib.hid ?_, Lib.hid ?_, Lib.hid ?_, Lib.hid ?_⟩
        · rw [hml]
          exact ownsRow_at hown7.out (fun g' hg' => fo.2.1 g' (by have := (hown7.out.lt g' hg').1; omega))
        · rw [hml]
          intro p hp
          exact (hst p hp).keep (fun c hc => fo.2.1 c (by have := hc.1.1; omega)) (fun c hc _ => ⟨⟨hc.1.1, by rw [fo.2.2.1]; exact hc.1.2⟩, hc.2⟩)
        · rw [fo.2.2.1]; have h1 := hbs.out; have h2 := B6.out.size; simp at hs7; omega
        · have h := hel.out
          rw [elemsT_pair] at h
          exact ⟨by rw [← h.1]; simp, h.2⟩
      case measure => simp; omega
    · rw [hp] at HIC
      have e2 : (elemsT t).2 = cur := by rw [← hel.out.2, elemsT_not cur hp]
      have e1 : (elemsT t).1 = l.map Prod.fst := by rw [← hel.out.1, elemsT_not cur hp]; simp
      have HCO : Hid (∀ w', Below w.heap.size w w' → Calls Try.prog 78 #[tv cur (.slice ca cur.args.length cc)] w' (MadeEnd cur w')) := Lib.hid (fun w' hb => copied_any cur _ w' (hli.out.below hb) (by omega))
      have HE : Hid ((elemsT t).2 = cur ∧ (elemsT t).1 = l.map Prod.fst) := Lib.hid ⟨e2, e1⟩
      obtain ⟨m, hm⟩ : ∃ m, l.length = m := ⟨_, rfl⟩
      have HM := Lib.hid hm
      rw [hm] at hown hcl ⊢
      clear hp e1 e2 hcn hm
      obtain ⟨q0, q1, q2, q3⟩ := hfr.out.p.cells
      go_wp2_with fail
      refine (HIC.out _ hfr.out.b).mono ?_
      rintro e w5 ⟨rfl, hb5⟩
      have F5 := Lib.hid (hfr.out.step hb5)
      have B5 := Lib.hid hb5
      clear q0 q1 q2 q3 hb5
      obtain ⟨q0, q1, q2, q3⟩ := F5.out.p.cells
      go_wp2_with fail
      refine (HCO.out _ F5.out.b).mono ?_
      rintro e w6 ⟨z, rfl, hz, hb6⟩
      obtain ⟨ya, yc, rfl⟩ := hz.slice
      have F6 := Lib.hid (F5.out.step hb6)
      have B6 : Hid (Below wr.heap.size wr w6) := Lib.hid (B5.out.trans (hb6.mono B5.out.size))
      have Z6 : Hid (Beh w w6 cur (.slice ya cur.args.length yc)) := Lib.hid (Beh.of hz F5.out.z)
      have O6 := Lib.hid (HT.own_below hown.out B6.out)
      have C6 : Hid (∀ p ∈ l, OwnT (fun b => w1.heap.size ≤ b ∧ b < w6.heap.size) w6 p.1 p.2) := Lib.hid (fun p hp => (hcl.out p hp).keep (fun b hb => B6.out.block b hb.1.2) (fun b hb _ => ⟨hb.1.1, by have := B6.out.size; have := hb.1.2; omega⟩))
      clear hz hb6 q0 q1 q2 q3
      obtain ⟨c0, c1, c2, c3⟩ : w6.cell? ⟨w.heap.size + 1, 0, none⟩ = some (.int .i64 0) ∧ w6.cell? ⟨w.heap.size + 1, 1, none⟩ = some (.int .i64 0) ∧ w6.cell? ⟨w.heap.size + 1, 2, none⟩ = some (.string ⟨#[]⟩) ∧ w6.cell? ⟨w.heap.size + 1, 3, none⟩ = some (.slice none 0 0) := F6.out.r.cells
      obtain ⟨f0, f1, f2, f3⟩ := F6.out.r.froz
      go_wp2_with fail
      clear c0 c1 c2 c3 f0 f1 f2 f3
      have FE : Hid (Fr w ((((w6.setCell ⟨w.heap.size + 1, 0, none⟩ (.int .i64 cur.kind)).setCell ⟨w.heap.size + 1, 1, none⟩ (.int .i64 cur.num)).setCell ⟨w.heap.size + 1, 2, none⟩ (.string cur.name)).setCell ⟨w.heap.size + 1, 3, none⟩ (.slice ya cur.args.length yc)) cur (.slice ca cur.args.length cc) cur (.slice ya cur.args.length yc)) := Lib.hid (F6.out.putR cur (.slice ya cur.args.length yc) _ rfl)
      have YE : Hid (Beh w ((((w6.setCell ⟨w.heap.size + 1, 0, none⟩ (.int .i64 cur.kind)).setCell ⟨w.heap.size + 1, 1, none⟩ (.int .i64 cur.num)).setCell ⟨w.heap.size + 1, 2, none⟩ (.string cur.name)).setCell ⟨w.heap.size + 1, 3, none⟩ (.slice ya cur.args.length yc)) cur (.slice ya cur.args.length yc)) := Lib.hid (Beh.put Z6.out (by omega) F6.out.r _ _ _ _ _ rfl)
      have LE : Hid (OwnT (fun b => w.heap.size ≤ b ∧ b < ((((w6.setCell ⟨w.heap.size + 1, 0, none⟩ (.int .i64 cur.kind)).setCell ⟨w.heap.size + 1, 1, none⟩ (.int .i64 cur.num)).setCell ⟨w.heap.size + 1, 2, none⟩ (.string cur.name)).setCell ⟨w.heap.size + 1, 3, none⟩ (.slice ya cur.args.length yc)).heap.size) ((((w6.setCell ⟨w.heap.size + 1, 0, none⟩ (.int .i64 cur.kind)).setCell ⟨w.heap.size + 1, 1, none⟩ (.int .i64 cur.num)).setCell ⟨w.heap.size + 1, 2, none⟩ (.string cur.name)).setCell ⟨w.heap.size + 1, 3, none⟩ (.slice ya cur.args.length yc)) (.mk 3 0 ⟨#[]⟩ (l.map Prod.fst)) (.slice xa m xc)) := Lib.hid (by
        have fo := four F6.out.r (.int .i64 cur.kind) (.int .i64 cur.num) (.string cur.name) (.slice ya cur.args.length yc)
        have hz1 := F1.out.z
        have hor := ownsRow_at O6.out (fun g' hg' => fo.2.1 g' (by have := (O6.out.lt g' hg').1; omega))
        exact OwnT.of_row ⟨by omega, by omega⟩ ⟨by omega, by omega⟩ (by simp [ByteArray.size]) HM.out.symm hor (fun b hb => by have h1 := (O6.out.lt b hb); rw [fo.2.2.1]; omega) (fun p hp => (C6.out p hp).keep (fun c hc => fo.2.1 c (by have := hc.1; omega)) (fun c hc _ => by rw [fo.2.2.1]; have := hc.1; have := hc.2; omega)))
      generalize ((((w6.setCell ⟨w.heap.size + 1, 0, none⟩ (.int .i64 cur.kind)).setCell ⟨w.heap.size + 1, 1, none⟩ (.int .i64 cur.num)).setCell ⟨w.heap.size + 1, 2, none⟩ (.string cur.name)).setCell ⟨w.heap.size + 1, 3, none⟩ (.slice ya cur.args.length yc)) = WE at *
      obtain ⟨k0, k1, k2, k3⟩ : WE.cell? ⟨w.heap.size + 1, 0, none⟩ = some (.int .i64 cur.kind) ∧ WE.cell? ⟨w.heap.size + 1, 1, none⟩ = some (.int .i64 cur.num) ∧ WE.cell? ⟨w.heap.size + 1, 2, none⟩ = some (.string cur.name) ∧ WE.cell? ⟨w.heap.size + 1, 3, none⟩ = some (.slice ya cur.args.length yc) := FE.out.r.cells
      exact bodyPost_ret (v := .tuple #[.slice xa m xc, tv cur (.slice ya cur.args.length yc)]) (by simp [results, Try.results75, go_sem, k0, k1, k2, k3]) rfl ⟨_, _, by rw [HE.out.1], by rw [HE.out.2]; exact LE.out, by rw [HE.out.1]; exact OwnT.lies _ _ YE.out, FE.out.b⟩

end Go.Proofs.Yteilodihjhdngaa
