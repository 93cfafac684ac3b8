/- The program's Char, Code and arityOf. -/
import Derived.Test.YteilodihjhdngaaB2
namespace Go.Proofs.Yteilodihjhdngaa
open Go.RowKit Go.Proofs.HT

/-- The ball of a number that is not a character's; of one that is no arity. -/
def reprT (s : ByteArray) : Tm := vz (errT (.mk 3 0 ⟨#[114, 101, 112, 114, 101, 115, 101, 110, 116, 97, 116, 105, 111, 110, 95, 101, 114, 114, 111, 114]⟩ [atmT s]))
def codeB (t : Tm) : Tm := if chkO t (t.kind == 1) = true then (if 0 ≤ t.num ∧ t.num ≤ 255 then z0 else reprT ⟨#[99, 104, 97, 114, 97, 99, 116, 101, 114, 95, 99, 111, 100, 101]⟩) else chkB t ⟨#[105, 110, 116, 101, 103, 101, 114]⟩ (t.kind == 1)
def codeO (t : Tm) : Bool := chkO t (t.kind == 1) && decide (0 ≤ t.num ∧ t.num ≤ 255)
def codeN (t : Tm) : Int := if codeO t = true then t.num else 0
def arB (t : Tm) : Tm := if chkO t (t.kind == 1) = true then (if t.num < 0 then withT t ⟨#[100, 111, 109, 97, 105, 110, 95, 101, 114, 114, 111, 114]⟩ [⟨#[110, 111, 116, 95, 108, 101, 115, 115, 95, 116, 104, 97, 110, 95, 122, 101, 114, 111]⟩] else if 8 < t.num then reprT ⟨#[109, 97, 120, 95, 97, 114, 105, 116, 121]⟩ else z0) else chkB t ⟨#[105, 110, 116, 101, 103, 101, 114]⟩ (t.kind == 1)
def arO (t : Tm) : Bool := chkO t (t.kind == 1) && decide (0 ≤ t.num ∧ t.num ≤ 8)
def arN (t : Tm) : Int := if arO t = true then t.num else 0
theorem num_i64 {w : World} {t : Tm} {v : Value} (h : LiesT w t v) : I64 t.num := by cases t; unfold LiesT at h; exact h.2.1

set_option maxHeartbeats 8000000 in
theorem Code_any (t : Tm) (v : Value) (w : World) (h : LiesT w t v) : Calls Try.prog 47 #[tv t v] w (Chk1 (.int .i64 (codeN t)) (codeB t) (codeO t) w) := by
  obtain ⟨va, vc, rfl⟩ : ∃ a k, v = .slice a t.args.length k := h.slice
  have F0 := Lib.hid (Fr.start w t (.slice va t.args.length vc))
  have HCI := Lib.hid (bInt_any t _ _ (h.below F0.out.b))
  have HI := num_i64 h
  have H := Lib.hid h
  cases ho : chkO t (t.kind == 1)
  · have e1 : codeO t = false := by unfold codeO; rw [ho]; rfl
    have e2 : codeN t = 0 := by unfold codeN; rw [e1]; rfl
    have e3 : codeB t = chkB t ⟨#[105, 110, 116, 101, 103, 101, 114]⟩ (t.kind == 1) := by unfold codeB; rw [ho]; rfl
    have e4 : intN t = 0 := by unfold intN; rw [ho]; rfl
    rw [e1, e2, e3]
    rw [ho, e4] at HCI
    generalize chkB t ⟨#[105, 110, 116, 101, 103, 101, 114]⟩ (t.kind == 1) = Q at *
    clear h ho e1 e2 e3 e4 H
    simp only [tv]
    go_enter Try.func47, Try.ntmps47
    go_wp2_with fail
    refine HCI.out.mono ?_
    rintro e w7 ⟨y, rfl, hy, hb7⟩
    obtain ⟨ya, yc, rfl⟩ := hy.slice
    have F8 := Lib.hid (F0.out.step hb7)
    have Y8 : Hid (Beh w w7 Q (.slice ya Q.args.length yc)) := Lib.hid (Beh.of hy F0.out.z)
    clear hb7 hy
    obtain ⟨c0, c1, c2, c3⟩ : w7.cell? ⟨w.heap.size + 1, 0, none⟩ = some (.int .i64 0) ∧ w7.cell? ⟨w.heap.size + 1, 1, none⟩ = some (.int .i64 0) ∧ w7.cell? ⟨w.heap.size + 1, 2, none⟩ = some (.string ⟨#[]⟩) ∧ w7.cell? ⟨w.heap.size + 1, 3, none⟩ = some (.slice none 0 0) := F8.out.r.cells
    obtain ⟨f0, f1, f2, f3⟩ := F8.out.r.froz
    go_wp2_with fail
    clear c0 c1 c2 c3 f0 f1 f2 f3
    have F9 : Hid (Fr w ((((w7.setCell ⟨w.heap.size + 1, 0, none⟩ (.int .i64 Q.kind)).setCell ⟨w.heap.size + 1, 1, none⟩ (.int .i64 Q.num)).setCell ⟨w.heap.size + 1, 2, none⟩ (.string Q.name)).setCell ⟨w.heap.size + 1, 3, none⟩ (.slice ya Q.args.length yc)) t (.slice va t.args.length vc) Q (.slice ya Q.args.length yc)) := Lib.hid (F8.out.putR Q (.slice ya Q.args.length yc) _ rfl)
    have Y9 : Hid (Beh w ((((w7.setCell ⟨w.heap.size + 1, 0, none⟩ (.int .i64 Q.kind)).setCell ⟨w.heap.size + 1, 1, none⟩ (.int .i64 Q.num)).setCell ⟨w.heap.size + 1, 2, none⟩ (.string Q.name)).setCell ⟨w.heap.size + 1, 3, none⟩ (.slice ya Q.args.length yc)) Q (.slice ya Q.args.length yc)) := Lib.hid (Beh.put Y8.out (by omega) (F8.out.r) _ _ _ _ _ rfl)
    generalize ((((w7.setCell ⟨w.heap.size + 1, 0, none⟩ (.int .i64 Q.kind)).setCell ⟨w.heap.size + 1, 1, none⟩ (.int .i64 Q.num)).setCell ⟨w.heap.size + 1, 2, none⟩ (.string Q.name)).setCell ⟨w.heap.size + 1, 3, none⟩ (.slice ya Q.args.length yc)) = W9 at *
    obtain ⟨c0, c1, c2, c3⟩ := F9.out.r.cells
    obtain ⟨f0, f1, f2, f3⟩ := F9.out.r.froz
    have FE : Hid (Fr w ((((W9.setCell ⟨w.heap.size + 1, 0, none⟩ (.int .i64 Q.kind)).setCell ⟨w.heap.size + 1, 1, none⟩ (.int .i64 Q.num)).setCell ⟨w.heap.size + 1, 2, none⟩ (.string Q.name)).setCell ⟨w.heap.size + 1, 3, none⟩ (.slice ya Q.args.length yc)).drew t (.slice va t.args.length vc) Q (.slice ya Q.args.length yc)) := Lib.hid (Fr.drew (F9.out.putR Q (.slice ya Q.args.length yc) _ rfl))
    have YE : Hid (Beh w ((((W9.setCell ⟨w.heap.size + 1, 0, none⟩ (.int .i64 Q.kind)).setCell ⟨w.heap.size + 1, 1, none⟩ (.int .i64 Q.num)).setCell ⟨w.heap.size + 1, 2, none⟩ (.string Q.name)).setCell ⟨w.heap.size + 1, 3, none⟩ (.slice ya Q.args.length yc)).drew Q (.slice ya Q.args.length yc)) := Lib.hid (Beh.step (Beh.put Y9.out (by omega) F9.out.r _ _ _ _ _ rfl) (Below.refl _ _).drew)
    have HSX := FE.out.r.cells
    go_region_held3 (fun w' => w'.cell? ⟨w.heap.size + 1, 0, none⟩ = some (.int .i64 Q.kind) ∧ w'.cell? ⟨w.heap.size + 1, 1, none⟩ = some (.int .i64 Q.num) ∧ w'.cell? ⟨w.heap.size + 1, 2, none⟩ = some (.string Q.name) ∧ w'.cell? ⟨w.heap.size + 1, 3, none⟩ = some (.slice ya Q.args.length yc))
      (first | exact HSX | go_keep)
      (fail)
    go_wp2_with fail
    clear c0 c1 c2 c3 f0 f1 f2 f3 HSX
    generalize ((((W9.setCell ⟨w.heap.size + 1, 0, none⟩ (.int .i64 Q.kind)).setCell ⟨w.heap.size + 1, 1, none⟩ (.int .i64 Q.num)).setCell ⟨w.heap.size + 1, 2, none⟩ (.string Q.name)).setCell ⟨w.heap.size + 1, 3, none⟩ (.slice ya Q.args.length yc)).drew = WE at *
    obtain ⟨k0, k1, k2, k3⟩ : WE.cell? ⟨w.heap.size + 1, 0, none⟩ = some (.int .i64 Q.kind) ∧ WE.cell? ⟨w.heap.size + 1, 1, none⟩ = some (.int .i64 Q.num) ∧ WE.cell? ⟨w.heap.size + 1, 2, none⟩ = some (.string Q.name) ∧ WE.cell? ⟨w.heap.size + 1, 3, none⟩ = some (.slice ya Q.args.length yc) := FE.out.r.cells
    exact bodyPost_ret (v := .tuple #[.int .i64 0, tv Q (.slice ya Q.args.length yc), .bool false]) (by simp [results, Try.results47, go_sem, k0, k1, k2, k3]) rfl (FE.out.chk1 YE.out (.int .i64 0) false)
  · have e4 : intN t = t.num := by unfold intN; rw [ho]; rfl
    have hB := chkB_ok (kd := ⟨#[105, 110, 116, 101, 103, 101, 114]⟩) ho
    rw [ho, e4, hB] at HCI
    obtain ⟨n, hn⟩ : ∃ n, t.num = n := ⟨_, rfl⟩
    obtain ⟨Q, hQ⟩ : ∃ Q, z0 = Q := ⟨_, rfl⟩
    simp only [tv] at HCI
    rw [hn, hQ] at HCI
    rw [hn] at HI
    obtain ⟨hi1, hi2⟩ := HI
    have F0 : Hid (Fr w ((w.alloc (.cells #[.int .i64 t.kind, .int .i64 n, .string t.name, .slice va t.args.length vc] 24)).alloc (.cells #[.int .i64 0, .int .i64 0, .string ⟨#[]⟩, .slice none 0 0] 24)) t (.slice va t.args.length vc) z0 (.slice none 0 0)) := Lib.hid (by rw [← hn]; exact F0.out)
    by_cases hr : 0 ≤ n ∧ n ≤ 255
    · have e1 : codeO t = true := by unfold codeO; rw [ho, hn, decide_eq_true hr]; rfl
      have e2 : codeN t = n := by unfold codeN; rw [e1, ← hn]; rfl
      have e3 : codeB t = z0 := by unfold codeB; rw [ho, hn, if_pos rfl, if_pos hr]
      rw [e1, e2, e3]
      have d1 : decide (n < 0) = false := by simp; omega
      have d2 : decide (255 < n) = false := by simp; omega
      have d3 : ¬ n < 0 := by omega
      have d4 : ¬ 255 < n := by omega
      have HN := Lib.hid hn
      clear h ho e1 e2 e3 e4 hB hQ H hr
      simp only [tv]
      rw [hn]
      clear hn
      go_enter Try.func47, Try.ntmps47
      go_wp2_with fail
      refine HCI.out.mono ?_
      rintro e w7 ⟨y, rfl, hy, hb7⟩
      obtain ⟨ya, yc, rfl⟩ := hy.slice
      have F8 := Lib.hid (F0.out.step hb7)
      have Y8 : Hid (Beh w w7 Q (.slice ya Q.args.length yc)) := Lib.hid (Beh.of hy F0.out.z)
      clear hb7 hy
      obtain ⟨p0, p1, p2, p3⟩ := F8.out.p.cells
      obtain ⟨c0, c1, c2, c3⟩ : w7.cell? ⟨w.heap.size + 1, 0, none⟩ = some (.int .i64 0) ∧ w7.cell? ⟨w.heap.size + 1, 1, none⟩ = some (.int .i64 0) ∧ w7.cell? ⟨w.heap.size + 1, 2, none⟩ = some (.string ⟨#[]⟩) ∧ w7.cell? ⟨w.heap.size + 1, 3, none⟩ = some (.slice none 0 0) := F8.out.r.cells
      obtain ⟨f0, f1, f2, f3⟩ := F8.out.r.froz
      go_wp2_with fail
      clear c0 c1 c2 c3 f0 f1 f2 f3
      clear p0 p1 p2 p3
      have F9 : Hid (Fr w ((((((((w7.setCell ⟨w.heap.size + 1, 0, none⟩ (.int .i64 Q.kind)).setCell ⟨w.heap.size + 1, 1, none⟩ (.int .i64 Q.num)).setCell ⟨w.heap.size + 1, 2, none⟩ (.string Q.name)).setCell ⟨w.heap.size + 1, 3, none⟩ (.slice ya Q.args.length yc)).setCell ⟨w.heap.size + 1, 0, none⟩ (.int .i64 0)).setCell ⟨w.heap.size + 1, 1, none⟩ (.int .i64 0)).setCell ⟨w.heap.size + 1, 2, none⟩ (.string ⟨#[]⟩)).setCell ⟨w.heap.size + 1, 3, none⟩ (.slice none 0 0)) t (.slice va t.args.length vc) z0 (.slice none 0 0)) := Lib.hid ((F8.out.putR Q (.slice ya Q.args.length yc) _ rfl).putR z0 (.slice none 0 0) _ rfl)
      generalize ((((((((w7.setCell ⟨w.heap.size + 1, 0, none⟩ (.int .i64 Q.kind)).setCell ⟨w.heap.size + 1, 1, none⟩ (.int .i64 Q.num)).setCell ⟨w.heap.size + 1, 2, none⟩ (.string Q.name)).setCell ⟨w.heap.size + 1, 3, none⟩ (.slice ya Q.args.length yc)).setCell ⟨w.heap.size + 1, 0, none⟩ (.int .i64 0)).setCell ⟨w.heap.size + 1, 1, none⟩ (.int .i64 0)).setCell ⟨w.heap.size + 1, 2, none⟩ (.string ⟨#[]⟩)).setCell ⟨w.heap.size + 1, 3, none⟩ (.slice none 0 0)) = WZ at *
      obtain ⟨k0, k1, k2, k3⟩ : WZ.cell? ⟨w.heap.size + 1, 0, none⟩ = some (.int .i64 0) ∧ WZ.cell? ⟨w.heap.size + 1, 1, none⟩ = some (.int .i64 0) ∧ WZ.cell? ⟨w.heap.size + 1, 2, none⟩ = some (.string ⟨#[]⟩) ∧ WZ.cell? ⟨w.heap.size + 1, 3, none⟩ = some (.slice none 0 0) := F9.out.r.cells
      exact bodyPost_ret (v := .tuple #[.int .i64 n, zv, .bool true]) (by simp [results, Try.results47, go_sem, k0, k1, k2, k3]) rfl (F9.out.chk1 (Beh.zero _ _) (.int .i64 n) true)
    · have e1 : codeO t = false := by unfold codeO; rw [ho, hn, decide_eq_false hr]; rfl
      have e2 : codeN t = 0 := by unfold codeN; rw [e1]; rfl
      have e3 : codeB t = reprT ⟨#[99, 104, 97, 114, 97, 99, 116, 101, 114, 95, 99, 111, 100, 101]⟩ := by unfold codeB; rw [ho, hn, if_pos rfl, if_neg hr]
      rw [e1, e2, e3]
      have HR : Hid (∀ w0, Calls Try.prog 18 #[.string ⟨#[99, 104, 97, 114, 97, 99, 116, 101, 114, 95, 99, 111, 100, 101]⟩] w0 (MadeEnd (reprT ⟨#[99, 104, 97, 114, 97, 99, 116, 101, 114, 95, 99, 111, 100, 101]⟩) w0)) := Lib.hid (fun w0 => Representation_any ⟨#[99, 104, 97, 114, 97, 99, 116, 101, 114, 95, 99, 111, 100, 101]⟩ w0 (by simp [ByteArray.size]))
      generalize reprT ⟨#[99, 104, 97, 114, 97, 99, 116, 101, 114, 95, 99, 111, 100, 101]⟩ = R at *
      have HN := Lib.hid hn
      clear h ho e1 e2 e3 e4 hB hQ H
      simp only [tv]
      rw [hn]
      clear hn
      rcases Int.lt_or_le n 0 with hlo | hlo
      · have d1 : decide (n < 0) = true := by simpa using hlo
        clear hr
        go_enter Try.func47, Try.ntmps47
        go_wp2_with fail
        refine HCI.out.mono ?_
        rintro e w7 ⟨y, rfl, hy, hb7⟩
        obtain ⟨ya, yc, rfl⟩ := hy.slice
        have F8 := Lib.hid (F0.out.step hb7)
        have Y8 : Hid (Beh w w7 Q (.slice ya Q.args.length yc)) := Lib.hid (Beh.of hy F0.out.z)
        clear hb7 hy
        obtain ⟨c0, c1, c2, c3⟩ : w7.cell? ⟨w.heap.size + 1, 0, none⟩ = some (.int .i64 0) ∧ w7.cell? ⟨w.heap.size + 1, 1, none⟩ = some (.int .i64 0) ∧ w7.cell? ⟨w.heap.size + 1, 2, none⟩ = some (.string ⟨#[]⟩) ∧ w7.cell? ⟨w.heap.size + 1, 3, none⟩ = some (.slice none 0 0) := F8.out.r.cells
        obtain ⟨f0, f1, f2, f3⟩ := F8.out.r.froz
        go_wp2_with fail
        clear c0 c1 c2 c3 f0 f1 f2 f3
        have F9 : Hid (Fr w ((((w7.setCell ⟨w.heap.size + 1, 0, none⟩ (.int .i64 Q.kind)).setCell ⟨w.heap.size + 1, 1, none⟩ (.int .i64 Q.num)).setCell ⟨w.heap.size + 1, 2, none⟩ (.string Q.name)).setCell ⟨w.heap.size + 1, 3, none⟩ (.slice ya Q.args.length yc)) t (.slice va t.args.length vc) Q (.slice ya Q.args.length yc)) := Lib.hid (F8.out.putR Q (.slice ya Q.args.length yc) _ rfl)
        have Y9 : Hid (Beh w ((((w7.setCell ⟨w.heap.size + 1, 0, none⟩ (.int .i64 Q.kind)).setCell ⟨w.heap.size + 1, 1, none⟩ (.int .i64 Q.num)).setCell ⟨w.heap.size + 1, 2, none⟩ (.string Q.name)).setCell ⟨w.heap.size + 1, 3, none⟩ (.slice ya Q.args.length yc)) Q (.slice ya Q.args.length yc)) := Lib.hid (Beh.put Y8.out (by omega) (F8.out.r) _ _ _ _ _ rfl)
        generalize ((((w7.setCell ⟨w.heap.size + 1, 0, none⟩ (.int .i64 Q.kind)).setCell ⟨w.heap.size + 1, 1, none⟩ (.int .i64 Q.num)).setCell ⟨w.heap.size + 1, 2, none⟩ (.string Q.name)).setCell ⟨w.heap.size + 1, 3, none⟩ (.slice ya Q.args.length yc)) = W9 at *
        refine (HR.out _).mono ?_
        rintro e w8 ⟨yr, rfl, hyr, hb8⟩
        obtain ⟨yra, yrc, rfl⟩ := hyr.slice
        have FA := Lib.hid (F9.out.step hb8)
        have YA : Hid (Beh w w8 R (.slice yra R.args.length yrc)) := Lib.hid (Beh.of hyr F9.out.z)
        clear hb8 hyr
        obtain ⟨c0, c1, c2, c3⟩ := FA.out.r.cells
        obtain ⟨f0, f1, f2, f3⟩ := FA.out.r.froz
        go_wp2_with fail
        clear c0 c1 c2 c3 f0 f1 f2 f3
        have FB : Hid (Fr w ((((w8.setCell ⟨w.heap.size + 1, 0, none⟩ (.int .i64 R.kind)).setCell ⟨w.heap.size + 1, 1, none⟩ (.int .i64 R.num)).setCell ⟨w.heap.size + 1, 2, none⟩ (.string R.name)).setCell ⟨w.heap.size + 1, 3, none⟩ (.slice yra R.args.length yrc)) t (.slice va t.args.length vc) R (.slice yra R.args.length yrc)) := Lib.hid (FA.out.putR R (.slice yra R.args.length yrc) _ rfl)
        have YB : Hid (Beh w ((((w8.setCell ⟨w.heap.size + 1, 0, none⟩ (.int .i64 R.kind)).setCell ⟨w.heap.size + 1, 1, none⟩ (.int .i64 R.num)).setCell ⟨w.heap.size + 1, 2, none⟩ (.string R.name)).setCell ⟨w.heap.size + 1, 3, none⟩ (.slice yra R.args.length yrc)) R (.slice yra R.args.length yrc)) := Lib.hid (Beh.put YA.out (by omega) (FA.out.r) _ _ _ _ _ rfl)
        generalize ((((w8.setCell ⟨w.heap.size + 1, 0, none⟩ (.int .i64 R.kind)).setCell ⟨w.heap.size + 1, 1, none⟩ (.int .i64 R.num)).setCell ⟨w.heap.size + 1, 2, none⟩ (.string R.name)).setCell ⟨w.heap.size + 1, 3, none⟩ (.slice yra R.args.length yrc)) = WB at *
        obtain ⟨k0, k1, k2, k3⟩ : WB.cell? ⟨w.heap.size + 1, 0, none⟩ = some (.int .i64 R.kind) ∧ WB.cell? ⟨w.heap.size + 1, 1, none⟩ = some (.int .i64 R.num) ∧ WB.cell? ⟨w.heap.size + 1, 2, none⟩ = some (.string R.name) ∧ WB.cell? ⟨w.heap.size + 1, 3, none⟩ = some (.slice yra R.args.length yrc) := FB.out.r.cells
        exact bodyPost_ret (v := .tuple #[.int .i64 0, tv R (.slice yra R.args.length yrc), .bool false]) (by simp [results, Try.results47, go_sem, k0, k1, k2, k3]) rfl (FB.out.chk1 YB.out (.int .i64 0) false)
      · have d1 : decide (n < 0) = false := by simp; omega
        have d3 : ¬ n < 0 := by omega
        have d2 : decide (255 < n) = true := by simp; omega
        have d4 : 255 < n := by omega
        clear hr
        go_enter Try.func47, Try.ntmps47
        go_wp2_with fail
        refine HCI.out.mono ?_
        rintro e w7 ⟨y, rfl, hy, hb7⟩
        obtain ⟨ya, yc, rfl⟩ := hy.slice
        have F8 := Lib.hid (F0.out.step hb7)
        have Y8 : Hid (Beh w w7 Q (.slice ya Q.args.length yc)) := Lib.hid (Beh.of hy F0.out.z)
        clear hb7 hy
        obtain ⟨c0, c1, c2, c3⟩ : w7.cell? ⟨w.heap.size + 1, 0, none⟩ = some (.int .i64 0) ∧ w7.cell? ⟨w.heap.size + 1, 1, none⟩ = some (.int .i64 0) ∧ w7.cell? ⟨w.heap.size + 1, 2, none⟩ = some (.string ⟨#[]⟩) ∧ w7.cell? ⟨w.heap.size + 1, 3, none⟩ = some (.slice none 0 0) := F8.out.r.cells
        obtain ⟨f0, f1, f2, f3⟩ := F8.out.r.froz
        go_wp2_with fail
        clear c0 c1 c2 c3 f0 f1 f2 f3
        have F9 : Hid (Fr w ((((w7.setCell ⟨w.heap.size + 1, 0, none⟩ (.int .i64 Q.kind)).setCell ⟨w.heap.size + 1, 1, none⟩ (.int .i64 Q.num)).setCell ⟨w.heap.size + 1, 2, none⟩ (.string Q.name)).setCell ⟨w.heap.size + 1, 3, none⟩ (.slice ya Q.args.length yc)) t (.slice va t.args.length vc) Q (.slice ya Q.args.length yc)) := Lib.hid (F8.out.putR Q (.slice ya Q.args.length yc) _ rfl)
        have Y9 : Hid (Beh w ((((w7.setCell ⟨w.heap.size + 1, 0, none⟩ (.int .i64 Q.kind)).setCell ⟨w.heap.size + 1, 1, none⟩ (.int .i64 Q.num)).setCell ⟨w.heap.size + 1, 2, none⟩ (.string Q.name)).setCell ⟨w.heap.size + 1, 3, none⟩ (.slice ya Q.args.length yc)) Q (.slice ya Q.args.length yc)) := Lib.hid (Beh.put Y8.out (by omega) (F8.out.r) _ _ _ _ _ rfl)
        generalize ((((w7.setCell ⟨w.heap.size + 1, 0, none⟩ (.int .i64 Q.kind)).setCell ⟨w.heap.size + 1, 1, none⟩ (.int .i64 Q.num)).setCell ⟨w.heap.size + 1, 2, none⟩ (.string Q.name)).setCell ⟨w.heap.size + 1, 3, none⟩ (.slice ya Q.args.length yc)) = W9 at *
        refine (HR.out _).mono ?_
        rintro e w8 ⟨yr, rfl, hyr, hb8⟩
        obtain ⟨yra, yrc, rfl⟩ := hyr.slice
        have FA := Lib.hid (F9.out.step hb8)
        have YA : Hid (Beh w w8 R (.slice yra R.args.length yrc)) := Lib.hid (Beh.of hyr F9.out.z)
        clear hb8 hyr
        obtain ⟨c0, c1, c2, c3⟩ := FA.out.r.cells
        obtain ⟨f0, f1, f2, f3⟩ := FA.out.r.froz
        go_wp2_with fail
        clear c0 c1 c2 c3 f0 f1 f2 f3
        have FB : Hid (Fr w ((((w8.setCell ⟨w.heap.size + 1, 0, none⟩ (.int .i64 R.kind)).setCell ⟨w.heap.size + 1, 1, none⟩ (.int .i64 R.num)).setCell ⟨w.heap.size + 1, 2, none⟩ (.string R.name)).setCell ⟨w.heap.size + 1, 3, none⟩ (.slice yra R.args.length yrc)) t (.slice va t.args.length vc) R (.slice yra R.args.length yrc)) := Lib.hid (FA.out.putR R (.slice yra R.args.length yrc) _ rfl)
        have YB : Hid (Beh w ((((w8.setCell ⟨w.heap.size + 1, 0, none⟩ (.int .i64 R.kind)).setCell ⟨w.heap.size + 1, 1, none⟩ (.int .i64 R.num)).setCell ⟨w.heap.size + 1, 2, none⟩ (.string R.name)).setCell ⟨w.heap.size + 1, 3, none⟩ (.slice yra R.args.length yrc)) R (.slice yra R.args.length yrc)) := Lib.hid (Beh.put YA.out (by omega) (FA.out.r) _ _ _ _ _ rfl)
        generalize ((((w8.setCell ⟨w.heap.size + 1, 0, none⟩ (.int .i64 R.kind)).setCell ⟨w.heap.size + 1, 1, none⟩ (.int .i64 R.num)).setCell ⟨w.heap.size + 1, 2, none⟩ (.string R.name)).setCell ⟨w.heap.size + 1, 3, none⟩ (.slice yra R.args.length yrc)) = WB at *
        obtain ⟨k0, k1, k2, k3⟩ : WB.cell? ⟨w.heap.size + 1, 0, none⟩ = some (.int .i64 R.kind) ∧ WB.cell? ⟨w.heap.size + 1, 1, none⟩ = some (.int .i64 R.num) ∧ WB.cell? ⟨w.heap.size + 1, 2, none⟩ = some (.string R.name) ∧ WB.cell? ⟨w.heap.size + 1, 3, none⟩ = some (.slice yra R.args.length yrc) := FB.out.r.cells
        exact bodyPost_ret (v := .tuple #[.int .i64 0, tv R (.slice yra R.args.length yrc), .bool false]) (by simp [results, Try.results47, go_sem, k0, k1, k2, k3]) rfl (FB.out.chk1 YB.out (.int .i64 0) false)

set_option maxHeartbeats 8000000 in
theorem arityOf_any (t : Tm) (v : Value) (w : World) (h : LiesT w t v) : Calls Try.prog 76 #[tv t v] w (Chk1 (.int .i64 (arN t)) (arB t) (arO t) w) := by
  obtain ⟨va, vc, rfl⟩ : ∃ a k, v = .slice a t.args.length k := h.slice
  have F0 := Lib.hid (Fr.start w t (.slice va t.args.length vc))
  have HCI := Lib.hid (bInt_any t _ _ (h.below F0.out.b))
  have HI := num_i64 h
  have H := Lib.hid h
  cases ho : chkO t (t.kind == 1)
  · have e1 : arO t = false := by unfold arO; rw [ho]; rfl
    have e2 : arN t = 0 := by unfold arN; rw [e1]; rfl
    have e3 : arB t = chkB t ⟨#[105, 110, 116, 101, 103, 101, 114]⟩ (t.kind == 1) := by unfold arB; rw [ho]; rfl
    have e4 : intN t = 0 := by unfold intN; rw [ho]; rfl
    rw [e1, e2, e3]
    rw [ho, e4] at HCI
    generalize chkB t ⟨#[105, 110, 116, 101, 103, 101, 114]⟩ (t.kind == 1) = Q at *
    clear h ho e1 e2 e3 e4 H
    simp only [tv]
    go_enter Try.func76, Try.ntmps76
    go_wp2_with fail
    refine HCI.out.mono ?_
    rintro e w7 ⟨y, rfl, hy, hb7⟩
    obtain ⟨ya, yc, rfl⟩ := hy.slice
    have F8 := Lib.hid (F0.out.step hb7)
    have Y8 : Hid (Beh w w7 Q (.slice ya Q.args.length yc)) := Lib.hid (Beh.of hy F0.out.z)
    clear hb7 hy
    obtain ⟨c0, c1, c2, c3⟩ : w7.cell? ⟨w.heap.size + 1, 0, none⟩ = some (.int .i64 0) ∧ w7.cell? ⟨w.heap.size + 1, 1, none⟩ = some (.int .i64 0) ∧ w7.cell? ⟨w.heap.size + 1, 2, none⟩ = some (.string ⟨#[]⟩) ∧ w7.cell? ⟨w.heap.size + 1, 3, none⟩ = some (.slice none 0 0) := F8.out.r.cells
    obtain ⟨f0, f1, f2, f3⟩ := F8.out.r.froz
    go_wp2_with fail
    clear c0 c1 c2 c3 f0 f1 f2 f3
    have F9 : Hid (Fr w ((((w7.setCell ⟨w.heap.size + 1, 0, none⟩ (.int .i64 Q.kind)).setCell ⟨w.heap.size + 1, 1, none⟩ (.int .i64 Q.num)).setCell ⟨w.heap.size + 1, 2, none⟩ (.string Q.name)).setCell ⟨w.heap.size + 1, 3, none⟩ (.slice ya Q.args.length yc)) t (.slice va t.args.length vc) Q (.slice ya Q.args.length yc)) := Lib.hid (F8.out.putR Q (.slice ya Q.args.length yc) _ rfl)
    have Y9 : Hid (Beh w ((((w7.setCell ⟨w.heap.size + 1, 0, none⟩ (.int .i64 Q.kind)).setCell ⟨w.heap.size + 1, 1, none⟩ (.int .i64 Q.num)).setCell ⟨w.heap.size + 1, 2, none⟩ (.string Q.name)).setCell ⟨w.heap.size + 1, 3, none⟩ (.slice ya Q.args.length yc)) Q (.slice ya Q.args.length yc)) := Lib.hid (Beh.put Y8.out (by omega) (F8.out.r) _ _ _ _ _ rfl)
    generalize ((((w7.setCell ⟨w.heap.size + 1, 0, none⟩ (.int .i64 Q.kind)).setCell ⟨w.heap.size + 1, 1, none⟩ (.int .i64 Q.num)).setCell ⟨w.heap.size + 1, 2, none⟩ (.string Q.name)).setCell ⟨w.heap.size + 1, 3, none⟩ (.slice ya Q.args.length yc)) = W9 at *
    obtain ⟨c0, c1, c2, c3⟩ := F9.out.r.cells
    obtain ⟨f0, f1, f2, f3⟩ := F9.out.r.froz
    have FE : Hid (Fr w ((((W9.setCell ⟨w.heap.size + 1, 0, none⟩ (.int .i64 Q.kind)).setCell ⟨w.heap.size + 1, 1, none⟩ (.int .i64 Q.num)).setCell ⟨w.heap.size + 1, 2, none⟩ (.string Q.name)).setCell ⟨w.heap.size + 1, 3, none⟩ (.slice ya Q.args.length yc)).drew t (.slice va t.args.length vc) Q (.slice ya Q.args.length yc)) := Lib.hid (Fr.drew (F9.out.putR Q (.slice ya Q.args.length yc) _ rfl))
    have YE : Hid (Beh w ((((W9.setCell ⟨w.heap.size + 1, 0, none⟩ (.int .i64 Q.kind)).setCell ⟨w.heap.size + 1, 1, none⟩ (.int .i64 Q.num)).setCell ⟨w.heap.size + 1, 2, none⟩ (.string Q.name)).setCell ⟨w.heap.size + 1, 3, none⟩ (.slice ya Q.args.length yc)).drew Q (.slice ya Q.args.length yc)) := Lib.hid (Beh.step (Beh.put Y9.out (by omega) F9.out.r _ _ _ _ _ rfl) (Below.refl _ _).drew)
    have HSX := FE.out.r.cells
    go_region_held3 (fun w' => w'.cell? ⟨w.heap.size + 1, 0, none⟩ = some (.int .i64 Q.kind) ∧ w'.cell? ⟨w.heap.size + 1, 1, none⟩ = some (.int .i64 Q.num) ∧ w'.cell? ⟨w.heap.size + 1, 2, none⟩ = some (.string Q.name) ∧ w'.cell? ⟨w.heap.size + 1, 3, none⟩ = some (.slice ya Q.args.length yc))
      (first | exact HSX | go_keep)
      (fail)
    go_wp2_with fail
    clear c0 c1 c2 c3 f0 f1 f2 f3 HSX
    generalize ((((W9.setCell ⟨w.heap.size + 1, 0, none⟩ (.int .i64 Q.kind)).setCell ⟨w.heap.size + 1, 1, none⟩ (.int .i64 Q.num)).setCell ⟨w.heap.size + 1, 2, none⟩ (.string Q.name)).setCell ⟨w.heap.size + 1, 3, none⟩ (.slice ya Q.args.length yc)).drew = WE at *
    obtain ⟨k0, k1, k2, k3⟩ : WE.cell? ⟨w.heap.size + 1, 0, none⟩ = some (.int .i64 Q.kind) ∧ WE.cell? ⟨w.heap.size + 1, 1, none⟩ = some (.int .i64 Q.num) ∧ WE.cell? ⟨w.heap.size + 1, 2, none⟩ = some (.string Q.name) ∧ WE.cell? ⟨w.heap.size + 1, 3, none⟩ = some (.slice ya Q.args.length yc) := FE.out.r.cells
    exact bodyPost_ret (v := .tuple #[.int .i64 0, tv Q (.slice ya Q.args.length yc), .bool false]) (by simp [results, Try.results76, go_sem, k0, k1, k2, k3]) rfl (FE.out.chk1 YE.out (.int .i64 0) false)
  · have e4 : intN t = t.num := by unfold intN; rw [ho]; rfl
    have hB := chkB_ok (kd := ⟨#[105, 110, 116, 101, 103, 101, 114]⟩) ho
    rw [ho, e4, hB] at HCI
    obtain ⟨n, hn⟩ : ∃ n, t.num = n := ⟨_, rfl⟩
    obtain ⟨Q, hQ⟩ : ∃ Q, z0 = Q := ⟨_, rfl⟩
    simp only [tv] at HCI
    rw [hn, hQ] at HCI
    rw [hn] at HI
    obtain ⟨hi1, hi2⟩ := HI
    have F0 : Hid (Fr w ((w.alloc (.cells #[.int .i64 t.kind, .int .i64 n, .string t.name, .slice va t.args.length vc] 24)).alloc (.cells #[.int .i64 0, .int .i64 0, .string ⟨#[]⟩, .slice none 0 0] 24)) t (.slice va t.args.length vc) z0 (.slice none 0 0)) := Lib.hid (by rw [← hn]; exact F0.out)
    by_cases hr : 0 ≤ n ∧ n ≤ 8
    · have e1 : arO t = true := by unfold arO; rw [ho, hn, decide_eq_true hr]; rfl
      have e2 : arN t = n := by unfold arN; rw [e1, ← hn]; rfl
      have e3 : arB t = z0 := by unfold arB; rw [ho, hn, if_pos rfl, if_neg (by omega), if_neg (by omega)]
      rw [e1, e2, e3]
      have d1 : decide (n < 0) = false := by simp; omega
      have d2 : decide (8 < n) = false := by simp; omega
      have d3 : ¬ n < 0 := by omega
      have d4 : ¬ 8 < n := by omega
      have HN := Lib.hid hn
      clear h ho e1 e2 e3 e4 hB hQ H hr
      simp only [tv]
      rw [hn]
      clear hn
      go_enter Try.func76, Try.ntmps76
      go_wp2_with fail
      refine HCI.out.mono ?_
      rintro e w7 ⟨y, rfl, hy, hb7⟩
      obtain ⟨ya, yc, rfl⟩ := hy.slice
      have F8 := Lib.hid (F0.out.step hb7)
      have Y8 : Hid (Beh w w7 Q (.slice ya Q.args.length yc)) := Lib.hid (Beh.of hy F0.out.z)
      clear hb7 hy
      obtain ⟨p0, p1, p2, p3⟩ := F8.out.p.cells
      obtain ⟨c0, c1, c2, c3⟩ : w7.cell? ⟨w.heap.size + 1, 0, none⟩ = some (.int .i64 0) ∧ w7.cell? ⟨w.heap.size + 1, 1, none⟩ = some (.int .i64 0) ∧ w7.cell? ⟨w.heap.size + 1, 2, none⟩ = some (.string ⟨#[]⟩) ∧ w7.cell? ⟨w.heap.size + 1, 3, none⟩ = some (.slice none 0 0) := F8.out.r.cells
      obtain ⟨f0, f1, f2, f3⟩ := F8.out.r.froz
      go_wp2_with fail
      clear c0 c1 c2 c3 f0 f1 f2 f3
      clear p0 p1 p2 p3
      have F9 : Hid (Fr w ((((((((w7.setCell ⟨w.heap.size + 1, 0, none⟩ (.int .i64 Q.kind)).setCell ⟨w.heap.size + 1, 1, none⟩ (.int .i64 Q.num)).setCell ⟨w.heap.size + 1, 2, none⟩ (.string Q.name)).setCell ⟨w.heap.size + 1, 3, none⟩ (.slice ya Q.args.length yc)).setCell ⟨w.heap.size + 1, 0, none⟩ (.int .i64 0)).setCell ⟨w.heap.size + 1, 1, none⟩ (.int .i64 0)).setCell ⟨w.heap.size + 1, 2, none⟩ (.string ⟨#[]⟩)).setCell ⟨w.heap.size + 1, 3, none⟩ (.slice none 0 0)) t (.slice va t.args.length vc) z0 (.slice none 0 0)) := Lib.hid ((F8.out.putR Q (.slice ya Q.args.length yc) _ rfl).putR z0 (.slice none 0 0) _ rfl)
      generalize ((((((((w7.setCell ⟨w.heap.size + 1, 0, none⟩ (.int .i64 Q.kind)).setCell ⟨w.heap.size + 1, 1, none⟩ (.int .i64 Q.num)).setCell ⟨w.heap.size + 1, 2, none⟩ (.string Q.name)).setCell ⟨w.heap.size + 1, 3, none⟩ (.slice ya Q.args.length yc)).setCell ⟨w.heap.size + 1, 0, none⟩ (.int .i64 0)).setCell ⟨w.heap.size + 1, 1, none⟩ (.int .i64 0)).setCell ⟨w.heap.size + 1, 2, none⟩ (.string ⟨#[]⟩)).setCell ⟨w.heap.size + 1, 3, none⟩ (.slice none 0 0)) = WZ at *
      obtain ⟨k0, k1, k2, k3⟩ : WZ.cell? ⟨w.heap.size + 1, 0, none⟩ = some (.int .i64 0) ∧ WZ.cell? ⟨w.heap.size + 1, 1, none⟩ = some (.int .i64 0) ∧ WZ.cell? ⟨w.heap.size + 1, 2, none⟩ = some (.string ⟨#[]⟩) ∧ WZ.cell? ⟨w.heap.size + 1, 3, none⟩ = some (.slice none 0 0) := F9.out.r.cells
      exact bodyPost_ret (v := .tuple #[.int .i64 n, zv, .bool true]) (by simp [results, Try.results76, go_sem, k0, k1, k2, k3]) rfl (F9.out.chk1 (Beh.zero _ _) (.int .i64 n) true)
    · have e1 : arO t = false := by unfold arO; rw [ho, hn, decide_eq_false hr]; rfl
      have e2 : arN t = 0 := by unfold arN; rw [e1]; rfl
      rw [e1, e2]
      rcases Int.lt_or_le n 0 with hlo | hlo
      · have e3 : arB t = withT t ⟨#[100, 111, 109, 97, 105, 110, 95, 101, 114, 114, 111, 114]⟩ [⟨#[110, 111, 116, 95, 108, 101, 115, 115, 95, 116, 104, 97, 110, 95, 122, 101, 114, 111]⟩] := by unfold arB; rw [ho, hn, if_pos rfl, if_pos hlo]
        rw [e3]
        have HR : Hid (∀ w0, Below w.heap.size w w0 → Calls Try.prog 15 #[.string ⟨#[110, 111, 116, 95, 108, 101, 115, 115, 95, 116, 104, 97, 110, 95, 122, 101, 114, 111]⟩, .agg #[.int .i64 t.kind, .int .i64 n, .string t.name, .slice va t.args.length vc]] w0 (MadeEnd (withT t ⟨#[100, 111, 109, 97, 105, 110, 95, 101, 114, 114, 111, 114]⟩ [⟨#[110, 111, 116, 95, 108, 101, 115, 115, 95, 116, 104, 97, 110, 95, 122, 101, 114, 111]⟩]) w0)) := Lib.hid (fun w0 hb => by have hh := Domain_any t (.slice va t.args.length vc) ⟨#[110, 111, 116, 95, 108, 101, 115, 115, 95, 116, 104, 97, 110, 95, 122, 101, 114, 111]⟩ w0 (H.out.below hb) (by simp [ByteArray.size]); simp only [tv] at hh; rw [hn] at hh; exact hh)
        generalize withT t ⟨#[100, 111, 109, 97, 105, 110, 95, 101, 114, 114, 111, 114]⟩ [⟨#[110, 111, 116, 95, 108, 101, 115, 115, 95, 116, 104, 97, 110, 95, 122, 101, 114, 111]⟩] = R at *
        have HN := Lib.hid hn
        have FP : Hid (∀ w1 z y, Fr w w1 t (.slice va t.args.length vc) z y → w1.cell? ⟨w.heap.size, 1, none⟩ = some (.int .i64 n)) := Lib.hid (fun w1 z y h => by rw [← hn]; exact h.p.cells.2.1)
        clear h ho e1 e2 e3 e4 hB hQ H
        simp only [tv]
        rw [hn]
        clear hn
        have d1 : decide (n < 0) = true := by simpa using hlo
        clear hr
        go_enter Try.func76, Try.ntmps76
        go_wp2_with fail
        refine HCI.out.mono ?_
        rintro e w7 ⟨y, rfl, hy, hb7⟩
        obtain ⟨ya, yc, rfl⟩ := hy.slice
        have F8 := Lib.hid (F0.out.step hb7)
        have Y8 : Hid (Beh w w7 Q (.slice ya Q.args.length yc)) := Lib.hid (Beh.of hy F0.out.z)
        clear hb7 hy
        obtain ⟨p0, px, p2, p3⟩ := F8.out.p.cells
        clear px
        have p1 := FP.out _ _ _ F8.out
        obtain ⟨c0, c1, c2, c3⟩ : w7.cell? ⟨w.heap.size + 1, 0, none⟩ = some (.int .i64 0) ∧ w7.cell? ⟨w.heap.size + 1, 1, none⟩ = some (.int .i64 0) ∧ w7.cell? ⟨w.heap.size + 1, 2, none⟩ = some (.string ⟨#[]⟩) ∧ w7.cell? ⟨w.heap.size + 1, 3, none⟩ = some (.slice none 0 0) := F8.out.r.cells
        obtain ⟨f0, f1, f2, f3⟩ := F8.out.r.froz
        go_wp2_with fail
        clear c0 c1 c2 c3 f0 f1 f2 f3
        have F9 : Hid (Fr w ((((w7.setCell ⟨w.heap.size + 1, 0, none⟩ (.int .i64 Q.kind)).setCell ⟨w.heap.size + 1, 1, none⟩ (.int .i64 Q.num)).setCell ⟨w.heap.size + 1, 2, none⟩ (.string Q.name)).setCell ⟨w.heap.size + 1, 3, none⟩ (.slice ya Q.args.length yc)) t (.slice va t.args.length vc) Q (.slice ya Q.args.length yc)) := Lib.hid (F8.out.putR Q (.slice ya Q.args.length yc) _ rfl)
        have Y9 : Hid (Beh w ((((w7.setCell ⟨w.heap.size + 1, 0, none⟩ (.int .i64 Q.kind)).setCell ⟨w.heap.size + 1, 1, none⟩ (.int .i64 Q.num)).setCell ⟨w.heap.size + 1, 2, none⟩ (.string Q.name)).setCell ⟨w.heap.size + 1, 3, none⟩ (.slice ya Q.args.length yc)) Q (.slice ya Q.args.length yc)) := Lib.hid (Beh.put Y8.out (by omega) (F8.out.r) _ _ _ _ _ rfl)
        generalize ((((w7.setCell ⟨w.heap.size + 1, 0, none⟩ (.int .i64 Q.kind)).setCell ⟨w.heap.size + 1, 1, none⟩ (.int .i64 Q.num)).setCell ⟨w.heap.size + 1, 2, none⟩ (.string Q.name)).setCell ⟨w.heap.size + 1, 3, none⟩ (.slice ya Q.args.length yc)) = W9 at *
        refine (HR.out _ F9.out.b).mono ?_
        rintro e w8 ⟨yr, rfl, hyr, hb8⟩
        obtain ⟨yra, yrc, rfl⟩ := hyr.slice
        have FA := Lib.hid (F9.out.step hb8)
        have YA : Hid (Beh w w8 R (.slice yra R.args.length yrc)) := Lib.hid (Beh.of hyr F9.out.z)
        clear hb8 hyr p0 p1 p2 p3
        obtain ⟨c0, c1, c2, c3⟩ := FA.out.r.cells
        obtain ⟨f0, f1, f2, f3⟩ := FA.out.r.froz
        go_wp2_with fail
        clear c0 c1 c2 c3 f0 f1 f2 f3
        have FB : Hid (Fr w ((((w8.setCell ⟨w.heap.size + 1, 0, none⟩ (.int .i64 R.kind)).setCell ⟨w.heap.size + 1, 1, none⟩ (.int .i64 R.num)).setCell ⟨w.heap.size + 1, 2, none⟩ (.string R.name)).setCell ⟨w.heap.size + 1, 3, none⟩ (.slice yra R.args.length yrc)) t (.slice va t.args.length vc) R (.slice yra R.args.length yrc)) := Lib.hid (FA.out.putR R (.slice yra R.args.length yrc) _ rfl)
        have YB : Hid (Beh w ((((w8.setCell ⟨w.heap.size + 1, 0, none⟩ (.int .i64 R.kind)).setCell ⟨w.heap.size + 1, 1, none⟩ (.int .i64 R.num)).setCell ⟨w.heap.size + 1, 2, none⟩ (.string R.name)).setCell ⟨w.heap.size + 1, 3, none⟩ (.slice yra R.args.length yrc)) R (.slice yra R.args.length yrc)) := Lib.hid (Beh.put YA.out (by omega) (FA.out.r) _ _ _ _ _ rfl)
        generalize ((((w8.setCell ⟨w.heap.size + 1, 0, none⟩ (.int .i64 R.kind)).setCell ⟨w.heap.size + 1, 1, none⟩ (.int .i64 R.num)).setCell ⟨w.heap.size + 1, 2, none⟩ (.string R.name)).setCell ⟨w.heap.size + 1, 3, none⟩ (.slice yra R.args.length yrc)) = WB at *
        obtain ⟨k0, k1, k2, k3⟩ : WB.cell? ⟨w.heap.size + 1, 0, none⟩ = some (.int .i64 R.kind) ∧ WB.cell? ⟨w.heap.size + 1, 1, none⟩ = some (.int .i64 R.num) ∧ WB.cell? ⟨w.heap.size + 1, 2, none⟩ = some (.string R.name) ∧ WB.cell? ⟨w.heap.size + 1, 3, none⟩ = some (.slice yra R.args.length yrc) := FB.out.r.cells
        exact bodyPost_ret (v := .tuple #[.int .i64 0, tv R (.slice yra R.args.length yrc), .bool false]) (by simp [results, Try.results76, go_sem, k0, k1, k2, k3]) rfl (FB.out.chk1 YB.out (.int .i64 0) false)
      · have e3 : arB t = reprT ⟨#[109, 97, 120, 95, 97, 114, 105, 116, 121]⟩ := by unfold arB; rw [ho, hn, if_pos rfl, if_neg (by omega), if_pos (by omega)]
        rw [e3]
        have HR : Hid (∀ w0, Below w.heap.size w w0 → Calls Try.prog 18 #[.string ⟨#[109, 97, 120, 95, 97, 114, 105, 116, 121]⟩] w0 (MadeEnd (reprT ⟨#[109, 97, 120, 95, 97, 114, 105, 116, 121]⟩) w0)) := Lib.hid (fun w0 _ => Representation_any ⟨#[109, 97, 120, 95, 97, 114, 105, 116, 121]⟩ w0 (by simp [ByteArray.size]))
        generalize reprT ⟨#[109, 97, 120, 95, 97, 114, 105, 116, 121]⟩ = R at *
        have HN := Lib.hid hn
        clear h ho e1 e2 e3 e4 hB hQ H
        simp only [tv]
        rw [hn]
        clear hn
        have d1 : decide (n < 0) = false := by simp; omega
        have d3 : ¬ n < 0 := by omega
        have d2 : decide (8 < n) = true := by simp; omega
        have d4 : 8 < n := by omega
        clear hr
        go_enter Try.func76, Try.ntmps76
        go_wp2_with fail
        refine HCI.out.mono ?_
        rintro e w7 ⟨y, rfl, hy, hb7⟩
        obtain ⟨ya, yc, rfl⟩ := hy.slice
        have F8 := Lib.hid (F0.out.step hb7)
        have Y8 : Hid (Beh w w7 Q (.slice ya Q.args.length yc)) := Lib.hid (Beh.of hy F0.out.z)
        clear hb7 hy
        obtain ⟨c0, c1, c2, c3⟩ : w7.cell? ⟨w.heap.size + 1, 0, none⟩ = some (.int .i64 0) ∧ w7.cell? ⟨w.heap.size + 1, 1, none⟩ = some (.int .i64 0) ∧ w7.cell? ⟨w.heap.size + 1, 2, none⟩ = some (.string ⟨#[]⟩) ∧ w7.cell? ⟨w.heap.size + 1, 3, none⟩ = some (.slice none 0 0) := F8.out.r.cells
        obtain ⟨f0, f1, f2, f3⟩ := F8.out.r.froz
        go_wp2_with fail
        clear c0 c1 c2 c3 f0 f1 f2 f3
        have F9 : Hid (Fr w ((((w7.setCell ⟨w.heap.size + 1, 0, none⟩ (.int .i64 Q.kind)).setCell ⟨w.heap.size + 1, 1, none⟩ (.int .i64 Q.num)).setCell ⟨w.heap.size + 1, 2, none⟩ (.string Q.name)).setCell ⟨w.heap.size + 1, 3, none⟩ (.slice ya Q.args.length yc)) t (.slice va t.args.length vc) Q (.slice ya Q.args.length yc)) := Lib.hid (F8.out.putR Q (.slice ya Q.args.length yc) _ rfl)
        have Y9 : Hid (Beh w ((((w7.setCell ⟨w.heap.size + 1, 0, none⟩ (.int .i64 Q.kind)).setCell ⟨w.heap.size + 1, 1, none⟩ (.int .i64 Q.num)).setCell ⟨w.heap.size + 1, 2, none⟩ (.string Q.name)).setCell ⟨w.heap.size + 1, 3, none⟩ (.slice ya Q.args.length yc)) Q (.slice ya Q.args.length yc)) := Lib.hid (Beh.put Y8.out (by omega) (F8.out.r) _ _ _ _ _ rfl)
        generalize ((((w7.setCell ⟨w.heap.size + 1, 0, none⟩ (.int .i64 Q.kind)).setCell ⟨w.heap.size + 1, 1, none⟩ (.int .i64 Q.num)).setCell ⟨w.heap.size + 1, 2, none⟩ (.string Q.name)).setCell ⟨w.heap.size + 1, 3, none⟩ (.slice ya Q.args.length yc)) = W9 at *
        refine (HR.out _ F9.out.b).mono ?_
        rintro e w8 ⟨yr, rfl, hyr, hb8⟩
        obtain ⟨yra, yrc, rfl⟩ := hyr.slice
        have FA := Lib.hid (F9.out.step hb8)
        have YA : Hid (Beh w w8 R (.slice yra R.args.length yrc)) := Lib.hid (Beh.of hyr F9.out.z)
        clear hb8 hyr
        obtain ⟨c0, c1, c2, c3⟩ := FA.out.r.cells
        obtain ⟨f0, f1, f2, f3⟩ := FA.out.r.froz
        go_wp2_with fail
        clear c0 c1 c2 c3 f0 f1 f2 f3
        have FB : Hid (Fr w ((((w8.setCell ⟨w.heap.size + 1, 0, none⟩ (.int .i64 R.kind)).setCell ⟨w.heap.size + 1, 1, none⟩ (.int .i64 R.num)).setCell ⟨w.heap.size + 1, 2, none⟩ (.string R.name)).setCell ⟨w.heap.size + 1, 3, none⟩ (.slice yra R.args.length yrc)) t (.slice va t.args.length vc) R (.slice yra R.args.length yrc)) := Lib.hid (FA.out.putR R (.slice yra R.args.length yrc) _ rfl)
        have YB : Hid (Beh w ((((w8.setCell ⟨w.heap.size + 1, 0, none⟩ (.int .i64 R.kind)).setCell ⟨w.heap.size + 1, 1, none⟩ (.int .i64 R.num)).setCell ⟨w.heap.size + 1, 2, none⟩ (.string R.name)).setCell ⟨w.heap.size + 1, 3, none⟩ (.slice yra R.args.length yrc)) R (.slice yra R.args.length yrc)) := Lib.hid (Beh.put YA.out (by omega) (FA.out.r) _ _ _ _ _ rfl)
        generalize ((((w8.setCell ⟨w.heap.size + 1, 0, none⟩ (.int .i64 R.kind)).setCell ⟨w.heap.size + 1, 1, none⟩ (.int .i64 R.num)).setCell ⟨w.heap.size + 1, 2, none⟩ (.string R.name)).setCell ⟨w.heap.size + 1, 3, none⟩ (.slice yra R.args.length yrc)) = WB at *
        obtain ⟨k0, k1, k2, k3⟩ : WB.cell? ⟨w.heap.size + 1, 0, none⟩ = some (.int .i64 R.kind) ∧ WB.cell? ⟨w.heap.size + 1, 1, none⟩ = some (.int .i64 R.num) ∧ WB.cell? ⟨w.heap.size + 1, 2, none⟩ = some (.string R.name) ∧ WB.cell? ⟨w.heap.size + 1, 3, none⟩ = some (.slice yra R.args.length yrc) := FB.out.r.cells
        exact bodyPost_ret (v := .tuple #[.int .i64 0, tv R (.slice yra R.args.length yrc), .bool false]) (by simp [results, Try.results76, go_sem, k0, k1, k2, k3]) rfl (FB.out.chk1 YB.out (.int .i64 0) false)

end Go.Proofs.Yteilodihjhdngaa
