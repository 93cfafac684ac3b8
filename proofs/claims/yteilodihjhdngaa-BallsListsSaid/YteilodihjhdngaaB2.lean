/- The program's checks. -/
import Derived.Test.YteilodihjhdngaaB1
namespace Go.Proofs.Yteilodihjhdngaa
open Go.RowKit Go.Proofs.HT

def instT : Tm := vz (errT (atmT ⟨#[105, 110, 115, 116, 97, 110, 116, 105, 97, 116, 105, 111, 110, 95, 101, 114, 114, 111, 114]⟩))
def typeT (kd : ByteArray) (c : Tm) : Tm := withT c ⟨#[116, 121, 112, 101, 95, 101, 114, 114, 111, 114]⟩ [kd]
/-- The ball of a check, and whether the term passes. -/
def chkB (t : Tm) (kd : ByteArray) (q : Bool) : Tm := if validB t = true then (if (t.kind == 0) = true then instT else if q = true then z0 else typeT kd t) else z0
def chkO (t : Tm) (q : Bool) : Bool := validB t && ((t.kind != 0) && q)
set_option maxHeartbeats 4000000 in
theorem check_any (t : Tm) (v : Value) (kd : ByteArray) (q : Bool) (w : World) (h : LiesT w t v) (hk : kd.size ≤ 9223372036854775807) : Calls Try.prog 74 #[tv t v, .string kd, .bool q] w (Chk0 (chkB t kd q) (chkO t q) w) := by
  obtain ⟨va, vc, rfl⟩ : ∃ a k, v = .slice a t.args.length k := h.slice
  have F0 := Lib.hid (Fr.start w t (.slice va t.args.length vc))
  have H := Lib.hid h
  have HKD := Lib.hid hk
  clear h hk
  simp only [tv]
  cases hv : validB t
  · have eB : chkB t kd q = z0 := by simp [chkB, hv]
    have eO : chkO t q = false := by simp [chkO, hv]
    rw [eB, eO]
    have HV := Lib.hid hv
    clear hv eB eO
    go_enter Try.func74, Try.ntmps74
    go_wp2_with fail
    refine (Valid_is t _ false HV.out _ (H.out.below F0.out.b)).mono ?_
    rintro e w1 ⟨rfl, hb1⟩
    have F1 := Lib.hid (F0.out.step hb1)
    clear hb1
    obtain ⟨c0, c1, c2, c3⟩ : w1.cell? ⟨w.heap.size + 1, 0, none⟩ = some (.int .i64 0) ∧ w1.cell? ⟨w.heap.size + 1, 1, none⟩ = some (.int .i64 0) ∧ w1.cell? ⟨w.heap.size + 1, 2, none⟩ = some (.string ⟨#[]⟩) ∧ w1.cell? ⟨w.heap.size + 1, 3, none⟩ = some (.slice none 0 0) := F1.out.r.cells
    obtain ⟨f0, f1, f2, f3⟩ := F1.out.r.froz
    go_wp2_with fail
    clear c0 c1 c2 c3 f0 f1 f2 f3
    have FZ : Hid (Fr w ((((w1.setCell ⟨w.heap.size + 1, 0, none⟩ (.int .i64 0)).setCell ⟨w.heap.size + 1, 1, none⟩ (.int .i64 0)).setCell ⟨w.heap.size + 1, 2, none⟩ (.string ⟨#[]⟩)).setCell ⟨w.heap.size + 1, 3, none⟩ (.slice none 0 0)) t (.slice va t.args.length vc) z0 (.slice none 0 0)) := Lib.hid (F1.out.putR z0 (.slice none 0 0) _ rfl)
    generalize ((((w1.setCell ⟨w.heap.size + 1, 0, none⟩ (.int .i64 0)).setCell ⟨w.heap.size + 1, 1, none⟩ (.int .i64 0)).setCell ⟨w.heap.size + 1, 2, none⟩ (.string ⟨#[]⟩)).setCell ⟨w.heap.size + 1, 3, none⟩ (.slice none 0 0)) = WZ at *
    obtain ⟨k0, k1, k2, k3⟩ : WZ.cell? ⟨w.heap.size + 1, 0, none⟩ = some (.int .i64 0) ∧ WZ.cell? ⟨w.heap.size + 1, 1, none⟩ = some (.int .i64 0) ∧ WZ.cell? ⟨w.heap.size + 1, 2, none⟩ = some (.string ⟨#[]⟩) ∧ WZ.cell? ⟨w.heap.size + 1, 3, none⟩ = some (.slice none 0 0) := FZ.out.r.cells
    exact bodyPost_ret (v := .tuple #[zv, .bool false]) (by simp [results, Try.results74, go_sem, k0, k1, k2, k3]) rfl (FZ.out.chk0 (Beh.zero _ _) false)
  · have HV := Lib.hid hv
    rcases Bool.eq_false_or_eq_true (t.kind == 0) with h1 | h1
    · have eB : chkB t kd q = instT := by simp [chkB, hv, h1]
      have eO : chkO t q = false := by simp [chkO, hv, bne, h1]
      rw [eB, eO]
      have HCI : Hid (∀ w0, Calls Try.prog 12 #[] w0 (MadeEnd instT w0)) := Lib.hid (fun w0 => Inst_any w0)
      generalize instT = Q at *
      clear hv eB eO
      go_enter Try.func74, Try.ntmps74
      go_wp2_with fail
      refine (Valid_is t _ true HV.out _ (H.out.below F0.out.b)).mono ?_
      rintro e w1 ⟨rfl, hb1⟩
      have F1 := Lib.hid (F0.out.step hb1)
      clear hb1
      obtain ⟨p0, p1, p2, p3⟩ := F1.out.p.cells
      go_wp2_with fail
      refine (HCI.out _).mono ?_
      rintro e w7 ⟨y, rfl, hy, hb7⟩
      obtain ⟨ya, yc, rfl⟩ := hy.slice
      have F8 := Lib.hid (F1.out.step hb7)
      have Y8 : Hid (Beh w w7 Q (.slice ya Q.args.length yc)) := Lib.hid (Beh.of hy F1.out.z)
      clear hb7 hy
      obtain ⟨c0, c1, c2, c3⟩ : w7.cell? ⟨w.heap.size + 1, 0, none⟩ = some (.int .i64 0) ∧ w7.cell? ⟨w.heap.size + 1, 1, none⟩ = some (.int .i64 0) ∧ w7.cell? ⟨w.heap.size + 1, 2, none⟩ = some (.string ⟨#[]⟩) ∧ w7.cell? ⟨w.heap.size + 1, 3, none⟩ = some (.slice none 0 0) := F8.out.r.cells
      obtain ⟨f0, f1, f2, f3⟩ := F8.out.r.froz
      go_wp2_with fail
      clear c0 c1 c2 c3 f0 f1 f2 f3
      have F9 : Hid (Fr w ((((w7.setCell ⟨w.heap.size + 1, 0, none⟩ (.int .i64 Q.kind)).setCell ⟨w.heap.size + 1, 1, none⟩ (.int .i64 Q.num)).setCell ⟨w.heap.size + 1, 2, none⟩ (.string Q.name)).setCell ⟨w.heap.size + 1, 3, none⟩ (.slice ya Q.args.length yc)) t (.slice va t.args.length vc) Q (.slice ya Q.args.length yc)) := Lib.hid (F8.out.putR Q (.slice ya Q.args.length yc) _ rfl)
      have Y9 : Hid (Beh w ((((w7.setCell ⟨w.heap.size + 1, 0, none⟩ (.int .i64 Q.kind)).setCell ⟨w.heap.size + 1, 1, none⟩ (.int .i64 Q.num)).setCell ⟨w.heap.size + 1, 2, none⟩ (.string Q.name)).setCell ⟨w.heap.size + 1, 3, none⟩ (.slice ya Q.args.length yc)) Q (.slice ya Q.args.length yc)) := Lib.hid (Beh.put Y8.out (by omega) (F8.out.r) _ _ _ _ _ rfl)
      generalize ((((w7.setCell ⟨w.heap.size + 1, 0, none⟩ (.int .i64 Q.kind)).setCell ⟨w.heap.size + 1, 1, none⟩ (.int .i64 Q.num)).setCell ⟨w.heap.size + 1, 2, none⟩ (.string Q.name)).setCell ⟨w.heap.size + 1, 3, none⟩ (.slice ya Q.args.length yc)) = W9 at *
      obtain ⟨k0, k1, k2, k3⟩ : W9.cell? ⟨w.heap.size + 1, 0, none⟩ = some (.int .i64 Q.kind) ∧ W9.cell? ⟨w.heap.size + 1, 1, none⟩ = some (.int .i64 Q.num) ∧ W9.cell? ⟨w.heap.size + 1, 2, none⟩ = some (.string Q.name) ∧ W9.cell? ⟨w.heap.size + 1, 3, none⟩ = some (.slice ya Q.args.length yc) := F9.out.r.cells
      exact bodyPost_ret (v := .tuple #[tv Q (.slice ya Q.args.length yc), .bool false]) (by simp [results, Try.results74, go_sem, k0, k1, k2, k3]) rfl (F9.out.chk0 Y9.out false)
    · cases q
      · have eB : chkB t kd false = typeT kd t := by simp [chkB, hv, h1]
        have eO : chkO t false = false := by simp [chkO]
        rw [eB, eO]
        have HCI : Hid (∀ w0, LiesT w0 t (.slice va t.args.length vc) → Calls Try.prog 14 #[.string kd, tv t (.slice va t.args.length vc)] w0 (MadeEnd (typeT kd t) w0)) := Lib.hid (fun w0 h => Type_any t _ kd w0 h HKD.out)
        generalize typeT kd t = Q at *
        clear hv eB eO
        go_enter Try.func74, Try.ntmps74
        go_wp2_with fail
        refine (Valid_is t _ true HV.out _ (H.out.below F0.out.b)).mono ?_
        rintro e w1 ⟨rfl, hb1⟩
        have F1 := Lib.hid (F0.out.step hb1)
        clear hb1
        obtain ⟨p0, p1, p2, p3⟩ := F1.out.p.cells
        go_wp2_with fail
        refine (HCI.out _ (H.out.below F1.out.b)).mono ?_
        rintro e w7 ⟨y, rfl, hy, hb7⟩
        obtain ⟨ya, yc, rfl⟩ := hy.slice
        have F8 := Lib.hid (F1.out.step hb7)
        have Y8 : Hid (Beh w w7 Q (.slice ya Q.args.length yc)) := Lib.hid (Beh.of hy F1.out.z)
        clear hb7 hy
        obtain ⟨c0, c1, c2, c3⟩ : w7.cell? ⟨w.heap.size + 1, 0, none⟩ = some (.int .i64 0) ∧ w7.cell? ⟨w.heap.size + 1, 1, none⟩ = some (.int .i64 0) ∧ w7.cell? ⟨w.heap.size + 1, 2, none⟩ = some (.string ⟨#[]⟩) ∧ w7.cell? ⟨w.heap.size + 1, 3, none⟩ = some (.slice none 0 0) := F8.out.r.cells
        obtain ⟨f0, f1, f2, f3⟩ := F8.out.r.froz
        go_wp2_with fail
        clear c0 c1 c2 c3 f0 f1 f2 f3
        have F9 : Hid (Fr w ((((w7.setCell ⟨w.heap.size + 1, 0, none⟩ (.int .i64 Q.kind)).setCell ⟨w.heap.size + 1, 1, none⟩ (.int .i64 Q.num)).setCell ⟨w.heap.size + 1, 2, none⟩ (.string Q.name)).setCell ⟨w.heap.size + 1, 3, none⟩ (.slice ya Q.args.length yc)) t (.slice va t.args.length vc) Q (.slice ya Q.args.length yc)) := Lib.hid (F8.out.putR Q (.slice ya Q.args.length yc) _ rfl)
        have Y9 : Hid (Beh w ((((w7.setCell ⟨w.heap.size + 1, 0, none⟩ (.int .i64 Q.kind)).setCell ⟨w.heap.size + 1, 1, none⟩ (.int .i64 Q.num)).setCell ⟨w.heap.size + 1, 2, none⟩ (.string Q.name)).setCell ⟨w.heap.size + 1, 3, none⟩ (.slice ya Q.args.length yc)) Q (.slice ya Q.args.length yc)) := Lib.hid (Beh.put Y8.out (by omega) (F8.out.r) _ _ _ _ _ rfl)
        generalize ((((w7.setCell ⟨w.heap.size + 1, 0, none⟩ (.int .i64 Q.kind)).setCell ⟨w.heap.size + 1, 1, none⟩ (.int .i64 Q.num)).setCell ⟨w.heap.size + 1, 2, none⟩ (.string Q.name)).setCell ⟨w.heap.size + 1, 3, none⟩ (.slice ya Q.args.length yc)) = W9 at *
        obtain ⟨k0, k1, k2, k3⟩ : W9.cell? ⟨w.heap.size + 1, 0, none⟩ = some (.int .i64 Q.kind) ∧ W9.cell? ⟨w.heap.size + 1, 1, none⟩ = some (.int .i64 Q.num) ∧ W9.cell? ⟨w.heap.size + 1, 2, none⟩ = some (.string Q.name) ∧ W9.cell? ⟨w.heap.size + 1, 3, none⟩ = some (.slice ya Q.args.length yc) := F9.out.r.cells
        exact bodyPost_ret (v := .tuple #[tv Q (.slice ya Q.args.length yc), .bool false]) (by simp [results, Try.results74, go_sem, k0, k1, k2, k3]) rfl (F9.out.chk0 Y9.out false)
      · have eB : chkB t kd true = z0 := by simp [chkB, hv, h1]
        have eO : chkO t true = true := by simp [chkO, hv, bne, h1]
        rw [eB, eO]
        clear hv eB eO
        go_enter Try.func74, Try.ntmps74
        go_wp2_with fail
        refine (Valid_is t _ true HV.out _ (H.out.below F0.out.b)).mono ?_
        rintro e w1 ⟨rfl, hb1⟩
        have F1 := Lib.hid (F0.out.step hb1)
        clear hb1
        obtain ⟨p0, p1, p2, p3⟩ := F1.out.p.cells
        obtain ⟨c0, c1, c2, c3⟩ : w1.cell? ⟨w.heap.size + 1, 0, none⟩ = some (.int .i64 0) ∧ w1.cell? ⟨w.heap.size + 1, 1, none⟩ = some (.int .i64 0) ∧ w1.cell? ⟨w.heap.size + 1, 2, none⟩ = some (.string ⟨#[]⟩) ∧ w1.cell? ⟨w.heap.size + 1, 3, none⟩ = some (.slice none 0 0) := F1.out.r.cells
        obtain ⟨f0, f1, f2, f3⟩ := F1.out.r.froz
        go_wp2_with fail
        clear c0 c1 c2 c3 f0 f1 f2 f3
        have FZ : Hid (Fr w ((((w1.setCell ⟨w.heap.size + 1, 0, none⟩ (.int .i64 0)).setCell ⟨w.heap.size + 1, 1, none⟩ (.int .i64 0)).setCell ⟨w.heap.size + 1, 2, none⟩ (.string ⟨#[]⟩)).setCell ⟨w.heap.size + 1, 3, none⟩ (.slice none 0 0)) t (.slice va t.args.length vc) z0 (.slice none 0 0)) := Lib.hid (F1.out.putR z0 (.slice none 0 0) _ rfl)
        generalize ((((w1.setCell ⟨w.heap.size + 1, 0, none⟩ (.int .i64 0)).setCell ⟨w.heap.size + 1, 1, none⟩ (.int .i64 0)).setCell ⟨w.heap.size + 1, 2, none⟩ (.string ⟨#[]⟩)).setCell ⟨w.heap.size + 1, 3, none⟩ (.slice none 0 0)) = WZ at *
        obtain ⟨k0, k1, k2, k3⟩ : WZ.cell? ⟨w.heap.size + 1, 0, none⟩ = some (.int .i64 0) ∧ WZ.cell? ⟨w.heap.size + 1, 1, none⟩ = some (.int .i64 0) ∧ WZ.cell? ⟨w.heap.size + 1, 2, none⟩ = some (.string ⟨#[]⟩) ∧ WZ.cell? ⟨w.heap.size + 1, 3, none⟩ = some (.slice none 0 0) := FZ.out.r.cells
        exact bodyPost_ret (v := .tuple #[zv, .bool true]) (by simp [results, Try.results74, go_sem, k0, k1, k2, k3]) rfl (FZ.out.chk0 (Beh.zero _ _) true)

set_option maxHeartbeats 4000000 in
theorem Callable_any (t : Tm) (v : Value) (w : World) (h : LiesT w t v) : Calls Try.prog 39 #[tv t v] w (Chk0 (chkB t ⟨#[99, 97, 108, 108, 97, 98, 108, 101]⟩ (t.kind != 1)) (chkO t (t.kind != 1)) w) := by
  obtain ⟨va, vc, rfl⟩ : ∃ a k, v = .slice a t.args.length k := h.slice
  have F0 := Lib.hid (Fr.start w t (.slice va t.args.length vc))
  obtain ⟨q, hq⟩ : ∃ q, (t.kind != 1) = q := ⟨_, rfl⟩
  rw [hq]
  have HCI := Lib.hid (check_any t _ ⟨#[99, 97, 108, 108, 97, 98, 108, 101]⟩ q _ (h.below F0.out.b) (by simp [ByteArray.size]))
  generalize chkB t ⟨#[99, 97, 108, 108, 97, 98, 108, 101]⟩ q = Q at *
  generalize chkO t q = o at *
  clear h
  simp only [tv]
  go_enter Try.func39, Try.ntmps39
  go_wp2_with fail
  refine HCI.out.mono ?_
  rintro e w7 ⟨y, rfl, hy, hb7⟩
  obtain ⟨ya, yc, rfl⟩ := hy.slice
  have F8 := Lib.hid (F0.out.step hb7)
  have Y8 : Hid (Beh w w7 Q (.slice ya Q.args.length yc)) := Lib.hid (Beh.of hy F0.out.z)
  clear hb7 hy
  obtain ⟨c0, c1, c2, c3⟩ : w7.cell? ⟨w.heap.size + 1, 0, none⟩ = some (.int .i64 0) ∧ w7.cell? ⟨w.heap.size + 1, 1, none⟩ = some (.int .i64 0) ∧ w7.cell? ⟨w.heap.size + 1, 2, none⟩ = some (.string ⟨#[]⟩) ∧ w7.cell? ⟨w.heap.size + 1, 3, none⟩ = some (.slice none 0 0) := F8.out.r.cells
  obtain ⟨f0, f1, f2, f3⟩ := F8.out.r.froz
  go_wp2_with fail
  clear c0 c1 c2 c3 f0 f1 f2 f3
  have F9 : Hid (Fr w ((((w7.setCell ⟨w.heap.size + 1, 0, none⟩ (.int .i64 Q.kind)).setCell ⟨w.heap.size + 1, 1, none⟩ (.int .i64 Q.num)).setCell ⟨w.heap.size + 1, 2, none⟩ (.string Q.name)).setCell ⟨w.heap.size + 1, 3, none⟩ (.slice ya Q.args.length yc)) t (.slice va t.args.length vc) Q (.slice ya Q.args.length yc)) := Lib.hid (F8.out.putR Q (.slice ya Q.args.length yc) _ rfl)
  have Y9 : Hid (Beh w ((((w7.setCell ⟨w.heap.size + 1, 0, none⟩ (.int .i64 Q.kind)).setCell ⟨w.heap.size + 1, 1, none⟩ (.int .i64 Q.num)).setCell ⟨w.heap.size + 1, 2, none⟩ (.string Q.name)).setCell ⟨w.heap.size + 1, 3, none⟩ (.slice ya Q.args.length yc)) Q (.slice ya Q.args.length yc)) := Lib.hid (Beh.put Y8.out (by omega) (F8.out.r) _ _ _ _ _ rfl)
  generalize ((((w7.setCell ⟨w.heap.size + 1, 0, none⟩ (.int .i64 Q.kind)).setCell ⟨w.heap.size + 1, 1, none⟩ (.int .i64 Q.num)).setCell ⟨w.heap.size + 1, 2, none⟩ (.string Q.name)).setCell ⟨w.heap.size + 1, 3, none⟩ (.slice ya Q.args.length yc)) = W9 at *
  obtain ⟨k0, k1, k2, k3⟩ : W9.cell? ⟨w.heap.size + 1, 0, none⟩ = some (.int .i64 Q.kind) ∧ W9.cell? ⟨w.heap.size + 1, 1, none⟩ = some (.int .i64 Q.num) ∧ W9.cell? ⟨w.heap.size + 1, 2, none⟩ = some (.string Q.name) ∧ W9.cell? ⟨w.heap.size + 1, 3, none⟩ = some (.slice ya Q.args.length yc) := F9.out.r.cells
  exact bodyPost_ret (v := .tuple #[tv Q (.slice ya Q.args.length yc), .bool o]) (by simp [results, Try.results39, go_sem, k0, k1, k2, k3]) rfl (F9.out.chk0 Y9.out o)

set_option maxHeartbeats 4000000 in
theorem Atomic_any (t : Tm) (v : Value) (w : World) (h : LiesT w t v) : Calls Try.prog 41 #[tv t v] w (Chk0 (chkB t ⟨#[97, 116, 111, 109, 105, 99]⟩ (t.kind != 3)) (chkO t (t.kind != 3)) w) := by
  obtain ⟨va, vc, rfl⟩ : ∃ a k, v = .slice a t.args.length k := h.slice
  have F0 := Lib.hid (Fr.start w t (.slice va t.args.length vc))
  obtain ⟨q, hq⟩ : ∃ q, (t.kind != 3) = q := ⟨_, rfl⟩
  rw [hq]
  have HCI := Lib.hid (check_any t _ ⟨#[97, 116, 111, 109, 105, 99]⟩ q _ (h.below F0.out.b) (by simp [ByteArray.size]))
  generalize chkB t ⟨#[97, 116, 111, 109, 105, 99]⟩ q = Q at *
  generalize chkO t q = o at *
  clear h
  simp only [tv]
  go_enter Try.func41, Try.ntmps41
  go_wp2_with fail
  refine HCI.out.mono ?_
  rintro e w7 ⟨y, rfl, hy, hb7⟩
  obtain ⟨ya, yc, rfl⟩ := hy.slice
  have F8 := Lib.hid (F0.out.step hb7)
  have Y8 : Hid (Beh w w7 Q (.slice ya Q.args.length yc)) := Lib.hid (Beh.of hy F0.out.z)
  clear hb7 hy
  obtain ⟨c0, c1, c2, c3⟩ : w7.cell? ⟨w.heap.size + 1, 0, none⟩ = some (.int .i64 0) ∧ w7.cell? ⟨w.heap.size + 1, 1, none⟩ = some (.int .i64 0) ∧ w7.cell? ⟨w.heap.size + 1, 2, none⟩ = some (.string ⟨#[]⟩) ∧ w7.cell? ⟨w.heap.size + 1, 3, none⟩ = some (.slice none 0 0) := F8.out.r.cells
  obtain ⟨f0, f1, f2, f3⟩ := F8.out.r.froz
  go_wp2_with fail
  clear c0 c1 c2 c3 f0 f1 f2 f3
  have F9 : Hid (Fr w ((((w7.setCell ⟨w.heap.size + 1, 0, none⟩ (.int .i64 Q.kind)).setCell ⟨w.heap.size + 1, 1, none⟩ (.int .i64 Q.num)).setCell ⟨w.heap.size + 1, 2, none⟩ (.string Q.name)).setCell ⟨w.heap.size + 1, 3, none⟩ (.slice ya Q.args.length yc)) t (.slice va t.args.length vc) Q (.slice ya Q.args.length yc)) := Lib.hid (F8.out.putR Q (.slice ya Q.args.length yc) _ rfl)
  have Y9 : Hid (Beh w ((((w7.setCell ⟨w.heap.size + 1, 0, none⟩ (.int .i64 Q.kind)).setCell ⟨w.heap.size + 1, 1, none⟩ (.int .i64 Q.num)).setCell ⟨w.heap.size + 1, 2, none⟩ (.string Q.name)).setCell ⟨w.heap.size + 1, 3, none⟩ (.slice ya Q.args.length yc)) Q (.slice ya Q.args.length yc)) := Lib.hid (Beh.put Y8.out (by omega) (F8.out.r) _ _ _ _ _ rfl)
  generalize ((((w7.setCell ⟨w.heap.size + 1, 0, none⟩ (.int .i64 Q.kind)).setCell ⟨w.heap.size + 1, 1, none⟩ (.int .i64 Q.num)).setCell ⟨w.heap.size + 1, 2, none⟩ (.string Q.name)).setCell ⟨w.heap.size + 1, 3, none⟩ (.slice ya Q.args.length yc)) = W9 at *
  obtain ⟨k0, k1, k2, k3⟩ : W9.cell? ⟨w.heap.size + 1, 0, none⟩ = some (.int .i64 Q.kind) ∧ W9.cell? ⟨w.heap.size + 1, 1, none⟩ = some (.int .i64 Q.num) ∧ W9.cell? ⟨w.heap.size + 1, 2, none⟩ = some (.string Q.name) ∧ W9.cell? ⟨w.heap.size + 1, 3, none⟩ = some (.slice ya Q.args.length yc) := F9.out.r.cells
  exact bodyPost_ret (v := .tuple #[tv Q (.slice ya Q.args.length yc), .bool o]) (by simp [results, Try.results41, go_sem, k0, k1, k2, k3]) rfl (F9.out.chk0 Y9.out o)

end Go.Proofs.Yteilodihjhdngaa

/- The program's checks that return a value. -/
namespace Go.Proofs.Yteilodihjhdngaa
open Go.RowKit Go.Proofs.HT

theorem chkB_ok {t : Tm} {kd : ByteArray} {q : Bool} (h : chkO t q = true) : chkB t kd q = z0 := by
  simp only [chkO, Bool.and_eq_true, bne, Bool.not_eq_true'] at h
  unfold chkB
  rw [if_pos h.1, if_neg (by rw [h.2.1]; simp), if_pos h.2.2]
theorem Fr.drew {w w1 : World} {t z : Tm} {v y : Value} (h : Fr w w1 t v z y) : Fr w w1.drew t v z y := h.step (Below.refl _ _).drew
def atomS (t : Tm) : ByteArray := if chkO t (t.kind == 2) = true then t.name else ⟨#[]⟩
def intN (t : Tm) : Int := if chkO t (t.kind == 1) = true then t.num else 0

set_option maxHeartbeats 4000000 in
theorem bAtom_any (t : Tm) (v : Value) (w : World) (h : LiesT w t v) : Calls Try.prog 35 #[tv t v] w (Chk1 (.string (atomS t)) (chkB t ⟨#[97, 116, 111, 109]⟩ (t.kind == 2)) (chkO t (t.kind == 2)) w) := by
  obtain ⟨va, vc, rfl⟩ : ∃ a k, v = .slice a t.args.length k := h.slice
  have F0 := Lib.hid (Fr.start w t (.slice va t.args.length vc))
  have HCI := Lib.hid (check_any t _ ⟨#[97, 116, 111, 109]⟩ (t.kind == 2) _ (h.below F0.out.b) (by simp [ByteArray.size]))
  cases ho : chkO t (t.kind == 2)
  · have eV : (.string (atomS t) : Value) = .string ⟨#[]⟩ := by unfold atomS; rw [ho]; rfl
    rw [eV]
    rw [ho] at HCI
    generalize chkB t ⟨#[97, 116, 111, 109]⟩ (t.kind == 2) = Q at *
    clear h ho eV
    obtain ⟨q, hq⟩ : ∃ q, (t.kind == 2) = q := ⟨_, rfl⟩
    rw [hq] at HCI
    simp only [tv]
    go_enter Try.func35, Try.ntmps35
    go_wp2_with fail
    refine HCI.out.mono ?_
    rintro e w7 ⟨y, rfl, hy, hb7⟩
    obtain ⟨ya, yc, rfl⟩ := hy.slice
    have F8 := Lib.hid (F0.out.step hb7)
    have Y8 : Hid (Beh w w7 Q (.slice ya Q.args.length yc)) := Lib.hid (Beh.of hy F0.out.z)
    clear hb7 hy
    obtain ⟨c0, c1, c2, c3⟩ : w7.cell? ⟨w.heap.size + 1, 0, none⟩ = some (.int .i64 0) ∧ w7.cell? ⟨w.heap.size + 1, 1, none⟩ = some (.int .i64 0) ∧ w7.cell? ⟨w.heap.size + 1, 2, none⟩ = some (.string ⟨#[]⟩) ∧ w7.cell? ⟨w.heap.size + 1, 3, none⟩ = some (.slice none 0 0) := F8.out.r.cells
    obtain ⟨f0, f1, f2, f3⟩ := F8.out.r.froz
    go_wp2_with fail
    clear c0 c1 c2 c3 f0 f1 f2 f3
    have F9 : Hid (Fr w ((((w7.setCell ⟨w.heap.size + 1, 0, none⟩ (.int .i64 Q.kind)).setCell ⟨w.heap.size + 1, 1, none⟩ (.int .i64 Q.num)).setCell ⟨w.heap.size + 1, 2, none⟩ (.string Q.name)).setCell ⟨w.heap.size + 1, 3, none⟩ (.slice ya Q.args.length yc)) t (.slice va t.args.length vc) Q (.slice ya Q.args.length yc)) := Lib.hid (F8.out.putR Q (.slice ya Q.args.length yc) _ rfl)
    have Y9 : Hid (Beh w ((((w7.setCell ⟨w.heap.size + 1, 0, none⟩ (.int .i64 Q.kind)).setCell ⟨w.heap.size + 1, 1, none⟩ (.int .i64 Q.num)).setCell ⟨w.heap.size + 1, 2, none⟩ (.string Q.name)).setCell ⟨w.heap.size + 1, 3, none⟩ (.slice ya Q.args.length yc)) Q (.slice ya Q.args.length yc)) := Lib.hid (Beh.put Y8.out (by omega) (F8.out.r) _ _ _ _ _ rfl)
    generalize ((((w7.setCell ⟨w.heap.size + 1, 0, none⟩ (.int .i64 Q.kind)).setCell ⟨w.heap.size + 1, 1, none⟩ (.int .i64 Q.num)).setCell ⟨w.heap.size + 1, 2, none⟩ (.string Q.name)).setCell ⟨w.heap.size + 1, 3, none⟩ (.slice ya Q.args.length yc)) = W9 at *
    obtain ⟨c0, c1, c2, c3⟩ := F9.out.r.cells
    obtain ⟨f0, f1, f2, f3⟩ := F9.out.r.froz
    have FE : Hid (Fr w ((((W9.setCell ⟨w.heap.size + 1, 0, none⟩ (.int .i64 Q.kind)).setCell ⟨w.heap.size + 1, 1, none⟩ (.int .i64 Q.num)).setCell ⟨w.heap.size + 1, 2, none⟩ (.string Q.name)).setCell ⟨w.heap.size + 1, 3, none⟩ (.slice ya Q.args.length yc)).drew t (.slice va t.args.length vc) Q (.slice ya Q.args.length yc)) := Lib.hid (Fr.drew (F9.out.putR Q (.slice ya Q.args.length yc) _ rfl))
    have YE : Hid (Beh w ((((W9.setCell ⟨w.heap.size + 1, 0, none⟩ (.int .i64 Q.kind)).setCell ⟨w.heap.size + 1, 1, none⟩ (.int .i64 Q.num)).setCell ⟨w.heap.size + 1, 2, none⟩ (.string Q.name)).setCell ⟨w.heap.size + 1, 3, none⟩ (.slice ya Q.args.length yc)).drew Q (.slice ya Q.args.length yc)) := Lib.hid (Beh.step (Beh.put Y9.out (by omega) F9.out.r _ _ _ _ _ rfl) (Below.refl _ _).drew)
    have HSX := FE.out.r.cells
    go_region_held3 (fun w' => w'.cell? ⟨w.heap.size + 1, 0, none⟩ = some (.int .i64 Q.kind) ∧ w'.cell? ⟨w.heap.size + 1, 1, none⟩ = some (.int .i64 Q.num) ∧ w'.cell? ⟨w.heap.size + 1, 2, none⟩ = some (.string Q.name) ∧ w'.cell? ⟨w.heap.size + 1, 3, none⟩ = some (.slice ya Q.args.length yc))
      (first | exact HSX | go_keep)
      (fail)
    go_wp2_with fail
    clear c0 c1 c2 c3 f0 f1 f2 f3 HSX
    generalize ((((W9.setCell ⟨w.heap.size + 1, 0, none⟩ (.int .i64 Q.kind)).setCell ⟨w.heap.size + 1, 1, none⟩ (.int .i64 Q.num)).setCell ⟨w.heap.size + 1, 2, none⟩ (.string Q.name)).setCell ⟨w.heap.size + 1, 3, none⟩ (.slice ya Q.args.length yc)).drew = WE at *
    obtain ⟨k0, k1, k2, k3⟩ : WE.cell? ⟨w.heap.size + 1, 0, none⟩ = some (.int .i64 Q.kind) ∧ WE.cell? ⟨w.heap.size + 1, 1, none⟩ = some (.int .i64 Q.num) ∧ WE.cell? ⟨w.heap.size + 1, 2, none⟩ = some (.string Q.name) ∧ WE.cell? ⟨w.heap.size + 1, 3, none⟩ = some (.slice ya Q.args.length yc) := FE.out.r.cells
    exact bodyPost_ret (v := .tuple #[.string ⟨#[]⟩, tv Q (.slice ya Q.args.length yc), .bool false]) (by simp [results, Try.results35, go_sem, k0, k1, k2, k3]) rfl (FE.out.chk1 YE.out (.string ⟨#[]⟩) false)
  · have eV : (.string (atomS t) : Value) = .string t.name := by unfold atomS; rw [ho]; rfl
    rw [eV, chkB_ok ho]
    rw [ho] at HCI
    have HO := Lib.hid ho
    generalize chkB t ⟨#[97, 116, 111, 109]⟩ (t.kind == 2) = Q at *
    clear h ho eV
    obtain ⟨q, hq⟩ : ∃ q, (t.kind == 2) = q := ⟨_, rfl⟩
    rw [hq] at HCI
    simp only [tv]
    go_enter Try.func35, Try.ntmps35
    go_wp2_with fail
    refine HCI.out.mono ?_
    rintro e w7 ⟨y, rfl, hy, hb7⟩
    obtain ⟨ya, yc, rfl⟩ := hy.slice
    have F8 := Lib.hid (F0.out.step hb7)
    have Y8 : Hid (Beh w w7 Q (.slice ya Q.args.length yc)) := Lib.hid (Beh.of hy F0.out.z)
    clear hb7 hy
    obtain ⟨p0, p1, p2, p3⟩ := F8.out.p.cells
    obtain ⟨c0, c1, c2, c3⟩ : w7.cell? ⟨w.heap.size + 1, 0, none⟩ = some (.int .i64 0) ∧ w7.cell? ⟨w.heap.size + 1, 1, none⟩ = some (.int .i64 0) ∧ w7.cell? ⟨w.heap.size + 1, 2, none⟩ = some (.string ⟨#[]⟩) ∧ w7.cell? ⟨w.heap.size + 1, 3, none⟩ = some (.slice none 0 0) := F8.out.r.cells
    obtain ⟨f0, f1, f2, f3⟩ := F8.out.r.froz
    go_wp2_with fail
    clear c0 c1 c2 c3 f0 f1 f2 f3
    clear p0 p1 p2 p3
    have F9 : Hid (Fr w ((((((((w7.setCell ⟨w.heap.size + 1, 0, none⟩ (.int .i64 Q.kind)).setCell ⟨w.heap.size + 1, 1, none⟩ (.int .i64 Q.num)).setCell ⟨w.heap.size + 1, 2, none⟩ (.string Q.name)).setCell ⟨w.heap.size + 1, 3, none⟩ (.slice ya Q.args.length yc)).setCell ⟨w.heap.size + 1, 0, none⟩ (.int .i64 0)).setCell ⟨w.heap.size + 1, 1, none⟩ (.int .i64 0)).setCell ⟨w.heap.size + 1, 2, none⟩ (.string ⟨#[]⟩)).setCell ⟨w.heap.size + 1, 3, none⟩ (.slice none 0 0)) t (.slice va t.args.length vc) z0 (.slice none 0 0)) := Lib.hid ((F8.out.putR Q (.slice ya Q.args.length yc) _ rfl).putR z0 (.slice none 0 0) _ rfl)
    generalize ((((((((w7.setCell ⟨w.heap.size + 1, 0, none⟩ (.int .i64 Q.kind)).setCell ⟨w.heap.size + 1, 1, none⟩ (.int .i64 Q.num)).setCell ⟨w.heap.size + 1, 2, none⟩ (.string Q.name)).setCell ⟨w.heap.size + 1, 3, none⟩ (.slice ya Q.args.length yc)).setCell ⟨w.heap.size + 1, 0, none⟩ (.int .i64 0)).setCell ⟨w.heap.size + 1, 1, none⟩ (.int .i64 0)).setCell ⟨w.heap.size + 1, 2, none⟩ (.string ⟨#[]⟩)).setCell ⟨w.heap.size + 1, 3, none⟩ (.slice none 0 0)) = WZ at *
    obtain ⟨k0, k1, k2, k3⟩ : WZ.cell? ⟨w.heap.size + 1, 0, none⟩ = some (.int .i64 0) ∧ WZ.cell? ⟨w.heap.size + 1, 1, none⟩ = some (.int .i64 0) ∧ WZ.cell? ⟨w.heap.size + 1, 2, none⟩ = some (.string ⟨#[]⟩) ∧ WZ.cell? ⟨w.heap.size + 1, 3, none⟩ = some (.slice none 0 0) := F9.out.r.cells
    exact bodyPost_ret (v := .tuple #[.string t.name, zv, .bool true]) (by simp [results, Try.results35, go_sem, k0, k1, k2, k3]) rfl (F9.out.chk1 (Beh.zero _ _) (.string t.name) true)

set_option maxHeartbeats 4000000 in
theorem bInt_any (t : Tm) (v : Value) (w : World) (h : LiesT w t v) : Calls Try.prog 37 #[tv t v] w (Chk1 (.int .i64 (intN t)) (chkB t ⟨#[105, 110, 116, 101, 103, 101, 114]⟩ (t.kind == 1)) (chkO t (t.kind == 1)) w) := by
  obtain ⟨va, vc, rfl⟩ : ∃ a k, v = .slice a t.args.length k := h.slice
  have F0 := Lib.hid (Fr.start w t (.slice va t.args.length vc))
  have HCI := Lib.hid (check_any t _ ⟨#[105, 110, 116, 101, 103, 101, 114]⟩ (t.kind == 1) _ (h.below F0.out.b) (by simp [ByteArray.size]))
  cases ho : chkO t (t.kind == 1)
  · have eV : (.int .i64 (intN t) : Value) = .int .i64 0 := by unfold intN; rw [ho]; rfl
    rw [eV]
    rw [ho] at HCI
    generalize chkB t ⟨#[105, 110, 116, 101, 103, 101, 114]⟩ (t.kind == 1) = Q at *
    clear h ho eV
    obtain ⟨q, hq⟩ : ∃ q, (t.kind == 1) = q := ⟨_, rfl⟩
    rw [hq] at HCI
    simp only [tv]
    go_enter Try.func37, Try.ntmps37
    go_wp2_with fail
    refine HCI.out.mono ?_
    rintro e w7 ⟨y, rfl, hy, hb7⟩
    obtain ⟨ya, yc, rfl⟩ := hy.slice
    have F8 := Lib.hid (F0.out.step hb7)
    have Y8 : Hid (Beh w w7 Q (.slice ya Q.args.length yc)) := Lib.hid (Beh.of hy F0.out.z)
    clear hb7 hy
    obtain ⟨c0, c1, c2, c3⟩ : w7.cell? ⟨w.heap.size + 1, 0, none⟩ = some (.int .i64 0) ∧ w7.cell? ⟨w.heap.size + 1, 1, none⟩ = some (.int .i64 0) ∧ w7.cell? ⟨w.heap.size + 1, 2, none⟩ = some (.string ⟨#[]⟩) ∧ w7.cell? ⟨w.heap.size + 1, 3, none⟩ = some (.slice none 0 0) := F8.out.r.cells
    obtain ⟨f0, f1, f2, f3⟩ := F8.out.r.froz
    go_wp2_with fail
    clear c0 c1 c2 c3 f0 f1 f2 f3
    have F9 : Hid (Fr w ((((w7.setCell ⟨w.heap.size + 1, 0, none⟩ (.int .i64 Q.kind)).setCell ⟨w.heap.size + 1, 1, none⟩ (.int .i64 Q.num)).setCell ⟨w.heap.size + 1, 2, none⟩ (.string Q.name)).setCell ⟨w.heap.size + 1, 3, none⟩ (.slice ya Q.args.length yc)) t (.slice va t.args.length vc) Q (.slice ya Q.args.length yc)) := Lib.hid (F8.out.putR Q (.slice ya Q.args.length yc) _ rfl)
    have Y9 : Hid (Beh w ((((w7.setCell ⟨w.heap.size + 1, 0, none⟩ (.int .i64 Q.kind)).setCell ⟨w.heap.size + 1, 1, none⟩ (.int .i64 Q.num)).setCell ⟨w.heap.size + 1, 2, none⟩ (.string Q.name)).setCell ⟨w.heap.size + 1, 3, none⟩ (.slice ya Q.args.length yc)) Q (.slice ya Q.args.length yc)) := Lib.hid (Beh.put Y8.out (by omega) (F8.out.r) _ _ _ _ _ rfl)
    generalize ((((w7.setCell ⟨w.heap.size + 1, 0, none⟩ (.int .i64 Q.kind)).setCell ⟨w.heap.size + 1, 1, none⟩ (.int .i64 Q.num)).setCell ⟨w.heap.size + 1, 2, none⟩ (.string Q.name)).setCell ⟨w.heap.size + 1, 3, none⟩ (.slice ya Q.args.length yc)) = W9 at *
    obtain ⟨c0, c1, c2, c3⟩ := F9.out.r.cells
    obtain ⟨f0, f1, f2, f3⟩ := F9.out.r.froz
    have FE : Hid (Fr w ((((W9.setCell ⟨w.heap.size + 1, 0, none⟩ (.int .i64 Q.kind)).setCell ⟨w.heap.size + 1, 1, none⟩ (.int .i64 Q.num)).setCell ⟨w.heap.size + 1, 2, none⟩ (.string Q.name)).setCell ⟨w.heap.size + 1, 3, none⟩ (.slice ya Q.args.length yc)).drew t (.slice va t.args.length vc) Q (.slice ya Q.args.length yc)) := Lib.hid (Fr.drew (F9.out.putR Q (.slice ya Q.args.length yc) _ rfl))
    have YE : Hid (Beh w ((((W9.setCell ⟨w.heap.size + 1, 0, none⟩ (.int .i64 Q.kind)).setCell ⟨w.heap.size + 1, 1, none⟩ (.int .i64 Q.num)).setCell ⟨w.heap.size + 1, 2, none⟩ (.string Q.name)).setCell ⟨w.heap.size + 1, 3, none⟩ (.slice ya Q.args.length yc)).drew Q (.slice ya Q.args.length yc)) := Lib.hid (Beh.step (Beh.put Y9.out (by omega) F9.out.r _ _ _ _ _ rfl) (Below.refl _ _).drew)
    have HSX := FE.out.r.cells
    go_region_held3 (fun w' => w'.cell? ⟨w.heap.size + 1, 0, none⟩ = some (.int .i64 Q.kind) ∧ w'.cell? ⟨w.heap.size + 1, 1, none⟩ = some (.int .i64 Q.num) ∧ w'.cell? ⟨w.heap.size + 1, 2, none⟩ = some (.string Q.name) ∧ w'.cell? ⟨w.heap.size + 1, 3, none⟩ = some (.slice ya Q.args.length yc))
      (first | exact HSX | go_keep)
      (fail)
    go_wp2_with fail
    clear c0 c1 c2 c3 f0 f1 f2 f3 HSX
    generalize ((((W9.setCell ⟨w.heap.size + 1, 0, none⟩ (.int .i64 Q.kind)).setCell ⟨w.heap.size + 1, 1, none⟩ (.int .i64 Q.num)).setCell ⟨w.heap.size + 1, 2, none⟩ (.string Q.name)).setCell ⟨w.heap.size + 1, 3, none⟩ (.slice ya Q.args.length yc)).drew = WE at *
    obtain ⟨k0, k1, k2, k3⟩ : WE.cell? ⟨w.heap.size + 1, 0, none⟩ = some (.int .i64 Q.kind) ∧ WE.cell? ⟨w.heap.size + 1, 1, none⟩ = some (.int .i64 Q.num) ∧ WE.cell? ⟨w.heap.size + 1, 2, none⟩ = some (.string Q.name) ∧ WE.cell? ⟨w.heap.size + 1, 3, none⟩ = some (.slice ya Q.args.length yc) := FE.out.r.cells
    exact bodyPost_ret (v := .tuple #[.int .i64 0, tv Q (.slice ya Q.args.length yc), .bool false]) (by simp [results, Try.results37, go_sem, k0, k1, k2, k3]) rfl (FE.out.chk1 YE.out (.int .i64 0) false)
  · have eV : (.int .i64 (intN t) : Value) = .int .i64 t.num := by unfold intN; rw [ho]; rfl
    rw [eV, chkB_ok ho]
    rw [ho] at HCI
    have HO := Lib.hid ho
    generalize chkB t ⟨#[105, 110, 116, 101, 103, 101, 114]⟩ (t.kind == 1) = Q at *
    clear h ho eV
    obtain ⟨q, hq⟩ : ∃ q, (t.kind == 1) = q := ⟨_, rfl⟩
    rw [hq] at HCI
    simp only [tv]
    go_enter Try.func37, Try.ntmps37
    go_wp2_with fail
    refine HCI.out.mono ?_
    rintro e w7 ⟨y, rfl, hy, hb7⟩
    obtain ⟨ya, yc, rfl⟩ := hy.slice
    have F8 := Lib.hid (F0.out.step hb7)
    have Y8 : Hid (Beh w w7 Q (.slice ya Q.args.length yc)) := Lib.hid (Beh.of hy F0.out.z)
    clear hb7 hy
    obtain ⟨p0, p1, p2, p3⟩ := F8.out.p.cells
    obtain ⟨c0, c1, c2, c3⟩ : w7.cell? ⟨w.heap.size + 1, 0, none⟩ = some (.int .i64 0) ∧ w7.cell? ⟨w.heap.size + 1, 1, none⟩ = some (.int .i64 0) ∧ w7.cell? ⟨w.heap.size + 1, 2, none⟩ = some (.string ⟨#[]⟩) ∧ w7.cell? ⟨w.heap.size + 1, 3, none⟩ = some (.slice none 0 0) := F8.out.r.cells
    obtain ⟨f0, f1, f2, f3⟩ := F8.out.r.froz
    go_wp2_with fail
    clear c0 c1 c2 c3 f0 f1 f2 f3
    clear p0 p1 p2 p3
    have F9 : Hid (Fr w ((((((((w7.setCell ⟨w.heap.size + 1, 0, none⟩ (.int .i64 Q.kind)).setCell ⟨w.heap.size + 1, 1, none⟩ (.int .i64 Q.num)).setCell ⟨w.heap.size + 1, 2, none⟩ (.string Q.name)).setCell ⟨w.heap.size + 1, 3, none⟩ (.slice ya Q.args.length yc)).setCell ⟨w.heap.size + 1, 0, none⟩ (.int .i64 0)).setCell ⟨w.heap.size + 1, 1, none⟩ (.int .i64 0)).setCell ⟨w.heap.size + 1, 2, none⟩ (.string ⟨#[]⟩)).setCell ⟨w.heap.size + 1, 3, none⟩ (.slice none 0 0)) t (.slice va t.args.length vc) z0 (.slice none 0 0)) := Lib.hid ((F8.out.putR Q (.slice ya Q.args.length yc) _ rfl).putR z0 (.slice none 0 0) _ rfl)
    generalize ((((((((w7.setCell ⟨w.heap.size + 1, 0, none⟩ (.int .i64 Q.kind)).setCell ⟨w.heap.size + 1, 1, none⟩ (.int .i64 Q.num)).setCell ⟨w.heap.size + 1, 2, none⟩ (.string Q.name)).setCell ⟨w.heap.size + 1, 3, none⟩ (.slice ya Q.args.length yc)).setCell ⟨w.heap.size + 1, 0, none⟩ (.int .i64 0)).setCell ⟨w.heap.size + 1, 1, none⟩ (.int .i64 0)).setCell ⟨w.heap.size + 1, 2, none⟩ (.string ⟨#[]⟩)).setCell ⟨w.heap.size + 1, 3, none⟩ (.slice none 0 0)) = WZ at *
    obtain ⟨k0, k1, k2, k3⟩ : WZ.cell? ⟨w.heap.size + 1, 0, none⟩ = some (.int .i64 0) ∧ WZ.cell? ⟨w.heap.size + 1, 1, none⟩ = some (.int .i64 0) ∧ WZ.cell? ⟨w.heap.size + 1, 2, none⟩ = some (.string ⟨#[]⟩) ∧ WZ.cell? ⟨w.heap.size + 1, 3, none⟩ = some (.slice none 0 0) := F9.out.r.cells
    exact bodyPost_ret (v := .tuple #[.int .i64 t.num, zv, .bool true]) (by simp [results, Try.results37, go_sem, k0, k1, k2, k3]) rfl (F9.out.chk1 (Beh.zero _ _) (.int .i64 t.num) true)

end Go.Proofs.Yteilodihjhdngaa
