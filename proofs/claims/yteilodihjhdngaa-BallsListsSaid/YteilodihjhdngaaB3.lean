/- The program's Char. -/
import Derived.Test.YteilodihjhdngaaBG
import Derived.Test.YteilodihjhdngaaB2
namespace Go.Proofs.Yteilodihjhdngaa
open Go.RowKit Go.Proofs.HT

theorem wrapB (b : UInt8) : wrap64 ((b.toNat : Nat) : Int) = b.toNat := by
  have h := b.toNat_lt
  exact IntWalk.wrap64_in _ (by omega)
def chQ (t : Tm) : Bool := (t.kind == 2) && decide (t.name.size = 1)
def chN (t : Tm) : Int := if chkO t (chQ t) = true then (t.name.data.toList.headD 0).toNat else 0
set_option maxHeartbeats 8000000 in
theorem Char_any (t : Tm) (v : Value) (w : World) (h : LiesT w t v) : Calls Try.prog 45 #[tv t v] w (Chk1 (.int .i64 (chN t)) (chkB t ⟨#[99, 104, 97, 114, 97, 99, 116, 101, 114]⟩ (chQ t)) (chkO t (chQ t)) w) := by
  obtain ⟨va, vc, rfl⟩ : ∃ a k, v = .slice a t.args.length k := h.slice
  have F0 := Lib.hid (Fr.start w t (.slice va t.args.length vc))
  have HCI := Lib.hid (check_any t _ ⟨#[99, 104, 97, 114, 97, 99, 116, 101, 114]⟩ (chQ t) _ (h.below F0.out.b) (by simp [ByteArray.size]))
  obtain ⟨s, hs⟩ : ∃ s, t.name.size = s := ⟨_, rfl⟩
  cases ho : chkO t (chQ t)
  · have eV : chN t = 0 := by unfold chN; rw [ho]; rfl
    rw [eV]
    rw [ho] at HCI
    generalize chkB t ⟨#[99, 104, 97, 114, 97, 99, 116, 101, 114]⟩ (chQ t) = Q at *
    have hq : chQ t = ((t.kind == 2) && decide (s = 1)) := by unfold chQ; rw [hs]
    rw [hq] at HCI
    obtain ⟨x, hx⟩ : ∃ x, decide (s = 1) = x := ⟨_, rfl⟩
    have d1 : ((s : Int) == 1) = x := by rw [← hx, Bool.eq_iff_iff]; simp; omega
    rw [hx] at HCI
    have HS := Lib.hid hs
    clear h ho eV hq hx
    simp only [tv]
    rcases Bool.eq_false_or_eq_true (t.kind == 2) with h1 | h1
    · rw [h1, Bool.true_and] at HCI
      go_enter Try.func45, Try.ntmps45
      go_wp2_with fail
      refine HCI.out.mono ?_
      rintro e w7 ⟨y, rfl, hy, hb7⟩
      obtain ⟨ya, yc, rfl⟩ := hy.slice
      have F8 := Lib.hid (F0.out.step hb7)
      have Y8 : Hid (Beh w w7 Q (.slice ya Q.args.length yc)) := Lib.hid (Beh.of hy F0.out.z)
      clear hb7 hy
      obtain ⟨c0, c1, c2, c3⟩ : w7.cell? ⟨w.heap.size + 1, 0, none⟩ = some (.int .i64 0) ∧ w7.cell? ⟨w.heap.size + 1, 1, none⟩ = some (.int .i64 0) ∧ w7.cell? ⟨w.heap.size + 1, 2, none⟩ = some (.string ⟨#[]⟩) ∧ w7.cell? ⟨w.heap.size + 1, 3, none⟩ = some (.slice none 0 0) := F8.out.r.cells
      obtain ⟨f0, f1, f2, f3⟩ := F8.out.r.froz
      go_wp2_with fail
      clear c0 c1 c2 c3 f0 f1 f2 f3
      have F9 : Hid (Fr w ((((w7.setCell ⟨w.heap.size + 1, 0, none⟩ (.int .i64 Q.kind)).setCell ⟨w.heap.size + 1, 1, none⟩ (.int .i64 Q.num)).setCell ⟨w.heap.size + 1, 2, none⟩ (.string Q.name)).setCell ⟨w.heap.size + 1, 3, none⟩ (.slice ya Q.args.length yc)) t (.slice va t.args.length vc) Q (.slice ya Q.args.length yc)) := Lib.hid (F8.out.putR Q (.slice ya Q.args.length yc) _ rfl)
      have Y9 : Hid (Beh w ((((w7.setCell ⟨w.heap.size + 1, 0, none⟩ (.int .i64 Q.kind)).setCell ⟨w.heap.size + 1, 1, none⟩ (.int .i64 Q.num)).setCell ⟨w.heap.size + 1, 2, none⟩ (.string Q.name)).setCell ⟨w.heap.size + 1, 3, none⟩ (.slice ya Q.args.length yc)) Q (.slice ya Q.args.length yc)) := Lib.hid (Beh.put Y8.out (by omega) (F8.out.r) _ _ _ _ _ rfl)
      generalize ((((w7.setCell ⟨w.heap.size + 1, 0, none⟩ (.int .i64 Q.kind)).setCell ⟨w.heap.size + 1, 1, none⟩ (.int .i64 Q.num)).setCell ⟨w.heap.size + 1, 2, none⟩ (.string Q.name)).setCell ⟨w.heap.size + 1, 3, none⟩ (.slice ya Q.args.length yc)) = W9 at *
      obtain ⟨c0, c1, c2, c3⟩ := F9.out.r.cells
      obtain ⟨f0, f1, f2, f3⟩ := F9.out.r.froz
      have FE : Hid (Fr w ((((W9.setCell ⟨w.heap.size + 1, 0, none⟩ (.int .i64 Q.kind)).setCell ⟨w.heap.size + 1, 1, none⟩ (.int .i64 Q.num)).setCell ⟨w.heap.size + 1, 2, none⟩ (.string Q.name)).setCell ⟨w.heap.size + 1, 3, none⟩ (.slice ya Q.args.length yc)).drew t (.slice va t.args.length vc) Q (.slice ya Q.args.length yc)) := Lib.hid (Fr.drew (F9.out.putR Q (.slice ya Q.args.length yc) _ rfl))
      have YE : Hid (Beh w ((((W9.setCell ⟨w.heap.size + 1, 0, none⟩ (.int .i64 Q.kind)).setCell ⟨w.heap.size + 1, 1, none⟩ (.int .i64 Q.num)).setCell ⟨w.heap.size + 1, 2, none⟩ (.string Q.name)).setCell ⟨w.heap.size + 1, 3, none⟩ (.slice ya Q.args.length yc)).drew Q (.slice ya Q.args.length yc)) := Lib.hid (Beh.step (Beh.put Y9.out (by omega) F9.out.r _ _ _ _ _ rfl) (Below.refl _ _).drew)
      have HSX := FE.out.r.cells
      go_region_held3 (fun w' => w'.cell? ⟨w.heap.size + 1, 0, none⟩ = some (.int .i64 Q.kind) ∧ w'.cell? ⟨w.heap.size + 1, 1, none⟩ = some (.int .i64 Q.num) ∧ w'.cell? ⟨w.heap.size + 1, 2, none⟩ = some (.string Q.name) ∧ w'.cell? ⟨w.heap.size + 1, 3, none⟩ = some (.slice ya Q.args.length yc))
        (first | exact HSX | go_keep)
        (fail)
      go_wp2_with fail
      clear c0 c1 c2 c3 f0 f1 f2 f3 HSX
      generalize ((((W9.setCell ⟨w.heap.size + 1, 0, none⟩ (.int .i64 Q.kind)).setCell ⟨w.heap.size + 1, 1, none⟩ (.int .i64 Q.num)).setCell ⟨w.heap.size + 1, 2, none⟩ (.string Q.name)).setCell ⟨w.heap.size + 1, 3, none⟩ (.slice ya Q.args.length yc)).drew = WE at *
      obtain ⟨k0, k1, k2, k3⟩ : WE.cell? ⟨w.heap.size + 1, 0, none⟩ = some (.int .i64 Q.kind) ∧ WE.cell? ⟨w.heap.size + 1, 1, none⟩ = some (.int .i64 Q.num) ∧ WE.cell? ⟨w.heap.size + 1, 2, none⟩ = some (.string Q.name) ∧ WE.cell? ⟨w.heap.size + 1, 3, none⟩ = some (.slice ya Q.args.length yc) := FE.out.r.cells
      exact bodyPost_ret (v := .tuple #[.int .i64 0, tv Q (.slice ya Q.args.length yc), .bool false]) (by simp [results, Try.results45, go_sem, k0, k1, k2, k3]) rfl (FE.out.chk1 YE.out (.int .i64 0) false)
    · rw [h1, Bool.false_and] at HCI
      go_enter Try.func45, Try.ntmps45
      go_wp2_with fail
      refine HCI.out.mono ?_
      rintro e w7 ⟨y, rfl, hy, hb7⟩
      obtain ⟨ya, yc, rfl⟩ := hy.slice
      have F8 := Lib.hid (F0.out.step hb7)
      have Y8 : Hid (Beh w w7 Q (.slice ya Q.args.length yc)) := Lib.hid (Beh.of hy F0.out.z)
      clear hb7 hy
      obtain ⟨c0, c1, c2, c3⟩ : w7.cell? ⟨w.heap.size + 1, 0, none⟩ = some (.int .i64 0) ∧ w7.cell? ⟨w.heap.size + 1, 1, none⟩ = some (.int .i64 0) ∧ w7.cell? ⟨w.heap.size + 1, 2, none⟩ = some (.string ⟨#[]⟩) ∧ w7.cell? ⟨w.heap.size + 1, 3, none⟩ = some (.slice none 0 0) := F8.out.r.cells
      obtain ⟨f0, f1, f2, f3⟩ := F8.out.r.froz
      go_wp2_with fail
      clear c0 c1 c2 c3 f0 f1 f2 f3
      have F9 : Hid (Fr w ((((w7.setCell ⟨w.heap.size + 1, 0, none⟩ (.int .i64 Q.kind)).setCell ⟨w.heap.size + 1, 1, none⟩ (.int .i64 Q.num)).setCell ⟨w.heap.size + 1, 2, none⟩ (.string Q.name)).setCell ⟨w.heap.size + 1, 3, none⟩ (.slice ya Q.args.length yc)) t (.slice va t.args.length vc) Q (.slice ya Q.args.length yc)) := Lib.hid (F8.out.putR Q (.slice ya Q.args.length yc) _ rfl)
      have Y9 : Hid (Beh w ((((w7.setCell ⟨w.heap.size + 1, 0, none⟩ (.int .i64 Q.kind)).setCell ⟨w.heap.size + 1, 1, none⟩ (.int .i64 Q.num)).setCell ⟨w.heap.size + 1, 2, none⟩ (.string Q.name)).setCell ⟨w.heap.size + 1, 3, none⟩ (.slice ya Q.args.length yc)) Q (.slice ya Q.args.length yc)) := Lib.hid (Beh.put Y8.out (by omega) (F8.out.r) _ _ _ _ _ rfl)
      generalize ((((w7.setCell ⟨w.heap.size + 1, 0, none⟩ (.int .i64 Q.kind)).setCell ⟨w.heap.size + 1, 1, none⟩ (.int .i64 Q.num)).setCell ⟨w.heap.size + 1, 2, none⟩ (.string Q.name)).setCell ⟨w.heap.size + 1, 3, none⟩ (.slice ya Q.args.length yc)) = W9 at *
      obtain ⟨c0, c1, c2, c3⟩ := F9.out.r.cells
      obtain ⟨f0, f1, f2, f3⟩ := F9.out.r.froz
      have FE : Hid (Fr w ((((W9.setCell ⟨w.heap.size + 1, 0, none⟩ (.int .i64 Q.kind)).setCell ⟨w.heap.size + 1, 1, none⟩ (.int .i64 Q.num)).setCell ⟨w.heap.size + 1, 2, none⟩ (.string Q.name)).setCell ⟨w.heap.size + 1, 3, none⟩ (.slice ya Q.args.length yc)).drew t (.slice va t.args.length vc) Q (.slice ya Q.args.length yc)) := Lib.hid (Fr.drew (F9.out.putR Q (.slice ya Q.args.length yc) _ rfl))
      have YE : Hid (Beh w ((((W9.setCell ⟨w.heap.size + 1, 0, none⟩ (.int .i64 Q.kind)).setCell ⟨w.heap.size + 1, 1, none⟩ (.int .i64 Q.num)).setCell ⟨w.heap.size + 1, 2, none⟩ (.string Q.name)).setCell ⟨w.heap.size + 1, 3, none⟩ (.slice ya Q.args.length yc)).drew Q (.slice ya Q.args.length yc)) := Lib.hid (Beh.step (Beh.put Y9.out (by omega) F9.out.r _ _ _ _ _ rfl) (Below.refl _ _).drew)
      have HSX := FE.out.r.cells
      go_region_held3 (fun w' => w'.cell? ⟨w.heap.size + 1, 0, none⟩ = some (.int .i64 Q.kind) ∧ w'.cell? ⟨w.heap.size + 1, 1, none⟩ = some (.int .i64 Q.num) ∧ w'.cell? ⟨w.heap.size + 1, 2, none⟩ = some (.string Q.name) ∧ w'.cell? ⟨w.heap.size + 1, 3, none⟩ = some (.slice ya Q.args.length yc))
        (first | exact HSX | go_keep)
        (fail)
      go_wp2_with fail
      clear c0 c1 c2 c3 f0 f1 f2 f3 HSX
      generalize ((((W9.setCell ⟨w.heap.size + 1, 0, none⟩ (.int .i64 Q.kind)).setCell ⟨w.heap.size + 1, 1, none⟩ (.int .i64 Q.num)).setCell ⟨w.heap.size + 1, 2, none⟩ (.string Q.name)).setCell ⟨w.heap.size + 1, 3, none⟩ (.slice ya Q.args.length yc)).drew = WE at *
      obtain ⟨k0, k1, k2, k3⟩ : WE.cell? ⟨w.heap.size + 1, 0, none⟩ = some (.int .i64 Q.kind) ∧ WE.cell? ⟨w.heap.size + 1, 1, none⟩ = some (.int .i64 Q.num) ∧ WE.cell? ⟨w.heap.size + 1, 2, none⟩ = some (.string Q.name) ∧ WE.cell? ⟨w.heap.size + 1, 3, none⟩ = some (.slice ya Q.args.length yc) := FE.out.r.cells
      exact bodyPost_ret (v := .tuple #[.int .i64 0, tv Q (.slice ya Q.args.length yc), .bool false]) (by simp [results, Try.results45, go_sem, k0, k1, k2, k3]) rfl (FE.out.chk1 YE.out (.int .i64 0) false)
  · have hq : chQ t = true := by
      cases hq : chQ t
      · rw [hq] at ho; simp [chkO] at ho
      · rfl
    have hq2 : (t.kind == 2) = true ∧ s = 1 := by
      have h := hq
      simp only [chQ, Bool.and_eq_true, decide_eq_true_eq] at h
      exact ⟨h.1, by omega⟩
    obtain ⟨h1, rfl⟩ := hq2
    obtain ⟨b, hb⟩ : ∃ b, t.name = ⟨#[b]⟩ := by
      rcases hnm : t.name with ⟨⟨l⟩⟩
      rw [hnm] at hs
      match l, hs with
      | [b], _ => exact ⟨b, rfl⟩
    have eV : chN t = b.toNat := by unfold chN; rw [ho, hb]; rfl
    rw [eV, chkB_ok ho]
    rw [ho, chkB_ok ho, hq] at HCI
    obtain ⟨Q, hQ⟩ : ∃ Q, z0 = Q := ⟨_, rfl⟩
    rw [hQ] at HCI
    have F0 : Hid (Fr w ((w.alloc (.cells #[.int .i64 t.kind, .int .i64 t.num, .string ⟨#[b]⟩, .slice va t.args.length vc] 24)).alloc (.cells #[.int .i64 0, .int .i64 0, .string ⟨#[]⟩, .slice none 0 0] 24)) t (.slice va t.args.length vc) z0 (.slice none 0 0)) := Lib.hid (by rw [← hb]; exact F0.out)
    have FP : Hid (∀ w1 z y, Fr w w1 t (.slice va t.args.length vc) z y → w1.cell? ⟨w.heap.size, 2, none⟩ = some (.string ⟨#[b]⟩)) := Lib.hid (fun w1 z y h => by rw [← hb]; exact h.p.cells.2.2.1)
    simp only [tv] at HCI ⊢
    rw [hb] at HCI ⊢
    clear h ho eV hq hs hb hQ
    go_enter Try.func45, Try.ntmps45
    go_wp2_with fail
    refine HCI.out.mono ?_
    rintro e w7 ⟨y, rfl, hy, hb7⟩
    obtain ⟨ya, yc, rfl⟩ := hy.slice
    have F8 := Lib.hid (F0.out.step hb7)
    have Y8 : Hid (Beh w w7 Q (.slice ya Q.args.length yc)) := Lib.hid (Beh.of hy F0.out.z)
    clear hb7 hy
    obtain ⟨p0, p1, px, p3⟩ := F8.out.p.cells
    clear px
    have p2 := FP.out _ _ _ F8.out
    obtain ⟨c0, c1, c2, c3⟩ : w7.cell? ⟨w.heap.size + 1, 0, none⟩ = some (.int .i64 0) ∧ w7.cell? ⟨w.heap.size + 1, 1, none⟩ = some (.int .i64 0) ∧ w7.cell? ⟨w.heap.size + 1, 2, none⟩ = some (.string ⟨#[]⟩) ∧ w7.cell? ⟨w.heap.size + 1, 3, none⟩ = some (.slice none 0 0) := F8.out.r.cells
    obtain ⟨f0, f1, f2, f3⟩ := F8.out.r.froz
    go_wp2_with fail
    clear c0 c1 c2 c3 f0 f1 f2 f3
    clear p0 p1 p2 p3
    have F9 : Hid (Fr w ((((((((w7.setCell ⟨w.heap.size + 1, 0, none⟩ (.int .i64 Q.kind)).setCell ⟨w.heap.size + 1, 1, none⟩ (.int .i64 Q.num)).setCell ⟨w.heap.size + 1, 2, none⟩ (.string Q.name)).setCell ⟨w.heap.size + 1, 3, none⟩ (.slice ya Q.args.length yc)).setCell ⟨w.heap.size + 1, 0, none⟩ (.int .i64 0)).setCell ⟨w.heap.size + 1, 1, none⟩ (.int .i64 0)).setCell ⟨w.heap.size + 1, 2, none⟩ (.string ⟨#[]⟩)).setCell ⟨w.heap.size + 1, 3, none⟩ (.slice none 0 0)) t (.slice va t.args.length vc) z0 (.slice none 0 0)) := Lib.hid ((F8.out.putR Q (.slice ya Q.args.length yc) _ rfl).putR z0 (.slice none 0 0) _ rfl)
    generalize ((((((((w7.setCell ⟨w.heap.size + 1, 0, none⟩ (.int .i64 Q.kind)).setCell ⟨w.heap.size + 1, 1, none⟩ (.int .i64 Q.num)).setCell ⟨w.heap.size + 1, 2, none⟩ (.string Q.name)).setCell ⟨w.heap.size + 1, 3, none⟩ (.slice ya Q.args.length yc)).setCell ⟨w.heap.size + 1, 0, none⟩ (.int .i64 0)).setCell ⟨w.heap.size + 1, 1, none⟩ (.int .i64 0)).setCell ⟨w.heap.size + 1, 2, none⟩ (.string ⟨#[]⟩)).setCell ⟨w.heap.size + 1, 3, none⟩ (.slice none 0 0)) = WZ at *
    obtain ⟨k0, k1, k2, k3⟩ : WZ.cell? ⟨w.heap.size + 1, 0, none⟩ = some (.int .i64 0) ∧ WZ.cell? ⟨w.heap.size + 1, 1, none⟩ = some (.int .i64 0) ∧ WZ.cell? ⟨w.heap.size + 1, 2, none⟩ = some (.string ⟨#[]⟩) ∧ WZ.cell? ⟨w.heap.size + 1, 3, none⟩ = some (.slice none 0 0) := F9.out.r.cells
    exact bodyPost_ret (v := .tuple #[.int .i64 (b.toNat : Nat), zv, .bool true]) (by simp [results, Try.results45, go_sem, k0, k1, k2, k3]; exact wrapB b) rfl (F9.out.chk1 (Beh.zero _ _) (.int .i64 (b.toNat : Nat)) true)

end Go.Proofs.Yteilodihjhdngaa

/- The program's Formal. -/
namespace Go.Proofs.Yteilodihjhdngaa
open Go.RowKit Go.Proofs.HT

/-- An argument in memory. -/
theorem arg_at {w : World} {t : Tm} {va : Option Addr} {n vc : Nat} (h : LiesT w t (.slice va n vc)) (i : Nat) (hi : i < t.args.length) : n = t.args.length ∧ ∃ b off u c, va = some ⟨b, off, none⟩ ∧ w.cell? ⟨b, off + i * 4, none⟩ = some (.int .i64 t.args[i].kind) ∧ w.cell? ⟨b, off + i * 4 + 1, none⟩ = some (.int .i64 t.args[i].num) ∧ w.cell? ⟨b, off + i * 4 + 2, none⟩ = some (.string t.args[i].name) ∧ w.cell? ⟨b, off + i * 4 + 3, none⟩ = some (.slice u t.args[i].args.length c) ∧ LiesT w t.args[i] (.slice u t.args[i].args.length c) := by
  match t, h, hi with
  | .mk k m s ts, h, hi =>
    rcases h.len with ⟨rfl, _⟩ | ⟨b, o, cap, e, _, _, _, hl⟩
    · simp [Tm.args] at hi
    · obtain ⟨u, c0, c1, c2, c3, hu⟩ := hl.at i hi
      obtain ⟨ua, uc, rfl⟩ := hu.slice
      simp only [Value.slice.injEq] at e
      exact ⟨e.2.1, b, o, ua, uc, e.1, c0, c1, c2, c3, hu⟩
theorem valid_arg {t : Tm} (h : validB t = true) (i : Nat) (hi : i < t.args.length) : validB t.args[i] = true := by
  match t, h, hi with
  | .mk k m s ts, h, hi =>
    simp only [validB, Bool.and_eq_true, decide_eq_true_eq] at h ⊢
    exact ⟨(cnt_bounds h.1).2 i hi, (nodes_at h.2).2 i hi⟩
/-- A term error(F, S). -/
def isE (t : Tm) : Bool := validB t && isS t ⟨#[101, 114, 114, 111, 114]⟩ 2
def formT (t : Tm) : Tm := if isE t = true then t.args.getD 0 z0 else z0
theorem isS_two {t : Tm} {nm : ByteArray} {k : Nat} (h : isS t nm k = true) : t.args.length = k := by
  simp only [isS, Bool.and_eq_true, beq_iff_eq] at h; exact h.2.2

set_option maxHeartbeats 8000000 in
theorem Formal_any (t : Tm) (v : Value) (w : World) (h : LiesT w t v) : Calls Try.prog 32 #[tv t v] w (Chk0 (formT t) (isE t) w) := by
  obtain ⟨va, vc, rfl⟩ : ∃ a k, v = .slice a t.args.length k := h.slice
  have F0 := Lib.hid (Fr.start w t (.slice va t.args.length vc))
  have H := Lib.hid h
  cases hv : validB t
  · have e1 : isE t = false := by unfold isE; rw [hv]; rfl
    have e2 : formT t = z0 := by unfold formT; rw [e1]; rfl
    rw [e1, e2]
    have HV := Lib.hid hv
    clear h hv e1 e2
    simp only [tv]
    go_enter Try.func32, Try.ntmps32
    go_wp2_with fail
    refine (Valid_is t _ false HV.out _ (H.out.below F0.out.b)).mono ?_
    rintro e w1 ⟨rfl, hb1⟩
    have F1 := Lib.hid (F0.out.step hb1)
    clear hb1
    obtain ⟨c0, c1, c2, c3⟩ : w1.cell? ⟨w.heap.size + 1, 0, none⟩ = some (.int .i64 0) ∧ w1.cell? ⟨w.heap.size + 1, 1, none⟩ = some (.int .i64 0) ∧ w1.cell? ⟨w.heap.size + 1, 2, none⟩ = some (.string ⟨#[]⟩) ∧ w1.cell? ⟨w.heap.size + 1, 3, none⟩ = some (.slice none 0 0) := F1.out.r.cells
    obtain ⟨f0, f1, f2, f3⟩ := F1.out.r.froz
    go_wp2_with fail
    clear c0 c1 c2 c3 f0 f1 f2 f3
    have FZ : Hid (Fr w ((((w1.setCell ⟨w.heap.size + 1, 0, none⟩ (.int .i64 0)).setCell ⟨w.heap.size + 1, 1, none⟩ (.int .i64 0)).setCell ⟨w.heap.size + 1, 2, none⟩ (.string ⟨#[]⟩)).setCell ⟨w.heap.size + 1, 3, none⟩ (.slice none 0 0)) t (.slice va t.args.length vc) z0 (.slice none 0 0)) := Lib.hid (F1.out.putR z0 (.slice none 0 0) _ rfl)
    generalize ((((w1.setCell ⟨w.heap.size + 1, 0, none⟩ (.int .i64 0)).setCell ⟨w.heap.size + 1, 1, none⟩ (.int .i64 0)).setCell ⟨w.heap.size + 1, 2, none⟩ (.string ⟨#[]⟩)).setCell ⟨w.heap.size + 1, 3, none⟩ (.slice none 0 0)) = WZ at *
    obtain ⟨k0, k1, k2, k3⟩ : WZ.cell? ⟨w.heap.size + 1, 0, none⟩ = some (.int .i64 0) ∧ WZ.cell? ⟨w.heap.size + 1, 1, none⟩ = some (.int .i64 0) ∧ WZ.cell? ⟨w.heap.size + 1, 2, none⟩ = some (.string ⟨#[]⟩) ∧ WZ.cell? ⟨w.heap.size + 1, 3, none⟩ = some (.slice none 0 0) := FZ.out.r.cells
    exact bodyPost_ret (v := .tuple #[zv, .bool false]) (by simp [results, Try.results32, go_sem, k0, k1, k2, k3]) rfl (FZ.out.chk0 (Beh.zero _ _) false)
  · have HV := Lib.hid hv
    cases hs : isS t ⟨#[101, 114, 114, 111, 114]⟩ 2
    · have e1 : isE t = false := by unfold isE; rw [hv, hs]; rfl
      have e2 : formT t = z0 := by unfold formT; rw [e1]; rfl
      rw [e1, e2]
      have HIS : Hid (∀ w0, Below w.heap.size w w0 → Calls Try.prog 72 #[tv t (.slice va t.args.length vc), .string ⟨#[101, 114, 114, 111, 114]⟩, .int .i64 2] w0 fun e w' => e = .returned (.bool false) ∧ Below w0.heap.size w0 w') := Lib.hid (fun w0 hb => by have hh := isStructure_any t (.slice va t.args.length vc) ⟨#[101, 114, 114, 111, 114]⟩ 2 w0 (H.out.below hb); rw [hs] at hh; exact hh)
      clear h hv hs e1 e2
      simp only [tv]
      go_enter Try.func32, Try.ntmps32
      go_wp2_with fail
      refine (Valid_is t _ true HV.out _ (H.out.below F0.out.b)).mono ?_
      rintro e w1 ⟨rfl, hb1⟩
      have F1 := Lib.hid (F0.out.step hb1)
      clear hb1
      obtain ⟨p0, p1, p2, p3⟩ := F1.out.p.cells
      go_wp2_with fail
      refine (HIS.out _ F1.out.b).mono ?_
      rintro e w2 ⟨rfl, hb2⟩
      have F2 := Lib.hid (F1.out.step hb2)
      clear hb2 p0 p1 p2 p3
      obtain ⟨c0, c1, c2, c3⟩ : w2.cell? ⟨w.heap.size + 1, 0, none⟩ = some (.int .i64 0) ∧ w2.cell? ⟨w.heap.size + 1, 1, none⟩ = some (.int .i64 0) ∧ w2.cell? ⟨w.heap.size + 1, 2, none⟩ = some (.string ⟨#[]⟩) ∧ w2.cell? ⟨w.heap.size + 1, 3, none⟩ = some (.slice none 0 0) := F2.out.r.cells
      obtain ⟨f0, f1, f2, f3⟩ := F2.out.r.froz
      go_wp2_with fail
      clear c0 c1 c2 c3 f0 f1 f2 f3
      have FZ : Hid (Fr w ((((w2.setCell ⟨w.heap.size + 1, 0, none⟩ (.int .i64 0)).setCell ⟨w.heap.size + 1, 1, none⟩ (.int .i64 0)).setCell ⟨w.heap.size + 1, 2, none⟩ (.string ⟨#[]⟩)).setCell ⟨w.heap.size + 1, 3, none⟩ (.slice none 0 0)) t (.slice va t.args.length vc) z0 (.slice none 0 0)) := Lib.hid (F2.out.putR z0 (.slice none 0 0) _ rfl)
      generalize ((((w2.setCell ⟨w.heap.size + 1, 0, none⟩ (.int .i64 0)).setCell ⟨w.heap.size + 1, 1, none⟩ (.int .i64 0)).setCell ⟨w.heap.size + 1, 2, none⟩ (.string ⟨#[]⟩)).setCell ⟨w.heap.size + 1, 3, none⟩ (.slice none 0 0)) = WZ at *
      obtain ⟨k0, k1, k2, k3⟩ : WZ.cell? ⟨w.heap.size + 1, 0, none⟩ = some (.int .i64 0) ∧ WZ.cell? ⟨w.heap.size + 1, 1, none⟩ = some (.int .i64 0) ∧ WZ.cell? ⟨w.heap.size + 1, 2, none⟩ = some (.string ⟨#[]⟩) ∧ WZ.cell? ⟨w.heap.size + 1, 3, none⟩ = some (.slice none 0 0) := FZ.out.r.cells
      exact bodyPost_ret (v := .tuple #[zv, .bool false]) (by simp [results, Try.results32, go_sem, k0, k1, k2, k3]) rfl (FZ.out.chk0 (Beh.zero _ _) false)
    · have hlen : t.args.length = 2 := isS_two hs
      have e1 : isE t = true := by unfold isE; rw [hv, hs]; rfl
      obtain ⟨_, b, off, ua, uc, hva, c0, c1, c2, c3, hu⟩ := arg_at h 0 (by omega)
      have e2 : formT t = t.args[0]'(by omega) := by
        have hl : 0 < t.args.length := by omega
        unfold formT; rw [e1, if_pos rfl, List.getD_eq_getElem?_getD, List.getElem?_eq_getElem hl]; rfl
      have hva0 := valid_arg hv 0 (by omega)
      rw [e1, e2]
      subst hva
      obtain ⟨U, hU⟩ : ∃ U, t.args[0]'(by omega) = U := ⟨_, rfl⟩
      rw [hU] at c0 c1 c2 c3 hu hva0 ⊢
      have C0 : Hid (w.cell? ⟨b, off, none⟩ = some (.int .i64 U.kind) ∧ w.cell? ⟨b, off + 1, none⟩ = some (.int .i64 U.num) ∧ w.cell? ⟨b, off + 2, none⟩ = some (.string U.name) ∧ w.cell? ⟨b, off + 3, none⟩ = some (.slice ua U.args.length uc)) := Lib.hid (by simp only [Nat.zero_mul, Nat.add_zero] at c0 c1 c2 c3; exact ⟨c0, c1, c2, c3⟩)
      have HU := Lib.hid hu
      have HUV := Lib.hid hva0
      have HIS : Hid (∀ w0, Below w.heap.size w w0 → Calls Try.prog 72 #[tv t (.slice (some ⟨b, off, none⟩) 2 vc), .string ⟨#[101, 114, 114, 111, 114]⟩, .int .i64 2] w0 fun e w' => e = .returned (.bool true) ∧ Below w0.heap.size w0 w') := Lib.hid (fun w0 hb => by have hh := isStructure_any t (.slice (some ⟨b, off, none⟩) t.args.length vc) ⟨#[101, 114, 114, 111, 114]⟩ 2 w0 (H.out.below hb); rw [hs, hlen] at hh; exact hh)
      have HVC : Hid (∀ w0, Below w.heap.size w w0 → Calls Try.prog 71 #[tv t (.slice (some ⟨b, off, none⟩) 2 vc)] w0 fun e w' => e = .returned (.bool true) ∧ Below w0.heap.size w0 w') := Lib.hid (fun w0 hb => by have hh := Valid_is t (.slice (some ⟨b, off, none⟩) t.args.length vc) true hv w0 (H.out.below hb); rw [hlen] at hh; exact hh)
      have HCL : Hid (∀ w0, Below w.heap.size w w0 → Calls Try.prog 73 #[tv U (.slice ua U.args.length uc)] w0 (MadeEnd U w0)) := Lib.hid (fun w0 hb => by have hh := Clone_yes U (.slice ua U.args.length uc) w0 (HU.out.below hb) HUV.out; exact hh)
      rw [hlen] at F0 ⊢
      clear h hv hs e1 e2 hU c0 c1 c2 c3 hu hva0 H HV hlen
      simp only [tv]
      go_enter Try.func32, Try.ntmps32
      go_wp2_with fail
      refine (HVC.out _ F0.out.b).mono ?_
      rintro e w1 ⟨rfl, hb1⟩
      have F1 := Lib.hid (F0.out.step hb1)
      clear hb1
      obtain ⟨p0, p1, p2, p3⟩ := F1.out.p.cells
      go_wp2_with fail
      refine (HIS.out _ F1.out.b).mono ?_
      rintro e w2 ⟨rfl, hb2⟩
      have F2 := Lib.hid (F1.out.step hb2)
      clear hb2 p0 p1 p2 p3
      obtain ⟨p0, p1, p2, p3⟩ := F2.out.p.cells
      obtain ⟨d0, d1, d2, d3⟩ : w2.cell? ⟨b, off, none⟩ = some (.int .i64 U.kind) ∧ w2.cell? ⟨b, off + 1, none⟩ = some (.int .i64 U.num) ∧ w2.cell? ⟨b, off + 2, none⟩ = some (.string U.name) ∧ w2.cell? ⟨b, off + 3, none⟩ = some (.slice ua U.args.length uc) := ⟨cell_below F2.out.b _ _ C0.out.1, cell_below F2.out.b _ _ C0.out.2.1, cell_below F2.out.b _ _ C0.out.2.2.1, cell_below F2.out.b _ _ C0.out.2.2.2⟩
      go_wp2_with fail
      refine (HCL.out _ F2.out.b).mono ?_
      rintro e w7 ⟨y, rfl, hy, hb7⟩
      obtain ⟨ya, yc, rfl⟩ := hy.slice
      have F8 := Lib.hid (F2.out.step hb7)
      have Y8 : Hid (Beh w w7 U (.slice ya U.args.length yc)) := Lib.hid (Beh.of hy F2.out.z)
      clear hb7 hy p0 p1 p2 p3 d0 d1 d2 d3
      obtain ⟨c0, c1, c2, c3⟩ : w7.cell? ⟨w.heap.size + 1, 0, none⟩ = some (.int .i64 0) ∧ w7.cell? ⟨w.heap.size + 1, 1, none⟩ = some (.int .i64 0) ∧ w7.cell? ⟨w.heap.size + 1, 2, none⟩ = some (.string ⟨#[]⟩) ∧ w7.cell? ⟨w.heap.size + 1, 3, none⟩ = some (.slice none 0 0) := F8.out.r.cells
      obtain ⟨f0, f1, f2, f3⟩ := F8.out.r.froz
      go_wp2_with fail
      clear c0 c1 c2 c3 f0 f1 f2 f3
      have F9 : Hid (Fr w ((((w7.setCell ⟨w.heap.size + 1, 0, none⟩ (.int .i64 U.kind)).setCell ⟨w.heap.size + 1, 1, none⟩ (.int .i64 U.num)).setCell ⟨w.heap.size + 1, 2, none⟩ (.string U.name)).setCell ⟨w.heap.size + 1, 3, none⟩ (.slice ya U.args.length yc)) t (.slice (some ⟨b, off, none⟩) 2 vc) U (.slice ya U.args.length yc)) := Lib.hid (F8.out.putR U (.slice ya U.args.length yc) _ rfl)
      have Y9 : Hid (Beh w ((((w7.setCell ⟨w.heap.size + 1, 0, none⟩ (.int .i64 U.kind)).setCell ⟨w.heap.size + 1, 1, none⟩ (.int .i64 U.num)).setCell ⟨w.heap.size + 1, 2, none⟩ (.string U.name)).setCell ⟨w.heap.size + 1, 3, none⟩ (.slice ya U.args.length yc)) U (.slice ya U.args.length yc)) := Lib.hid (Beh.put Y8.out (by omega) (F8.out.r) _ _ _ _ _ rfl)
      generalize ((((w7.setCell ⟨w.heap.size + 1, 0, none⟩ (.int .i64 U.kind)).setCell ⟨w.heap.size + 1, 1, none⟩ (.int .i64 U.num)).setCell ⟨w.heap.size + 1, 2, none⟩ (.string U.name)).setCell ⟨w.heap.size + 1, 3, none⟩ (.slice ya U.args.length yc)) = W9 at *
      obtain ⟨k0, k1, k2, k3⟩ : W9.cell? ⟨w.heap.size + 1, 0, none⟩ = some (.int .i64 U.kind) ∧ W9.cell? ⟨w.heap.size + 1, 1, none⟩ = some (.int .i64 U.num) ∧ W9.cell? ⟨w.heap.size + 1, 2, none⟩ = some (.string U.name) ∧ W9.cell? ⟨w.heap.size + 1, 3, none⟩ = some (.slice ya U.args.length yc) := F9.out.r.cells
      exact bodyPost_ret (v := .tuple #[tv U (.slice ya U.args.length yc), .bool true]) (by simp [results, Try.results32, go_sem, k0, k1, k2, k3]) rfl (F9.out.chk0 Y9.out true)

end Go.Proofs.Yteilodihjhdngaa
