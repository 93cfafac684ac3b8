/- The specification's error terms. -/
import Derived.Test.YteilodihjhdngaaBL
import Derived.Deep.DeepCutAuto
set_option linter.unusedVariables false
set_option linter.unusedSimpArgs false
namespace Go.Proofs.Yteilodihjhdngaa
open Go.RowKit Go.Proofs.HT

set_option maxHeartbeats 1000000 in
theorem ratomB_any (s : ByteArray) (w : World) :
    Calls Try.prog 66 #[.string s] w fun e w' => e = .returned (pv 2 0 s (.slice none 0 0)) ∧ Below w.heap.size w w' := by
  have fr : ∀ o, Below w.heap.size w (w.alloc o) := fun o => al0 w o
  go_enter Try.func66, Try.ntmps66
  go_wp2_with fail
  exact bodyPost_ret (v := pv 2 0 s (.slice none 0 0)) (by simp [results, Try.results66, go_sem]) rfl ⟨rfl, fr _⟩
set_option maxHeartbeats 1000000 in
theorem rnumB_any (n : Int) (w : World) :
    Calls Try.prog 69 #[.int .i64 n] w fun e w' => e = .returned (pv 1 n ⟨#[]⟩ (.slice none 0 0)) ∧ Below w.heap.size w w' := by
  have fr : ∀ o, Below w.heap.size w (w.alloc o) := fun o => al0 w o
  go_enter Try.func69, Try.ntmps69
  go_wp2_with fail
  exact bodyPost_ret (v := pv 1 n ⟨#[]⟩ (.slice none 0 0)) (by simp [results, Try.results69, go_sem]) rfl ⟨rfl, fr _⟩
set_option maxHeartbeats 1000000 in
theorem rstrB_any (s : ByteArray) (a : Option Addr) (l cap : Nat) (w : World) :
    Calls Try.prog 68 #[.string s, .slice a l cap] w fun e w' => e = .returned (pv 3 0 s (.slice a l cap)) ∧ Below w.heap.size w w' := by
  have fr : ∀ o, Below w.heap.size w (w.alloc o) := fun o => al0 w o
  go_enter Try.func68, Try.ntmps68
  go_wp2_with fail
  exact bodyPost_ret (v := pv 3 0 s (.slice a l cap)) (by simp [results, Try.results68, go_sem]) rfl ⟨rfl, fr _⟩

set_option maxHeartbeats 4000000 in
theorem rball_any (c : Tm) (v : Value) (w : World) (h : LiesT w c v) : Calls Try.prog 65 #[tv c v] w (MadeEnd (vz (errT c)) w) := by
  obtain ⟨va, vc, rfl⟩ : ∃ a k, v = .slice a c.args.length k := h.slice
  have F0 := Lib.hid (Fr.start w c (.slice va c.args.length vc))
  obtain ⟨Q, hQ⟩ : ∃ Q, vz (errT c) = Q := ⟨_, rfl⟩
  have HCL : Hid (∀ (w0 w1 : World) (g : Nat), Below w.heap.size w w0 → w0.heap.size = g → Below (w0.alloc (.cells #[.int .i64 c.kind, .int .i64 c.num, .string c.name, .slice va c.args.length vc, .int .i64 2, .int .i64 0, .string ⟨#[91, 93]⟩, .slice none 0 0] 24)).heap.size (w0.alloc (.cells #[.int .i64 c.kind, .int .i64 c.num, .string c.name, .slice va c.args.length vc, .int .i64 2, .int .i64 0, .string ⟨#[91, 93]⟩, .slice none 0 0] 24)) w1 → Calls Try.prog 52 #[pv 3 0 ⟨#[101, 114, 114, 111, 114]⟩ (.slice (some ⟨g, 0, none⟩) 2 2)] w1 (MadeEnd Q w1)) := Lib.hid (by
    intro w0 w1 g hb hg hb1
    have hl := lies_new (ty := 24) hg [(c, .slice va c.args.length vc), (nilT, .slice none 0 0)] (by simp only [EnvT]; exact ⟨h.below hb, atom_lies (by simp [ByteArray.size]), trivial⟩) (by simp)
    have hs := (struct_lies (nm := ⟨#[101, 114, 114, 111, 114]⟩) (by simp [ByteArray.size]) hl).below hb1
    have hc := clone_any (.mk 3 0 ⟨#[101, 114, 114, 111, 114]⟩ [c, nilT]) _ w1 hs
    rw [← hQ]; exact hc)
  rw [hQ]
  clear h hQ
  simp only [tv]
  go_enter Try.func65, Try.ntmps65
  go_wp2_with fail
  obtain ⟨W, hW⟩ : ∃ W, ((w.alloc (.cells #[.int .i64 c.kind, .int .i64 c.num, .string c.name, .slice va c.args.length vc] 24)).alloc (.cells #[.int .i64 0, .int .i64 0, .string ⟨#[]⟩, .slice none 0 0] 24)) = W := ⟨_, rfl⟩
  rw [hW] at F0 ⊢
  clear hW
  have hS0 : Below W.heap.size W W.drew := (Below.refl _ _).drew
  have HSS : Hid (∀ w', Below W.heap.size W w' → (fun w' => Below w.heap.size w w' ∧ w'.cell? ⟨w.heap.size, 0, none⟩ = some (.int .i64 c.kind) ∧ w'.cell? ⟨w.heap.size, 1, none⟩ = some (.int .i64 c.num) ∧ w'.cell? ⟨w.heap.size, 2, none⟩ = some (.string c.name) ∧ w'.cell? ⟨w.heap.size, 3, none⟩ = some (.slice va c.args.length vc)) w') := Lib.hid (fun w' h => ⟨(F0.out.step h).b, (F0.out.step h).p.cells⟩)
  obtain ⟨p0, p1, p2, p3⟩ := F0.out.p.cells
  go_region_held3 (fun w' => Below w.heap.size w w' ∧ w'.cell? ⟨w.heap.size, 0, none⟩ = some (.int .i64 c.kind) ∧ w'.cell? ⟨w.heap.size, 1, none⟩ = some (.int .i64 c.num) ∧ w'.cell? ⟨w.heap.size, 2, none⟩ = some (.string c.name) ∧ w'.cell? ⟨w.heap.size, 3, none⟩ = some (.slice va c.args.length vc))
    (first | exact HS9 | exact HSS.out _ h8 | exact HSS.out _ h6 | exact HSS.out _ h5 | exact HSS.out _ (h5.alloc h5.size _) | exact HSS.out _ hS0 | go_keep)
    (first
      | (go_at_call 66; ((with_reducible refine (ratomB_any _ _).mono ?_); rintro e w2 ⟨rfl, hb2⟩; have h5 : Below W.heap.size W w2 := hS0.trans (hb2.mono hS0.size)))
      | (go_at_call 68; refine (rstrB_any _ _ _ _ _).mono ?_; rintro e w3 ⟨rfl, hb3⟩; have h6 : Below W.heap.size W w3 := h5.trans ((al hb3).mono h5.size))
      | (go_at_call 52; refine (HCL.out w2 w3 _ (F0.out.step h5).b rfl hb3).mono ?_; rintro e w7 ⟨y, rfl, hy, hb7⟩; obtain ⟨ya, yc, rfl⟩ := hy.slice; have h8 : Below W.heap.size W w7 := h6.trans (hb7.mono h6.size); have F8 := Lib.hid (F0.out.step h8); have Y8 : Hid (Beh w w7 Q (.slice ya Q.args.length yc)) := Lib.hid (Beh.of hy (F0.out.step h6).z); obtain ⟨c0, c1, c2, c3⟩ : w7.cell? ⟨w.heap.size + 1, 0, none⟩ = some (.int .i64 0) ∧ w7.cell? ⟨w.heap.size + 1, 1, none⟩ = some (.int .i64 0) ∧ w7.cell? ⟨w.heap.size + 1, 2, none⟩ = some (.string ⟨#[]⟩) ∧ w7.cell? ⟨w.heap.size + 1, 3, none⟩ = some (.slice none 0 0) := F8.out.r.cells; obtain ⟨f0, f1, f2, f3⟩ := F8.out.r.froz; have HF9 := F8.out.putR Q (.slice ya Q.args.length yc) _ rfl; have HS9 : (fun w' => Below w.heap.size w w' ∧ w'.cell? ⟨w.heap.size, 0, none⟩ = some (.int .i64 c.kind) ∧ w'.cell? ⟨w.heap.size, 1, none⟩ = some (.int .i64 c.num) ∧ w'.cell? ⟨w.heap.size, 2, none⟩ = some (.string c.name) ∧ w'.cell? ⟨w.heap.size, 3, none⟩ = some (.slice va c.args.length vc)) (((((w7.setCell ⟨w.heap.size + 1, 0, none⟩ (.int .i64 Q.kind)).setCell ⟨w.heap.size + 1, 1, none⟩ (.int .i64 Q.num)).setCell ⟨w.heap.size + 1, 2, none⟩ (.string Q.name)).setCell ⟨w.heap.size + 1, 3, none⟩ (.slice ya Q.args.length yc))) := ⟨HF9.b, HF9.p.cells⟩; clear hy HF9))
  clear p0 p1 p2 p3 hb3 hb2
  go_wp2_with fail
  clear HS9
  clear c0 c1 c2 c3 f0 f1 f2 f3
  have F9 : Hid (Fr w ((((w7.setCell ⟨w.heap.size + 1, 0, none⟩ (.int .i64 Q.kind)).setCell ⟨w.heap.size + 1, 1, none⟩ (.int .i64 Q.num)).setCell ⟨w.heap.size + 1, 2, none⟩ (.string Q.name)).setCell ⟨w.heap.size + 1, 3, none⟩ (.slice ya Q.args.length yc)) c (.slice va c.args.length vc) Q (.slice ya Q.args.length yc)) := Lib.hid (F8.out.putR Q (.slice ya Q.args.length yc) _ rfl)
  have Y9 : Hid (Beh w ((((w7.setCell ⟨w.heap.size + 1, 0, none⟩ (.int .i64 Q.kind)).setCell ⟨w.heap.size + 1, 1, none⟩ (.int .i64 Q.num)).setCell ⟨w.heap.size + 1, 2, none⟩ (.string Q.name)).setCell ⟨w.heap.size + 1, 3, none⟩ (.slice ya Q.args.length yc)) Q (.slice ya Q.args.length yc)) := Lib.hid (Beh.put Y8.out (by omega) (F8.out.r) _ _ _ _ _ rfl)
  generalize ((((w7.setCell ⟨w.heap.size + 1, 0, none⟩ (.int .i64 Q.kind)).setCell ⟨w.heap.size + 1, 1, none⟩ (.int .i64 Q.num)).setCell ⟨w.heap.size + 1, 2, none⟩ (.string Q.name)).setCell ⟨w.heap.size + 1, 3, none⟩ (.slice ya Q.args.length yc)) = W9 at *
  obtain ⟨k0, k1, k2, k3⟩ : W9.cell? ⟨w.heap.size + 1, 0, none⟩ = some (.int .i64 Q.kind) ∧ W9.cell? ⟨w.heap.size + 1, 1, none⟩ = some (.int .i64 Q.num) ∧ W9.cell? ⟨w.heap.size + 1, 2, none⟩ = some (.string Q.name) ∧ W9.cell? ⟨w.heap.size + 1, 3, none⟩ = some (.slice ya Q.args.length yc) := F9.out.r.cells
  exact bodyPost_ret (v := tv Q (.slice ya Q.args.length yc)) (by simp [results, Try.results65, go_sem, k0, k1, k2, k3]) rfl (F9.out.done Y9.out)

end Go.Proofs.Yteilodihjhdngaa

/- The specification's with, and the functions that make error terms by it. -/
namespace Go.Proofs.Yteilodihjhdngaa
open Go.RowKit Go.Proofs.HT

theorem Fr.stepB {w w1 w2 : World} {t z : Tm} {v y : Value} {base : Nat} (h : Fr w w1 t v z y) (hb : Below base w1 w2) (hz : w.heap.size + 2 ≤ base) (hs : base ≤ w1.heap.size) : Fr w w2 t v z y :=
  ⟨h.b.trans (hb.mono (by omega)), (hb.block _ (by omega)).trans h.p, (hb.block _ (by omega)).trans h.r, by have := hb.size; have := h.z; omega⟩

set_option maxHeartbeats 4000000 in
theorem rwith_no (nm : ByteArray) (c : Tm) (v wv : Value) (w : World) (h : LiesT w c v) (hv : validB c = false) :
    Calls Try.prog 67 #[tv c v, .string nm, wv] w (MadeEnd z0 w) := by
  have F0 := Lib.hid (Fr.start w c v)
  have H := Lib.hid (h.below F0.out.b)
  have HV := Lib.hid hv
  clear h hv
  simp only [tv]
  go_enter Try.func67, Try.ntmps67
  go_wp2_with fail
  refine (valid_is c v false HV.out _ H.out).mono ?_
  rintro e w1 ⟨rfl, hb1⟩
  have F1 := Lib.hid (F0.out.step hb1)
  clear hb1 H F0
  obtain ⟨c0, c1, c2, c3⟩ : w1.cell? ⟨w.heap.size + 1, 0, none⟩ = some (.int .i64 0) ∧ w1.cell? ⟨w.heap.size + 1, 1, none⟩ = some (.int .i64 0) ∧ w1.cell? ⟨w.heap.size + 1, 2, none⟩ = some (.string ⟨#[]⟩) ∧ w1.cell? ⟨w.heap.size + 1, 3, none⟩ = some (.slice none 0 0) := F1.out.r.cells
  obtain ⟨f0, f1, f2, f3⟩ := F1.out.r.froz
  go_wp2_with fail
  clear c0 c1 c2 c3 f0 f1 f2 f3
  have F2 : Hid (Fr w ((((w1.setCell ⟨w.heap.size + 1, 0, none⟩ (.int .i64 0)).setCell ⟨w.heap.size + 1, 1, none⟩ (.int .i64 0)).setCell ⟨w.heap.size + 1, 2, none⟩ (.string ⟨#[]⟩)).setCell ⟨w.heap.size + 1, 3, none⟩ (.slice none 0 0)) c (v) z0 (.slice none 0 0)) := Lib.hid (F1.out.putR z0 (.slice none 0 0) _ rfl)
  generalize ((((w1.setCell ⟨w.heap.size + 1, 0, none⟩ (.int .i64 0)).setCell ⟨w.heap.size + 1, 1, none⟩ (.int .i64 0)).setCell ⟨w.heap.size + 1, 2, none⟩ (.string ⟨#[]⟩)).setCell ⟨w.heap.size + 1, 3, none⟩ (.slice none 0 0)) = W3 at *
  obtain ⟨k0, k1, k2, k3⟩ : W3.cell? ⟨w.heap.size + 1, 0, none⟩ = some (.int .i64 0) ∧ W3.cell? ⟨w.heap.size + 1, 1, none⟩ = some (.int .i64 0) ∧ W3.cell? ⟨w.heap.size + 1, 2, none⟩ = some (.string ⟨#[]⟩) ∧ W3.cell? ⟨w.heap.size + 1, 3, none⟩ = some (.slice none 0 0) := F2.out.r.cells
  exact bodyPost_ret (v := zv) (by simp [results, Try.results67, go_sem, k0, k1, k2, k3]) rfl (F2.out.done (Beh.zero _ _))

set_option maxHeartbeats 8000000 in
theorem rwith_yes (nm : ByteArray) (c : Tm) (v : Value) (ws : List ByteArray) (a : Option Addr) (n cap : Nat) (w : World) (hnm : nm.size ≤ 9223372036854775807) (h : LiesT w c v) (hv : validB c = true) (hlen : ws.length = n) (hn : n ≤ 5) (hws : ∀ s ∈ ws, s.size ≤ 9223372036854775807) (hW : Words w a ws) :
    Calls Try.prog 67 #[tv c v, .string nm, .slice a n cap] w (MadeEnd (withT c nm ws) w) := by
  obtain ⟨va, vc, rfl⟩ : ∃ a k, v = .slice a c.args.length k := h.slice
  obtain ⟨Q, hQ⟩ : ∃ Q, withT c nm ws = Q := ⟨_, rfl⟩
  have HQ : Hid (vz (errT (.mk 3 0 nm (ws.map atmT ++ [culT c ws.length]))) = Q) := Lib.hid (by rw [← hQ, withT, if_pos hv])
  rw [hQ]
  obtain ⟨m, hm⟩ : ∃ m, cnt c = m := ⟨_, rfl⟩
  have hcm := cntM_valid hv
  rw [hm] at hcm
  have hm2 : m ≤ 2000 := hcm.2
  have F0 := Lib.hid (Fr.start w c (.slice va c.args.length vc))
  have H := Lib.hid h
  have HV := Lib.hid hv
  have HM := Lib.hid hm
  have HWS := Lib.hid hws
  have HLEN := Lib.hid hlen
  have HWRD := Lib.hid hW
  have HNM := Lib.hid hnm
  have HSZ : Hid (∀ w0, LiesT w0 c (.slice va c.args.length vc) → Calls Try.prog 54 #[tv c (.slice va c.args.length vc)] w0 fun e w' => e = .returned (.int .i64 (m : Nat)) ∧ Below w0.heap.size w0 w') := Lib.hid (fun w0 h => by have h2 := size_any c _ w0 h; rw [hcm.1] at h2; exact h2)
  clear h hv hQ hm hws hlen hW hcm hnm
  simp only [tv]
  go_enter Try.func67, Try.ntmps67
  go_wp2_with fail
  refine (valid_is c _ true HV.out _ (H.out.below F0.out.b)).mono ?_
  rintro e w2 ⟨rfl, hb1⟩
  have F5 := Lib.hid (F0.out.step hb1)
  clear hb1 F0
  go_wp2_with fail
  go_loopw [7, 8] (fun v7 v8 wr => ∃ (j : Nat) (vo : Value), vo = v7 ∧ j ≤ n ∧ v8 = .int .i64 j ∧ Hid (wr.ownsRow w2.heap.size 24 4 vo j (flat (atms (ws.take j)))) ∧ Hid (Below w2.heap.size w2 wr)) (fun _ v8 _ => n - (intOf v8).toNat)
  case atStart => exact ⟨0, _, rfl, by omega, rfl, Lib.hid ⟨rfl, .inl ⟨rfl, rfl⟩⟩, Lib.hid (Below.refl _ _)⟩
  case round =>
    obtain ⟨j, vo, rfl, hj, rfl, hown, hb⟩ := hrel
    by_cases hlt : j < n
    · have hjl : j < ws.length := by have := HLEN.out; omega
      obtain ⟨b, off, ha, hc⟩ := (HWRD.out.below (F5.out.b.trans (hb.out.mono (F5.out.b.size)))) j hjl
      subst ha
      have HTK := Lib.hid (atms_take ws j hjl)
      obtain ⟨sj, hsj⟩ : ∃ s, ws[j] = s := ⟨_, rfl⟩
      rw [hsj] at hc HTK
      clear hsj hjl
      have lj0 : (0 : Int) ≤ (j : Int) := by omega
      have lj1 : (j : Int) < (n : Int) := by omega
      go_wp2_with fail
      refine (ratomB_any sj _).mono ?_
      rintro e w5 ⟨rfl, hb5⟩
      have HW1 := Lib.hid ((hb.out.trans (hb5.mono hb.out.size)).alloc (Nat.le_trans hb.out.size hb5.size) (.cells #[.int .i64 2, .int .i64 0, .string sj, .slice none 0 0] 24))
      have HO1 : Hid ((w5.alloc (.cells #[.int .i64 2, .int .i64 0, .string sj, .slice none 0 0] 24)).ownsRow w2.heap.size 24 4 vo j (flat (atms (ws.take j)))) := Lib.hid ((HT.own_below hown.out hb5).alloc _)
      have HRN := row_one w5 (atmT sj) (.slice none 0 0)
      have HV1 := one_slice (atmT sj) none 0
      have hbs := HW1.out.size
      clear hown hb5 hc
      go_wp2_with (at_builtin; refine wp_appB rfl _ _ rfl _ w2.heap.size j vo (atms (ws.take j)) [(atmT sj, .slice none 0 0)] rfl HO1 ⟨w5.heap.size, 0, none⟩ 1 1 rfl rfl HRN HV1 (by omega) hbs ?_; intro v1 w6 hown1 hb1 hz1)
      go_roundw
      case rel => exact ⟨j + 1, v1, rfl, by omega, by go_num, Lib.hid (by rw [HTK.out]; exact hown1.out), Lib.hid (HW1.out.trans hb1.out)⟩
      case measure => simp [intOf]; omega
    · obtain rfl : j = n := by omega
      have F6 := Lib.hid (F5.out.step hb.out)
      have HN1 : Hid (ws.take j = ws) := Lib.hid (List.take_of_length_le (by have := HLEN.out; omega))
      clear hlt hj
      obtain ⟨p0, p1, p2, p3⟩ := F6.out.p.cells
      go_wp2_with fail
      refine (HSZ.out _ (H.out.below F6.out.b)).mono ?_
      rintro e w8 ⟨rfl, hb8⟩
      have F7 := Lib.hid (F6.out.step hb8)
      have B7 := Lib.hid (hb.out.trans (hb8.mono hb.out.size))
      have O7 := Lib.hid (HT.own_below hown.out hb8)
      clear hb8 p0 p1 p2 p3 hb hown HSZ F6
      rcases Nat.lt_or_ge 2000 (j + 3 + m) with hlg | hlg
      · have d0 : decide ((2000 : Int) < 2 + (j : Int) + (m : Int) + 1) = true := by simp; omega
        have d1 : (2000 : Int) < 2 + (j : Int) + (m : Int) + 1 := by omega
        have HC : Hid (culT c ws.length = omitT) := Lib.hid (by unfold culT; rw [HM.out, HLEN.out, if_pos hlg])
        go_wp2_with fail
        refine (ratomB_any _ _).mono ?_
        rintro e w9 ⟨rfl, hb9⟩
        have F8 := Lib.hid (F7.out.step hb9)
        have B8 := Lib.hid (B7.out.trans (hb9.mono B7.out.size))
        have O8 := Lib.hid (HT.own_below O7.out hb9)
        clear hb9
        obtain ⟨c0, c1, c2, c3⟩ := F8.out.p.cells
        obtain ⟨f0, f1, f2, f3⟩ := F8.out.p.froz
        have F9 : Hid (Fr w (((((w9.setCell ⟨w.heap.size, 0, none⟩ (.int .i64 2)).setCell ⟨w.heap.size, 1, none⟩ (.int .i64 0)).setCell ⟨w.heap.size, 2, none⟩ (.string ⟨#[46, 46, 46]⟩)).setCell ⟨w.heap.size, 3, none⟩ (.slice none 0 0))) omitT (.slice none 0 0) z0 (.slice none 0 0)) := Lib.hid (F8.out.putP omitT (.slice none 0 0) _ rfl)
        have O9 : Hid ((((((w9.setCell ⟨w.heap.size, 0, none⟩ (.int .i64 2)).setCell ⟨w.heap.size, 1, none⟩ (.int .i64 0)).setCell ⟨w.heap.size, 2, none⟩ (.string ⟨#[46, 46, 46]⟩)).setCell ⟨w.heap.size, 3, none⟩ (.slice none 0 0))).ownsRow w2.heap.size 24 4 vo j (flat (atms (ws.take j)))) := Lib.hid (ownsRow_at O8.out (fun g' hg' => (four F8.out.p _ _ _ _).2.1 g' (by have := (O8.out.lt g' hg').1; have := F5.out.z; omega)))
        have Z9 : Hid (w2.heap.size ≤ (((((w9.setCell ⟨w.heap.size, 0, none⟩ (.int .i64 2)).setCell ⟨w.heap.size, 1, none⟩ (.int .i64 0)).setCell ⟨w.heap.size, 2, none⟩ (.string ⟨#[46, 46, 46]⟩)).setCell ⟨w.heap.size, 3, none⟩ (.slice none 0 0))).heap.size) := Lib.hid (by rw [(four F8.out.p _ _ _ _).2.2.1]; exact B8.out.size)
        have HL9 : Hid (∀ w', LiesT w' omitT (.slice none 0 0)) := Lib.hid (fun w' => atom_lies (by simp [ByteArray.size]))
        go_upto_region 10 with fail
        clear d0 d1 hlg H HV B7 O7 F7 F8 B8 O8 c0 c1 c2 c3 f0 f1 f2 f3
        generalize ((((w9.setCell ⟨w.heap.size, 0, none⟩ (.int .i64 2)).setCell ⟨w.heap.size, 1, none⟩ (.int .i64 0)).setCell ⟨w.heap.size, 2, none⟩ (.string ⟨#[46, 46, 46]⟩)).setCell ⟨w.heap.size, 3, none⟩ (.slice none 0 0)) = W at *
        obtain ⟨c0, c1, c2, c3⟩ := F9.out.p.cells
        have hbs : w2.heap.size ≤ (W.alloc (.cells #[.int .i64 omitT.kind, .int .i64 omitT.num, .string omitT.name, .slice none 0 0] 24)).heap.size := by have := Z9.out; have := (al0 (W) (.cells #[.int .i64 omitT.kind, .int .i64 omitT.num, .string omitT.name, .slice none 0 0] 24)).size; omega
        have HO1 : Hid ((W.alloc (.cells #[.int .i64 omitT.kind, .int .i64 omitT.num, .string omitT.name, .slice none 0 0] 24)).ownsRow w2.heap.size 24 4 vo j (flat (atms (ws.take j)))) := Lib.hid (O9.out.alloc _)
        have HRN := row_one (W) omitT (.slice none 0 0)
        have HV1 : Hid (∀ p ∈ [((omitT, .slice none 0 0) : PV)], ∃ a c, p.2 = .slice a p.1.args.length c) := Lib.hid (fun p hp => by obtain rfl := List.mem_singleton.1 hp; exact ⟨_, _, rfl⟩)
        have HA1 : Hid (Below w2.heap.size (W) (W.alloc (.cells #[.int .i64 omitT.kind, .int .i64 omitT.num, .string omitT.name, .slice none 0 0] 24))) := Lib.hid ((Below.refl _ _).alloc Z9.out _)
        go_wp2_with (at_builtin; refine wp_appB rfl _ _ rfl _ w2.heap.size j vo (atms (ws.take j)) [(omitT, .slice none 0 0)] rfl HO1 ⟨W.heap.size, 0, none⟩ 1 1 rfl rfl HRN HV1 (by omega) hbs ?_; intro v1 w10 hown1 hb1 hz1)
        clear c0 c1 c2 c3
        have B10 := Lib.hid (HA1.out.trans hb1.out)
        have F10 : Hid (Fr w w10 omitT (.slice none 0 0) z0 (.slice none 0 0)) := Lib.hid (F9.out.stepB B10.out (by have := F5.out.z; omega) Z9.out)
        obtain ⟨ax, capx, rfl, hlx⟩ : ∃ a cap, v1 = .slice a (j + 1) cap ∧ LiesA w10 ((atms (ws.take j) ++ [((omitT, .slice none 0 0) : PV)]).map Prod.fst) v1 := own_lies hown1.out (fun h => by have := (hz1.out.1 h).2; omega) (by rw [HN1.out]; simp [atms]; exact HLEN.out) (fun p hp => by
          rcases List.mem_append.1 hp with hp | hp
          · exact atms_lies (fun s hs => HWS.out s (List.mem_of_mem_take hs)) p hp
          · obtain rfl := List.mem_singleton.1 hp; exact HL9.out _)
        have HQ2 : Hid (vz (errT (.mk 3 0 nm ((atms (ws.take j) ++ [((omitT, .slice none 0 0) : PV)]).map Prod.fst))) = Q) := Lib.hid (by
          rw [← HQ.out, HC.out, List.map_append, atms_fst, HN1.out]; rfl)
        have HX := Lib.hid hlx
        clear hlx hz1 hown1 hb1 HRN HV1 hbs HA1 HO1
        go_wp2_with fail
        refine (rstrB_any nm ax (j + 1) capx _).mono ?_
        rintro e w11 ⟨rfl, hb11⟩
        have F11 := Lib.hid (F10.out.step hb11)
        have HS11 := Lib.hid ((struct_lies HNM.out HX.out).below hb11)
        clear hb11
        have HE := Lib.hid (rball_any _ _ w11 HS11.out)
        rw [HQ2.out] at HE
        have HE2 : Hid (Calls Try.prog 65 #[.agg #[.int .i64 3, .int .i64 0, .string nm, .slice ax (j + 1) capx]] w11 (MadeEnd Q w11)) := HE
        go_wp2_with fail
        refine HE2.out.mono ?_
        rintro e w7 ⟨y, rfl, hy, hb7⟩
        obtain ⟨ya, yc, rfl⟩ := hy.slice
        have F12 := Lib.hid (F11.out.step hb7)
        have Y8 : Hid (Beh w w7 Q (.slice ya Q.args.length yc)) := Lib.hid (Beh.of hy F11.out.z)
        clear hb7 hy HE HE2
        obtain ⟨c0, c1, c2, c3⟩ : w7.cell? ⟨w.heap.size + 1, 0, none⟩ = some (.int .i64 0) ∧ w7.cell? ⟨w.heap.size + 1, 1, none⟩ = some (.int .i64 0) ∧ w7.cell? ⟨w.heap.size + 1, 2, none⟩ = some (.string ⟨#[]⟩) ∧ w7.cell? ⟨w.heap.size + 1, 3, none⟩ = some (.slice none 0 0) := F12.out.r.cells
        obtain ⟨f0, f1, f2, f3⟩ := F12.out.r.froz
        go_wp2_with fail
        clear c0 c1 c2 c3 f0 f1 f2 f3
        have F9x : Hid (Fr w ((((w7.setCell ⟨w.heap.size + 1, 0, none⟩ (.int .i64 Q.kind)).setCell ⟨w.heap.size + 1, 1, none⟩ (.int .i64 Q.num)).setCell ⟨w.heap.size + 1, 2, none⟩ (.string Q.name)).setCell ⟨w.heap.size + 1, 3, none⟩ (.slice ya Q.args.length yc)) omitT (.slice none 0 0) Q (.slice ya Q.args.length yc)) := Lib.hid (F12.out.putR Q (.slice ya Q.args.length yc) _ rfl)
        have Y9 : Hid (Beh w ((((w7.setCell ⟨w.heap.size + 1, 0, none⟩ (.int .i64 Q.kind)).setCell ⟨w.heap.size + 1, 1, none⟩ (.int .i64 Q.num)).setCell ⟨w.heap.size + 1, 2, none⟩ (.string Q.name)).setCell ⟨w.heap.size + 1, 3, none⟩ (.slice ya Q.args.length yc)) Q (.slice ya Q.args.length yc)) := Lib.hid (Beh.put Y8.out (by omega) (F12.out.r) _ _ _ _ _ rfl)
        generalize ((((w7.setCell ⟨w.heap.size + 1, 0, none⟩ (.int .i64 Q.kind)).setCell ⟨w.heap.size + 1, 1, none⟩ (.int .i64 Q.num)).setCell ⟨w.heap.size + 1, 2, none⟩ (.string Q.name)).setCell ⟨w.heap.size + 1, 3, none⟩ (.slice ya Q.args.length yc)) = W9 at *
        obtain ⟨k0, k1, k2, k3⟩ : W9.cell? ⟨w.heap.size + 1, 0, none⟩ = some (.int .i64 Q.kind) ∧ W9.cell? ⟨w.heap.size + 1, 1, none⟩ = some (.int .i64 Q.num) ∧ W9.cell? ⟨w.heap.size + 1, 2, none⟩ = some (.string Q.name) ∧ W9.cell? ⟨w.heap.size + 1, 3, none⟩ = some (.slice ya Q.args.length yc) := F9x.out.r.cells
        exact bodyPost_ret (v := tv Q (.slice ya Q.args.length yc)) (by simp [results, Try.results67, go_sem, k0, k1, k2, k3]) rfl (F9x.out.done Y9.out)
      · have d0 : decide ((2000 : Int) < 2 + (j : Int) + (m : Int) + 1) = false := by simp; omega
        have d1 : ¬ (2000 : Int) < 2 + (j : Int) + (m : Int) + 1 := by omega
        have HC : Hid (culT c ws.length = c) := Lib.hid (by unfold culT; rw [HM.out, HLEN.out, if_neg (by omega)])
        have F9 := F7
        have O9 := O7
        have Z9 := Lib.hid B7.out.size
        have HL9 : Hid (∀ w', Below w.heap.size w w' → LiesT w' c (.slice va c.args.length vc)) := Lib.hid (fun w' hb => H.out.below hb)
        clear hlg H HV B7 O7 F7
        obtain ⟨c0, c1, c2, c3⟩ := F9.out.p.cells
        have hbs : w2.heap.size ≤ (w8.alloc (.cells #[.int .i64 c.kind, .int .i64 c.num, .string c.name, .slice va c.args.length vc] 24)).heap.size := by have := Z9.out; have := (al0 (w8) (.cells #[.int .i64 c.kind, .int .i64 c.num, .string c.name, .slice va c.args.length vc] 24)).size; omega
        have HO1 : Hid ((w8.alloc (.cells #[.int .i64 c.kind, .int .i64 c.num, .string c.name, .slice va c.args.length vc] 24)).ownsRow w2.heap.size 24 4 vo j (flat (atms (ws.take j)))) := Lib.hid (O9.out.alloc _)
        have HRN := row_one (w8) c (.slice va c.args.length vc)
        have HV1 : Hid (∀ p ∈ [((c, .slice va c.args.length vc) : PV)], ∃ a c, p.2 = .slice a p.1.args.length c) := Lib.hid (fun p hp => by obtain rfl := List.mem_singleton.1 hp; exact ⟨_, _, rfl⟩)
        have HA1 : Hid (Below w2.heap.size (w8) (w8.alloc (.cells #[.int .i64 c.kind, .int .i64 c.num, .string c.name, .slice va c.args.length vc] 24))) := Lib.hid ((Below.refl _ _).alloc Z9.out _)
        go_wp2_with (at_builtin; refine wp_appB rfl _ _ rfl _ w2.heap.size j vo (atms (ws.take j)) [(c, .slice va c.args.length vc)] rfl HO1 ⟨w8.heap.size, 0, none⟩ 1 1 rfl rfl HRN HV1 (by omega) hbs ?_; intro v1 w10 hown1 hb1 hz1)
        clear c0 c1 c2 c3
        have B10 := Lib.hid (HA1.out.trans hb1.out)
        have F10 : Hid (Fr w w10 c (.slice va c.args.length vc) z0 (.slice none 0 0)) := Lib.hid (F9.out.stepB B10.out (by have := F5.out.z; omega) Z9.out)
        obtain ⟨ax, capx, rfl, hlx⟩ : ∃ a cap, v1 = .slice a (j + 1) cap ∧ LiesA w10 ((atms (ws.take j) ++ [((c, .slice va c.args.length vc) : PV)]).map Prod.fst) v1 := own_lies hown1.out (fun h => by have := (hz1.out.1 h).2; omega) (by rw [HN1.out]; simp [atms]; exact HLEN.out) (fun p hp => by
          rcases List.mem_append.1 hp with hp | hp
          · exact atms_lies (fun s hs => HWS.out s (List.mem_of_mem_take hs)) p hp
          · obtain rfl := List.mem_singleton.1 hp; exact HL9.out _ F10.out.b)
        have HQ2 : Hid (vz (errT (.mk 3 0 nm ((atms (ws.take j) ++ [((c, .slice va c.args.length vc) : PV)]).map Prod.fst))) = Q) := Lib.hid (by
          rw [← HQ.out, HC.out, List.map_append, atms_fst, HN1.out]; rfl)
        have HX := Lib.hid hlx
        clear hlx hz1 hown1 hb1 HRN HV1 hbs HA1 HO1
        go_wp2_with fail
        refine (rstrB_any nm ax (j + 1) capx _).mono ?_
        rintro e w11 ⟨rfl, hb11⟩
        have F11 := Lib.hid (F10.out.step hb11)
        have HS11 := Lib.hid ((struct_lies HNM.out HX.out).below hb11)
        clear hb11
        have HE := Lib.hid (rball_any _ _ w11 HS11.out)
        rw [HQ2.out] at HE
        have HE2 : Hid (Calls Try.prog 65 #[.agg #[.int .i64 3, .int .i64 0, .string nm, .slice ax (j + 1) capx]] w11 (MadeEnd Q w11)) := HE
        go_wp2_with fail
        refine HE2.out.mono ?_
        rintro e w7 ⟨y, rfl, hy, hb7⟩
        obtain ⟨ya, yc, rfl⟩ := hy.slice
        have F8 := Lib.hid (F11.out.step hb7)
        have Y8 : Hid (Beh w w7 Q (.slice ya Q.args.length yc)) := Lib.hid (Beh.of hy F11.out.z)
        clear hb7 hy HE HE2
        obtain ⟨c0, c1, c2, c3⟩ : w7.cell? ⟨w.heap.size + 1, 0, none⟩ = some (.int .i64 0) ∧ w7.cell? ⟨w.heap.size + 1, 1, none⟩ = some (.int .i64 0) ∧ w7.cell? ⟨w.heap.size + 1, 2, none⟩ = some (.string ⟨#[]⟩) ∧ w7.cell? ⟨w.heap.size + 1, 3, none⟩ = some (.slice none 0 0) := F8.out.r.cells
        obtain ⟨f0, f1, f2, f3⟩ := F8.out.r.froz
        go_wp2_with fail
        clear c0 c1 c2 c3 f0 f1 f2 f3
        have F9x : Hid (Fr w ((((w7.setCell ⟨w.heap.size + 1, 0, none⟩ (.int .i64 Q.kind)).setCell ⟨w.heap.size + 1, 1, none⟩ (.int .i64 Q.num)).setCell ⟨w.heap.size + 1, 2, none⟩ (.string Q.name)).setCell ⟨w.heap.size + 1, 3, none⟩ (.slice ya Q.args.length yc)) c (.slice va c.args.length vc) Q (.slice ya Q.args.length yc)) := Lib.hid (F8.out.putR Q (.slice ya Q.args.length yc) _ rfl)
        have Y9 : Hid (Beh w ((((w7.setCell ⟨w.heap.size + 1, 0, none⟩ (.int .i64 Q.kind)).setCell ⟨w.heap.size + 1, 1, none⟩ (.int .i64 Q.num)).setCell ⟨w.heap.size + 1, 2, none⟩ (.string Q.name)).setCell ⟨w.heap.size + 1, 3, none⟩ (.slice ya Q.args.length yc)) Q (.slice ya Q.args.length yc)) := Lib.hid (Beh.put Y8.out (by omega) (F8.out.r) _ _ _ _ _ rfl)
        generalize ((((w7.setCell ⟨w.heap.size + 1, 0, none⟩ (.int .i64 Q.kind)).setCell ⟨w.heap.size + 1, 1, none⟩ (.int .i64 Q.num)).setCell ⟨w.heap.size + 1, 2, none⟩ (.string Q.name)).setCell ⟨w.heap.size + 1, 3, none⟩ (.slice ya Q.args.length yc)) = W9 at *
        obtain ⟨k0, k1, k2, k3⟩ : W9.cell? ⟨w.heap.size + 1, 0, none⟩ = some (.int .i64 Q.kind) ∧ W9.cell? ⟨w.heap.size + 1, 1, none⟩ = some (.int .i64 Q.num) ∧ W9.cell? ⟨w.heap.size + 1, 2, none⟩ = some (.string Q.name) ∧ W9.cell? ⟨w.heap.size + 1, 3, none⟩ = some (.slice ya Q.args.length yc) := F9x.out.r.cells
        exact bodyPost_ret (v := tv Q (.slice ya Q.args.length yc)) (by simp [results, Try.results67, go_sem, k0, k1, k2, k3]) rfl (F9x.out.done Y9.out)

end Go.Proofs.Yteilodihjhdngaa

/- The specification's functions that make error terms. -/
namespace Go.Proofs.Yteilodihjhdngaa
open Go.RowKit Go.Proofs.HT

theorem rwith_any (nm : ByteArray) (c : Tm) (v : Value) (ws : List ByteArray) (a : Option Addr) (n cap : Nat) (w : World) (hnm : nm.size ≤ 9223372036854775807) (h : LiesT w c v) (hlen : ws.length = n) (hn : n ≤ 5) (hws : ∀ s ∈ ws, s.size ≤ 9223372036854775807) (hW : Words w a ws) :
    Calls Try.prog 67 #[tv c v, .string nm, .slice a n cap] w (MadeEnd (withT c nm ws) w) := by
  cases hv : validB c
  · have h2 := rwith_no nm c v (.slice a n cap) w h hv
    have e : withT c nm ws = z0 := by unfold withT; rw [hv]; rfl
    rw [e]; exact h2
  · exact rwith_yes nm c v ws a n cap w hnm h hv hlen hn hws hW

set_option maxHeartbeats 2000000 in
theorem rUninst_any (c : Tm) (v : Value)  (w : World) (h : LiesT w c v)  : Calls Try.prog 22 #[tv c v] w (MadeEnd (withT c ⟨#[117, 110, 105, 110, 115, 116, 97, 110, 116, 105, 97, 116, 105, 111, 110, 95, 101, 114, 114, 111, 114]⟩ []) w) := by
  obtain ⟨va, vc, rfl⟩ : ∃ a k, v = .slice a c.args.length k := h.slice
  have F0 := Lib.hid (Fr.start w c (.slice va c.args.length vc))
  have F1 := F0
  have HC : Hid (Calls Try.prog 67 #[tv c (.slice va c.args.length vc), .string ⟨#[117, 110, 105, 110, 115, 116, 97, 110, 116, 105, 97, 116, 105, 111, 110, 95, 101, 114, 114, 111, 114]⟩, .slice none 0 0] ((w.alloc (.cells #[.int .i64 c.kind, .int .i64 c.num, .string c.name, .slice va c.args.length vc] 24)).alloc (.cells #[.int .i64 0, .int .i64 0, .string ⟨#[]⟩, .slice none 0 0] 24)) (MadeEnd (withT c ⟨#[117, 110, 105, 110, 115, 116, 97, 110, 116, 105, 97, 116, 105, 111, 110, 95, 101, 114, 114, 111, 114]⟩ []) ((w.alloc (.cells #[.int .i64 c.kind, .int .i64 c.num, .string c.name, .slice va c.args.length vc] 24)).alloc (.cells #[.int .i64 0, .int .i64 0, .string ⟨#[]⟩, .slice none 0 0] 24)))) := Lib.hid (rwith_any ⟨#[117, 110, 105, 110, 115, 116, 97, 110, 116, 105, 97, 116, 105, 111, 110, 95, 101, 114, 114, 111, 114]⟩ c (.slice va c.args.length vc) [] none 0 0 ((w.alloc (.cells #[.int .i64 c.kind, .int .i64 c.num, .string c.name, .slice va c.args.length vc] 24)).alloc (.cells #[.int .i64 0, .int .i64 0, .string ⟨#[]⟩, .slice none 0 0] 24)) (by simp [ByteArray.size]) (h.below F1.out.b) rfl (by omega) (fun s hs => by simp at hs) (Words.nil _ _))
  generalize withT c ⟨#[117, 110, 105, 110, 115, 116, 97, 110, 116, 105, 97, 116, 105, 111, 110, 95, 101, 114, 114, 111, 114]⟩ [] = Q at *
  clear h 
  simp only [tv]
  go_enter Try.func22, Try.ntmps22
  go_wp2_with fail
  refine HC.out.mono ?_
  rintro e w7 ⟨y, rfl, hy, hb7⟩
  obtain ⟨ya, yc, rfl⟩ := hy.slice
  have F8 := Lib.hid (F1.out.step hb7)
  have Y8 : Hid (Beh w w7 Q (.slice ya Q.args.length yc)) := Lib.hid (Beh.of hy F1.out.z)
  clear hb7 hy HC
  obtain ⟨c0, c1, c2, c3⟩ : w7.cell? ⟨w.heap.size + 1, 0, none⟩ = some (.int .i64 0) ∧ w7.cell? ⟨w.heap.size + 1, 1, none⟩ = some (.int .i64 0) ∧ w7.cell? ⟨w.heap.size + 1, 2, none⟩ = some (.string ⟨#[]⟩) ∧ w7.cell? ⟨w.heap.size + 1, 3, none⟩ = some (.slice none 0 0) := F8.out.r.cells
  obtain ⟨f0, f1, f2, f3⟩ := F8.out.r.froz
  go_wp2_with fail
  clear c0 c1 c2 c3 f0 f1 f2 f3
  have F9 : Hid (Fr w ((((w7.setCell ⟨w.heap.size + 1, 0, none⟩ (.int .i64 Q.kind)).setCell ⟨w.heap.size + 1, 1, none⟩ (.int .i64 Q.num)).setCell ⟨w.heap.size + 1, 2, none⟩ (.string Q.name)).setCell ⟨w.heap.size + 1, 3, none⟩ (.slice ya Q.args.length yc)) c (.slice va c.args.length vc) Q (.slice ya Q.args.length yc)) := Lib.hid (F8.out.putR Q (.slice ya Q.args.length yc) _ rfl)
  have Y9 : Hid (Beh w ((((w7.setCell ⟨w.heap.size + 1, 0, none⟩ (.int .i64 Q.kind)).setCell ⟨w.heap.size + 1, 1, none⟩ (.int .i64 Q.num)).setCell ⟨w.heap.size + 1, 2, none⟩ (.string Q.name)).setCell ⟨w.heap.size + 1, 3, none⟩ (.slice ya Q.args.length yc)) Q (.slice ya Q.args.length yc)) := Lib.hid (Beh.put Y8.out (by omega) (F8.out.r) _ _ _ _ _ rfl)
  generalize ((((w7.setCell ⟨w.heap.size + 1, 0, none⟩ (.int .i64 Q.kind)).setCell ⟨w.heap.size + 1, 1, none⟩ (.int .i64 Q.num)).setCell ⟨w.heap.size + 1, 2, none⟩ (.string Q.name)).setCell ⟨w.heap.size + 1, 3, none⟩ (.slice ya Q.args.length yc)) = W9 at *
  obtain ⟨k0, k1, k2, k3⟩ : W9.cell? ⟨w.heap.size + 1, 0, none⟩ = some (.int .i64 Q.kind) ∧ W9.cell? ⟨w.heap.size + 1, 1, none⟩ = some (.int .i64 Q.num) ∧ W9.cell? ⟨w.heap.size + 1, 2, none⟩ = some (.string Q.name) ∧ W9.cell? ⟨w.heap.size + 1, 3, none⟩ = some (.slice ya Q.args.length yc) := F9.out.r.cells
  exact bodyPost_ret (v := tv Q (.slice ya Q.args.length yc)) (by simp [results, Try.results22, go_sem, k0, k1, k2, k3]) rfl (F9.out.done Y9.out)

set_option maxHeartbeats 2000000 in
theorem rType_any (c : Tm) (v : Value) (kd : ByteArray) (w : World) (h : LiesT w c v) (hkd : kd.size ≤ 9223372036854775807) : Calls Try.prog 23 #[.string kd, tv c v] w (MadeEnd (withT c ⟨#[116, 121, 112, 101, 95, 101, 114, 114, 111, 114]⟩ [kd]) w) := by
  obtain ⟨va, vc, rfl⟩ : ∃ a k, v = .slice a c.args.length k := h.slice
  have F0 := Lib.hid (Fr.start w c (.slice va c.args.length vc))
  have F1 : Hid (Fr w (((w.alloc (.cells #[.int .i64 c.kind, .int .i64 c.num, .string c.name, .slice va c.args.length vc] 24)).alloc (.cells #[.int .i64 0, .int .i64 0, .string ⟨#[]⟩, .slice none 0 0] 24)).alloc (.cells #[.string kd] 9)) c (.slice va c.args.length vc) z0 (.slice none 0 0)) := Lib.hid (F0.out.step (al0 _ _))
  have HC : Hid (Calls Try.prog 67 #[tv c (.slice va c.args.length vc), .string ⟨#[116, 121, 112, 101, 95, 101, 114, 114, 111, 114]⟩, .slice (some ⟨w.heap.size + 1 + 1, 0, none⟩) 1 1] (((w.alloc (.cells #[.int .i64 c.kind, .int .i64 c.num, .string c.name, .slice va c.args.length vc] 24)).alloc (.cells #[.int .i64 0, .int .i64 0, .string ⟨#[]⟩, .slice none 0 0] 24)).alloc (.cells #[.string kd] 9)) (MadeEnd (withT c ⟨#[116, 121, 112, 101, 95, 101, 114, 114, 111, 114]⟩ [kd]) (((w.alloc (.cells #[.int .i64 c.kind, .int .i64 c.num, .string c.name, .slice va c.args.length vc] 24)).alloc (.cells #[.int .i64 0, .int .i64 0, .string ⟨#[]⟩, .slice none 0 0] 24)).alloc (.cells #[.string kd] 9)))) := Lib.hid (rwith_any ⟨#[116, 121, 112, 101, 95, 101, 114, 114, 111, 114]⟩ c (.slice va c.args.length vc) [kd] (some ⟨w.heap.size + 1 + 1, 0, none⟩) 1 1 (((w.alloc (.cells #[.int .i64 c.kind, .int .i64 c.num, .string c.name, .slice va c.args.length vc] 24)).alloc (.cells #[.int .i64 0, .int .i64 0, .string ⟨#[]⟩, .slice none 0 0] 24)).alloc (.cells #[.string kd] 9)) (by simp [ByteArray.size]) (h.below F1.out.b) rfl (by omega) (fun s hs => by simp at hs; subst hs; assumption) (by have hw := words1 ((w.alloc (.cells #[.int .i64 c.kind, .int .i64 c.num, .string c.name, .slice va c.args.length vc] 24)).alloc (.cells #[.int .i64 0, .int .i64 0, .string ⟨#[]⟩, .slice none 0 0] 24)) kd; simpa using hw))
  generalize withT c ⟨#[116, 121, 112, 101, 95, 101, 114, 114, 111, 114]⟩ [kd] = Q at *
  clear h hkd
  simp only [tv]
  go_enter Try.func23, Try.ntmps23
  go_wp2_with fail
  refine HC.out.mono ?_
  rintro e w7 ⟨y, rfl, hy, hb7⟩
  obtain ⟨ya, yc, rfl⟩ := hy.slice
  have F8 := Lib.hid (F1.out.step hb7)
  have Y8 : Hid (Beh w w7 Q (.slice ya Q.args.length yc)) := Lib.hid (Beh.of hy F1.out.z)
  clear hb7 hy HC
  obtain ⟨c0, c1, c2, c3⟩ : w7.cell? ⟨w.heap.size + 1, 0, none⟩ = some (.int .i64 0) ∧ w7.cell? ⟨w.heap.size + 1, 1, none⟩ = some (.int .i64 0) ∧ w7.cell? ⟨w.heap.size + 1, 2, none⟩ = some (.string ⟨#[]⟩) ∧ w7.cell? ⟨w.heap.size + 1, 3, none⟩ = some (.slice none 0 0) := F8.out.r.cells
  obtain ⟨f0, f1, f2, f3⟩ := F8.out.r.froz
  go_wp2_with fail
  clear c0 c1 c2 c3 f0 f1 f2 f3
  have F9 : Hid (Fr w ((((w7.setCell ⟨w.heap.size + 1, 0, none⟩ (.int .i64 Q.kind)).setCell ⟨w.heap.size + 1, 1, none⟩ (.int .i64 Q.num)).setCell ⟨w.heap.size + 1, 2, none⟩ (.string Q.name)).setCell ⟨w.heap.size + 1, 3, none⟩ (.slice ya Q.args.length yc)) c (.slice va c.args.length vc) Q (.slice ya Q.args.length yc)) := Lib.hid (F8.out.putR Q (.slice ya Q.args.length yc) _ rfl)
  have Y9 : Hid (Beh w ((((w7.setCell ⟨w.heap.size + 1, 0, none⟩ (.int .i64 Q.kind)).setCell ⟨w.heap.size + 1, 1, none⟩ (.int .i64 Q.num)).setCell ⟨w.heap.size + 1, 2, none⟩ (.string Q.name)).setCell ⟨w.heap.size + 1, 3, none⟩ (.slice ya Q.args.length yc)) Q (.slice ya Q.args.length yc)) := Lib.hid (Beh.put Y8.out (by omega) (F8.out.r) _ _ _ _ _ rfl)
  generalize ((((w7.setCell ⟨w.heap.size + 1, 0, none⟩ (.int .i64 Q.kind)).setCell ⟨w.heap.size + 1, 1, none⟩ (.int .i64 Q.num)).setCell ⟨w.heap.size + 1, 2, none⟩ (.string Q.name)).setCell ⟨w.heap.size + 1, 3, none⟩ (.slice ya Q.args.length yc)) = W9 at *
  obtain ⟨k0, k1, k2, k3⟩ : W9.cell? ⟨w.heap.size + 1, 0, none⟩ = some (.int .i64 Q.kind) ∧ W9.cell? ⟨w.heap.size + 1, 1, none⟩ = some (.int .i64 Q.num) ∧ W9.cell? ⟨w.heap.size + 1, 2, none⟩ = some (.string Q.name) ∧ W9.cell? ⟨w.heap.size + 1, 3, none⟩ = some (.slice ya Q.args.length yc) := F9.out.r.cells
  exact bodyPost_ret (v := tv Q (.slice ya Q.args.length yc)) (by simp [results, Try.results23, go_sem, k0, k1, k2, k3]) rfl (F9.out.done Y9.out)

set_option maxHeartbeats 2000000 in
theorem rDomain_any (c : Tm) (v : Value) (kd : ByteArray) (w : World) (h : LiesT w c v) (hkd : kd.size ≤ 9223372036854775807) : Calls Try.prog 24 #[.string kd, tv c v] w (MadeEnd (withT c ⟨#[100, 111, 109, 97, 105, 110, 95, 101, 114, 114, 111, 114]⟩ [kd]) w) := by
  obtain ⟨va, vc, rfl⟩ : ∃ a k, v = .slice a c.args.length k := h.slice
  have F0 := Lib.hid (Fr.start w c (.slice va c.args.length vc))
  have F1 : Hid (Fr w (((w.alloc (.cells #[.int .i64 c.kind, .int .i64 c.num, .string c.name, .slice va c.args.length vc] 24)).alloc (.cells #[.int .i64 0, .int .i64 0, .string ⟨#[]⟩, .slice none 0 0] 24)).alloc (.cells #[.string kd] 9)) c (.slice va c.args.length vc) z0 (.slice none 0 0)) := Lib.hid (F0.out.step (al0 _ _))
  have HC : Hid (Calls Try.prog 67 #[tv c (.slice va c.args.length vc), .string ⟨#[100, 111, 109, 97, 105, 110, 95, 101, 114, 114, 111, 114]⟩, .slice (some ⟨w.heap.size + 1 + 1, 0, none⟩) 1 1] (((w.alloc (.cells #[.int .i64 c.kind, .int .i64 c.num, .string c.name, .slice va c.args.length vc] 24)).alloc (.cells #[.int .i64 0, .int .i64 0, .string ⟨#[]⟩, .slice none 0 0] 24)).alloc (.cells #[.string kd] 9)) (MadeEnd (withT c ⟨#[100, 111, 109, 97, 105, 110, 95, 101, 114, 114, 111, 114]⟩ [kd]) (((w.alloc (.cells #[.int .i64 c.kind, .int .i64 c.num, .string c.name, .slice va c.args.length vc] 24)).alloc (.cells #[.int .i64 0, .int .i64 0, .string ⟨#[]⟩, .slice none 0 0] 24)).alloc (.cells #[.string kd] 9)))) := Lib.hid (rwith_any ⟨#[100, 111, 109, 97, 105, 110, 95, 101, 114, 114, 111, 114]⟩ c (.slice va c.args.length vc) [kd] (some ⟨w.heap.size + 1 + 1, 0, none⟩) 1 1 (((w.alloc (.cells #[.int .i64 c.kind, .int .i64 c.num, .string c.name, .slice va c.args.length vc] 24)).alloc (.cells #[.int .i64 0, .int .i64 0, .string ⟨#[]⟩, .slice none 0 0] 24)).alloc (.cells #[.string kd] 9)) (by simp [ByteArray.size]) (h.below F1.out.b) rfl (by omega) (fun s hs => by simp at hs; subst hs; assumption) (by have hw := words1 ((w.alloc (.cells #[.int .i64 c.kind, .int .i64 c.num, .string c.name, .slice va c.args.length vc] 24)).alloc (.cells #[.int .i64 0, .int .i64 0, .string ⟨#[]⟩, .slice none 0 0] 24)) kd; simpa using hw))
  generalize withT c ⟨#[100, 111, 109, 97, 105, 110, 95, 101, 114, 114, 111, 114]⟩ [kd] = Q at *
  clear h hkd
  simp only [tv]
  go_enter Try.func24, Try.ntmps24
  go_wp2_with fail
  refine HC.out.mono ?_
  rintro e w7 ⟨y, rfl, hy, hb7⟩
  obtain ⟨ya, yc, rfl⟩ := hy.slice
  have F8 := Lib.hid (F1.out.step hb7)
  have Y8 : Hid (Beh w w7 Q (.slice ya Q.args.length yc)) := Lib.hid (Beh.of hy F1.out.z)
  clear hb7 hy HC
  obtain ⟨c0, c1, c2, c3⟩ : w7.cell? ⟨w.heap.size + 1, 0, none⟩ = some (.int .i64 0) ∧ w7.cell? ⟨w.heap.size + 1, 1, none⟩ = some (.int .i64 0) ∧ w7.cell? ⟨w.heap.size + 1, 2, none⟩ = some (.string ⟨#[]⟩) ∧ w7.cell? ⟨w.heap.size + 1, 3, none⟩ = some (.slice none 0 0) := F8.out.r.cells
  obtain ⟨f0, f1, f2, f3⟩ := F8.out.r.froz
  go_wp2_with fail
  clear c0 c1 c2 c3 f0 f1 f2 f3
  have F9 : Hid (Fr w ((((w7.setCell ⟨w.heap.size + 1, 0, none⟩ (.int .i64 Q.kind)).setCell ⟨w.heap.size + 1, 1, none⟩ (.int .i64 Q.num)).setCell ⟨w.heap.size + 1, 2, none⟩ (.string Q.name)).setCell ⟨w.heap.size + 1, 3, none⟩ (.slice ya Q.args.length yc)) c (.slice va c.args.length vc) Q (.slice ya Q.args.length yc)) := Lib.hid (F8.out.putR Q (.slice ya Q.args.length yc) _ rfl)
  have Y9 : Hid (Beh w ((((w7.setCell ⟨w.heap.size + 1, 0, none⟩ (.int .i64 Q.kind)).setCell ⟨w.heap.size + 1, 1, none⟩ (.int .i64 Q.num)).setCell ⟨w.heap.size + 1, 2, none⟩ (.string Q.name)).setCell ⟨w.heap.size + 1, 3, none⟩ (.slice ya Q.args.length yc)) Q (.slice ya Q.args.length yc)) := Lib.hid (Beh.put Y8.out (by omega) (F8.out.r) _ _ _ _ _ rfl)
  generalize ((((w7.setCell ⟨w.heap.size + 1, 0, none⟩ (.int .i64 Q.kind)).setCell ⟨w.heap.size + 1, 1, none⟩ (.int .i64 Q.num)).setCell ⟨w.heap.size + 1, 2, none⟩ (.string Q.name)).setCell ⟨w.heap.size + 1, 3, none⟩ (.slice ya Q.args.length yc)) = W9 at *
  obtain ⟨k0, k1, k2, k3⟩ : W9.cell? ⟨w.heap.size + 1, 0, none⟩ = some (.int .i64 Q.kind) ∧ W9.cell? ⟨w.heap.size + 1, 1, none⟩ = some (.int .i64 Q.num) ∧ W9.cell? ⟨w.heap.size + 1, 2, none⟩ = some (.string Q.name) ∧ W9.cell? ⟨w.heap.size + 1, 3, none⟩ = some (.slice ya Q.args.length yc) := F9.out.r.cells
  exact bodyPost_ret (v := tv Q (.slice ya Q.args.length yc)) (by simp [results, Try.results24, go_sem, k0, k1, k2, k3]) rfl (F9.out.done Y9.out)

set_option maxHeartbeats 2000000 in
theorem rExistence_any (c : Tm) (v : Value) (kd : ByteArray) (w : World) (h : LiesT w c v) (hkd : kd.size ≤ 9223372036854775807) : Calls Try.prog 25 #[.string kd, tv c v] w (MadeEnd (withT c ⟨#[101, 120, 105, 115, 116, 101, 110, 99, 101, 95, 101, 114, 114, 111, 114]⟩ [kd]) w) := by
  obtain ⟨va, vc, rfl⟩ : ∃ a k, v = .slice a c.args.length k := h.slice
  have F0 := Lib.hid (Fr.start w c (.slice va c.args.length vc))
  have F1 : Hid (Fr w (((w.alloc (.cells #[.int .i64 c.kind, .int .i64 c.num, .string c.name, .slice va c.args.length vc] 24)).alloc (.cells #[.int .i64 0, .int .i64 0, .string ⟨#[]⟩, .slice none 0 0] 24)).alloc (.cells #[.string kd] 9)) c (.slice va c.args.length vc) z0 (.slice none 0 0)) := Lib.hid (F0.out.step (al0 _ _))
  have HC : Hid (Calls Try.prog 67 #[tv c (.slice va c.args.length vc), .string ⟨#[101, 120, 105, 115, 116, 101, 110, 99, 101, 95, 101, 114, 114, 111, 114]⟩, .slice (some ⟨w.heap.size + 1 + 1, 0, none⟩) 1 1] (((w.alloc (.cells #[.int .i64 c.kind, .int .i64 c.num, .string c.name, .slice va c.args.length vc] 24)).alloc (.cells #[.int .i64 0, .int .i64 0, .string ⟨#[]⟩, .slice none 0 0] 24)).alloc (.cells #[.string kd] 9)) (MadeEnd (withT c ⟨#[101, 120, 105, 115, 116, 101, 110, 99, 101, 95, 101, 114, 114, 111, 114]⟩ [kd]) (((w.alloc (.cells #[.int .i64 c.kind, .int .i64 c.num, .string c.name, .slice va c.args.length vc] 24)).alloc (.cells #[.int .i64 0, .int .i64 0, .string ⟨#[]⟩, .slice none 0 0] 24)).alloc (.cells #[.string kd] 9)))) := Lib.hid (rwith_any ⟨#[101, 120, 105, 115, 116, 101, 110, 99, 101, 95, 101, 114, 114, 111, 114]⟩ c (.slice va c.args.length vc) [kd] (some ⟨w.heap.size + 1 + 1, 0, none⟩) 1 1 (((w.alloc (.cells #[.int .i64 c.kind, .int .i64 c.num, .string c.name, .slice va c.args.length vc] 24)).alloc (.cells #[.int .i64 0, .int .i64 0, .string ⟨#[]⟩, .slice none 0 0] 24)).alloc (.cells #[.string kd] 9)) (by simp [ByteArray.size]) (h.below F1.out.b) rfl (by omega) (fun s hs => by simp at hs; subst hs; assumption) (by have hw := words1 ((w.alloc (.cells #[.int .i64 c.kind, .int .i64 c.num, .string c.name, .slice va c.args.length vc] 24)).alloc (.cells #[.int .i64 0, .int .i64 0, .string ⟨#[]⟩, .slice none 0 0] 24)) kd; simpa using hw))
  generalize withT c ⟨#[101, 120, 105, 115, 116, 101, 110, 99, 101, 95, 101, 114, 114, 111, 114]⟩ [kd] = Q at *
  clear h hkd
  simp only [tv]
  go_enter Try.func25, Try.ntmps25
  go_wp2_with fail
  refine HC.out.mono ?_
  rintro e w7 ⟨y, rfl, hy, hb7⟩
  obtain ⟨ya, yc, rfl⟩ := hy.slice
  have F8 := Lib.hid (F1.out.step hb7)
  have Y8 : Hid (Beh w w7 Q (.slice ya Q.args.length yc)) := Lib.hid (Beh.of hy F1.out.z)
  clear hb7 hy HC
  obtain ⟨c0, c1, c2, c3⟩ : w7.cell? ⟨w.heap.size + 1, 0, none⟩ = some (.int .i64 0) ∧ w7.cell? ⟨w.heap.size + 1, 1, none⟩ = some (.int .i64 0) ∧ w7.cell? ⟨w.heap.size + 1, 2, none⟩ = some (.string ⟨#[]⟩) ∧ w7.cell? ⟨w.heap.size + 1, 3, none⟩ = some (.slice none 0 0) := F8.out.r.cells
  obtain ⟨f0, f1, f2, f3⟩ := F8.out.r.froz
  go_wp2_with fail
  clear c0 c1 c2 c3 f0 f1 f2 f3
  have F9 : Hid (Fr w ((((w7.setCell ⟨w.heap.size + 1, 0, none⟩ (.int .i64 Q.kind)).setCell ⟨w.heap.size + 1, 1, none⟩ (.int .i64 Q.num)).setCell ⟨w.heap.size + 1, 2, none⟩ (.string Q.name)).setCell ⟨w.heap.size + 1, 3, none⟩ (.slice ya Q.args.length yc)) c (.slice va c.args.length vc) Q (.slice ya Q.args.length yc)) := Lib.hid (F8.out.putR Q (.slice ya Q.args.length yc) _ rfl)
  have Y9 : Hid (Beh w ((((w7.setCell ⟨w.heap.size + 1, 0, none⟩ (.int .i64 Q.kind)).setCell ⟨w.heap.size + 1, 1, none⟩ (.int .i64 Q.num)).setCell ⟨w.heap.size + 1, 2, none⟩ (.string Q.name)).setCell ⟨w.heap.size + 1, 3, none⟩ (.slice ya Q.args.length yc)) Q (.slice ya Q.args.length yc)) := Lib.hid (Beh.put Y8.out (by omega) (F8.out.r) _ _ _ _ _ rfl)
  generalize ((((w7.setCell ⟨w.heap.size + 1, 0, none⟩ (.int .i64 Q.kind)).setCell ⟨w.heap.size + 1, 1, none⟩ (.int .i64 Q.num)).setCell ⟨w.heap.size + 1, 2, none⟩ (.string Q.name)).setCell ⟨w.heap.size + 1, 3, none⟩ (.slice ya Q.args.length yc)) = W9 at *
  obtain ⟨k0, k1, k2, k3⟩ : W9.cell? ⟨w.heap.size + 1, 0, none⟩ = some (.int .i64 Q.kind) ∧ W9.cell? ⟨w.heap.size + 1, 1, none⟩ = some (.int .i64 Q.num) ∧ W9.cell? ⟨w.heap.size + 1, 2, none⟩ = some (.string Q.name) ∧ W9.cell? ⟨w.heap.size + 1, 3, none⟩ = some (.slice ya Q.args.length yc) := F9.out.r.cells
  exact bodyPost_ret (v := tv Q (.slice ya Q.args.length yc)) (by simp [results, Try.results25, go_sem, k0, k1, k2, k3]) rfl (F9.out.done Y9.out)

set_option maxHeartbeats 2000000 in
theorem rPermission_any (c : Tm) (v : Value) (ac : ByteArray) (kd : ByteArray) (w : World) (h : LiesT w c v) (hac : ac.size ≤ 9223372036854775807) (hkd : kd.size ≤ 9223372036854775807) : Calls Try.prog 26 #[.string ac, .string kd, tv c v] w (MadeEnd (withT c ⟨#[112, 101, 114, 109, 105, 115, 115, 105, 111, 110, 95, 101, 114, 114, 111, 114]⟩ [ac, kd]) w) := by
  obtain ⟨va, vc, rfl⟩ : ∃ a k, v = .slice a c.args.length k := h.slice
  have F0 := Lib.hid (Fr.start w c (.slice va c.args.length vc))
  have F1 : Hid (Fr w (((w.alloc (.cells #[.int .i64 c.kind, .int .i64 c.num, .string c.name, .slice va c.args.length vc] 24)).alloc (.cells #[.int .i64 0, .int .i64 0, .string ⟨#[]⟩, .slice none 0 0] 24)).alloc (.cells #[.string ac, .string kd] 9)) c (.slice va c.args.length vc) z0 (.slice none 0 0)) := Lib.hid (F0.out.step (al0 _ _))
  have HC : Hid (Calls Try.prog 67 #[tv c (.slice va c.args.length vc), .string ⟨#[112, 101, 114, 109, 105, 115, 115, 105, 111, 110, 95, 101, 114, 114, 111, 114]⟩, .slice (some ⟨w.heap.size + 1 + 1, 0, none⟩) 2 2] (((w.alloc (.cells #[.int .i64 c.kind, .int .i64 c.num, .string c.name, .slice va c.args.length vc] 24)).alloc (.cells #[.int .i64 0, .int .i64 0, .string ⟨#[]⟩, .slice none 0 0] 24)).alloc (.cells #[.string ac, .string kd] 9)) (MadeEnd (withT c ⟨#[112, 101, 114, 109, 105, 115, 115, 105, 111, 110, 95, 101, 114, 114, 111, 114]⟩ [ac, kd]) (((w.alloc (.cells #[.int .i64 c.kind, .int .i64 c.num, .string c.name, .slice va c.args.length vc] 24)).alloc (.cells #[.int .i64 0, .int .i64 0, .string ⟨#[]⟩, .slice none 0 0] 24)).alloc (.cells #[.string ac, .string kd] 9)))) := Lib.hid (rwith_any ⟨#[112, 101, 114, 109, 105, 115, 115, 105, 111, 110, 95, 101, 114, 114, 111, 114]⟩ c (.slice va c.args.length vc) [ac, kd] (some ⟨w.heap.size + 1 + 1, 0, none⟩) 2 2 (((w.alloc (.cells #[.int .i64 c.kind, .int .i64 c.num, .string c.name, .slice va c.args.length vc] 24)).alloc (.cells #[.int .i64 0, .int .i64 0, .string ⟨#[]⟩, .slice none 0 0] 24)).alloc (.cells #[.string ac, .string kd] 9)) (by simp [ByteArray.size]) (h.below F1.out.b) rfl (by omega) (fun s hs => by simp at hs; rcases hs with rfl | rfl <;> assumption) (by have hw := words2 ((w.alloc (.cells #[.int .i64 c.kind, .int .i64 c.num, .string c.name, .slice va c.args.length vc] 24)).alloc (.cells #[.int .i64 0, .int .i64 0, .string ⟨#[]⟩, .slice none 0 0] 24)) ac kd; simpa using hw))
  generalize withT c ⟨#[112, 101, 114, 109, 105, 115, 115, 105, 111, 110, 95, 101, 114, 114, 111, 114]⟩ [ac, kd] = Q at *
  clear h hac hkd
  simp only [tv]
  go_enter Try.func26, Try.ntmps26
  go_wp2_with fail
  refine HC.out.mono ?_
  rintro e w7 ⟨y, rfl, hy, hb7⟩
  obtain ⟨ya, yc, rfl⟩ := hy.slice
  have F8 := Lib.hid (F1.out.step hb7)
  have Y8 : Hid (Beh w w7 Q (.slice ya Q.args.length yc)) := Lib.hid (Beh.of hy F1.out.z)
  clear hb7 hy HC
  obtain ⟨c0, c1, c2, c3⟩ : w7.cell? ⟨w.heap.size + 1, 0, none⟩ = some (.int .i64 0) ∧ w7.cell? ⟨w.heap.size + 1, 1, none⟩ = some (.int .i64 0) ∧ w7.cell? ⟨w.heap.size + 1, 2, none⟩ = some (.string ⟨#[]⟩) ∧ w7.cell? ⟨w.heap.size + 1, 3, none⟩ = some (.slice none 0 0) := F8.out.r.cells
  obtain ⟨f0, f1, f2, f3⟩ := F8.out.r.froz
  go_wp2_with fail
  clear c0 c1 c2 c3 f0 f1 f2 f3
  have F9 : Hid (Fr w ((((w7.setCell ⟨w.heap.size + 1, 0, none⟩ (.int .i64 Q.kind)).setCell ⟨w.heap.size + 1, 1, none⟩ (.int .i64 Q.num)).setCell ⟨w.heap.size + 1, 2, none⟩ (.string Q.name)).setCell ⟨w.heap.size + 1, 3, none⟩ (.slice ya Q.args.length yc)) c (.slice va c.args.length vc) Q (.slice ya Q.args.length yc)) := Lib.hid (F8.out.putR Q (.slice ya Q.args.length yc) _ rfl)
  have Y9 : Hid (Beh w ((((w7.setCell ⟨w.heap.size + 1, 0, none⟩ (.int .i64 Q.kind)).setCell ⟨w.heap.size + 1, 1, none⟩ (.int .i64 Q.num)).setCell ⟨w.heap.size + 1, 2, none⟩ (.string Q.name)).setCell ⟨w.heap.size + 1, 3, none⟩ (.slice ya Q.args.length yc)) Q (.slice ya Q.args.length yc)) := Lib.hid (Beh.put Y8.out (by omega) (F8.out.r) _ _ _ _ _ rfl)
  generalize ((((w7.setCell ⟨w.heap.size + 1, 0, none⟩ (.int .i64 Q.kind)).setCell ⟨w.heap.size + 1, 1, none⟩ (.int .i64 Q.num)).setCell ⟨w.heap.size + 1, 2, none⟩ (.string Q.name)).setCell ⟨w.heap.size + 1, 3, none⟩ (.slice ya Q.args.length yc)) = W9 at *
  obtain ⟨k0, k1, k2, k3⟩ : W9.cell? ⟨w.heap.size + 1, 0, none⟩ = some (.int .i64 Q.kind) ∧ W9.cell? ⟨w.heap.size + 1, 1, none⟩ = some (.int .i64 Q.num) ∧ W9.cell? ⟨w.heap.size + 1, 2, none⟩ = some (.string Q.name) ∧ W9.cell? ⟨w.heap.size + 1, 3, none⟩ = some (.slice ya Q.args.length yc) := F9.out.r.cells
  exact bodyPost_ret (v := tv Q (.slice ya Q.args.length yc)) (by simp [results, Try.results26, go_sem, k0, k1, k2, k3]) rfl (F9.out.done Y9.out)

set_option maxHeartbeats 2000000 in
theorem rInst_any (w : World) : Calls Try.prog 21 #[] w (MadeEnd instT w) := by
  have HC : Hid (∀ w0, Calls Try.prog 65 #[pv 2 0 ⟨#[105, 110, 115, 116, 97, 110, 116, 105, 97, 116, 105, 111, 110, 95, 101, 114, 114, 111, 114]⟩ (.slice none 0 0)] w0 (MadeEnd instT w0)) := Lib.hid (fun w0 => rball_any (atmT ⟨#[105, 110, 115, 116, 97, 110, 116, 105, 97, 116, 105, 111, 110, 95, 101, 114, 114, 111, 114]⟩) _ w0 (atom_lies (by simp [ByteArray.size])))
  generalize instT = Q at *
  have R0 := Lib.hid (RowT.new w z0 (.slice none 0 0))
  go_enter Try.func21, Try.ntmps21
  go_wp2_with fail
  refine (ratomB_any _ _).mono ?_
  rintro e w1 ⟨rfl, hb1⟩
  have R1 := Lib.hid (R0.out.below hb1)
  have B1 : Hid (Below w.heap.size w w1) := Lib.hid (al hb1)
  clear hb1 R0
  go_wp2_with fail
  refine (HC.out _).mono ?_
  clear HC
  rintro e w3 ⟨y, rfl, hy, hb3⟩
  obtain ⟨ya, yc, rfl⟩ := hy.slice
  have CC := made_call R1.out B1.out ⟨_, rfl, hy, hb3⟩
  have R3 := Lib.hid CC.1
  have B3 := Lib.hid CC.2.1
  have HY := Lib.hid CC.2.2
  clear CC hb3 hy
  obtain ⟨c0, c1, c2, c3⟩ := R3.out.cells
  obtain ⟨f0, f1, f2, f3⟩ := R3.out.froz
  go_wp2_with fail
  have PE := made_end1 (T := Q) B3.out HY.out R3.out _ rfl
  have K := (four R3.out (.int .i64 Q.kind) (.int .i64 Q.num) (.string Q.name) (.slice ya Q.args.length yc)).1
  generalize ((((w3.setCell ⟨w.heap.size, 0, none⟩ (.int .i64 Q.kind)).setCell ⟨w.heap.size, 1, none⟩ (.int .i64 Q.num)).setCell ⟨w.heap.size, 2, none⟩ (.string Q.name)).setCell ⟨w.heap.size, 3, none⟩ (.slice ya Q.args.length yc)) = W3 at *
  obtain ⟨k0, k1, k2, k3⟩ := cells_row K
  exact bodyPost_ret (v := tv Q (.slice ya Q.args.length yc)) (by simp [results, Try.results21, go_sem, k0, k1, k2, k3]) rfl PE

set_option maxHeartbeats 2000000 in
theorem rRepresentation_any (s : ByteArray) (w : World) (hn : s.size ≤ 9223372036854775807) : Calls Try.prog 27 #[.string s] w (MadeEnd (vz (errT (.mk 3 0 ⟨#[114, 101, 112, 114, 101, 115, 101, 110, 116, 97, 116, 105, 111, 110, 95, 101, 114, 114, 111, 114]⟩ [atmT s]))) w) := by
  obtain ⟨Q, hQ⟩ : ∃ Q, vz (errT (.mk 3 0 ⟨#[114, 101, 112, 114, 101, 115, 101, 110, 116, 97, 116, 105, 111, 110, 95, 101, 114, 114, 111, 114]⟩ [atmT s])) = Q := ⟨_, rfl⟩
  rw [hQ]
  have HC : Hid (∀ (w0 w1 : World) (g : Nat), w0.heap.size = g → Below (w0.alloc (.cells #[.int .i64 2, .int .i64 0, .string s, .slice none 0 0] 24)).heap.size (w0.alloc (.cells #[.int .i64 2, .int .i64 0, .string s, .slice none 0 0] 24)) w1 → Calls Try.prog 65 #[pv 3 0 ⟨#[114, 101, 112, 114, 101, 115, 101, 110, 116, 97, 116, 105, 111, 110, 95, 101, 114, 114, 111, 114]⟩ (.slice (some ⟨g, 0, none⟩) 1 1)] w1 (MadeEnd Q w1)) := Lib.hid (by
    intro w0 w1 g hg hb1
    have hl := lies_new (ty := 24) hg [(atmT s, .slice none 0 0)] (by simp only [EnvT]; exact ⟨atom_lies hn, trivial⟩) (by simp)
    have hs := (struct_lies (nm := ⟨#[114, 101, 112, 114, 101, 115, 101, 110, 116, 97, 116, 105, 111, 110, 95, 101, 114, 114, 111, 114]⟩) (by simp [ByteArray.size]) hl).below hb1
    have hc := rball_any (.mk 3 0 ⟨#[114, 101, 112, 114, 101, 115, 101, 110, 116, 97, 116, 105, 111, 110, 95, 101, 114, 114, 111, 114]⟩ [atmT s]) _ w1 hs
    rw [← hQ]; exact hc)
  clear hQ
  have R0 := Lib.hid (RowT.new w z0 (.slice none 0 0))
  go_enter Try.func27, Try.ntmps27
  go_wp2_with fail
  refine (ratomB_any s _).mono ?_
  rintro e w1 ⟨rfl, hb1⟩
  have R00 := Lib.hid (R0.out.below hb1)
  have B0 : Hid (Below w.heap.size w w1) := Lib.hid (al hb1)
  clear hb1 R0
  go_wp2_with fail
  refine (rstrB_any _ _ _ _ _).mono ?_
  rintro e w2 ⟨rfl, hb2⟩
  have R1 := Lib.hid (R00.out.below (al hb2))
  have B1 : Hid (Below w.heap.size w w2) := Lib.hid (B0.out.trans ((al hb2).mono B0.out.size))
  have HC2 := Lib.hid (HC.out w1 w2 _ rfl hb2)
  clear hb2 R00 B0 HC
  go_wp2_with fail
  refine HC2.out.mono ?_
  rintro e w3 ⟨y, rfl, hy, hb3⟩
  obtain ⟨ya, yc, rfl⟩ := hy.slice
  have CC := made_call R1.out B1.out ⟨_, rfl, hy, hb3⟩
  have R3 := Lib.hid CC.1
  have B3 := Lib.hid CC.2.1
  have HY := Lib.hid CC.2.2
  clear CC hb3 hy
  obtain ⟨c0, c1, c2, c3⟩ := R3.out.cells
  obtain ⟨f0, f1, f2, f3⟩ := R3.out.froz
  go_wp2_with fail
  have PE := made_end1 (T := Q) B3.out HY.out R3.out _ rfl
  have K := (four R3.out (.int .i64 Q.kind) (.int .i64 Q.num) (.string Q.name) (.slice ya Q.args.length yc)).1
  generalize ((((w3.setCell ⟨w.heap.size, 0, none⟩ (.int .i64 Q.kind)).setCell ⟨w.heap.size, 1, none⟩ (.int .i64 Q.num)).setCell ⟨w.heap.size, 2, none⟩ (.string Q.name)).setCell ⟨w.heap.size, 3, none⟩ (.slice ya Q.args.length yc)) = W3 at *
  obtain ⟨k0, k1, k2, k3⟩ := cells_row K
  exact bodyPost_ret (v := tv Q (.slice ya Q.args.length yc)) (by simp [results, Try.results27, go_sem, k0, k1, k2, k3]) rfl PE

set_option maxHeartbeats 2000000 in
theorem rEvaluation_any (s : ByteArray) (w : World) (hn : s.size ≤ 9223372036854775807) : Calls Try.prog 28 #[.string s] w (MadeEnd (vz (errT (.mk 3 0 ⟨#[101, 118, 97, 108, 117, 97, 116, 105, 111, 110, 95, 101, 114, 114, 111, 114]⟩ [atmT s]))) w) := by
  obtain ⟨Q, hQ⟩ : ∃ Q, vz (errT (.mk 3 0 ⟨#[101, 118, 97, 108, 117, 97, 116, 105, 111, 110, 95, 101, 114, 114, 111, 114]⟩ [atmT s])) = Q := ⟨_, rfl⟩
  rw [hQ]
  have HC : Hid (∀ (w0 w1 : World) (g : Nat), w0.heap.size = g → Below (w0.alloc (.cells #[.int .i64 2, .int .i64 0, .string s, .slice none 0 0] 24)).heap.size (w0.alloc (.cells #[.int .i64 2, .int .i64 0, .string s, .slice none 0 0] 24)) w1 → Calls Try.prog 65 #[pv 3 0 ⟨#[101, 118, 97, 108, 117, 97, 116, 105, 111, 110, 95, 101, 114, 114, 111, 114]⟩ (.slice (some ⟨g, 0, none⟩) 1 1)] w1 (MadeEnd Q w1)) := Lib.hid (by
    intro w0 w1 g hg hb1
    have hl := lies_new (ty := 24) hg [(atmT s, .slice none 0 0)] (by simp only [EnvT]; exact ⟨atom_lies hn, trivial⟩) (by simp)
    have hs := (struct_lies (nm := ⟨#[101, 118, 97, 108, 117, 97, 116, 105, 111, 110, 95, 101, 114, 114, 111, 114]⟩) (by simp [ByteArray.size]) hl).below hb1
    have hc := rball_any (.mk 3 0 ⟨#[101, 118, 97, 108, 117, 97, 116, 105, 111, 110, 95, 101, 114, 114, 111, 114]⟩ [atmT s]) _ w1 hs
    rw [← hQ]; exact hc)
  clear hQ
  have R0 := Lib.hid (RowT.new w z0 (.slice none 0 0))
  go_enter Try.func28, Try.ntmps28
  go_wp2_with fail
  refine (ratomB_any s _).mono ?_
  rintro e w1 ⟨rfl, hb1⟩
  have R00 := Lib.hid (R0.out.below hb1)
  have B0 : Hid (Below w.heap.size w w1) := Lib.hid (al hb1)
  clear hb1 R0
  go_wp2_with fail
  refine (rstrB_any _ _ _ _ _).mono ?_
  rintro e w2 ⟨rfl, hb2⟩
  have R1 := Lib.hid (R00.out.below (al hb2))
  have B1 : Hid (Below w.heap.size w w2) := Lib.hid (B0.out.trans ((al hb2).mono B0.out.size))
  have HC2 := Lib.hid (HC.out w1 w2 _ rfl hb2)
  clear hb2 R00 B0 HC
  go_wp2_with fail
  refine HC2.out.mono ?_
  rintro e w3 ⟨y, rfl, hy, hb3⟩
  obtain ⟨ya, yc, rfl⟩ := hy.slice
  have CC := made_call R1.out B1.out ⟨_, rfl, hy, hb3⟩
  have R3 := Lib.hid CC.1
  have B3 := Lib.hid CC.2.1
  have HY := Lib.hid CC.2.2
  clear CC hb3 hy
  obtain ⟨c0, c1, c2, c3⟩ := R3.out.cells
  obtain ⟨f0, f1, f2, f3⟩ := R3.out.froz
  go_wp2_with fail
  have PE := made_end1 (T := Q) B3.out HY.out R3.out _ rfl
  have K := (four R3.out (.int .i64 Q.kind) (.int .i64 Q.num) (.string Q.name) (.slice ya Q.args.length yc)).1
  generalize ((((w3.setCell ⟨w.heap.size, 0, none⟩ (.int .i64 Q.kind)).setCell ⟨w.heap.size, 1, none⟩ (.int .i64 Q.num)).setCell ⟨w.heap.size, 2, none⟩ (.string Q.name)).setCell ⟨w.heap.size, 3, none⟩ (.slice ya Q.args.length yc)) = W3 at *
  obtain ⟨k0, k1, k2, k3⟩ := cells_row K
  exact bodyPost_ret (v := tv Q (.slice ya Q.args.length yc)) (by simp [results, Try.results28, go_sem, k0, k1, k2, k3]) rfl PE

set_option maxHeartbeats 2000000 in
theorem rSyntax_neg (n : Int) (w : World) (hn : n < 0) : Calls Try.prog 29 #[.int .i64 n] w (MadeEnd z0 w) := by
  have R0 := Lib.hid (RowT.new w z0 (.slice none 0 0))
  have B0 := Lib.hid (al0 w (.cells #[.int .i64 0, .int .i64 0, .string ⟨#[]⟩, .slice none 0 0] 24))
  have d0 : decide (n < 0) = true := by simpa using hn
  go_enter Try.func29, Try.ntmps29
  go_wp2_with fail
  exact bodyPost_ret (v := zv) (by simp [results, Try.results29, go_sem]) rfl ⟨.slice none 0 0, rfl, zero_own, B0.out⟩

set_option maxHeartbeats 2000000 in
theorem rSyntax_pos (n : Int) (w : World) (hn : 0 ≤ n) (hi : n ≤ 9223372036854775807) : Calls Try.prog 29 #[.int .i64 n] w (MadeEnd (vz (errT (.mk 3 0 ⟨#[115, 121, 110, 116, 97, 120, 95, 101, 114, 114, 111, 114]⟩ [.mk 1 n ⟨#[]⟩ []]))) w) := by
  obtain ⟨Q, hQ⟩ : ∃ Q, vz (errT (.mk 3 0 ⟨#[115, 121, 110, 116, 97, 120, 95, 101, 114, 114, 111, 114]⟩ [.mk 1 n ⟨#[]⟩ []])) = Q := ⟨_, rfl⟩
  rw [hQ]
  have HC : Hid (∀ (w0 w1 : World) (g : Nat), w0.heap.size = g → Below (w0.alloc (.cells #[.int .i64 1, .int .i64 n, .string ⟨#[]⟩, .slice none 0 0] 24)).heap.size (w0.alloc (.cells #[.int .i64 1, .int .i64 n, .string ⟨#[]⟩, .slice none 0 0] 24)) w1 → Calls Try.prog 65 #[pv 3 0 ⟨#[115, 121, 110, 116, 97, 120, 95, 101, 114, 114, 111, 114]⟩ (.slice (some ⟨g, 0, none⟩) 1 1)] w1 (MadeEnd Q w1)) := Lib.hid (by
    intro w0 w1 g hg hb1
    have hl := lies_new (ty := 24) hg [(.mk 1 n ⟨#[]⟩ [], .slice none 0 0)] (by simp only [EnvT]; exact ⟨intT_lies ⟨by omega, by omega⟩, trivial⟩) (by simp)
    have hs := (struct_lies (nm := ⟨#[115, 121, 110, 116, 97, 120, 95, 101, 114, 114, 111, 114]⟩) (by simp [ByteArray.size]) hl).below hb1
    have hc := rball_any (.mk 3 0 ⟨#[115, 121, 110, 116, 97, 120, 95, 101, 114, 114, 111, 114]⟩ [.mk 1 n ⟨#[]⟩ []]) _ w1 hs
    rw [← hQ]; exact hc)
  have d0 : decide (n < 0) = false := by simp; omega
  clear hQ
  have R0 := Lib.hid (RowT.new w z0 (.slice none 0 0))
  go_enter Try.func29, Try.ntmps29
  go_wp2_with fail
  refine (rnumB_any n _).mono ?_
  rintro e w1 ⟨rfl, hb1⟩
  have R00 := Lib.hid (R0.out.below hb1)
  have B0 : Hid (Below w.heap.size w w1) := Lib.hid (al hb1)
  clear hb1 R0
  go_wp2_with fail
  refine (rstrB_any _ _ _ _ _).mono ?_
  rintro e w2 ⟨rfl, hb2⟩
  have R1 := Lib.hid (R00.out.below (al hb2))
  have B1 : Hid (Below w.heap.size w w2) := Lib.hid (B0.out.trans ((al hb2).mono B0.out.size))
  have HC2 := Lib.hid (HC.out w1 w2 _ rfl hb2)
  clear hb2 R00 B0 HC
  go_wp2_with fail
  refine HC2.out.mono ?_
  rintro e w3 ⟨y, rfl, hy, hb3⟩
  obtain ⟨ya, yc, rfl⟩ := hy.slice
  have CC := made_call R1.out B1.out ⟨_, rfl, hy, hb3⟩
  have R3 := Lib.hid CC.1
  have B3 := Lib.hid CC.2.1
  have HY := Lib.hid CC.2.2
  clear CC hb3 hy
  obtain ⟨c0, c1, c2, c3⟩ := R3.out.cells
  obtain ⟨f0, f1, f2, f3⟩ := R3.out.froz
  go_wp2_with fail
  have PE := made_end1 (T := Q) B3.out HY.out R3.out _ rfl
  have K := (four R3.out (.int .i64 Q.kind) (.int .i64 Q.num) (.string Q.name) (.slice ya Q.args.length yc)).1
  generalize ((((w3.setCell ⟨w.heap.size, 0, none⟩ (.int .i64 Q.kind)).setCell ⟨w.heap.size, 1, none⟩ (.int .i64 Q.num)).setCell ⟨w.heap.size, 2, none⟩ (.string Q.name)).setCell ⟨w.heap.size, 3, none⟩ (.slice ya Q.args.length yc)) = W3 at *
  obtain ⟨k0, k1, k2, k3⟩ := cells_row K
  exact bodyPost_ret (v := tv Q (.slice ya Q.args.length yc)) (by simp [results, Try.results29, go_sem, k0, k1, k2, k3]) rfl PE

end Go.Proofs.Yteilodihjhdngaa
