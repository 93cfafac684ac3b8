/- The walks of OpsDefault and OpsTypes. -/
import Derived.Test.YtkjkhhifkedflaaDoorPA
set_option linter.unusedVariables false
set_option linter.unusedSimpArgs false
namespace Go.Proofs.YtkjkhhifkedflaaDoor
open Go.RowKit Go.Proofs.HP Go.BigFrame

set_option maxHeartbeats 4000000 in
theorem opsDefault_any (w : World) (hL : Laid w) : Calls Tryd.prog 4 #[] w (AwEnd w) := by
  have H0 := Lib.hid (default_any w hL)
  have HL := Lib.hid hL
  clear hL
  go_enter Tryd.func4, Tryd.ntmps4
  go_wp2_with fail
  refine (H0.out).mono ?_
  rintro e w1 ⟨g, cap, rfl, p1, b1⟩
  have B1 := Lib.hid b1
  have P1 := Lib.hid p1
  clear p1 b1 H0
  go_wp2_with fail
  refine (rdefault_any _).mono ?_
  rintro e w2 ⟨A2, cap2, rfl, p2, b2⟩
  have B2 := Lib.hid (B1.out.trans (b2.mono B1.out.size))
  have P2 := Lib.hid (P1.out.below b2)
  have Q2 := Lib.hid p2
  clear p2 b2 B1 P1
  go_wp2_with fail
  have C := same_any (some ⟨g, 0, none⟩) A2 41 D0.length cap cap2 D0 D0 w2 D0_len rfl (by omega) P2.out Q2.out
  rw [decide_eq_true rfl] at C
  refine C.mono ?_
  rintro e w3 ⟨rfl, g3⟩
  have B3 := Lib.hid (B2.out.trans (g3.b.mono B2.out.size))
  have P3 := Lib.hid (P2.out.below g3.b)
  clear g3 C Q2 B2 P2
  go_wp2_with fail
  have C := valid_any (some ⟨g, 0, none⟩) 41 cap D0 w3 D0_len (by omega) P3.out (HL.out.below B3.out).kl
  rw [D0_vld] at C
  refine C.mono ?_
  rintro e w4 ⟨rfl, g4⟩
  have B4 := Lib.hid (B3.out.trans (g4.b.mono B3.out.size))
  clear g4 C B3 P3
  go_wp2_with fail
  refine (awake_any _ (HL.out.below B4.out)).mono ?_
  rintro e w5 ⟨rfl, g5⟩
  have B5 := Lib.hid (B4.out.trans (g5.mono B4.out.size))
  clear g5 B4
  go_wp2_with fail
  go_ret
  exact ⟨rfl, B5.out⟩

set_option maxHeartbeats 4000000 in
theorem opsTypes_any (n : ByteArray) (t p ty : Int) (s : ByteArray) (w : World) (hL : Laid w) : Calls Tryd.prog 7 #[.agg #[.string n, .int .i64 t, .int .i64 p], .int .i64 ty, .string s] w (AwEnd w) := by
  obtain ⟨a, ha⟩ : ∃ a, sdL (n, t, p) = a := ⟨_, rfl⟩
  obtain ⟨b, hb⟩ : ∃ b, sdR (n, t, p) = b := ⟨_, rfl⟩
  obtain ⟨c, hc⟩ : ∃ c, (if isT ty then kN ty else ⟨#[]⟩) = c := ⟨_, rfl⟩
  obtain ⟨d, hd⟩ : ∃ d, isT ty = d := ⟨_, rfl⟩
  obtain ⟨u, hu⟩ : ∃ u, tyV s = u := ⟨_, rfl⟩
  obtain ⟨v, hv⟩ : ∃ v, tyB s = v := ⟨_, rfl⟩
  have H1 : Hid (∀ w, KLaid w → Calls Tryd.prog 14 #[.agg #[.string n, .int .i64 t, .int .i64 p]] w fun e w' => e = .returned (.tuple #[.int .i64 a, .int .i64 b]) ∧ Gw w w') := fun w h => by rw [← ha, ← hb]; exact sides_any (n, t, p) w h
  have H2 : Hid (∀ w, Calls Tryd.prog 29 #[.agg #[.string n, .int .i64 t, .int .i64 p]] w fun e w' => e = .returned (.tuple #[.int .i64 a, .int .i64 b]) ∧ Gw w w') := fun w => by rw [← ha, ← hb]; exact rsides_any (n, t, p) w
  have H3 : Hid (∀ w, KLaid w → Calls Tryd.prog 18 #[.int .i64 ty] w fun e w' => e = .returned (.tuple #[.string c, .bool d]) ∧ w = w') := fun w h => by rw [← hc, ← hd]; exact (typeName_any ty w h).mono fun _ _ h => ⟨h.1, h.2.symm⟩
  have H4 : Hid (∀ w, Calls Tryd.prog 30 #[.int .i64 ty] w fun e w' => e = .returned (.tuple #[.string c, .bool d]) ∧ Gw w w') := fun w => by rw [← hc, ← hd]; exact rtypeName_any ty w
  have H5 : Hid (∀ w, KLaid w → Calls Tryd.prog 19 #[.string s] w fun e w' => e = .returned (.tuple #[.int .i64 u, .bool v]) ∧ w = w') := fun w h => by rw [← hu, ← hv]; exact (typeOf_any s w h).mono fun _ _ h => ⟨h.1, h.2.symm⟩
  have H6 : Hid (∀ w, Calls Tryd.prog 31 #[.string s] w fun e w' => e = .returned (.tuple #[.int .i64 u, .bool v]) ∧ Gw w w') := fun w => by rw [← hu, ← hv]; exact rtypeOf_any s w
  have HL := Lib.hid hL
  clear hL ha hb hc hd hu hv
  have B0 := Lib.hid (al0 w (.cells #[.string n, .int .i64 t, .int .i64 p] 26))
  have R0 := Lib.hid (RowO.new w (n, t, p))
  go_enter Tryd.func7, Tryd.ntmps7
  go_wp2_with fail
  refine (H1.out _ (HL.out.below B0.out).kl).mono ?_
  rintro e w1 ⟨rfl, g1⟩
  have B1 := Lib.hid (B0.out.trans (g1.b.mono B0.out.size))
  have R1 := Lib.hid (R0.out.below g1.b)
  clear g1 B0 R0 H1
  obtain ⟨x0, x1, x2⟩ := R1.out.cells
  go_wp2_with fail
  refine (H2.out _).mono ?_
  rintro e w2 ⟨rfl, g2⟩
  have B2 := Lib.hid (B1.out.trans (g2.b.mono B1.out.size))
  clear g2 B1 R1 H2 x0 x1 x2
  go_wp2_with fail
  refine (H3.out _ (HL.out.below B2.out).kl).mono ?_
  rintro e w3 ⟨rfl, rfl⟩
  go_wp2_with fail
  refine (H4.out _).mono ?_
  rintro e w3 ⟨rfl, g2⟩
  have B3 := Lib.hid (B2.out.trans (g2.b.mono B2.out.size))
  clear g2 B2 H3 H4
  go_wp2_with fail
  refine (H5.out _ (HL.out.below B3.out).kl).mono ?_
  rintro e w4 ⟨rfl, rfl⟩
  go_wp2_with fail
  refine (H6.out _).mono ?_
  rintro e w4 ⟨rfl, g2⟩
  have B4 := Lib.hid (B3.out.trans (g2.b.mono B3.out.size))
  clear g2 B3 H5 H6
  have e1 : (c.toList == c.toList) = true := beq_self_eq_true _
  have e2 : (a == a) = true := beq_self_eq_true _
  have e3 : (b == b) = true := beq_self_eq_true _
  have e4 : (u == u) = true := beq_self_eq_true _
  have e5 : (d == d) = true := beq_self_eq_true _
  have e6 : (v == v) = true := beq_self_eq_true _
  go_wp2_with fail
  refine (awake_any _ (HL.out.below B4.out)).mono ?_
  rintro e w5 ⟨rfl, g5⟩
  have B5 := Lib.hid (B4.out.trans (g5.mono B4.out.size))
  clear g5 B4
  go_wp2_with fail
  go_ret
  exact ⟨rfl, B5.out⟩
end Go.Proofs.YtkjkhhifkedflaaDoor
