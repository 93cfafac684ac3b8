/- The walk of the law IntsDivides. -/
import Derived.Test.YthfclbbmioenlaaDoorD1
namespace Go.Proofs.YthfclbbmioenlaaDoor
open Go.RowKit

theorem okQ (a b : Int) : bOk bQuot a b = (e_bQuot a b == 0) := rfl
theorem okR (a b : Int) : bOk bRem a b = (e_bRem a b == 0) := rfl
theorem okD (a b : Int) : bOk bDiv a b = (e_bDiv a b == 0) := rfl
theorem okM (a b : Int) : bOk bMod a b = (e_bMod a b == 0) := rfl

set_option maxRecDepth 100000 in
set_option maxHeartbeats 1000000 in
theorem divides_zero (a b : Int) (h0 : -9223372036854775808 ≤ a) (h1 : a ≤ 9223372036854775807) (g0 : -9223372036854775808 ≤ b) (g1 : b ≤ 9223372036854775807) (hb : b = 0) (w : World) (hL : Laid w) :
    Calls Tryd.prog 7 #[.int .i64 a, .int .i64 b] w fun e w' => e = .returned (.bool true) ∧ Below w.heap.size w w' := by
  have HL := Lib.hid hL
  clear hL
  have HQ : Hid (bV bQuot a b = 0 ∧ bOk bQuot a b = false) := by show _ ∧ _; rw [bV_bQuot, okQ, v_bQuot, e_bQuot, if_pos hb, if_pos hb]; exact ⟨rfl, rfl⟩
  have HR : Hid (bV bRem a b = 0 ∧ bOk bRem a b = false) := by show _ ∧ _; rw [bV_bRem, okR, v_bRem, e_bRem, if_pos hb, if_pos hb]; exact ⟨rfl, rfl⟩
  have HD : Hid (bV bDiv a b = 0 ∧ bOk bDiv a b = false) := by show _ ∧ _; rw [bV_bDiv, okD, v_bDiv, e_bDiv, if_pos hb, if_pos hb]; exact ⟨rfl, rfl⟩
  have HM : Hid (bV bMod a b = 0 ∧ bOk bMod a b = false) := by show _ ∧ _; rw [bV_bMod, okM, v_bMod, e_bMod, if_pos hb, if_pos hb]; exact ⟨rfl, rfl⟩
  have q : (b == 0) = true := by simpa using hb
  have K := Lib.hid (And.intro h0 (And.intro h1 (And.intro g0 g1)))
  clear hb h0 h1 g0 g1
  go_enter Tryd.func7, Tryd.ntmps7
  have B0 := Below.refl w.heap.size w
  go_wp2_with fail
  refine (example_any _ (HL.out.below B0)).mono ?_
  rintro e w1 ⟨rfl, hb1⟩
  have B1 := B0.trans (hb1.mono B0.size)
  clear hb1 B0
  go_wp2_with fail
  refine (two_any bQuot a b K.out.1 K.out.2.1 K.out.2.2.1 K.out.2.2.2 _).mono ?_
  rw [HQ.out.1, HQ.out.2]
  rintro e w2 ⟨rfl, hb2⟩
  have B2 := B1.trans (hb2.mono B1.size)
  clear hb2 B1
  go_wp2_with fail
  refine (two_any bRem a b K.out.1 K.out.2.1 K.out.2.2.1 K.out.2.2.2 _).mono ?_
  rw [HR.out.1, HR.out.2]
  rintro e w3 ⟨rfl, hb3⟩
  have B3 := B2.trans (hb3.mono B2.size)
  clear hb3 B2
  go_wp2_with fail
  refine (two_any bDiv a b K.out.1 K.out.2.1 K.out.2.2.1 K.out.2.2.2 _).mono ?_
  rw [HD.out.1, HD.out.2]
  rintro e w4 ⟨rfl, hb4⟩
  have B4 := B3.trans (hb4.mono B3.size)
  clear hb4 B3
  go_wp2_with fail
  refine (two_any bMod a b K.out.1 K.out.2.1 K.out.2.2.1 K.out.2.2.2 _).mono ?_
  rw [HM.out.1, HM.out.2]
  rintro e w5 ⟨rfl, hb5⟩
  have B5 := B4.trans (hb5.mono B4.size)
  clear hb5 B4
  go_wp2_with fail
  go_ret
  exact ⟨rfl, B5⟩

set_option maxRecDepth 100000 in
set_option maxHeartbeats 1000000 in
theorem divides_over (a b : Int) (h0 : -9223372036854775808 ≤ a) (h1 : a ≤ 9223372036854775807) (g0 : -9223372036854775808 ≤ b) (g1 : b ≤ 9223372036854775807) (ha : a = -9223372036854775808) (hb : b = -1) (w : World) (hL : Laid w) :
    Calls Tryd.prog 7 #[.int .i64 a, .int .i64 b] w fun e w' => e = .returned (.bool true) ∧ Below w.heap.size w w' := by
  have HL := Lib.hid hL
  clear hL
  have hb0 : b ≠ 0 := by omega
  have t1 : a.tdiv b = 9223372036854775808 := by rw [hb, tdiv_neg1, ha]; rfl
  have t2 : a.tmod b = 0 := by rw [hb, tmod_neg1]
  have t3 : rup a b = false := by simp [rup, t2]
  have t4 : fq a b = 9223372036854775808 := by rw [fq, t3, t1]; rfl
  have t5 : fm a b = 0 := by rw [fm, t3, t2]; rfl
  have t6 : inR 9223372036854775808 = false := by decide
  have HQ : Hid (bV bQuot a b = 0 ∧ bOk bQuot a b = false) := by show _ ∧ _; rw [bV_bQuot, okQ, v_bQuot, e_bQuot, if_neg hb0, if_neg hb0, t1, rV, rE, t6]; exact ⟨rfl, rfl⟩
  have HR : Hid (bV bRem a b = 0 ∧ bOk bRem a b = true) := by show _ ∧ _; rw [bV_bRem, okR, v_bRem, e_bRem, if_neg hb0, if_neg hb0, t2]; exact ⟨rfl, rfl⟩
  have HD : Hid (bV bDiv a b = 0 ∧ bOk bDiv a b = false) := by show _ ∧ _; rw [bV_bDiv, okD, v_bDiv, e_bDiv, if_neg hb0, if_neg hb0, t4, rV, rE, t6]; exact ⟨rfl, rfl⟩
  have HM : Hid (bV bMod a b = 0 ∧ bOk bMod a b = true) := by show _ ∧ _; rw [bV_bMod, okM, v_bMod, e_bMod, if_neg hb0, if_neg hb0, t5]; exact ⟨rfl, rfl⟩
  have q : (b == 0) = false := by simpa using hb0
  have q2 : (a == -9223372036854775808) = true := by simpa using ha
  have q3 : (b == -1) = true := by simpa using hb
  have HN : Hid (-9223372036854775807 ≤ (0 : Int) ∧ (0 : Int) ≤ 9223372036854775807 ∧ (0 : Int).natAbs < b.natAbs) := by show _ ∧ _; omega
  have HN2 := HN
  have K := Lib.hid (And.intro h0 (And.intro h1 (And.intro g0 g1)))
  clear hb h0 h1 g0 g1 ha hb0 t1 t2 t3 t4 t5 t6
  go_enter Tryd.func7, Tryd.ntmps7
  have B0 := Below.refl w.heap.size w
  go_wp2_with fail
  refine (example_any _ (HL.out.below B0)).mono ?_
  rintro e w1 ⟨rfl, hb1⟩
  have B1 := B0.trans (hb1.mono B0.size)
  clear hb1 B0
  go_wp2_with fail
  refine (two_any bQuot a b K.out.1 K.out.2.1 K.out.2.2.1 K.out.2.2.2 _).mono ?_
  rw [HQ.out.1, HQ.out.2]
  rintro e w2 ⟨rfl, hb2⟩
  have B2 := B1.trans (hb2.mono B1.size)
  clear hb2 B1
  go_wp2_with fail
  refine (two_any bRem a b K.out.1 K.out.2.1 K.out.2.2.1 K.out.2.2.2 _).mono ?_
  rw [HR.out.1, HR.out.2]
  rintro e w3 ⟨rfl, hb3⟩
  have B3 := B2.trans (hb3.mono B2.size)
  clear hb3 B2
  go_wp2_with fail
  refine (two_any bDiv a b K.out.1 K.out.2.1 K.out.2.2.1 K.out.2.2.2 _).mono ?_
  rw [HD.out.1, HD.out.2]
  rintro e w4 ⟨rfl, hb4⟩
  have B4 := B3.trans (hb4.mono B3.size)
  clear hb4 B3
  go_wp2_with fail
  refine (two_any bMod a b K.out.1 K.out.2.1 K.out.2.2.1 K.out.2.2.2 _).mono ?_
  rw [HM.out.1, HM.out.2]
  rintro e w5 ⟨rfl, hb5⟩
  have B5 := B4.trans (hb5.mono B4.size)
  clear hb5 B4
  go_wp2_with fail
  refine (nearer_any _ _ HN.out.1 HN.out.2.1 K.out.2.2.1 K.out.2.2.2 HN.out.2.2 _).mono ?_
  rintro e w' ⟨rfl, rfl⟩
  go_wp2_with fail
  refine (nearer_any _ _ HN2.out.1 HN2.out.2.1 K.out.2.2.1 K.out.2.2.2 HN2.out.2.2 _).mono ?_
  rintro e w' ⟨rfl, rfl⟩
  go_wp2_with fail
  go_ret
  exact ⟨rfl, B5⟩

set_option maxRecDepth 100000 in
set_option maxHeartbeats 1000000 in
theorem divides_main (a b : Int) (h0 : -9223372036854775808 ≤ a) (h1 : a ≤ 9223372036854775807) (g0 : -9223372036854775808 ≤ b) (g1 : b ≤ 9223372036854775807) (hb0 : b ≠ 0) (hov : ¬ (a = -9223372036854775808 ∧ b = -1)) (w : World) (hL : Laid w) :
    Calls Tryd.prog 7 #[.int .i64 a, .int .i64 b] w fun e w' => e = .returned (.bool true) ∧ Below w.heap.size w w' := by
  have HL := Lib.hid hL
  clear hL
  have hin : inR (a.tdiv b) = true := by
    by_cases hb : b = -1
    · rw [hb, tdiv_neg1, inR_iff]
      have : a ≠ -9223372036854775808 := fun e => hov ⟨e, hb⟩
      omega
    · exact inR_tdiv a b h0 h1 hb
  have hin2 : inR (fq a b) = true := by rw [inR_fq a b h0 h1 hb0, hin]
  obtain ⟨x1, x2, x3, x4⟩ := tmod_facts a b hb0
  obtain ⟨y1, y2, y3, y4⟩ := fm_facts a b hb0
  obtain ⟨Q, hQ⟩ : ∃ Q, Q = a.tdiv b := ⟨_, rfl⟩
  obtain ⟨R, hR⟩ : ∃ R, R = a.tmod b := ⟨_, rfl⟩
  obtain ⟨D, hD⟩ : ∃ D, D = fq a b := ⟨_, rfl⟩
  obtain ⟨M, hM⟩ : ∃ M, M = fm a b := ⟨_, rfl⟩
  have HQ : Hid (bV bQuot a b = Q ∧ bOk bQuot a b = true) := by show _ ∧ _; rw [bV_bQuot, okQ, v_bQuot, e_bQuot, if_neg hb0, if_neg hb0, rV, rE, hin, hQ]; exact ⟨rfl, rfl⟩
  have HR : Hid (bV bRem a b = R ∧ bOk bRem a b = true) := by show _ ∧ _; rw [bV_bRem, okR, v_bRem, e_bRem, if_neg hb0, if_neg hb0, hR]; exact ⟨rfl, rfl⟩
  have HD : Hid (bV bDiv a b = D ∧ bOk bDiv a b = true) := by show _ ∧ _; rw [bV_bDiv, okD, v_bDiv, e_bDiv, if_neg hb0, if_neg hb0, rV, rE, hin2, hD]; exact ⟨rfl, rfl⟩
  have HM : Hid (bV bMod a b = M ∧ bOk bMod a b = true) := by show _ ∧ _; rw [bV_bMod, okM, v_bMod, e_bMod, if_neg hb0, if_neg hb0, hM]; exact ⟨rfl, rfl⟩
  rw [← hQ, ← hR] at x1
  rw [← hR] at x2 x3 x4
  rw [← hD, ← hM] at y1
  rw [← hM] at y2 y3 y4
  have HN : Hid (-9223372036854775807 ≤ R ∧ R ≤ 9223372036854775807 ∧ R.natAbs < b.natAbs) := by show _ ∧ _; omega
  have HN2 : Hid (-9223372036854775807 ≤ M ∧ M ≤ 9223372036854775807 ∧ M.natAbs < b.natAbs) := by show _ ∧ _; omega
  have ha2 : inR a = true := inR_iff.2 ⟨h0, h1⟩
  obtain ⟨Y, hY⟩ : ∃ Y, Y = wrap64 (Q * b) := ⟨_, rfl⟩
  obtain ⟨Z, hZ⟩ : ∃ Z, Z = wrap64 (D * b) := ⟨_, rfl⟩
  have e1 : wrap64 (Y + R) = a := by
    obtain ⟨k, hk⟩ := wrap_mod (Q * b)
    rw [← wrap_of ha2, hY]
    exact wrap_eq k (by rw [hk, ← x1, Int.mul_comm b Q]; omega)
  have e2 : wrap64 (Z + M) = a := by
    obtain ⟨k, hk⟩ := wrap_mod (D * b)
    rw [← wrap_of ha2, hZ]
    exact wrap_eq k (by rw [hk, ← y1, Int.mul_comm b D]; omega)
  have q : (b == 0) = false := by simpa using hb0
  have q2 : ((a == -9223372036854775808) && (b == -1)) = false := by
    rw [Bool.eq_false_iff]
    intro h
    simp only [Bool.and_eq_true, beq_iff_eq] at h
    exact hov h
  have hYs := hY.symm
  have hZs := hZ.symm
  have s1 : R ≠ 0 → (decide (R < 0) == decide (a < 0)) = true := fun h => by rw [beq_iff_eq, decide_eq_decide]; omega
  have s2 : M ≠ 0 → (decide (M < 0) == decide (b < 0)) = true := fun h => by rw [beq_iff_eq, decide_eq_decide]; omega
  have K := Lib.hid (And.intro h0 (And.intro h1 (And.intro g0 g1)))
  clear h0 h1 g0 g1 hb0 hin hin2 x1 x2 x3 x4 y1 y2 y3 y4 hQ hR hD hM hY hZ ha2
  have hcase : ((a == -9223372036854775808) = false) ∨ ((a == -9223372036854775808) = true ∧ (b == -1) = false) := by
    cases h : (a == -9223372036854775808)
    · exact .inl rfl
    · rw [h, Bool.true_and] at q2; exact .inr ⟨rfl, q2⟩
  clear q2 hov
  by_cases r0 : R = 0 <;> by_cases m0 : M = 0 <;> rcases hcase with c1 | ⟨c1, c2⟩
  · have r1 : (R != 0) = false := by simpa using r0
    have m1 : (M != 0) = false := by simpa using m0
    have r2 : (R == 0) = true := by simpa using r0
    have m2 : (M == 0) = true := by simpa using m0
    clear s1 s2 r0 m0
    go_enter Tryd.func7, Tryd.ntmps7
    have B0 := Below.refl w.heap.size w
    go_wp2_with fail
    refine (example_any _ (HL.out.below B0)).mono ?_
    rintro e w1 ⟨rfl, hb1⟩
    have B1 := B0.trans (hb1.mono B0.size)
    clear hb1 B0
    go_wp2_with fail
    refine (two_any bQuot a b K.out.1 K.out.2.1 K.out.2.2.1 K.out.2.2.2 _).mono ?_
    rw [HQ.out.1, HQ.out.2]
    rintro e w2 ⟨rfl, hb2⟩
    have B2 := B1.trans (hb2.mono B1.size)
    clear hb2 B1
    go_wp2_with fail
    refine (two_any bRem a b K.out.1 K.out.2.1 K.out.2.2.1 K.out.2.2.2 _).mono ?_
    rw [HR.out.1, HR.out.2]
    rintro e w3 ⟨rfl, hb3⟩
    have B3 := B2.trans (hb3.mono B2.size)
    clear hb3 B2
    go_wp2_with fail
    refine (two_any bDiv a b K.out.1 K.out.2.1 K.out.2.2.1 K.out.2.2.2 _).mono ?_
    rw [HD.out.1, HD.out.2]
    rintro e w4 ⟨rfl, hb4⟩
    have B4 := B3.trans (hb4.mono B3.size)
    clear hb4 B3
    go_wp2_with fail
    refine (two_any bMod a b K.out.1 K.out.2.1 K.out.2.2.1 K.out.2.2.2 _).mono ?_
    rw [HM.out.1, HM.out.2]
    rintro e w5 ⟨rfl, hb5⟩
    have B5 := B4.trans (hb5.mono B4.size)
    clear hb5 B4
    go_wp2_with fail
    refine (nearer_any _ _ HN.out.1 HN.out.2.1 K.out.2.2.1 K.out.2.2.2 HN.out.2.2 _).mono ?_
    rintro e w' ⟨rfl, rfl⟩
    go_wp2_with fail
    refine (nearer_any _ _ HN2.out.1 HN2.out.2.1 K.out.2.2.1 K.out.2.2.2 HN2.out.2.2 _).mono ?_
    rintro e w' ⟨rfl, rfl⟩
    go_wp2_with fail
    go_ret
    exact ⟨rfl, B5⟩
  · have r1 : (R != 0) = false := by simpa using r0
    have m1 : (M != 0) = false := by simpa using m0
    have r2 : (R == 0) = true := by simpa using r0
    have m2 : (M == 0) = true := by simpa using m0
    clear s1 s2 r0 m0
    go_enter Tryd.func7, Tryd.ntmps7
    have B0 := Below.refl w.heap.size w
    go_wp2_with fail
    refine (example_any _ (HL.out.below B0)).mono ?_
    rintro e w1 ⟨rfl, hb1⟩
    have B1 := B0.trans (hb1.mono B0.size)
    clear hb1 B0
    go_wp2_with fail
    refine (two_any bQuot a b K.out.1 K.out.2.1 K.out.2.2.1 K.out.2.2.2 _).mono ?_
    rw [HQ.out.1, HQ.out.2]
    rintro e w2 ⟨rfl, hb2⟩
    have B2 := B1.trans (hb2.mono B1.size)
    clear hb2 B1
    go_wp2_with fail
    refine (two_any bRem a b K.out.1 K.out.2.1 K.out.2.2.1 K.out.2.2.2 _).mono ?_
    rw [HR.out.1, HR.out.2]
    rintro e w3 ⟨rfl, hb3⟩
    have B3 := B2.trans (hb3.mono B2.size)
    clear hb3 B2
    go_wp2_with fail
    refine (two_any bDiv a b K.out.1 K.out.2.1 K.out.2.2.1 K.out.2.2.2 _).mono ?_
    rw [HD.out.1, HD.out.2]
    rintro e w4 ⟨rfl, hb4⟩
    have B4 := B3.trans (hb4.mono B3.size)
    clear hb4 B3
    go_wp2_with fail
    refine (two_any bMod a b K.out.1 K.out.2.1 K.out.2.2.1 K.out.2.2.2 _).mono ?_
    rw [HM.out.1, HM.out.2]
    rintro e w5 ⟨rfl, hb5⟩
    have B5 := B4.trans (hb5.mono B4.size)
    clear hb5 B4
    go_wp2_with fail
    refine (nearer_any _ _ HN.out.1 HN.out.2.1 K.out.2.2.1 K.out.2.2.2 HN.out.2.2 _).mono ?_
    rintro e w' ⟨rfl, rfl⟩
    go_wp2_with fail
    refine (nearer_any _ _ HN2.out.1 HN2.out.2.1 K.out.2.2.1 K.out.2.2.2 HN2.out.2.2 _).mono ?_
    rintro e w' ⟨rfl, rfl⟩
    go_wp2_with fail
    go_ret
    exact ⟨rfl, B5⟩
  · have r1 : (R != 0) = false := by simpa using r0
    have m1 : (M != 0) = true := by simpa using m0
    have r2 : (R == 0) = true := by simpa using r0
    have m2 : (M == 0) = false := by simpa using m0
    have s4 := s2 m0
    clear s1 s2 r0 m0
    go_enter Tryd.func7, Tryd.ntmps7
    have B0 := Below.refl w.heap.size w
    go_wp2_with fail
    refine (example_any _ (HL.out.below B0)).mono ?_
    rintro e w1 ⟨rfl, hb1⟩
    have B1 := B0.trans (hb1.mono B0.size)
    clear hb1 B0
    go_wp2_with fail
    refine (two_any bQuot a b K.out.1 K.out.2.1 K.out.2.2.1 K.out.2.2.2 _).mono ?_
    rw [HQ.out.1, HQ.out.2]
    rintro e w2 ⟨rfl, hb2⟩
    have B2 := B1.trans (hb2.mono B1.size)
    clear hb2 B1
    go_wp2_with fail
    refine (two_any bRem a b K.out.1 K.out.2.1 K.out.2.2.1 K.out.2.2.2 _).mono ?_
    rw [HR.out.1, HR.out.2]
    rintro e w3 ⟨rfl, hb3⟩
    have B3 := B2.trans (hb3.mono B2.size)
    clear hb3 B2
    go_wp2_with fail
    refine (two_any bDiv a b K.out.1 K.out.2.1 K.out.2.2.1 K.out.2.2.2 _).mono ?_
    rw [HD.out.1, HD.out.2]
    rintro e w4 ⟨rfl, hb4⟩
    have B4 := B3.trans (hb4.mono B3.size)
    clear hb4 B3
    go_wp2_with fail
    refine (two_any bMod a b K.out.1 K.out.2.1 K.out.2.2.1 K.out.2.2.2 _).mono ?_
    rw [HM.out.1, HM.out.2]
    rintro e w5 ⟨rfl, hb5⟩
    have B5 := B4.trans (hb5.mono B4.size)
    clear hb5 B4
    go_wp2_with fail
    refine (nearer_any _ _ HN.out.1 HN.out.2.1 K.out.2.2.1 K.out.2.2.2 HN.out.2.2 _).mono ?_
    rintro e w' ⟨rfl, rfl⟩
    go_wp2_with fail
    refine (nearer_any _ _ HN2.out.1 HN2.out.2.1 K.out.2.2.1 K.out.2.2.2 HN2.out.2.2 _).mono ?_
    rintro e w' ⟨rfl, rfl⟩
    go_wp2_with fail
    go_ret
    exact ⟨rfl, B5⟩
  · have r1 : (R != 0) = false := by simpa using r0
    have m1 : (M != 0) = true := by simpa using m0
    have r2 : (R == 0) = true := by simpa using r0
    have m2 : (M == 0) = false := by simpa using m0
    have s4 := s2 m0
    clear s1 s2 r0 m0
    go_enter Tryd.func7, Tryd.ntmps7
    have B0 := Below.refl w.heap.size w
    go_wp2_with fail
    refine (example_any _ (HL.out.below B0)).mono ?_
    rintro e w1 ⟨rfl, hb1⟩
    have B1 := B0.trans (hb1.mono B0.size)
    clear hb1 B0
    go_wp2_with fail
    refine (two_any bQuot a b K.out.1 K.out.2.1 K.out.2.2.1 K.out.2.2.2 _).mono ?_
    rw [HQ.out.1, HQ.out.2]
    rintro e w2 ⟨rfl, hb2⟩
    have B2 := B1.trans (hb2.mono B1.size)
    clear hb2 B1
    go_wp2_with fail
    refine (two_any bRem a b K.out.1 K.out.2.1 K.out.2.2.1 K.out.2.2.2 _).mono ?_
    rw [HR.out.1, HR.out.2]
    rintro e w3 ⟨rfl, hb3⟩
    have B3 := B2.trans (hb3.mono B2.size)
    clear hb3 B2
    go_wp2_with fail
    refine (two_any bDiv a b K.out.1 K.out.2.1 K.out.2.2.1 K.out.2.2.2 _).mono ?_
    rw [HD.out.1, HD.out.2]
    rintro e w4 ⟨rfl, hb4⟩
    have B4 := B3.trans (hb4.mono B3.size)
    clear hb4 B3
    go_wp2_with fail
    refine (two_any bMod a b K.out.1 K.out.2.1 K.out.2.2.1 K.out.2.2.2 _).mono ?_
    rw [HM.out.1, HM.out.2]
    rintro e w5 ⟨rfl, hb5⟩
    have B5 := B4.trans (hb5.mono B4.size)
    clear hb5 B4
    go_wp2_with fail
    refine (nearer_any _ _ HN.out.1 HN.out.2.1 K.out.2.2.1 K.out.2.2.2 HN.out.2.2 _).mono ?_
    rintro e w' ⟨rfl, rfl⟩
    go_wp2_with fail
    refine (nearer_any _ _ HN2.out.1 HN2.out.2.1 K.out.2.2.1 K.out.2.2.2 HN2.out.2.2 _).mono ?_
    rintro e w' ⟨rfl, rfl⟩
    go_wp2_with fail
    go_ret
    exact ⟨rfl, B5⟩
  · have r1 : (R != 0) = true := by simpa using r0
    have m1 : (M != 0) = false := by simpa using m0
    have r2 : (R == 0) = false := by simpa using r0
    have m2 : (M == 0) = true := by simpa using m0
    have s3 := s1 r0
    clear s1 s2 r0 m0
    go_enter Tryd.func7, Tryd.ntmps7
    have B0 := Below.refl w.heap.size w
    go_wp2_with fail
    refine (example_any _ (HL.out.below B0)).mono ?_
    rintro e w1 ⟨rfl, hb1⟩
    have B1 := B0.trans (hb1.mono B0.size)
    clear hb1 B0
    go_wp2_with fail
    refine (two_any bQuot a b K.out.1 K.out.2.1 K.out.2.2.1 K.out.2.2.2 _).mono ?_
    rw [HQ.out.1, HQ.out.2]
    rintro e w2 ⟨rfl, hb2⟩
    have B2 := B1.trans (hb2.mono B1.size)
    clear hb2 B1
    go_wp2_with fail
    refine (two_any bRem a b K.out.1 K.out.2.1 K.out.2.2.1 K.out.2.2.2 _).mono ?_
    rw [HR.out.1, HR.out.2]
    rintro e w3 ⟨rfl, hb3⟩
    have B3 := B2.trans (hb3.mono B2.size)
    clear hb3 B2
    go_wp2_with fail
    refine (two_any bDiv a b K.out.1 K.out.2.1 K.out.2.2.1 K.out.2.2.2 _).mono ?_
    rw [HD.out.1, HD.out.2]
    rintro e w4 ⟨rfl, hb4⟩
    have B4 := B3.trans (hb4.mono B3.size)
    clear hb4 B3
    go_wp2_with fail
    refine (two_any bMod a b K.out.1 K.out.2.1 K.out.2.2.1 K.out.2.2.2 _).mono ?_
    rw [HM.out.1, HM.out.2]
    rintro e w5 ⟨rfl, hb5⟩
    have B5 := B4.trans (hb5.mono B4.size)
    clear hb5 B4
    go_wp2_with fail
    refine (nearer_any _ _ HN.out.1 HN.out.2.1 K.out.2.2.1 K.out.2.2.2 HN.out.2.2 _).mono ?_
    rintro e w' ⟨rfl, rfl⟩
    go_wp2_with fail
    refine (nearer_any _ _ HN2.out.1 HN2.out.2.1 K.out.2.2.1 K.out.2.2.2 HN2.out.2.2 _).mono ?_
    rintro e w' ⟨rfl, rfl⟩
    go_wp2_with fail
    go_ret
    exact ⟨rfl, B5⟩
  · have r1 : (R != 0) = true := by simpa using r0
    have m1 : (M != 0) = false := by simpa using m0
    have r2 : (R == 0) = false := by simpa using r0
    have m2 : (M == 0) = true := by simpa using m0
    have s3 := s1 r0
    clear s1 s2 r0 m0
    go_enter Tryd.func7, Tryd.ntmps7
    have B0 := Below.refl w.heap.size w
    go_wp2_with fail
    refine (example_any _ (HL.out.below B0)).mono ?_
    rintro e w1 ⟨rfl, hb1⟩
    have B1 := B0.trans (hb1.mono B0.size)
    clear hb1 B0
    go_wp2_with fail
    refine (two_any bQuot a b K.out.1 K.out.2.1 K.out.2.2.1 K.out.2.2.2 _).mono ?_
    rw [HQ.out.1, HQ.out.2]
    rintro e w2 ⟨rfl, hb2⟩
    have B2 := B1.trans (hb2.mono B1.size)
    clear hb2 B1
    go_wp2_with fail
    refine (two_any bRem a b K.out.1 K.out.2.1 K.out.2.2.1 K.out.2.2.2 _).mono ?_
    rw [HR.out.1, HR.out.2]
    rintro e w3 ⟨rfl, hb3⟩
    have B3 := B2.trans (hb3.mono B2.size)
    clear hb3 B2
    go_wp2_with fail
    refine (two_any bDiv a b K.out.1 K.out.2.1 K.out.2.2.1 K.out.2.2.2 _).mono ?_
    rw [HD.out.1, HD.out.2]
    rintro e w4 ⟨rfl, hb4⟩
    have B4 := B3.trans (hb4.mono B3.size)
    clear hb4 B3
    go_wp2_with fail
    refine (two_any bMod a b K.out.1 K.out.2.1 K.out.2.2.1 K.out.2.2.2 _).mono ?_
    rw [HM.out.1, HM.out.2]
    rintro e w5 ⟨rfl, hb5⟩
    have B5 := B4.trans (hb5.mono B4.size)
    clear hb5 B4
    go_wp2_with fail
    refine (nearer_any _ _ HN.out.1 HN.out.2.1 K.out.2.2.1 K.out.2.2.2 HN.out.2.2 _).mono ?_
    rintro e w' ⟨rfl, rfl⟩
    go_wp2_with fail
    refine (nearer_any _ _ HN2.out.1 HN2.out.2.1 K.out.2.2.1 K.out.2.2.2 HN2.out.2.2 _).mono ?_
    rintro e w' ⟨rfl, rfl⟩
    go_wp2_with fail
    go_ret
    exact ⟨rfl, B5⟩
  · have r1 : (R != 0) = true := by simpa using r0
    have m1 : (M != 0) = true := by simpa using m0
    have r2 : (R == 0) = false := by simpa using r0
    have m2 : (M == 0) = false := by simpa using m0
    have s3 := s1 r0
    have s4 := s2 m0
    clear s1 s2 r0 m0
    go_enter Tryd.func7, Tryd.ntmps7
    have B0 := Below.refl w.heap.size w
    go_wp2_with fail
    refine (example_any _ (HL.out.below B0)).mono ?_
    rintro e w1 ⟨rfl, hb1⟩
    have B1 := B0.trans (hb1.mono B0.size)
    clear hb1 B0
    go_wp2_with fail
    refine (two_any bQuot a b K.out.1 K.out.2.1 K.out.2.2.1 K.out.2.2.2 _).mono ?_
    rw [HQ.out.1, HQ.out.2]
    rintro e w2 ⟨rfl, hb2⟩
    have B2 := B1.trans (hb2.mono B1.size)
    clear hb2 B1
    go_wp2_with fail
    refine (two_any bRem a b K.out.1 K.out.2.1 K.out.2.2.1 K.out.2.2.2 _).mono ?_
    rw [HR.out.1, HR.out.2]
    rintro e w3 ⟨rfl, hb3⟩
    have B3 := B2.trans (hb3.mono B2.size)
    clear hb3 B2
    go_wp2_with fail
    refine (two_any bDiv a b K.out.1 K.out.2.1 K.out.2.2.1 K.out.2.2.2 _).mono ?_
    rw [HD.out.1, HD.out.2]
    rintro e w4 ⟨rfl, hb4⟩
    have B4 := B3.trans (hb4.mono B3.size)
    clear hb4 B3
    go_wp2_with fail
    refine (two_any bMod a b K.out.1 K.out.2.1 K.out.2.2.1 K.out.2.2.2 _).mono ?_
    rw [HM.out.1, HM.out.2]
    rintro e w5 ⟨rfl, hb5⟩
    have B5 := B4.trans (hb5.mono B4.size)
    clear hb5 B4
    go_wp2_with fail
    refine (nearer_any _ _ HN.out.1 HN.out.2.1 K.out.2.2.1 K.out.2.2.2 HN.out.2.2 _).mono ?_
    rintro e w' ⟨rfl, rfl⟩
    go_wp2_with fail
    refine (nearer_any _ _ HN2.out.1 HN2.out.2.1 K.out.2.2.1 K.out.2.2.2 HN2.out.2.2 _).mono ?_
    rintro e w' ⟨rfl, rfl⟩
    go_wp2_with fail
    go_ret
    exact ⟨rfl, B5⟩
  · have r1 : (R != 0) = true := by simpa using r0
    have m1 : (M != 0) = true := by simpa using m0
    have r2 : (R == 0) = false := by simpa using r0
    have m2 : (M == 0) = false := by simpa using m0
    have s3 := s1 r0
    have s4 := s2 m0
    clear s1 s2 r0 m0
    go_enter Tryd.func7, Tryd.ntmps7
    have B0 := Below.refl w.heap.size w
    go_wp2_with fail
    refine (example_any _ (HL.out.below B0)).mono ?_
    rintro e w1 ⟨rfl, hb1⟩
    have B1 := B0.trans (hb1.mono B0.size)
    clear hb1 B0
    go_wp2_with fail
    refine (two_any bQuot a b K.out.1 K.out.2.1 K.out.2.2.1 K.out.2.2.2 _).mono ?_
    rw [HQ.out.1, HQ.out.2]
    rintro e w2 ⟨rfl, hb2⟩
    have B2 := B1.trans (hb2.mono B1.size)
    clear hb2 B1
    go_wp2_with fail
    refine (two_any bRem a b K.out.1 K.out.2.1 K.out.2.2.1 K.out.2.2.2 _).mono ?_
    rw [HR.out.1, HR.out.2]
    rintro e w3 ⟨rfl, hb3⟩
    have B3 := B2.trans (hb3.mono B2.size)
    clear hb3 B2
    go_wp2_with fail
    refine (two_any bDiv a b K.out.1 K.out.2.1 K.out.2.2.1 K.out.2.2.2 _).mono ?_
    rw [HD.out.1, HD.out.2]
    rintro e w4 ⟨rfl, hb4⟩
    have B4 := B3.trans (hb4.mono B3.size)
    clear hb4 B3
    go_wp2_with fail
    refine (two_any bMod a b K.out.1 K.out.2.1 K.out.2.2.1 K.out.2.2.2 _).mono ?_
    rw [HM.out.1, HM.out.2]
    rintro e w5 ⟨rfl, hb5⟩
    have B5 := B4.trans (hb5.mono B4.size)
    clear hb5 B4
    go_wp2_with fail
    refine (nearer_any _ _ HN.out.1 HN.out.2.1 K.out.2.2.1 K.out.2.2.2 HN.out.2.2 _).mono ?_
    rintro e w' ⟨rfl, rfl⟩
    go_wp2_with fail
    refine (nearer_any _ _ HN2.out.1 HN2.out.2.1 K.out.2.2.1 K.out.2.2.2 HN2.out.2.2 _).mono ?_
    rintro e w' ⟨rfl, rfl⟩
    go_wp2_with fail
    go_ret
    exact ⟨rfl, B5⟩

theorem divides_walk (a b : Int) (h0 : -9223372036854775808 ≤ a) (h1 : a ≤ 9223372036854775807) (g0 : -9223372036854775808 ≤ b) (g1 : b ≤ 9223372036854775807) (w : World) (hL : Laid w) :
    Calls Tryd.prog 7 #[.int .i64 a, .int .i64 b] w fun e w' => e = .returned (.bool true) ∧ Below w.heap.size w w' := by
  by_cases hb : b = 0
  · exact divides_zero a b h0 h1 g0 g1 hb w hL
  by_cases hov : a = -9223372036854775808 ∧ b = -1
  · exact divides_over a b h0 h1 g0 g1 hov.1 hov.2 w hL
  · exact divides_main a b h0 h1 g0 g1 hb hov w hL

end Go.Proofs.YthfclbbmioenlaaDoor
