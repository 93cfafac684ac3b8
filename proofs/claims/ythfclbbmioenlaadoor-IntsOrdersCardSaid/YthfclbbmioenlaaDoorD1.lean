/- The walks of the laws IntsBits and IntsOrders. -/
import Derived.Test.YthfclbbmioenlaaDoorC1
namespace Go.Proofs.YthfclbbmioenlaaDoor
open Go.RowKit

theorem bV_bPlus (a b : Int) : bV bPlus a b = v_bPlus a b := rfl
theorem bE_bPlus (a b : Int) : bE bPlus a b = e_bPlus a b := rfl
theorem bV_bMinus (a b : Int) : bV bMinus a b = v_bMinus a b := rfl
theorem bE_bMinus (a b : Int) : bE bMinus a b = e_bMinus a b := rfl
theorem bV_bTimes (a b : Int) : bV bTimes a b = v_bTimes a b := rfl
theorem bE_bTimes (a b : Int) : bE bTimes a b = e_bTimes a b := rfl
theorem bV_bQuot (a b : Int) : bV bQuot a b = v_bQuot a b := rfl
theorem bE_bQuot (a b : Int) : bE bQuot a b = e_bQuot a b := rfl
theorem bV_bRem (a b : Int) : bV bRem a b = v_bRem a b := rfl
theorem bE_bRem (a b : Int) : bE bRem a b = e_bRem a b := rfl
theorem bV_bDiv (a b : Int) : bV bDiv a b = v_bDiv a b := rfl
theorem bE_bDiv (a b : Int) : bE bDiv a b = e_bDiv a b := rfl
theorem bV_bMod (a b : Int) : bV bMod a b = v_bMod a b := rfl
theorem bE_bMod (a b : Int) : bE bMod a b = e_bMod a b := rfl
theorem bV_bMin (a b : Int) : bV bMin a b = v_bMin a b := rfl
theorem bE_bMin (a b : Int) : bE bMin a b = e_bMin a b := rfl
theorem bV_bMax (a b : Int) : bV bMax a b = v_bMax a b := rfl
theorem bE_bMax (a b : Int) : bE bMax a b = e_bMax a b := rfl
theorem bV_bShr (a b : Int) : bV bShr a b = v_bShr a b := rfl
theorem bE_bShr (a b : Int) : bE bShr a b = e_bShr a b := rfl
theorem bV_bShl (a b : Int) : bV bShl a b = v_bShl a b := rfl
theorem bE_bShl (a b : Int) : bE bShl a b = e_bShl a b := rfl
theorem bV_bAnd (a b : Int) : bV bAnd a b = v_bAnd a b := rfl
theorem bE_bAnd (a b : Int) : bE bAnd a b = e_bAnd a b := rfl
theorem bV_bOr (a b : Int) : bV bOr a b = v_bOr a b := rfl
theorem bE_bOr (a b : Int) : bE bOr a b = e_bOr a b := rfl
theorem bV_bXor (a b : Int) : bV bXor a b = v_bXor a b := rfl
theorem bE_bXor (a b : Int) : bE bXor a b = e_bXor a b := rfl
theorem bV_bPow (a b : Int) : bV bPow a b = v_bPow a b := rfl
theorem bE_bPow (a b : Int) : bE bPow a b = e_bPow a b := rfl
theorem bV_bGcd (a b : Int) : bV bGcd a b = v_bGcd a b := rfl
theorem bE_bGcd (a b : Int) : bE bGcd a b = e_bGcd a b := rfl
theorem ok_bAnd (a b : Int) : bOk bAnd a b = true := rfl
theorem ok_bOr (a b : Int) : bOk bOr a b = true := rfl
theorem ok_bXor (a b : Int) : bOk bXor a b = true := rfl
theorem ok_bMin (a b : Int) : bOk bMin a b = true := rfl
theorem ok_bMax (a b : Int) : bOk bMax a b = true := rfl
theorem u_compl (a : Int) : uV nCompl a = -1 - a ∧ uE nCompl a = 0 := ⟨rfl, rfl⟩
theorem u_sign (a : Int) : uV nSign a = sgn a ∧ uE nSign a = 0 := ⟨rfl, rfl⟩
theorem u_abs (a : Int) : uV nAbs a = rV (aabs a) ∧ uE nAbs a = rE (aabs a) := ⟨rfl, rfl⟩

set_option maxRecDepth 100000 in
set_option maxHeartbeats 1000000 in
theorem bits_walk (a b : Int) (h0 : -9223372036854775808 ≤ a) (h1 : a ≤ 9223372036854775807) (g0 : -9223372036854775808 ≤ b) (g1 : b ≤ 9223372036854775807) (w : World) (hL : Laid w) :
    Calls Tryd.prog 10 #[.int .i64 a, .int .i64 b] w fun e w' => e = .returned (.bool true) ∧ Below w.heap.size w w' := by
  have HL := Lib.hid hL
  clear hL
  obtain ⟨A, hA⟩ : ∃ A, A = bits .and .i64 a b := ⟨_, rfl⟩
  obtain ⟨O, hO⟩ : ∃ O, O = bits .or .i64 a b := ⟨_, rfl⟩
  obtain ⟨X, hX⟩ : ∃ X, X = bits .xor .i64 a b := ⟨_, rfl⟩
  obtain ⟨N, hN⟩ : ∃ N, N = bits .and .i64 (-1 - a) (-1 - b) := ⟨_, rfl⟩
  have f1 : (wrap64 (A + O) == wrap64 (a + b)) = true := by rw [hA, hO, bits_sum]; simp
  have f2 : (X == wrap64 (O - A)) = true := by rw [hA, hO, hX, bits_xor_of]; simp
  have f3 : (N == wrap64 (-1 - O)) = true := by rw [hN, hO, bits_nor]; simp
  have HA : Hid (bV bAnd a b = A ∧ bOk bAnd a b = true) := ⟨hA.symm, rfl⟩
  have HO : Hid (bV bOr a b = O ∧ bOk bOr a b = true) := ⟨hO.symm, rfl⟩
  have HX : Hid (bV bXor a b = X ∧ bOk bXor a b = true) := ⟨hX.symm, rfl⟩
  have HN : Hid (bV bAnd (-1 - a) (-1 - b) = N ∧ bOk bAnd (-1 - a) (-1 - b) = true) := ⟨hN.symm, rfl⟩
  clear hA hO hX hN
  have K := Lib.hid (And.intro h0 (And.intro h1 (And.intro g0 g1)))
  clear h0 h1 g0 g1
  go_enter Tryd.func10, Tryd.ntmps10
  have B0 := Below.refl w.heap.size w
  go_wp2_with fail
  refine (two_any bAnd a b K.out.1 K.out.2.1 K.out.2.2.1 K.out.2.2.2 _).mono ?_
  rw [HA.out.1, HA.out.2]
  rintro e w1 ⟨rfl, hb1⟩
  have B1 := B0.trans (hb1.mono B0.size)
  clear hb1 B0
  go_wp2_with fail
  refine (two_any bOr a b K.out.1 K.out.2.1 K.out.2.2.1 K.out.2.2.2 _).mono ?_
  rw [HO.out.1, HO.out.2]
  rintro e w2 ⟨rfl, hb2⟩
  have B2 := B1.trans (hb2.mono B1.size)
  clear hb2 B1
  go_wp2_with fail
  refine (two_any bXor a b K.out.1 K.out.2.1 K.out.2.2.1 K.out.2.2.2 _).mono ?_
  rw [HX.out.1, HX.out.2]
  rintro e w3 ⟨rfl, hb3⟩
  have B3 := B2.trans (hb3.mono B2.size)
  clear hb3 B2
  go_wp2_with fail
  refine (unary_any nCompl a K.out.1 K.out.2.1 _).mono ?_
  rw [(u_compl a).1, (u_compl a).2]
  rintro e w4 ⟨rfl, hb4⟩
  have B4 := B3.trans (hb4.mono B3.size)
  clear hb4 B3
  go_wp2_with fail
  refine (unary_any nCompl b K.out.2.2.1 K.out.2.2.2 _).mono ?_
  rw [(u_compl b).1, (u_compl b).2]
  rintro e w5 ⟨rfl, hb5⟩
  have B5 := B4.trans (hb5.mono B4.size)
  clear hb5 B4
  go_wp2_with fail
  refine (two_any bAnd (-1 - a) (-1 - b) (by have := K.out; omega) (by have := K.out; omega) (by have := K.out; omega) (by have := K.out; omega) _).mono ?_
  rw [HN.out.1, HN.out.2]
  rintro e w6 ⟨rfl, hb6⟩
  have B6 := B5.trans (hb6.mono B5.size)
  clear hb6 B5
  go_wp2_with fail
  refine (example_any _ (HL.out.below B6)).mono ?_
  rintro e w7 ⟨rfl, hb7⟩
  have B7 := B6.trans (hb7.mono B6.size)
  clear hb7 B6
  go_wp2_with fail
  go_ret
  exact ⟨rfl, B7⟩

theorem sgn_abs (a : Int) : sgn a * aabs a = a := by
  unfold sgn aabs
  by_cases h : a < 0
  · rw [if_pos h, if_pos h]; omega
  · by_cases h2 : 0 < a
    · rw [if_neg h, if_neg h, if_pos h2]; omega
    · rw [if_neg h, if_neg h, if_neg h2]; omega
theorem sgn_bd (a : Int) : -1 ≤ sgn a ∧ sgn a ≤ 1 := by unfold sgn; split <;> (try split) <;> omega

set_option maxRecDepth 100000 in
set_option maxHeartbeats 1000000 in
theorem orders_le (a b : Int) (h0 : -9223372036854775808 ≤ a) (h1 : a ≤ 9223372036854775807) (g0 : -9223372036854775808 ≤ b) (g1 : b ≤ 9223372036854775807) (hab : a ≤ b) (w : World) (hL : Laid w) :
    Calls Tryd.prog 12 #[.int .i64 a, .int .i64 b] w fun e w' => e = .returned (.bool true) ∧ Below w.heap.size w w' := by
  have HL := Lib.hid hL
  clear hL
  have HM : Hid (bV bMin a b = a ∧ bV bMax a b = b) := by
    show lesser a b = _ ∧ greater a b = _
    unfold lesser greater
    refine ⟨?_, ?_⟩ <;> split <;> omega
  have qd : decide (b < a) = false := by simpa using hab
  obtain ⟨S, hS⟩ : ∃ S, S = sgn a := ⟨_, rfl⟩
  obtain ⟨V, hV⟩ : ∃ V, V = rV (aabs a) := ⟨_, rfl⟩
  obtain ⟨E, hE⟩ : ∃ E, E = rE (aabs a) := ⟨_, rfl⟩
  obtain ⟨s0, s1⟩ := sgn_bd a
  rw [← hS] at s0 s1
  have HS : Hid (uV nSign a = S ∧ uE nSign a = 0) := ⟨hS.symm, rfl⟩
  have HV : Hid (uV nAbs a = V ∧ uE nAbs a = E) := ⟨hV.symm, hE.symm⟩
  have hr := aabs_inR a h0 h1
  by_cases hx : a = -9223372036854775808
  · have q1 : (a == -9223372036854775808) = true := by simpa using hx
    have e1 : E = 10 := by rw [hE, rE, hr]; simp [hx]
    have q2 : (E != 0) = true := by rw [e1]; rfl
    have q3 : (E == 0) = false := by rw [e1]; rfl
    clear e1 hr hx hE hV hS
    go_enter Tryd.func12, Tryd.ntmps12
    have B0 := Below.refl w.heap.size w
    go_wp2_with fail
    refine (two_any bMin a b h0 h1 g0 g1 _).mono ?_
    rw [HM.out.1, ok_bMin]
    rintro e w1 ⟨rfl, hb1⟩
    have B1 := B0.trans (hb1.mono B0.size)
    clear hb1 B0
    go_wp2_with fail
    refine (two_any bMax a b h0 h1 g0 g1 _).mono ?_
    rw [HM.out.2, ok_bMax]
    rintro e w2 ⟨rfl, hb2⟩
    have B2 := B1.trans (hb2.mono B1.size)
    clear hb2 B1
    go_wp2_with fail
    refine (unary_any nSign a h0 h1 _).mono ?_
    rw [HS.out.1, HS.out.2]
    rintro e w3 ⟨rfl, hb3⟩
    have B3 := B2.trans (hb3.mono B2.size)
    clear hb3 B2
    go_wp2_with fail
    refine (unary_any nAbs a h0 h1 _).mono ?_
    rw [HV.out.1, HV.out.2]
    rintro e w4 ⟨rfl, hb4⟩
    have B4 := B3.trans (hb4.mono B3.size)
    clear hb4 B3
    go_wp2_with fail
    refine (example_any _ (HL.out.below B4)).mono ?_
    rintro e w5 ⟨rfl, hb5⟩
    have B5 := B4.trans (hb5.mono B4.size)
    clear hb5 B4
    go_wp2_with fail
    go_ret
    exact ⟨rfl, B5⟩
  · have q1 : (a == -9223372036854775808) = false := by simpa using hx
    have e1 : E = 0 := by rw [hE, rE, hr]; simp [hx]
    have e2 : V = aabs a := by rw [hV, rV, hr]; simp [hx]
    have q2 : (E != 0) = false := by rw [e1]; rfl
    have q3 : (E == 0) = true := by rw [e1]; rfl
    have v0 : 0 ≤ V := by rw [e2]; unfold aabs; split <;> omega
    have hw : wrap64 (S * V) = a := by rw [hS, e2, sgn_abs]; exact wrap_of (inR_iff.2 ⟨h0, h1⟩)
    clear e1 e2 hr hx hE hV hS
    go_enter Tryd.func12, Tryd.ntmps12
    have B0 := Below.refl w.heap.size w
    go_wp2_with fail
    refine (two_any bMin a b h0 h1 g0 g1 _).mono ?_
    rw [HM.out.1, ok_bMin]
    rintro e w1 ⟨rfl, hb1⟩
    have B1 := B0.trans (hb1.mono B0.size)
    clear hb1 B0
    go_wp2_with fail
    refine (two_any bMax a b h0 h1 g0 g1 _).mono ?_
    rw [HM.out.2, ok_bMax]
    rintro e w2 ⟨rfl, hb2⟩
    have B2 := B1.trans (hb2.mono B1.size)
    clear hb2 B1
    go_wp2_with fail
    refine (unary_any nSign a h0 h1 _).mono ?_
    rw [HS.out.1, HS.out.2]
    rintro e w3 ⟨rfl, hb3⟩
    have B3 := B2.trans (hb3.mono B2.size)
    clear hb3 B2
    go_wp2_with fail
    refine (unary_any nAbs a h0 h1 _).mono ?_
    rw [HV.out.1, HV.out.2]
    rintro e w4 ⟨rfl, hb4⟩
    have B4 := B3.trans (hb4.mono B3.size)
    clear hb4 B3
    go_wp2_with fail
    refine (example_any _ (HL.out.below B4)).mono ?_
    rintro e w5 ⟨rfl, hb5⟩
    have B5 := B4.trans (hb5.mono B4.size)
    clear hb5 B4
    go_wp2_with fail
    go_ret
    exact ⟨rfl, B5⟩

set_option maxRecDepth 100000 in
set_option maxHeartbeats 1000000 in
theorem orders_gt (a b : Int) (h0 : -9223372036854775808 ≤ a) (h1 : a ≤ 9223372036854775807) (g0 : -9223372036854775808 ≤ b) (g1 : b ≤ 9223372036854775807) (hab : b < a) (w : World) (hL : Laid w) :
    Calls Tryd.prog 12 #[.int .i64 a, .int .i64 b] w fun e w' => e = .returned (.bool true) ∧ Below w.heap.size w w' := by
  have HL := Lib.hid hL
  clear hL
  have HM : Hid (bV bMin a b = b ∧ bV bMax a b = a) := by
    show lesser a b = _ ∧ greater a b = _
    unfold lesser greater
    refine ⟨?_, ?_⟩ <;> split <;> omega
  have qn : (b == a) = false := by simp; omega
  have qd : decide (a < b) = false := by simp; omega
  obtain ⟨S, hS⟩ : ∃ S, S = sgn a := ⟨_, rfl⟩
  obtain ⟨V, hV⟩ : ∃ V, V = rV (aabs a) := ⟨_, rfl⟩
  obtain ⟨E, hE⟩ : ∃ E, E = rE (aabs a) := ⟨_, rfl⟩
  obtain ⟨s0, s1⟩ := sgn_bd a
  rw [← hS] at s0 s1
  have HS : Hid (uV nSign a = S ∧ uE nSign a = 0) := ⟨hS.symm, rfl⟩
  have HV : Hid (uV nAbs a = V ∧ uE nAbs a = E) := ⟨hV.symm, hE.symm⟩
  have hr := aabs_inR a h0 h1
  by_cases hx : a = -9223372036854775808
  · have q1 : (a == -9223372036854775808) = true := by simpa using hx
    have e1 : E = 10 := by rw [hE, rE, hr]; simp [hx]
    have q2 : (E != 0) = true := by rw [e1]; rfl
    have q3 : (E == 0) = false := by rw [e1]; rfl
    clear e1 hr hx hE hV hS
    go_enter Tryd.func12, Tryd.ntmps12
    have B0 := Below.refl w.heap.size w
    go_wp2_with fail
    refine (two_any bMin a b h0 h1 g0 g1 _).mono ?_
    rw [HM.out.1, ok_bMin]
    rintro e w1 ⟨rfl, hb1⟩
    have B1 := B0.trans (hb1.mono B0.size)
    clear hb1 B0
    go_wp2_with fail
    refine (two_any bMax a b h0 h1 g0 g1 _).mono ?_
    rw [HM.out.2, ok_bMax]
    rintro e w2 ⟨rfl, hb2⟩
    have B2 := B1.trans (hb2.mono B1.size)
    clear hb2 B1
    go_wp2_with fail
    refine (unary_any nSign a h0 h1 _).mono ?_
    rw [HS.out.1, HS.out.2]
    rintro e w3 ⟨rfl, hb3⟩
    have B3 := B2.trans (hb3.mono B2.size)
    clear hb3 B2
    go_wp2_with fail
    refine (unary_any nAbs a h0 h1 _).mono ?_
    rw [HV.out.1, HV.out.2]
    rintro e w4 ⟨rfl, hb4⟩
    have B4 := B3.trans (hb4.mono B3.size)
    clear hb4 B3
    go_wp2_with fail
    refine (example_any _ (HL.out.below B4)).mono ?_
    rintro e w5 ⟨rfl, hb5⟩
    have B5 := B4.trans (hb5.mono B4.size)
    clear hb5 B4
    go_wp2_with fail
    go_ret
    exact ⟨rfl, B5⟩
  · have q1 : (a == -9223372036854775808) = false := by simpa using hx
    have e1 : E = 0 := by rw [hE, rE, hr]; simp [hx]
    have e2 : V = aabs a := by rw [hV, rV, hr]; simp [hx]
    have q2 : (E != 0) = false := by rw [e1]; rfl
    have q3 : (E == 0) = true := by rw [e1]; rfl
    have v0 : 0 ≤ V := by rw [e2]; unfold aabs; split <;> omega
    have hw : wrap64 (S * V) = a := by rw [hS, e2, sgn_abs]; exact wrap_of (inR_iff.2 ⟨h0, h1⟩)
    clear e1 e2 hr hx hE hV hS
    go_enter Tryd.func12, Tryd.ntmps12
    have B0 := Below.refl w.heap.size w
    go_wp2_with fail
    refine (two_any bMin a b h0 h1 g0 g1 _).mono ?_
    rw [HM.out.1, ok_bMin]
    rintro e w1 ⟨rfl, hb1⟩
    have B1 := B0.trans (hb1.mono B0.size)
    clear hb1 B0
    go_wp2_with fail
    refine (two_any bMax a b h0 h1 g0 g1 _).mono ?_
    rw [HM.out.2, ok_bMax]
    rintro e w2 ⟨rfl, hb2⟩
    have B2 := B1.trans (hb2.mono B1.size)
    clear hb2 B1
    go_wp2_with fail
    refine (unary_any nSign a h0 h1 _).mono ?_
    rw [HS.out.1, HS.out.2]
    rintro e w3 ⟨rfl, hb3⟩
    have B3 := B2.trans (hb3.mono B2.size)
    clear hb3 B2
    go_wp2_with fail
    refine (unary_any nAbs a h0 h1 _).mono ?_
    rw [HV.out.1, HV.out.2]
    rintro e w4 ⟨rfl, hb4⟩
    have B4 := B3.trans (hb4.mono B3.size)
    clear hb4 B3
    go_wp2_with fail
    refine (example_any _ (HL.out.below B4)).mono ?_
    rintro e w5 ⟨rfl, hb5⟩
    have B5 := B4.trans (hb5.mono B4.size)
    clear hb5 B4
    go_wp2_with fail
    go_ret
    exact ⟨rfl, B5⟩

theorem orders_walk (a b : Int) (h0 : -9223372036854775808 ≤ a) (h1 : a ≤ 9223372036854775807) (g0 : -9223372036854775808 ≤ b) (g1 : b ≤ 9223372036854775807) (w : World) (hL : Laid w) :
    Calls Tryd.prog 12 #[.int .i64 a, .int .i64 b] w fun e w' => e = .returned (.bool true) ∧ Below w.heap.size w w' := by
  by_cases hab : a ≤ b
  · exact orders_le a b h0 h1 g0 g1 hab w hL
  · exact orders_gt a b h0 h1 g0 g1 (by omega) w hL

end Go.Proofs.YthfclbbmioenlaaDoor
