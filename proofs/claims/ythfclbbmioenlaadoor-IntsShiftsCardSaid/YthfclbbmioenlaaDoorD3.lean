/- The walk of the law IntsShifts. -/
import Derived.Test.YthfclbbmioenlaaDoorD1
namespace Go.Proofs.YthfclbbmioenlaaDoor
open Go.RowKit

theorem okShr (a b : Int) : bOk bShr a b = (e_bShr a b == 0) := rfl
theorem shr_in (a b : Int) (hb : ¬ (b < 0 ∨ 63 < b)) : bV bShr a b = a / 2 ^ b.toNat ∧ bE bShr a b = 0 ∧ bOk bShr a b = true := by
  rw [bV_bShr, bE_bShr, okShr, v_bShr, e_bShr, if_neg hb, if_neg hb]; exact ⟨rfl, rfl, rfl⟩
theorem shl_in (a b : Int) (hb : ¬ (b < 0 ∨ 63 < b)) : bV bShl a b = rV (a * 2 ^ b.toNat) ∧ bE bShl a b = rE (a * 2 ^ b.toNat) := by
  rw [bV_bShl, bE_bShl, v_bShl, e_bShl, if_neg hb, if_neg hb]; exact ⟨rfl, rfl⟩
theorem shift_out (a b : Int) (hb : b < 0 ∨ 63 < b) : bV bShr a b = 0 ∧ bE bShr a b = 12 ∧ bV bShl a b = 0 ∧ bE bShl a b = 12 := by
  rw [bV_bShl, bE_bShl, v_bShl, e_bShl, if_pos hb, if_pos hb, bV_bShr, bE_bShr, v_bShr, e_bShr, if_pos hb, if_pos hb]; exact ⟨rfl, rfl, rfl, rfl⟩
theorem shr_range (a b : Int) (h0 : -9223372036854775808 ≤ a) (h1 : a ≤ 9223372036854775807) (hb : b ≤ 63) : -9223372036854775808 ≤ a / 2 ^ b.toNat ∧ a / 2 ^ b.toNat ≤ 9223372036854775807 := by
  obtain ⟨p0, p1⟩ := pow_bd b hb
  generalize (2 : Int) ^ b.toNat = p at *
  have e1 : p * (a / p) + a % p = a := Int.mul_ediv_add_emod _ _
  have e2 := Int.emod_nonneg a (show p ≠ 0 by omega)
  have e3 := Int.emod_lt_of_pos a p0
  rcases Int.le_total 0 a with h | h
  · have h2 : 0 ≤ a / p := Int.ediv_nonneg h (by omega)
    have h3 : a / p ≤ a := Int.ediv_le_self p h
    omega
  · have h2 : a / p ≤ 0 := Int.ediv_le_of_le_mul p0 (by omega)
    have h3 : a ≤ a / p := by
      have h4 : a * p ≤ a * 1 := Int.mul_le_mul_of_nonpos_left h (by omega)
      exact Int.le_ediv_of_mul_le p0 (by omega)
    omega

set_option maxRecDepth 100000 in
set_option maxHeartbeats 1000000 in
theorem shifts_bad (a b c : Int) (h0 : -9223372036854775808 ≤ a) (h1 : a ≤ 9223372036854775807) (g0 : -9223372036854775808 ≤ b) (g1 : b ≤ 9223372036854775807) (_k0 : -9223372036854775808 ≤ c) (_k1 : c ≤ 9223372036854775807) (hb : b < 0 ∨ 63 < b) (w : World) (hL : Laid w) :
    Calls Tryd.prog 8 #[.int .i64 a, .int .i64 b, .int .i64 c] w fun e w' => e = .returned (.bool true) ∧ Below w.heap.size w w' := by
  have HL := Lib.hid hL
  clear hL
  have q : b < 0 ∨ 63 < b := hb
  obtain ⟨x1, x2, x3, x4⟩ := shift_out a b hb
  have HX := Lib.hid (And.intro x1 (And.intro x2 (And.intro x3 x4)))
  have K := Lib.hid (And.intro h0 (And.intro h1 (And.intro g0 g1)))
  clear h0 h1 g0 g1 x1 x2 x3 x4 q
  rcases hb with hb | hb
  · have B0 := Below.refl w.heap.size w
    go_enter Tryd.func8, Tryd.ntmps8
    go_wp2_with fail
    refine (example_any _ (HL.out.below B0)).mono ?_
    rintro e w1 ⟨rfl, hb1⟩
    have B1 := B0.trans (hb1.mono B0.size)
    clear hb1 B0
    go_wp2_with fail
    refine (binary_any bShl a b K.out.1 K.out.2.1 K.out.2.2.1 K.out.2.2.2 _).mono ?_
    rw [HX.out.2.2.1, HX.out.2.2.2]
    rintro e w2 ⟨rfl, hb2⟩
    have B2 := B1.trans (hb2.mono B1.size)
    clear hb2 B1
    go_wp2_with fail
    refine (binary_any bShr a b K.out.1 K.out.2.1 K.out.2.2.1 K.out.2.2.2 _).mono ?_
    rw [HX.out.1, HX.out.2.1]
    rintro e w3 ⟨rfl, hb3⟩
    have B3 := B2.trans (hb3.mono B2.size)
    clear hb3 B2
    go_wp2_with fail
    go_ret
    exact ⟨rfl, B3⟩
  · have B0 := Below.refl w.heap.size w
    have q2 : decide (b < 0) = false := by simp; omega
    go_enter Tryd.func8, Tryd.ntmps8
    go_wp2_with fail
    refine (example_any _ (HL.out.below B0)).mono ?_
    rintro e w1 ⟨rfl, hb1⟩
    have B1 := B0.trans (hb1.mono B0.size)
    clear hb1 B0
    go_wp2_with fail
    refine (binary_any bShl a b K.out.1 K.out.2.1 K.out.2.2.1 K.out.2.2.2 _).mono ?_
    rw [HX.out.2.2.1, HX.out.2.2.2]
    rintro e w2 ⟨rfl, hb2⟩
    have B2 := B1.trans (hb2.mono B1.size)
    clear hb2 B1
    go_wp2_with fail
    refine (binary_any bShr a b K.out.1 K.out.2.1 K.out.2.2.1 K.out.2.2.2 _).mono ?_
    rw [HX.out.1, HX.out.2.1]
    rintro e w3 ⟨rfl, hb3⟩
    have B3 := B2.trans (hb3.mono B2.size)
    clear hb3 B2
    go_wp2_with fail
    go_ret
    exact ⟨rfl, B3⟩

set_option maxRecDepth 100000 in
set_option maxHeartbeats 1000000 in
theorem shifts_main (a b c : Int) (h0 : -9223372036854775808 ≤ a) (h1 : a ≤ 9223372036854775807) (g0 : -9223372036854775808 ≤ b) (g1 : b ≤ 9223372036854775807) (k0 : -9223372036854775808 ≤ c) (k1 : c ≤ 9223372036854775807) (b0 : 0 ≤ b) (b1 : b ≤ 63) (w : World) (hL : Laid w) :
    Calls Tryd.prog 8 #[.int .i64 a, .int .i64 b, .int .i64 c] w fun e w' => e = .returned (.bool true) ∧ Below w.heap.size w w' := by
  have HL := Lib.hid hL
  clear hL
  have hb : ¬ (b < 0 ∨ 63 < b) := by omega
  obtain ⟨r1, r2, r3⟩ := shr_in a b hb
  obtain ⟨l1, l2⟩ := shl_in a b hb
  obtain ⟨p0, p1⟩ := pow_bd b b1
  obtain ⟨R, hR⟩ : ∃ R, R = a / 2 ^ b.toNat := ⟨_, rfl⟩
  rw [← hR] at r1
  have HR := Lib.hid (And.intro r1 r2)
  have q0 : decide (b < 0) = false := by simp; omega
  have rr := shr_range a b h0 h1 b1
  rw [← hR] at rr
  have RR := Lib.hid rr
  have hcs : (c < 0 ∨ 63 - b < c) ∨ (0 ≤ c ∧ c ≤ 63 - b) := by omega
  have HC : Hid (0 ≤ c → c ≤ 63 - b → bV bShr R c = a / 2 ^ (b + c).toNat ∧ bOk bShr R c = true ∧ bV bShr a (b + c) = a / 2 ^ (b + c).toNat ∧ bOk bShr a (b + c) = true) := by
    intro c0 c1
    obtain ⟨y1, _, y3⟩ := shr_in R c (by omega)
    obtain ⟨z1, _, z3⟩ := shr_in a (b + c) (by omega)
    refine ⟨?_, y3, z1, z3⟩
    rw [y1, hR, show (b + c).toNat = b.toNat + c.toNat by omega, Int.pow_add, Int.ediv_ediv_of_nonneg (by omega)]
  have HLft : Hid ((rE (a * 2 ^ b.toNat) = 10 ∧ rV (a * 2 ^ b.toNat) = 0) ∨ (rE (a * 2 ^ b.toNat) = 0 ∧ bV bShr (rV (a * 2 ^ b.toNat)) b = a ∧ bOk bShr (rV (a * 2 ^ b.toNat)) b = true ∧ -9223372036854775808 ≤ rV (a * 2 ^ b.toNat) ∧ rV (a * 2 ^ b.toNat) ≤ 9223372036854775807)) := by
    cases hi : inR (a * 2 ^ b.toNat)
    · exact .inl (by simp [rE, rV, hi])
    · refine .inr ?_
      have e1 : rV (a * 2 ^ b.toNat) = a * 2 ^ b.toNat := by simp [rV, hi]
      obtain ⟨y1, _, y3⟩ := shr_in (rV (a * 2 ^ b.toNat)) b hb
      rw [inR_iff] at hi
      refine ⟨by simp [rE, inR, hi], ?_, y3, by omega, by omega⟩
      rw [y1, e1]
      exact Int.mul_ediv_cancel a (by omega)
  obtain ⟨V, hV⟩ : ∃ V, V = rV (a * 2 ^ b.toNat) := ⟨_, rfl⟩
  obtain ⟨E, hE⟩ : ∃ E, E = rE (a * 2 ^ b.toNat) := ⟨_, rfl⟩
  rw [← hV, ← hE] at HLft
  rw [← hV] at l1
  rw [← hE] at l2
  have HV := Lib.hid (And.intro l1 l2)
  obtain ⟨T, hT⟩ : ∃ T, T = a / 2 ^ (b + c).toNat := ⟨_, rfl⟩
  rw [← hT] at HC
  have K := Lib.hid (And.intro h0 (And.intro h1 (And.intro g0 g1)))
  clear hT hV hE l1 l2 r1 r2 r3 rr hR h0 h1 g0 g1 p0 p1 hb
  rcases HLft.out with ⟨e1, -⟩ | ⟨e1, x1, x2, x3, x4⟩
  · have f1 : (E == 0) = false := by rw [e1]; rfl
    have f2 : (E != 0) = true := by rw [e1]; rfl
    have f3 : (E == 10) = true := by rw [e1]; rfl
    have f4 : (E != 10) = false := by rw [e1]; rfl
    clear e1 HLft
    rcases hcs with (hc | hc) | ⟨c0, c1⟩
    · have B0 := Below.refl w.heap.size w
      have q1 : decide (c < 0) = true := by simpa using hc
      go_enter Tryd.func8, Tryd.ntmps8
      go_wp2_with fail
      refine (example_any _ (HL.out.below B0)).mono ?_
      rintro e w1 ⟨rfl, hb1⟩
      have B1 := B0.trans (hb1.mono B0.size)
      clear hb1 B0
      go_wp2_with fail
      refine (binary_any bShl a b K.out.1 K.out.2.1 K.out.2.2.1 K.out.2.2.2 _).mono ?_
      rw [HV.out.1, HV.out.2]
      rintro e w2 ⟨rfl, hb2⟩
      have B2 := B1.trans (hb2.mono B1.size)
      clear hb2 B1
      go_wp2_with fail
      refine (binary_any bShr a b K.out.1 K.out.2.1 K.out.2.2.1 K.out.2.2.2 _).mono ?_
      rw [HR.out.1, HR.out.2]
      rintro e w3 ⟨rfl, hb3⟩
      have B3 := B2.trans (hb3.mono B2.size)
      clear hb3 B2
      go_wp2_with fail
      go_ret
      exact ⟨rfl, B3⟩
    · have B0 := Below.refl w.heap.size w
      have q1 : decide (c < 0) = false := by simp; omega
      go_enter Tryd.func8, Tryd.ntmps8
      go_wp2_with fail
      refine (example_any _ (HL.out.below B0)).mono ?_
      rintro e w1 ⟨rfl, hb1⟩
      have B1 := B0.trans (hb1.mono B0.size)
      clear hb1 B0
      go_wp2_with fail
      refine (binary_any bShl a b K.out.1 K.out.2.1 K.out.2.2.1 K.out.2.2.2 _).mono ?_
      rw [HV.out.1, HV.out.2]
      rintro e w2 ⟨rfl, hb2⟩
      have B2 := B1.trans (hb2.mono B1.size)
      clear hb2 B1
      go_wp2_with fail
      refine (binary_any bShr a b K.out.1 K.out.2.1 K.out.2.2.1 K.out.2.2.2 _).mono ?_
      rw [HR.out.1, HR.out.2]
      rintro e w3 ⟨rfl, hb3⟩
      have B3 := B2.trans (hb3.mono B2.size)
      clear hb3 B2
      go_wp2_with fail
      go_ret
      exact ⟨rfl, B3⟩
    · have B0 := Below.refl w.heap.size w
      have q1 : decide (c < 0) = false := by simp; omega
      have HT := Lib.hid (HC.out c0 c1)
      go_enter Tryd.func8, Tryd.ntmps8
      go_wp2_with fail
      refine (example_any _ (HL.out.below B0)).mono ?_
      rintro e w1 ⟨rfl, hb1⟩
      have B1 := B0.trans (hb1.mono B0.size)
      clear hb1 B0
      go_wp2_with fail
      refine (binary_any bShl a b K.out.1 K.out.2.1 K.out.2.2.1 K.out.2.2.2 _).mono ?_
      rw [HV.out.1, HV.out.2]
      rintro e w2 ⟨rfl, hb2⟩
      have B2 := B1.trans (hb2.mono B1.size)
      clear hb2 B1
      go_wp2_with fail
      refine (binary_any bShr a b K.out.1 K.out.2.1 K.out.2.2.1 K.out.2.2.2 _).mono ?_
      rw [HR.out.1, HR.out.2]
      rintro e w3 ⟨rfl, hb3⟩
      have B3 := B2.trans (hb3.mono B2.size)
      clear hb3 B2
      go_wp2_with fail
      refine (two_any bShr R c RR.out.1 RR.out.2 k0 k1 _).mono ?_
      rw [HT.out.1, HT.out.2.1]
      rintro e w4 ⟨rfl, hb4⟩
      have B4 := B3.trans (hb4.mono B3.size)
      clear hb4 B3
      go_wp2_with fail
      refine (two_any bShr a (b + c) K.out.1 K.out.2.1 (by omega) (by omega) _).mono ?_
      rw [HT.out.2.2.1, HT.out.2.2.2]
      rintro e w5 ⟨rfl, hb5⟩
      have B5 := B4.trans (hb5.mono B4.size)
      clear hb5 B4
      go_wp2_with fail
      go_ret
      exact ⟨rfl, B5⟩
  · have f1 : (E == 0) = true := by rw [e1]; rfl
    have f2 : (E != 0) = false := by rw [e1]; rfl
    have f3 : (E == 10) = false := by rw [e1]; rfl
    have f4 : (E != 10) = true := by rw [e1]; rfl
    have HX := Lib.hid (And.intro x1 x2)
    have KX := Lib.hid (And.intro x3 x4)
    clear x1 x2 x3 x4
    clear e1 HLft
    rcases hcs with (hc | hc) | ⟨c0, c1⟩
    · have B0 := Below.refl w.heap.size w
      have q1 : decide (c < 0) = true := by simpa using hc
      go_enter Tryd.func8, Tryd.ntmps8
      go_wp2_with fail
      refine (example_any _ (HL.out.below B0)).mono ?_
      rintro e w1 ⟨rfl, hb1⟩
      have B1 := B0.trans (hb1.mono B0.size)
      clear hb1 B0
      go_wp2_with fail
      refine (binary_any bShl a b K.out.1 K.out.2.1 K.out.2.2.1 K.out.2.2.2 _).mono ?_
      rw [HV.out.1, HV.out.2]
      rintro e w2 ⟨rfl, hb2⟩
      have B2 := B1.trans (hb2.mono B1.size)
      clear hb2 B1
      go_wp2_with fail
      refine (binary_any bShr a b K.out.1 K.out.2.1 K.out.2.2.1 K.out.2.2.2 _).mono ?_
      rw [HR.out.1, HR.out.2]
      rintro e w3 ⟨rfl, hb3⟩
      have B3 := B2.trans (hb3.mono B2.size)
      clear hb3 B2
      go_wp2_with fail
      refine (two_any bShr V b KX.out.1 KX.out.2 K.out.2.2.1 K.out.2.2.2 _).mono ?_
      rw [HX.out.1, HX.out.2]
      rintro e w4 ⟨rfl, hb4⟩
      have B4 := B3.trans (hb4.mono B3.size)
      clear hb4 B3
      go_wp2_with fail
      go_ret
      exact ⟨rfl, B4⟩
    · have B0 := Below.refl w.heap.size w
      have q1 : decide (c < 0) = false := by simp; omega
      go_enter Tryd.func8, Tryd.ntmps8
      go_wp2_with fail
      refine (example_any _ (HL.out.below B0)).mono ?_
      rintro e w1 ⟨rfl, hb1⟩
      have B1 := B0.trans (hb1.mono B0.size)
      clear hb1 B0
      go_wp2_with fail
      refine (binary_any bShl a b K.out.1 K.out.2.1 K.out.2.2.1 K.out.2.2.2 _).mono ?_
      rw [HV.out.1, HV.out.2]
      rintro e w2 ⟨rfl, hb2⟩
      have B2 := B1.trans (hb2.mono B1.size)
      clear hb2 B1
      go_wp2_with fail
      refine (binary_any bShr a b K.out.1 K.out.2.1 K.out.2.2.1 K.out.2.2.2 _).mono ?_
      rw [HR.out.1, HR.out.2]
      rintro e w3 ⟨rfl, hb3⟩
      have B3 := B2.trans (hb3.mono B2.size)
      clear hb3 B2
      go_wp2_with fail
      refine (two_any bShr V b KX.out.1 KX.out.2 K.out.2.2.1 K.out.2.2.2 _).mono ?_
      rw [HX.out.1, HX.out.2]
      rintro e w4 ⟨rfl, hb4⟩
      have B4 := B3.trans (hb4.mono B3.size)
      clear hb4 B3
      go_wp2_with fail
      go_ret
      exact ⟨rfl, B4⟩
    · have B0 := Below.refl w.heap.size w
      have q1 : decide (c < 0) = false := by simp; omega
      have HT := Lib.hid (HC.out c0 c1)
      go_enter Tryd.func8, Tryd.ntmps8
      go_wp2_with fail
      refine (example_any _ (HL.out.below B0)).mono ?_
      rintro e w1 ⟨rfl, hb1⟩
      have B1 := B0.trans (hb1.mono B0.size)
      clear hb1 B0
      go_wp2_with fail
      refine (binary_any bShl a b K.out.1 K.out.2.1 K.out.2.2.1 K.out.2.2.2 _).mono ?_
      rw [HV.out.1, HV.out.2]
      rintro e w2 ⟨rfl, hb2⟩
      have B2 := B1.trans (hb2.mono B1.size)
      clear hb2 B1
      go_wp2_with fail
      refine (binary_any bShr a b K.out.1 K.out.2.1 K.out.2.2.1 K.out.2.2.2 _).mono ?_
      rw [HR.out.1, HR.out.2]
      rintro e w3 ⟨rfl, hb3⟩
      have B3 := B2.trans (hb3.mono B2.size)
      clear hb3 B2
      go_wp2_with fail
      refine (two_any bShr V b KX.out.1 KX.out.2 K.out.2.2.1 K.out.2.2.2 _).mono ?_
      rw [HX.out.1, HX.out.2]
      rintro e w4 ⟨rfl, hb4⟩
      have B4 := B3.trans (hb4.mono B3.size)
      clear hb4 B3
      go_wp2_with fail
      refine (two_any bShr R c RR.out.1 RR.out.2 k0 k1 _).mono ?_
      rw [HT.out.1, HT.out.2.1]
      rintro e w5 ⟨rfl, hb5⟩
      have B5 := B4.trans (hb5.mono B4.size)
      clear hb5 B4
      go_wp2_with fail
      refine (two_any bShr a (b + c) K.out.1 K.out.2.1 (by omega) (by omega) _).mono ?_
      rw [HT.out.2.2.1, HT.out.2.2.2]
      rintro e w6 ⟨rfl, hb6⟩
      have B6 := B5.trans (hb6.mono B5.size)
      clear hb6 B5
      go_wp2_with fail
      go_ret
      exact ⟨rfl, B6⟩

theorem shifts_walk (a b c : Int) (h0 : -9223372036854775808 ≤ a) (h1 : a ≤ 9223372036854775807) (g0 : -9223372036854775808 ≤ b) (g1 : b ≤ 9223372036854775807) (k0 : -9223372036854775808 ≤ c) (k1 : c ≤ 9223372036854775807) (w : World) (hL : Laid w) :
    Calls Tryd.prog 8 #[.int .i64 a, .int .i64 b, .int .i64 c] w fun e w' => e = .returned (.bool true) ∧ Below w.heap.size w w' := by
  by_cases hb : b < 0 ∨ 63 < b
  · exact shifts_bad a b c h0 h1 g0 g1 k0 k1 hb w hL
  · exact shifts_main a b c h0 h1 g0 g1 k0 k1 (by omega) (by omega) w hL

end Go.Proofs.YthfclbbmioenlaaDoor
