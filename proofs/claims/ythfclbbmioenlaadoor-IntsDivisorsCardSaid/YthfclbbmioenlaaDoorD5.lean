/- The walk of the law IntsDivisors. -/
import Derived.Test.YthfclbbmioenlaaDoorD1
namespace Go.Proofs.YthfclbbmioenlaaDoor
open Go.RowKit

theorem okG (a b : Int) : bV bGcd a b = rV (Int.gcd a b : Nat) ∧ bE bGcd a b = rE (Int.gcd a b : Nat) ∧ bOk bGcd a b = inR (Int.gcd a b : Nat) := by
  refine ⟨rfl, rfl, ?_⟩
  show (rE (Int.gcd a b : Nat) == 0) = _
  rw [rE]; cases inR (Int.gcd a b : Nat) <;> rfl
theorem gcd_over (a b : Int) (h0 : -9223372036854775808 ≤ a) (h1 : a ≤ 9223372036854775807) (g0 : -9223372036854775808 ≤ b) (g1 : b ≤ 9223372036854775807) (h : inR (Int.gcd a b : Nat) = false) : a = -9223372036854775808 ∨ b = -9223372036854775808 := by
  rw [inR_no] at h
  have hg : 9223372036854775808 ≤ Int.gcd a b := by omega
  by_cases ha : a = 0
  · subst ha
    rw [Int.gcd_zero_left] at hg; omega
  · have := Int.gcd_le_natAbs_left b ha
    omega
theorem gcd_zero_iff (a b : Int) : Int.gcd a b = 0 ↔ a = 0 ∧ b = 0 := Int.gcd_eq_zero_iff
theorem gcd_rem (a b : Int) : a.tmod (Int.gcd a b : Nat) = 0 ∧ b.tmod (Int.gcd a b : Nat) = 0 :=
  ⟨Int.tmod_eq_zero_of_dvd (Int.gcd_dvd_left a b), Int.tmod_eq_zero_of_dvd (Int.gcd_dvd_right a b)⟩
theorem okRem (a b : Int) (hb : b ≠ 0) : bV bRem a b = a.tmod b ∧ bOk bRem a b = true := by
  show v_bRem a b = _ ∧ (e_bRem a b == 0) = true
  rw [v_bRem, e_bRem, if_neg hb, if_neg hb]; exact ⟨rfl, rfl⟩

set_option maxRecDepth 100000 in
set_option maxHeartbeats 1000000 in
theorem divisors_over (a b : Int) (h0 : -9223372036854775808 ≤ a) (h1 : a ≤ 9223372036854775807) (g0 : -9223372036854775808 ≤ b) (g1 : b ≤ 9223372036854775807) (ho : inR (Int.gcd a b : Nat) = false) (w : World) (hL : Laid w) :
    Calls Tryd.prog 11 #[.int .i64 a, .int .i64 b] w fun e w' => e = .returned (.bool true) ∧ Below w.heap.size w w' := by
  have HL := Lib.hid hL
  clear hL
  obtain ⟨x1, x2, x3⟩ := okG a b
  obtain ⟨y1, y2, y3⟩ := okG b a
  rw [Int.gcd_comm b a] at y1 y2 y3
  have hco := gcd_over a b h0 h1 g0 g1
  have hz := gcd_zero_iff a b
  obtain ⟨d1, d2⟩ := gcd_rem a b
  have hst := gcd_step a b
  obtain ⟨G, hG⟩ : ∃ G : Int, G = (Int.gcd a b : Nat) := ⟨_, rfl⟩
  have hG0 : 0 ≤ G := by omega
  have K := Lib.hid (And.intro h0 (And.intro h1 (And.intro g0 g1)))
  have hco := hco ho
  have HX : Hid (bV bGcd a b = 0 ∧ bE bGcd a b = 10) := by show _ ∧ _; rw [x1, x2, rV, rE, ho]; exact ⟨rfl, rfl⟩
  have HY : Hid (bV bGcd b a = 0 ∧ bE bGcd b a = 10) := by show _ ∧ _; rw [y1, y2, rV, rE, ho]; exact ⟨rfl, rfl⟩
  clear h0 h1 g0 g1 x1 x2 x3 y1 y2 y3 hz d1 d2 hst hG hG0 ho
  cases hq : (a == -9223372036854775808)
  · have q2 : (b == -9223372036854775808) = true := by
      rcases hco with h | h
      · rw [h] at hq; cases hq
      · simpa using h
    clear hco
    go_enter Tryd.func11, Tryd.ntmps11
    have B0 := Below.refl w.heap.size w
    go_wp2_with fail
    refine (example_any _ (HL.out.below B0)).mono ?_
    rintro e w1 ⟨rfl, hb1⟩
    have B1 := B0.trans (hb1.mono B0.size)
    clear hb1 B0
    go_wp2_with fail
    refine (binary_any bGcd a b K.out.1 K.out.2.1 K.out.2.2.1 K.out.2.2.2 _).mono ?_
    rw [HX.out.1, HX.out.2]
    rintro e w2 ⟨rfl, hb2⟩
    have B2 := B1.trans (hb2.mono B1.size)
    clear hb2 B1
    go_wp2_with fail
    refine (binary_any bGcd b a K.out.2.2.1 K.out.2.2.2 K.out.1 K.out.2.1 _).mono ?_
    rw [HY.out.1, HY.out.2]
    rintro e w3 ⟨rfl, hb3⟩
    have B3 := B2.trans (hb3.mono B2.size)
    clear hb3 B2
    go_wp2_with fail
    go_ret
    exact ⟨rfl, B3⟩
  · clear hco
    go_enter Tryd.func11, Tryd.ntmps11
    have B0 := Below.refl w.heap.size w
    go_wp2_with fail
    refine (example_any _ (HL.out.below B0)).mono ?_
    rintro e w1 ⟨rfl, hb1⟩
    have B1 := B0.trans (hb1.mono B0.size)
    clear hb1 B0
    go_wp2_with fail
    refine (binary_any bGcd a b K.out.1 K.out.2.1 K.out.2.2.1 K.out.2.2.2 _).mono ?_
    rw [HX.out.1, HX.out.2]
    rintro e w2 ⟨rfl, hb2⟩
    have B2 := B1.trans (hb2.mono B1.size)
    clear hb2 B1
    go_wp2_with fail
    refine (binary_any bGcd b a K.out.2.2.1 K.out.2.2.2 K.out.1 K.out.2.1 _).mono ?_
    rw [HY.out.1, HY.out.2]
    rintro e w3 ⟨rfl, hb3⟩
    have B3 := B2.trans (hb3.mono B2.size)
    clear hb3 B2
    go_wp2_with fail
    go_ret
    exact ⟨rfl, B3⟩

set_option maxRecDepth 100000 in
set_option maxHeartbeats 1000000 in
theorem divisors_zero (a b : Int) (h0 : -9223372036854775808 ≤ a) (h1 : a ≤ 9223372036854775807) (g0 : -9223372036854775808 ≤ b) (g1 : b ≤ 9223372036854775807) (ha : a = 0) (hb : b = 0) (w : World) (hL : Laid w) :
    Calls Tryd.prog 11 #[.int .i64 a, .int .i64 b] w fun e w' => e = .returned (.bool true) ∧ Below w.heap.size w w' := by
  have HL := Lib.hid hL
  clear hL
  obtain ⟨x1, x2, x3⟩ := okG a b
  obtain ⟨y1, y2, y3⟩ := okG b a
  rw [Int.gcd_comm b a] at y1 y2 y3
  have hco := gcd_over a b h0 h1 g0 g1
  have hz := gcd_zero_iff a b
  obtain ⟨d1, d2⟩ := gcd_rem a b
  have hst := gcd_step a b
  obtain ⟨G, hG⟩ : ∃ G : Int, G = (Int.gcd a b : Nat) := ⟨_, rfl⟩
  have hG0 : 0 ≤ G := by omega
  have K := Lib.hid (And.intro h0 (And.intro h1 (And.intro g0 g1)))
  have e0 : Int.gcd a b = 0 := hz.2 ⟨ha, hb⟩
  have HX : Hid (bV bGcd a b = 0 ∧ bE bGcd a b = 0) := by show _ ∧ _; rw [x1, x2, e0]; exact ⟨rfl, rfl⟩
  have HY : Hid (bV bGcd b a = 0 ∧ bE bGcd b a = 0) := by show _ ∧ _; rw [y1, y2, e0]; exact ⟨rfl, rfl⟩
  have q1 : (a == 0) = true := by simpa using ha
  have q2 : (b == 0) = true := by simpa using hb
  clear h0 h1 g0 g1 x1 x2 x3 y1 y2 y3 hz d1 d2 hst hG hG0 hco ha hb e0
  go_enter Tryd.func11, Tryd.ntmps11
  have B0 := Below.refl w.heap.size w
  go_wp2_with fail
  refine (example_any _ (HL.out.below B0)).mono ?_
  rintro e w1 ⟨rfl, hb1⟩
  have B1 := B0.trans (hb1.mono B0.size)
  clear hb1 B0
  go_wp2_with fail
  refine (binary_any bGcd a b K.out.1 K.out.2.1 K.out.2.2.1 K.out.2.2.2 _).mono ?_
  rw [HX.out.1, HX.out.2]
  rintro e w2 ⟨rfl, hb2⟩
  have B2 := B1.trans (hb2.mono B1.size)
  clear hb2 B1
  go_wp2_with fail
  refine (binary_any bGcd b a K.out.2.2.1 K.out.2.2.2 K.out.1 K.out.2.1 _).mono ?_
  rw [HY.out.1, HY.out.2]
  rintro e w3 ⟨rfl, hb3⟩
  have B3 := B2.trans (hb3.mono B2.size)
  clear hb3 B2
  go_wp2_with fail
  go_ret
  exact ⟨rfl, B3⟩

set_option maxRecDepth 100000 in
set_option maxHeartbeats 1000000 in
theorem divisors_main (a b : Int) (h0 : -9223372036854775808 ≤ a) (h1 : a ≤ 9223372036854775807) (g0 : -9223372036854775808 ≤ b) (g1 : b ≤ 9223372036854775807) (hne : ¬ (a = 0 ∧ b = 0)) (ho : inR (Int.gcd a b : Nat) = true) (w : World) (hL : Laid w) :
    Calls Tryd.prog 11 #[.int .i64 a, .int .i64 b] w fun e w' => e = .returned (.bool true) ∧ Below w.heap.size w w' := by
  have HL := Lib.hid hL
  clear hL
  obtain ⟨x1, x2, x3⟩ := okG a b
  obtain ⟨y1, y2, y3⟩ := okG b a
  rw [Int.gcd_comm b a] at y1 y2 y3
  have hco := gcd_over a b h0 h1 g0 g1
  have hz := gcd_zero_iff a b
  obtain ⟨d1, d2⟩ := gcd_rem a b
  have hst := gcd_step a b
  obtain ⟨G, hG⟩ : ∃ G : Int, G = (Int.gcd a b : Nat) := ⟨_, rfl⟩
  have hG0 : 0 ≤ G := by omega
  have K := Lib.hid (And.intro h0 (And.intro h1 (And.intro g0 g1)))
  rw [← hG] at x1 x2 x3 y1 y2 y3 d1 d2 ho
  have hg : G ≠ 0 := by
    intro h
    exact hne (hz.1 (by omega))
  have hgp : 0 < G := by omega
  have HX : Hid (bV bGcd a b = G ∧ bE bGcd a b = 0) := by show _ ∧ _; rw [x1, x2, rV, rE, ho]; exact ⟨rfl, rfl⟩
  have HY : Hid (bV bGcd b a = G ∧ bE bGcd b a = 0) := by show _ ∧ _; rw [y1, y2, rV, rE, ho]; exact ⟨rfl, rfl⟩
  have qg : (G == 0) = false := by simpa using hg
  have HA : Hid (bV bRem a G = 0 ∧ bOk bRem a G = true) := by
    obtain ⟨z1, z2⟩ := okRem a G hg
    rw [d1] at z1; exact ⟨z1, z2⟩
  have HB : Hid (bV bRem b G = 0 ∧ bOk bRem b G = true) := by
    obtain ⟨z1, z2⟩ := okRem b G hg
    rw [d2] at z1; exact ⟨z1, z2⟩
  have KG := Lib.hid (inR_iff.1 ho)
  have hq12 : ((a == 0) = true ∧ (b == 0) = false) ∨ ((a == 0) = false ∧ (b == 0) = true) ∨ ((a == 0) = false ∧ (b == 0) = false) := by
    cases ha : (a == 0) <;> cases hb : (b == 0) <;> simp at ha hb ⊢
    exact hne ⟨ha, hb⟩
  have HT : Hid ((b == 0) = false → bV bRem a b = a.tmod b ∧ bOk bRem a b = true ∧ bV bGcd b (a.tmod b) = G ∧ bOk bGcd b (a.tmod b) = true ∧ -9223372036854775807 ≤ a.tmod b ∧ a.tmod b ≤ 9223372036854775807) := by
    intro hb
    have hb' : b ≠ 0 := by simpa using hb
    obtain ⟨z1, z2⟩ := okRem a b hb'
    obtain ⟨t1, _, t3⟩ := okG b (a.tmod b)
    rw [hst, ← hG] at t1 t3
    have rr := tmod_range a b g0 g1 hb'
    exact ⟨z1, z2, by rw [t1, rV, ho]; rfl, by rw [t3, ho], rr.1, rr.2⟩
  clear h0 h1 g0 g1 x1 x2 x3 y1 y2 y3 hz d1 d2 hst hG hG0 hco hne hg ho
  rcases hq12 with ⟨q1, q2⟩ | ⟨q1, q2⟩ | ⟨q1, q2⟩
  · have B0 := Below.refl w.heap.size w
    have HZ0 := HT.out q2
    obtain ⟨R, hR⟩ : ∃ R, R = a.tmod b := ⟨_, rfl⟩
    rw [← hR] at HZ0
    have HZ := Lib.hid HZ0
    clear HZ0 hR
    clear HT
    go_enter Tryd.func11, Tryd.ntmps11
    go_wp2_with fail
    refine (example_any _ (HL.out.below B0)).mono ?_
    rintro e w1 ⟨rfl, hb1⟩
    have B1 := B0.trans (hb1.mono B0.size)
    clear hb1 B0
    go_wp2_with fail
    refine (binary_any bGcd a b K.out.1 K.out.2.1 K.out.2.2.1 K.out.2.2.2 _).mono ?_
    rw [HX.out.1, HX.out.2]
    rintro e w2 ⟨rfl, hb2⟩
    have B2 := B1.trans (hb2.mono B1.size)
    clear hb2 B1
    go_wp2_with fail
    refine (binary_any bGcd b a K.out.2.2.1 K.out.2.2.2 K.out.1 K.out.2.1 _).mono ?_
    rw [HY.out.1, HY.out.2]
    rintro e w3 ⟨rfl, hb3⟩
    have B3 := B2.trans (hb3.mono B2.size)
    clear hb3 B2
    go_wp2_with fail
    refine (two_any bRem a G K.out.1 K.out.2.1 KG.out.1 KG.out.2 _).mono ?_
    rw [HA.out.1, HA.out.2]
    rintro e w4 ⟨rfl, hb4⟩
    have B4 := B3.trans (hb4.mono B3.size)
    clear hb4 B3
    go_wp2_with fail
    refine (two_any bRem b G K.out.2.2.1 K.out.2.2.2 KG.out.1 KG.out.2 _).mono ?_
    rw [HB.out.1, HB.out.2]
    rintro e w5 ⟨rfl, hb5⟩
    have B5 := B4.trans (hb5.mono B4.size)
    clear hb5 B4
    go_wp2_with fail
    refine (two_any bRem a b K.out.1 K.out.2.1 K.out.2.2.1 K.out.2.2.2 _).mono ?_
    rw [HZ.out.1, HZ.out.2.1]
    rintro e w6 ⟨rfl, hb6⟩
    have B6 := B5.trans (hb6.mono B5.size)
    clear hb6 B5
    go_wp2_with fail
    refine (two_any bGcd b R K.out.2.2.1 K.out.2.2.2 (by have := HZ.out; omega) (by have := HZ.out; omega) _).mono ?_
    rw [HZ.out.2.2.1, HZ.out.2.2.2.1]
    rintro e w7 ⟨rfl, hb7⟩
    have B7 := B6.trans (hb7.mono B6.size)
    clear hb7 B6
    go_wp2_with fail
    go_ret
    exact ⟨rfl, B7⟩
  · have B0 := Below.refl w.heap.size w
    clear HT
    go_enter Tryd.func11, Tryd.ntmps11
    go_wp2_with fail
    refine (example_any _ (HL.out.below B0)).mono ?_
    rintro e w1 ⟨rfl, hb1⟩
    have B1 := B0.trans (hb1.mono B0.size)
    clear hb1 B0
    go_wp2_with fail
    refine (binary_any bGcd a b K.out.1 K.out.2.1 K.out.2.2.1 K.out.2.2.2 _).mono ?_
    rw [HX.out.1, HX.out.2]
    rintro e w2 ⟨rfl, hb2⟩
    have B2 := B1.trans (hb2.mono B1.size)
    clear hb2 B1
    go_wp2_with fail
    refine (binary_any bGcd b a K.out.2.2.1 K.out.2.2.2 K.out.1 K.out.2.1 _).mono ?_
    rw [HY.out.1, HY.out.2]
    rintro e w3 ⟨rfl, hb3⟩
    have B3 := B2.trans (hb3.mono B2.size)
    clear hb3 B2
    go_wp2_with fail
    refine (two_any bRem a G K.out.1 K.out.2.1 KG.out.1 KG.out.2 _).mono ?_
    rw [HA.out.1, HA.out.2]
    rintro e w4 ⟨rfl, hb4⟩
    have B4 := B3.trans (hb4.mono B3.size)
    clear hb4 B3
    go_wp2_with fail
    refine (two_any bRem b G K.out.2.2.1 K.out.2.2.2 KG.out.1 KG.out.2 _).mono ?_
    rw [HB.out.1, HB.out.2]
    rintro e w5 ⟨rfl, hb5⟩
    have B5 := B4.trans (hb5.mono B4.size)
    clear hb5 B4
    go_wp2_with fail
    go_ret
    exact ⟨rfl, B5⟩
  · have B0 := Below.refl w.heap.size w
    have HZ0 := HT.out q2
    obtain ⟨R, hR⟩ : ∃ R, R = a.tmod b := ⟨_, rfl⟩
    rw [← hR] at HZ0
    have HZ := Lib.hid HZ0
    clear HZ0 hR
    clear HT
    go_enter Tryd.func11, Tryd.ntmps11
    go_wp2_with fail
    refine (example_any _ (HL.out.below B0)).mono ?_
    rintro e w1 ⟨rfl, hb1⟩
    have B1 := B0.trans (hb1.mono B0.size)
    clear hb1 B0
    go_wp2_with fail
    refine (binary_any bGcd a b K.out.1 K.out.2.1 K.out.2.2.1 K.out.2.2.2 _).mono ?_
    rw [HX.out.1, HX.out.2]
    rintro e w2 ⟨rfl, hb2⟩
    have B2 := B1.trans (hb2.mono B1.size)
    clear hb2 B1
    go_wp2_with fail
    refine (binary_any bGcd b a K.out.2.2.1 K.out.2.2.2 K.out.1 K.out.2.1 _).mono ?_
    rw [HY.out.1, HY.out.2]
    rintro e w3 ⟨rfl, hb3⟩
    have B3 := B2.trans (hb3.mono B2.size)
    clear hb3 B2
    go_wp2_with fail
    refine (two_any bRem a G K.out.1 K.out.2.1 KG.out.1 KG.out.2 _).mono ?_
    rw [HA.out.1, HA.out.2]
    rintro e w4 ⟨rfl, hb4⟩
    have B4 := B3.trans (hb4.mono B3.size)
    clear hb4 B3
    go_wp2_with fail
    refine (two_any bRem b G K.out.2.2.1 K.out.2.2.2 KG.out.1 KG.out.2 _).mono ?_
    rw [HB.out.1, HB.out.2]
    rintro e w5 ⟨rfl, hb5⟩
    have B5 := B4.trans (hb5.mono B4.size)
    clear hb5 B4
    go_wp2_with fail
    refine (two_any bRem a b K.out.1 K.out.2.1 K.out.2.2.1 K.out.2.2.2 _).mono ?_
    rw [HZ.out.1, HZ.out.2.1]
    rintro e w6 ⟨rfl, hb6⟩
    have B6 := B5.trans (hb6.mono B5.size)
    clear hb6 B5
    go_wp2_with fail
    refine (two_any bGcd b R K.out.2.2.1 K.out.2.2.2 (by have := HZ.out; omega) (by have := HZ.out; omega) _).mono ?_
    rw [HZ.out.2.2.1, HZ.out.2.2.2.1]
    rintro e w7 ⟨rfl, hb7⟩
    have B7 := B6.trans (hb7.mono B6.size)
    clear hb7 B6
    go_wp2_with fail
    go_ret
    exact ⟨rfl, B7⟩

theorem divisors_walk (a b : Int) (h0 : -9223372036854775808 ≤ a) (h1 : a ≤ 9223372036854775807) (g0 : -9223372036854775808 ≤ b) (g1 : b ≤ 9223372036854775807) (w : World) (hL : Laid w) :
    Calls Tryd.prog 11 #[.int .i64 a, .int .i64 b] w fun e w' => e = .returned (.bool true) ∧ Below w.heap.size w w' := by
  cases ho : inR (Int.gcd a b : Nat)
  · exact divisors_over a b h0 h1 g0 g1 ho w hL
  · by_cases hz : a = 0 ∧ b = 0
    · exact divisors_zero a b h0 h1 g0 g1 hz.1 hz.2 w hL
    · exact divisors_main a b h0 h1 g0 g1 hz ho w hL

end Go.Proofs.YthfclbbmioenlaaDoor
