/- The walks of the laws IntsPowers and IntsDivisors. -/
import Derived.Test.YthfclbbmioenlaaDoorD1
namespace Go.Proofs.YthfclbbmioenlaaDoor
open Go.RowKit

theorem neg1_pow (k : Nat) : (-1 : Int) ^ k = if (k : Int) % 2 = 0 then 1 else -1 := by
  induction k with
  | zero => rfl
  | succ k ih =>
    rw [Int.pow_succ, ih]
    by_cases h : (k : Int) % 2 = 0
    · rw [if_pos h, if_neg (by omega)]; rfl
    · rw [if_neg h, if_pos (by omega)]; rfl
theorem pow_plain (a b : Int) (hb : 0 ≤ b) : powV a b = rV (a ^ b.toNat) ∧ powE a b = rE (a ^ b.toNat) := by
  unfold powV powE
  by_cases h : b = 0 ∨ a = 1
  · rw [if_pos h, if_pos h]
    have e : a ^ b.toNat = 1 := by
      rcases h with h | h
      · rw [h]; exact Int.pow_zero a
      · rw [h, Int.one_pow]
    rw [e]; exact ⟨rfl, rfl⟩
  · rw [if_neg h, if_neg h]
    by_cases h1 : a = -1
    · rw [if_pos h1, if_pos h1, h1, neg1_pow, show ((b.toNat : Nat) : Int) = b by omega]
      by_cases h2 : b % 2 = 0
      · rw [if_pos h2]; exact ⟨rfl, rfl⟩
      · rw [if_neg h2]; exact ⟨rfl, rfl⟩
    · rw [if_neg h1, if_neg h1, if_neg (by omega), if_neg (by omega)]; exact ⟨rfl, rfl⟩
theorem pow_part (a : Int) (k n : Nat) (hk : k ≤ n) (h : inR (a ^ n) = true) : inR (a ^ k) = true := by
  by_cases h2 : 2 ≤ a.natAbs
  · cases h3 : inR (a ^ k)
    · have := pow_out a h2 k n hk h3
      rw [h] at this; cases this
    · rfl
  · have h3 : (a ^ k).natAbs = a.natAbs ^ k := pow_abs a k
    have h4 : a.natAbs ^ k ≤ 1 ^ k := Nat.pow_le_pow_left (by omega) k
    rw [Nat.one_pow] at h4
    rw [inR_iff]; omega
theorem okP (a b : Int) (hb : 0 ≤ b) : bV bPow a b = rV (a ^ b.toNat) ∧ bOk bPow a b = inR (a ^ b.toNat) := by
  obtain ⟨h1, h2⟩ := pow_plain a b hb
  refine ⟨h1, ?_⟩
  show (powE a b == 0) = _
  rw [h2, rE]; cases inR (a ^ b.toNat) <;> rfl

set_option maxRecDepth 100000 in
set_option maxHeartbeats 1000000 in
theorem powers_walk (a m n : Int) (h0 : -9223372036854775808 ≤ a) (h1 : a ≤ 9223372036854775807) (m0 : 0 ≤ m) (m1 : m ≤ 255) (n0 : 0 ≤ n) (n1 : n ≤ 255) (w : World) (hL : Laid w) :
    Calls Tryd.prog 9 #[.int .i64 a, .int .u8 m, .int .u8 n] w fun e w' => e = .returned (.bool true) ∧ Below w.heap.size w w' := by
  have HL := Lib.hid hL
  clear hL
  have hs : (m + n).toNat = m.toNat + n.toNat := by omega
  obtain ⟨s1, s2⟩ := okP a (m + n) (by omega)
  obtain ⟨x1, x2⟩ := okP a m m0
  obtain ⟨y1, y2⟩ := okP a n n0
  cases hi : inR (a ^ (m + n).toNat)
  · have HS : Hid (bV bPow a (m + n) = 0 ∧ bOk bPow a (m + n) = false) := by show _ ∧ _; rw [s1, s2, hi, rV, hi]; exact ⟨rfl, rfl⟩
    have K := Lib.hid (And.intro h0 h1)
    clear h0 h1 hs s1 s2 x1 x2 y1 y2 hi
    go_enter Tryd.func9, Tryd.ntmps9

    have B0 := Below.refl w.heap.size w
    go_wp2_with fail
    refine (example_any _ (HL.out.below B0)).mono ?_
    rintro e w1 ⟨rfl, hb1⟩
    have B1 := B0.trans (hb1.mono B0.size)
    clear hb1 B0
    go_wp2_with fail
    refine (two_any bPow a (m + n) K.out.1 K.out.2 (by omega) (by omega) _).mono ?_
    rw [HS.out.1, HS.out.2]
    rintro e w2 ⟨rfl, hb2⟩
    have B2 := B1.trans (hb2.mono B1.size)
    clear hb2 B1
    go_wp2_with fail
    go_ret
    exact ⟨rfl, B2⟩
  · have i1 : inR (a ^ m.toNat) = true := pow_part a _ _ (by omega) hi
    have i2 : inR (a ^ n.toNat) = true := pow_part a _ _ (by omega) hi
    obtain ⟨X, hX⟩ : ∃ X, X = a ^ m.toNat := ⟨_, rfl⟩
    obtain ⟨Y, hY⟩ : ∃ Y, Y = a ^ n.toNat := ⟨_, rfl⟩
    obtain ⟨P, hP⟩ : ∃ P, P = a ^ (m + n).toNat := ⟨_, rfl⟩
    have hm : P = X * Y := by rw [hP, hX, hY, hs, Int.pow_add]
    have HS : Hid (bV bPow a (m + n) = P ∧ bOk bPow a (m + n) = true) := by show _ ∧ _; rw [s1, s2, hi, rV, hi, hP]; exact ⟨rfl, rfl⟩
    have HX : Hid (bV bPow a m = X ∧ bOk bPow a m = true) := by show _ ∧ _; rw [x1, x2, i1, rV, i1, hX]; exact ⟨rfl, rfl⟩
    have HY : Hid (bV bPow a n = Y ∧ bOk bPow a n = true) := by show _ ∧ _; rw [y1, y2, i2, rV, i2, hY]; exact ⟨rfl, rfl⟩
    rw [← hP] at hi
    rw [← hX] at i1
    rw [← hY] at i2
    have HZ : Hid (bV bTimes X Y = P ∧ bOk bTimes X Y = true) := by
      show rV (X * Y) = P ∧ (rE (X * Y) == 0) = true
      rw [← hm, rV, rE, hi]; exact ⟨rfl, rfl⟩
    have KX := Lib.hid (And.intro (inR_iff.1 i1) (inR_iff.1 i2))
    have K := Lib.hid (And.intro h0 h1)
    clear h0 h1 hs s1 s2 x1 x2 y1 y2 hi i1 i2 hX hY hP hm
    go_enter Tryd.func9, Tryd.ntmps9

    have B0 := Below.refl w.heap.size w
    go_wp2_with fail
    refine (example_any _ (HL.out.below B0)).mono ?_
    rintro e w1 ⟨rfl, hb1⟩
    have B1 := B0.trans (hb1.mono B0.size)
    clear hb1 B0
    go_wp2_with fail
    refine (two_any bPow a (m + n) K.out.1 K.out.2 (by omega) (by omega) _).mono ?_
    rw [HS.out.1, HS.out.2]
    rintro e w2 ⟨rfl, hb2⟩
    have B2 := B1.trans (hb2.mono B1.size)
    clear hb2 B1
    go_wp2_with fail
    refine (two_any bPow a m K.out.1 K.out.2 (by omega) (by omega) _).mono ?_
    rw [HX.out.1, HX.out.2]
    rintro e w3 ⟨rfl, hb3⟩
    have B3 := B2.trans (hb3.mono B2.size)
    clear hb3 B2
    go_wp2_with fail
    refine (two_any bPow a n K.out.1 K.out.2 (by omega) (by omega) _).mono ?_
    rw [HY.out.1, HY.out.2]
    rintro e w4 ⟨rfl, hb4⟩
    have B4 := B3.trans (hb4.mono B3.size)
    clear hb4 B3
    go_wp2_with fail
    refine (two_any bTimes X Y KX.out.1.1 KX.out.1.2 KX.out.2.1 KX.out.2.2 _).mono ?_
    rw [HZ.out.1, HZ.out.2]
    rintro e w5 ⟨rfl, hb5⟩
    have B5 := B4.trans (hb5.mono B4.size)
    clear hb5 B4
    go_wp2_with fail
    go_ret
    exact ⟨rfl, B5⟩

end Go.Proofs.YthfclbbmioenlaaDoor
