/- The contracts of the specification's powers, greatest common divisor and shifts. -/
import Derived.Test.YthfclbbmioenlaaDoorE2
namespace Go.Proofs.YthfclbbmioenlaaDoor
open Go.RowKit

section
variable (a b : Int) (h0 : -9223372036854775808 ≤ a) (h1 : a ≤ 9223372036854775807) (g0 : -9223372036854775808 ≤ b) (g1 : b ≤ 9223372036854775807)

theorem rp_triv (h : b = 0 ∨ a = 1) (w : World) :
    Calls Tryd.prog 33 #[.int .i64 a, .int .i64 b] w fun e w' => e = .returned (.tuple #[.int .i64 (powV a b), .int .i64 (powE a b)]) ∧ w = w' := by
  have H : Hid (1 = powV a b ∧ 0 = powE a b) := by show _ ∧ _; rw [powV, powE, if_pos h, if_pos h]; exact ⟨rfl, rfl⟩
  by_cases ha : a = 1
  · have q1 : (a == 1) = true := by simpa using ha
    clear h ha
    go_enter Tryd.func33, Tryd.ntmps33
    go_wp2_with fail
    go_ret2
    exact ⟨pow_one_ret H.out, rfl⟩
  · have q1 : (a == 1) = false := by simpa using ha
    have q2 : (b == 0) = true := by simpa using h.resolve_right ha
    clear h ha
    go_enter Tryd.func33, Tryd.ntmps33
    go_wp2_with fail
    go_ret2
    exact ⟨pow_one_ret H.out, rfl⟩

theorem rp_neg1 (hb : b ≠ 0) (ha : a = -1) (w : World) :
    Calls Tryd.prog 33 #[.int .i64 a, .int .i64 b] w fun e w' => e = .returned (.tuple #[.int .i64 (powV a b), .int .i64 (powE a b)]) ∧ w = w' := by
  have h : ¬ (b = 0 ∨ a = 1) := by omega
  have hv : powV a b = (if b % 2 = 0 then 1 else -1) ∧ powE a b = 0 := by rw [powV, powE, if_neg h, if_neg h, if_pos ha, if_pos ha]; exact ⟨rfl, rfl⟩
  have q1 : (b == 0) = false := by simpa using hb
  have q2 : (a == 1) = false := by simp; omega
  have q3 : (a == -1) = true := by simpa using ha
  have ht := tmod_facts b 2 (by omega)
  obtain ⟨R, hR⟩ : ∃ R, R = b.tmod 2 := ⟨_, rfl⟩
  rw [← hR] at ht
  have hR2 := hR.symm
  by_cases he : b % 2 = 0
  · have q4 : (R == 0) = true := by simp; omega
    have H : Hid (1 = powV a b ∧ 0 = powE a b) := by show _ ∧ _; rw [hv.1, hv.2, if_pos he]; exact ⟨rfl, rfl⟩
    clear ha hb h hv ht hR he
    go_enter Tryd.func33, Tryd.ntmps33
    go_wp2_with fail
    go_ret2
    exact ⟨pow_one_ret H.out, rfl⟩
  · have q4 : (R == 0) = false := by simp; omega
    have H : Hid (-1 = powV a b ∧ 0 = powE a b) := by show _ ∧ _; rw [hv.1, hv.2, if_neg he]; exact ⟨rfl, rfl⟩
    clear ha hb h hv ht hR he
    go_enter Tryd.func33, Tryd.ntmps33
    go_wp2_with fail
    go_ret2
    exact ⟨pow_one_ret H.out, rfl⟩

theorem rp_under (hb : b < 0) (ha1 : a ≠ 1) (ha : a ≠ -1) (w : World) :
    Calls Tryd.prog 33 #[.int .i64 a, .int .i64 b] w fun e w' => e = .returned (.tuple #[.int .i64 (powV a b), .int .i64 (powE a b)]) ∧ w = w' := by
  have h : ¬ (b = 0 ∨ a = 1) := by omega
  have q1 : (b == 0) = false := by simp; omega
  have q2 : (a == 1) = false := by simpa using ha1
  have q3 : (a == -1) = false := by simpa using ha
  by_cases hz : a = 0
  · have H : Hid (0 = powV a b ∧ 11 = powE a b) := by
      show _ ∧ _
      rw [powV, powE, if_neg h, if_neg h, if_neg ha, if_neg ha, if_pos hb, if_pos hb, if_pos hz]; exact ⟨rfl, rfl⟩
    have q4 : (a == 0) = true := by simpa using hz
    clear ha ha1 h hz
    go_enter Tryd.func33, Tryd.ntmps33
    go_wp2_with fail
    go_ret2
    exact ⟨pow_one_ret H.out, rfl⟩
  · have H : Hid (0 = powV a b ∧ 12 = powE a b) := by
      show _ ∧ _
      rw [powV, powE, if_neg h, if_neg h, if_neg ha, if_neg ha, if_pos hb, if_pos hb, if_neg hz]; exact ⟨rfl, rfl⟩
    have q4 : (a == 0) = false := by simpa using hz
    clear ha ha1 h hz
    go_enter Tryd.func33, Tryd.ntmps33
    go_wp2_with fail
    go_ret2
    exact ⟨pow_one_ret H.out, rfl⟩

theorem rp_zero (hb : 0 < b) (ha : a = 0) (w : World) :
    Calls Tryd.prog 33 #[.int .i64 a, .int .i64 b] w fun e w' => e = .returned (.tuple #[.int .i64 (powV a b), .int .i64 (powE a b)]) ∧ w = w' := by
  have H : Hid (0 = powV a b ∧ 0 = powE a b) := by
    show _ ∧ _
    rw [powV, powE, if_neg (by omega), if_neg (by omega), if_neg (by omega), if_neg (by omega), if_neg (by omega), if_neg (by omega), ha]
    rw [Int.zero_pow (by omega)]
    simp [rV, rE, inR]
  have q1 : (b == 0) = false := by simp; omega
  have q2 : (a == 1) = false := by simp; omega
  have q3 : (a == -1) = false := by simp; omega
  have q4 : (a == 0) = true := by simpa using ha
  have q5 : decide (b < 0) = false := by simp; omega
  clear ha
  go_enter Tryd.func33, Tryd.ntmps33
  go_wp2_with fail
  go_ret2
  exact ⟨pow_one_ret H.out, rfl⟩

include h0 h1 g1 in
theorem rp_loop (hb : 0 < b) (ha : 2 ≤ a.natAbs) (w : World) :
    Calls Tryd.prog 33 #[.int .i64 a, .int .i64 b] w fun e w' => e = .returned (.tuple #[.int .i64 (powV a b), .int .i64 (powE a b)]) ∧ w = w' := by
  have HV : Hid (powV a b = rV (a ^ b.toNat) ∧ powE a b = rE (a ^ b.toNat)) := by
    show _ ∧ _
    rw [powV, powE, if_neg (by omega), if_neg (by omega), if_neg (by omega), if_neg (by omega), if_neg (by omega), if_neg (by omega)]; exact ⟨rfl, rfl⟩
  have q1 : (b == 0) = false := by simp; omega
  have q2 : (a == 1) = false := by simp; omega
  have q3 : (a == -1) = false := by simp; omega
  have q4 : (a == 0) = false := by simp; omega
  have q5 : decide (b < 0) = false := by simp; omega
  have HA := Lib.hid ha
  clear ha
  go_enter Tryd.func33, Tryd.ntmps33
  go_wp2_with fail
  go_loop [6, 7] (fun v i => ∃ (k : Nat) (x : Int), (k : Int) ≤ b ∧ i = .int .i64 k ∧ v = .int .i64 x ∧ Hid (x = a ^ k ∧ inR x = true)) (fun _ i => b.toNat - (intOf i).toNat)
  case atStart => exact ⟨0, 1, by omega, rfl, rfl, by show _ ∧ _; simp [inR]⟩
  case round =>
    obtain ⟨k, x, hk, rfl, rfl, hx⟩ := hrel
    by_cases hlt : (k : Int) < b
    · obtain ⟨x0, x1⟩ := inR_iff.1 hx.out.2
      cases hin : inR (x * a)
      · have H1 : Hid (rV (x * a) = 0 ∧ rE (x * a) = 10) := by show _ ∧ _; simp [rV, rE, hin]
        have H2 : Hid (0 = powV a b ∧ rE (x * a) = powE a b) := by
          show _ ∧ _
          have hx2 := hx.out.1
          have ho : inR (a ^ b.toNat) = false := pow_out a HA.out (k + 1) _ (by omega) (by rw [pow_step, ← hx2]; exact hin)
          rw [H1.out.2, HV.out.1, HV.out.2, rV, rE, ho]; exact ⟨rfl, rfl⟩
        have hq : (rE (x * a) == 0) = false := by rw [H1.out.2]; rfl
        have hq2 : (rE (x * a) != 0) = true := by rw [H1.out.2]; rfl
        clear hin
        go_wp2_with (go_at_call 31; refine (r_mul _ _ x0 x1 h0 h1 _).mono ?_; rintro e w' ⟨rfl, rfl⟩)
        go_ret2
        exact ⟨pow_one_ret H2.out, rfl⟩
      · have H1 : Hid (rV (x * a) = x * a ∧ rE (x * a) = 0) := by show _ ∧ _; simp [rV, rE, hin]
        have hq : (rE (x * a) == 0) = true := by rw [H1.out.2]; rfl
        have hq2 : (rE (x * a) != 0) = false := by rw [H1.out.2]; rfl
        have H2 : Hid (rV (x * a) = a ^ (k + 1) ∧ inR (rV (x * a)) = true) := by
          show _ ∧ _
          rw [H1.out.1, pow_step, ← hx.out.1]; exact ⟨rfl, hin⟩
        clear hin
        go_wp2_with (go_at_call 31; refine (r_mul _ _ x0 x1 h0 h1 _).mono ?_; rintro e w' ⟨rfl, rfl⟩)
        go_round
        case rel => exact ⟨k + 1, _, by omega, by go_num, rfl, H2⟩
        case measure => simp [intOf]; omega
    · have H2 : Hid (x = powV a b ∧ 0 = powE a b) := by
        show _ ∧ _
        have hkb : k = b.toNat := by omega
        rw [HV.out.1, HV.out.2, ← hkb, ← hx.out.1, rV, rE, hx.out.2]; exact ⟨rfl, rfl⟩
      clear hx
      go_wp2_with fail
      go_ret2
      exact ⟨pow_one_ret H2.out, rfl⟩

include h0 h1 g1 in
theorem r_power (w : World) :
    Calls Tryd.prog 33 #[.int .i64 a, .int .i64 b] w fun e w' => e = .returned (.tuple #[.int .i64 (powV a b), .int .i64 (powE a b)]) ∧ w = w' := by
  by_cases h : b = 0 ∨ a = 1
  · exact rp_triv a b h w
  by_cases ha : a = -1
  · exact rp_neg1 a b (by omega) ha w
  by_cases hb : b < 0
  · exact rp_under a b hb (by omega) ha w
  by_cases hz : a = 0
  · exact rp_zero a b (by omega) hz w
  · exact rp_loop a b h0 h1 g1 (by omega) (by omega) w

include h0 h1 g0 g1 in
theorem r_gcd (w : World) :
    Calls Tryd.prog 34 #[.int .i64 a, .int .i64 b] w fun e w' => e = .returned (.tuple #[.int .i64 (rV (Int.gcd a b : Nat)), .int .i64 (rE (Int.gcd a b : Nat))]) ∧ w = w' := by
  go_enter Tryd.func34, Tryd.ntmps34
  go_wp2_with fail
  go_loop [0, 1] (fun x y => ∃ p q : Int, x = .int .i64 p ∧ y = .int .i64 q ∧ -9223372036854775808 ≤ p ∧ p ≤ 9223372036854775807 ∧ -9223372036854775808 ≤ q ∧ q ≤ 9223372036854775807 ∧ Hid (Int.gcd p q = Int.gcd a b)) (fun _ y => (intOf y).natAbs)
  case atStart => exact ⟨a, b, rfl, rfl, h0, h1, g0, g1, rfl⟩
  case round =>
    obtain ⟨p, q, rfl, rfl, p0, p1, q0, q1, hg⟩ := hrel
    by_cases hq : q = 0
    · have e1 : (q == 0) = true := by simpa using hq
      have e2 : (q != 0) = false := by simpa using hq
      have H : Hid (aabs p = (Int.gcd a b : Nat)) := by
        show _ = _
        have := hg.out
        rw [hq] at this
        rw [← this, gcd_end]
      clear hq hg
      by_cases hp : p < 0
      · have H2 : Hid (rV (-p) = rV (Int.gcd a b : Nat) ∧ rE (-p) = rE (Int.gcd a b : Nat)) := by
          show _ ∧ _
          rw [← H.out, aabs, if_pos hp]; exact ⟨rfl, rfl⟩
        go_wp2_with (go_at_call 27; refine (r_neg _ p0 p1 _).mono ?_; rintro e w' ⟨rfl, rfl⟩)
        go_ret2
        exact ⟨pow_one_ret H2.out, rfl⟩
      · have H2 : Hid (p = rV (Int.gcd a b : Nat) ∧ 0 = rE (Int.gcd a b : Nat)) := by
          show _ ∧ _
          have h3 := rr_in (n := p) (by omega)
          rw [← H.out, aabs, if_neg hp]; exact h3
        go_wp2_with fail
        go_ret2
        exact ⟨pow_one_ret H2.out, rfl⟩
    · have e1 : (q == 0) = false := by simpa using hq
      have e2 : (q != 0) = true := by simpa using hq
      have r1 := tmod_range p q q0 q1 hq
      have r2 : (p.tmod q).natAbs < q.natAbs := (tmod_facts p q hq).2.1
      have H : Hid (Int.gcd q (p.tmod q) = Int.gcd a b) := by show _ = _; rw [gcd_step]; exact hg.out
      clear hg
      go_wp2_with (go_at_call 36; refine (r_rem _ _ p0 p1 q0 q1 hq _).mono ?_; rintro e w' ⟨rfl, rfl⟩)
      go_round
      case rel => exact ⟨q, p.tmod q, rfl, rfl, q0, q1, by omega, by omega, H⟩
      case measure => exact r2

theorem dbl_out (x : Int) (k : Nat) : ∀ n, inR (x * 2 ^ k) = false → inR (x * 2 ^ (k + n)) = false
  | 0, h => h
  | n + 1, h => by
    have ih := dbl_out x k n h
    rw [inR_no] at ih ⊢
    rw [show k + (n + 1) = (k + n) + 1 by omega, Int.pow_succ, ← Int.mul_assoc]
    omega

theorem rs_bad (c : Bool) (hb : b < 0 ∨ 63 < b) (w : World) :
    Calls Tryd.prog 32 #[.int .i64 a, .int .i64 b, .bool c] w fun e w' => e = .returned (.tuple #[.int .i64 0, .int .i64 12]) ∧ w = w' := by
  rcases hb with hb | hb
  · go_enter Tryd.func32, Tryd.ntmps32
    go_wp2_with fail
    go_ret2
    exact ⟨rfl, rfl⟩
  · have q : decide (b < 0) = false := by simp; omega
    go_enter Tryd.func32, Tryd.ntmps32
    go_wp2_with fail
    go_ret2
    exact ⟨rfl, rfl⟩

include h0 h1 in
theorem rs_left (b0 : 0 ≤ b) (b1 : b ≤ 63) (w : World) :
    Calls Tryd.prog 32 #[.int .i64 a, .int .i64 b, .bool true] w fun e w' => e = .returned (.tuple #[.int .i64 (rV (a * 2 ^ b.toNat)), .int .i64 (rE (a * 2 ^ b.toNat))]) ∧ w = w' := by
  have q : decide (b < 0) = false := by simp; omega
  go_enter Tryd.func32, Tryd.ntmps32
  go_wp2_with fail
  go_loop [0, 8] (fun v i => ∃ (k : Nat) (x : Int), (k : Int) ≤ b ∧ i = .int .i64 k ∧ v = .int .i64 x ∧ Hid (x = a * 2 ^ k ∧ inR x = true)) (fun _ i => b.toNat - (intOf i).toNat)
  case atStart => exact ⟨0, a, by omega, rfl, rfl, by show _ ∧ _; exact ⟨by rw [Int.pow_zero, Int.mul_one], inR_iff.2 ⟨h0, h1⟩⟩⟩
  case round =>
    obtain ⟨k, x, hk, rfl, rfl, hx⟩ := hrel
    by_cases hlt : (k : Int) < b
    · obtain ⟨x0, x1⟩ := inR_iff.1 hx.out.2
      have hst : x + x = a * 2 ^ (k + 1) := by rw [Int.pow_succ, ← Int.mul_assoc, ← hx.out.1]; omega
      cases hin : inR (x + x)
      · have H1 : Hid (rV (x + x) = 0 ∧ rE (x + x) = 10) := by show _ ∧ _; simp [rV, rE, hin]
        have H2 : Hid (0 = rV (a * 2 ^ b.toNat) ∧ rE (x + x) = rE (a * 2 ^ b.toNat)) := by
          show _ ∧ _
          rw [hst] at hin
          have ho := dbl_out a (k + 1) (b.toNat - (k + 1)) hin
          rw [show k + 1 + (b.toNat - (k + 1)) = b.toNat by omega] at ho
          rw [H1.out.2, rV, rE, ho]; exact ⟨rfl, rfl⟩
        have hq : (rE (x + x) == 0) = false := by rw [H1.out.2]; rfl
        have hq2 : (rE (x + x) != 0) = true := by rw [H1.out.2]; rfl
        clear hin hst hx
        go_wp2_with (go_at_call 30; refine (r_add _ _ x0 x1 x0 x1 _).mono ?_; rintro e w' ⟨rfl, rfl⟩)
        go_ret2
        exact ⟨pow_one_ret H2.out, rfl⟩
      · have H1 : Hid (rV (x + x) = x + x ∧ rE (x + x) = 0) := by show _ ∧ _; simp [rV, rE, hin]
        have hq : (rE (x + x) == 0) = true := by rw [H1.out.2]; rfl
        have hq2 : (rE (x + x) != 0) = false := by rw [H1.out.2]; rfl
        have H2 : Hid (rV (x + x) = a * 2 ^ (k + 1) ∧ inR (rV (x + x)) = true) := by
          show _ ∧ _
          rw [H1.out.1]; exact ⟨hst, hin⟩
        clear hin hst hx
        go_wp2_with (go_at_call 30; refine (r_add _ _ x0 x1 x0 x1 _).mono ?_; rintro e w' ⟨rfl, rfl⟩)
        go_round
        case rel => exact ⟨k + 1, _, by omega, by go_num, rfl, H2⟩
        case measure => simp [intOf]; omega
    · have H2 : Hid (x = rV (a * 2 ^ b.toNat) ∧ 0 = rE (a * 2 ^ b.toNat)) := by
        show _ ∧ _
        have hkb : k = b.toNat := by omega
        rw [← hkb, ← hx.out.1, rV, rE, hx.out.2]; exact ⟨rfl, rfl⟩
      clear hx
      go_wp2_with fail
      go_ret2
      exact ⟨pow_one_ret H2.out, rfl⟩

include h0 h1 in
theorem rs_right (b0 : 0 ≤ b) (b1 : b ≤ 63) (w : World) :
    Calls Tryd.prog 32 #[.int .i64 a, .int .i64 b, .bool false] w fun e w' => e = .returned (.tuple #[.int .i64 (a / 2 ^ b.toNat), .int .i64 0]) ∧ w = w' := by
  have q : decide (b < 0) = false := by simp; omega
  go_enter Tryd.func32, Tryd.ntmps32
  go_wp2_with fail
  go_loop [0, 8] (fun v i => ∃ (k : Nat) (x : Int), (k : Int) ≤ b ∧ i = .int .i64 k ∧ v = .int .i64 x ∧ Hid (x = a / 2 ^ k) ∧ -9223372036854775808 ≤ x ∧ x ≤ 9223372036854775807) (fun _ i => b.toNat - (intOf i).toNat)
  case atStart => exact ⟨0, a, by omega, rfl, rfl, by show _ = _; rw [Int.pow_zero, Int.ediv_one], h0, h1⟩
  case round =>
    obtain ⟨k, x, hk, rfl, rfl, hx, x0, x1⟩ := hrel
    by_cases hlt : (k : Int) < b
    · have hst : x / 2 = a / 2 ^ (k + 1) := by
        have hp : (0 : Int) ≤ 2 ^ k := Int.le_of_lt (Int.pow_pos (by omega))
        rw [Int.pow_succ, ← Int.ediv_ediv_of_nonneg hp, ← hx.out]
      have H2 : Hid (rV (fq x 2) = a / 2 ^ (k + 1)) := by
        show _ = _
        have hin : inR (x / 2) = true := inR_iff.2 (by omega)
        rw [fq_two, rV, hin, ← hst]; rfl
      have y0 : -9223372036854775808 ≤ rV (fq x 2) := by rw [H2.out, ← hst]; omega
      have y1 : rV (fq x 2) ≤ 9223372036854775807 := by rw [H2.out, ← hst]; omega
      clear hst hx
      go_wp2_with (go_at_call 37; refine (r_div _ 2 x0 x1 (by omega) (by omega) (by omega) _).mono ?_; rintro e w' ⟨rfl, rfl⟩)
      go_round
      case rel => exact ⟨k + 1, _, by omega, by go_num, rfl, H2, y0, y1⟩
      case measure => simp [intOf]; omega
    · have H2 : Hid (x = a / 2 ^ b.toNat) := by
        show _ = _
        have hkb : k = b.toNat := by omega
        rw [← hkb, hx.out]
      clear hx
      go_wp2_with fail
      go_ret2
      exact ⟨by rw [← H2.out]; rfl, rfl⟩

end
end Go.Proofs.YthfclbbmioenlaaDoor
