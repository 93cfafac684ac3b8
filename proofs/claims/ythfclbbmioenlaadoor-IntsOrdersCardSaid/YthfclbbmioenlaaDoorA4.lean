/- The contracts of power and of the greatest common divisor. -/
import Derived.Test.YthfclbbmioenlaaDoorA3
namespace Go.Proofs.YthfclbbmioenlaaDoor
open Go.RowKit

theorem pow_one_ret {v e v' e' : Int} (h : v = v' ∧ e = e') : Ending.returned (.tuple #[.int .i64 v, .int .i64 e]) = .returned (.tuple #[.int .i64 v', .int .i64 e']) := by rw [h.1, h.2]

section
variable (a b : Int) (h0 : -9223372036854775808 ≤ a) (h1 : a ≤ 9223372036854775807) (g0 : -9223372036854775808 ≤ b) (g1 : b ≤ 9223372036854775807)

theorem pow_triv (h : b = 0 ∨ a = 1) (w : World) :
    Calls Tryd.prog 71 #[.int .i64 a, .int .i64 b] w fun e w' => e = .returned (.tuple #[.int .i64 (powV a b), .int .i64 (powE a b)]) ∧ w = w' := by
  have H : Hid (1 = powV a b ∧ 0 = powE a b) := by show _ ∧ _; rw [powV, powE, if_pos h, if_pos h]; exact ⟨rfl, rfl⟩
  by_cases hb : b = 0
  · have q1 : (b == 0) = true := by simpa using hb
    clear h hb
    go_enter Tryd.func71, Tryd.ntmps71
    go_wp2
    go_ret2
    exact ⟨pow_one_ret H.out, rfl⟩
  · have q1 : (b == 0) = false := by simpa using hb
    have q2 : (a == 1) = true := by simpa using h.resolve_left hb
    clear h hb
    go_enter Tryd.func71, Tryd.ntmps71
    go_wp2
    go_ret2
    exact ⟨pow_one_ret H.out, rfl⟩

theorem pow_neg1 (hb : b ≠ 0) (ha : a = -1) (w : World) :
    Calls Tryd.prog 71 #[.int .i64 a, .int .i64 b] w fun e w' => e = .returned (.tuple #[.int .i64 (powV a b), .int .i64 (powE a b)]) ∧ w = w' := by
  have H : Hid (1 - 2 * (b % 2) = powV a b ∧ 0 = powE a b) := by
    show _ ∧ _
    have h : ¬ (b = 0 ∨ a = 1) := by omega
    rw [powV, powE, if_neg h, if_neg h, if_pos ha, if_pos ha]
    refine ⟨?_, rfl⟩
    split <;> omega
  have q1 : (b == 0) = false := by simpa using hb
  have q2 : (a == 1) = false := by simp; omega
  have q3 : (a == -1) = true := by simpa using ha
  have e1 := bits_one b
  clear ha hb
  go_enter Tryd.func71, Tryd.ntmps71
  go_wp2
  go_ret2
  exact ⟨pow_one_ret H.out, rfl⟩

theorem pow_under (hb : b < 0) (ha1 : a ≠ 1) (ha : a ≠ -1) (w : World) :
    Calls Tryd.prog 71 #[.int .i64 a, .int .i64 b] w fun e w' => e = .returned (.tuple #[.int .i64 (powV a b), .int .i64 (powE a b)]) ∧ w = w' := by
  have h : ¬ (b = 0 ∨ a = 1) := by omega
  have q1 : (b == 0) = false := by simp; omega
  have q2 : (a == 1) = false := by simpa using ha1
  have q3 : (a == -1) = false := by simpa using ha
  by_cases hz : a = 0
  · have H : Hid (0 = powV a b ∧ 11 = powE a b) := by
      show _ ∧ _
      rw [powV, powE, if_neg h, if_neg h, if_neg ha, if_neg ha, if_pos hb, if_pos hb, if_pos hz]; exact ⟨rfl, rfl⟩
    have q4 : (a == 0) = true := by simpa using hz
    clear ha ha1 h hz
    go_enter Tryd.func71, Tryd.ntmps71
    go_wp2
    go_ret2
    exact ⟨pow_one_ret H.out, rfl⟩
  · have H : Hid (0 = powV a b ∧ 12 = powE a b) := by
      show _ ∧ _
      rw [powV, powE, if_neg h, if_neg h, if_neg ha, if_neg ha, if_pos hb, if_pos hb, if_neg hz]; exact ⟨rfl, rfl⟩
    have q4 : (a == 0) = false := by simpa using hz
    clear ha ha1 h hz
    go_enter Tryd.func71, Tryd.ntmps71
    go_wp2
    go_ret2
    exact ⟨pow_one_ret H.out, rfl⟩

theorem pow_zero (hb : 0 < b) (ha : a = 0) (w : World) :
    Calls Tryd.prog 71 #[.int .i64 a, .int .i64 b] w fun e w' => e = .returned (.tuple #[.int .i64 (powV a b), .int .i64 (powE a b)]) ∧ w = w' := by
  have H : Hid (0 = powV a b ∧ 0 = powE a b) := by
    show _ ∧ _
    rw [powV, powE, if_neg (by omega), if_neg (by omega), if_neg (by omega), if_neg (by omega), if_neg (by omega), if_neg (by omega), ha]
    rw [Int.zero_pow (by omega)]
    simp [rV, rE, inR]
  have q1 : (b == 0) = false := by simp; omega
  have q2 : (a == 1) = false := by simp; omega
  have q3 : (a == -1) = false := by simp; omega
  have q4 : (a == 0) = true := by simpa using ha
  clear ha
  go_enter Tryd.func71, Tryd.ntmps71
  go_wp2
  go_ret2
  exact ⟨pow_one_ret H.out, rfl⟩

include h0 h1 g1 in
theorem pow_loop (hb : 0 < b) (ha : 2 ≤ a.natAbs) (w : World) :
    Calls Tryd.prog 71 #[.int .i64 a, .int .i64 b] w fun e w' => e = .returned (.tuple #[.int .i64 (powV a b), .int .i64 (powE a b)]) ∧ w = w' := by
  have HV : Hid (powV a b = rV (a ^ b.toNat) ∧ powE a b = rE (a ^ b.toNat)) := by
    show _ ∧ _
    rw [powV, powE, if_neg (by omega), if_neg (by omega), if_neg (by omega), if_neg (by omega), if_neg (by omega), if_neg (by omega)]; exact ⟨rfl, rfl⟩
  have q1 : (b == 0) = false := by simp; omega
  have q2 : (a == 1) = false := by simp; omega
  have q3 : (a == -1) = false := by simp; omega
  have q4 : (a == 0) = false := by simp; omega
  have HA := Lib.hid ha
  clear ha
  go_enter Tryd.func71, Tryd.ntmps71
  go_wp2_with fail
  go_loop [4, 34] (fun v i => ∃ (k : Nat) (x : Int), (k : Int) ≤ b ∧ i = .int .i64 k ∧ v = .int .i64 x ∧ Hid (x = a ^ k ∧ inR x = true)) (fun _ i => b.toNat - (intOf i).toNat)
  case atStart => exact ⟨0, 1, by omega, rfl, rfl, by show _ ∧ _; simp [inR]⟩
  case round =>
    obtain ⟨k, x, hk, rfl, rfl, hx⟩ := hrel
    by_cases hlt : (k : Int) < b
    · obtain ⟨x0, x1⟩ := inR_iff.1 hx.out.2
      cases hin : inR (x * a)
      · have H1 : Hid (rV (x * a) = 0 ∧ rE (x * a) = 10) := by show _ ∧ _; simp [rV, rE, hin]
        have H2 : Hid (0 = powV a b ∧ rE (x * a) = powE a b) := by
          show _ ∧ _
          have hx2 := hx.out.1
          have ho : inR (a ^ b.toNat) = false := pow_out a HA.out (k + 1) _ (by omega) (by rw [pow_step, ← hx2]; exact hin)
          rw [H1.out.2, HV.out.1, HV.out.2, rV, rE, ho]; exact ⟨rfl, rfl⟩
        have hq : (rE (x * a) == 0) = false := by rw [H1.out.2]; rfl
        have hq2 : (rE (x * a) != 0) = true := by rw [H1.out.2]; rfl
        clear hin
        go_wp2_with (go_at_call 59; refine (mul_any _ _ x0 x1 h0 h1 _).mono ?_; rintro e w' ⟨rfl, rfl⟩)
        go_ret2
        exact ⟨pow_one_ret H2.out, rfl⟩
      · have H1 : Hid (rV (x * a) = x * a ∧ rE (x * a) = 0) := by show _ ∧ _; simp [rV, rE, hin]
        have hq : (rE (x * a) == 0) = true := by rw [H1.out.2]; rfl
        have hq2 : (rE (x * a) != 0) = false := by rw [H1.out.2]; rfl
        have H2 : Hid (rV (x * a) = a ^ (k + 1) ∧ inR (rV (x * a)) = true) := by
          show _ ∧ _
          rw [H1.out.1, pow_step, ← hx.out.1]; exact ⟨rfl, hin⟩
        clear hin
        go_wp2_with (go_at_call 59; refine (mul_any _ _ x0 x1 h0 h1 _).mono ?_; rintro e w' ⟨rfl, rfl⟩)
        go_round
        case rel => exact ⟨k + 1, _, by omega, by go_num, rfl, H2⟩
        case measure => simp [intOf]; omega
    · have H2 : Hid (x = powV a b ∧ 0 = powE a b) := by
        show _ ∧ _
        have hkb : k = b.toNat := by omega
        rw [HV.out.1, HV.out.2, ← hkb, ← hx.out.1, rV, rE, hx.out.2]; exact ⟨rfl, rfl⟩
      clear hx
      go_wp2
      go_ret2
      exact ⟨pow_one_ret H2.out, rfl⟩

include h0 h1 g1 in
theorem power_any (w : World) :
    Calls Tryd.prog 71 #[.int .i64 a, .int .i64 b] w fun e w' => e = .returned (.tuple #[.int .i64 (powV a b), .int .i64 (powE a b)]) ∧ w = w' := by
  by_cases h : b = 0 ∨ a = 1
  · exact pow_triv a b h w
  by_cases ha : a = -1
  · exact pow_neg1 a b (by omega) ha w
  by_cases hb : b < 0
  · exact pow_under a b hb (by omega) ha w
  by_cases hz : a = 0
  · exact pow_zero a b (by omega) hz w
  · exact pow_loop a b h0 h1 g1 (by omega) (by omega) w

end

theorem below_drewN {w : World} {n : Nat} : Below w.heap.size w (w.drewN n) := by
  refine ⟨?_, ?_, ?_, Nat.le_refl _, fun _ _ => ?_⟩ <;> simp [World.drewN]

theorem drew_more {w wr : World} (h : Hid (∃ n, wr = w.drewN n)) : Hid (∃ n, wr.drew = w.drewN n) := by
  obtain ⟨n, rfl⟩ := h.out
  exact ⟨n + 1, by simp [World.drewN, World.drew, Nat.add_assoc]⟩

theorem gcd_any (a b : Int) (h0 : -9223372036854775808 ≤ a) (h1 : a ≤ 9223372036854775807) (g0 : -9223372036854775808 ≤ b) (g1 : b ≤ 9223372036854775807) (w : World) :
    Calls Tryd.prog 72 #[.int .i64 a, .int .i64 b] w fun e w' => e = .returned (.tuple #[.int .i64 (rV (Int.gcd a b : Nat)), .int .i64 (rE (Int.gcd a b : Nat))]) ∧ ∃ n, w' = w.drewN n := by
  go_enter Tryd.func72, Tryd.ntmps72
  go_wp2_with fail
  go_loopw [0, 1] (fun x y wr => ∃ p q : Int, x = .int .i64 p ∧ y = .int .i64 q ∧ -9223372036854775808 ≤ p ∧ p ≤ 9223372036854775807 ∧ -9223372036854775808 ≤ q ∧ q ≤ 9223372036854775807 ∧ Hid (Int.gcd p q = Int.gcd a b) ∧ Hid (∃ n, wr = w.drewN n)) (fun _ y _ => (intOf y).natAbs)
  case atStart => exact ⟨a, b, rfl, rfl, h0, h1, g0, g1, rfl, 0, rfl⟩
  case round =>
    obtain ⟨p, q, rfl, rfl, p0, p1, q0, q1, hg, hn⟩ := hrel
    by_cases hq : q = 0
    · have e1 : (q == 0) = true := by simpa using hq
      have e2 : (q != 0) = false := by simpa using hq
      have H : Hid (aabs p = (Int.gcd a b : Nat)) := by
        show _ = _
        have := hg.out
        rw [hq] at this
        rw [← this, gcd_end]
      clear hq hg
      go_wp2_with (go_at_call 48; refine (abs_any _ p0 p1 _).mono ?_; rintro e w' ⟨rfl, rfl⟩)
      go_ret2
      exact ⟨by rw [H.out]; rfl, hn.out⟩
    · have e1 : (q == 0) = false := by simpa using hq
      have e2 : (q != 0) = true := by simpa using hq
      have r1 := tmod_range p q q0 q1 hq
      have r2 : (p.tmod q).natAbs < q.natAbs := (tmod_facts p q hq).2.1
      have H : Hid (Int.gcd q (p.tmod q) = Int.gcd a b) := by show _ = _; rw [gcd_step]; exact hg.out
      clear hg
      go_wp2_with fail
      go_region
      all_goals
        go_wp2
        go_roundw
        case rel => exact ⟨q, p.tmod q, rfl, rfl, q0, q1, by omega, by omega, H, drew_more hn⟩
        case measure => exact r2

end Go.Proofs.YthfclbbmioenlaaDoor
