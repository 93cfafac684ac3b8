/- Plain mathematics: quotients and remainders, powers, and the greatest common divisor of 64-bit integers. -/
import Derived.Test.YthfclbbmioenlaaDoorM2
namespace Go.Proofs.YthfclbbmioenlaaDoor
open Go.RowKit

def sgn (a : Int) : Int := if a < 0 then -1 else if 0 < a then 1 else 0
def aabs (a : Int) : Int := if a < 0 then -a else a
def lesser (a b : Int) : Int := if b < a then b else a
def greater (a b : Int) : Int := if a < b then b else a
/-- Does truncation make the quotient greater? -/
def rup (a b : Int) : Bool := (a.tmod b != 0) && (decide (a < 0) != decide (b < 0))
/-- The quotient rounded down, and its remainder. -/
def fq (a b : Int) : Int := if rup a b then a.tdiv b - 1 else a.tdiv b
def fm (a b : Int) : Int := if rup a b then a.tmod b + b else a.tmod b

theorem tmod_facts (a b : Int) (hb : b ≠ 0) : b * a.tdiv b + a.tmod b = a ∧ (a.tmod b).natAbs < b.natAbs ∧ (0 ≤ a → 0 ≤ a.tmod b) ∧ (a ≤ 0 → a.tmod b ≤ 0) := by
  refine ⟨Int.mul_tdiv_add_tmod a b, ?_, Int.tmod_nonneg b, fun h => by have := Int.tmod_nonneg b (show 0 ≤ -a by omega); rw [Int.neg_tmod] at this; omega⟩
  rw [Int.natAbs_tmod]; exact Nat.mod_lt _ (by omega)

theorem tdiv_neg1 (a : Int) : a.tdiv (-1) = -a := by
  rw [Int.tdiv_neg, Int.tdiv_one]
theorem tmod_neg1 (a : Int) : a.tmod (-1) = 0 := by
  have h := tmod_facts a (-1) (by omega)
  rw [tdiv_neg1] at h; omega

theorem tdiv_lt (a b : Int) (h0 : -9223372036854775808 ≤ a) (h1 : a ≤ 9223372036854775807) (hr : a.tmod b ≠ 0) (hb : b ≠ 0) : -9223372036854775807 ≤ a.tdiv b ∧ a.tdiv b ≤ 9223372036854775807 := by
  have hn : (a.tdiv b).natAbs = a.natAbs / b.natAbs := Int.natAbs_tdiv a b
  have h := tmod_facts a b hb
  have h2 : 2 ≤ b.natAbs := by omega
  have : a.natAbs / b.natAbs ≤ a.natAbs / 2 := Nat.div_le_div_left h2 (by omega)
  omega

theorem rup_ne {a b : Int} (h : rup a b = true) : a.tmod b ≠ 0 := by simp [rup] at h; exact h.1
theorem inR_fq (a b : Int) (h0 : -9223372036854775808 ≤ a) (h1 : a ≤ 9223372036854775807) (hb : b ≠ 0) : inR (fq a b) = inR (a.tdiv b) := by
  unfold fq
  cases h : rup a b
  · rfl
  · have := tdiv_lt a b h0 h1 (rup_ne h) hb
    rw [if_pos rfl, Bool.eq_iff_iff, inR_iff, inR_iff]; omega
theorem inR_tdiv (a b : Int) (h0 : -9223372036854775808 ≤ a) (h1 : a ≤ 9223372036854775807) (hb : b ≠ -1) : inR (a.tdiv b) = true := inR_iff.2 (tdiv_bd a b h0 h1 hb)
theorem tmod_range (a b : Int) (g0 : -9223372036854775808 ≤ b) (g1 : b ≤ 9223372036854775807) (hb : b ≠ 0) : -9223372036854775807 ≤ a.tmod b ∧ a.tmod b ≤ 9223372036854775807 := by
  have := tmod_facts a b hb; omega
theorem fm_range (a b : Int) (g0 : -9223372036854775808 ≤ b) (g1 : b ≤ 9223372036854775807) (hb : b ≠ 0) : -9223372036854775807 ≤ fm a b ∧ fm a b ≤ 9223372036854775807 := by
  have h := tmod_facts a b hb
  unfold fm
  cases hr : rup a b
  · simp; omega
  · simp [rup] at hr
    rw [if_pos rfl]
    obtain ⟨hr1, hr2⟩ := hr
    by_cases ha : a < 0 <;> by_cases hb : b < 0 <;> simp [ha, hb] at hr2 <;> omega
theorem fm_facts (a b : Int) (hb : b ≠ 0) : b * fq a b + fm a b = a ∧ (fm a b).natAbs < b.natAbs ∧ (0 < b → 0 ≤ fm a b) ∧ (b < 0 → fm a b ≤ 0) := by
  have h := tmod_facts a b hb
  unfold fm fq
  cases hr : rup a b
  · rw [if_neg (by simp), if_neg (by simp)]
    have hr' : a.tmod b = 0 ∨ (a < 0 ↔ b < 0) := by
      simp only [rup, Bool.and_eq_false_iff, bne_eq_false_iff_eq, decide_eq_decide] at hr; exact hr
    refine ⟨h.1, h.2.1, ?_, ?_⟩ <;> intro hb2 <;> rcases hr' with h3 | h3 <;> omega
  · rw [if_pos rfl, if_pos rfl]
    simp only [rup, Bool.and_eq_true, bne_iff_ne, ne_eq, decide_eq_decide] at hr
    obtain ⟨hr1, hr2⟩ := hr
    refine ⟨by rw [Int.mul_sub]; omega, ?_, ?_, ?_⟩ <;> omega
theorem fq_two (a : Int) : fq a 2 = a / 2 := by
  have h := fm_facts a 2 (by omega); omega

/-- Powers. -/
def powV (a b : Int) : Int :=
  if b = 0 ∨ a = 1 then 1 else if a = -1 then (if b % 2 = 0 then 1 else -1) else if b < 0 then 0 else rV (a ^ b.toNat)
def powE (a b : Int) : Int :=
  if b = 0 ∨ a = 1 then 0 else if a = -1 then 0 else if b < 0 then (if a = 0 then 11 else 12) else rE (a ^ b.toNat)

theorem pow_abs (a : Int) (k : Nat) : (a ^ k).natAbs = a.natAbs ^ k := Int.natAbs_pow a k
/-- Once out of the range, always out of it. -/
theorem pow_out (a : Int) (h2 : 2 ≤ a.natAbs) (k n : Nat) (hk : k ≤ n) (ho : inR (a ^ k) = false) : inR (a ^ n) = false := by
  rcases Nat.eq_or_lt_of_le hk with rfl | hlt
  · exact ho
  · rw [inR_no] at ho ⊢
    have h1 := pow_abs a k
    have h3 := pow_abs a n
    have h4 : a.natAbs ^ (k + 1) ≤ a.natAbs ^ n := Nat.pow_le_pow_right (by omega) (by omega)
    rw [Nat.pow_succ] at h4
    have h5 : a.natAbs ^ k * 2 ≤ a.natAbs ^ k * a.natAbs := Nat.mul_le_mul_left _ h2
    omega
theorem pow_step (a : Int) (k : Nat) : a ^ (k + 1) = a ^ k * a := Int.pow_succ a k

/-- The step of the greatest common divisor. -/
theorem gcd_step (a b : Int) : Int.gcd b (a.tmod b) = Int.gcd a b := by
  rw [Int.gcd, Int.natAbs_tmod, Int.gcd_comm a b, Int.gcd, Nat.gcd_comm, ← Nat.gcd_rec]
theorem gcd_end (a : Int) : ((Int.gcd a 0 : Nat) : Int) = aabs a := by
  unfold aabs; rw [Int.gcd_zero_right]; split <;> omega
theorem aabs_inR (a : Int) (h0 : -9223372036854775808 ≤ a) (h1 : a ≤ 9223372036854775807) : inR (aabs a) = decide (a ≠ -9223372036854775808) := by
  rw [Bool.eq_iff_iff, inR_iff]; unfold aabs; simp; split <;> omega

end Go.Proofs.YthfclbbmioenlaaDoor
