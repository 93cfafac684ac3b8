/- Plain mathematics: sums, differences, negatives, products and quotients of 64-bit integers, and when they overflow. -/
import Derived.IntWalk
namespace Go.Proofs.YthfclbbmioenlaaDoor
open Go.RowKit

def inR (n : Int) : Bool := decide (-9223372036854775808 ≤ n ∧ n ≤ 9223372036854775807)
/-- A value that fits, or 0; its error: 10 if it does not fit. -/
def rV (n : Int) : Int := if inR n then n else 0
def rE (n : Int) : Int := if inR n then 0 else 10
def ckV (v : Int) (c : Bool) : Int := if c then v else 0
def ckE (c : Bool) : Int := if c then 0 else 10

theorem inR_iff {n : Int} : inR n = true ↔ -9223372036854775808 ≤ n ∧ n ≤ 9223372036854775807 := by simp [inR]
theorem inR_no {n : Int} : inR n = false ↔ ¬ (-9223372036854775808 ≤ n ∧ n ≤ 9223372036854775807) := by simp [inR]

theorem ck_of {v n : Int} {c : Bool} (h1 : c = inR n) (h2 : inR n = true → v = n) : ckV v c = rV n ∧ ckE c = rE n := by
  subst h1
  unfold ckV ckE rV rE
  cases h : inR n
  · simp
  · simp [h2 h]

theorem wrap_of {n : Int} (h : inR n = true) : wrap64 n = n := by
  rw [inR_iff] at h
  unfold wrap64; omega

theorem ck_neg (a : Int) (h0 : -9223372036854775808 ≤ a) (h1 : a ≤ 9223372036854775807) : ckV (wrap64 (-a)) (a != -9223372036854775808) = rV (-a) ∧ ckE (a != -9223372036854775808) = rE (-a) := by
  refine ck_of ?_ wrap_of
  rw [Bool.eq_iff_iff, inR_iff]; simp; omega

theorem ck_sum (a b : Int) (h0 : -9223372036854775808 ≤ a) (h1 : a ≤ 9223372036854775807) (g0 : -9223372036854775808 ≤ b) (g1 : b ≤ 9223372036854775807) :
    ckV (wrap64 (a + b)) (decide (wrap64 (a + b) < a) == decide (b < 0)) = rV (a + b) ∧ ckE (decide (wrap64 (a + b) < a) == decide (b < 0)) = rE (a + b) := by
  refine ck_of ?_ wrap_of
  rw [Bool.eq_iff_iff, inR_iff, beq_iff_eq, decide_eq_decide]; unfold wrap64; omega

theorem ck_dif (a b : Int) (h0 : -9223372036854775808 ≤ a) (h1 : a ≤ 9223372036854775807) (g0 : -9223372036854775808 ≤ b) (g1 : b ≤ 9223372036854775807) :
    ckV (wrap64 (a - b)) (decide (a < wrap64 (a - b)) == decide (b < 0)) = rV (a - b) ∧ ckE (decide (a < wrap64 (a - b)) == decide (b < 0)) = rE (a - b) := by
  refine ck_of ?_ wrap_of
  rw [Bool.eq_iff_iff, inR_iff, beq_iff_eq, decide_eq_decide]; unfold wrap64; omega

/-- |x quo a| is not greater than |x|, and less where a is not 1 or -1. -/
theorem tdiv_bd (x a : Int) (hx0 : -9223372036854775808 ≤ x) (hx1 : x ≤ 9223372036854775807) (h : a ≠ -1) : -9223372036854775808 ≤ x.tdiv a ∧ x.tdiv a ≤ 9223372036854775807 := by
  have hn : (x.tdiv a).natAbs = x.natAbs / a.natAbs := Int.natAbs_tdiv x a
  have hle : (x.tdiv a).natAbs ≤ x.natAbs := hn ▸ Nat.div_le_self _ _
  rcases Int.le_total 0 x with hx | hx
  · omega
  · by_cases h1 : a = 1
    · subst h1; rw [Int.tdiv_one]; omega
    by_cases h2 : a = 0
    · subst h2; rw [Int.tdiv_zero]; omega
    have : x.natAbs / a.natAbs ≤ x.natAbs / 2 := Nat.div_le_div_left (by omega) (by omega)
    omega

/-- The product was exact just if the quotient gives the factor back. -/
theorem mul_back (a b : Int) (_h0 : -9223372036854775808 ≤ a) (_h1 : a ≤ 9223372036854775807) (_g0 : -9223372036854775808 ≤ b) (_g1 : b ≤ 9223372036854775807) (hz : a ≠ 0) (hm : a ≠ -1) :
    (wrap64 (a * b)).tdiv a = b ↔ inR (a * b) = true := by
  constructor
  · intro h
    have hw : -9223372036854775808 ≤ wrap64 (a * b) ∧ wrap64 (a * b) ≤ 9223372036854775807 := by unfold wrap64; omega
    obtain ⟨k, hk⟩ : ∃ k : Int, wrap64 (a * b) = a * b + k * 18446744073709551616 := ⟨-((a * b + 9223372036854775808) / 18446744073709551616), by unfold wrap64; omega⟩
    have e1 : a * ((wrap64 (a * b)).tdiv a) + (wrap64 (a * b)).tmod a = wrap64 (a * b) := Int.mul_tdiv_add_tmod _ _
    rw [h] at e1
    have e2 : (wrap64 (a * b)).tmod a = k * 18446744073709551616 := by omega
    have e3 : ((wrap64 (a * b)).tmod a).natAbs < a.natAbs := by
      rw [Int.natAbs_tmod]; exact Nat.mod_lt _ (by omega)
    have : k = 0 := by omega
    subst this
    rw [inR_iff]
    omega
  · intro h
    rw [wrap_of h]
    exact Int.mul_tdiv_cancel_left b hz

theorem ck_mul (a b : Int) (h0 : -9223372036854775808 ≤ a) (h1 : a ≤ 9223372036854775807) (g0 : -9223372036854775808 ≤ b) (g1 : b ≤ 9223372036854775807) (hz : a ≠ 0) (hm : a ≠ -1) :
    ckV (wrap64 (a * b)) (wrap64 ((wrap64 (a * b)).tdiv a) == b) = rV (a * b) ∧ ckE (wrap64 ((wrap64 (a * b)).tdiv a) == b) = rE (a * b) := by
  refine ck_of ?_ wrap_of
  have hw : -9223372036854775808 ≤ wrap64 (a * b) ∧ wrap64 (a * b) ≤ 9223372036854775807 := by unfold wrap64; omega
  rw [wrap_of (inR_iff.2 (tdiv_bd _ a hw.1 hw.2 hm)), Bool.eq_iff_iff, beq_iff_eq]
  exact mul_back a b h0 h1 g0 g1 hz hm

theorem wrap_mod (n : Int) : ∃ k : Int, wrap64 n = n + k * 18446744073709551616 := ⟨-((n + 9223372036854775808) / 18446744073709551616), by unfold wrap64; omega⟩

theorem shl_back (a p : Int) (hp : 0 < p) (hp2 : p ≤ 9223372036854775808) : wrap64 (a * p) / p = a ↔ inR (a * p) = true := by
  constructor
  · intro h
    have hw : -9223372036854775808 ≤ wrap64 (a * p) ∧ wrap64 (a * p) ≤ 9223372036854775807 := by unfold wrap64; omega
    obtain ⟨k, hk⟩ := wrap_mod (a * p)
    have e1 : p * (wrap64 (a * p) / p) + wrap64 (a * p) % p = wrap64 (a * p) := Int.mul_ediv_add_emod _ _
    rw [h, Int.mul_comm p a] at e1
    have e2 := Int.emod_nonneg (wrap64 (a * p)) (show p ≠ 0 by omega)
    have e3 := Int.emod_lt_of_pos (wrap64 (a * p)) hp
    have : k = 0 := by omega
    subst this
    rw [inR_iff]
    omega
  · intro h
    rw [wrap_of h]
    exact Int.mul_ediv_cancel a (by omega)

theorem pow_bd (b : Int) (h : b ≤ 63) : (0 : Int) < 2 ^ b.toNat ∧ (2 : Int) ^ b.toNat ≤ 9223372036854775808 := by
  have h1 : (2 : Nat) ^ b.toNat ≤ 2 ^ 63 := Nat.pow_le_pow_right (by omega) (by omega)
  have h2 : 0 < (2 : Nat) ^ b.toNat := Nat.pow_pos (by omega)
  have h3 : ((2 ^ b.toNat : Nat) : Int) = (2 : Int) ^ b.toNat := by simp
  rw [← h3]
  simp only [Nat.reducePow] at h1
  omega

/-- A shift to the left, undone by a shift to the right. -/
theorem ck_shl (a b : Int) (hb : b ≤ 63) :
    ckV (wrap64 (a * 2 ^ b.toNat)) (wrap64 (a * 2 ^ b.toNat) / 2 ^ b.toNat == a) = rV (a * 2 ^ b.toNat) ∧ ckE (wrap64 (a * 2 ^ b.toNat) / 2 ^ b.toNat == a) = rE (a * 2 ^ b.toNat) := by
  refine ck_of ?_ wrap_of
  rw [Bool.eq_iff_iff, beq_iff_eq]
  obtain ⟨h1, h2⟩ := pow_bd b hb
  exact shl_back a _ h1 h2

end Go.Proofs.YthfclbbmioenlaaDoor
