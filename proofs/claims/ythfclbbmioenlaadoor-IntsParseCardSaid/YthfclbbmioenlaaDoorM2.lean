/- Plain mathematics: the bitwise functions on 64-bit integers in two's complement. -/
import Derived.Test.YthfclbbmioenlaaDoorM1
import Derived.Laws.Bits128
namespace Go.Proofs.YthfclbbmioenlaaDoor
open Go.RowKit

theorem wrapI (n : Int) : IntKind.i64.wrap n = wrap64 n := by rw [IntKind.wrap_i64]; unfold wrap64; omega
theorem wrap_eq {x y : Int} (k : Int) (h : x = y + k * 18446744073709551616) : wrap64 x = wrap64 y := by subst h; unfold wrap64; omega

/-- The 64 bits of an integer, as a natural number. -/
def nat64 (a : Int) : Nat := (a % 18446744073709551616).toNat
theorem nat64_lt (a : Int) : nat64 a < 18446744073709551616 := by unfold nat64; omega
theorem nat64_eq (a : Int) : ∃ k : Int, (nat64 a : Int) = a + k * 18446744073709551616 := ⟨-(a / 18446744073709551616), by unfold nat64; omega⟩
theorem ofInt_nat (a : Int) : (BitVec.ofInt 64 a).toNat = nat64 a := by rw [BitVec.toNat_ofInt]; rfl

theorem bits_and (a b : Int) : bits .and .i64 a b = wrap64 ((nat64 a &&& nat64 b : Nat) : Int) := by
  show IntKind.i64.wrap ((BitVec.ofInt 64 a &&& BitVec.ofInt 64 b).toNat : Nat) = _
  rw [BitVec.toNat_and, ofInt_nat, ofInt_nat, wrapI]
theorem bits_or (a b : Int) : bits .or .i64 a b = wrap64 ((nat64 a ||| nat64 b : Nat) : Int) := by
  show IntKind.i64.wrap ((BitVec.ofInt 64 a ||| BitVec.ofInt 64 b).toNat : Nat) = _
  rw [BitVec.toNat_or, ofInt_nat, ofInt_nat, wrapI]
theorem bits_xor (a b : Int) : bits .xor .i64 a b = wrap64 ((nat64 a ^^^ nat64 b : Nat) : Int) := by
  show IntKind.i64.wrap ((BitVec.ofInt 64 a ^^^ BitVec.ofInt 64 b).toNat : Nat) = _
  rw [BitVec.toNat_xor, ofInt_nat, ofInt_nat, wrapI]

theorem nat_bits : ∀ (n x y : Nat), x < n → (x &&& y) + (x ||| y) = x + y ∧ (x ^^^ y) + (x &&& y) = (x ||| y)
  | 0, _, _, h => absurd h (by omega)
  | n + 1, x, y, h => by
    by_cases hx : x = 0
    · subst hx; simp
    · obtain ⟨i1, i2⟩ := nat_bits n (x / 2) (y / 2) (by omega)
      have a1 := Nat.and_div_two (a := x) (b := y)
      have a2 := Nat.or_div_two (a := x) (b := y)
      have a3 := Nat.xor_div_two (a := x) (b := y)
      have b1 : (x &&& y) % 2 = (x % 2) * (y % 2) := by
        rw [show 2 = 2 ^ 1 from rfl, Nat.and_mod_two_pow, show 2 ^ 1 = 2 from rfl]
        rcases Nat.mod_two_eq_zero_or_one x with h1 | h1 <;> rcases Nat.mod_two_eq_zero_or_one y with h2 | h2 <;> rw [h1, h2] <;> rfl
      have b2 : (x ||| y) % 2 = x % 2 + y % 2 - (x % 2) * (y % 2) := by
        rw [show 2 = 2 ^ 1 from rfl, Nat.or_mod_two_pow, show 2 ^ 1 = 2 from rfl]
        rcases Nat.mod_two_eq_zero_or_one x with h1 | h1 <;> rcases Nat.mod_two_eq_zero_or_one y with h2 | h2 <;> rw [h1, h2] <;> rfl
      have b3 : (x ^^^ y) % 2 = (x % 2 + y % 2) % 2 := by
        rw [show 2 = 2 ^ 1 from rfl, Nat.xor_mod_two_pow, show 2 ^ 1 = 2 from rfl]
        rcases Nat.mod_two_eq_zero_or_one x with h1 | h1 <;> rcases Nat.mod_two_eq_zero_or_one y with h2 | h2 <;> rw [h1, h2] <;> rfl
      rw [← a1, ← a2] at i1
      rw [← a1, ← a2, ← a3] at i2
      rcases Nat.mod_two_eq_zero_or_one x with h1 | h1 <;> rcases Nat.mod_two_eq_zero_or_one y with h2 | h2 <;> rw [h1, h2] at b1 b2 b3 <;> omega

theorem nat64_compl (a : Int) : nat64 (-1 - a) = 18446744073709551615 - nat64 a := by unfold nat64; omega
theorem nat_nor (x y : Nat) (hx : x < 18446744073709551616) (hy : y < 18446744073709551616) : (18446744073709551615 - x) &&& (18446744073709551615 - y) = 18446744073709551615 - (x ||| y) := by
  have h : (~~~(BitVec.ofNat 64 x) &&& ~~~(BitVec.ofNat 64 y)).toNat = (~~~(BitVec.ofNat 64 x ||| BitVec.ofNat 64 y)).toNat := by rw [BitVec.not_or]
  rw [BitVec.toNat_and, BitVec.toNat_not, BitVec.toNat_not, BitVec.toNat_not, BitVec.toNat_or, BitVec.toNat_ofNat, BitVec.toNat_ofNat] at h
  have e1 : x % 2 ^ 64 = x := Nat.mod_eq_of_lt hx
  have e2 : y % 2 ^ 64 = y := Nat.mod_eq_of_lt hy
  rw [e1, e2] at h
  exact h
theorem nat_xor_ones (x : Nat) (hx : x < 18446744073709551616) : 18446744073709551615 ^^^ x = 18446744073709551615 - x := by
  have h : (BitVec.allOnes 64 ^^^ BitVec.ofNat 64 x).toNat = (~~~(BitVec.ofNat 64 x)).toNat := by rw [BitVec.allOnes_xor]
  rw [BitVec.toNat_xor, BitVec.toNat_not, BitVec.toNat_allOnes, BitVec.toNat_ofNat, show x % 2 ^ 64 = x from Nat.mod_eq_of_lt hx] at h
  exact h

theorem bits_compl (a : Int) (h0 : -9223372036854775808 ≤ a) (h1 : a ≤ 9223372036854775807) : bits .xor .i64 (-1) a = -1 - a := by
  rw [bits_xor, show nat64 (-1) = 18446744073709551615 by decide, nat_xor_ones _ (nat64_lt a)]
  have := nat64_lt a
  obtain ⟨k, hk⟩ := nat64_eq a
  rw [wrap_eq (y := -1 - a) (1 - k) (by omega)]
  unfold wrap64; omega
theorem bits_one (b : Int) : bits .and .i64 b 1 = b % 2 := by
  rw [bits_and, show nat64 1 = 2 ^ 1 - 1 by decide, Nat.and_two_pow_sub_one_eq_mod]
  have := nat64_lt b
  obtain ⟨k, hk⟩ := nat64_eq b
  unfold wrap64; omega

/-- What the and and the or add up to. -/
theorem bits_sum (a b : Int) : wrap64 (bits .and .i64 a b + bits .or .i64 a b) = wrap64 (a + b) := by
  rw [bits_and, bits_or]
  obtain ⟨i, hi⟩ := wrap_mod ((nat64 a &&& nat64 b : Nat) : Int)
  obtain ⟨j, hj⟩ := wrap_mod ((nat64 a ||| nat64 b : Nat) : Int)
  obtain ⟨k, hk⟩ := nat64_eq a
  obtain ⟨l, hl⟩ := nat64_eq b
  have := (nat_bits _ (nat64 a) (nat64 b) (Nat.lt_succ_self _)).1
  exact wrap_eq (i + j + k + l) (by omega)
theorem bits_xor_of (a b : Int) : bits .xor .i64 a b = wrap64 (bits .or .i64 a b - bits .and .i64 a b) := by
  rw [bits_and, bits_or, bits_xor]
  obtain ⟨i, hi⟩ := wrap_mod ((nat64 a &&& nat64 b : Nat) : Int)
  obtain ⟨j, hj⟩ := wrap_mod ((nat64 a ||| nat64 b : Nat) : Int)
  have := (nat_bits _ (nat64 a) (nat64 b) (Nat.lt_succ_self _)).2
  exact wrap_eq (i - j) (by omega)
theorem bits_nor (a b : Int) : bits .and .i64 (-1 - a) (-1 - b) = wrap64 (-1 - bits .or .i64 a b) := by
  rw [bits_and, bits_or, nat64_compl, nat64_compl, nat_nor _ _ (nat64_lt a) (nat64_lt b)]
  obtain ⟨j, hj⟩ := wrap_mod ((nat64 a ||| nat64 b : Nat) : Int)
  have : nat64 a ||| nat64 b < 2 ^ 64 := Nat.or_lt_two_pow (nat64_lt a) (nat64_lt b)
  exact wrap_eq (1 + j) (by omega)
theorem bits_range (o : BinOp) (h : o = .and ∨ o = .or ∨ o = .xor) (a b : Int) : inR (bits o .i64 a b) = true := by
  rw [inR_iff]
  rcases h with rfl | rfl | rfl
  · rw [bits_and]; unfold wrap64; omega
  · rw [bits_or]; unfold wrap64; omega
  · rw [bits_xor]; unfold wrap64; omega

end Go.Proofs.YthfclbbmioenlaaDoor
