/- The contracts of the small functions of chars: isChar, Digit, Unescape. -/
import Derived.Test.YtcjpbomdnjmfkaaDoorRows
import Derived.Test.YtcjpbomdnjmfkaaDoorShelf
import Derived.WalkKit
import Derived.WalkSpells
import Derived.WalkLawsBesides
namespace Go.Proofs.YtcjpbomdnjmfkaaDoor
open Go.RowKit

theorem ret_bool {a b : Bool} (h : a = b) : Ending.returned (.bool a) = .returned (.bool b) := by rw [h]
theorem ret_int {k : IntKind} {a b : Int} (h : a = b) : Ending.returned (.int k a) = .returned (.int k b) := by rw [h]
theorem ret_str {a b : ByteArray} (h : a = b) : Ending.returned (.string a) = .returned (.string b) := by rw [h]
theorem ret_ib {k : IntKind} {a b : Int} {c d : Bool} (h : a = b) (g : c = d) : Ending.returned (.tuple #[.int k a, .bool c]) = .returned (.tuple #[.int k b, .bool d]) := by rw [h, g]
theorem ret_two {a b c d : Value} (h : a = b) (g : c = d) : Ending.returned (.tuple #[a, c]) = .returned (.tuple #[b, d]) := by rw [h, g]

/-- c is a character. -/
def isC (c : Int) : Bool := decide (0 ≤ c ∧ c ≤ 255)
theorem isC_yes {c : Int} (h0 : 0 ≤ c) (h1 : c ≤ 255) : isC c = true := by simp [isC, h0, h1]
theorem isC_no {c : Int} (h : c < 0 ∨ 255 < c) : isC c = false := by simp [isC]; omega

theorem isChar_any (c : Int) (w : World) :
    Calls Tryd.prog 27 #[.int .i64 c] w fun e w' => e = .returned (.bool (isC c)) ∧ w = w' := by
  by_cases h0 : 0 ≤ c
  · by_cases h1 : c ≤ 255
    · go_enter Tryd.func27, Tryd.ntmps27
      go_wp2
      go_ret
      exact ⟨ret_bool (isC_yes h0 h1).symm, rfl⟩
    · go_enter Tryd.func27, Tryd.ntmps27
      go_wp2
      go_ret
      exact ⟨ret_bool (isC_no (by omega)).symm, rfl⟩
  · go_enter Tryd.func27, Tryd.ntmps27
    go_wp2
    go_ret
    exact ⟨ret_bool (isC_no (by omega)).symm, rfl⟩

/-- The value of a digit, or -1. -/
def digV (c : Int) : Int := if 48 ≤ c ∧ c ≤ 57 then c - 48 else if 97 ≤ c ∧ c ≤ 122 then c - 97 + 10 else if 65 ≤ c ∧ c ≤ 90 then c - 65 + 10 else -1
def digOk (c b : Int) : Bool := decide (2 ≤ b ∧ b ≤ 36 ∧ 0 ≤ digV c ∧ digV c < b)
def digR (c b : Int) : Int := if digOk c b then digV c else 0

theorem digit_no (c b : Int) (h : b < 2 ∨ 36 < b) (w : World) :
    Calls Tryd.prog 12 #[.int .i64 c, .int .i64 b] w fun e w' => e = .returned (.tuple #[.int .i64 0, .bool false]) ∧ w = w' := by
  rcases h with h | h
  · go_enter Tryd.func12, Tryd.ntmps12
    go_wp2
    go_ret2
    exact ⟨rfl, rfl⟩
  · have h2 : ¬ b < 2 := by omega
    go_enter Tryd.func12, Tryd.ntmps12
    go_wp2
    go_ret2
    exact ⟨rfl, rfl⟩

theorem digit_small (c b v : Int) (h1 : 2 ≤ b) (h2 : b ≤ 36) (hc : (48 ≤ c ∧ c ≤ 57 ∧ v = c - 48) ∨ (97 ≤ c ∧ c ≤ 122 ∧ v = c - 97 + 10) ∨ (65 ≤ c ∧ c ≤ 90 ∧ v = c - 65 + 10)) (w : World) :
    Calls Tryd.prog 12 #[.int .i64 c, .int .i64 b] w fun e w' => e = .returned (.tuple #[.int .i64 (if v < b then v else 0), .bool (decide (v < b))]) ∧ w = w' := by
  have g2 : ¬ 36 < b := by omega
  have g1 : ¬ b < 2 := by omega
  rcases hc with ⟨a1, a2, rfl⟩ | ⟨a1, a2, rfl⟩ | ⟨a1, a2, rfl⟩
  · by_cases hb : c - 48 < b
    all_goals
      go_enter Tryd.func12, Tryd.ntmps12
      go_wp2
      go_ret2
      exact ⟨by simp [hb], rfl⟩
  · have n1 : ¬ c ≤ 57 := by omega
    by_cases hb : c - 97 + 10 < b
    all_goals
      go_enter Tryd.func12, Tryd.ntmps12
      go_wp2
      go_ret2
      exact ⟨by simp [hb], rfl⟩
  · have n1 : ¬ c ≤ 57 := by omega
    have n2 : ¬ 97 ≤ c := by omega
    by_cases hb : c - 65 + 10 < b
    all_goals
      go_enter Tryd.func12, Tryd.ntmps12
      go_wp2
      go_ret2
      exact ⟨by simp [hb], rfl⟩

theorem has_any (k : Int) (m : ByteArray) (a : Addr) (c : Int) (h0 : 0 ≤ c) (h1 : c ≤ 255) (w : World) (hc : w.cell? a = some (.int .i64 c)) :
    Calls Tryd.prog 28 #[.agg #[.int .i64 k, .string m], .pointer (some a)] w fun e w' => e = .returned (.bool (decide (0 ≤ Lib.indexByte m.data.toList c.toNat.toUInt8))) ∧ Below w.heap.size w w' := by
  have hc1 : ∀ o, (w.alloc o).cell? a = some (.int .i64 c) := fun o => cell_later ((Below.refl _ _).alloc (Nat.le_refl _) o) hc
  have hw : IntKind.u8.wrap c = c := by simp [IntKind.wrap, IntKind.bits, IntKind.signed]; omega
  go_enter Tryd.func28, Tryd.ntmps28
  go_wp2_with (go_at_call 29; refine (Tryd.strings_IndexByte _ _ _).mono ?_; rintro e w' ⟨rfl, rfl⟩)

  go_ret
  exact ⟨rfl, (Below.refl _ _).alloc (Nat.le_refl _) _⟩

end Go.Proofs.YtcjpbomdnjmfkaaDoor
