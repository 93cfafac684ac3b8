/- slices.ContainsFunc with Rename's test. -/
import Derived.Test.YtehnhjhflaljhaaDoorS8
namespace Go.Proofs.YtehnhjhflaljhaaDoor
open Go.RowKit Go.Proofs.HT

/-- The index of the first number that can't be shifted, or -1. -/
def badF (f : Int) : List Int → Nat → Int
  | [], _ => -1
  | x :: xs, i => if numB (x + f) = true then badF f xs (i + 1) else i
theorem badF_drop (f : Int) (xs : List Int) (j : Nat) (hj : j < xs.length) : badF f (xs.drop j) j = if numB (xs[j] + f) = true then badF f (xs.drop (j + 1)) (j + 1) else (j : Int) := by
  rw [List.drop_eq_getElem_cons hj, badF]
theorem badF_iff (f : Int) : ∀ (xs : List Int) (i : Nat), (0 ≤ badF f xs i) ↔ ¬ ∀ x ∈ xs, numB (x + f) = true
  | [], i => by simp [badF]
  | x :: xs, i => by
    have h := badF_iff f xs (i + 1)
    rw [badF]
    by_cases e : numB (x + f) = true
    · rw [if_pos e, h]; simp [e]
    · rw [if_neg e]; simp [e]

end Go.Proofs.YtehnhjhflaljhaaDoor
