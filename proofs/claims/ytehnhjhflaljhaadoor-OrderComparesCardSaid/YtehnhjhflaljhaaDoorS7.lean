/- Canon's function. -/
import Derived.Test.YtehnhjhflaljhaaDoorS6
namespace Go.Proofs.YtehnhjhflaljhaaDoor
open Go.RowKit Go.Proofs.HT

/-- The entries of a numbering. -/
def idx : List Int → Nat → List (Int × Value)
  | [], _ => []
  | x :: xs, i => (x, .int .i64 i) :: idx xs (i + 1)
theorem idx_len : ∀ (xs : List Int) (i : Nat), (idx xs i).length = xs.length
  | [], _ => rfl
  | x :: xs, i => by simp [idx, idx_len xs]
theorem idx_snoc : ∀ (xs : List Int) (n : Int) (i : Nat), idx (xs ++ [n]) i = idx xs i ++ [(n, .int .i64 (i + xs.length : Nat))]
  | [], n, i => by simp [idx]
  | x :: xs, n, i => by simp [idx, idx_snoc xs n (i + 1)]; omega
theorem posF_cons (x : Int) (xs : List Int) (n : Int) (i : Nat) : posF (x :: xs) n i = if x = n then (i : Int) else posF xs n (i + 1) := by rw [posF]
theorem findI_idx : ∀ (xs : List Int) (n : Int) (i : Nat), findI n (idx xs i) = if posF xs n i < 0 then none else some (.int .i64 (posF xs n i))
  | [], n, i => by simp [idx, findI, posF]
  | x :: xs, n, i => by
    have h := findI_idx xs n (i + 1)
    rw [posF_cons]
    simp only [idx, findI]
    by_cases e : n = x
    · have e' : x = n := e.symm
      rw [if_pos e, if_pos e', if_neg (by omega)]
    · have e' : ¬ x = n := fun h => e h.symm
      rw [if_neg e, if_neg e', h]
theorem posF_pre : ∀ (xs ys : List Int) (n : Int) (i : Nat), ¬ posF xs n i < 0 → posF (xs ++ ys) n i = posF xs n i
  | [], ys, n, i, h => by simp [posF] at h
  | x :: xs, ys, n, i, h => by
    rw [posF_cons] at h
    rw [List.cons_append, posF_cons, posF_cons]
    by_cases e : x = n
    · rw [if_pos e, if_pos e]
    · rw [if_neg e] at h
      rw [if_neg e, if_neg e]; exact posF_pre xs ys n (i + 1) h
theorem posF_snoc : ∀ (xs : List Int) (n : Int) (i : Nat), posF xs n i < 0 → posF (xs ++ [n]) n i = i + xs.length
  | [], n, i, _ => by simp [posF]
  | x :: xs, n, i, h => by
    rw [posF_cons] at h
    rw [List.cons_append, posF_cons]
    by_cases e : x = n
    · rw [if_pos e] at h; omega
    · rw [if_neg e] at h
      rw [if_neg e, posF_snoc xs n (i + 1) h]; simp; omega
theorem posF_of_pre {xs L : List Int} {n : Int} (h : xs <+: L) (hn : n ∈ xs) : posF L n 0 = posF xs n 0 := by
  obtain ⟨ys, rfl⟩ := h
  refine posF_pre xs ys n 0 fun h => ?_
  exact (posF_iff xs n 0).1 h n hn rfl

theorem zeroI (w : World) : (zeroValue 2).run Tryd.prog w = .ok (.int .i64 0) w := by kernel_rfl

end Go.Proofs.YtehnhjhflaljhaaDoor
