/- The contracts of the program's isNumber, isProper, Var, Int, atom, structure. -/
import Derived.Test.YtehnhjhflaljhaaDoorRC
namespace Go.Proofs.YtehnhjhflaljhaaDoor
open Go.RowKit Go.Proofs.HT

/-- Is it the number of a variable? -/
def numB (n : Int) : Bool := decide (0 ≤ n ∧ n ≤ 1099511627776)
theorem numB_iff {n : Int} : numB n = true ↔ 0 ≤ n ∧ n ≤ 1099511627776 := by simp [numB]
theorem numB_not {n : Int} : numB n = false ↔ ¬ (0 ≤ n ∧ n ≤ 1099511627776) := by rw [← numB_iff]; simp

set_option maxHeartbeats 1000000 in
theorem isNumber_any (n : Int) (w : World) : Calls Tryd.prog 76 #[.int .i64 n] w fun e w' => e = .returned (.bool (numB n)) ∧ w = w' := by
  by_cases h : 0 ≤ n
  · by_cases h2 : n ≤ 1099511627776
    all_goals
      go_enter Tryd.func76, Tryd.ntmps76
      go_wp2_with fail
      go_ret
      exact ⟨ret_bool (by rw [Bool.eq_iff_iff, numB_iff]; simp; omega), rfl⟩
  · go_enter Tryd.func76, Tryd.ntmps76
    go_wp2_with fail
    go_ret
    exact ⟨ret_bool (by rw [Bool.eq_iff_iff, numB_iff]; simp; omega), rfl⟩

theorem zero_or (n : Int) : n = 0 ∨ ((n == 0) = false ∧ ¬ n = 0) := by by_cases h : n = 0 <;> simp [h]
theorem numB_zero : numB 0 = true := by simp [numB]

set_option maxHeartbeats 1000000 in
theorem isProper_0 (n : Int) (s : ByteArray) (a : Option Addr) (l cap : Nat) (w : World) :
    Calls Tryd.prog 58 #[.agg #[.int .i64 0, .int .i64 n, .string s, .slice a l cap]] w fun e w' => e = .returned (.bool (nodeB 0 n s l)) ∧ Below w.heap.size w w' := by
  have fr : ∀ o, Below w.heap.size w (w.alloc o) := fun o => (Below.refl _ _).alloc (Nat.le_refl _) _
  have hc4 : (l : Int) = 0 ∨ ((l : Int) == 0) = false ∧ ¬ (l : Int) = 0 := by by_cases h : (l : Int) = 0 <;> simp [h] <;> omega
  rcases Bool.eq_false_or_eq_true (numB n) with hb | hb
  · have hb1 := numB_iff.1 hb
    rcases zero_or n with rfl | ⟨hn, hn'⟩
    any_goals rcases (show (s.size : Int) ≤ 100 ∨ ¬ (s.size : Int) ≤ 100 by omega) with c2 | c2
    all_goals rcases (show s.size = 0 ∨ ¬ s.size = 0 by omega) with e | e
    any_goals have e3 := emp_of e
    any_goals have e3 := not_emp e
    all_goals rcases hc4 with c4 | ⟨c4, c5⟩
    all_goals try (exfalso; omega)
    all_goals
      go_enter Tryd.func58, Tryd.ntmps58
      go_wp2_with (go_at_call 76; refine (isNumber_any _ _).mono ?_; rintro e w' ⟨rfl, rfl⟩)
      all_goals
        go_ret
        exact ⟨ret_bool (by rw [Bool.eq_iff_iff]; simp [nodeB, *]; try omega), fr _⟩
  · have hb1 := numB_not.1 hb
    rcases zero_or n with rfl | ⟨hn, hn'⟩
    · exact absurd hb (by simp [numB])
    · go_enter Tryd.func58, Tryd.ntmps58
      go_wp2_with (go_at_call 76; refine (isNumber_any _ _).mono ?_; rintro e w' ⟨rfl, rfl⟩)
      go_ret
      exact ⟨ret_bool (by rw [Bool.eq_iff_iff]; simp [nodeB]; omega), fr _⟩

set_option maxHeartbeats 1000000 in
theorem isProper_1 (n : Int) (s : ByteArray) (a : Option Addr) (l cap : Nat) (w : World) :
    Calls Tryd.prog 58 #[.agg #[.int .i64 1, .int .i64 n, .string s, .slice a l cap]] w fun e w' => e = .returned (.bool (nodeB 1 n s l)) ∧ Below w.heap.size w w' := by
  have fr : ∀ o, Below w.heap.size w (w.alloc o) := fun o => (Below.refl _ _).alloc (Nat.le_refl _) _
  rcases zero_or n with rfl | ⟨hn, hn'⟩
  any_goals rcases (show (s.size : Int) ≤ 100 ∨ ¬ (s.size : Int) ≤ 100 by omega) with c2 | c2
  any_goals (rcases (show s.size = 0 ∨ ¬ s.size = 0 by omega) with e | e)
  any_goals have e3 := emp_of e
  any_goals have e3 := not_emp e
  all_goals rcases (show (l : Int) = 0 ∨ ((l : Int) == 0) = false ∧ ¬ (l : Int) = 0 by by_cases h : (l : Int) = 0 <;> simp [h] <;> omega) with c4 | ⟨c4, c5⟩
  all_goals try (exfalso; omega)
  all_goals
    go_enter Tryd.func58, Tryd.ntmps58
    go_wp2_with (go_at_call 76; refine (isNumber_any _ _).mono ?_; rintro e w' ⟨rfl, rfl⟩)
    all_goals
      go_ret
      exact ⟨ret_bool (by rw [Bool.eq_iff_iff]; simp [nodeB, *]; try omega), fr _⟩

set_option maxHeartbeats 1000000 in
theorem isProper_2 (n : Int) (s : ByteArray) (a : Option Addr) (l cap : Nat) (w : World) :
    Calls Tryd.prog 58 #[.agg #[.int .i64 2, .int .i64 n, .string s, .slice a l cap]] w fun e w' => e = .returned (.bool (nodeB 2 n s l)) ∧ Below w.heap.size w w' := by
  have fr : ∀ o, Below w.heap.size w (w.alloc o) := fun o => (Below.refl _ _).alloc (Nat.le_refl _) _
  rcases zero_or n with rfl | ⟨hn, hn'⟩
  any_goals rcases (show (s.size : Int) ≤ 100 ∨ ¬ (s.size : Int) ≤ 100 by omega) with c2 | c2
  all_goals rcases (show (l : Int) = 0 ∨ ((l : Int) == 0) = false ∧ ¬ (l : Int) = 0 by by_cases h : (l : Int) = 0 <;> simp [h] <;> omega) with c4 | ⟨c4, c5⟩
  all_goals try (exfalso; omega)
  all_goals
    go_enter Tryd.func58, Tryd.ntmps58
    go_wp2_with (go_at_call 76; refine (isNumber_any _ _).mono ?_; rintro e w' ⟨rfl, rfl⟩)
    all_goals
      go_ret
      exact ⟨ret_bool (by rw [Bool.eq_iff_iff]; simp [nodeB, *]; try omega), fr _⟩

set_option maxHeartbeats 1000000 in
theorem isProper_3 (n : Int) (s : ByteArray) (a : Option Addr) (l cap : Nat) (w : World) :
    Calls Tryd.prog 58 #[.agg #[.int .i64 3, .int .i64 n, .string s, .slice a l cap]] w fun e w' => e = .returned (.bool (nodeB 3 n s l)) ∧ Below w.heap.size w w' := by
  have fr : ∀ o, Below w.heap.size w (w.alloc o) := fun o => (Below.refl _ _).alloc (Nat.le_refl _) _
  rcases zero_or n with rfl | ⟨hn, hn'⟩
  any_goals rcases (show (s.size : Int) ≤ 100 ∨ ¬ (s.size : Int) ≤ 100 by omega) with c2 | c2
  all_goals rcases (show (1 : Int) ≤ l ∨ ¬ (1 : Int) ≤ l by omega) with c4 | c4
  all_goals try (exfalso; omega)
  all_goals
    go_enter Tryd.func58, Tryd.ntmps58
    go_wp2_with (go_at_call 76; refine (isNumber_any _ _).mono ?_; rintro e w' ⟨rfl, rfl⟩)
    all_goals
      go_ret
      exact ⟨ret_bool (by rw [Bool.eq_iff_iff]; simp [nodeB, *]; try omega), fr _⟩

set_option maxHeartbeats 1000000 in
theorem isProper_4 (k n : Int) (s : ByteArray) (a : Option Addr) (l cap : Nat) (w : World) (h0 : ¬ k = 0) (h1 : ¬ k = 1) (h2 : ¬ k = 2) (h3 : ¬ k = 3) :
    Calls Tryd.prog 58 #[.agg #[.int .i64 k, .int .i64 n, .string s, .slice a l cap]] w fun e w' => e = .returned (.bool (nodeB k n s l)) ∧ Below w.heap.size w w' := by
  have fr : ∀ o, Below w.heap.size w (w.alloc o) := fun o => (Below.refl _ _).alloc (Nat.le_refl _) _
  rcases zero_or n with rfl | ⟨hn, hn'⟩
  any_goals rcases (show (s.size : Int) ≤ 100 ∨ ¬ (s.size : Int) ≤ 100 by omega) with c2 | c2
  all_goals try (exfalso; omega)
  all_goals
    go_enter Tryd.func58, Tryd.ntmps58
    go_wp2_with (go_at_call 76; refine (isNumber_any _ _).mono ?_; rintro e w' ⟨rfl, rfl⟩)
    all_goals
      go_ret
      exact ⟨ret_bool (by rw [Bool.eq_iff_iff]; simp [nodeB, *]; try omega), fr _⟩

theorem isProper_raw (k n : Int) (s : ByteArray) (a : Option Addr) (l cap : Nat) (w : World) :
    Calls Tryd.prog 58 #[.agg #[.int .i64 k, .int .i64 n, .string s, .slice a l cap]] w fun e w' => e = .returned (.bool (nodeB k n s l)) ∧ Below w.heap.size w w' := by
  by_cases h0 : k = 0
  · subst h0; exact isProper_0 n s a l cap w
  by_cases h1 : k = 1
  · subst h1; exact isProper_1 n s a l cap w
  by_cases h2 : k = 2
  · subst h2; exact isProper_2 n s a l cap w
  by_cases h3 : k = 3
  · subst h3; exact isProper_3 n s a l cap w
  exact isProper_4 k n s a l cap w h0 h1 h2 h3

end Go.Proofs.YtehnhjhflaljhaaDoor

/- The contracts of the program's Var, Int, atom, structure. -/
namespace Go.Proofs.YtehnhjhflaljhaaDoor
open Go.RowKit Go.Proofs.HT

/-- A term's value by its parts. -/
abbrev pv (k n : Int) (s : ByteArray) (v : Value) : Value := .agg #[.int .i64 k, .int .i64 n, .string s, v]
abbrev zv : Value := pv 0 0 ⟨#[]⟩ (.slice none 0 0)

set_option maxHeartbeats 1000000 in
theorem structure_any (s : ByteArray) (a : Option Addr) (l cap : Nat) (w : World) :
    Calls Tryd.prog 84 #[.string s, .slice a l cap] w fun e w' => e = .returned (pv 3 0 s (.slice a l cap)) ∧ Below w.heap.size w w' := by
  have fr : ∀ o, Below w.heap.size w (w.alloc o) := fun o => (Below.refl _ _).alloc (Nat.le_refl _) _
  go_enter Tryd.func84, Tryd.ntmps84
  go_wp2_with fail
  exact bodyPost_ret (v := pv 3 0 s (.slice a l cap)) (by simp [results, Tryd.results84, go_sem]) rfl ⟨rfl, fr _⟩

set_option maxHeartbeats 1000000 in
theorem Var_yes (n : Int) (w : World) (h : numB n = true) :
    Calls Tryd.prog 82 #[.int .i64 n] w fun e w' => e = .returned (pv 0 n ⟨#[]⟩ (.slice none 0 0)) ∧ Below w.heap.size w w' := by
  have fr : ∀ o, Below w.heap.size w (w.alloc o) := fun o => (Below.refl _ _).alloc (Nat.le_refl _) _
  go_enter Tryd.func82, Tryd.ntmps82
  go_wp2_with (go_at_call 76; refine (isNumber_any _ _).mono ?_; rintro e w' ⟨rfl, rfl⟩)
  exact bodyPost_ret (v := pv 0 n ⟨#[]⟩ (.slice none 0 0)) (by simp [results, Tryd.results82, go_sem]) rfl ⟨rfl, fr _⟩

set_option maxHeartbeats 1000000 in
theorem Var_no (n : Int) (w : World) (h : numB n = false) :
    Calls Tryd.prog 82 #[.int .i64 n] w fun e w' => e = .returned zv ∧ Below w.heap.size w w' := by
  have fr : ∀ o, Below w.heap.size w (w.alloc o) := fun o => (Below.refl _ _).alloc (Nat.le_refl _) _
  go_enter Tryd.func82, Tryd.ntmps82
  go_wp2_with (go_at_call 76; refine (isNumber_any _ _).mono ?_; rintro e w' ⟨rfl, rfl⟩)
  exact bodyPost_ret (v := zv) (by simp [results, Tryd.results82, go_sem]) rfl ⟨rfl, fr _⟩

end Go.Proofs.YtehnhjhflaljhaaDoor
