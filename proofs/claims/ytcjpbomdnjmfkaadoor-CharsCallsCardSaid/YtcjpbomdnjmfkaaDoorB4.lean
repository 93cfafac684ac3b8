/- The contracts of the specification's Class, Digit, Escape and Unescape: they return what the program's functions return. -/
import Derived.Test.YtcjpbomdnjmfkaaDoorB3
namespace Go.Proofs.YtcjpbomdnjmfkaaDoor
open Go.RowKit

def sym1 : ByteArray := { data := #[35, 36, 38, 42, 43, 45, 46, 47, 58, 60, 61, 62, 63, 64, 94, 126, 92] }
def sym2 : ByteArray := { data := #[33, 40, 41, 44, 59, 91, 93, 123, 125, 37, 124] }
def sym3 : ByteArray := { data := #[39, 34, 96] }
def clsTest (n : Nat) : Bool :=
  let c : Int := n
  cls c == if 9 ≤ c ∧ c ≤ 13 ∨ c = 32 then 1 else if 97 ≤ c ∧ c ≤ 122 then 2 else if 65 ≤ c ∧ c ≤ 90 ∨ c = 95 then 3 else if 48 ≤ c ∧ c ≤ 57 then 4 else if amg sym1 c then 5 else if amg sym2 c then 6 else if amg sym3 c then 7 else 8
theorem cls_test : ∀ n : Fin 256, clsTest n.val = true := by decide +kernel
theorem cls_eq (c : Int) (h0 : 0 ≤ c) (h1 : c ≤ 255) : cls c = if 9 ≤ c ∧ c ≤ 13 ∨ c = 32 then 1 else if 97 ≤ c ∧ c ≤ 122 then 2 else if 65 ≤ c ∧ c ≤ 90 ∨ c = 95 then 3 else if 48 ≤ c ∧ c ≤ 57 then 4 else if amg sym1 c then 5 else if amg sym2 c then 6 else if amg sym3 c then 7 else 8 := by
  have := cls_test ⟨c.toNat, by omega⟩
  simp only [clsTest, beq_iff_eq] at this
  rwa [show ((c.toNat : Nat) : Int) = c by omega] at this

theorem rclass_out (c : Int) (w : World) (hc : c < 0 ∨ 255 < c) :
    Calls Tryd.prog 20 #[.int .i64 c] w fun e w' => e = .returned (.int .i64 0) ∧ w = w' := by
  have hq := isC_no hc
  go_enter Tryd.func20, Tryd.ntmps20
  go_wp2_with (go_at_call 34; refine (is_any _ _).mono ?_; rintro e w' ⟨rfl, rfl⟩)
  go_ret
  exact ⟨rfl, rfl⟩

theorem rclass_at (c : Int) (w : World) (hc : c = 32 ∨ c = 95) :
    Calls Tryd.prog 20 #[.int .i64 c] w fun e w' => e = .returned (.int .i64 (if c = 32 then 1 else 3)) ∧ w = w' := by
  rcases hc with rfl | rfl
  · have hq : isC 32 = true := by decide
    go_enter Tryd.func20, Tryd.ntmps20
    go_wp2_with (go_at_call 34; refine (is_any _ _).mono ?_; rintro e w' ⟨rfl, rfl⟩)
    go_ret
    exact ⟨rfl, rfl⟩
  · have hq : isC 95 = true := by decide
    go_enter Tryd.func20, Tryd.ntmps20
    go_wp2_with (go_at_call 34; refine (is_any _ _).mono ?_; rintro e w' ⟨rfl, rfl⟩)
    go_ret
    exact ⟨rfl, rfl⟩

theorem rclass_in (c k : Int) (w : World) (hc : (9 ≤ c ∧ c ≤ 13) ∧ k = 1 ∨ (97 ≤ c ∧ c ≤ 122) ∧ k = 2 ∨ (65 ≤ c ∧ c ≤ 90) ∧ k = 3 ∨ (48 ≤ c ∧ c ≤ 57) ∧ k = 4) :
    Calls Tryd.prog 20 #[.int .i64 c] w fun e w' => e = .returned (.int .i64 k) ∧ w = w' := by
  have hq : isC c = true := isC_yes (by omega) (by omega)
  have e1 : (c == 32) = false := by simp; omega
  have e2 : (c == 95) = false := by simp; omega
  rcases hc with ⟨⟨a, b⟩, rfl⟩ | ⟨⟨a, b⟩, rfl⟩ | ⟨⟨a, b⟩, rfl⟩ | ⟨⟨a, b⟩, rfl⟩
  case' inr.inl => have f1 : ¬ c ≤ 13 := by omega
  case' inr.inr.inl => (have f1 : ¬ c ≤ 13 := (by omega); have f2 : ¬ 97 ≤ c := by omega)
  case' inr.inr.inr => (have f1 : ¬ c ≤ 13 := (by omega); have f2 : ¬ 97 ≤ c := (by omega); have f3 : ¬ 65 ≤ c := by omega)
  all_goals
    go_enter Tryd.func20, Tryd.ntmps20
    go_wp2_with (go_at_call 34; refine (is_any _ _).mono ?_; rintro e w' ⟨rfl, rfl⟩)
    go_ret
    exact ⟨rfl, rfl⟩

set_option maxHeartbeats 8000000 in
theorem rclass_rest (c k : Int) (w : World) (h0 : 0 ≤ c) (h1 : c ≤ 255) (hc : c < 9 ∨ (13 < c ∧ c < 32) ∨ (32 < c ∧ c < 48) ∨ (57 < c ∧ c < 65) ∨ (90 < c ∧ c < 95) ∨ (95 < c ∧ c < 97) ∨ 122 < c)
    (hk : amg sym1 c = true ∧ k = 5 ∨ (amg sym1 c = false ∧ amg sym2 c = true) ∧ k = 6 ∨ (amg sym1 c = false ∧ amg sym2 c = false ∧ amg sym3 c = true) ∧ k = 7 ∨ (amg sym1 c = false ∧ amg sym2 c = false ∧ amg sym3 c = false) ∧ k = 8) :
    Calls Tryd.prog 20 #[.int .i64 c] w fun e w' => e = .returned (.int .i64 k) ∧ w = w' := by
  have hq : isC c = true := isC_yes h0 h1
  have e1 : (c == 32) = false := by simp; omega
  have e2 : (c == 95) = false := by simp; omega
  rcases hk with ⟨m1, rfl⟩ | ⟨⟨m1, m2⟩, rfl⟩ | ⟨⟨m1, m2, m3⟩, rfl⟩ | ⟨⟨m1, m2, m3⟩, rfl⟩ <;> unfold sym1 at m1 <;> (try unfold sym2 at m2) <;> (try unfold sym3 at m3) <;> rcases hc with a | ⟨a, b⟩ | ⟨a, b⟩ | ⟨a, b⟩ | ⟨a, b⟩ | ⟨a, b⟩ | a
  all_goals
    go_enter Tryd.func20, Tryd.ntmps20
    go_wp2_with (first | (go_at_call 34; refine (is_any _ _).mono ?_; rintro e w' ⟨rfl, rfl⟩) | (go_at_call 35; refine (among_any _ (by decide) _ _).mono ?_; rintro e w' ⟨rfl, rfl⟩))
    go_ret
    exact ⟨rfl, rfl⟩

theorem rclass_any (c : Int) (w : World) :
    Calls Tryd.prog 20 #[.int .i64 c] w fun e w' => e = .returned (.int .i64 (cls c)) ∧ w = w' := by
  by_cases hc : 0 ≤ c ∧ c ≤ 255
  · have HC := cls_eq c hc.1 hc.2
    by_cases h1 : c = 32 ∨ c = 95
    · have : cls c = if c = 32 then 1 else 3 := by
        rw [HC]; rcases h1 with rfl | rfl <;> rfl
      rw [this]; exact rclass_at c w h1
    · by_cases h2 : (9 ≤ c ∧ c ≤ 13) ∨ (97 ≤ c ∧ c ≤ 122) ∨ (65 ≤ c ∧ c ≤ 90) ∨ (48 ≤ c ∧ c ≤ 57)
      · refine rclass_in c (cls c) w ?_
        rcases h2 with h | h | h | h
        · exact .inl ⟨h, by rw [HC, if_pos (.inl h)]⟩
        · exact .inr (.inl ⟨h, by rw [HC, if_neg (by omega), if_pos h]⟩)
        · exact .inr (.inr (.inl ⟨h, by rw [HC, if_neg (by omega), if_neg (by omega), if_pos (.inl h)]⟩))
        · exact .inr (.inr (.inr ⟨h, by rw [HC, if_neg (by omega), if_neg (by omega), if_neg (by omega), if_pos h]⟩))
      · rw [if_neg (by omega), if_neg (by omega), if_neg (by omega), if_neg (by omega)] at HC
        refine rclass_rest c (cls c) w hc.1 hc.2 (by omega) ?_
        rw [HC]
        cases amg sym1 c <;> cases amg sym2 c <;> cases amg sym3 c <;> simp
  · have : cls c = 0 := by rw [cls, if_neg (by rw [isC_no (by omega)]; decide)]
    rw [this]; exact rclass_out c w (by omega)

end Go.Proofs.YtcjpbomdnjmfkaaDoor
