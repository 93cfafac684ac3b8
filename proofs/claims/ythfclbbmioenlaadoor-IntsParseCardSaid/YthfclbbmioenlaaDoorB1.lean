/- The digits of a base, the number that they spell, and the contracts of digitValue and areDigits. -/
import Derived.Test.YthfclbbmioenlaaDoorA1
import Derived.Test.YthfclbbmioenlaaDoorM3
import Derived.Lib.Strings
namespace Go.Proofs.YthfclbbmioenlaaDoor
open Go.RowKit

/-- The value of a digit, or 36. -/
def dV (c : UInt8) : Int := if 48 ≤ c.toNat ∧ c.toNat ≤ 57 then c.toNat - 48 else if 97 ≤ c.toNat ∧ c.toNat ≤ 122 then c.toNat - 97 + 10 else if 65 ≤ c.toNat ∧ c.toNat ≤ 90 then c.toNat - 65 + 10 else 36
theorem dV_nonneg (c : UInt8) : 0 ≤ dV c ∧ dV c ≤ 36 := by unfold dV; split <;> (try split) <;> (try split) <;> omega
theorem dV_class (c : UInt8) (h : dV c < 36) : (48 ≤ c.toNat ∧ c.toNat ≤ 57 ∧ dV c = c.toNat - 48) ∨ (97 ≤ c.toNat ∧ c.toNat ≤ 122 ∧ dV c = c.toNat - 97 + 10) ∨ (65 ≤ c.toNat ∧ c.toNat ≤ 90 ∧ dV c = c.toNat - 65 + 10) := by
  unfold dV at h ⊢
  by_cases h1 : 48 ≤ c.toNat ∧ c.toNat ≤ 57
  · rw [if_pos h1]; exact .inl ⟨h1.1, h1.2, rfl⟩
  · rw [if_neg h1] at h ⊢
    by_cases h2 : 97 ≤ c.toNat ∧ c.toNat ≤ 122
    · rw [if_pos h2]; exact .inr (.inl ⟨h2.1, h2.2, rfl⟩)
    · rw [if_neg h2] at h ⊢
      by_cases h3 : 65 ≤ c.toNat ∧ c.toNat ≤ 90
      · rw [if_pos h3]; exact .inr (.inr ⟨h3.1, h3.2, rfl⟩)
      · rw [if_neg h3] at h; omega
/-- Are all of them digits of the base? -/
def allD (b : Int) (l : List UInt8) : Prop := ∀ c ∈ l, dV c < b
instance (b : Int) (l : List UInt8) : Decidable (allD b l) := by unfold allD; infer_instance
/-- One or more digits of the base. -/
def goodD (b : Int) (l : List UInt8) : Bool := decide (l ≠ [] ∧ allD b l)
/-- The number that digits spell, behind a number. -/
def magF (b : Int) (x : Int) (l : List UInt8) : Int := l.foldl (fun x c => x * b + dV c) x
def mag (b : Int) (l : List UInt8) : Int := magF b 0 l
theorem magF_ge (b : Int) (hb : 1 ≤ b) : ∀ (l : List UInt8) (x : Int), 0 ≤ x → x ≤ magF b x l
  | [], _, _ => Int.le_refl _
  | c :: l, x, hx => by
    have h1 := (dV_nonneg c).1
    have h2 : x * 1 ≤ x * b := Int.mul_le_mul_of_nonneg_left hb hx
    have h3 := magF_ge b hb l (x * b + dV c) (by omega)
    show x ≤ magF b (x * b + dV c) l
    omega
theorem magF_cons (b x : Int) (c : UInt8) (l : List UInt8) : magF b x (c :: l) = magF b (x * b + dV c) l := rfl

theorem digit_in (c : UInt8) (w : World) :
    Calls Tryd.prog 73 #[.int .u8 (c.toNat : Int)] w fun e w' => e = .returned (.int .i64 (dV c)) ∧ w = w' := by
  have hc : c.toNat < 256 := c.toNat_lt
  by_cases h1 : 48 ≤ c.toNat ∧ c.toNat ≤ 57
  · have H : Hid ((c.toNat : Int) - 48 = dV c) := by show _ = _; unfold dV; rw [if_pos h1]
    obtain ⟨a1, a2⟩ := h1
    go_enter Tryd.func73, Tryd.ntmps73
    go_wp2
    go_ret
    exact ⟨ret_int H.out, rfl⟩
  by_cases h2 : 97 ≤ c.toNat ∧ c.toNat ≤ 122
  · have H : Hid ((c.toNat : Int) - 97 + 10 = dV c) := by show _ = _; unfold dV; rw [if_neg h1, if_pos h2]
    obtain ⟨a1, a2⟩ := h2
    have a3 : ¬ (c.toNat : Int) ≤ 57 := by omega
    clear h1
    go_enter Tryd.func73, Tryd.ntmps73
    go_wp2
    go_ret
    exact ⟨ret_int H.out, rfl⟩
  by_cases h3 : 65 ≤ c.toNat ∧ c.toNat ≤ 90
  · have H : Hid ((c.toNat : Int) - 65 + 10 = dV c) := by show _ = _; unfold dV; rw [if_neg h1, if_neg h2, if_pos h3]
    obtain ⟨a1, a2⟩ := h3
    have a3 : ¬ (c.toNat : Int) ≤ 57 := by omega
    have a4 : ¬ (97 : Int) ≤ (c.toNat : Int) := by omega
    clear h1 h2
    go_enter Tryd.func73, Tryd.ntmps73
    go_wp2
    go_ret
    exact ⟨ret_int H.out, rfl⟩
  · have H : Hid (36 = dV c) := by show _ = _; unfold dV; rw [if_neg h1, if_neg h2, if_neg h3]
    have g : c.toNat < 48 ∨ (57 < c.toNat ∧ c.toNat < 65) ∨ (90 < c.toNat ∧ c.toNat < 97) ∨ 122 < c.toNat := by omega
    clear h1 h2 h3
    rcases g with g | ⟨g, g2⟩ | ⟨g, g2⟩ | g
    all_goals
      go_enter Tryd.func73, Tryd.ntmps73
      go_wp2
      go_ret
      exact ⟨ret_int H.out, rfl⟩

theorem isEmpty_of (s : ByteArray) : s.toList.isEmpty = true ↔ s.data.toList = [] := by
  rw [← decide_eq_emptyBytes, decide_eq_true_iff]
  constructor
  · rintro rfl; rfl
  · intro h
    have h2 : s.data = #[] := by simpa using h
    cases s with
    | mk d =>
      obtain rfl : d = #[] := h2
      rfl

theorem are_any (s : ByteArray) (b : Int) (hs : s.size ≤ 9223372036854775807) (w : World) :
    Calls Tryd.prog 39 #[.string s, .int .i64 b] w fun e w' => e = .returned (.bool (goodD b s.data.toList)) ∧ w = w' := by
  have hsz : s.data.toList.length = s.size := by rw [Lib.size_eq]
  go_enter Tryd.func39, Tryd.ntmps39
  go_wp2_with fail
  go_loop [8] (fun i => ∃ k : Nat, k ≤ s.size ∧ i = .int .i64 k ∧ Hid (∀ j (hj : j < s.size), j < k → dV s[j] < b)) (fun i => s.size - (intOf i).toNat)
  case atStart => exact ⟨0, by omega, rfl, fun j hj h => absurd h (by omega)⟩
  case round =>
    obtain ⟨k, hk, rfl, hI⟩ := hrel
    by_cases hlt : k < s.size
    · by_cases hd : b ≤ dV s[k]
      · have H : Hid (goodD b s.data.toList = false) := by
          show _ = _
          simp only [goodD, decide_eq_false_iff_not, not_and]
          intro _ h
          have := h s[k] (by
            have h2 : s.data.toList[k]'(by omega) = s[k] := rfl
            rw [← h2]; exact List.getElem_mem _)
          omega
        clear hI
        go_wp2_with (go_at_call 73; refine (digit_in _ _).mono ?_; rintro e w' ⟨rfl, rfl⟩)
        go_ret
        exact ⟨ret_bool H.out.symm, rfl⟩
      · have hd2 : ¬ b ≤ dV s[k] := hd
        have hN : Hid (∀ j (hj : j < s.size), j < k + 1 → dV s[j] < b) := fun j hj hjk => by
          by_cases e : j = k
          · subst e; omega
          · exact hI.out j hj (by omega)
        clear hI hd
        go_wp2_with (go_at_call 73; refine (digit_in _ _).mono ?_; rintro e w' ⟨rfl, rfl⟩)
        go_round
        case rel => exact ⟨k + 1, by omega, by go_num, hN⟩
        case measure => simp [intOf]; omega
    · have H : Hid ((!s.toList.isEmpty) = goodD b s.data.toList) := by
        show _ = _
        have hall : allD b s.data.toList := by
          intro c hc
          obtain ⟨i, hi, rfl⟩ := List.getElem_of_mem hc
          exact hI.out i (by omega) (by omega)
        simp only [goodD, hall, and_true]
        rw [Bool.eq_iff_iff, decide_eq_true_iff, Bool.not_eq_true', ← Bool.not_eq_true, isEmpty_of]
      clear hI
      go_wp2_with fail
      go_ret
      exact ⟨ret_bool H.out, rfl⟩

end Go.Proofs.YthfclbbmioenlaaDoor
