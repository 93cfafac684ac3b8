/- The contract of Binary: it returns the value and the error of the function that the name names. -/
import Derived.Test.YthfclbbmioenlaaDoorA2
import Derived.Test.YthfclbbmioenlaaDoorA5
namespace Go.Proofs.YthfclbbmioenlaaDoor
open Go.RowKit

def v_bPlus (a b : Int) : Int := rV (a + b)
def e_bPlus (a b : Int) : Int := rE (a + b)
def v_bMinus (a b : Int) : Int := rV (a - b)
def e_bMinus (a b : Int) : Int := rE (a - b)
def v_bTimes (a b : Int) : Int := rV (a * b)
def e_bTimes (a b : Int) : Int := rE (a * b)
def v_bQuot (a b : Int) : Int := if b = 0 then 0 else rV (a.tdiv b)
def e_bQuot (a b : Int) : Int := if b = 0 then 11 else rE (a.tdiv b)
def v_bRem (a b : Int) : Int := if b = 0 then 0 else a.tmod b
def e_bRem (_ b : Int) : Int := if b = 0 then 11 else 0
def v_bDiv (a b : Int) : Int := if b = 0 then 0 else rV (fq a b)
def e_bDiv (a b : Int) : Int := if b = 0 then 11 else rE (fq a b)
def v_bMod (a b : Int) : Int := if b = 0 then 0 else fm a b
def e_bMod (_ b : Int) : Int := if b = 0 then 11 else 0
def v_bMin (a b : Int) : Int := lesser a b
def e_bMin (_ _ : Int) : Int := 0
def v_bMax (a b : Int) : Int := greater a b
def e_bMax (_ _ : Int) : Int := 0
def v_bShr (a b : Int) : Int := if b < 0 ∨ 63 < b then 0 else a / 2 ^ b.toNat
def e_bShr (_ b : Int) : Int := if b < 0 ∨ 63 < b then 12 else 0
def v_bShl (a b : Int) : Int := if b < 0 ∨ 63 < b then 0 else rV (a * 2 ^ b.toNat)
def e_bShl (a b : Int) : Int := if b < 0 ∨ 63 < b then 12 else rE (a * 2 ^ b.toNat)
def v_bAnd (a b : Int) : Int := bits .and .i64 a b
def e_bAnd (_ _ : Int) : Int := 0
def v_bOr (a b : Int) : Int := bits .or .i64 a b
def e_bOr (_ _ : Int) : Int := 0
def v_bXor (a b : Int) : Int := bits .xor .i64 a b
def e_bXor (_ _ : Int) : Int := 0
def v_bPow (a b : Int) : Int := powV a b
def e_bPow (a b : Int) : Int := powE a b
def v_bGcd (a b : Int) : Int := rV (Int.gcd a b : Nat)
def e_bGcd (a b : Int) : Int := rE (Int.gcd a b : Nat)
def bV (s : ByteArray) (a b : Int) : Int := if s = bPlus then v_bPlus a b else if s = bMinus then v_bMinus a b else if s = bTimes then v_bTimes a b else if s = bQuot then v_bQuot a b else if s = bRem then v_bRem a b else if s = bDiv then v_bDiv a b else if s = bMod then v_bMod a b else if s = bMin then v_bMin a b else if s = bMax then v_bMax a b else if s = bShr then v_bShr a b else if s = bShl then v_bShl a b else if s = bAnd then v_bAnd a b else if s = bOr then v_bOr a b else if s = bXor then v_bXor a b else if s = bPow then v_bPow a b else if s = bGcd then v_bGcd a b else 0
def bE (s : ByteArray) (a b : Int) : Int := if s = bPlus then e_bPlus a b else if s = bMinus then e_bMinus a b else if s = bTimes then e_bTimes a b else if s = bQuot then e_bQuot a b else if s = bRem then e_bRem a b else if s = bDiv then e_bDiv a b else if s = bMod then e_bMod a b else if s = bMin then e_bMin a b else if s = bMax then e_bMax a b else if s = bShr then e_bShr a b else if s = bShl then e_bShl a b else if s = bAnd then e_bAnd a b else if s = bOr then e_bOr a b else if s = bXor then e_bXor a b else if s = bPow then e_bPow a b else if s = bGcd then e_bGcd a b else 4
/-- Is it a name of a binary function? -/
def bKnown (s : ByteArray) : Bool := decide (s = bPlus ∨ s = bMinus ∨ s = bTimes ∨ s = bQuot ∨ s = bRem ∨ s = bDiv ∨ s = bMod ∨ s = bMin ∨ s = bMax ∨ s = bShr ∨ s = bShl ∨ s = bAnd ∨ s = bOr ∨ s = bXor ∨ s = bPow ∨ s = bGcd)
theorem f_bPlus (N : Nat) : HF.fnFind bPlus (bList N) = some (fn 57) := rfl
theorem f_bMinus (N : Nat) : HF.fnFind bMinus (bList N) = some (fn 58) := rfl
theorem f_bTimes (N : Nat) : HF.fnFind bTimes (bList N) = some (fn 59) := rfl
theorem f_bQuot (N : Nat) : HF.fnFind bQuot (bList N) = some (clo 54 (N + 1)) := rfl
theorem f_bRem (N : Nat) : HF.fnFind bRem (bList N) = some (clo 54 (N + 3)) := rfl
theorem f_bDiv (N : Nat) : HF.fnFind bDiv (bList N) = some (clo 54 (N + 4)) := rfl
theorem f_bMod (N : Nat) : HF.fnFind bMod (bList N) = some (clo 54 (N + 6)) := rfl
theorem f_bMin (N : Nat) : HF.fnFind bMin (bList N) = some (clo 52 (N + 7)) := rfl
theorem f_bMax (N : Nat) : HF.fnFind bMax (bList N) = some (clo 52 (N + 8)) := rfl
theorem f_bShr (N : Nat) : HF.fnFind bShr (bList N) = some (clo 56 (N + 10)) := rfl
theorem f_bShl (N : Nat) : HF.fnFind bShl (bList N) = some (clo 56 (N + 11)) := rfl
theorem f_bAnd (N : Nat) : HF.fnFind bAnd (bList N) = some (clo 52 (N + 12)) := rfl
theorem f_bOr (N : Nat) : HF.fnFind bOr (bList N) = some (clo 52 (N + 13)) := rfl
theorem f_bXor (N : Nat) : HF.fnFind bXor (bList N) = some (clo 52 (N + 14)) := rfl
theorem f_bPow (N : Nat) : HF.fnFind bPow (bList N) = some (fn 71) := rfl
theorem f_bGcd (N : Nat) : HF.fnFind bGcd (bList N) = some (fn 72) := rfl
theorem b_find_no (s : ByteArray) (N : Nat) (h : bKnown s = false) : HF.fnFind s (bList N) = none := by
  simp only [bKnown, decide_eq_false_iff_not, not_or] at h
  exact HF.fnFind_no (ks := [bPlus, bMinus, bTimes, bQuot, bRem, bDiv, bMod, bMin, bMax, bShr, bShl, bAnd, bOr, bXor, bPow, bGcd]) rfl (by simpa using h)

theorem clo61_any (p : Nat) (a b : Int) (hb : b ≠ 0) (w : World) (hc : w.cell? ⟨p, 0, none⟩ = some (fn 61)) :
    Calls Tryd.prog 52 #[.int .i64 a, .int .i64 b, .pointer (some ⟨p, 0, none⟩)] w fun e w' => e = .returned (.tuple #[.int .i64 (a.tmod b), .int .i64 0]) ∧ w = w' := by
  go_enter Tryd.func52, Tryd.ntmps52
  go_wp2_with (go_at_call 61; refine (rem_any _ _ hb _).mono ?_; rintro e w' ⟨rfl, rfl⟩)
  go_ret2
  exact ⟨rfl, rfl⟩

theorem clo63_any (p : Nat) (a b : Int) (g0 : -9223372036854775808 ≤ b) (g1 : b ≤ 9223372036854775807) (hb : b ≠ 0) (w : World) (hc : w.cell? ⟨p, 0, none⟩ = some (fn 63)) :
    Calls Tryd.prog 52 #[.int .i64 a, .int .i64 b, .pointer (some ⟨p, 0, none⟩)] w fun e w' => e = .returned (.tuple #[.int .i64 (fm a b), .int .i64 0]) ∧ w = w' := by
  go_enter Tryd.func52, Tryd.ntmps52
  go_wp2_with (go_at_call 63; refine (fm_any _ _ g0 g1 hb _).mono ?_; rintro e w' ⟨rfl, rfl⟩)
  go_ret2
  exact ⟨rfl, rfl⟩

theorem clo64_any (p : Nat) (a b : Int) (w : World) (hc : w.cell? ⟨p, 0, none⟩ = some (fn 64)) :
    Calls Tryd.prog 52 #[.int .i64 a, .int .i64 b, .pointer (some ⟨p, 0, none⟩)] w fun e w' => e = .returned (.tuple #[.int .i64 (lesser a b), .int .i64 0]) ∧ w = w' := by
  go_enter Tryd.func52, Tryd.ntmps52
  go_wp2_with (go_at_call 64; refine (min_any _ _ _).mono ?_; rintro e w' ⟨rfl, rfl⟩)
  go_ret2
  exact ⟨rfl, rfl⟩

theorem clo65_any (p : Nat) (a b : Int) (w : World) (hc : w.cell? ⟨p, 0, none⟩ = some (fn 65)) :
    Calls Tryd.prog 52 #[.int .i64 a, .int .i64 b, .pointer (some ⟨p, 0, none⟩)] w fun e w' => e = .returned (.tuple #[.int .i64 (greater a b), .int .i64 0]) ∧ w = w' := by
  go_enter Tryd.func52, Tryd.ntmps52
  go_wp2_with (go_at_call 65; refine (max_any _ _ _).mono ?_; rintro e w' ⟨rfl, rfl⟩)
  go_ret2
  exact ⟨rfl, rfl⟩

theorem clo66_any (p : Nat) (a b : Int) (hb0 : 0 ≤ b) (hb1 : b ≤ 63) (w : World) (hc : w.cell? ⟨p, 0, none⟩ = some (fn 66)) :
    Calls Tryd.prog 52 #[.int .i64 a, .int .i64 b, .pointer (some ⟨p, 0, none⟩)] w fun e w' => e = .returned (.tuple #[.int .i64 (a / 2 ^ b.toNat), .int .i64 0]) ∧ w = w' := by
  go_enter Tryd.func52, Tryd.ntmps52
  go_wp2_with (go_at_call 66; refine (shr_any _ _ hb0 hb1 _).mono ?_; rintro e w' ⟨rfl, rfl⟩)
  go_ret2
  exact ⟨rfl, rfl⟩

theorem clo68_any (p : Nat) (a b : Int) (w : World) (hc : w.cell? ⟨p, 0, none⟩ = some (fn 68)) :
    Calls Tryd.prog 52 #[.int .i64 a, .int .i64 b, .pointer (some ⟨p, 0, none⟩)] w fun e w' => e = .returned (.tuple #[.int .i64 (bits .and .i64 a b), .int .i64 0]) ∧ w = w' := by
  go_enter Tryd.func52, Tryd.ntmps52
  go_wp2_with (go_at_call 68; refine (and_any _ _ _).mono ?_; rintro e w' ⟨rfl, rfl⟩)
  go_ret2
  exact ⟨rfl, rfl⟩

theorem clo69_any (p : Nat) (a b : Int) (w : World) (hc : w.cell? ⟨p, 0, none⟩ = some (fn 69)) :
    Calls Tryd.prog 52 #[.int .i64 a, .int .i64 b, .pointer (some ⟨p, 0, none⟩)] w fun e w' => e = .returned (.tuple #[.int .i64 (bits .or .i64 a b), .int .i64 0]) ∧ w = w' := by
  go_enter Tryd.func52, Tryd.ntmps52
  go_wp2_with (go_at_call 69; refine (or_any _ _ _).mono ?_; rintro e w' ⟨rfl, rfl⟩)
  go_ret2
  exact ⟨rfl, rfl⟩

theorem clo70_any (p : Nat) (a b : Int) (w : World) (hc : w.cell? ⟨p, 0, none⟩ = some (fn 70)) :
    Calls Tryd.prog 52 #[.int .i64 a, .int .i64 b, .pointer (some ⟨p, 0, none⟩)] w fun e w' => e = .returned (.tuple #[.int .i64 (bits .xor .i64 a b), .int .i64 0]) ∧ w = w' := by
  go_enter Tryd.func52, Tryd.ntmps52
  go_wp2_with (go_at_call 70; refine (xor_any _ _ _).mono ?_; rintro e w' ⟨rfl, rfl⟩)
  go_ret2
  exact ⟨rfl, rfl⟩

theorem div_zero (p : Nat) (a b : Int) (hb : b = 0) (w : World) :
    Calls Tryd.prog 54 #[.int .i64 a, .int .i64 b, .pointer (some ⟨p, 0, none⟩)] w fun e w' => e = .returned (.tuple #[.int .i64 0, .int .i64 11]) ∧ w = w' := by
  have hq : (b == 0) = true := by simpa using hb
  clear hb
  go_enter Tryd.func54, Tryd.ntmps54
  go_wp2_with fail
  go_ret2
  exact ⟨rfl, rfl⟩

theorem c_bQuot (p : Nat) (a b : Int) (h0 : -9223372036854775808 ≤ a) (h1 : a ≤ 9223372036854775807) (w : World) (hc : w.cell? ⟨p, 0, none⟩ = some (fn 60)) :
    Calls Tryd.prog 54 #[.int .i64 a, .int .i64 b, .pointer (some ⟨p, 0, none⟩)] w fun e w' => e = .returned (.tuple #[.int .i64 (v_bQuot a b), .int .i64 (e_bQuot a b)]) ∧ w = w' := by
  by_cases hb : b = 0
  · simp only [v_bQuot, e_bQuot, if_pos hb]; exact div_zero p a b hb w
  · simp only [v_bQuot, e_bQuot, if_neg hb]
    have hq : (b == 0) = false := by simpa using hb
    go_enter Tryd.func54, Tryd.ntmps54
    go_wp2_with (go_at_call 60; refine (quot_any _ _ h0 h1 hb _).mono ?_; rintro e w' ⟨rfl, rfl⟩)
    go_ret2
    exact ⟨rfl, rfl⟩

theorem c_bDiv (p : Nat) (a b : Int) (h0 : -9223372036854775808 ≤ a) (h1 : a ≤ 9223372036854775807) (w : World) (hc : w.cell? ⟨p, 0, none⟩ = some (fn 62)) :
    Calls Tryd.prog 54 #[.int .i64 a, .int .i64 b, .pointer (some ⟨p, 0, none⟩)] w fun e w' => e = .returned (.tuple #[.int .i64 (v_bDiv a b), .int .i64 (e_bDiv a b)]) ∧ w = w' := by
  by_cases hb : b = 0
  · simp only [v_bDiv, e_bDiv, if_pos hb]; exact div_zero p a b hb w
  · simp only [v_bDiv, e_bDiv, if_neg hb]
    have hq : (b == 0) = false := by simpa using hb
    go_enter Tryd.func54, Tryd.ntmps54
    go_wp2_with (go_at_call 62; refine (fq_any _ _ h0 h1 hb _).mono ?_; rintro e w' ⟨rfl, rfl⟩)
    go_ret2
    exact ⟨rfl, rfl⟩

theorem c_bRem (p q : Nat) (a b : Int) (w : World) (hc : w.cell? ⟨p, 0, none⟩ = some (clo 52 q)) (hc2 : w.cell? ⟨q, 0, none⟩ = some (fn 61)) :
    Calls Tryd.prog 54 #[.int .i64 a, .int .i64 b, .pointer (some ⟨p, 0, none⟩)] w fun e w' => e = .returned (.tuple #[.int .i64 (v_bRem a b), .int .i64 (e_bRem a b)]) ∧ w = w' := by
  by_cases hb : b = 0
  · simp only [v_bRem, e_bRem, if_pos hb]; exact div_zero p a b hb w
  · simp only [v_bRem, e_bRem, if_neg hb]
    have hq : (b == 0) = false := by simpa using hb
    go_enter Tryd.func54, Tryd.ntmps54
    go_wp2_with (go_at_call 52; refine (clo61_any _ _ _ hb _ hc2).mono ?_; rintro e w' ⟨rfl, rfl⟩)
    go_ret2
    exact ⟨rfl, rfl⟩

theorem c_bMod (p q : Nat) (a b : Int) (g0 : -9223372036854775808 ≤ b) (g1 : b ≤ 9223372036854775807) (w : World) (hc : w.cell? ⟨p, 0, none⟩ = some (clo 52 q)) (hc2 : w.cell? ⟨q, 0, none⟩ = some (fn 63)) :
    Calls Tryd.prog 54 #[.int .i64 a, .int .i64 b, .pointer (some ⟨p, 0, none⟩)] w fun e w' => e = .returned (.tuple #[.int .i64 (v_bMod a b), .int .i64 (e_bMod a b)]) ∧ w = w' := by
  by_cases hb : b = 0
  · simp only [v_bMod, e_bMod, if_pos hb]; exact div_zero p a b hb w
  · simp only [v_bMod, e_bMod, if_neg hb]
    have hq : (b == 0) = false := by simpa using hb
    go_enter Tryd.func54, Tryd.ntmps54
    go_wp2_with (go_at_call 52; refine (clo63_any _ _ _ g0 g1 hb _ hc2).mono ?_; rintro e w' ⟨rfl, rfl⟩)
    go_ret2
    exact ⟨rfl, rfl⟩

theorem shift_bad (p : Nat) (a b : Int) (hb : b < 0 ∨ 63 < b) (w : World) :
    Calls Tryd.prog 56 #[.int .i64 a, .int .i64 b, .pointer (some ⟨p, 0, none⟩)] w fun e w' => e = .returned (.tuple #[.int .i64 0, .int .i64 12]) ∧ w = w' := by
  rcases hb with hb | hb
  · go_enter Tryd.func56, Tryd.ntmps56
    go_wp2_with fail
    go_ret2
    exact ⟨rfl, rfl⟩
  · have hq : ¬ b < 0 := by omega
    have hq2 : decide (b < 0) = false := by simpa using hq
    go_enter Tryd.func56, Tryd.ntmps56
    go_wp2_with fail
    go_ret2
    exact ⟨rfl, rfl⟩

theorem c_bShr (p q : Nat) (a b : Int) (w : World) (hc : w.cell? ⟨p, 0, none⟩ = some (clo 52 q)) (hc2 : w.cell? ⟨q, 0, none⟩ = some (fn 66)) :
    Calls Tryd.prog 56 #[.int .i64 a, .int .i64 b, .pointer (some ⟨p, 0, none⟩)] w fun e w' => e = .returned (.tuple #[.int .i64 (v_bShr a b), .int .i64 (e_bShr a b)]) ∧ w = w' := by
  by_cases hb : b < 0 ∨ 63 < b
  · simp only [v_bShr, e_bShr, if_pos hb]; exact shift_bad p a b hb w
  · simp only [v_bShr, e_bShr, if_neg hb]
    have b0 : 0 ≤ b := by omega
    have b1 : b ≤ 63 := by omega
    clear hb
    have hq2 : decide (b < 0) = false := by simp; omega
    go_enter Tryd.func56, Tryd.ntmps56
    go_wp2_with (go_at_call 52; refine (clo66_any _ _ _ b0 b1 _ hc2).mono ?_; rintro e w' ⟨rfl, rfl⟩)
    go_ret2
    exact ⟨rfl, rfl⟩

theorem c_bShl (p : Nat) (a b : Int) (w : World) (hc : w.cell? ⟨p, 0, none⟩ = some (fn 67)) :
    Calls Tryd.prog 56 #[.int .i64 a, .int .i64 b, .pointer (some ⟨p, 0, none⟩)] w fun e w' => e = .returned (.tuple #[.int .i64 (v_bShl a b), .int .i64 (e_bShl a b)]) ∧ w = w' := by
  by_cases hb : b < 0 ∨ 63 < b
  · simp only [v_bShl, e_bShl, if_pos hb]; exact shift_bad p a b hb w
  · simp only [v_bShl, e_bShl, if_neg hb]
    have b0 : 0 ≤ b := by omega
    have b1 : b ≤ 63 := by omega
    clear hb
    have hq2 : decide (b < 0) = false := by simp; omega
    go_enter Tryd.func56, Tryd.ntmps56
    go_wp2_with (go_at_call 67; refine (shl_any _ _ b0 b1 _).mono ?_; rintro e w' ⟨rfl, rfl⟩)
    go_ret2
    exact ⟨rfl, rfl⟩

end Go.Proofs.YthfclbbmioenlaaDoor
