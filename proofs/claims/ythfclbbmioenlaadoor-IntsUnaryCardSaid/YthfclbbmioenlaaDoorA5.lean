/- The contract of Unary: it returns the value and the error of the function that the name names. -/
import Derived.Test.YthfclbbmioenlaaDoorA4
namespace Go.Proofs.YthfclbbmioenlaaDoor
open Go.RowKit

def uV (s : ByteArray) (a : Int) : Int := if s = nMinus then rV (-a) else if s = nPlus then a else if s = nAbs then rV (aabs a) else if s = nSign then sgn a else if s = nCompl then -1 - a else 0
def uE (s : ByteArray) (a : Int) : Int := if s = nMinus then rE (-a) else if s = nPlus then 0 else if s = nAbs then rE (aabs a) else if s = nSign then 0 else if s = nCompl then 0 else 4
/-- Is it a name of a unary function? -/
def uKnown (s : ByteArray) : Bool := decide (s = nMinus ∨ s = nPlus ∨ s = nAbs ∨ s = nSign ∨ s = nCompl)

theorem u_find (N : Nat) : HF.fnFind nMinus (uList N) = some (fn 46) ∧ HF.fnFind nPlus (uList N) = some (clo 45 (N + 1)) ∧ HF.fnFind nAbs (uList N) = some (fn 48) ∧ HF.fnFind nSign (uList N) = some (clo 45 (N + 2)) ∧ HF.fnFind nCompl (uList N) = some (clo 45 (N + 3)) :=
  ⟨rfl, rfl, rfl, rfl, rfl⟩
theorem u_find_no (s : ByteArray) (N : Nat) (h : uKnown s = false) : HF.fnFind s (uList N) = none := by
  simp only [uKnown, decide_eq_false_iff_not, not_or] at h
  exact HF.fnFind_no (ks := [nMinus, nPlus, nAbs, nSign, nCompl]) rfl (by simpa using h)

theorem clo47_any (p : Nat) (a : Int) (w : World) (hc : w.cell? ⟨p, 0, none⟩ = some (fn 47)) :
    Calls Tryd.prog 45 #[.int .i64 a, .pointer (some ⟨p, 0, none⟩)] w fun e w' => e = .returned (.tuple #[.int .i64 (a), .int .i64 0]) ∧ w = w' := by
  go_enter Tryd.func45, Tryd.ntmps45
  go_wp2_with (go_at_call 47; refine (same_any _ _).mono ?_; rintro e w' ⟨rfl, rfl⟩)
  go_ret2
  exact ⟨rfl, rfl⟩

theorem clo49_any (p : Nat) (a : Int) (w : World) (hc : w.cell? ⟨p, 0, none⟩ = some (fn 49)) :
    Calls Tryd.prog 45 #[.int .i64 a, .pointer (some ⟨p, 0, none⟩)] w fun e w' => e = .returned (.tuple #[.int .i64 (sgn a), .int .i64 0]) ∧ w = w' := by
  go_enter Tryd.func45, Tryd.ntmps45
  go_wp2_with (go_at_call 49; refine (sign_any _ _).mono ?_; rintro e w' ⟨rfl, rfl⟩)
  go_ret2
  exact ⟨rfl, rfl⟩

theorem clo50_any (p : Nat) (a : Int) (h0 : -9223372036854775808 ≤ a) (h1 : a ≤ 9223372036854775807) (w : World) (hc : w.cell? ⟨p, 0, none⟩ = some (fn 50)) :
    Calls Tryd.prog 45 #[.int .i64 a, .pointer (some ⟨p, 0, none⟩)] w fun e w' => e = .returned (.tuple #[.int .i64 (-1 - a), .int .i64 0]) ∧ w = w' := by
  go_enter Tryd.func45, Tryd.ntmps45
  go_wp2_with (go_at_call 50; refine (compl_any _ h0 h1 _).mono ?_; rintro e w' ⟨rfl, rfl⟩)
  go_ret2
  exact ⟨rfl, rfl⟩

theorem unary_no (s : ByteArray) (a : Int) (w : World) (h : uKnown s = false) :
    Calls Tryd.prog 13 #[.string s, .int .i64 a] w fun e w' => e = .returned (.tuple #[.int .i64 0, .int .i64 4]) ∧ Below w.heap.size w w' := by
  have H := Lib.hid (u_find_no s w.heap.size h)
  clear h
  go_enter Tryd.func13, Tryd.ntmps13
  go_wp2_with (first | ((with_reducible refine HF.at_look ?_); refine HF.wpList_look_fn rfl _ _ rfl Tryd.underlying45 Tryd.underlying9 rfl hU.out.map (Tryd.zeroValue43 _) _ rfl (r := .nilFunc) (c := false) (by rw [H.out]; rfl) (by rw [H.out]; rfl) ?_) | (go_at_call 26; refine (unaries_any _).mono ?_; rintro e w1 ⟨rfl, hb1, hU0⟩; have hU := Lib.hid hU0; clear hU0))
  go_ret2
  exact ⟨rfl, hb1⟩

theorem unary_nMinus (a : Int) (h0 : -9223372036854775808 ≤ a) (h1 : a ≤ 9223372036854775807) (w : World) :
    Calls Tryd.prog 13 #[.string nMinus, .int .i64 a] w fun e w' => e = .returned (.tuple #[.int .i64 (rV (-a)), .int .i64 (rE (-a))]) ∧ Below w.heap.size w w' := by
  have H := Lib.hid (u_find w.heap.size).1
  go_enter Tryd.func13, Tryd.ntmps13
  go_wp2_with (first | ((with_reducible refine HF.at_look ?_); refine HF.wpList_look_fn rfl _ _ rfl Tryd.underlying45 Tryd.underlying9 rfl hU.out.map (Tryd.zeroValue43 _) _ rfl (r := fn 46) (c := true) (by rw [H.out]; rfl) (by rw [H.out]; rfl) ?_) | (go_at_call 26; refine (unaries_any _).mono ?_; rintro e w1 ⟨rfl, hb1, hU0⟩; have hU := Lib.hid hU0; clear hU0) | (go_at_call 46; refine (neg_any _ h0 h1 _).mono ?_; rintro e w' ⟨rfl, rfl⟩))
  go_ret2
  exact ⟨rfl, hb1⟩

theorem unary_nPlus (a : Int) (w : World) :
    Calls Tryd.prog 13 #[.string nPlus, .int .i64 a] w fun e w' => e = .returned (.tuple #[.int .i64 (a), .int .i64 (0)]) ∧ Below w.heap.size w w' := by
  have H := Lib.hid (u_find w.heap.size).2.1
  go_enter Tryd.func13, Tryd.ntmps13
  go_wp2_with (first | ((with_reducible refine HF.at_look ?_); refine HF.wpList_look_fn rfl _ _ rfl Tryd.underlying45 Tryd.underlying9 rfl hU.out.map (Tryd.zeroValue43 _) _ rfl (r := clo 45 (w.heap.size + 1)) (c := true) (by rw [H.out]; rfl) (by rw [H.out]; rfl) ?_) | (go_at_call 26; refine (unaries_any _).mono ?_; rintro e w1 ⟨rfl, hb1, hU0⟩; have hU := Lib.hid hU0; clear hU0) | (go_at_call 45; refine (clo47_any _ _ _ hU.out.plus.cell).mono ?_; rintro e w' ⟨rfl, rfl⟩))
  go_ret2
  exact ⟨rfl, hb1⟩

theorem unary_nAbs (a : Int) (h0 : -9223372036854775808 ≤ a) (h1 : a ≤ 9223372036854775807) (w : World) :
    Calls Tryd.prog 13 #[.string nAbs, .int .i64 a] w fun e w' => e = .returned (.tuple #[.int .i64 (rV (aabs a)), .int .i64 (rE (aabs a))]) ∧ Below w.heap.size w w' := by
  have H := Lib.hid (u_find w.heap.size).2.2.1
  go_enter Tryd.func13, Tryd.ntmps13
  go_wp2_with (first | ((with_reducible refine HF.at_look ?_); refine HF.wpList_look_fn rfl _ _ rfl Tryd.underlying45 Tryd.underlying9 rfl hU.out.map (Tryd.zeroValue43 _) _ rfl (r := fn 48) (c := true) (by rw [H.out]; rfl) (by rw [H.out]; rfl) ?_) | (go_at_call 26; refine (unaries_any _).mono ?_; rintro e w1 ⟨rfl, hb1, hU0⟩; have hU := Lib.hid hU0; clear hU0) | (go_at_call 48; refine (abs_any _ h0 h1 _).mono ?_; rintro e w' ⟨rfl, rfl⟩))
  go_ret2
  exact ⟨rfl, hb1⟩

theorem unary_nSign (a : Int) (w : World) :
    Calls Tryd.prog 13 #[.string nSign, .int .i64 a] w fun e w' => e = .returned (.tuple #[.int .i64 (sgn a), .int .i64 (0)]) ∧ Below w.heap.size w w' := by
  have H := Lib.hid (u_find w.heap.size).2.2.2.1
  go_enter Tryd.func13, Tryd.ntmps13
  go_wp2_with (first | ((with_reducible refine HF.at_look ?_); refine HF.wpList_look_fn rfl _ _ rfl Tryd.underlying45 Tryd.underlying9 rfl hU.out.map (Tryd.zeroValue43 _) _ rfl (r := clo 45 (w.heap.size + 2)) (c := true) (by rw [H.out]; rfl) (by rw [H.out]; rfl) ?_) | (go_at_call 26; refine (unaries_any _).mono ?_; rintro e w1 ⟨rfl, hb1, hU0⟩; have hU := Lib.hid hU0; clear hU0) | (go_at_call 45; refine (clo49_any _ _ _ hU.out.sign.cell).mono ?_; rintro e w' ⟨rfl, rfl⟩))
  go_ret2
  exact ⟨rfl, hb1⟩

theorem unary_nCompl (a : Int) (h0 : -9223372036854775808 ≤ a) (h1 : a ≤ 9223372036854775807) (w : World) :
    Calls Tryd.prog 13 #[.string nCompl, .int .i64 a] w fun e w' => e = .returned (.tuple #[.int .i64 (-1 - a), .int .i64 (0)]) ∧ Below w.heap.size w w' := by
  have H := Lib.hid (u_find w.heap.size).2.2.2.2
  go_enter Tryd.func13, Tryd.ntmps13
  go_wp2_with (first | ((with_reducible refine HF.at_look ?_); refine HF.wpList_look_fn rfl _ _ rfl Tryd.underlying45 Tryd.underlying9 rfl hU.out.map (Tryd.zeroValue43 _) _ rfl (r := clo 45 (w.heap.size + 3)) (c := true) (by rw [H.out]; rfl) (by rw [H.out]; rfl) ?_) | (go_at_call 26; refine (unaries_any _).mono ?_; rintro e w1 ⟨rfl, hb1, hU0⟩; have hU := Lib.hid hU0; clear hU0) | (go_at_call 45; refine (clo50_any _ _ h0 h1 _ hU.out.compl.cell).mono ?_; rintro e w' ⟨rfl, rfl⟩))
  go_ret2
  exact ⟨rfl, hb1⟩

/-- Unary returns the value and the error of the specification. -/
theorem unary_any (s : ByteArray) (a : Int) (h0 : -9223372036854775808 ≤ a) (h1 : a ≤ 9223372036854775807) (w : World) :
    Calls Tryd.prog 13 #[.string s, .int .i64 a] w fun e w' => e = .returned (.tuple #[.int .i64 (uV s a), .int .i64 (uE s a)]) ∧ Below w.heap.size w w' := by
  cases hk : uKnown s
  · have e1 : uV s a = 0 ∧ uE s a = 4 := by
      simp only [uKnown, decide_eq_false_iff_not, not_or] at hk
      obtain ⟨k1, k2, k3, k4, k5⟩ := hk
      simp only [uV, uE, if_neg k1, if_neg k2, if_neg k3, if_neg k4, if_neg k5]; exact ⟨trivial, trivial⟩
    rw [e1.1, e1.2]; exact unary_no s a w hk
  · simp only [uKnown, decide_eq_true_eq] at hk
    rcases hk with rfl | rfl | rfl | rfl | rfl
    · exact unary_nMinus a h0 h1 w
    · exact unary_nPlus a w
    · exact unary_nAbs a h0 h1 w
    · exact unary_nSign a w
    · exact unary_nCompl a h0 h1 w

end Go.Proofs.YthfclbbmioenlaaDoor
