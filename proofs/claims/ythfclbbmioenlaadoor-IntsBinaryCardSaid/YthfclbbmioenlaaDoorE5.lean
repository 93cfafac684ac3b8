/- The contract of the specification's Binary, and the walk of the law IntsBinary. -/
import Derived.Test.YthfclbbmioenlaaDoorE4
namespace Go.Proofs.YthfclbbmioenlaaDoor
open Go.RowKit

set_option maxRecDepth 100000 in
theorem rb_bPlus (a b : Int) (h0 : -9223372036854775808 ≤ a) (h1 : a ≤ 9223372036854775807) (g0 : -9223372036854775808 ≤ b) (g1 : b ≤ 9223372036854775807) (w : World) :
    Calls Tryd.prog 19 #[.string bPlus, .int .i64 a, .int .i64 b] w fun e w' => e = .returned (.tuple #[.int .i64 (v_bPlus a b), .int .i64 (e_bPlus a b)]) ∧ w = w' := by
  have H : Hid (rV (a + b) = v_bPlus a b ∧ rE (a + b) = e_bPlus a b) := ⟨rfl, rfl⟩
  go_enter Tryd.func19, Tryd.ntmps19
  go_wp2_with (go_at_call 30; refine (r_add _ _ h0 h1 g0 g1 _).mono ?_; rintro e w' ⟨rfl, rfl⟩)
  go_ret2
  exact ⟨pow_one_ret H.out, rfl⟩

set_option maxRecDepth 100000 in
theorem rb_bMinus (a b : Int) (h0 : -9223372036854775808 ≤ a) (h1 : a ≤ 9223372036854775807) (g0 : -9223372036854775808 ≤ b) (g1 : b ≤ 9223372036854775807) (w : World) :
    Calls Tryd.prog 19 #[.string bMinus, .int .i64 a, .int .i64 b] w fun e w' => e = .returned (.tuple #[.int .i64 (v_bMinus a b), .int .i64 (e_bMinus a b)]) ∧ w = w' := by
  have H : Hid (rV (a - b) = v_bMinus a b ∧ rE (a - b) = e_bMinus a b) := ⟨rfl, rfl⟩
  go_enter Tryd.func19, Tryd.ntmps19
  go_wp2_with (go_at_call 27; refine (r_sub _ _ h0 h1 g0 g1 _).mono ?_; rintro e w' ⟨rfl, rfl⟩)
  go_ret2
  exact ⟨pow_one_ret H.out, rfl⟩

set_option maxRecDepth 100000 in
theorem rb_bTimes (a b : Int) (h0 : -9223372036854775808 ≤ a) (h1 : a ≤ 9223372036854775807) (g0 : -9223372036854775808 ≤ b) (g1 : b ≤ 9223372036854775807) (w : World) :
    Calls Tryd.prog 19 #[.string bTimes, .int .i64 a, .int .i64 b] w fun e w' => e = .returned (.tuple #[.int .i64 (v_bTimes a b), .int .i64 (e_bTimes a b)]) ∧ w = w' := by
  have H : Hid (rV (a * b) = v_bTimes a b ∧ rE (a * b) = e_bTimes a b) := ⟨rfl, rfl⟩
  go_enter Tryd.func19, Tryd.ntmps19
  go_wp2_with (go_at_call 31; refine (r_mul _ _ h0 h1 g0 g1 _).mono ?_; rintro e w' ⟨rfl, rfl⟩)
  go_ret2
  exact ⟨pow_one_ret H.out, rfl⟩

set_option maxRecDepth 100000 in
theorem rb_bQuot (a b : Int) (h0 : -9223372036854775808 ≤ a) (h1 : a ≤ 9223372036854775807)  (w : World) :
    Calls Tryd.prog 19 #[.string bQuot, .int .i64 a, .int .i64 b] w fun e w' => e = .returned (.tuple #[.int .i64 (v_bQuot a b), .int .i64 (e_bQuot a b)]) ∧ w = w' := by
  by_cases hb : b = 0
  · have q : (b == 0) = true := by simpa using hb
    have H : Hid (0 = v_bQuot a b ∧ 11 = e_bQuot a b) := by show _ ∧ _; rw [v_bQuot, e_bQuot, if_pos hb, if_pos hb]; exact ⟨rfl, rfl⟩
    clear hb
    go_enter Tryd.func19, Tryd.ntmps19
    go_wp2_with fail
    go_ret2
    exact ⟨pow_one_ret H.out, rfl⟩
  · have q : (b == 0) = false := by simpa using hb
    have H : Hid (rV (a.tdiv b) = v_bQuot a b ∧ rE (a.tdiv b) = e_bQuot a b) := by show _ ∧ _; rw [v_bQuot, e_bQuot, if_neg hb, if_neg hb]; exact ⟨rfl, rfl⟩
    go_enter Tryd.func19, Tryd.ntmps19
    go_wp2_with (go_at_call 35; refine (r_quot _ _ h0 h1 hb _).mono ?_; rintro e w' ⟨rfl, rfl⟩)
    go_ret2
    exact ⟨pow_one_ret H.out, rfl⟩

set_option maxRecDepth 100000 in
theorem rb_bRem (a b : Int) (h0 : -9223372036854775808 ≤ a) (h1 : a ≤ 9223372036854775807) (g0 : -9223372036854775808 ≤ b) (g1 : b ≤ 9223372036854775807) (w : World) :
    Calls Tryd.prog 19 #[.string bRem, .int .i64 a, .int .i64 b] w fun e w' => e = .returned (.tuple #[.int .i64 (v_bRem a b), .int .i64 (e_bRem a b)]) ∧ w = w' := by
  by_cases hb : b = 0
  · have q : (b == 0) = true := by simpa using hb
    have H : Hid (0 = v_bRem a b ∧ 11 = e_bRem a b) := by show _ ∧ _; rw [v_bRem, e_bRem, if_pos hb, if_pos hb]; exact ⟨rfl, rfl⟩
    clear hb
    go_enter Tryd.func19, Tryd.ntmps19
    go_wp2_with fail
    go_ret2
    exact ⟨pow_one_ret H.out, rfl⟩
  · have q : (b == 0) = false := by simpa using hb
    have H : Hid (a.tmod b = v_bRem a b ∧ 0 = e_bRem a b) := by show _ ∧ _; rw [v_bRem, e_bRem, if_neg hb, if_neg hb]; exact ⟨rfl, rfl⟩
    go_enter Tryd.func19, Tryd.ntmps19
    go_wp2_with (go_at_call 36; refine (r_rem _ _ h0 h1 g0 g1 hb _).mono ?_; rintro e w' ⟨rfl, rfl⟩)
    go_ret2
    exact ⟨pow_one_ret H.out, rfl⟩

set_option maxRecDepth 100000 in
theorem rb_bDiv (a b : Int) (h0 : -9223372036854775808 ≤ a) (h1 : a ≤ 9223372036854775807) (g0 : -9223372036854775808 ≤ b) (g1 : b ≤ 9223372036854775807) (w : World) :
    Calls Tryd.prog 19 #[.string bDiv, .int .i64 a, .int .i64 b] w fun e w' => e = .returned (.tuple #[.int .i64 (v_bDiv a b), .int .i64 (e_bDiv a b)]) ∧ w = w' := by
  by_cases hb : b = 0
  · have q : (b == 0) = true := by simpa using hb
    have H : Hid (0 = v_bDiv a b ∧ 11 = e_bDiv a b) := by show _ ∧ _; rw [v_bDiv, e_bDiv, if_pos hb, if_pos hb]; exact ⟨rfl, rfl⟩
    clear hb
    go_enter Tryd.func19, Tryd.ntmps19
    go_wp2_with fail
    go_ret2
    exact ⟨pow_one_ret H.out, rfl⟩
  · have q : (b == 0) = false := by simpa using hb
    have H : Hid (rV (fq a b) = v_bDiv a b ∧ rE (fq a b) = e_bDiv a b) := by show _ ∧ _; rw [v_bDiv, e_bDiv, if_neg hb, if_neg hb]; exact ⟨rfl, rfl⟩
    go_enter Tryd.func19, Tryd.ntmps19
    go_wp2_with (go_at_call 37; refine (r_div _ _ h0 h1 g0 g1 hb _).mono ?_; rintro e w' ⟨rfl, rfl⟩)
    go_ret2
    exact ⟨pow_one_ret H.out, rfl⟩

set_option maxRecDepth 100000 in
theorem rb_bMod (a b : Int) (h0 : -9223372036854775808 ≤ a) (h1 : a ≤ 9223372036854775807) (g0 : -9223372036854775808 ≤ b) (g1 : b ≤ 9223372036854775807) (w : World) :
    Calls Tryd.prog 19 #[.string bMod, .int .i64 a, .int .i64 b] w fun e w' => e = .returned (.tuple #[.int .i64 (v_bMod a b), .int .i64 (e_bMod a b)]) ∧ w = w' := by
  by_cases hb : b = 0
  · have q : (b == 0) = true := by simpa using hb
    have H : Hid (0 = v_bMod a b ∧ 11 = e_bMod a b) := by show _ ∧ _; rw [v_bMod, e_bMod, if_pos hb, if_pos hb]; exact ⟨rfl, rfl⟩
    clear hb
    go_enter Tryd.func19, Tryd.ntmps19
    go_wp2_with fail
    go_ret2
    exact ⟨pow_one_ret H.out, rfl⟩
  · have q : (b == 0) = false := by simpa using hb
    have H : Hid (fm a b = v_bMod a b ∧ 0 = e_bMod a b) := by show _ ∧ _; rw [v_bMod, e_bMod, if_neg hb, if_neg hb]; exact ⟨rfl, rfl⟩
    go_enter Tryd.func19, Tryd.ntmps19
    go_wp2_with (go_at_call 38; refine (r_mod _ _ h0 h1 g0 g1 hb _).mono ?_; rintro e w' ⟨rfl, rfl⟩)
    go_ret2
    exact ⟨pow_one_ret H.out, rfl⟩

set_option maxRecDepth 100000 in
theorem rb_bMin (a b : Int)   (w : World) :
    Calls Tryd.prog 19 #[.string bMin, .int .i64 a, .int .i64 b] w fun e w' => e = .returned (.tuple #[.int .i64 (v_bMin a b), .int .i64 (e_bMin a b)]) ∧ w = w' := by
  by_cases hb : b < a
  · have H : Hid (b = v_bMin a b ∧ 0 = e_bMin a b) := by show b = lesser a b ∧ (0 : Int) = 0; rw [lesser, if_pos hb]; exact ⟨rfl, rfl⟩
    go_enter Tryd.func19, Tryd.ntmps19
    go_wp2_with fail
    go_ret2
    exact ⟨pow_one_ret H.out, rfl⟩
  · have H : Hid (a = v_bMin a b ∧ 0 = e_bMin a b) := by show a = lesser a b ∧ (0 : Int) = 0; rw [lesser, if_neg hb]; exact ⟨rfl, rfl⟩
    go_enter Tryd.func19, Tryd.ntmps19
    go_wp2_with fail
    go_ret2
    exact ⟨pow_one_ret H.out, rfl⟩

set_option maxRecDepth 100000 in
theorem rb_bMax (a b : Int)   (w : World) :
    Calls Tryd.prog 19 #[.string bMax, .int .i64 a, .int .i64 b] w fun e w' => e = .returned (.tuple #[.int .i64 (v_bMax a b), .int .i64 (e_bMax a b)]) ∧ w = w' := by
  by_cases hb : a < b
  · have H : Hid (b = v_bMax a b ∧ 0 = e_bMax a b) := by show b = greater a b ∧ (0 : Int) = 0; rw [greater, if_pos hb]; exact ⟨rfl, rfl⟩
    go_enter Tryd.func19, Tryd.ntmps19
    go_wp2_with fail
    go_ret2
    exact ⟨pow_one_ret H.out, rfl⟩
  · have H : Hid (a = v_bMax a b ∧ 0 = e_bMax a b) := by show a = greater a b ∧ (0 : Int) = 0; rw [greater, if_neg hb]; exact ⟨rfl, rfl⟩
    go_enter Tryd.func19, Tryd.ntmps19
    go_wp2_with fail
    go_ret2
    exact ⟨pow_one_ret H.out, rfl⟩

set_option maxRecDepth 100000 in
theorem rb_bShr (a b : Int) (h0 : -9223372036854775808 ≤ a) (h1 : a ≤ 9223372036854775807)  (w : World) :
    Calls Tryd.prog 19 #[.string bShr, .int .i64 a, .int .i64 b] w fun e w' => e = .returned (.tuple #[.int .i64 (v_bShr a b), .int .i64 (e_bShr a b)]) ∧ w = w' := by
  by_cases hb : b < 0 ∨ 63 < b
  · have H : Hid (0 = v_bShr a b ∧ 12 = e_bShr a b) := by show _ ∧ _; rw [v_bShr, e_bShr, if_pos hb, if_pos hb]; exact ⟨rfl, rfl⟩
    go_enter Tryd.func19, Tryd.ntmps19
    go_wp2_with (go_at_call 32; refine (rs_bad _ _ _ hb _).mono ?_; rintro e w' ⟨rfl, rfl⟩)
    go_ret2
    exact ⟨pow_one_ret H.out, rfl⟩
  · have H : Hid (a / 2 ^ b.toNat = v_bShr a b ∧ 0 = e_bShr a b) := by show _ ∧ _; rw [v_bShr, e_bShr, if_neg hb, if_neg hb]; exact ⟨rfl, rfl⟩
    have b0 : 0 ≤ b := by omega
    have b1 : b ≤ 63 := by omega
    clear hb
    go_enter Tryd.func19, Tryd.ntmps19
    go_wp2_with (go_at_call 32; refine (rs_right _ _ h0 h1 b0 b1 _).mono ?_; rintro e w' ⟨rfl, rfl⟩)
    go_ret2
    exact ⟨pow_one_ret H.out, rfl⟩

set_option maxRecDepth 100000 in
theorem rb_bShl (a b : Int) (h0 : -9223372036854775808 ≤ a) (h1 : a ≤ 9223372036854775807)  (w : World) :
    Calls Tryd.prog 19 #[.string bShl, .int .i64 a, .int .i64 b] w fun e w' => e = .returned (.tuple #[.int .i64 (v_bShl a b), .int .i64 (e_bShl a b)]) ∧ w = w' := by
  by_cases hb : b < 0 ∨ 63 < b
  · have H : Hid (0 = v_bShl a b ∧ 12 = e_bShl a b) := by show _ ∧ _; rw [v_bShl, e_bShl, if_pos hb, if_pos hb]; exact ⟨rfl, rfl⟩
    go_enter Tryd.func19, Tryd.ntmps19
    go_wp2_with (go_at_call 32; refine (rs_bad _ _ _ hb _).mono ?_; rintro e w' ⟨rfl, rfl⟩)
    go_ret2
    exact ⟨pow_one_ret H.out, rfl⟩
  · have H : Hid (rV (a * 2 ^ b.toNat) = v_bShl a b ∧ rE (a * 2 ^ b.toNat) = e_bShl a b) := by show _ ∧ _; rw [v_bShl, e_bShl, if_neg hb, if_neg hb]; exact ⟨rfl, rfl⟩
    have b0 : 0 ≤ b := by omega
    have b1 : b ≤ 63 := by omega
    clear hb
    go_enter Tryd.func19, Tryd.ntmps19
    go_wp2_with (go_at_call 32; refine (rs_left _ _ h0 h1 b0 b1 _).mono ?_; rintro e w' ⟨rfl, rfl⟩)
    go_ret2
    exact ⟨pow_one_ret H.out, rfl⟩

set_option maxRecDepth 100000 in
theorem rb_bAnd (a b : Int)   (w : World) :
    Calls Tryd.prog 19 #[.string bAnd, .int .i64 a, .int .i64 b] w fun e w' => e = .returned (.tuple #[.int .i64 (v_bAnd a b), .int .i64 (e_bAnd a b)]) ∧ w = w' := by
  have H : Hid (bits .and .i64 a b = v_bAnd a b ∧ 0 = e_bAnd a b) := ⟨rfl, rfl⟩
  go_enter Tryd.func19, Tryd.ntmps19
  go_wp2_with fail
  go_ret2
  exact ⟨pow_one_ret H.out, rfl⟩

set_option maxRecDepth 100000 in
theorem rb_bOr (a b : Int)   (w : World) :
    Calls Tryd.prog 19 #[.string bOr, .int .i64 a, .int .i64 b] w fun e w' => e = .returned (.tuple #[.int .i64 (v_bOr a b), .int .i64 (e_bOr a b)]) ∧ w = w' := by
  have H : Hid (bits .or .i64 a b = v_bOr a b ∧ 0 = e_bOr a b) := ⟨rfl, rfl⟩
  go_enter Tryd.func19, Tryd.ntmps19
  go_wp2_with fail
  go_ret2
  exact ⟨pow_one_ret H.out, rfl⟩

set_option maxRecDepth 100000 in
theorem rb_bXor (a b : Int)   (w : World) :
    Calls Tryd.prog 19 #[.string bXor, .int .i64 a, .int .i64 b] w fun e w' => e = .returned (.tuple #[.int .i64 (v_bXor a b), .int .i64 (e_bXor a b)]) ∧ w = w' := by
  have H : Hid (bits .xor .i64 a b = v_bXor a b ∧ 0 = e_bXor a b) := ⟨rfl, rfl⟩
  go_enter Tryd.func19, Tryd.ntmps19
  go_wp2_with fail
  go_ret2
  exact ⟨pow_one_ret H.out, rfl⟩

set_option maxRecDepth 100000 in
theorem rb_bPow (a b : Int) (h0 : -9223372036854775808 ≤ a) (h1 : a ≤ 9223372036854775807) (_g0 : -9223372036854775808 ≤ b) (g1 : b ≤ 9223372036854775807) (w : World) :
    Calls Tryd.prog 19 #[.string bPow, .int .i64 a, .int .i64 b] w fun e w' => e = .returned (.tuple #[.int .i64 (v_bPow a b), .int .i64 (e_bPow a b)]) ∧ w = w' := by
  have H : Hid (powV a b = v_bPow a b ∧ powE a b = e_bPow a b) := ⟨rfl, rfl⟩
  go_enter Tryd.func19, Tryd.ntmps19
  go_wp2_with (go_at_call 33; refine (r_power _ _ h0 h1 g1 _).mono ?_; rintro e w' ⟨rfl, rfl⟩)
  go_ret2
  exact ⟨pow_one_ret H.out, rfl⟩

set_option maxRecDepth 100000 in
theorem rb_bGcd (a b : Int) (h0 : -9223372036854775808 ≤ a) (h1 : a ≤ 9223372036854775807) (g0 : -9223372036854775808 ≤ b) (g1 : b ≤ 9223372036854775807) (w : World) :
    Calls Tryd.prog 19 #[.string bGcd, .int .i64 a, .int .i64 b] w fun e w' => e = .returned (.tuple #[.int .i64 (v_bGcd a b), .int .i64 (e_bGcd a b)]) ∧ w = w' := by
  have H : Hid (rV (Int.gcd a b : Nat) = v_bGcd a b ∧ rE (Int.gcd a b : Nat) = e_bGcd a b) := ⟨rfl, rfl⟩
  go_enter Tryd.func19, Tryd.ntmps19
  go_wp2_with (go_at_call 34; refine (r_gcd _ _ h0 h1 g0 g1 _).mono ?_; rintro e w' ⟨rfl, rfl⟩)
  go_ret2
  exact ⟨pow_one_ret H.out, rfl⟩

set_option maxRecDepth 100000 in
set_option maxHeartbeats 1000000 in
theorem rb_no (s : ByteArray) (a b : Int) (w : World) (h : bKnown s = false) :
    Calls Tryd.prog 19 #[.string s, .int .i64 a, .int .i64 b] w fun e w' => e = .returned (.tuple #[.int .i64 0, .int .i64 4]) ∧ w = w' := by
  simp only [bKnown, decide_eq_false_iff_not, not_or] at h
  obtain ⟨k0, k1, k2, k3, k4, k5, k6, k7, k8, k9, k10, k11, k12, k13, k14, k15⟩ := h
  have q0 := ne_list [43] k0
  have q1 := ne_list [45] k1
  have q2 := ne_list [42] k2
  have q3 := ne_list [47, 47] k3
  have q4 := ne_list [114, 101, 109] k4
  have q5 := ne_list [100, 105, 118] k5
  have q6 := ne_list [109, 111, 100] k6
  have q7 := ne_list [109, 105, 110] k7
  have q8 := ne_list [109, 97, 120] k8
  have q9 := ne_list [62, 62] k9
  have q10 := ne_list [60, 60] k10
  have q11 := ne_list [47, 92] k11
  have q12 := ne_list [92, 47] k12
  have q13 := ne_list [120, 111, 114] k13
  have q14 := ne_list [94] k14
  have q15 := ne_list [103, 99, 100] k15
  clear k0 k1 k2 k3 k4 k5 k6 k7 k8 k9 k10 k11 k12 k13 k14 k15
  go_enter Tryd.func19, Tryd.ntmps19
  go_wp2_with fail
  go_ret2
  exact ⟨rfl, rfl⟩

theorem ref_binary (s : ByteArray) (a b : Int) (h0 : -9223372036854775808 ≤ a) (h1 : a ≤ 9223372036854775807) (g0 : -9223372036854775808 ≤ b) (g1 : b ≤ 9223372036854775807) (w : World) :
    Calls Tryd.prog 19 #[.string s, .int .i64 a, .int .i64 b] w fun e w' => e = .returned (.tuple #[.int .i64 (bV s a b), .int .i64 (bE s a b)]) ∧ w = w' := by
  cases hk : bKnown s
  · have e1 : bV s a b = 0 ∧ bE s a b = 4 := by
      simp only [bKnown, decide_eq_false_iff_not, not_or] at hk
      obtain ⟨k0, k1, k2, k3, k4, k5, k6, k7, k8, k9, k10, k11, k12, k13, k14, k15⟩ := hk
      simp only [bV, bE, if_neg k0, if_neg k1, if_neg k2, if_neg k3, if_neg k4, if_neg k5, if_neg k6, if_neg k7, if_neg k8, if_neg k9, if_neg k10, if_neg k11, if_neg k12, if_neg k13, if_neg k14, if_neg k15]; exact ⟨trivial, trivial⟩
    rw [e1.1, e1.2]; exact rb_no s a b w hk
  · simp only [bKnown, decide_eq_true_eq] at hk
    rcases hk with rfl | rfl | rfl | rfl | rfl | rfl | rfl | rfl | rfl | rfl | rfl | rfl | rfl | rfl | rfl | rfl
    · exact rb_bPlus a b h0 h1 g0 g1 w
    · exact rb_bMinus a b h0 h1 g0 g1 w
    · exact rb_bTimes a b h0 h1 g0 g1 w
    · exact rb_bQuot a b h0 h1 w
    · exact rb_bRem a b h0 h1 g0 g1 w
    · exact rb_bDiv a b h0 h1 g0 g1 w
    · exact rb_bMod a b h0 h1 g0 g1 w
    · exact rb_bMin a b w
    · exact rb_bMax a b w
    · exact rb_bShr a b h0 h1 w
    · exact rb_bShl a b h0 h1 w
    · exact rb_bAnd a b w
    · exact rb_bOr a b w
    · exact rb_bXor a b w
    · exact rb_bPow a b h0 h1 g0 g1 w
    · exact rb_bGcd a b h0 h1 g0 g1 w

/-- The law's walk. -/
theorem binary_walk (s : ByteArray) (a b : Int) (h0 : -9223372036854775808 ≤ a) (h1 : a ≤ 9223372036854775807) (g0 : -9223372036854775808 ≤ b) (g1 : b ≤ 9223372036854775807) (w : World) (hL : Laid w) :
    Calls Tryd.prog 4 #[.string s, .int .i64 a, .int .i64 b] w fun e w' => e = .returned (.bool true) ∧ Below w.heap.size w w' := by
  have HL := Lib.hid hL
  clear hL
  obtain ⟨V, hV⟩ : ∃ V, V = bV s a b := ⟨_, rfl⟩
  obtain ⟨E, hE⟩ : ∃ E, E = bE s a b := ⟨_, rfl⟩
  have f2 : (V == V) = true := by simp
  have f3 : (E == E) = true := by simp
  have HU : Hid (∀ w, Calls Tryd.prog 18 #[.string s, .int .i64 a, .int .i64 b] w fun e w' => e = .returned (.tuple #[.int .i64 V, .int .i64 E]) ∧ Below w.heap.size w w') := by
    show ∀ w, _
    rw [hV, hE]; exact binary_any s a b h0 h1 g0 g1
  have HR : Hid (∀ w, Calls Tryd.prog 19 #[.string s, .int .i64 a, .int .i64 b] w fun e w' => e = .returned (.tuple #[.int .i64 V, .int .i64 E]) ∧ w = w') := by
    show ∀ w, _
    rw [hV, hE]; exact ref_binary s a b h0 h1 g0 g1
  clear hV hE h0 h1 g0 g1
  go_enter Tryd.func4, Tryd.ntmps4
  go_wp2_with fail
  refine (HU.out _).mono ?_
  rintro e w1 ⟨rfl, B1⟩
  go_wp2_with fail
  refine (HR.out _).mono ?_
  rintro e w' ⟨rfl, rfl⟩
  go_wp2_with fail
  refine (example_any _ (HL.out.below B1)).mono ?_
  rintro e w4 ⟨rfl, hb4⟩
  have B4 := B1.trans (hb4.mono B1.size)
  clear B1 hb4
  go_wp2_with fail
  go_ret
  exact ⟨rfl, B4⟩

end Go.Proofs.YthfclbbmioenlaaDoor
