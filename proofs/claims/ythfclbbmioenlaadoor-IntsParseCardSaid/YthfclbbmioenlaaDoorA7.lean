/- The contract of Binary: it returns the value and the error of the function that the name names. -/
import Derived.Test.YthfclbbmioenlaaDoorA6
namespace Go.Proofs.YthfclbbmioenlaaDoor
open Go.RowKit

theorem binary_no (s : ByteArray) (a b : Int) (w : World) (h : bKnown s = false) :
    Calls Tryd.prog 18 #[.string s, .int .i64 a, .int .i64 b] w fun e w' => e = .returned (.tuple #[.int .i64 0, .int .i64 4]) ∧ Below w.heap.size w w' := by
  have H := Lib.hid (b_find_no s w.heap.size h)
  clear h
  go_enter Tryd.func18, Tryd.ntmps18
  go_wp2_with (first | ((with_reducible refine HF.at_look ?_); refine HF.wpList_look_fn rfl _ _ rfl Tryd.underlying51 Tryd.underlying9 rfl hU.out.map (Tryd.zeroValue49 _) _ rfl (r := .nilFunc) (c := false) (by rw [H.out]; rfl) (by rw [H.out]; rfl) ?_) | (go_at_call 28; refine (binaries_any _).mono ?_; rintro e w1 ⟨rfl, hb1, hU0⟩; have hU := Lib.hid hU0; clear hU0))
  go_ret2
  exact ⟨rfl, hb1⟩

theorem below_some {w w1 w2 : World} (hb : Below w.heap.size w w1) (h : ∃ n, w2 = w1.drewN n) : Below w.heap.size w w2 := by
  obtain ⟨n, rfl⟩ := h
  exact hb.trans ⟨rfl, rfl, rfl, Nat.le_refl _, fun _ _ => rfl⟩

theorem binary_bPlus (a b : Int) (h0 : -9223372036854775808 ≤ a) (h1 : a ≤ 9223372036854775807) (g0 : -9223372036854775808 ≤ b) (g1 : b ≤ 9223372036854775807) (w : World) :
    Calls Tryd.prog 18 #[.string bPlus, .int .i64 a, .int .i64 b] w fun e w' => e = .returned (.tuple #[.int .i64 (v_bPlus a b), .int .i64 (e_bPlus a b)]) ∧ Below w.heap.size w w' := by
  have H := Lib.hid (f_bPlus w.heap.size)
  go_enter Tryd.func18, Tryd.ntmps18
  go_wp2_with (first | ((with_reducible refine HF.at_look ?_); refine HF.wpList_look_fn rfl _ _ rfl Tryd.underlying51 Tryd.underlying9 rfl hU.out.map (Tryd.zeroValue49 _) _ rfl (r := fn 57) (c := true) (by rw [H.out]; rfl) (by rw [H.out]; rfl) ?_) | (go_at_call 28; refine (binaries_any _).mono ?_; rintro e w1 ⟨rfl, hb1, hU0⟩; have hU := Lib.hid hU0; clear hU0) | (go_at_call 57; refine (sum_any _ _ h0 h1 g0 g1 _).mono ?_; rintro e w' ⟨rfl, rfl⟩))
  go_ret2
  exact ⟨rfl, hb1⟩

theorem binary_bMinus (a b : Int) (h0 : -9223372036854775808 ≤ a) (h1 : a ≤ 9223372036854775807) (g0 : -9223372036854775808 ≤ b) (g1 : b ≤ 9223372036854775807) (w : World) :
    Calls Tryd.prog 18 #[.string bMinus, .int .i64 a, .int .i64 b] w fun e w' => e = .returned (.tuple #[.int .i64 (v_bMinus a b), .int .i64 (e_bMinus a b)]) ∧ Below w.heap.size w w' := by
  have H := Lib.hid (f_bMinus w.heap.size)
  go_enter Tryd.func18, Tryd.ntmps18
  go_wp2_with (first | ((with_reducible refine HF.at_look ?_); refine HF.wpList_look_fn rfl _ _ rfl Tryd.underlying51 Tryd.underlying9 rfl hU.out.map (Tryd.zeroValue49 _) _ rfl (r := fn 58) (c := true) (by rw [H.out]; rfl) (by rw [H.out]; rfl) ?_) | (go_at_call 28; refine (binaries_any _).mono ?_; rintro e w1 ⟨rfl, hb1, hU0⟩; have hU := Lib.hid hU0; clear hU0) | (go_at_call 58; refine (dif_any _ _ h0 h1 g0 g1 _).mono ?_; rintro e w' ⟨rfl, rfl⟩))
  go_ret2
  exact ⟨rfl, hb1⟩

theorem binary_bTimes (a b : Int) (h0 : -9223372036854775808 ≤ a) (h1 : a ≤ 9223372036854775807) (g0 : -9223372036854775808 ≤ b) (g1 : b ≤ 9223372036854775807) (w : World) :
    Calls Tryd.prog 18 #[.string bTimes, .int .i64 a, .int .i64 b] w fun e w' => e = .returned (.tuple #[.int .i64 (v_bTimes a b), .int .i64 (e_bTimes a b)]) ∧ Below w.heap.size w w' := by
  have H := Lib.hid (f_bTimes w.heap.size)
  go_enter Tryd.func18, Tryd.ntmps18
  go_wp2_with (first | ((with_reducible refine HF.at_look ?_); refine HF.wpList_look_fn rfl _ _ rfl Tryd.underlying51 Tryd.underlying9 rfl hU.out.map (Tryd.zeroValue49 _) _ rfl (r := fn 59) (c := true) (by rw [H.out]; rfl) (by rw [H.out]; rfl) ?_) | (go_at_call 28; refine (binaries_any _).mono ?_; rintro e w1 ⟨rfl, hb1, hU0⟩; have hU := Lib.hid hU0; clear hU0) | (go_at_call 59; refine (mul_any _ _ h0 h1 g0 g1 _).mono ?_; rintro e w' ⟨rfl, rfl⟩))
  go_ret2
  exact ⟨rfl, hb1⟩

theorem binary_bQuot (a b : Int) (h0 : -9223372036854775808 ≤ a) (h1 : a ≤ 9223372036854775807) (_g0 : -9223372036854775808 ≤ b) (_g1 : b ≤ 9223372036854775807) (w : World) :
    Calls Tryd.prog 18 #[.string bQuot, .int .i64 a, .int .i64 b] w fun e w' => e = .returned (.tuple #[.int .i64 (v_bQuot a b), .int .i64 (e_bQuot a b)]) ∧ Below w.heap.size w w' := by
  have H := Lib.hid (f_bQuot w.heap.size)
  go_enter Tryd.func18, Tryd.ntmps18
  go_wp2_with (first | ((with_reducible refine HF.at_look ?_); refine HF.wpList_look_fn rfl _ _ rfl Tryd.underlying51 Tryd.underlying9 rfl hU.out.map (Tryd.zeroValue49 _) _ rfl (r := clo 54 (w.heap.size + 1)) (c := true) (by rw [H.out]; rfl) (by rw [H.out]; rfl) ?_) | (go_at_call 28; refine (binaries_any _).mono ?_; rintro e w1 ⟨rfl, hb1, hU0⟩; have hU := Lib.hid hU0; clear hU0) | (go_at_call 54; refine (c_bQuot _ _ _ h0 h1 _ hU.out.b1.cell).mono ?_; rintro e w' ⟨rfl, rfl⟩))
  go_ret2
  exact ⟨rfl, hb1⟩

theorem binary_bRem (a b : Int) (_h0 : -9223372036854775808 ≤ a) (_h1 : a ≤ 9223372036854775807) (_g0 : -9223372036854775808 ≤ b) (_g1 : b ≤ 9223372036854775807) (w : World) :
    Calls Tryd.prog 18 #[.string bRem, .int .i64 a, .int .i64 b] w fun e w' => e = .returned (.tuple #[.int .i64 (v_bRem a b), .int .i64 (e_bRem a b)]) ∧ Below w.heap.size w w' := by
  have H := Lib.hid (f_bRem w.heap.size)
  go_enter Tryd.func18, Tryd.ntmps18
  go_wp2_with (first | ((with_reducible refine HF.at_look ?_); refine HF.wpList_look_fn rfl _ _ rfl Tryd.underlying51 Tryd.underlying9 rfl hU.out.map (Tryd.zeroValue49 _) _ rfl (r := clo 54 (w.heap.size + 3)) (c := true) (by rw [H.out]; rfl) (by rw [H.out]; rfl) ?_) | (go_at_call 28; refine (binaries_any _).mono ?_; rintro e w1 ⟨rfl, hb1, hU0⟩; have hU := Lib.hid hU0; clear hU0) | (go_at_call 54; refine (c_bRem _ _ _ _ _ hU.out.b3.cell hU.out.b2.cell).mono ?_; rintro e w' ⟨rfl, rfl⟩))
  go_ret2
  exact ⟨rfl, hb1⟩

theorem binary_bDiv (a b : Int) (h0 : -9223372036854775808 ≤ a) (h1 : a ≤ 9223372036854775807) (_g0 : -9223372036854775808 ≤ b) (_g1 : b ≤ 9223372036854775807) (w : World) :
    Calls Tryd.prog 18 #[.string bDiv, .int .i64 a, .int .i64 b] w fun e w' => e = .returned (.tuple #[.int .i64 (v_bDiv a b), .int .i64 (e_bDiv a b)]) ∧ Below w.heap.size w w' := by
  have H := Lib.hid (f_bDiv w.heap.size)
  go_enter Tryd.func18, Tryd.ntmps18
  go_wp2_with (first | ((with_reducible refine HF.at_look ?_); refine HF.wpList_look_fn rfl _ _ rfl Tryd.underlying51 Tryd.underlying9 rfl hU.out.map (Tryd.zeroValue49 _) _ rfl (r := clo 54 (w.heap.size + 4)) (c := true) (by rw [H.out]; rfl) (by rw [H.out]; rfl) ?_) | (go_at_call 28; refine (binaries_any _).mono ?_; rintro e w1 ⟨rfl, hb1, hU0⟩; have hU := Lib.hid hU0; clear hU0) | (go_at_call 54; refine (c_bDiv _ _ _ h0 h1 _ hU.out.b4.cell).mono ?_; rintro e w' ⟨rfl, rfl⟩))
  go_ret2
  exact ⟨rfl, hb1⟩

theorem binary_bMod (a b : Int) (_h0 : -9223372036854775808 ≤ a) (_h1 : a ≤ 9223372036854775807) (g0 : -9223372036854775808 ≤ b) (g1 : b ≤ 9223372036854775807) (w : World) :
    Calls Tryd.prog 18 #[.string bMod, .int .i64 a, .int .i64 b] w fun e w' => e = .returned (.tuple #[.int .i64 (v_bMod a b), .int .i64 (e_bMod a b)]) ∧ Below w.heap.size w w' := by
  have H := Lib.hid (f_bMod w.heap.size)
  go_enter Tryd.func18, Tryd.ntmps18
  go_wp2_with (first | ((with_reducible refine HF.at_look ?_); refine HF.wpList_look_fn rfl _ _ rfl Tryd.underlying51 Tryd.underlying9 rfl hU.out.map (Tryd.zeroValue49 _) _ rfl (r := clo 54 (w.heap.size + 6)) (c := true) (by rw [H.out]; rfl) (by rw [H.out]; rfl) ?_) | (go_at_call 28; refine (binaries_any _).mono ?_; rintro e w1 ⟨rfl, hb1, hU0⟩; have hU := Lib.hid hU0; clear hU0) | (go_at_call 54; refine (c_bMod _ _ _ _ g0 g1 _ hU.out.b6.cell hU.out.b5.cell).mono ?_; rintro e w' ⟨rfl, rfl⟩))
  go_ret2
  exact ⟨rfl, hb1⟩

theorem binary_bMin (a b : Int) (_h0 : -9223372036854775808 ≤ a) (_h1 : a ≤ 9223372036854775807) (_g0 : -9223372036854775808 ≤ b) (_g1 : b ≤ 9223372036854775807) (w : World) :
    Calls Tryd.prog 18 #[.string bMin, .int .i64 a, .int .i64 b] w fun e w' => e = .returned (.tuple #[.int .i64 (v_bMin a b), .int .i64 (e_bMin a b)]) ∧ Below w.heap.size w w' := by
  have H := Lib.hid (f_bMin w.heap.size)
  go_enter Tryd.func18, Tryd.ntmps18
  go_wp2_with (first | ((with_reducible refine HF.at_look ?_); refine HF.wpList_look_fn rfl _ _ rfl Tryd.underlying51 Tryd.underlying9 rfl hU.out.map (Tryd.zeroValue49 _) _ rfl (r := clo 52 (w.heap.size + 7)) (c := true) (by rw [H.out]; rfl) (by rw [H.out]; rfl) ?_) | (go_at_call 28; refine (binaries_any _).mono ?_; rintro e w1 ⟨rfl, hb1, hU0⟩; have hU := Lib.hid hU0; clear hU0) | (go_at_call 52; refine (clo64_any _ _ _ _ hU.out.b7.cell).mono ?_; rintro e w' ⟨rfl, rfl⟩))
  go_ret2
  exact ⟨rfl, hb1⟩

theorem binary_bMax (a b : Int) (_h0 : -9223372036854775808 ≤ a) (_h1 : a ≤ 9223372036854775807) (_g0 : -9223372036854775808 ≤ b) (_g1 : b ≤ 9223372036854775807) (w : World) :
    Calls Tryd.prog 18 #[.string bMax, .int .i64 a, .int .i64 b] w fun e w' => e = .returned (.tuple #[.int .i64 (v_bMax a b), .int .i64 (e_bMax a b)]) ∧ Below w.heap.size w w' := by
  have H := Lib.hid (f_bMax w.heap.size)
  go_enter Tryd.func18, Tryd.ntmps18
  go_wp2_with (first | ((with_reducible refine HF.at_look ?_); refine HF.wpList_look_fn rfl _ _ rfl Tryd.underlying51 Tryd.underlying9 rfl hU.out.map (Tryd.zeroValue49 _) _ rfl (r := clo 52 (w.heap.size + 8)) (c := true) (by rw [H.out]; rfl) (by rw [H.out]; rfl) ?_) | (go_at_call 28; refine (binaries_any _).mono ?_; rintro e w1 ⟨rfl, hb1, hU0⟩; have hU := Lib.hid hU0; clear hU0) | (go_at_call 52; refine (clo65_any _ _ _ _ hU.out.b8.cell).mono ?_; rintro e w' ⟨rfl, rfl⟩))
  go_ret2
  exact ⟨rfl, hb1⟩

theorem binary_bShr (a b : Int) (_h0 : -9223372036854775808 ≤ a) (_h1 : a ≤ 9223372036854775807) (_g0 : -9223372036854775808 ≤ b) (_g1 : b ≤ 9223372036854775807) (w : World) :
    Calls Tryd.prog 18 #[.string bShr, .int .i64 a, .int .i64 b] w fun e w' => e = .returned (.tuple #[.int .i64 (v_bShr a b), .int .i64 (e_bShr a b)]) ∧ Below w.heap.size w w' := by
  have H := Lib.hid (f_bShr w.heap.size)
  go_enter Tryd.func18, Tryd.ntmps18
  go_wp2_with (first | ((with_reducible refine HF.at_look ?_); refine HF.wpList_look_fn rfl _ _ rfl Tryd.underlying51 Tryd.underlying9 rfl hU.out.map (Tryd.zeroValue49 _) _ rfl (r := clo 56 (w.heap.size + 10)) (c := true) (by rw [H.out]; rfl) (by rw [H.out]; rfl) ?_) | (go_at_call 28; refine (binaries_any _).mono ?_; rintro e w1 ⟨rfl, hb1, hU0⟩; have hU := Lib.hid hU0; clear hU0) | (go_at_call 56; refine (c_bShr _ _ _ _ _ hU.out.b10.cell hU.out.b9.cell).mono ?_; rintro e w' ⟨rfl, rfl⟩))
  go_ret2
  exact ⟨rfl, hb1⟩

theorem binary_bShl (a b : Int) (_h0 : -9223372036854775808 ≤ a) (_h1 : a ≤ 9223372036854775807) (_g0 : -9223372036854775808 ≤ b) (_g1 : b ≤ 9223372036854775807) (w : World) :
    Calls Tryd.prog 18 #[.string bShl, .int .i64 a, .int .i64 b] w fun e w' => e = .returned (.tuple #[.int .i64 (v_bShl a b), .int .i64 (e_bShl a b)]) ∧ Below w.heap.size w w' := by
  have H := Lib.hid (f_bShl w.heap.size)
  go_enter Tryd.func18, Tryd.ntmps18
  go_wp2_with (first | ((with_reducible refine HF.at_look ?_); refine HF.wpList_look_fn rfl _ _ rfl Tryd.underlying51 Tryd.underlying9 rfl hU.out.map (Tryd.zeroValue49 _) _ rfl (r := clo 56 (w.heap.size + 11)) (c := true) (by rw [H.out]; rfl) (by rw [H.out]; rfl) ?_) | (go_at_call 28; refine (binaries_any _).mono ?_; rintro e w1 ⟨rfl, hb1, hU0⟩; have hU := Lib.hid hU0; clear hU0) | (go_at_call 56; refine (c_bShl _ _ _ _ hU.out.b11.cell).mono ?_; rintro e w' ⟨rfl, rfl⟩))
  go_ret2
  exact ⟨rfl, hb1⟩

theorem binary_bAnd (a b : Int) (_h0 : -9223372036854775808 ≤ a) (_h1 : a ≤ 9223372036854775807) (_g0 : -9223372036854775808 ≤ b) (_g1 : b ≤ 9223372036854775807) (w : World) :
    Calls Tryd.prog 18 #[.string bAnd, .int .i64 a, .int .i64 b] w fun e w' => e = .returned (.tuple #[.int .i64 (v_bAnd a b), .int .i64 (e_bAnd a b)]) ∧ Below w.heap.size w w' := by
  have H := Lib.hid (f_bAnd w.heap.size)
  go_enter Tryd.func18, Tryd.ntmps18
  go_wp2_with (first | ((with_reducible refine HF.at_look ?_); refine HF.wpList_look_fn rfl _ _ rfl Tryd.underlying51 Tryd.underlying9 rfl hU.out.map (Tryd.zeroValue49 _) _ rfl (r := clo 52 (w.heap.size + 12)) (c := true) (by rw [H.out]; rfl) (by rw [H.out]; rfl) ?_) | (go_at_call 28; refine (binaries_any _).mono ?_; rintro e w1 ⟨rfl, hb1, hU0⟩; have hU := Lib.hid hU0; clear hU0) | (go_at_call 52; refine (clo68_any _ _ _ _ hU.out.b12.cell).mono ?_; rintro e w' ⟨rfl, rfl⟩))
  go_ret2
  exact ⟨rfl, hb1⟩

theorem binary_bOr (a b : Int) (_h0 : -9223372036854775808 ≤ a) (_h1 : a ≤ 9223372036854775807) (_g0 : -9223372036854775808 ≤ b) (_g1 : b ≤ 9223372036854775807) (w : World) :
    Calls Tryd.prog 18 #[.string bOr, .int .i64 a, .int .i64 b] w fun e w' => e = .returned (.tuple #[.int .i64 (v_bOr a b), .int .i64 (e_bOr a b)]) ∧ Below w.heap.size w w' := by
  have H := Lib.hid (f_bOr w.heap.size)
  go_enter Tryd.func18, Tryd.ntmps18
  go_wp2_with (first | ((with_reducible refine HF.at_look ?_); refine HF.wpList_look_fn rfl _ _ rfl Tryd.underlying51 Tryd.underlying9 rfl hU.out.map (Tryd.zeroValue49 _) _ rfl (r := clo 52 (w.heap.size + 13)) (c := true) (by rw [H.out]; rfl) (by rw [H.out]; rfl) ?_) | (go_at_call 28; refine (binaries_any _).mono ?_; rintro e w1 ⟨rfl, hb1, hU0⟩; have hU := Lib.hid hU0; clear hU0) | (go_at_call 52; refine (clo69_any _ _ _ _ hU.out.b13.cell).mono ?_; rintro e w' ⟨rfl, rfl⟩))
  go_ret2
  exact ⟨rfl, hb1⟩

theorem binary_bXor (a b : Int) (_h0 : -9223372036854775808 ≤ a) (_h1 : a ≤ 9223372036854775807) (_g0 : -9223372036854775808 ≤ b) (_g1 : b ≤ 9223372036854775807) (w : World) :
    Calls Tryd.prog 18 #[.string bXor, .int .i64 a, .int .i64 b] w fun e w' => e = .returned (.tuple #[.int .i64 (v_bXor a b), .int .i64 (e_bXor a b)]) ∧ Below w.heap.size w w' := by
  have H := Lib.hid (f_bXor w.heap.size)
  go_enter Tryd.func18, Tryd.ntmps18
  go_wp2_with (first | ((with_reducible refine HF.at_look ?_); refine HF.wpList_look_fn rfl _ _ rfl Tryd.underlying51 Tryd.underlying9 rfl hU.out.map (Tryd.zeroValue49 _) _ rfl (r := clo 52 (w.heap.size + 14)) (c := true) (by rw [H.out]; rfl) (by rw [H.out]; rfl) ?_) | (go_at_call 28; refine (binaries_any _).mono ?_; rintro e w1 ⟨rfl, hb1, hU0⟩; have hU := Lib.hid hU0; clear hU0) | (go_at_call 52; refine (clo70_any _ _ _ _ hU.out.b14.cell).mono ?_; rintro e w' ⟨rfl, rfl⟩))
  go_ret2
  exact ⟨rfl, hb1⟩

theorem binary_bPow (a b : Int) (h0 : -9223372036854775808 ≤ a) (h1 : a ≤ 9223372036854775807) (_g0 : -9223372036854775808 ≤ b) (g1 : b ≤ 9223372036854775807) (w : World) :
    Calls Tryd.prog 18 #[.string bPow, .int .i64 a, .int .i64 b] w fun e w' => e = .returned (.tuple #[.int .i64 (v_bPow a b), .int .i64 (e_bPow a b)]) ∧ Below w.heap.size w w' := by
  have H := Lib.hid (f_bPow w.heap.size)
  go_enter Tryd.func18, Tryd.ntmps18
  go_wp2_with (first | ((with_reducible refine HF.at_look ?_); refine HF.wpList_look_fn rfl _ _ rfl Tryd.underlying51 Tryd.underlying9 rfl hU.out.map (Tryd.zeroValue49 _) _ rfl (r := fn 71) (c := true) (by rw [H.out]; rfl) (by rw [H.out]; rfl) ?_) | (go_at_call 28; refine (binaries_any _).mono ?_; rintro e w1 ⟨rfl, hb1, hU0⟩; have hU := Lib.hid hU0; clear hU0) | (go_at_call 71; refine (power_any _ _ h0 h1 g1 _).mono ?_; rintro e w' ⟨rfl, rfl⟩))
  go_ret2
  exact ⟨rfl, hb1⟩

theorem binary_bGcd (a b : Int) (h0 : -9223372036854775808 ≤ a) (h1 : a ≤ 9223372036854775807) (g0 : -9223372036854775808 ≤ b) (g1 : b ≤ 9223372036854775807) (w : World) :
    Calls Tryd.prog 18 #[.string bGcd, .int .i64 a, .int .i64 b] w fun e w' => e = .returned (.tuple #[.int .i64 (v_bGcd a b), .int .i64 (e_bGcd a b)]) ∧ Below w.heap.size w w' := by
  have H := Lib.hid (f_bGcd w.heap.size)
  go_enter Tryd.func18, Tryd.ntmps18
  go_wp2_with (first | ((with_reducible refine HF.at_look ?_); refine HF.wpList_look_fn rfl _ _ rfl Tryd.underlying51 Tryd.underlying9 rfl hU.out.map (Tryd.zeroValue49 _) _ rfl (r := fn 72) (c := true) (by rw [H.out]; rfl) (by rw [H.out]; rfl) ?_) | (go_at_call 28; refine (binaries_any _).mono ?_; rintro e w1 ⟨rfl, hb1, hU0⟩; have hU := Lib.hid hU0; clear hU0) | (go_at_call 72; refine (gcd_any _ _ h0 h1 g0 g1 _).mono ?_; rintro e w2 ⟨rfl, hn⟩; have hb2 := below_some hb1 hn; clear hn))
  go_ret2
  exact ⟨rfl, hb2⟩

/-- Binary returns the value and the error of the specification. -/
theorem binary_any (s : ByteArray) (a b : Int) (h0 : -9223372036854775808 ≤ a) (h1 : a ≤ 9223372036854775807) (g0 : -9223372036854775808 ≤ b) (g1 : b ≤ 9223372036854775807) (w : World) :
    Calls Tryd.prog 18 #[.string s, .int .i64 a, .int .i64 b] w fun e w' => e = .returned (.tuple #[.int .i64 (bV s a b), .int .i64 (bE s a b)]) ∧ Below w.heap.size w w' := by
  cases hk : bKnown s
  · have e1 : bV s a b = 0 ∧ bE s a b = 4 := by
      simp only [bKnown, decide_eq_false_iff_not, not_or] at hk
      obtain ⟨k0, k1, k2, k3, k4, k5, k6, k7, k8, k9, k10, k11, k12, k13, k14, k15⟩ := hk
      simp only [bV, bE, if_neg k0, if_neg k1, if_neg k2, if_neg k3, if_neg k4, if_neg k5, if_neg k6, if_neg k7, if_neg k8, if_neg k9, if_neg k10, if_neg k11, if_neg k12, if_neg k13, if_neg k14, if_neg k15]; exact ⟨trivial, trivial⟩
    rw [e1.1, e1.2]; exact binary_no s a b w hk
  · simp only [bKnown, decide_eq_true_eq] at hk
    rcases hk with rfl | rfl | rfl | rfl | rfl | rfl | rfl | rfl | rfl | rfl | rfl | rfl | rfl | rfl | rfl | rfl
    · exact binary_bPlus a b h0 h1 g0 g1 w
    · exact binary_bMinus a b h0 h1 g0 g1 w
    · exact binary_bTimes a b h0 h1 g0 g1 w
    · exact binary_bQuot a b h0 h1 g0 g1 w
    · exact binary_bRem a b h0 h1 g0 g1 w
    · exact binary_bDiv a b h0 h1 g0 g1 w
    · exact binary_bMod a b h0 h1 g0 g1 w
    · exact binary_bMin a b h0 h1 g0 g1 w
    · exact binary_bMax a b h0 h1 g0 g1 w
    · exact binary_bShr a b h0 h1 g0 g1 w
    · exact binary_bShl a b h0 h1 g0 g1 w
    · exact binary_bAnd a b h0 h1 g0 g1 w
    · exact binary_bOr a b h0 h1 g0 g1 w
    · exact binary_bXor a b h0 h1 g0 g1 w
    · exact binary_bPow a b h0 h1 g0 g1 w
    · exact binary_bGcd a b h0 h1 g0 g1 w

end Go.Proofs.YthfclbbmioenlaaDoor
