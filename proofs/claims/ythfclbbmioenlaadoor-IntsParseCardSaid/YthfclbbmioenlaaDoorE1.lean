/- The contracts of the specification's functions of two integers. -/
import Derived.Test.YthfclbbmioenlaaDoorA4
namespace Go.Proofs.YthfclbbmioenlaaDoor
open Go.RowKit

theorem rr_in {n : Int} (h : -9223372036854775808 ≤ n ∧ n ≤ 9223372036854775807) : n = rV n ∧ 0 = rE n := by
  have := inR_iff.2 h
  simp [rV, rE, this]
theorem rr_out {n : Int} (h : ¬ (-9223372036854775808 ≤ n ∧ n ≤ 9223372036854775807)) : 0 = rV n ∧ 10 = rE n := by
  have := inR_no.2 h
  simp [rV, rE, this]

section
variable (a b : Int) (h0 : -9223372036854775808 ≤ a) (h1 : a ≤ 9223372036854775807) (g0 : -9223372036854775808 ≤ b) (g1 : b ≤ 9223372036854775807)
include h0 h1 g0 g1

theorem r_add (w : World) :
    Calls Tryd.prog 30 #[.int .i64 a, .int .i64 b] w fun e w' => e = .returned (.tuple #[.int .i64 (rV (a + b)), .int .i64 (rE (a + b))]) ∧ w = w' := by
  by_cases hi : -9223372036854775808 ≤ a + b ∧ a + b ≤ 9223372036854775807
  · have H := Lib.hid (rr_in hi)
    obtain ⟨i0, i1⟩ := hi
    by_cases hb : 0 < b
    · go_enter Tryd.func30, Tryd.ntmps30
      go_wp2_with fail
      go_ret2
      exact ⟨pow_one_ret H.out, rfl⟩
    · have q : decide (0 < b) = false := by simpa using hb
      by_cases hb2 : b < 0
      · go_enter Tryd.func30, Tryd.ntmps30
        go_wp2_with fail
        go_ret2
        exact ⟨pow_one_ret H.out, rfl⟩
      · have q : decide (b < 0) = false := by simpa using hb2
        go_enter Tryd.func30, Tryd.ntmps30
        go_wp2_with fail
        go_ret2
        exact ⟨pow_one_ret H.out, rfl⟩
  · have H := Lib.hid (rr_out hi)
    by_cases hb : 0 < b
    · have ho : 9223372036854775807 < a + b := by omega
      clear hi
      go_enter Tryd.func30, Tryd.ntmps30
      go_wp2_with fail
      go_ret2
      exact ⟨pow_one_ret H.out, rfl⟩
    · have q : decide (0 < b) = false := by simpa using hb
      have ho : a + b < -9223372036854775808 := by omega
      have hb2 : b < 0 := by omega
      clear hi
      go_enter Tryd.func30, Tryd.ntmps30
      go_wp2_with fail
      go_ret2
      exact ⟨pow_one_ret H.out, rfl⟩

theorem r_sub (w : World) :
    Calls Tryd.prog 27 #[.int .i64 a, .int .i64 b] w fun e w' => e = .returned (.tuple #[.int .i64 (rV (a - b)), .int .i64 (rE (a - b))]) ∧ w = w' := by
  by_cases hi : -9223372036854775808 ≤ a - b ∧ a - b ≤ 9223372036854775807
  · have H := Lib.hid (rr_in hi)
    obtain ⟨i0, i1⟩ := hi
    by_cases hb : b < 0
    · go_enter Tryd.func27, Tryd.ntmps27
      go_wp2_with fail
      go_ret2
      exact ⟨pow_one_ret H.out, rfl⟩
    · have q : decide (b < 0) = false := by simpa using hb
      by_cases hb2 : 0 < b
      · go_enter Tryd.func27, Tryd.ntmps27
        go_wp2_with fail
        go_ret2
        exact ⟨pow_one_ret H.out, rfl⟩
      · have q : decide (0 < b) = false := by simpa using hb2
        go_enter Tryd.func27, Tryd.ntmps27
        go_wp2_with fail
        go_ret2
        exact ⟨pow_one_ret H.out, rfl⟩
  · have H := Lib.hid (rr_out hi)
    by_cases hb : b < 0
    · have ho : 9223372036854775807 < a - b := by omega
      clear hi
      go_enter Tryd.func27, Tryd.ntmps27
      go_wp2_with fail
      go_ret2
      exact ⟨pow_one_ret H.out, rfl⟩
    · have q : decide (b < 0) = false := by simpa using hb
      have ho : a - b < -9223372036854775808 := by omega
      have hb2 : 0 < b := by omega
      clear hi
      go_enter Tryd.func27, Tryd.ntmps27
      go_wp2_with fail
      go_ret2
      exact ⟨pow_one_ret H.out, rfl⟩

omit h0 h1 in
theorem r_neg (w : World) :
    Calls Tryd.prog 27 #[.int .i64 0, .int .i64 b] w fun e w' => e = .returned (.tuple #[.int .i64 (rV (-b)), .int .i64 (rE (-b))]) ∧ w = w' := by
  have := r_sub 0 b (by omega) (by omega) g0 g1 w
  rw [Int.zero_sub] at this; exact this

theorem r_mul (w : World) :
    Calls Tryd.prog 31 #[.int .i64 a, .int .i64 b] w fun e w' => e = .returned (.tuple #[.int .i64 (rV (a * b)), .int .i64 (rE (a * b))]) ∧ w = w' := by
  by_cases hz : a = 0
  · have H : Hid (0 = rV (a * b) ∧ 0 = rE (a * b)) := by show _ ∧ _; rw [hz, Int.zero_mul]; exact rr_in (by omega)
    have q : (a == 0) = true := by simpa using hz
    clear hz
    go_enter Tryd.func31, Tryd.ntmps31
    go_wp2_with fail
    go_ret2
    exact ⟨pow_one_ret H.out, rfl⟩
  have q1 : (a == 0) = false := by simpa using hz
  by_cases hz2 : b = 0
  · have H : Hid (0 = rV (a * b) ∧ 0 = rE (a * b)) := by show _ ∧ _; rw [hz2, Int.mul_zero]; exact rr_in (by omega)
    have q : (b == 0) = true := by simpa using hz2
    clear hz hz2
    go_enter Tryd.func31, Tryd.ntmps31
    go_wp2_with fail
    go_ret2
    exact ⟨pow_one_ret H.out, rfl⟩
  have q2 : (b == 0) = false := by simpa using hz2
  by_cases hm : a = -1
  · have H : Hid (rV (-b) = rV (a * b) ∧ rE (-b) = rE (a * b)) := by show _ ∧ _; rw [hm, show (-1 : Int) * b = -b by omega]; exact ⟨rfl, rfl⟩
    have q : (a == -1) = true := by simpa using hm
    clear hz hz2 hm
    go_enter Tryd.func31, Tryd.ntmps31
    go_wp2_with (go_at_call 27; refine (r_neg _ g0 g1 _).mono ?_; rintro e w' ⟨rfl, rfl⟩)
    go_ret2
    exact ⟨pow_one_ret H.out, rfl⟩
  have q3 : (a == -1) = false := by simpa using hm
  by_cases hm2 : b = -1
  · have H : Hid (rV (-a) = rV (a * b) ∧ rE (-a) = rE (a * b)) := by show _ ∧ _; rw [hm2, show a * (-1 : Int) = -a by omega]; exact ⟨rfl, rfl⟩
    have q : (b == -1) = true := by simpa using hm2
    clear hz hz2 hm hm2
    go_enter Tryd.func31, Tryd.ntmps31
    go_wp2_with (go_at_call 27; refine (r_neg _ h0 h1 _).mono ?_; rintro e w' ⟨rfl, rfl⟩)
    go_ret2
    exact ⟨pow_one_ret H.out, rfl⟩
  have q4 : (b == -1) = false := by simpa using hm2
  have hw : -9223372036854775808 ≤ wrap64 (a * b) ∧ wrap64 (a * b) ≤ 9223372036854775807 := by unfold wrap64; omega
  have hbk := mul_back b a g0 g1 h0 h1 hz2 hm2
  rw [Int.mul_comm b a] at hbk
  have hd : wrap64 ((wrap64 (a * b)).tdiv b) = (wrap64 (a * b)).tdiv b := wrap_of (inR_iff.2 (tdiv_bd _ b hw.1 hw.2 hm2))
  obtain ⟨P, hP⟩ : ∃ P, P = wrap64 (a * b) := ⟨_, rfl⟩
  obtain ⟨Q, hQ⟩ : ∃ Q, Q = wrap64 (P.tdiv b) := ⟨_, rfl⟩
  rw [← hP] at hd hbk
  rw [← hQ] at hd
  rw [← hd] at hbk
  have eP := hP.symm
  have eQ := hQ.symm
  by_cases hi : Q = a
  · have hin := hbk.1 hi
    have H : Hid (wrap64 (a * b) = rV (a * b) ∧ 0 = rE (a * b)) := by
      show _ ∧ _
      have h3 := rr_in (inR_iff.1 hin)
      rw [wrap_of hin]; exact h3
    have q5 : (Q != a) = false := by simpa using hi
    have q6 : (Q == a) = true := by simpa using hi
    clear hin hbk hd hP hQ hi hz hm hm2 hw h0 h1 g0 g1
    go_enter Tryd.func31, Tryd.ntmps31
    go_wp2_with fail
    go_ret2
    exact ⟨pow_one_ret H.out, rfl⟩
  · have hin : inR (a * b) = false := by
      cases h : inR (a * b)
      · rfl
      · exact absurd (hbk.2 h) hi
    have H : Hid (0 = rV (a * b) ∧ 10 = rE (a * b)) := rr_out (inR_no.1 hin)
    have q5 : (Q != a) = true := by simpa using hi
    have q6 : (Q == a) = false := by simpa using hi
    clear hin hbk hd hP hQ hi hz hm hm2 hw h0 h1 g0 g1
    go_enter Tryd.func31, Tryd.ntmps31
    go_wp2_with fail
    go_ret2
    exact ⟨pow_one_ret H.out, rfl⟩

omit g0 g1 in
theorem r_quot (hb : b ≠ 0) (w : World) :
    Calls Tryd.prog 35 #[.int .i64 a, .int .i64 b] w fun e w' => e = .returned (.tuple #[.int .i64 (rV (a.tdiv b)), .int .i64 (rE (a.tdiv b))]) ∧ w = w' := by
  by_cases hm : b = -1
  · have H : Hid (a.tdiv b = -a) := by show _ = _; rw [hm, tdiv_neg1]
    have hq : (b == -1) = true := by simpa using hm
    clear hm
    go_enter Tryd.func35, Tryd.ntmps35
    go_wp2_with (go_at_call 27; refine (r_neg _ h0 h1 _).mono ?_; rintro e w' ⟨rfl, rfl⟩)
    go_ret2
    exact ⟨by rw [H.out]; rfl, rfl⟩
  · have hq : (b == -1) = false := by simpa using hm
    have hi := inR_tdiv a b h0 h1 hm
    have H : Hid (wrap64 (a.tdiv b) = rV (a.tdiv b) ∧ 0 = rE (a.tdiv b)) := by
      show _ ∧ _
      rw [wrap_of hi]; exact rr_in (inR_iff.1 hi)
    clear hm h0 h1 hi
    go_enter Tryd.func35, Tryd.ntmps35
    go_wp2_with fail
    go_ret2
    exact ⟨pow_one_ret H.out, rfl⟩

theorem r_rem (hb : b ≠ 0) (w : World) :
    Calls Tryd.prog 36 #[.int .i64 a, .int .i64 b] w fun e w' => e = .returned (.int .i64 (a.tmod b)) ∧ w = w' := by
  by_cases hm : b = -1
  · have H : Hid (0 = a.tmod b) := by show _ = _; rw [hm, tmod_neg1]
    have hq : (b == -1) = true := by simpa using hm
    clear hm
    go_enter Tryd.func36, Tryd.ntmps36
    go_wp2_with fail
    go_ret
    exact ⟨ret_int H.out, rfl⟩
  · have hq : (b == -1) = false := by simpa using hm
    have hi := inR_tdiv a b h0 h1 hm
    have hr := tmod_range a b g0 g1 hb
    have hf := (tmod_facts a b hb).1
    obtain ⟨Q, hQ⟩ : ∃ Q, Q = wrap64 (a.tdiv b) := ⟨_, rfl⟩
    have hQ2 : Q = a.tdiv b := by rw [hQ, wrap_of hi]
    have H : Hid (wrap64 (a - wrap64 (Q * b)) = a.tmod b) := by
      show _ = _
      have hin : inR (a.tmod b) = true := inR_iff.2 (by omega)
      obtain ⟨k, hk⟩ := wrap_mod (Q * b)
      rw [← wrap_of hin]
      refine wrap_eq (-k) ?_
      rw [hk, hQ2, Int.mul_comm (a.tdiv b) b]; omega
    have eQ := hQ.symm
    clear hm h0 h1 g0 g1 hi hr hf hQ hQ2
    go_enter Tryd.func36, Tryd.ntmps36
    go_wp2_with fail
    go_ret
    exact ⟨ret_int H.out, rfl⟩

end
end Go.Proofs.YthfclbbmioenlaaDoor
