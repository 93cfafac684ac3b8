/- The contracts of the specification's division, powers, greatest common divisor and shifts. -/
import Derived.Test.YthfclbbmioenlaaDoorE1
namespace Go.Proofs.YthfclbbmioenlaaDoor
open Go.RowKit

/-- Does the remainder have the wrong sign? -/
theorem rup_sign (a b : Int) (hb : b ≠ 0) : rup a b = true ↔ (a.tmod b < 0 ∧ 0 < b) ∨ (0 < a.tmod b ∧ b < 0) := by
  have h := tmod_facts a b hb
  simp only [rup, Bool.and_eq_true, bne_iff_ne, ne_eq, decide_eq_decide]
  omega

section
variable (a b : Int) (h0 : -9223372036854775808 ≤ a) (h1 : a ≤ 9223372036854775807) (g0 : -9223372036854775808 ≤ b) (g1 : b ≤ 9223372036854775807)
include h0 h1 g0 g1

theorem r_div (hb : b ≠ 0) (w : World) :
    Calls Tryd.prog 37 #[.int .i64 a, .int .i64 b] w fun e w' => e = .returned (.tuple #[.int .i64 (rV (fq a b)), .int .i64 (rE (fq a b))]) ∧ w = w' := by
  have hin := inR_fq a b h0 h1 hb
  cases hi : inR (a.tdiv b)
  · have H1 : Hid (rE (a.tdiv b) = 10 ∧ 0 = rV (fq a b) ∧ rE (a.tdiv b) = rE (fq a b)) := by show _ ∧ _; simp [rV, rE, hi, hin]
    have hq : (rE (a.tdiv b) == 0) = false := by rw [H1.out.1]; rfl
    have hq2 : (rE (a.tdiv b) != 0) = true := by rw [H1.out.1]; rfl
    clear hin hi
    go_enter Tryd.func37, Tryd.ntmps37
    go_wp2_with (go_at_call 35; refine (r_quot _ _ h0 h1 hb _).mono ?_; rintro e w' ⟨rfl, rfl⟩)
    go_ret2
    exact ⟨pow_one_ret H1.out.2, rfl⟩
  · have H1 : Hid (rE (a.tdiv b) = 0 ∧ rV (a.tdiv b) = a.tdiv b ∧ rV (fq a b) = fq a b ∧ 0 = rE (fq a b)) := by show _ ∧ _; simp [rV, rE, hi, hin]
    have hq : (rE (a.tdiv b) == 0) = true := by rw [H1.out.1]; rfl
    have hq2 : (rE (a.tdiv b) != 0) = false := by rw [H1.out.1]; rfl
    rw [hi] at hin
    have H2 := Lib.hid (inR_iff.1 hin)
    have hs := rup_sign a b hb
    have HR := Lib.hid (And.intro h0 (And.intro h1 (And.intro g0 g1)))
    obtain ⟨R, hR⟩ : ∃ R, R = a.tmod b := ⟨_, rfl⟩
    rw [← hR] at hs
    have HC : Hid (Calls Tryd.prog 36 #[.int .i64 a, .int .i64 b] w fun e w' => e = .returned (.int .i64 R) ∧ w = w') := by
      show Calls _ _ _ _ _
      rw [hR]; exact r_rem a b h0 h1 g0 g1 hb w
    clear hin hi hR g0 g1
    cases hr : rup a b
    · have H4 : Hid (rV (a.tdiv b) = rV (fq a b)) := by show _ = _; rw [fq, if_neg (by rw [hr]; simp)]
      rw [hr] at hs
      have hs2 : ¬ ((R < 0 ∧ 0 < b) ∨ (0 < R ∧ b < 0)) := fun h => by have := hs.2 h; cases this
      clear hs hr
      by_cases r0 : R < 0
      · have b1 : ¬ 0 < b := fun h => hs2 (.inl ⟨r0, h⟩)
        clear hs2
        go_enter Tryd.func37, Tryd.ntmps37
        go_wp2_with (first | (go_at_call 35; refine (r_quot _ _ HR.out.1 HR.out.2.1 hb _).mono ?_; rintro e w' ⟨rfl, rfl⟩) | (go_at_call 36; refine HC.out.mono ?_; rintro e w' ⟨rfl, rfl⟩))
        go_ret2
        exact ⟨ret_ii H4.out H1.out.2.2.2, rfl⟩
      · have q : decide (R < 0) = false := by simpa using r0
        by_cases r1 : 0 < R
        · have b1 : ¬ b < 0 := fun h => hs2 (.inr ⟨r1, h⟩)
          clear hs2
          go_enter Tryd.func37, Tryd.ntmps37
          go_wp2_with (first | (go_at_call 35; refine (r_quot _ _ HR.out.1 HR.out.2.1 hb _).mono ?_; rintro e w' ⟨rfl, rfl⟩) | (go_at_call 36; refine HC.out.mono ?_; rintro e w' ⟨rfl, rfl⟩))
          go_ret2
          exact ⟨ret_ii H4.out H1.out.2.2.2, rfl⟩
        · have q2 : decide (0 < R) = false := by simpa using r1
          clear hs2
          go_enter Tryd.func37, Tryd.ntmps37
          go_wp2_with (first | (go_at_call 35; refine (r_quot _ _ HR.out.1 HR.out.2.1 hb _).mono ?_; rintro e w' ⟨rfl, rfl⟩) | (go_at_call 36; refine HC.out.mono ?_; rintro e w' ⟨rfl, rfl⟩))
          go_ret2
          exact ⟨ret_ii H4.out H1.out.2.2.2, rfl⟩
    · have H4 : Hid (wrap64 (rV (a.tdiv b) - 1) = rV (fq a b)) := by
        show _ = _
        have e : fq a b = a.tdiv b - 1 := by rw [fq, if_pos hr]
        rw [H1.out.2.1, H1.out.2.2.1, ← e]; exact wrap_of (inR_iff.2 H2.out)
      have hs2 := hs.1 hr
      clear hs hr
      rcases hs2 with ⟨r0, b0⟩ | ⟨r0, b0⟩
      · go_enter Tryd.func37, Tryd.ntmps37
        go_wp2_with (first | (go_at_call 35; refine (r_quot _ _ HR.out.1 HR.out.2.1 hb _).mono ?_; rintro e w' ⟨rfl, rfl⟩) | (go_at_call 36; refine HC.out.mono ?_; rintro e w' ⟨rfl, rfl⟩))
        go_ret2
        exact ⟨ret_ii H4.out H1.out.2.2.2, rfl⟩
      · have q : decide (R < 0) = false := by simp; omega
        go_enter Tryd.func37, Tryd.ntmps37
        go_wp2_with (first | (go_at_call 35; refine (r_quot _ _ HR.out.1 HR.out.2.1 hb _).mono ?_; rintro e w' ⟨rfl, rfl⟩) | (go_at_call 36; refine HC.out.mono ?_; rintro e w' ⟨rfl, rfl⟩))
        go_ret2
        exact ⟨ret_ii H4.out H1.out.2.2.2, rfl⟩

theorem r_mod (hb : b ≠ 0) (w : World) :
    Calls Tryd.prog 38 #[.int .i64 a, .int .i64 b] w fun e w' => e = .returned (.int .i64 (fm a b)) ∧ w = w' := by
  have hs := rup_sign a b hb
  have hfr := fm_range a b g0 g1 hb
  obtain ⟨R, hR⟩ : ∃ R, R = a.tmod b := ⟨_, rfl⟩
  have HC : Hid (Calls Tryd.prog 36 #[.int .i64 a, .int .i64 b] w fun e w' => e = .returned (.int .i64 R) ∧ w = w') := by
    show Calls _ _ _ _ _
    rw [hR]; exact r_rem a b h0 h1 g0 g1 hb w
  have hfm : fm a b = if rup a b then R + b else R := by rw [fm, hR]
  rw [← hR] at hs
  have HF := Lib.hid hfr
  clear hfr hR h0 h1
  cases hr : rup a b
  · have H4 : Hid (R = fm a b) := by show _ = _; rw [hfm, hr]; rfl
    rw [hr] at hs
    have hs2 : ¬ ((R < 0 ∧ 0 < b) ∨ (0 < R ∧ b < 0)) := fun h => by have := hs.2 h; cases this
    clear hs hr hfm
    by_cases r0 : R < 0
    · have b1 : ¬ 0 < b := fun h => hs2 (.inl ⟨r0, h⟩)
      clear hs2
      go_enter Tryd.func38, Tryd.ntmps38
      go_wp2_with (go_at_call 36; refine HC.out.mono ?_; rintro e w' ⟨rfl, rfl⟩)
      go_ret
      exact ⟨ret_int H4.out, rfl⟩
    · have q : decide (R < 0) = false := by simpa using r0
      by_cases r1 : 0 < R
      · have b1 : ¬ b < 0 := fun h => hs2 (.inr ⟨r1, h⟩)
        clear hs2
        go_enter Tryd.func38, Tryd.ntmps38
        go_wp2_with (go_at_call 36; refine HC.out.mono ?_; rintro e w' ⟨rfl, rfl⟩)
        go_ret
        exact ⟨ret_int H4.out, rfl⟩
      · have q2 : decide (0 < R) = false := by simpa using r1
        clear hs2
        go_enter Tryd.func38, Tryd.ntmps38
        go_wp2_with (go_at_call 36; refine HC.out.mono ?_; rintro e w' ⟨rfl, rfl⟩)
        go_ret
        exact ⟨ret_int H4.out, rfl⟩
  · have H4 : Hid (R + b = fm a b) := by show _ = _; rw [hfm, hr]; rfl
    have k0 : -9223372036854775807 ≤ R + b := by have := H4.out; have := HF.out; omega
    have k1 : R + b ≤ 9223372036854775807 := by have := H4.out; have := HF.out; omega
    have hs2 := hs.1 hr
    clear hs hr hfm
    rcases hs2 with ⟨r0, b0⟩ | ⟨r0, b0⟩
    · go_enter Tryd.func38, Tryd.ntmps38
      go_wp2_with (go_at_call 36; refine HC.out.mono ?_; rintro e w' ⟨rfl, rfl⟩)
      go_ret
      exact ⟨ret_int H4.out, rfl⟩
    · have q : decide (R < 0) = false := by simp; omega
      go_enter Tryd.func38, Tryd.ntmps38
      go_wp2_with (go_at_call 36; refine HC.out.mono ?_; rintro e w' ⟨rfl, rfl⟩)
      go_ret
      exact ⟨ret_int H4.out, rfl⟩

end
end Go.Proofs.YthfclbbmioenlaaDoor
