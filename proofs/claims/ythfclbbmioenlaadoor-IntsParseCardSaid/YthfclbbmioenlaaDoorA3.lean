/- The contracts of the functions of one and two integers. -/
import Derived.Test.YthfclbbmioenlaaDoorA1
import Derived.Test.YthfclbbmioenlaaDoorM3
import Derived.Deep.QuietTactic
import Derived.BigQuiet
import Derived.RegionTactic
namespace Go.Proofs.YthfclbbmioenlaaDoor
open Go.RowKit

theorem checked_any (v : Int) (c : Bool) (w : World) :
    Calls Tryd.prog 78 #[.int .i64 v, .bool c] w fun e w' => e = .returned (.tuple #[.int .i64 (ckV v c), .int .i64 (ckE c)]) ∧ w = w' := by
  cases c
  · go_enter Tryd.func78, Tryd.ntmps78
    go_wp2
    go_ret2
    exact ⟨rfl, rfl⟩
  · go_enter Tryd.func78, Tryd.ntmps78
    go_wp2
    go_ret2
    exact ⟨rfl, rfl⟩

theorem neg_any (a : Int) (h0 : -9223372036854775808 ≤ a) (h1 : a ≤ 9223372036854775807) (w : World) :
    Calls Tryd.prog 46 #[.int .i64 a] w fun e w' => e = .returned (.tuple #[.int .i64 (rV (-a)), .int .i64 (rE (-a))]) ∧ w = w' := by
  have H := Lib.hid (ck_neg a h0 h1)
  go_enter Tryd.func46, Tryd.ntmps46
  go_wp2_with (go_at_call 78; refine (checked_any _ _ _).mono ?_; rintro e w' ⟨rfl, rfl⟩)
  go_ret2
  exact ⟨ret_ii H.out.1 H.out.2, rfl⟩

theorem same_any (a : Int) (w : World) :
    Calls Tryd.prog 47 #[.int .i64 a] w fun e w' => e = .returned (.int .i64 a) ∧ w = w' := by
  go_enter Tryd.func47, Tryd.ntmps47
  go_wp2
  go_ret
  exact ⟨rfl, rfl⟩

theorem abs_any (a : Int) (h0 : -9223372036854775808 ≤ a) (h1 : a ≤ 9223372036854775807) (w : World) :
    Calls Tryd.prog 48 #[.int .i64 a] w fun e w' => e = .returned (.tuple #[.int .i64 (rV (aabs a)), .int .i64 (rE (aabs a))]) ∧ w = w' := by
  by_cases ha : a < 0
  · have H : Hid (aabs a = -a) := by show _ = _; simp [aabs, ha]
    go_enter Tryd.func48, Tryd.ntmps48
    go_wp2_with (go_at_call 46; refine (neg_any _ h0 h1 _).mono ?_; rintro e w' ⟨rfl, rfl⟩)
    go_ret2
    exact ⟨by rw [H.out]; rfl, rfl⟩
  · have H : Hid (aabs a = a ∧ inR a = true) := by show _ ∧ _; exact ⟨by simp [aabs, ha], inR_iff.2 ⟨h0, h1⟩⟩
    go_enter Tryd.func48, Tryd.ntmps48
    go_wp2
    go_ret2
    exact ⟨ret_ii (by rw [H.out.1, rV, if_pos H.out.2]) (by rw [H.out.1, rE, if_pos H.out.2]), rfl⟩

theorem sign_any (a : Int) (w : World) :
    Calls Tryd.prog 49 #[.int .i64 a] w fun e w' => e = .returned (.int .i64 (sgn a)) ∧ w = w' := by
  by_cases ha : a < 0
  · have H : Hid (sgn a = -1) := by show _ = _; simp [sgn, ha]
    go_enter Tryd.func49, Tryd.ntmps49
    go_wp2
    go_ret
    exact ⟨by rw [H.out]; rfl, rfl⟩
  · by_cases hb : 0 < a
    · have H : Hid (sgn a = 1) := by show _ = _; simp [sgn, ha, hb]
      go_enter Tryd.func49, Tryd.ntmps49
      go_wp2
      go_ret
      exact ⟨by rw [H.out]; rfl, rfl⟩
    · have H : Hid (sgn a = 0) := by show _ = _; simp [sgn, ha, hb]
      go_enter Tryd.func49, Tryd.ntmps49
      go_wp2
      go_ret
      exact ⟨by rw [H.out]; rfl, rfl⟩

theorem compl_any (a : Int) (h0 : -9223372036854775808 ≤ a) (h1 : a ≤ 9223372036854775807) (w : World) :
    Calls Tryd.prog 50 #[.int .i64 a] w fun e w' => e = .returned (.int .i64 (-1 - a)) ∧ w = w' := by
  have H := Lib.hid (bits_compl a h0 h1)
  have hs : IntKind.i64.signed = true := rfl
  clear h0 h1
  go_enter Tryd.func50, Tryd.ntmps50
  go_wp2
  go_ret
  exact ⟨ret_int H.out, rfl⟩

section
variable (a b : Int) (h0 : -9223372036854775808 ≤ a) (h1 : a ≤ 9223372036854775807) (g0 : -9223372036854775808 ≤ b) (g1 : b ≤ 9223372036854775807)
include h0 h1 g0 g1

theorem sum_any (w : World) :
    Calls Tryd.prog 57 #[.int .i64 a, .int .i64 b] w fun e w' => e = .returned (.tuple #[.int .i64 (rV (a + b)), .int .i64 (rE (a + b))]) ∧ w = w' := by
  have H := Lib.hid (ck_sum a b h0 h1 g0 g1)
  clear h0 h1 g0 g1
  go_enter Tryd.func57, Tryd.ntmps57
  go_wp2_with (go_at_call 78; refine (checked_any _ _ _).mono ?_; rintro e w' ⟨rfl, rfl⟩)
  go_ret2
  exact ⟨ret_ii H.out.1 H.out.2, rfl⟩

theorem dif_any (w : World) :
    Calls Tryd.prog 58 #[.int .i64 a, .int .i64 b] w fun e w' => e = .returned (.tuple #[.int .i64 (rV (a - b)), .int .i64 (rE (a - b))]) ∧ w = w' := by
  have H := Lib.hid (ck_dif a b h0 h1 g0 g1)
  clear h0 h1 g0 g1
  go_enter Tryd.func58, Tryd.ntmps58
  go_wp2_with (go_at_call 78; refine (checked_any _ _ _).mono ?_; rintro e w' ⟨rfl, rfl⟩)
  go_ret2
  exact ⟨ret_ii H.out.1 H.out.2, rfl⟩

theorem mul_any (w : World) :
    Calls Tryd.prog 59 #[.int .i64 a, .int .i64 b] w fun e w' => e = .returned (.tuple #[.int .i64 (rV (a * b)), .int .i64 (rE (a * b))]) ∧ w = w' := by
  by_cases hm : a = -1
  · have H : Hid (a * b = -b) := by show _ = _; rw [hm]; omega
    have hq : (a == -1) = true := by simpa using hm
    clear hm
    go_enter Tryd.func59, Tryd.ntmps59
    go_wp2_with (go_at_call 46; refine (neg_any _ g0 g1 _).mono ?_; rintro e w' ⟨rfl, rfl⟩)
    go_ret2
    exact ⟨ret_ii (by rw [H.out]) (by rw [H.out]), rfl⟩
  · have hq : (a == -1) = false := by simpa using hm
    by_cases hz : a = 0
    · have H : Hid (ckV (wrap64 (a * b)) true = rV (a * b) ∧ ckE true = rE (a * b)) := by show _ ∧ _; rw [hz, Int.zero_mul]; simp [ckV, ckE, rV, rE, inR, wrap64]
      have hq2 : (a == 0) = true := by simpa using hz
      clear hm hz h0 h1 g0 g1
      go_enter Tryd.func59, Tryd.ntmps59
      go_wp2_with (go_at_call 78; refine (checked_any _ _ _).mono ?_; rintro e w' ⟨rfl, rfl⟩)
      go_ret2
      exact ⟨ret_ii H.out.1 H.out.2, rfl⟩
    · have H := Lib.hid (ck_mul a b h0 h1 g0 g1 hz hm)
      have hq2 : (a == 0) = false := by simpa using hz
      clear hm h0 h1 g0 g1
      go_enter Tryd.func59, Tryd.ntmps59
      go_wp2_with (go_at_call 78; refine (checked_any _ _ _).mono ?_; rintro e w' ⟨rfl, rfl⟩)
      go_ret2
      exact ⟨ret_ii H.out.1 H.out.2, rfl⟩

omit g0 g1 in
theorem quot_any (hb : b ≠ 0) (w : World) :
    Calls Tryd.prog 60 #[.int .i64 a, .int .i64 b] w fun e w' => e = .returned (.tuple #[.int .i64 (rV (a.tdiv b)), .int .i64 (rE (a.tdiv b))]) ∧ w = w' := by
  by_cases hm : b = -1
  · have H : Hid (a.tdiv b = -a) := by show _ = _; rw [hm, tdiv_neg1]
    have hq : (b == -1) = true := by simpa using hm
    clear hm
    go_enter Tryd.func60, Tryd.ntmps60
    go_wp2_with (go_at_call 46; refine (neg_any _ h0 h1 _).mono ?_; rintro e w' ⟨rfl, rfl⟩)
    go_ret2
    exact ⟨ret_ii (by rw [H.out]) (by rw [H.out]), rfl⟩
  · have hq : (b == -1) = false := by simpa using hm
    have H := Lib.hid (inR_tdiv a b h0 h1 hm)
    clear hm h0 h1
    go_enter Tryd.func60, Tryd.ntmps60
    go_wp2
    go_ret2
    exact ⟨ret_ii (by rw [wrap_of H.out, rV, if_pos H.out]) (by rw [rE, if_pos H.out]), rfl⟩

omit h0 h1 g0 g1 in
theorem rem_any (hb : b ≠ 0) (w : World) :
    Calls Tryd.prog 61 #[.int .i64 a, .int .i64 b] w fun e w' => e = .returned (.int .i64 (a.tmod b)) ∧ w = w' := by
  go_enter Tryd.func61, Tryd.ntmps61
  go_wp2
  go_ret
  exact ⟨rfl, rfl⟩

omit h0 h1 g0 g1 in
theorem rup_any (hb : b ≠ 0) (w : World) :
    Calls Tryd.prog 79 #[.int .i64 a, .int .i64 b] w fun e w' => e = .returned (.bool (rup a b)) ∧ w = w' := by
  by_cases hr : a.tmod b = 0
  · have H : Hid (rup a b = false) := by show _ = _; simp [rup, hr]
    have hq : (a.tmod b == 0) = true := by simpa using hr
    have hq2 : (a.tmod b != 0) = false := by simpa using hr
    clear hr
    go_enter Tryd.func79, Tryd.ntmps79
    go_wp2
    go_ret
    exact ⟨by rw [H.out]; rfl, rfl⟩
  · have h2 : (a.tmod b != 0) = true := by simpa using hr
    have H : Hid ((!(decide (a < 0) == decide (b < 0))) = rup a b) := by show _ = _; rw [rup, h2, Bool.true_and]; rfl
    have hq : (a.tmod b == 0) = false := by simpa using hr
    have hq2 : (a.tmod b != 0) = true := by simpa using hr
    clear hr
    go_enter Tryd.func79, Tryd.ntmps79
    go_wp2
    go_ret
    exact ⟨ret_bool H.out, rfl⟩

omit g0 g1 in
theorem fq_any (hb : b ≠ 0) (w : World) :
    Calls Tryd.prog 62 #[.int .i64 a, .int .i64 b] w fun e w' => e = .returned (.tuple #[.int .i64 (rV (fq a b)), .int .i64 (rE (fq a b))]) ∧ w = w' := by
  have hin := inR_fq a b h0 h1 hb
  cases hi : inR (a.tdiv b)
  · have H1 : Hid (rE (a.tdiv b) = 10 ∧ rV (fq a b) = rV (a.tdiv b) ∧ rE (fq a b) = rE (a.tdiv b)) := by show _ ∧ _; simp [rV, rE, hi, hin]
    have hq : (rE (a.tdiv b) == 0) = false := by rw [H1.out.1]; rfl
    clear hin hi
    go_enter Tryd.func62, Tryd.ntmps62
    go_wp2_with (go_at_call 60; refine (quot_any _ _ h0 h1 hb _).mono ?_; rintro e w' ⟨rfl, rfl⟩)
    go_ret2
    exact ⟨ret_ii H1.out.2.1.symm H1.out.2.2.symm, rfl⟩
  · have H1 : Hid (rE (a.tdiv b) = 0 ∧ rV (a.tdiv b) = a.tdiv b ∧ rV (fq a b) = fq a b ∧ rE (fq a b) = 0) := by show _ ∧ _; simp [rV, rE, hi, hin]
    have hq : (rE (a.tdiv b) == 0) = true := by rw [H1.out.1]; rfl
    rw [hi] at hin
    have H2 := Lib.hid (inR_iff.1 hin)
    clear hin
    have H3 := Lib.hid hi
    clear hi
    cases hr : rup a b
    · have H4 : Hid (fq a b = a.tdiv b) := by show _ = _; rw [fq, if_neg (by rw [hr]; simp)]
      have HR : Hid (rup a b = false) := hr
      clear hr
      go_enter Tryd.func62, Tryd.ntmps62
      go_wp2_with (first | (go_at_call 60; refine (quot_any _ _ h0 h1 hb _).mono ?_; rintro e w' ⟨rfl, rfl⟩) | (go_at_call 79; refine (rup_any _ _ hb _).mono ?_; rintro e w' ⟨rfl, rfl⟩; rw [HR.out]))
      go_ret2
      exact ⟨ret_ii (by rw [H1.out.2.2.1, H4.out, H1.out.2.1]) (by rw [H1.out.2.2.2, H1.out.1]), rfl⟩
    · have H4 : Hid (wrap64 (rV (a.tdiv b) - 1) = fq a b) := by
        show _ = _
        have e : fq a b = a.tdiv b - 1 := by rw [fq, if_pos hr]
        rw [H1.out.2.1, ← e]; exact wrap_of (inR_iff.2 H2.out)
      have HR : Hid (rup a b = true) := hr
      clear hr
      go_enter Tryd.func62, Tryd.ntmps62
      go_wp2_with (first | (go_at_call 60; refine (quot_any _ _ h0 h1 hb _).mono ?_; rintro e w' ⟨rfl, rfl⟩) | (go_at_call 79; refine (rup_any _ _ hb _).mono ?_; rintro e w' ⟨rfl, rfl⟩; rw [HR.out]))
      go_ret2
      exact ⟨ret_ii (by rw [H1.out.2.2.1, H4.out]) (by rw [H1.out.2.2.2, H1.out.1]), rfl⟩

omit h0 h1 in
theorem fm_any (hb : b ≠ 0) (w : World) :
    Calls Tryd.prog 63 #[.int .i64 a, .int .i64 b] w fun e w' => e = .returned (.int .i64 (fm a b)) ∧ w = w' := by
  have H1 := Lib.hid (fm_range a b g0 g1 hb)
  cases hr : rup a b
  · have H4 : Hid (fm a b = a.tmod b) := by show _ = _; rw [fm, if_neg (by rw [hr]; simp)]
    have HR : Hid (rup a b = false) := hr
    clear hr g0 g1
    go_enter Tryd.func63, Tryd.ntmps63
    go_wp2_with (go_at_call 79; refine (rup_any _ _ hb _).mono ?_; rintro e w' ⟨rfl, rfl⟩; rw [HR.out])
    go_ret
    exact ⟨ret_int H4.out.symm, rfl⟩
  · have H4 : Hid (wrap64 (a.tmod b + b) = fm a b) := by
      show _ = _
      have e : fm a b = a.tmod b + b := by rw [fm, if_pos hr]
      rw [← e]; exact wrap_of (inR_iff.2 (by have := H1.out; omega))
    have HR : Hid (rup a b = true) := hr
    clear hr g0 g1
    go_enter Tryd.func63, Tryd.ntmps63
    go_wp2_with (go_at_call 79; refine (rup_any _ _ hb _).mono ?_; rintro e w' ⟨rfl, rfl⟩; rw [HR.out])
    go_ret
    exact ⟨ret_int H4.out, rfl⟩

omit h0 h1 g0 g1 in
theorem min_any (w : World) :
    Calls Tryd.prog 64 #[.int .i64 a, .int .i64 b] w fun e w' => e = .returned (.int .i64 (lesser a b)) ∧ w = w' := by
  by_cases hb : b < a
  · have H : Hid (lesser a b = b) := by show _ = _; simp [lesser, hb]
    go_enter Tryd.func64, Tryd.ntmps64
    go_wp2
    go_ret
    exact ⟨ret_int H.out.symm, rfl⟩
  · have H : Hid (lesser a b = a) := by show _ = _; simp [lesser, hb]
    go_enter Tryd.func64, Tryd.ntmps64
    go_wp2
    go_ret
    exact ⟨ret_int H.out.symm, rfl⟩

omit h0 h1 g0 g1 in
theorem max_any (w : World) :
    Calls Tryd.prog 65 #[.int .i64 a, .int .i64 b] w fun e w' => e = .returned (.int .i64 (greater a b)) ∧ w = w' := by
  by_cases hb : a < b
  · have H : Hid (greater a b = b) := by show _ = _; simp [greater, hb]
    go_enter Tryd.func65, Tryd.ntmps65
    go_wp2
    go_ret
    exact ⟨ret_int H.out.symm, rfl⟩
  · have H : Hid (greater a b = a) := by show _ = _; simp [greater, hb]
    go_enter Tryd.func65, Tryd.ntmps65
    go_wp2
    go_ret
    exact ⟨ret_int H.out.symm, rfl⟩

omit h0 h1 g0 g1 in
theorem shr_any (hb0 : 0 ≤ b) (hb1 : b ≤ 63) (w : World) :
    Calls Tryd.prog 66 #[.int .i64 a, .int .i64 b] w fun e w' => e = .returned (.int .i64 (a / 2 ^ b.toNat)) ∧ w = w' := by
  go_enter Tryd.func66, Tryd.ntmps66
  go_wp2
  go_ret
  exact ⟨rfl, rfl⟩

omit h0 h1 g0 g1 in
theorem shl_any (hb0 : 0 ≤ b) (hb1 : b ≤ 63) (w : World) :
    Calls Tryd.prog 67 #[.int .i64 a, .int .i64 b] w fun e w' => e = .returned (.tuple #[.int .i64 (rV (a * 2 ^ b.toNat)), .int .i64 (rE (a * 2 ^ b.toNat))]) ∧ w = w' := by
  have H := Lib.hid (ck_shl a b hb1)
  go_enter Tryd.func67, Tryd.ntmps67
  go_wp2_with (go_at_call 78; refine (checked_any _ _ _).mono ?_; rintro e w' ⟨rfl, rfl⟩)
  go_ret2
  exact ⟨ret_ii H.out.1 H.out.2, rfl⟩

omit h0 h1 g0 g1 in
theorem and_any (w : World) :
    Calls Tryd.prog 68 #[.int .i64 a, .int .i64 b] w fun e w' => e = .returned (.int .i64 (bits .and .i64 a b)) ∧ w = w' := by
  go_enter Tryd.func68, Tryd.ntmps68
  go_wp2
  go_ret
  exact ⟨rfl, rfl⟩
omit h0 h1 g0 g1 in
theorem or_any (w : World) :
    Calls Tryd.prog 69 #[.int .i64 a, .int .i64 b] w fun e w' => e = .returned (.int .i64 (bits .or .i64 a b)) ∧ w = w' := by
  go_enter Tryd.func69, Tryd.ntmps69
  go_wp2
  go_ret
  exact ⟨rfl, rfl⟩
omit h0 h1 g0 g1 in
theorem xor_any (w : World) :
    Calls Tryd.prog 70 #[.int .i64 a, .int .i64 b] w fun e w' => e = .returned (.int .i64 (bits .xor .i64 a b)) ∧ w = w' := by
  go_enter Tryd.func70, Tryd.ntmps70
  go_wp2
  go_ret
  exact ⟨rfl, rfl⟩

end
end Go.Proofs.YthfclbbmioenlaaDoor
