/- slices.ContainsFunc with Rename's test. -/
import Derived.Test.YtdgflagafilobaaS8
namespace Go.Proofs.Ytdgflagafilobaa
open Go.RowKit Go.Proofs.HT

set_option maxHeartbeats 1000000 in
theorem ren1_any (n f : Int) (fb : Nat) (w : World) (hn : numB n = true) (hf : numB f = true) (hc : w.cell? ⟨fb, 0, none⟩ = some (.int .i64 f)) :
    Calls Try.prog 45 #[.int .i64 n, .pointer (some ⟨fb, 0, none⟩)] w fun e w' => e = .returned (.bool (!numB (n + f))) ∧ w = w' := by
  obtain ⟨n0, n1⟩ := numB_iff.1 hn
  obtain ⟨f0, f1⟩ := numB_iff.1 hf
  have s1 : -9223372036854775808 ≤ n + f := by omega
  have s2 : n + f ≤ 9223372036854775807 := by omega
  clear hn hf
  go_enter Try.func45, Try.ntmps45
  go_wp2_with (go_at_call 43; refine (isNumber_any _ _).mono ?_; rintro e w' ⟨rfl, rfl⟩)
  go_ret
  exact ⟨rfl, rfl⟩

/-- The index of the first number that can't be shifted, or -1. -/
def badF (f : Int) : List Int → Nat → Int
  | [], _ => -1
  | x :: xs, i => if numB (x + f) = true then badF f xs (i + 1) else i
theorem badF_drop (f : Int) (xs : List Int) (j : Nat) (hj : j < xs.length) : badF f (xs.drop j) j = if numB (xs[j] + f) = true then badF f (xs.drop (j + 1)) (j + 1) else (j : Int) := by
  rw [List.drop_eq_getElem_cons hj, badF]
theorem badF_iff (f : Int) : ∀ (xs : List Int) (i : Nat), (0 ≤ badF f xs i) ↔ ¬ ∀ x ∈ xs, numB (x + f) = true
  | [], i => by simp [badF]
  | x :: xs, i => by
    have h := badF_iff f xs (i + 1)
    rw [badF]
    by_cases e : numB (x + f) = true
    · rw [if_pos e, h]; simp [e]
    · rw [if_neg e]; simp [e]

set_option maxHeartbeats 1000000 in
theorem idxf_any (f : Int) (fb : Nat) (xs : List Int) (g o cap : Nat) (w : World) (hlen : xs.length ≤ 9223372036854775807) (hf : numB f = true) (hx : ∀ x ∈ xs, numB x = true) (hb : w.cell? ⟨fb, 0, none⟩ = some (.int .i64 f)) (hc : ∀ (i : Nat) (h : i < xs.length), w.cell? ⟨g, o + i, none⟩ = some (.int .i64 xs[i])) :
    Calls Try.prog 70 #[.slice (some ⟨g, o, none⟩) xs.length cap, .func (.func 45) #[] #[.pointer (some ⟨fb, 0, none⟩)]] w fun e w' => e = .returned (.int .i64 (badF f xs 0)) ∧ w = w' := by
  have HC := Lib.hid hc
  have HX := Lib.hid hx
  have HF := Lib.hid hf
  have HB := Lib.hid hb
  have H0 : Hid (badF f (xs.drop 0) 0 = badF f xs 0) := by show _ = _; rw [List.drop_zero]
  clear hc hx hf hb
  go_enter Try.func70, Try.ntmps70
  go_wp2_with fail
  go_loop [8] (fun i => ∃ j : Nat, j ≤ xs.length ∧ i = .int .i64 j ∧ Hid (badF f (xs.drop j) j = badF f xs 0)) (fun i => xs.length - (intOf i).toNat)
  case atStart => exact ⟨0, by omega, rfl, H0⟩
  case round =>
    obtain ⟨j, hj, rfl, hr⟩ := hrel
    by_cases hlt : j < xs.length
    · have d0 := HC.out j hlt
      have HN := Lib.hid (HX.out _ (List.getElem_mem hlt))
      by_cases he : numB (xs[j] + f) = true
      · have H : Hid (badF f (xs.drop (j + 1)) (j + 1) = badF f xs 0) := by show _ = _; rw [← hr.out, badF_drop f xs j hlt, if_pos he]
        go_wp2_with (go_at_call 45; refine (ren1_any _ f fb _ HN.out HF.out HB.out).mono ?_; rintro e w' ⟨rfl, rfl⟩)
        go_round
        case rel => exact ⟨j + 1, by omega, by go_num, H⟩
        case measure => simp [intOf]; omega
      · have H : Hid ((j : Int) = badF f xs 0) := by show _ = _; rw [← hr.out, badF_drop f xs j hlt, if_neg he]
        have he : numB (xs[j] + f) = false := by simpa using he
        go_wp2_with (go_at_call 45; refine (ren1_any _ f fb _ HN.out HF.out HB.out).mono ?_; rintro e w' ⟨rfl, rfl⟩)
        go_ret
        exact ⟨ret_int H.out, rfl⟩
    · have e : j = xs.length := by omega
      have H : Hid (-1 = badF f xs 0) := by show _ = _; rw [← hr.out, e, List.drop_length]; rfl
      go_wp2_with fail
      go_ret
      exact ⟨ret_int H.out, rfl⟩

set_option maxHeartbeats 1000000 in
theorem idxf_nil (a : Option Addr) (cap : Nat) (fv : Value) (w : World) :
    Calls Try.prog 70 #[.slice a 0 cap, fv] w fun e w' => e = .returned (.int .i64 (-1)) ∧ w = w' := by
  go_enter Try.func70, Try.ntmps70
  go_wp2_with fail
  refine wp_loop_rounds 1 ?_
  rw [rounds_succ]
  go_wp2_with fail
  go_ret
  exact ⟨rfl, rfl⟩

theorem idxf_own {w : World} {base : Nat} {x : Value} {xs : List Int} (f : Int) (fb : Nat) (hf : numB f = true) (hx : ∀ x ∈ xs, numB x = true) (hb : w.cell? ⟨fb, 0, none⟩ = some (.int .i64 f)) (h : w.ownsRow base 2 1 x xs.length (nums xs)) :
    Calls Try.prog 70 #[x, .func (.func 45) #[] #[.pointer (some ⟨fb, 0, none⟩)]] w fun e w' => e = .returned (.int .i64 (badF f xs 0)) ∧ w = w' := by
  rcases h.2 with ⟨rfl, h0⟩ | ⟨g, cap, cur, rfl, _, hg, h1, h2, _⟩
  · rw [List.length_eq_zero_iff.1 h0]
    exact idxf_nil none 0 _ w
  · have hm : xs.length ≤ 9223372036854775807 := by have h3 := h2; simp only [maxLen] at h3; omega
    refine idxf_any f fb xs g 0 cap w hm hf hx hb (fun i hi => ?_)
    rw [Nat.zero_add, h.cellAt i (by omega)]
    simp [nums, hi]

set_option maxHeartbeats 1000000 in
theorem contf_own {w : World} {base : Nat} {x : Value} {xs : List Int} (f : Int) (fb : Nat) (hf : numB f = true) (hx : ∀ x ∈ xs, numB x = true) (hb : w.cell? ⟨fb, 0, none⟩ = some (.int .i64 f)) (h : w.ownsRow base 2 1 x xs.length (nums xs)) :
    Calls Try.prog 44 #[x, .func (.func 45) #[] #[.pointer (some ⟨fb, 0, none⟩)]] w fun e w' => e = .returned (.bool (decide (0 ≤ badF f xs 0))) ∧ w = w' := by
  have HI := Lib.hid (idxf_own f fb hf hx hb h)
  clear hf hx hb h
  go_enter Try.func44, Try.ntmps44
  go_wp2_with (go_at_call 70; refine HI.out.mono ?_; rintro e w' ⟨rfl, rfl⟩)
  go_ret
  exact ⟨rfl, rfl⟩

end Go.Proofs.Ytdgflagafilobaa
