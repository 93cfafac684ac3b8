/- The contracts of the specification's Digit, Escape and Unescape: they return what the program's functions return. -/
import Derived.Test.YtcjpbomdnjmfkaaDoorB3
namespace Go.Proofs.YtcjpbomdnjmfkaaDoor
open Go.RowKit

theorem rdigit_in (c b v : Int) (hb : 2 ≤ b ∧ b ≤ 36) (hc : (48 ≤ c ∧ c ≤ 57 ∧ v = c - 48) ∨ (97 ≤ c ∧ c ≤ 122 ∧ v = c - 97 + 10) ∨ (65 ≤ c ∧ c ≤ 90 ∧ v = c - 65 + 10)) (w : World) :
    Calls Tryd.prog 17 #[.int .i64 c, .int .i64 b] w fun e w' => e = .returned (.tuple #[.int .i64 (if v < b then v else 0), .bool (decide (v < b))]) ∧ w = w' := by
  obtain ⟨b1, b2⟩ := hb
  have g2 : ¬ 36 < b := by omega
  have g1 : ¬ b < 2 := by omega
  by_cases hv : v < b
  all_goals
    rcases hc with ⟨a1, a2, rfl⟩ | ⟨a1, a2, rfl⟩ | ⟨a1, a2, rfl⟩
    case' inr.inl => have n1 : ¬ c ≤ 57 := (by omega)
    case' inr.inr => (have n1 : ¬ c ≤ 57 := (by omega); have n2 : ¬ 97 ≤ c := (by omega))
    all_goals
      go_enter Tryd.func17, Tryd.ntmps17
      go_wp2
      go_ret2
      exact ⟨by simp [hv], rfl⟩

theorem rdigit_other (c b : Int) (hc : c < 48 ∨ (57 < c ∧ c < 65) ∨ (90 < c ∧ c < 97) ∨ 122 < c) (w : World) :
    Calls Tryd.prog 17 #[.int .i64 c, .int .i64 b] w fun e w' => e = .returned (.tuple #[.int .i64 0, .bool false]) ∧ w = w' := by
  rcases (show b < 2 ∨ (2 ≤ b ∧ b ≤ 36) ∨ (2 ≤ b ∧ 36 < b) by omega) with g1 | ⟨g1, g2⟩ | ⟨g1, g2⟩ <;> rcases hc with hc | ⟨hc, hd⟩ | ⟨hc, hd⟩ | hc
  all_goals
    go_enter Tryd.func17, Tryd.ntmps17
    go_wp2
    go_ret2
    exact ⟨rfl, rfl⟩

theorem rdigit_no (c b : Int) (hb : b < 2 ∨ 36 < b) (hc : (48 ≤ c ∧ c ≤ 57) ∨ (97 ≤ c ∧ c ≤ 122) ∨ (65 ≤ c ∧ c ≤ 90)) (w : World) :
    Calls Tryd.prog 17 #[.int .i64 c, .int .i64 b] w fun e w' => e = .returned (.tuple #[.int .i64 0, .bool false]) ∧ w = w' := by
  rcases (show b < 2 ∨ (2 ≤ b ∧ 36 < b) by omega) with g1 | ⟨g1, g2⟩ <;> rcases (show (48 ≤ c ∧ c ≤ 57) ∨ (57 < c ∧ 97 ≤ c ∧ c ≤ 122) ∨ (57 < c ∧ c < 97 ∧ 65 ≤ c ∧ c ≤ 90) by omega) with ⟨a1, a2⟩ | ⟨n1, a1, a2⟩ | ⟨n1, n2, a1, a2⟩ <;> clear hb hc
  all_goals
    go_enter Tryd.func17, Tryd.ntmps17
    go_wp2
    go_ret2
    exact ⟨rfl, rfl⟩

theorem digOk_val {c b : Int} (hb : 2 ≤ b ∧ b ≤ 36) (h0 : 0 ≤ digV c) : digR c b = (if digV c < b then digV c else 0) ∧ digOk c b = decide (digV c < b) := by
  have e : digOk c b = decide (digV c < b) := by unfold digOk; by_cases h : digV c < b <;> simp [h] <;> omega
  refine ⟨?_, e⟩
  unfold digR; rw [e]; by_cases h : digV c < b <;> simp [h]

theorem rdigit_any (c b : Int) (w : World) :
    Calls Tryd.prog 17 #[.int .i64 c, .int .i64 b] w fun e w' => e = .returned (.tuple #[.int .i64 (digR c b), .bool (digOk c b)]) ∧ w = w' := by
  rcases digV_cases c with h | h | h | ⟨h, hv⟩
  case' inr.inr.inr =>
    have hd : digOk c b = false := by unfold digOk; simp; omega
    exact (rdigit_other c b h w).mono fun e w' ⟨he, hw⟩ => ⟨he.trans (ret_ib' (by unfold digR; rw [hd]; rfl) hd), hw⟩
  all_goals
    by_cases hb : 2 ≤ b ∧ b ≤ 36
    · obtain ⟨e1, e2⟩ := digOk_val (c := c) hb (by omega)
      exact (rdigit_in c b (digV c) hb (by omega) w).mono fun e w' ⟨he, hw⟩ => ⟨he.trans (ret_ib' e1 e2), hw⟩
    · have hd : digOk c b = false := by unfold digOk; simp; omega
      exact (rdigit_no c b (by omega) (by omega) w).mono fun e w' ⟨he, hw⟩ => ⟨he.trans (ret_ib' (by unfold digR; rw [hd]; rfl) hd), hw⟩

end Go.Proofs.YtcjpbomdnjmfkaaDoor
