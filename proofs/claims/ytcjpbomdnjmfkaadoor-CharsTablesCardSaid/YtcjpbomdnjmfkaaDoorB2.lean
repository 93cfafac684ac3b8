/- The contracts of chars.Digit and chars.Class for every integer, and the law CharsClasses: it returns true. -/
import Derived.Test.YtcjpbomdnjmfkaaDoorB1
namespace Go.Proofs.YtcjpbomdnjmfkaaDoor
open Go.RowKit

theorem digit_other (c b : Int) (h1 : 2 ≤ b) (h2 : b ≤ 36) (hc : c < 48 ∨ (57 < c ∧ c < 65) ∨ (90 < c ∧ c < 97) ∨ 122 < c) (w : World) :
    Calls Tryd.prog 12 #[.int .i64 c, .int .i64 b] w fun e w' => e = .returned (.tuple #[.int .i64 0, .bool false]) ∧ w = w' := by
  have g2 : ¬ 36 < b := by omega
  have g1 : ¬ b < 2 := by omega
  rcases hc with hc | ⟨hc, hd⟩ | ⟨hc, hd⟩ | hc
  all_goals
    go_enter Tryd.func12, Tryd.ntmps12
    go_wp2
    go_ret2
    exact ⟨rfl, rfl⟩

theorem digV_cases (c : Int) : (48 ≤ c ∧ c ≤ 57 ∧ digV c = c - 48) ∨ (97 ≤ c ∧ c ≤ 122 ∧ digV c = c - 97 + 10) ∨ (65 ≤ c ∧ c ≤ 90 ∧ digV c = c - 65 + 10) ∨ ((c < 48 ∨ (57 < c ∧ c < 65) ∨ (90 < c ∧ c < 97) ∨ 122 < c) ∧ digV c = -1) := by
  unfold digV
  split
  · left; omega
  · split
    · right; left; omega
    · split
      · right; right; left; omega
      · right; right; right; exact ⟨by omega, rfl⟩

theorem ret_ib' {k : IntKind} {a b : Int} {c d : Bool} (h : b = a) (g : d = c) : Ending.returned (.tuple #[.int k a, .bool c]) = .returned (.tuple #[.int k b, .bool d]) := by rw [h, g]

theorem digit_any (c b : Int) (w : World) :
    Calls Tryd.prog 12 #[.int .i64 c, .int .i64 b] w fun e w' => e = .returned (.tuple #[.int .i64 (digR c b), .bool (digOk c b)]) ∧ w = w' := by
  by_cases hb : 2 ≤ b ∧ b ≤ 36
  · rcases digV_cases c with h | h | h | ⟨h, hv⟩
    · refine (digit_small c b (digV c) hb.1 hb.2 (by omega) w).mono fun e w' ⟨he, hw⟩ => ⟨he.trans (ret_ib' ?_ ?_), hw⟩
      · unfold digR digOk; by_cases hl : digV c < b
        · rw [if_pos hl, if_pos (by simp; omega)]
        · rw [if_neg hl, if_neg (by simp; omega)]
      · unfold digOk; by_cases hl : digV c < b
        · simp only [hl, decide_true]; simp; omega
        · simp only [hl, decide_false]; simp
    · refine (digit_small c b (digV c) hb.1 hb.2 (by omega) w).mono fun e w' ⟨he, hw⟩ => ⟨he.trans (ret_ib' ?_ ?_), hw⟩
      · unfold digR digOk; by_cases hl : digV c < b
        · rw [if_pos hl, if_pos (by simp; omega)]
        · rw [if_neg hl, if_neg (by simp; omega)]
      · unfold digOk; by_cases hl : digV c < b
        · simp only [hl, decide_true]; simp; omega
        · simp only [hl, decide_false]; simp
    · refine (digit_small c b (digV c) hb.1 hb.2 (by omega) w).mono fun e w' ⟨he, hw⟩ => ⟨he.trans (ret_ib' ?_ ?_), hw⟩
      · unfold digR digOk; by_cases hl : digV c < b
        · rw [if_pos hl, if_pos (by simp; omega)]
        · rw [if_neg hl, if_neg (by simp; omega)]
      · unfold digOk; by_cases hl : digV c < b
        · simp only [hl, decide_true]; simp; omega
        · simp only [hl, decide_false]; simp
    · have hd : digOk c b = false := by unfold digOk; simp; omega
      refine (digit_other c b hb.1 hb.2 h w).mono fun e w' ⟨he, hw⟩ => ⟨he.trans (ret_ib' ?_ hd), hw⟩
      unfold digR; rw [hd]; rfl
  · have hd : digOk c b = false := by unfold digOk; simp; omega
    refine (digit_no c b (by omega) w).mono fun e w' ⟨he, hw⟩ => ⟨he.trans (ret_ib' ?_ hd), hw⟩
    unfold digR; rw [hd]; rfl

theorem class_any (c : Int) (w : World) (hL : Laid w) :
    Calls Tryd.prog 11 #[.int .i64 c] w fun e w' => e = .returned (.int .i64 (cls c)) ∧ Below w.heap.size w w' := by
  by_cases hc : 0 ≤ c ∧ c ≤ 255
  · have : cls c = clsF c 0 7 := by rw [cls, if_pos (isC_yes hc.1 hc.2)]
    rw [this]
    exact class_yes c hc.1 hc.2 w hL
  · have : cls c = 0 := by rw [cls, if_neg (by rw [isC_no (by omega)]; decide)]
    rw [this]
    exact class_no c (by omega) w

/-- What the law CharsClasses asks of the class k and the two tests, as one test. -/
def classTest (c : Int) : Bool :=
  decide (1 ≤ cls c ∧ cls c ≤ 8) && digOk c 10 == (cls c == 4) && digOk c 36 == (digOk c 10 || (!(c == 95) && (cls c == 2 || cls c == 3)))
theorem class_facts_nat : ∀ n : Fin 256, classTest (n.val : Int) = true := by decide +kernel
theorem class_facts (c : Int) (h0 : 0 ≤ c) (h1 : c ≤ 255) : 1 ≤ cls c ∧ cls c ≤ 8 ∧ digOk c 10 = (cls c == 4) ∧ digOk c 36 = (digOk c 10 || (!(c == 95) && (cls c == 2 || cls c == 3))) := by
  have := class_facts_nat ⟨c.toNat, by omega⟩
  rw [show ((⟨c.toNat, by omega⟩ : Fin 256).val : Int) = c from by simp; omega] at this
  simpa [classTest, and_assoc] using this

set_option maxHeartbeats 8000000 in
/-- The law's walk where the class is k and the two tests give d and e. -/
theorem classes_in (c k : Int) (d e : Bool) (w : World) (hL : Laid w) (c0 : 0 ≤ c) (c1 : c ≤ 255) (hk : cls c = k) (hd : digOk c 10 = d) (he : digOk c 36 = e) (q : Bool) (hq : (c != 95) = !q)
    (hcase : (k = 4 ∧ d = true ∧ e = true) ∨ (d = false ∧ ((k = 2 ∧ e = !q) ∨ (k = 3 ∧ e = !q) ∨ ((k = 1 ∨ k = 5 ∨ k = 6 ∨ k = 7 ∨ k = 8) ∧ e = false)))) :
    Calls Tryd.prog 6 #[.int .i64 c] w fun e w' => e = .returned (.bool true) ∧ Below w.heap.size w w' := by
  have HL := Lib.hid hL
  have HK := Lib.hid hk
  have HD := Lib.hid hd
  have HE := Lib.hid he
  clear hL hk hd he
  rcases hcase with ⟨rfl, rfl, rfl⟩ | ⟨rfl, ⟨rfl, rfl⟩ | ⟨rfl, rfl⟩ | ⟨rfl | rfl | rfl | rfl | rfl, rfl⟩⟩
  all_goals
    cases q
    all_goals
      go_enter Tryd.func6, Tryd.ntmps6
      go_wp2_with fail
      refine (class_any c _ HL.out).mono ?_
      rintro e w1 ⟨rfl, hb1⟩
      rw [HK.out]
      go_wp2_with fail
      refine (digit_any c 10 _).mono ?_
      rintro e w2 ⟨rfl, rfl⟩
      rw [HD.out]
      go_wp2_with fail
      refine (digit_any c 36 _).mono ?_
      rintro e w2 ⟨rfl, rfl⟩
      rw [HE.out]
      go_wp2_with fail
      refine (awake_any _ (HL.out.below hb1)).mono ?_
      rintro e w2 ⟨rfl, hb2⟩
      have hb3 : Below w.heap.size w w2 := hb1.trans (hb2.mono hb1.size)
      clear hb1 hb2
      go_wp2_with fail
      go_ret
      exact ⟨rfl, hb3⟩

set_option maxHeartbeats 1000000 in
theorem classes_out (c : Int) (w : World) (hL : Laid w) (hc : c < 0 ∨ 255 < c) :
    Calls Tryd.prog 6 #[.int .i64 c] w fun e w' => e = .returned (.bool true) ∧ Below w.heap.size w w' := by
  have HL := Lib.hid hL
  have HK : Hid (cls c = 0) := by show _ = _; rw [cls, if_neg (by rw [isC_no hc]; decide)]
  have hv : digV c = -1 := by rcases digV_cases c with h | h | h | h <;> omega
  have HD : Hid (digOk c 10 = false) := by show _ = _; unfold digOk; rw [hv]; rfl
  have HE : Hid (digOk c 36 = false) := by show _ = _; unfold digOk; rw [hv]; rfl
  clear hL hv
  rcases hc with hc | hc
  case' inr => have hn : decide (c ≤ 255) = false := decide_eq_false (by omega)
  all_goals
    have hq : (c != 95) = true := by simp; omega
    go_enter Tryd.func6, Tryd.ntmps6
    go_wp2_with fail
    refine (class_any c _ HL.out).mono ?_
    rintro e w1 ⟨rfl, hb1⟩
    rw [HK.out]
    go_wp2_with fail
    refine (digit_any c 10 _).mono ?_
    rintro e w2 ⟨rfl, rfl⟩
    rw [HD.out]
    go_wp2_with fail
    refine (digit_any c 36 _).mono ?_
    rintro e w2 ⟨rfl, rfl⟩
    rw [HE.out]
    go_wp2_with fail
    refine (awake_any _ (HL.out.below hb1)).mono ?_
    rintro e w2 ⟨rfl, hb2⟩
    have hb3 : Below w.heap.size w w2 := hb1.trans (hb2.mono hb1.size)
    clear hb1 hb2
    go_wp2_with fail
    go_ret
    first
    | exact ⟨rfl, hb3⟩
    | exact ⟨ret_bool (show (!decide (c ≤ 255)) = true by rw [hn]; rfl), hb3⟩

theorem classes_walk (c : Int) (w : World) (hL : Laid w) :
    Calls Tryd.prog 6 #[.int .i64 c] w fun e w' => e = .returned (.bool true) ∧ Below w.heap.size w w' := by
  by_cases hc : 0 ≤ c ∧ c ≤ 255
  · obtain ⟨h1, h2, h3, h4⟩ := class_facts c hc.1 hc.2
    refine classes_in c (cls c) _ _ w hL hc.1 hc.2 rfl rfl rfl (c == 95) rfl ?_
    rw [h4, h3]
    generalize cls c = k at *
    generalize (c == 95) = q at *
    have : k = 1 ∨ k = 2 ∨ k = 3 ∨ k = 4 ∨ k = 5 ∨ k = 6 ∨ k = 7 ∨ k = 8 := by omega
    rcases this with rfl | rfl | rfl | rfl | rfl | rfl | rfl | rfl <;> simp
  · exact classes_out c w hL (by omega)

end Go.Proofs.YtcjpbomdnjmfkaaDoor
