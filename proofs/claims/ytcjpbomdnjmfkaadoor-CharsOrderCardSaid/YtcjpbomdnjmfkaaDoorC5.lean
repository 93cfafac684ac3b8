/- The law CharsOrder: it returns true. -/
import Derived.Test.YtcjpbomdnjmfkaaDoorC4
namespace Go.Proofs.YtcjpbomdnjmfkaaDoor
open Go.RowKit

def Good (ps : List (Int × Int)) (x y : Int) : Prop := vld ps = true ∧ isC x = true ∧ isC y = true
theorem not_good {ps : List (Int × Int)} {x y : Int} (h : ¬ Good ps x y) : vld ps = false ∨ isC x = false ∨ isC y = false := by
  unfold Good at h
  cases hv : vld ps <;> cases hx : isC x <;> cases hy : isC y <;> simp_all

set_option maxRecDepth 100000 in
theorem order_skip (A : Option Addr) (n cap : Nat) (a x b y : Int) (w : World) (hm : n ≤ maxLen) (hn : 1000 < n ∨ (n ≤ 1000 ∧ a = b)) (hL : Laid w) :
    Calls Tryd.prog 9 #[.slice A n cap, .int .i64 a, .int .i64 x, .int .i64 b, .int .i64 y] w fun e w' => e = .returned (.bool true) ∧ Below w.heap.size w w' := by
  unfold maxLen at hm
  have HL := Lib.hid hL
  clear hL
  rcases hn with hn | ⟨hn, rfl⟩
  all_goals
    go_enter Tryd.func9, Tryd.ntmps9
    go_wp2_with fail
    refine (awake_any _ HL.out).mono ?_
    rintro e w1 ⟨rfl, hb1⟩
    go_wp2_with fail
    go_ret
    exact ⟨rfl, hb1⟩

set_option maxRecDepth 100000 in
set_option maxHeartbeats 4000000 in
theorem order_bad (A : Option Addr) (n cap : Nat) (ps : List (Int × Int)) (a x b y : Int) (w : World) (hl : ps.length = n) (hn : n ≤ 1000) (hab : (a == b) = false) (hP : PR w A ps) (hL : Laid w) (h : ¬ Good ps a x ∨ ¬ Good ps b y) :
    Calls Tryd.prog 9 #[.slice A n cap, .int .i64 a, .int .i64 x, .int .i64 b, .int .i64 y] w fun e w' => e = .returned (.bool true) ∧ Below w.heap.size w w' := by
  have HL := Lib.hid hL
  have HP := Lib.hid hP
  have Hl := Lib.hid hl
  clear hL hP hl
  by_cases h1 : Good ps a x <;> by_cases h2 : Good ps b y
  · exfalso; rcases h with h | h
    · exact h h1
    · exact h h2
  · have H1 := Lib.hid h1
    have H2 := Lib.hid (not_good h2)
    clear h h1 h2
    go_enter Tryd.func9, Tryd.ntmps9
    go_wp2_with fail
    refine (set_yes A n cap ps a x _ Hl.out (by omega) HP.out H1.out.1 H1.out.2.1 H1.out.2.2).mono ?_
    rintro e w1 ⟨g, rfl, hg, hO1, hb1⟩
    go_wp2_with fail
    refine (set_no A n cap ps b y _ Hl.out (by omega) (HP.out.below hb1) H2.out).mono ?_
    rintro e w2 ⟨rfl, hb2⟩
    have hb3 : Below w.heap.size w w2 := hb1.trans (hb2.mono hb1.size)
    clear hb1 hb2 hO1
    go_wp2_with fail
    refine (awake_any _ (HL.out.below hb3)).mono ?_
    rintro e w3 ⟨rfl, hb4⟩
    have hb5 : Below w.heap.size w w3 := hb3.trans (hb4.mono hb3.size)
    clear hb3 hb4
    go_wp2_with fail
    go_ret
    exact ⟨rfl, hb5⟩
  · have H1 := Lib.hid (not_good h1)
    have H2 := Lib.hid h2
    clear h h1 h2
    go_enter Tryd.func9, Tryd.ntmps9
    go_wp2_with fail
    refine (set_no A n cap ps a x _ Hl.out (by omega) HP.out H1.out).mono ?_
    rintro e w1 ⟨rfl, hb1⟩
    go_wp2_with fail
    refine (set_yes A n cap ps b y _ Hl.out (by omega) (HP.out.below hb1) H2.out.1 H2.out.2.1 H2.out.2.2).mono ?_
    rintro e w2 ⟨g, rfl, hg, hO1, hb2⟩
    have hb3 : Below w.heap.size w w2 := hb1.trans (hb2.mono hb1.size)
    clear hb1 hb2 hO1
    go_wp2_with fail
    refine (awake_any _ (HL.out.below hb3)).mono ?_
    rintro e w3 ⟨rfl, hb4⟩
    have hb5 : Below w.heap.size w w3 := hb3.trans (hb4.mono hb3.size)
    clear hb3 hb4
    go_wp2_with fail
    go_ret
    exact ⟨rfl, hb5⟩
  · have H1 := Lib.hid (not_good h1)
    have H2 := Lib.hid (not_good h2)
    clear h h1 h2
    go_enter Tryd.func9, Tryd.ntmps9
    go_wp2_with fail
    refine (set_no A n cap ps a x _ Hl.out (by omega) HP.out H1.out).mono ?_
    rintro e w1 ⟨rfl, hb1⟩
    go_wp2_with fail
    refine (set_no A n cap ps b y _ Hl.out (by omega) (HP.out.below hb1) H2.out).mono ?_
    rintro e w2 ⟨rfl, hb2⟩
    have hb3 : Below w.heap.size w w2 := hb1.trans (hb2.mono hb1.size)
    clear hb1 hb2
    go_wp2_with fail
    refine (awake_any _ (HL.out.below hb3)).mono ?_
    rintro e w3 ⟨rfl, hb4⟩
    have hb5 : Below w.heap.size w w3 := hb3.trans (hb4.mono hb3.size)
    clear hb3 hb4
    go_wp2_with fail
    go_ret
    exact ⟨rfl, hb5⟩

set_option maxRecDepth 100000 in
set_option maxHeartbeats 4000000 in
theorem order_good (A : Option Addr) (n cap : Nat) (ps : List (Int × Int)) (a x b y : Int) (w : World) (hl : ps.length = n) (hn : n ≤ 1000) (hab : (a == b) = false) (hP : PR w A ps) (hL : Laid w) (h1 : Good ps a x) (h2 : Good ps b y) :
    Calls Tryd.prog 9 #[.slice A n cap, .int .i64 a, .int .i64 x, .int .i64 b, .int .i64 y] w fun e w' => e = .returned (.bool true) ∧ Below w.heap.size w w' := by
  have HL := Lib.hid hL
  have HP := Lib.hid hP
  have Hl := Lib.hid hl
  have V := vld_iff.1 h1.1
  have HV1 := Lib.hid (vld_iff.2 (setP_valid V h1.2.1 h1.2.2))
  have HV2 := Lib.hid (vld_iff.2 (setP_valid V h2.2.1 h2.2.2))
  have HSw := Lib.hid (set_swap V (by simpa using hab) h1.2.1 h1.2.2 h2.2.1 h2.2.2)
  have H1 := Lib.hid h1
  have H2 := Lib.hid h2
  clear hL hP hl V h1 h2
  go_enter Tryd.func9, Tryd.ntmps9
  go_wp2_with fail
  refine (set_yes A n cap ps a x _ Hl.out (by omega) HP.out H1.out.1 H1.out.2.1 H1.out.2.2).mono ?_
  rintro e w1 ⟨g, rfl, hg, hO1, hb1⟩
  have hk : (setP ps a x).length ≤ n + 1 := hO1.le
  have HO1 := Lib.hid hO1
  clear hO1
  obtain ⟨k, Hk⟩ : ∃ k, Hid ((setP ps a x).length = k) := ⟨_, Lib.hid rfl⟩
  rw [Hk.out] at hk ⊢
  go_wp2_with fail
  refine (set_yes A n cap ps b y _ Hl.out (by omega) (HP.out.below hb1) H2.out.1 H2.out.2.1 H2.out.2.2).mono ?_
  rintro e w2 ⟨g2, rfl, hg2, hO2, hb2⟩
  have hk2 : (setP ps b y).length ≤ n + 1 := hO2.le
  have HO2 := Lib.hid hO2
  have HO3 := Lib.hid (HO1.out.below hb2)
  have hb3 : Below w.heap.size w w2 := hb1.trans (hb2.mono hb1.size)
  clear hO2 HO1 hb1 hb2
  obtain ⟨k2, Hk2⟩ : ∃ k, Hid ((setP ps b y).length = k) := ⟨_, Lib.hid rfl⟩
  rw [Hk2.out] at hk2 ⊢
  go_wp2_with fail
  refine (set_yes (some ⟨g, 0, none⟩) k (n + 1) (setP ps a x) b y _ Hk.out (by omega) HO3.out.pr HV1.out H2.out.2.1 H2.out.2.2).mono ?_
  rintro e w3 ⟨g3, rfl, hg3, hO4, hb4⟩
  have hk3 : (setP (setP ps a x) b y).length ≤ k + 1 := hO4.le
  have HO4 := Lib.hid hO4
  have HO5 := Lib.hid (HO2.out.below hb4)
  have hb5 : Below w.heap.size w w3 := hb3.trans (hb4.mono hb3.size)
  clear hO4 HO2 HO3 hb3 hb4
  obtain ⟨k3, Hk3⟩ : ∃ k, Hid ((setP (setP ps a x) b y).length = k) := ⟨_, Lib.hid rfl⟩
  rw [Hk3.out] at hk3 ⊢
  go_wp2_with fail
  refine (set_yes (some ⟨g2, 0, none⟩) k2 (n + 1) (setP ps b y) a x _ Hk2.out (by omega) HO5.out.pr HV2.out H1.out.2.1 H1.out.2.2).mono ?_
  rintro e w4 ⟨g4, rfl, hg4, hO6, hb6⟩
  rw [← HSw.out] at hO6 ⊢
  rw [Hk3.out]
  have HO6 := Lib.hid hO6
  have HO7 := Lib.hid (HO4.out.below hb6)
  have hb7 : Below w.heap.size w w4 := hb5.trans (hb6.mono hb5.size)
  clear hO6 HO4 HO5 hb5 hb6
  go_wp2_with fail
  refine (same_any (some ⟨g3, 0, none⟩) (some ⟨g4, 0, none⟩) k3 k3 (k + 1) (k2 + 1) (setP (setP ps a x) b y) (setP (setP ps a x) b y) _ Hk3.out Hk3.out (by omega) (by omega) HO7.out.pr HO6.out.pr).mono ?_
  rintro e w9 ⟨rfl, hb16⟩
  have hb17 : Below w.heap.size w w9 := hb7.trans (hb16.mono hb7.size)
  clear hb7 hb16 HO6 HO7
  rw [show decide (setP (setP ps a x) b y = setP (setP ps a x) b y) = true from by simp]
  go_wp2_with fail
  refine (awake_any _ (HL.out.below hb17)).mono ?_
  rintro e w10 ⟨rfl, hb18⟩
  have hb19 : Below w.heap.size w w10 := hb17.trans (hb18.mono hb17.size)
  clear hb17 hb18
  go_wp2_with fail
  go_ret
  exact ⟨rfl, hb19⟩

theorem order_walk (A : Option Addr) (n cap : Nat) (ps : List (Int × Int)) (a x b y : Int) (w : World) (hl : ps.length = n) (hm : n ≤ maxLen) (hP : PR w A ps) (hL : Laid w) :
    Calls Tryd.prog 9 #[.slice A n cap, .int .i64 a, .int .i64 x, .int .i64 b, .int .i64 y] w fun e w' => e = .returned (.bool true) ∧ Below w.heap.size w w' := by
  by_cases hn : n ≤ 1000
  · by_cases hab : a = b
    · exact order_skip A n cap a x b y w hm (.inr ⟨hn, hab⟩) hL
    · have hab' : (a == b) = false := by simpa using hab
      by_cases h1 : Good ps a x
      · by_cases h2 : Good ps b y
        · exact order_good A n cap ps a x b y w hl hn hab' hP hL h1 h2
        · exact order_bad A n cap ps a x b y w hl hn hab' hP hL (.inr h2)
      · exact order_bad A n cap ps a x b y w hl hn hab' hP hL (.inl h1)
  · exact order_skip A n cap a x b y w hm (.inl (by omega)) hL

end Go.Proofs.YtcjpbomdnjmfkaaDoor
