/- The law CharsConverts: it returns true. -/
import Derived.Test.YtcjpbomdnjmfkaaDoorB2
import Derived.Test.YtcjpbomdnjmfkaaDoorC2
import Derived.Test.YtcjpbomdnjmfkaaDoorM1
namespace Go.Proofs.YtcjpbomdnjmfkaaDoor
open Go.RowKit

set_option maxRecDepth 100000 in
theorem converts_long (A : Option Addr) (n cap : Nat) (x y z : Int) (w : World) (hm : n ≤ maxLen) (hn : 1000 < n) (hL : Laid w) :
    Calls Tryd.prog 8 #[.slice A n cap, .int .i64 x, .int .i64 y, .int .i64 z] w fun e w' => e = .returned (.bool true) ∧ Below w.heap.size w w' := by
  unfold maxLen at hm
  have HL := Lib.hid hL
  clear hL
  go_enter Tryd.func8, Tryd.ntmps8
  go_wp2_with fail
  refine (awake_any _ HL.out).mono ?_
  rintro e w1 ⟨rfl, hb1⟩
  go_wp2_with fail
  go_ret
  exact ⟨rfl, hb1⟩

/-- Set is refused. -/
def Bad (ps : List (Int × Int)) (x y : Int) : Prop := vld ps = false ∨ (vld ps = true ∧ x < 0) ∨ (vld ps = true ∧ 0 ≤ x ∧ 255 < x) ∨ (vld ps = true ∧ 0 ≤ x ∧ x ≤ 255 ∧ y < 0) ∨ (vld ps = true ∧ 0 ≤ x ∧ x ≤ 255 ∧ 0 ≤ y ∧ 255 < y ∧ decide (y ≤ 255) = false)
theorem Bad.set {ps : List (Int × Int)} {x y : Int} (h : Bad ps x y) : vld ps = false ∨ isC x = false ∨ isC y = false := by
  rcases h with h | ⟨_, h⟩ | ⟨_, _, h⟩ | ⟨_, _, _, h⟩ | ⟨_, _, _, _, h, _⟩
  · exact .inl h
  · exact .inr (.inl (isC_no (by omega)))
  · exact .inr (.inl (isC_no (by omega)))
  · exact .inr (.inr (isC_no (by omega)))
  · exact .inr (.inr (isC_no (by omega)))

set_option maxRecDepth 100000 in
set_option maxHeartbeats 4000000 in
theorem converts_bad (A : Option Addr) (n cap : Nat) (ps : List (Int × Int)) (x y z : Int) (w : World) (hl : ps.length = n) (hn : n ≤ 1000) (hP : PR w A ps) (hL : Laid w) (h : Bad ps x y) :
    Calls Tryd.prog 8 #[.slice A n cap, .int .i64 x, .int .i64 y, .int .i64 z] w fun e w' => e = .returned (.bool true) ∧ Below w.heap.size w w' := by
  have HL := Lib.hid hL
  have HP := Lib.hid hP
  have Hl := Lib.hid hl
  have HB := Lib.hid h.set
  clear hL hP hl
  rcases h with hv | ⟨hv, h1⟩ | ⟨hv, h1, h2⟩ | ⟨hv, h1, h2, h3⟩ | ⟨hv, h1, h2, h3, h4, h5⟩
  all_goals
    have Hv := Lib.hid hv
    clear hv
    go_enter Tryd.func8, Tryd.ntmps8
    go_wp2_with fail
    refine (set_no A n cap ps x y _ Hl.out (by omega) HP.out HB.out).mono ?_
    rintro e w1 ⟨rfl, hb1⟩
    go_wp2_with fail
    refine (valid_any A n cap ps _ Hl.out (by omega) (HP.out.below hb1)).mono ?_
    rintro e w2 ⟨rfl, hb2⟩
    have hb3 : Below w.heap.size w w2 := hb1.trans (hb2.mono hb1.size)
    clear hb1 hb2
    rw [Hv.out]
    go_wp2_with fail
    refine (awake_any _ (HL.out.below hb3)).mono ?_
    rintro e w3 ⟨rfl, hb4⟩
    have hb5 : Below w.heap.size w w3 := hb3.trans (hb4.mono hb3.size)
    clear hb3 hb4
    go_wp2_with fail
    go_ret
    exact ⟨rfl, hb5⟩

theorem conv_other {ps : List (Int × Int)} (h : vld ps = true) {x y z : Int} (hx : isC x = true) (hy : isC y = true) (hz : ¬ z = x) : conv (setP ps x y) z = conv ps z := by
  have hv := vld_iff.1 h
  have hs := vld_iff.2 (setP_valid hv hx hy)
  cases hc : isC z with
  | true => rw [conv_ok hs hc, conv_ok h hc, look_setP hv hx hy, if_neg hz]
  | false => rw [conv_no hc, conv_no hc]

set_option maxRecDepth 100000 in
set_option maxHeartbeats 4000000 in
theorem converts_good (A : Option Addr) (n cap : Nat) (ps : List (Int × Int)) (x y z : Int) (w : World) (hl : ps.length = n) (hn : n ≤ 1000) (hP : PR w A ps) (hL : Laid w) (hv : vld ps = true) (x0 : 0 ≤ x) (x1 : x ≤ 255) (y0 : 0 ≤ y) (y1 : y ≤ 255) :
    Calls Tryd.prog 8 #[.slice A n cap, .int .i64 x, .int .i64 y, .int .i64 z] w fun e w' => e = .returned (.bool true) ∧ Below w.heap.size w w' := by
  have HL := Lib.hid hL
  have HP := Lib.hid hP
  have Hl := Lib.hid hl
  have hx := isC_yes x0 x1
  have hy := isC_yes y0 y1
  have V := vld_iff.1 hv
  have hz : isC (look ps x) = true := isC_look V hx
  have Hv := Lib.hid hv
  have Hx := Lib.hid hx
  have Hy := Lib.hid hy
  have Hz := Lib.hid hz
  have HV := Lib.hid (vld_iff.2 (setP_valid V hx hy))
  have HC1 := Lib.hid (conv_ok hv hx)
  have HC2 : Hid (conv (setP ps x y) x = y) := by
    show _ = _; rw [conv_ok (vld_iff.2 (setP_valid V hx hy)) hx, look_setP V hx hy, if_pos rfl]
  have HBk := Lib.hid (set_back V hx hy hz)
  clear hL hP hl hx hy V hz hv
  by_cases hzx : z = x
  case' pos => (have hzx2 : x = z := hzx.symm; clear hzx; subst hzx2)
  case' neg => have HO := Lib.hid (conv_other Hv.out Hx.out Hy.out hzx)
  all_goals
    go_enter Tryd.func8, Tryd.ntmps8
    go_wp2_with fail
    refine (set_yes A n cap ps x y _ Hl.out (by omega) HP.out Hv.out Hx.out Hy.out).mono ?_
    rintro e w1 ⟨g, rfl, hg, hO1, hb1⟩
    have hk : (setP ps x y).length ≤ n + 1 := hO1.le
    have HO1 := Lib.hid hO1
    clear hO1
    obtain ⟨k, Hk⟩ : ∃ k, Hid ((setP ps x y).length = k) := ⟨_, Lib.hid rfl⟩
    rw [Hk.out] at hk ⊢
    go_wp2_with fail
    refine (valid_any A n cap ps _ Hl.out (by omega) (HP.out.below hb1)).mono ?_
    rintro e w2 ⟨rfl, hb2⟩
    have hb3 : Below w.heap.size w w2 := hb1.trans (hb2.mono hb1.size)
    have HO2 := Lib.hid (HO1.out.below hb2)
    clear hb1 hb2 HO1
    rw [Hv.out]
    go_wp2_with fail
    refine (convert_any A n cap ps x _ Hl.out (by omega) (HP.out.below hb3)).mono ?_
    rintro e w3 ⟨rfl, hb4⟩
    have hb5 : Below w.heap.size w w3 := hb3.trans (hb4.mono hb3.size)
    have HO3 := Lib.hid (HO2.out.below hb4)
    clear hb3 hb4 HO2
    rw [HC1.out]
    go_wp2_with fail
    refine (set_yes (some ⟨g, 0, none⟩) k (n + 1) (setP ps x y) x (look ps x) _ Hk.out (by omega) HO3.out.pr HV.out Hx.out Hz.out).mono ?_
    rintro e w4 ⟨g2, rfl, hg2, hO4, hb6⟩
    rw [HBk.out] at hO4 ⊢
    rw [Hl.out]
    have HO4 := Lib.hid hO4
    have HO5 := Lib.hid (HO3.out.below hb6)
    have hb7 : Below w.heap.size w w4 := hb5.trans (hb6.mono hb5.size)
    clear hb5 hb6 hO4 HO3
    go_wp2_with fail
  all_goals
    first
    | (have _h := HO.out
       clear _h
       refine (convert_any (some ⟨g, 0, none⟩) k (n + 1) (setP ps x y) z _ Hk.out (by omega) HO5.out.pr).mono ?_
       rintro e w5 ⟨rfl, hb8⟩
       have hb9 : Below w.heap.size w w5 := hb7.trans (hb8.mono hb7.size)
       have HO6 := Lib.hid (HO5.out.below hb8)
       have HO7 := Lib.hid (HO4.out.below hb8)
       clear hb7 hb8 HO5 HO4
       rw [HO.out]
       go_wp2_with fail
       refine (convert_any A n cap ps z _ Hl.out (by omega) (HP.out.below hb9)).mono ?_
       rintro e w4 ⟨rfl, hb10⟩
       have hb7 : Below w.heap.size w w4 := hb9.trans (hb10.mono hb9.size)
       have HO5 := Lib.hid (HO6.out.below hb10)
       have HO4 := Lib.hid (HO7.out.below hb10)
       clear hb9 hb10 HO6 HO7
       go_wp2_with fail)
    | skip
  all_goals
    refine (valid_any (some ⟨g, 0, none⟩) k (n + 1) (setP ps x y) _ Hk.out (by omega) HO5.out.pr).mono ?_
    rintro e w7 ⟨rfl, hb12⟩
    have hb13 : Below w.heap.size w w7 := hb7.trans (hb12.mono hb7.size)
    have HO6 := Lib.hid (HO5.out.below hb12)
    have HO7 := Lib.hid (HO4.out.below hb12)
    clear hb7 hb12 HO5 HO4
    rw [HV.out]
    go_wp2_with fail
    refine (convert_any (some ⟨g, 0, none⟩) k (n + 1) (setP ps x y) x _ Hk.out (by omega) HO6.out.pr).mono ?_
    rintro e w8 ⟨rfl, hb14⟩
    have hb15 : Below w.heap.size w w8 := hb13.trans (hb14.mono hb13.size)
    have HO8 := Lib.hid (HO7.out.below hb14)
    clear hb13 hb14 HO6 HO7
    rw [HC2.out]
    go_wp2_with fail
    refine (same_any (some ⟨g2, 0, none⟩) A n n (k + 1) cap ps ps _ Hl.out Hl.out (by omega) (by omega) HO8.out.pr (HP.out.below hb15)).mono ?_
    rintro e w9 ⟨rfl, hb16⟩
    have hb17 : Below w.heap.size w w9 := hb15.trans (hb16.mono hb15.size)
    clear hb15 hb16 HO8
    rw [show decide (ps = ps) = true from by simp]
    go_wp2_with fail
    refine (awake_any _ (HL.out.below hb17)).mono ?_
    rintro e w10 ⟨rfl, hb18⟩
    have hb19 : Below w.heap.size w w10 := hb17.trans (hb18.mono hb17.size)
    clear hb17 hb18
    go_wp2_with fail
    go_ret
    exact ⟨rfl, hb19⟩

theorem converts_walk (A : Option Addr) (n cap : Nat) (ps : List (Int × Int)) (x y z : Int) (w : World) (hl : ps.length = n) (hm : n ≤ maxLen) (hP : PR w A ps) (hL : Laid w) :
    Calls Tryd.prog 8 #[.slice A n cap, .int .i64 x, .int .i64 y, .int .i64 z] w fun e w' => e = .returned (.bool true) ∧ Below w.heap.size w w' := by
  by_cases hn : n ≤ 1000
  · by_cases hg : vld ps = true ∧ 0 ≤ x ∧ x ≤ 255 ∧ 0 ≤ y ∧ y ≤ 255
    · exact converts_good A n cap ps x y z w hl hn hP hL hg.1 hg.2.1 hg.2.2.1 hg.2.2.2.1 hg.2.2.2.2
    · refine converts_bad A n cap ps x y z w hl hn hP hL ?_
      unfold Bad
      cases hv : vld ps with
      | false => exact .inl rfl
      | true =>
        rw [hv] at hg
        simp only [true_and] at hg
        by_cases h1 : x < 0
        · exact .inr (.inl ⟨rfl, h1⟩)
        · by_cases h2 : 255 < x
          · exact .inr (.inr (.inl ⟨rfl, by omega, h2⟩))
          · by_cases h3 : y < 0
            · exact .inr (.inr (.inr (.inl ⟨rfl, by omega, by omega, h3⟩)))
            · exact .inr (.inr (.inr (.inr ⟨rfl, by omega, by omega, by omega, by omega, decide_eq_false (by omega)⟩)))
  · exact converts_long A n cap x y z w hm (by omega) hL

end Go.Proofs.YtcjpbomdnjmfkaaDoor
