/- The walk of OpsBounds. -/
import Derived.Test.YtkjkhhifkedflaaDoorPC
set_option linter.unusedVariables false
set_option linter.unusedSimpArgs false
namespace Go.Proofs.YtkjkhhifkedflaaDoor
open Go.RowKit Go.Proofs.HP Go.BigFrame

theorem sd_bounds {o : Opd} (h : oneB o = true) : 0 ≤ sdL o ∧ sdL o ≤ o.2.2 ∧ 0 ≤ sdR o ∧ sdR o ≤ o.2.2 ∧ (oc o = 2 → ¬ (sdL o = o.2.2 ∧ sdR o = o.2.2)) ∧ (oc o = 1 → sdL o = 0) ∧ (oc o = 3 → sdR o = 0) := by
  obtain ⟨n, t, p⟩ := o
  simp only [oneB, Bool.and_eq_true, decide_eq_true_eq] at h
  have hp : 1 ≤ p := h.1.1.1.1.2
  have hq : p ≤ 1200 := h.1.1.1.2
  have ht := h.1.1.1.1.1.2
  have h0 : ¬ p = 0 := by omega
  have e1 : (p == 0) = false := by simpa using h0
  have e2 : isPr p = true := by simp [isPr]; omega
  simp only [isT, Bool.and_eq_true, decide_eq_true_eq] at ht
  have h7 : t = 1 ∨ t = 2 ∨ t = 3 ∨ t = 4 ∨ t = 5 ∨ t = 6 ∨ t = 7 := by omega
  clear h ht
  rcases h7 with rfl | rfl | rfl | rfl | rfl | rfl | rfl <;> simp [sdL, sdR, kL, kR, grt, isT, oc, clsI, e1, e2, h0] <;> omega
theorem lk_one {l : List Opd} {m : ByteArray} {c : Int} (h : lkB l m c = true) : oneB (lkO l m c) = true ∧ oc (lkO l m c) = c := by
  unfold lkB lkO HP.look at *
  by_cases hv : vld l = true
  · rw [if_pos hv] at h ⊢
    obtain ⟨o, ho⟩ := Option.isSome_iff_exists.1 h
    rw [ho]
    exact ⟨(vld_iff.1 hv).one o (List.mem_of_find?_eq_some ho), (isK_iff.1 (List.find?_some ho)).2⟩
  · rw [if_neg hv] at h; cases h
set_option maxHeartbeats 8000000 in
theorem opsBounds_any (A : Option Addr) (cap : Nat) (l : List Opd) (s : ByteArray) (w : World) (hm : l.length ≤ 9223372036854775807) (hP : PRO w A l) (hL : Laid w) : Calls Tryd.prog 10 #[.slice A l.length cap, .string s] w (AwEnd w) := by
  have mixed : Tryd.prog.follows .mixedOrders = true := by kernel_rfl
  obtain ⟨n, hn⟩ : ∃ n, l.length = n := ⟨_, rfl⟩
  have HP := Lib.hid hP
  have HL := Lib.hid hL
  have Hn := Lib.hid hn
  rw [hn] at hm ⊢
  clear hP hL hn
  by_cases h3 : 300 < n
  · go_enter Tryd.func10, Tryd.ntmps10
    go_wp2_with fail
    refine (awake_any _ HL.out).mono ?_
    rintro e w5 ⟨rfl, g5⟩
    go_wp2_with fail
    go_ret
    exact ⟨rfl, g5⟩
  · go_enter Tryd.func10, Tryd.ntmps10
    go_wp2_with fail
    go_loopw [5] (fun vi wr => ∃ c : Int, 1 ≤ c ∧ c ≤ 4 ∧ vi = .int .i64 c ∧ Hid (Below w.heap.size w wr)) (fun vi _ => 4 - (intOf vi).toNat)
    case atStart => exact ⟨1, by omega, by omega, rfl, Lib.hid (Below.refl _ _)⟩
    case round =>
      obtain ⟨c, hc1, hc4, rfl, hb⟩ := hrel
      have h4 : c = 1 ∨ c = 2 ∨ c = 3 ∨ c = 4 := by omega
      clear hc1 hc4
      rcases h4 with rfl | rfl | rfl | rfl
      · obtain ⟨⟨s1, t1, p1⟩, ho⟩ : ∃ o, lkO l s 1 = o := ⟨_, rfl⟩
        obtain ⟨b, hbb⟩ : ∃ b, lkB l s 1 = b := ⟨_, rfl⟩
        have H5 : Hid (∀ w, PRO w A l → KLaid w → Calls Tryd.prog 33 #[.slice A n cap, .int .i64 1, .string s] w (LkEnd (s1, t1, p1) b w)) := fun w h1 h2 => by
          have C := lfind_any A n cap l 1 s w Hn.out (by omega) h1 h2
          rw [show cl3 1 = 1 by decide, hbb, ho] at C
          exact C
        cases b
        · clear ho hbb
          go_wp2_with fail
          refine (H5.out _ (HP.out.below hb.out) (HL.out.below hb.out).kl).mono ?_
          rintro e w4 ⟨rfl, g4⟩
          have B4 := Lib.hid ((hb.out.trans (g4.mono hb.out.size)).alloc (Nat.le_trans hb.out.size g4.size) (.cells #[.string s1, .int .i64 t1, .int .i64 p1] 26))
          clear g4 H5
          go_wp2_with fail
          go_roundw
          case rel => exact ⟨2, by omega, by omega, by go_num, B4⟩
          case measure => simp [intOf]
        · have hk := lk_one hbb
          rw [ho] at hk
          have hs := sd_bounds hk.1
          rw [hk.2] at hs
          obtain ⟨v1, v2, v3, v4, v5, v6, v7⟩ := hs
          obtain ⟨x, hx⟩ : ∃ x, sdL (s1, t1, p1) = x := ⟨_, rfl⟩
          obtain ⟨y, hy⟩ : ∃ y, sdR (s1, t1, p1) = y := ⟨_, rfl⟩
          have H6 : Hid (∀ w, KLaid w → Calls Tryd.prog 14 #[.agg #[.string s1, .int .i64 t1, .int .i64 p1]] w fun e w' => e = .returned (.tuple #[.int .i64 x, .int .i64 y]) ∧ Gw w w') := fun w h => by rw [← hx, ← hy]; exact sides_any (s1, t1, p1) w h
          rw [hx] at v1 v2 v5 v6
          rw [hy] at v3 v4 v5 v7
          have g1 : decide (p1 < x) = false := decide_eq_false (by simp only at v2; omega)
          have g2 : decide (p1 < y) = false := decide_eq_false (by simp only at v4; omega)
          have g3 : decide (x < 0) = false := decide_eq_false (by omega)
          have g4 : decide (y < 0) = false := decide_eq_false (by omega)
          clear ho hbb hk hx hy
          obtain rfl : x = 0 := v6 rfl
          have u1 : ((0 : Int) != 0) = false := rfl
          clear v1 v2 v3 v4 v5 v6 v7
          go_wp2_with fail
          refine (H5.out _ (HP.out.below hb.out) (HL.out.below hb.out).kl).mono ?_
          rintro e w4 ⟨rfl, g4⟩
          have B4 := Lib.hid ((hb.out.trans (g4.mono hb.out.size)).alloc (Nat.le_trans hb.out.size g4.size) (.cells #[.string s1, .int .i64 t1, .int .i64 p1] 26))
          have R4 := Lib.hid (RowO.new w4 (s1, t1, p1))
          clear g4 H5
          obtain ⟨z0, z1, z2⟩ := R4.out.cells
          simp only at z0 z1 z2
          go_wp2_with fail
          refine (H6.out _ (HL.out.below B4.out).kl).mono ?_
          rintro e w6 ⟨rfl, g6⟩
          have B6 := Lib.hid (B4.out.trans (g6.b.mono B4.out.size))
          have R6 := Lib.hid (R4.out.below g6.b)
          clear g6 B4 R4 H6 z0 z1 z2
          obtain ⟨z0, z1, z2⟩ := R6.out.cells
          simp only at z0 z1 z2
          go_wp2_with fail
          go_roundw
          case rel => exact ⟨2, by omega, by omega, by go_num, B6⟩
          case measure => simp [intOf]
      · obtain ⟨⟨s1, t1, p1⟩, ho⟩ : ∃ o, lkO l s 2 = o := ⟨_, rfl⟩
        obtain ⟨b, hbb⟩ : ∃ b, lkB l s 2 = b := ⟨_, rfl⟩
        have H5 : Hid (∀ w, PRO w A l → KLaid w → Calls Tryd.prog 33 #[.slice A n cap, .int .i64 2, .string s] w (LkEnd (s1, t1, p1) b w)) := fun w h1 h2 => by
          have C := lfind_any A n cap l 2 s w Hn.out (by omega) h1 h2
          rw [show cl3 2 = 2 by decide, hbb, ho] at C
          exact C
        cases b
        · clear ho hbb
          go_wp2_with fail
          refine (H5.out _ (HP.out.below hb.out) (HL.out.below hb.out).kl).mono ?_
          rintro e w4 ⟨rfl, g4⟩
          have B4 := Lib.hid ((hb.out.trans (g4.mono hb.out.size)).alloc (Nat.le_trans hb.out.size g4.size) (.cells #[.string s1, .int .i64 t1, .int .i64 p1] 26))
          clear g4 H5
          go_wp2_with fail
          go_roundw
          case rel => exact ⟨3, by omega, by omega, by go_num, B4⟩
          case measure => simp [intOf]
        · have hk := lk_one hbb
          rw [ho] at hk
          have hs := sd_bounds hk.1
          rw [hk.2] at hs
          obtain ⟨v1, v2, v3, v4, v5, v6, v7⟩ := hs
          obtain ⟨x, hx⟩ : ∃ x, sdL (s1, t1, p1) = x := ⟨_, rfl⟩
          obtain ⟨y, hy⟩ : ∃ y, sdR (s1, t1, p1) = y := ⟨_, rfl⟩
          have H6 : Hid (∀ w, KLaid w → Calls Tryd.prog 14 #[.agg #[.string s1, .int .i64 t1, .int .i64 p1]] w fun e w' => e = .returned (.tuple #[.int .i64 x, .int .i64 y]) ∧ Gw w w') := fun w h => by rw [← hx, ← hy]; exact sides_any (s1, t1, p1) w h
          rw [hx] at v1 v2 v5 v6
          rw [hy] at v3 v4 v5 v7
          have g1 : decide (p1 < x) = false := decide_eq_false (by simp only at v2; omega)
          have g2 : decide (p1 < y) = false := decide_eq_false (by simp only at v4; omega)
          have g3 : decide (x < 0) = false := decide_eq_false (by omega)
          have g4 : decide (y < 0) = false := decide_eq_false (by omega)
          clear ho hbb hk hx hy
          have u5 := v5 rfl
          simp only at u5
          clear v1 v2 v3 v4 v5 v6 v7
          by_cases e1 : x = p1
          · have u1 : (y == p1) = false := by simpa using fun h => u5 ⟨e1, h⟩
            have e2 := e1.symm
            clear e1
            subst e2
            clear u5
            go_wp2_with fail
            refine (H5.out _ (HP.out.below hb.out) (HL.out.below hb.out).kl).mono ?_
            rintro e w4 ⟨rfl, g4⟩
            have B4 := Lib.hid ((hb.out.trans (g4.mono hb.out.size)).alloc (Nat.le_trans hb.out.size g4.size) (.cells #[.string s1, .int .i64 t1, .int .i64 p1] 26))
            have R4 := Lib.hid (RowO.new w4 (s1, t1, p1))
            clear g4 H5
            obtain ⟨z0, z1, z2⟩ := R4.out.cells
            simp only at z0 z1 z2
            go_wp2_with fail
            refine (H6.out _ (HL.out.below B4.out).kl).mono ?_
            rintro e w6 ⟨rfl, g6⟩
            have B6 := Lib.hid (B4.out.trans (g6.b.mono B4.out.size))
            have R6 := Lib.hid (R4.out.below g6.b)
            clear g6 B4 R4 H6 z0 z1 z2
            obtain ⟨z0, z1, z2⟩ := R6.out.cells
            simp only at z0 z1 z2
            go_wp2_with fail
            go_roundw
            case rel => exact ⟨3, by omega, by omega, by go_num, B6⟩
            case measure => simp [intOf]
          · have u1 : (x == p1) = false := by simpa using e1
            clear u5 e1
            go_wp2_with fail
            refine (H5.out _ (HP.out.below hb.out) (HL.out.below hb.out).kl).mono ?_
            rintro e w4 ⟨rfl, g4⟩
            have B4 := Lib.hid ((hb.out.trans (g4.mono hb.out.size)).alloc (Nat.le_trans hb.out.size g4.size) (.cells #[.string s1, .int .i64 t1, .int .i64 p1] 26))
            have R4 := Lib.hid (RowO.new w4 (s1, t1, p1))
            clear g4 H5
            obtain ⟨z0, z1, z2⟩ := R4.out.cells
            simp only at z0 z1 z2
            go_wp2_with fail
            refine (H6.out _ (HL.out.below B4.out).kl).mono ?_
            rintro e w6 ⟨rfl, g6⟩
            have B6 := Lib.hid (B4.out.trans (g6.b.mono B4.out.size))
            have R6 := Lib.hid (R4.out.below g6.b)
            clear g6 B4 R4 H6 z0 z1 z2
            obtain ⟨z0, z1, z2⟩ := R6.out.cells
            simp only at z0 z1 z2
            go_wp2_with fail
            go_roundw
            case rel => exact ⟨3, by omega, by omega, by go_num, B6⟩
            case measure => simp [intOf]
      · obtain ⟨⟨s1, t1, p1⟩, ho⟩ : ∃ o, lkO l s 3 = o := ⟨_, rfl⟩
        obtain ⟨b, hbb⟩ : ∃ b, lkB l s 3 = b := ⟨_, rfl⟩
        have H5 : Hid (∀ w, PRO w A l → KLaid w → Calls Tryd.prog 33 #[.slice A n cap, .int .i64 3, .string s] w (LkEnd (s1, t1, p1) b w)) := fun w h1 h2 => by
          have C := lfind_any A n cap l 3 s w Hn.out (by omega) h1 h2
          rw [show cl3 3 = 3 by decide, hbb, ho] at C
          exact C
        cases b
        · clear ho hbb
          go_wp2_with fail
          refine (H5.out _ (HP.out.below hb.out) (HL.out.below hb.out).kl).mono ?_
          rintro e w4 ⟨rfl, g4⟩
          have B4 := Lib.hid ((hb.out.trans (g4.mono hb.out.size)).alloc (Nat.le_trans hb.out.size g4.size) (.cells #[.string s1, .int .i64 t1, .int .i64 p1] 26))
          clear g4 H5
          go_wp2_with fail
          go_roundw
          case rel => exact ⟨4, by omega, by omega, by go_num, B4⟩
          case measure => simp [intOf]
        · have hk := lk_one hbb
          rw [ho] at hk
          have hs := sd_bounds hk.1
          rw [hk.2] at hs
          obtain ⟨v1, v2, v3, v4, v5, v6, v7⟩ := hs
          obtain ⟨x, hx⟩ : ∃ x, sdL (s1, t1, p1) = x := ⟨_, rfl⟩
          obtain ⟨y, hy⟩ : ∃ y, sdR (s1, t1, p1) = y := ⟨_, rfl⟩
          have H6 : Hid (∀ w, KLaid w → Calls Tryd.prog 14 #[.agg #[.string s1, .int .i64 t1, .int .i64 p1]] w fun e w' => e = .returned (.tuple #[.int .i64 x, .int .i64 y]) ∧ Gw w w') := fun w h => by rw [← hx, ← hy]; exact sides_any (s1, t1, p1) w h
          rw [hx] at v1 v2 v5 v6
          rw [hy] at v3 v4 v5 v7
          have g1 : decide (p1 < x) = false := decide_eq_false (by simp only at v2; omega)
          have g2 : decide (p1 < y) = false := decide_eq_false (by simp only at v4; omega)
          have g3 : decide (x < 0) = false := decide_eq_false (by omega)
          have g4 : decide (y < 0) = false := decide_eq_false (by omega)
          clear ho hbb hk hx hy
          obtain rfl : y = 0 := v7 rfl
          have u1 : ((0 : Int) != 0) = false := rfl
          clear v1 v2 v3 v4 v5 v6 v7
          go_wp2_with fail
          refine (H5.out _ (HP.out.below hb.out) (HL.out.below hb.out).kl).mono ?_
          rintro e w4 ⟨rfl, g4⟩
          have B4 := Lib.hid ((hb.out.trans (g4.mono hb.out.size)).alloc (Nat.le_trans hb.out.size g4.size) (.cells #[.string s1, .int .i64 t1, .int .i64 p1] 26))
          have R4 := Lib.hid (RowO.new w4 (s1, t1, p1))
          clear g4 H5
          obtain ⟨z0, z1, z2⟩ := R4.out.cells
          simp only at z0 z1 z2
          go_wp2_with fail
          refine (H6.out _ (HL.out.below B4.out).kl).mono ?_
          rintro e w6 ⟨rfl, g6⟩
          have B6 := Lib.hid (B4.out.trans (g6.b.mono B4.out.size))
          have R6 := Lib.hid (R4.out.below g6.b)
          clear g6 B4 R4 H6 z0 z1 z2
          obtain ⟨z0, z1, z2⟩ := R6.out.cells
          simp only at z0 z1 z2
          go_wp2_with fail
          go_roundw
          case rel => exact ⟨4, by omega, by omega, by go_num, B6⟩
          case measure => simp [intOf]
      · go_wp2_with fail
        refine (awake_any _ (HL.out.below hb.out)).mono ?_
        rintro e w5 ⟨rfl, g5⟩
        have B5 := Lib.hid (hb.out.trans (g5.mono hb.out.size))
        clear g5
        go_wp2_with fail
        go_ret
        exact ⟨rfl, B5.out⟩
end Go.Proofs.YtkjkhhifkedflaaDoor
