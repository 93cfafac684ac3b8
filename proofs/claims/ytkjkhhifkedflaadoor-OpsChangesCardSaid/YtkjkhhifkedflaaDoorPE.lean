/- The walk of OpsChanges. -/
import Derived.Test.YtkjkhhifkedflaaDoorPD
set_option linter.unusedVariables false
set_option linter.unusedSimpArgs false
namespace Go.Proofs.YtkjkhhifkedflaaDoor
open Go.RowKit Go.Proofs.HP Go.BigFrame

theorem lk_set {l : List Opd} {p t : Int} {s : ByteArray} (h : setE l p t s = 0) (m : ByteArray) (d : Int) : HP.look (setR l p t s) m d = if m = s ∧ d = clsI t then (if 0 < p then some (s, t, p) else none) else HP.look l m d := by
  have h0 : 0 ≤ p := by
    have := (setE_zero h).1
    simp only [argB, Bool.and_eq_true, decide_eq_true_eq] at this
    exact this.1.1.2.1
  rw [setR_ok h, lk_eq (vd_set h), lk_eq (arg_vd (setE_zero h).1), find_set h0]
theorem lk_set_own {l : List Opd} {p t : Int} {s : ByteArray} (h : setE l p t s = 0) : lkO (setR l p t s) s (clsI t) = (if 0 < p then (s, t, p) else zO) ∧ lkB (setR l p t s) s (clsI t) = decide (0 < p) := by
  unfold lkO lkB
  rw [lk_set h, if_pos ⟨rfl, rfl⟩]
  by_cases hp : 0 < p
  · rw [if_pos hp, if_pos hp, decide_eq_true hp]; exact ⟨rfl, rfl⟩
  · rw [if_neg hp, if_neg hp, decide_eq_false hp]; exact ⟨rfl, rfl⟩
theorem lk_set_ne {l : List Opd} {p t : Int} {s m : ByteArray} {d : Int} (h : setE l p t s = 0) (hn : ¬ (m = s ∧ d = clsI t)) : lkO (setR l p t s) m d = lkO l m d ∧ lkB (setR l p t s) m d = lkB l m d := by
  unfold lkO lkB
  rw [lk_set h, if_neg hn]
  exact ⟨rfl, rfl⟩
set_option maxHeartbeats 8000000 in
theorem opsChanges_any (A : Option Addr) (cap : Nat) (l : List Opd) (p t : Int) (s z : ByteArray) (d : Int) (w : World) (hm : l.length ≤ 9223372036854775807) (hP : PRO w A l) (hL : Laid w) : Calls Tryd.prog 8 #[.slice A l.length cap, .int .i64 p, .int .i64 t, .string s, .string z, .int .i64 d] w (AwEnd w) := by
  have mixed : Tryd.prog.follows .mixedOrders = true := by kernel_rfl
  obtain ⟨n, hn⟩ : ∃ n, l.length = n := ⟨_, rfl⟩
  have HP := Lib.hid hP
  have HL := Lib.hid hL
  have Hn := Lib.hid hn
  rw [hn] at hm ⊢
  clear hP hL hn
  by_cases h3 : 300 < n
  · go_enter Tryd.func8, Tryd.ntmps8
    go_wp2_with fail
    refine (awake_any _ HL.out).mono ?_
    rintro e w5 ⟨rfl, g5⟩
    go_wp2_with fail
    go_ret
    exact ⟨rfl, g5⟩
  · obtain ⟨k, hk⟩ : ∃ k, setE l p t s = k := ⟨_, rfl⟩
    obtain ⟨r, hr⟩ : ∃ r, setR l p t s = r := ⟨_, rfl⟩
    obtain ⟨m, hm2⟩ : ∃ m, r.length = m := ⟨_, rfl⟩
    have H1 : Hid (Calls Tryd.prog 15 #[.slice A n cap, .int .i64 p, .int .i64 t, .string s] w fun e w' => ∃ A cap, e = .returned (.tuple #[.slice A m cap, .int .i64 k]) ∧ PRO w' A r ∧ Below w.heap.size w w') := by
      show Calls _ _ _ _ _
      rw [← hk, ← hm2, ← hr]; exact set_any A n cap l p t s w Hn.out (by omega) HP.out HL.out.kl
    by_cases h0 : k = 0
    · subst h0
      have hr1 : r.length ≤ 100 := by rw [← hr]; exact setR_len ..
      have hV : vld r = true := by rw [← hr, setR_ok hk]; exact vld_iff.2 (vd_set hk)
      have hc0 := arg_isT (setE_zero hk).1
      obtain ⟨o1, o2⟩ := lk_set_own hk
      have hne := fun (m : ByteArray) (d : Int) => lk_set_ne (m := m) (d := d) hk
      rw [hr] at o1 o2 hne
      obtain ⟨c, hc⟩ : ∃ c, clsI t = c := ⟨_, rfl⟩
      have H4 : Hid (∀ w, Calls Tryd.prog 32 #[.int .i64 t] w fun e w' => e = .returned (.int .i64 c) ∧ w = w') := fun w => by rw [← hc]; exact (class_any t w).mono fun _ _ h => ⟨h.1, h.2.symm⟩
      rw [hc] at hc0 o1 o2 hne
      have hcl : cl3 c = c := by rw [← hc]; exact cl3_of (by rw [hc]; exact hc0)
      obtain ⟨⟨s1, t1, p1⟩, ho⟩ : ∃ o, lkO r s c = o := ⟨_, rfl⟩
      obtain ⟨b, hb⟩ : ∃ b, lkB r s c = b := ⟨_, rfl⟩
      have H5 : Hid (∀ A cap w, PRO w A r → KLaid w → Calls Tryd.prog 33 #[.slice A m cap, .int .i64 c, .string s] w (LkEnd (s1, t1, p1) b w)) := fun A cap w h1 h2 => by
        have C := lfind_any A m cap r c s w hm2 (by omega) h1 h2
        rw [hcl, hb, ho] at C
        exact C
      have H6 : Hid (∀ A cap w, PRO w A r → KLaid w → Calls Tryd.prog 23 #[.slice A m cap] w (BEnd true w)) := fun A cap w h1 h2 => by
        have C := valid_any A m cap r w hm2 (by omega) h1 h2
        rwa [hV] at C
      rw [ho] at o1
      rw [hb] at o2
      have HO : Hid (b = decide (0 < p) ∧ (0 < p → (s1, t1, p1) = (s, t, p))) := Lib.hid ⟨o2, fun h => by rw [o1, if_pos h]⟩
      have HN : Hid (∀ A cap w, 1 ≤ d → d ≤ 3 → ¬ (z = s ∧ d = c) → PRO w A r → KLaid w → Calls Tryd.prog 33 #[.slice A m cap, .int .i64 d, .string z] w (LkEnd (lkO l z d) (lkB l z d) w)) := fun A cap w q1 q2 q3 h1 h2 => by
        have C := lfind_any A m cap r d z w hm2 (by omega) h1 h2
        rw [show cl3 d = d by unfold cl3; split <;> (try split) <;> omega, (hne z d q3).1, (hne z d q3).2] at C
        exact C
      have HM : Hid (∀ w, 1 ≤ d → d ≤ 3 → PRO w A l → KLaid w → Calls Tryd.prog 33 #[.slice A n cap, .int .i64 d, .string z] w (LkEnd (lkO l z d) (lkB l z d) w)) := fun w q1 q2 h1 h2 => by
        have C := lfind_any A n cap l d z w Hn.out (by omega) h1 h2
        rw [show cl3 d = d by unfold cl3; split <;> (try split) <;> omega] at C
        exact C
      clear hr hk hm2 hr1 hV hc0 o1 o2 hne hc hcl ho hb
      by_cases hp : 0 < p
      · obtain ⟨rfl, h1⟩ := HO.out
        have h2 := h1 hp
        simp only [Prod.mk.injEq] at h2
        obtain ⟨rfl, rfl, rfl⟩ := h2
        rw [decide_eq_true hp] at *
        clear h1 HO
        by_cases d1 : d < 1
        · clear HM HN
          go_enter Tryd.func8, Tryd.ntmps8
          go_wp2_with fail
          refine (H1.out).mono ?_
          rintro e w1 ⟨A1, c1, rfl, q1, b1⟩
          have B1 := Lib.hid b1
          have P1 := Lib.hid q1
          clear q1 b1 H1
          go_wp2_with (go_at_call 32; ((with_reducible refine (H4.out _).mono ?_); rintro e w1 ⟨rfl, rfl⟩))
          refine (H5.out _ _ _ P1.out (HL.out.below B1.out).kl).mono ?_
          rintro e w2 ⟨rfl, g2⟩
          have B2 := Lib.hid ((B1.out.trans (g2.mono B1.out.size)).alloc (Nat.le_trans B1.out.size g2.size) (.cells #[.string s1, .int .i64 t1, .int .i64 p1] 26))
          have P2 := Lib.hid (P1.out.below (g2.alloc g2.size (.cells #[.string s1, .int .i64 t1, .int .i64 p1] 26)))
          have R2 := Lib.hid (RowO.new w2 (s1, t1, p1))
          clear g2 P1 B1 H4 H5
          go_wp2_with fail
          refine (H6.out _ _ _ P2.out (HL.out.below B2.out).kl).mono ?_
          rintro e w3 ⟨rfl, g3⟩
          have B3 := Lib.hid (B2.out.trans (g3.b.mono B2.out.size))
          have P3 := Lib.hid (P2.out.below g3.b)
          obtain ⟨z0, z1, z2⟩ := (R2.out.below g3.b).cells
          simp only at z0 z1 z2
          clear g3 P2 B2 R2 H6
          have u1 := neq_op s1 t1 p1 s1 t1 p1
          rw [show sameO s1 t1 p1 s1 t1 p1 = true by rw [sameO_iff]; exact decide_eq_true rfl] at u1
          have u2 := guard_op
          go_wp2_with fail
          refine (awake_any _ (HL.out.below B3.out)).mono ?_
          rintro e w5 ⟨rfl, g5⟩
          have B5 := Lib.hid (B3.out.trans (g5.mono B3.out.size))
          clear g5
          go_wp2_with fail
          go_ret
          exact ⟨rfl, B5.out⟩
        by_cases d3 : 3 < d
        · clear HM HN
          go_enter Tryd.func8, Tryd.ntmps8
          go_wp2_with fail
          refine (H1.out).mono ?_
          rintro e w1 ⟨A1, c1, rfl, q1, b1⟩
          have B1 := Lib.hid b1
          have P1 := Lib.hid q1
          clear q1 b1 H1
          go_wp2_with (go_at_call 32; ((with_reducible refine (H4.out _).mono ?_); rintro e w1 ⟨rfl, rfl⟩))
          refine (H5.out _ _ _ P1.out (HL.out.below B1.out).kl).mono ?_
          rintro e w2 ⟨rfl, g2⟩
          have B2 := Lib.hid ((B1.out.trans (g2.mono B1.out.size)).alloc (Nat.le_trans B1.out.size g2.size) (.cells #[.string s1, .int .i64 t1, .int .i64 p1] 26))
          have P2 := Lib.hid (P1.out.below (g2.alloc g2.size (.cells #[.string s1, .int .i64 t1, .int .i64 p1] 26)))
          have R2 := Lib.hid (RowO.new w2 (s1, t1, p1))
          clear g2 P1 B1 H4 H5
          go_wp2_with fail
          refine (H6.out _ _ _ P2.out (HL.out.below B2.out).kl).mono ?_
          rintro e w3 ⟨rfl, g3⟩
          have B3 := Lib.hid (B2.out.trans (g3.b.mono B2.out.size))
          have P3 := Lib.hid (P2.out.below g3.b)
          obtain ⟨z0, z1, z2⟩ := (R2.out.below g3.b).cells
          simp only at z0 z1 z2
          clear g3 P2 B2 R2 H6
          have u1 := neq_op s1 t1 p1 s1 t1 p1
          rw [show sameO s1 t1 p1 s1 t1 p1 = true by rw [sameO_iff]; exact decide_eq_true rfl] at u1
          have u2 := guard_op
          go_wp2_with fail
          refine (awake_any _ (HL.out.below B3.out)).mono ?_
          rintro e w5 ⟨rfl, g5⟩
          have B5 := Lib.hid (B3.out.trans (g5.mono B3.out.size))
          clear g5
          go_wp2_with fail
          go_ret
          exact ⟨rfl, B5.out⟩
        by_cases dc : d = c
        · by_cases zs : z = s1
          · have e1 : (z.toList == s1.toList) = true := by rw [toList_eq]; exact decide_eq_true zs
            have e2 : (d == c) = true := by simpa using dc
            clear HM HN zs dc
            go_enter Tryd.func8, Tryd.ntmps8
            go_wp2_with fail
            refine (H1.out).mono ?_
            rintro e w1 ⟨A1, c1, rfl, q1, b1⟩
            have B1 := Lib.hid b1
            have P1 := Lib.hid q1
            clear q1 b1 H1
            go_wp2_with (go_at_call 32; ((with_reducible refine (H4.out _).mono ?_); rintro e w1 ⟨rfl, rfl⟩))
            refine (H5.out _ _ _ P1.out (HL.out.below B1.out).kl).mono ?_
            rintro e w2 ⟨rfl, g2⟩
            have B2 := Lib.hid ((B1.out.trans (g2.mono B1.out.size)).alloc (Nat.le_trans B1.out.size g2.size) (.cells #[.string s1, .int .i64 t1, .int .i64 p1] 26))
            have P2 := Lib.hid (P1.out.below (g2.alloc g2.size (.cells #[.string s1, .int .i64 t1, .int .i64 p1] 26)))
            have R2 := Lib.hid (RowO.new w2 (s1, t1, p1))
            clear g2 P1 B1 H4 H5
            go_wp2_with fail
            refine (H6.out _ _ _ P2.out (HL.out.below B2.out).kl).mono ?_
            rintro e w3 ⟨rfl, g3⟩
            have B3 := Lib.hid (B2.out.trans (g3.b.mono B2.out.size))
            have P3 := Lib.hid (P2.out.below g3.b)
            obtain ⟨z0, z1, z2⟩ := (R2.out.below g3.b).cells
            simp only at z0 z1 z2
            clear g3 P2 B2 R2 H6
            have u1 := neq_op s1 t1 p1 s1 t1 p1
            rw [show sameO s1 t1 p1 s1 t1 p1 = true by rw [sameO_iff]; exact decide_eq_true rfl] at u1
            have u2 := guard_op
            go_wp2_with fail
            refine (awake_any _ (HL.out.below B3.out)).mono ?_
            rintro e w5 ⟨rfl, g5⟩
            have B5 := Lib.hid (B3.out.trans (g5.mono B3.out.size))
            clear g5
            go_wp2_with fail
            go_ret
            exact ⟨rfl, B5.out⟩
          · have e1 : (z.toList == s1.toList) = false := by rw [toList_eq]; exact decide_eq_false zs
            have e2 : (d == c) = true := by simpa using dc
            obtain ⟨⟨s4, t4, p4⟩, q4⟩ : ∃ o, lkO l z d = o := ⟨_, rfl⟩
            obtain ⟨b4, q5⟩ : ∃ o, lkB l z d = o := ⟨_, rfl⟩
            have HM2 : Hid (∀ w, PRO w A l → KLaid w → Calls Tryd.prog 33 #[.slice A n cap, .int .i64 d, .string z] w (LkEnd (s4, t4, p4) b4 w)) := fun w h1 h2 => by
              have C := HM.out w (by omega) (by omega) h1 h2
              rwa [q4, q5] at C
            have HN2 : Hid (∀ A cap w, PRO w A r → KLaid w → Calls Tryd.prog 33 #[.slice A m cap, .int .i64 d, .string z] w (LkEnd (s4, t4, p4) b4 w)) := fun A cap w h1 h2 => by
              have C := HN.out A cap w (by omega) (by omega) (fun h => zs h.1) h1 h2
              rwa [q4, q5] at C
            clear q4 q5 HM HN
            clear zs dc
            go_enter Tryd.func8, Tryd.ntmps8
            go_wp2_with fail
            refine (H1.out).mono ?_
            rintro e w1 ⟨A1, c1, rfl, q1, b1⟩
            have B1 := Lib.hid b1
            have P1 := Lib.hid q1
            clear q1 b1 H1
            go_wp2_with (go_at_call 32; ((with_reducible refine (H4.out _).mono ?_); rintro e w1 ⟨rfl, rfl⟩))
            refine (H5.out _ _ _ P1.out (HL.out.below B1.out).kl).mono ?_
            rintro e w2 ⟨rfl, g2⟩
            have B2 := Lib.hid ((B1.out.trans (g2.mono B1.out.size)).alloc (Nat.le_trans B1.out.size g2.size) (.cells #[.string s1, .int .i64 t1, .int .i64 p1] 26))
            have P2 := Lib.hid (P1.out.below (g2.alloc g2.size (.cells #[.string s1, .int .i64 t1, .int .i64 p1] 26)))
            have R2 := Lib.hid (RowO.new w2 (s1, t1, p1))
            clear g2 P1 B1 H4 H5
            go_wp2_with fail
            refine (H6.out _ _ _ P2.out (HL.out.below B2.out).kl).mono ?_
            rintro e w3 ⟨rfl, g3⟩
            have B3 := Lib.hid (B2.out.trans (g3.b.mono B2.out.size))
            have P3 := Lib.hid (P2.out.below g3.b)
            obtain ⟨z0, z1, z2⟩ := (R2.out.below g3.b).cells
            simp only at z0 z1 z2
            clear g3 P2 B2 R2 H6
            have u1 := neq_op s1 t1 p1 s1 t1 p1
            rw [show sameO s1 t1 p1 s1 t1 p1 = true by rw [sameO_iff]; exact decide_eq_true rfl] at u1
            have u2 := guard_op
            go_wp2_with fail
            refine (HM2.out _ (HP.out.below B3.out) (HL.out.below B3.out).kl).mono ?_
            rintro e w4 ⟨rfl, g4⟩
            have B4 := Lib.hid ((B3.out.trans (g4.mono B3.out.size)).alloc (Nat.le_trans B3.out.size g4.size) (.cells #[.string s4, .int .i64 t4, .int .i64 p4] 26))
            have P4 := Lib.hid (P3.out.below (g4.alloc g4.size (.cells #[.string s4, .int .i64 t4, .int .i64 p4] 26)))
            have R4 := Lib.hid (RowO.new w4 (s4, t4, p4))
            clear g4 z0 z1 z2 P3 B3 HM2
            go_wp2_with fail
            refine (HN2.out _ _ _ P4.out (HL.out.below B4.out).kl).mono ?_
            rintro e w5 ⟨rfl, g5⟩
            have B5 := Lib.hid ((B4.out.trans (g5.mono B4.out.size)).alloc (Nat.le_trans B4.out.size g5.size) (.cells #[.string s4, .int .i64 t4, .int .i64 p4] 26))
            have R5 := Lib.hid (RowO.new w5 (s4, t4, p4))
            obtain ⟨x0, x1, x2⟩ := (R4.out.below (g5.alloc g5.size (.cells #[.string s4, .int .i64 t4, .int .i64 p4] 26))).cells
            obtain ⟨y0, y1, y2⟩ := R5.out.cells
            simp only at x0 x1 x2 y0 y1 y2
            clear g5 R4 B4 P4 HN2
            have u1 := eql_op s4 t4 p4 s4 t4 p4
            rw [show sameO s4 t4 p4 s4 t4 p4 = true by rw [sameO_iff]; exact decide_eq_true rfl] at u1
            have u2 := guard_op
            have e6 : (b4 == b4) = true := beq_self_eq_true _
            go_wp2_with fail
            refine (awake_any _ (HL.out.below B5.out)).mono ?_
            rintro e w6 ⟨rfl, g6⟩
            have B6 := Lib.hid (B5.out.trans (g6.mono B5.out.size))
            clear g6
            go_wp2_with fail
            go_ret
            exact ⟨rfl, B6.out⟩
        · have e2 : (d == c) = false := by simpa using dc
          obtain ⟨⟨s4, t4, p4⟩, q4⟩ : ∃ o, lkO l z d = o := ⟨_, rfl⟩
          obtain ⟨b4, q5⟩ : ∃ o, lkB l z d = o := ⟨_, rfl⟩
          have HM2 : Hid (∀ w, PRO w A l → KLaid w → Calls Tryd.prog 33 #[.slice A n cap, .int .i64 d, .string z] w (LkEnd (s4, t4, p4) b4 w)) := fun w h1 h2 => by
            have C := HM.out w (by omega) (by omega) h1 h2
            rwa [q4, q5] at C
          have HN2 : Hid (∀ A cap w, PRO w A r → KLaid w → Calls Tryd.prog 33 #[.slice A m cap, .int .i64 d, .string z] w (LkEnd (s4, t4, p4) b4 w)) := fun A cap w h1 h2 => by
            have C := HN.out A cap w (by omega) (by omega) (fun h => dc h.2) h1 h2
            rwa [q4, q5] at C
          clear q4 q5 HM HN
          clear dc
          go_enter Tryd.func8, Tryd.ntmps8
          go_wp2_with fail
          refine (H1.out).mono ?_
          rintro e w1 ⟨A1, c1, rfl, q1, b1⟩
          have B1 := Lib.hid b1
          have P1 := Lib.hid q1
          clear q1 b1 H1
          go_wp2_with (go_at_call 32; ((with_reducible refine (H4.out _).mono ?_); rintro e w1 ⟨rfl, rfl⟩))
          refine (H5.out _ _ _ P1.out (HL.out.below B1.out).kl).mono ?_
          rintro e w2 ⟨rfl, g2⟩
          have B2 := Lib.hid ((B1.out.trans (g2.mono B1.out.size)).alloc (Nat.le_trans B1.out.size g2.size) (.cells #[.string s1, .int .i64 t1, .int .i64 p1] 26))
          have P2 := Lib.hid (P1.out.below (g2.alloc g2.size (.cells #[.string s1, .int .i64 t1, .int .i64 p1] 26)))
          have R2 := Lib.hid (RowO.new w2 (s1, t1, p1))
          clear g2 P1 B1 H4 H5
          go_wp2_with fail
          refine (H6.out _ _ _ P2.out (HL.out.below B2.out).kl).mono ?_
          rintro e w3 ⟨rfl, g3⟩
          have B3 := Lib.hid (B2.out.trans (g3.b.mono B2.out.size))
          have P3 := Lib.hid (P2.out.below g3.b)
          obtain ⟨z0, z1, z2⟩ := (R2.out.below g3.b).cells
          simp only at z0 z1 z2
          clear g3 P2 B2 R2 H6
          have u1 := neq_op s1 t1 p1 s1 t1 p1
          rw [show sameO s1 t1 p1 s1 t1 p1 = true by rw [sameO_iff]; exact decide_eq_true rfl] at u1
          have u2 := guard_op
          go_wp2_with fail
          refine (HM2.out _ (HP.out.below B3.out) (HL.out.below B3.out).kl).mono ?_
          rintro e w4 ⟨rfl, g4⟩
          have B4 := Lib.hid ((B3.out.trans (g4.mono B3.out.size)).alloc (Nat.le_trans B3.out.size g4.size) (.cells #[.string s4, .int .i64 t4, .int .i64 p4] 26))
          have P4 := Lib.hid (P3.out.below (g4.alloc g4.size (.cells #[.string s4, .int .i64 t4, .int .i64 p4] 26)))
          have R4 := Lib.hid (RowO.new w4 (s4, t4, p4))
          clear g4 z0 z1 z2 P3 B3 HM2
          go_wp2_with fail
          refine (HN2.out _ _ _ P4.out (HL.out.below B4.out).kl).mono ?_
          rintro e w5 ⟨rfl, g5⟩
          have B5 := Lib.hid ((B4.out.trans (g5.mono B4.out.size)).alloc (Nat.le_trans B4.out.size g5.size) (.cells #[.string s4, .int .i64 t4, .int .i64 p4] 26))
          have R5 := Lib.hid (RowO.new w5 (s4, t4, p4))
          obtain ⟨x0, x1, x2⟩ := (R4.out.below (g5.alloc g5.size (.cells #[.string s4, .int .i64 t4, .int .i64 p4] 26))).cells
          obtain ⟨y0, y1, y2⟩ := R5.out.cells
          simp only at x0 x1 x2 y0 y1 y2
          clear g5 R4 B4 P4 HN2
          have u1 := eql_op s4 t4 p4 s4 t4 p4
          rw [show sameO s4 t4 p4 s4 t4 p4 = true by rw [sameO_iff]; exact decide_eq_true rfl] at u1
          have u2 := guard_op
          have e6 : (b4 == b4) = true := beq_self_eq_true _
          go_wp2_with fail
          refine (awake_any _ (HL.out.below B5.out)).mono ?_
          rintro e w6 ⟨rfl, g6⟩
          have B6 := Lib.hid (B5.out.trans (g6.mono B5.out.size))
          clear g6
          go_wp2_with fail
          go_ret
          exact ⟨rfl, B6.out⟩
      · obtain ⟨rfl, h1⟩ := HO.out
        rw [decide_eq_false hp] at *
        clear h1 HO
        by_cases d1 : d < 1
        · clear HM HN
          go_enter Tryd.func8, Tryd.ntmps8
          go_wp2_with fail
          refine (H1.out).mono ?_
          rintro e w1 ⟨A1, c1, rfl, q1, b1⟩
          have B1 := Lib.hid b1
          have P1 := Lib.hid q1
          clear q1 b1 H1
          go_wp2_with (go_at_call 32; ((with_reducible refine (H4.out _).mono ?_); rintro e w1 ⟨rfl, rfl⟩))
          refine (H5.out _ _ _ P1.out (HL.out.below B1.out).kl).mono ?_
          rintro e w2 ⟨rfl, g2⟩
          have B2 := Lib.hid ((B1.out.trans (g2.mono B1.out.size)).alloc (Nat.le_trans B1.out.size g2.size) (.cells #[.string s1, .int .i64 t1, .int .i64 p1] 26))
          have P2 := Lib.hid (P1.out.below (g2.alloc g2.size (.cells #[.string s1, .int .i64 t1, .int .i64 p1] 26)))
          have R2 := Lib.hid (RowO.new w2 (s1, t1, p1))
          clear g2 P1 B1 H4 H5
          go_wp2_with fail
          refine (H6.out _ _ _ P2.out (HL.out.below B2.out).kl).mono ?_
          rintro e w3 ⟨rfl, g3⟩
          have B3 := Lib.hid (B2.out.trans (g3.b.mono B2.out.size))
          have P3 := Lib.hid (P2.out.below g3.b)
          obtain ⟨z0, z1, z2⟩ := (R2.out.below g3.b).cells
          simp only at z0 z1 z2
          clear g3 P2 B2 R2 H6
          go_wp2_with fail
          refine (awake_any _ (HL.out.below B3.out)).mono ?_
          rintro e w5 ⟨rfl, g5⟩
          have B5 := Lib.hid (B3.out.trans (g5.mono B3.out.size))
          clear g5
          go_wp2_with fail
          go_ret
          exact ⟨rfl, B5.out⟩
        by_cases d3 : 3 < d
        · clear HM HN
          go_enter Tryd.func8, Tryd.ntmps8
          go_wp2_with fail
          refine (H1.out).mono ?_
          rintro e w1 ⟨A1, c1, rfl, q1, b1⟩
          have B1 := Lib.hid b1
          have P1 := Lib.hid q1
          clear q1 b1 H1
          go_wp2_with (go_at_call 32; ((with_reducible refine (H4.out _).mono ?_); rintro e w1 ⟨rfl, rfl⟩))
          refine (H5.out _ _ _ P1.out (HL.out.below B1.out).kl).mono ?_
          rintro e w2 ⟨rfl, g2⟩
          have B2 := Lib.hid ((B1.out.trans (g2.mono B1.out.size)).alloc (Nat.le_trans B1.out.size g2.size) (.cells #[.string s1, .int .i64 t1, .int .i64 p1] 26))
          have P2 := Lib.hid (P1.out.below (g2.alloc g2.size (.cells #[.string s1, .int .i64 t1, .int .i64 p1] 26)))
          have R2 := Lib.hid (RowO.new w2 (s1, t1, p1))
          clear g2 P1 B1 H4 H5
          go_wp2_with fail
          refine (H6.out _ _ _ P2.out (HL.out.below B2.out).kl).mono ?_
          rintro e w3 ⟨rfl, g3⟩
          have B3 := Lib.hid (B2.out.trans (g3.b.mono B2.out.size))
          have P3 := Lib.hid (P2.out.below g3.b)
          obtain ⟨z0, z1, z2⟩ := (R2.out.below g3.b).cells
          simp only at z0 z1 z2
          clear g3 P2 B2 R2 H6
          go_wp2_with fail
          refine (awake_any _ (HL.out.below B3.out)).mono ?_
          rintro e w5 ⟨rfl, g5⟩
          have B5 := Lib.hid (B3.out.trans (g5.mono B3.out.size))
          clear g5
          go_wp2_with fail
          go_ret
          exact ⟨rfl, B5.out⟩
        by_cases dc : d = c
        · by_cases zs : z = s
          · have e1 : (z.toList == s.toList) = true := by rw [toList_eq]; exact decide_eq_true zs
            have e2 : (d == c) = true := by simpa using dc
            clear HM HN zs dc
            go_enter Tryd.func8, Tryd.ntmps8
            go_wp2_with fail
            refine (H1.out).mono ?_
            rintro e w1 ⟨A1, c1, rfl, q1, b1⟩
            have B1 := Lib.hid b1
            have P1 := Lib.hid q1
            clear q1 b1 H1
            go_wp2_with (go_at_call 32; ((with_reducible refine (H4.out _).mono ?_); rintro e w1 ⟨rfl, rfl⟩))
            refine (H5.out _ _ _ P1.out (HL.out.below B1.out).kl).mono ?_
            rintro e w2 ⟨rfl, g2⟩
            have B2 := Lib.hid ((B1.out.trans (g2.mono B1.out.size)).alloc (Nat.le_trans B1.out.size g2.size) (.cells #[.string s1, .int .i64 t1, .int .i64 p1] 26))
            have P2 := Lib.hid (P1.out.below (g2.alloc g2.size (.cells #[.string s1, .int .i64 t1, .int .i64 p1] 26)))
            have R2 := Lib.hid (RowO.new w2 (s1, t1, p1))
            clear g2 P1 B1 H4 H5
            go_wp2_with fail
            refine (H6.out _ _ _ P2.out (HL.out.below B2.out).kl).mono ?_
            rintro e w3 ⟨rfl, g3⟩
            have B3 := Lib.hid (B2.out.trans (g3.b.mono B2.out.size))
            have P3 := Lib.hid (P2.out.below g3.b)
            obtain ⟨z0, z1, z2⟩ := (R2.out.below g3.b).cells
            simp only at z0 z1 z2
            clear g3 P2 B2 R2 H6
            go_wp2_with fail
            refine (awake_any _ (HL.out.below B3.out)).mono ?_
            rintro e w5 ⟨rfl, g5⟩
            have B5 := Lib.hid (B3.out.trans (g5.mono B3.out.size))
            clear g5
            go_wp2_with fail
            go_ret
            exact ⟨rfl, B5.out⟩
          · have e1 : (z.toList == s.toList) = false := by rw [toList_eq]; exact decide_eq_false zs
            have e2 : (d == c) = true := by simpa using dc
            obtain ⟨⟨s4, t4, p4⟩, q4⟩ : ∃ o, lkO l z d = o := ⟨_, rfl⟩
            obtain ⟨b4, q5⟩ : ∃ o, lkB l z d = o := ⟨_, rfl⟩
            have HM2 : Hid (∀ w, PRO w A l → KLaid w → Calls Tryd.prog 33 #[.slice A n cap, .int .i64 d, .string z] w (LkEnd (s4, t4, p4) b4 w)) := fun w h1 h2 => by
              have C := HM.out w (by omega) (by omega) h1 h2
              rwa [q4, q5] at C
            have HN2 : Hid (∀ A cap w, PRO w A r → KLaid w → Calls Tryd.prog 33 #[.slice A m cap, .int .i64 d, .string z] w (LkEnd (s4, t4, p4) b4 w)) := fun A cap w h1 h2 => by
              have C := HN.out A cap w (by omega) (by omega) (fun h => zs h.1) h1 h2
              rwa [q4, q5] at C
            clear q4 q5 HM HN
            clear zs dc
            go_enter Tryd.func8, Tryd.ntmps8
            go_wp2_with fail
            refine (H1.out).mono ?_
            rintro e w1 ⟨A1, c1, rfl, q1, b1⟩
            have B1 := Lib.hid b1
            have P1 := Lib.hid q1
            clear q1 b1 H1
            go_wp2_with (go_at_call 32; ((with_reducible refine (H4.out _).mono ?_); rintro e w1 ⟨rfl, rfl⟩))
            refine (H5.out _ _ _ P1.out (HL.out.below B1.out).kl).mono ?_
            rintro e w2 ⟨rfl, g2⟩
            have B2 := Lib.hid ((B1.out.trans (g2.mono B1.out.size)).alloc (Nat.le_trans B1.out.size g2.size) (.cells #[.string s1, .int .i64 t1, .int .i64 p1] 26))
            have P2 := Lib.hid (P1.out.below (g2.alloc g2.size (.cells #[.string s1, .int .i64 t1, .int .i64 p1] 26)))
            have R2 := Lib.hid (RowO.new w2 (s1, t1, p1))
            clear g2 P1 B1 H4 H5
            go_wp2_with fail
            refine (H6.out _ _ _ P2.out (HL.out.below B2.out).kl).mono ?_
            rintro e w3 ⟨rfl, g3⟩
            have B3 := Lib.hid (B2.out.trans (g3.b.mono B2.out.size))
            have P3 := Lib.hid (P2.out.below g3.b)
            obtain ⟨z0, z1, z2⟩ := (R2.out.below g3.b).cells
            simp only at z0 z1 z2
            clear g3 P2 B2 R2 H6
            go_wp2_with fail
            refine (HM2.out _ (HP.out.below B3.out) (HL.out.below B3.out).kl).mono ?_
            rintro e w4 ⟨rfl, g4⟩
            have B4 := Lib.hid ((B3.out.trans (g4.mono B3.out.size)).alloc (Nat.le_trans B3.out.size g4.size) (.cells #[.string s4, .int .i64 t4, .int .i64 p4] 26))
            have P4 := Lib.hid (P3.out.below (g4.alloc g4.size (.cells #[.string s4, .int .i64 t4, .int .i64 p4] 26)))
            have R4 := Lib.hid (RowO.new w4 (s4, t4, p4))
            clear g4 z0 z1 z2 P3 B3 HM2
            go_wp2_with fail
            refine (HN2.out _ _ _ P4.out (HL.out.below B4.out).kl).mono ?_
            rintro e w5 ⟨rfl, g5⟩
            have B5 := Lib.hid ((B4.out.trans (g5.mono B4.out.size)).alloc (Nat.le_trans B4.out.size g5.size) (.cells #[.string s4, .int .i64 t4, .int .i64 p4] 26))
            have R5 := Lib.hid (RowO.new w5 (s4, t4, p4))
            obtain ⟨x0, x1, x2⟩ := (R4.out.below (g5.alloc g5.size (.cells #[.string s4, .int .i64 t4, .int .i64 p4] 26))).cells
            obtain ⟨y0, y1, y2⟩ := R5.out.cells
            simp only at x0 x1 x2 y0 y1 y2
            clear g5 R4 B4 P4 HN2
            have u1 := eql_op s4 t4 p4 s4 t4 p4
            rw [show sameO s4 t4 p4 s4 t4 p4 = true by rw [sameO_iff]; exact decide_eq_true rfl] at u1
            have u2 := guard_op
            have e6 : (b4 == b4) = true := beq_self_eq_true _
            go_wp2_with fail
            refine (awake_any _ (HL.out.below B5.out)).mono ?_
            rintro e w6 ⟨rfl, g6⟩
            have B6 := Lib.hid (B5.out.trans (g6.mono B5.out.size))
            clear g6
            go_wp2_with fail
            go_ret
            exact ⟨rfl, B6.out⟩
        · have e2 : (d == c) = false := by simpa using dc
          obtain ⟨⟨s4, t4, p4⟩, q4⟩ : ∃ o, lkO l z d = o := ⟨_, rfl⟩
          obtain ⟨b4, q5⟩ : ∃ o, lkB l z d = o := ⟨_, rfl⟩
          have HM2 : Hid (∀ w, PRO w A l → KLaid w → Calls Tryd.prog 33 #[.slice A n cap, .int .i64 d, .string z] w (LkEnd (s4, t4, p4) b4 w)) := fun w h1 h2 => by
            have C := HM.out w (by omega) (by omega) h1 h2
            rwa [q4, q5] at C
          have HN2 : Hid (∀ A cap w, PRO w A r → KLaid w → Calls Tryd.prog 33 #[.slice A m cap, .int .i64 d, .string z] w (LkEnd (s4, t4, p4) b4 w)) := fun A cap w h1 h2 => by
            have C := HN.out A cap w (by omega) (by omega) (fun h => dc h.2) h1 h2
            rwa [q4, q5] at C
          clear q4 q5 HM HN
          clear dc
          go_enter Tryd.func8, Tryd.ntmps8
          go_wp2_with fail
          refine (H1.out).mono ?_
          rintro e w1 ⟨A1, c1, rfl, q1, b1⟩
          have B1 := Lib.hid b1
          have P1 := Lib.hid q1
          clear q1 b1 H1
          go_wp2_with (go_at_call 32; ((with_reducible refine (H4.out _).mono ?_); rintro e w1 ⟨rfl, rfl⟩))
          refine (H5.out _ _ _ P1.out (HL.out.below B1.out).kl).mono ?_
          rintro e w2 ⟨rfl, g2⟩
          have B2 := Lib.hid ((B1.out.trans (g2.mono B1.out.size)).alloc (Nat.le_trans B1.out.size g2.size) (.cells #[.string s1, .int .i64 t1, .int .i64 p1] 26))
          have P2 := Lib.hid (P1.out.below (g2.alloc g2.size (.cells #[.string s1, .int .i64 t1, .int .i64 p1] 26)))
          have R2 := Lib.hid (RowO.new w2 (s1, t1, p1))
          clear g2 P1 B1 H4 H5
          go_wp2_with fail
          refine (H6.out _ _ _ P2.out (HL.out.below B2.out).kl).mono ?_
          rintro e w3 ⟨rfl, g3⟩
          have B3 := Lib.hid (B2.out.trans (g3.b.mono B2.out.size))
          have P3 := Lib.hid (P2.out.below g3.b)
          obtain ⟨z0, z1, z2⟩ := (R2.out.below g3.b).cells
          simp only at z0 z1 z2
          clear g3 P2 B2 R2 H6
          go_wp2_with fail
          refine (HM2.out _ (HP.out.below B3.out) (HL.out.below B3.out).kl).mono ?_
          rintro e w4 ⟨rfl, g4⟩
          have B4 := Lib.hid ((B3.out.trans (g4.mono B3.out.size)).alloc (Nat.le_trans B3.out.size g4.size) (.cells #[.string s4, .int .i64 t4, .int .i64 p4] 26))
          have P4 := Lib.hid (P3.out.below (g4.alloc g4.size (.cells #[.string s4, .int .i64 t4, .int .i64 p4] 26)))
          have R4 := Lib.hid (RowO.new w4 (s4, t4, p4))
          clear g4 z0 z1 z2 P3 B3 HM2
          go_wp2_with fail
          refine (HN2.out _ _ _ P4.out (HL.out.below B4.out).kl).mono ?_
          rintro e w5 ⟨rfl, g5⟩
          have B5 := Lib.hid ((B4.out.trans (g5.mono B4.out.size)).alloc (Nat.le_trans B4.out.size g5.size) (.cells #[.string s4, .int .i64 t4, .int .i64 p4] 26))
          have R5 := Lib.hid (RowO.new w5 (s4, t4, p4))
          obtain ⟨x0, x1, x2⟩ := (R4.out.below (g5.alloc g5.size (.cells #[.string s4, .int .i64 t4, .int .i64 p4] 26))).cells
          obtain ⟨y0, y1, y2⟩ := R5.out.cells
          simp only at x0 x1 x2 y0 y1 y2
          clear g5 R4 B4 P4 HN2
          have u1 := eql_op s4 t4 p4 s4 t4 p4
          rw [show sameO s4 t4 p4 s4 t4 p4 = true by rw [sameO_iff]; exact decide_eq_true rfl] at u1
          have u2 := guard_op
          have e6 : (b4 == b4) = true := beq_self_eq_true _
          go_wp2_with fail
          refine (awake_any _ (HL.out.below B5.out)).mono ?_
          rintro e w6 ⟨rfl, g6⟩
          have B6 := Lib.hid (B5.out.trans (g6.mono B5.out.size))
          clear g6
          go_wp2_with fail
          go_ret
          exact ⟨rfl, B6.out⟩
    · have hk1 : (k != 0) = true := by simpa using h0
      have hr0 : m = 0 := by rw [← hm2, ← hr, set_bad hk h0]; rfl
      subst hr0
      clear hr hk hm2
      go_enter Tryd.func8, Tryd.ntmps8
      go_wp2_with fail
      refine (H1.out).mono ?_
      rintro e w1 ⟨A1, c1, rfl, p1, b1⟩
      have B1 := Lib.hid b1
      clear p1 b1 H1
      go_wp2_with fail
      refine (awake_any _ (HL.out.below B1.out)).mono ?_
      rintro e w5 ⟨rfl, g5⟩
      have B5 := Lib.hid (B1.out.trans (g5.mono B1.out.size))
      clear g5
      go_wp2_with fail
      go_ret
      exact ⟨rfl, B5.out⟩
end Go.Proofs.YtkjkhhifkedflaaDoor
