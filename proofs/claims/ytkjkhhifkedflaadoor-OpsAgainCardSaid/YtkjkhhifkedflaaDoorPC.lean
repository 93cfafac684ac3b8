/- The walks of OpsSets and OpsAgain. -/
import Derived.Test.YtkjkhhifkedflaaDoorPB
set_option linter.unusedVariables false
set_option linter.unusedSimpArgs false
namespace Go.Proofs.YtkjkhhifkedflaaDoor
open Go.RowKit Go.Proofs.HP Go.BigFrame

theorem setR_len (l : List Opd) (p t : Int) (s : ByteArray) : (setR l p t s).length ≤ 100 := by
  unfold setR
  by_cases h : setE l p t s = 0
  · rw [if_pos h]; exact (vd_set h).le
  · rw [if_neg h]; simp
set_option maxHeartbeats 4000000 in
theorem opsSets_any (A : Option Addr) (cap : Nat) (l : List Opd) (p t : Int) (s : ByteArray) (w : World) (hm : l.length ≤ 9223372036854775807) (hP : PRO w A l) (hL : Laid w) : Calls Tryd.prog 6 #[.slice A l.length cap, .int .i64 p, .int .i64 t, .string s] w (AwEnd w) := by
  obtain ⟨n, hn⟩ : ∃ n, l.length = n := ⟨_, rfl⟩
  have HP := Lib.hid hP
  have HL := Lib.hid hL
  have Hn := Lib.hid hn
  rw [hn] at hm ⊢
  clear hP hL hn
  by_cases h3 : 300 < n
  · go_enter Tryd.func6, Tryd.ntmps6
    go_wp2_with fail
    refine (awake_any _ HL.out).mono ?_
    rintro e w5 ⟨rfl, g5⟩
    go_wp2_with fail
    go_ret
    exact ⟨rfl, g5⟩
  · obtain ⟨r, hr⟩ : ∃ r, setR l p t s = r := ⟨_, rfl⟩
    obtain ⟨k, hk⟩ : ∃ k, setE l p t s = k := ⟨_, rfl⟩
    have HR : Hid (r.length ≤ 100) := by show _; rw [← hr]; exact setR_len ..
    obtain ⟨m, hm2⟩ : ∃ m, r.length = m := ⟨_, rfl⟩
    have H1 : Hid (∀ A cap w, PRO w A l → KLaid w → Calls Tryd.prog 15 #[.slice A n cap, .int .i64 p, .int .i64 t, .string s] w fun e w' => ∃ A cap, e = .returned (.tuple #[.slice A m cap, .int .i64 k]) ∧ PRO w' A r ∧ Below w.heap.size w w') := fun A cap w h1 h2 => by rw [← hk, ← hm2, ← hr]; exact set_any A n cap l p t s w Hn.out (by omega) h1 h2
    have H2 : Hid (∀ A cap w, PRO w A l → Calls Tryd.prog 28 #[.slice A n cap, .int .i64 p, .int .i64 t, .string s] w fun e w' => ∃ A cap, e = .returned (.tuple #[.slice A m cap, .int .i64 k]) ∧ PRO w' A r ∧ Below w.heap.size w w') := fun A cap w h1 => by rw [← hk, ← hm2, ← hr]; exact rset_any A n cap l p t s w Hn.out (by omega) h1
    have H3 : Hid (∀ A B cap cap2 w, PRO w A r → PRO w B r → Calls Tryd.prog 21 #[.slice A m cap, .slice B m cap2] w (BEnd true w)) := fun A B cap cap2 w h1 h2 => by
      have C := same_any A B m m cap cap2 r r w hm2 hm2 (by have := HR.out; omega) h1 h2
      rwa [decide_eq_true rfl] at C
    have H4 : Hid (∀ A B cap cap2 w, PRO w A l → PRO w B l → Calls Tryd.prog 21 #[.slice A n cap, .slice B n cap2] w (BEnd true w)) := fun A B cap cap2 w h1 h2 => by
      have C := same_any A B n n cap cap2 l l w Hn.out Hn.out (by omega) h1 h2
      rwa [decide_eq_true rfl] at C
    have H0 := Lib.hid (clone_any A n cap l w Hn.out (by omega) HP.out)
    have ek : (k == k) = true := beq_self_eq_true _
    clear hr hk hm2
    go_enter Tryd.func6, Tryd.ntmps6
    go_wp2_with fail
    refine (H0.out).mono ?_
    rintro e w1 ⟨A1, c1, rfl, p1, b1⟩
    rw [Hn.out]
    have B1 := Lib.hid b1
    have P1 := Lib.hid p1
    clear p1 b1 H0
    go_wp2_with fail
    refine (H1.out _ _ _ P1.out (HL.out.below B1.out).kl).mono ?_
    rintro e w2 ⟨A2, c2, rfl, p2, b2⟩
    have B2 := Lib.hid (B1.out.trans (b2.mono B1.out.size))
    have P2 := Lib.hid (P1.out.below b2)
    have Q2 := Lib.hid p2
    clear p2 b2 P1 B1 H1
    go_wp2_with fail
    refine (H2.out _ _ _ (HP.out.below B2.out)).mono ?_
    rintro e w3 ⟨A3, c3, rfl, p3, b3⟩
    have B3 := Lib.hid (B2.out.trans (b3.mono B2.out.size))
    have P3 := Lib.hid (P2.out.below b3)
    have Q3 := Lib.hid (Q2.out.below b3)
    have T3 := Lib.hid p3
    clear p3 b3 P2 Q2 B2 H2
    go_wp2_with fail
    refine (H3.out _ _ _ _ _ Q3.out T3.out).mono ?_
    rintro e w4 ⟨rfl, b4⟩
    have B4 := Lib.hid (B3.out.trans (b4.b.mono B3.out.size))
    have P4 := Lib.hid (P3.out.below b4.b)
    clear b4 B3 P3 Q3 T3 H3
    go_wp2_with fail
    refine (H4.out _ _ _ _ _ P4.out (HP.out.below B4.out)).mono ?_
    rintro e w5 ⟨rfl, b5⟩
    have B5 := Lib.hid (B4.out.trans (b5.b.mono B4.out.size))
    clear b5 B4 P4 H4
    go_wp2_with fail
    refine (awake_any _ (HL.out.below B5.out)).mono ?_
    rintro e w6 ⟨rfl, g6⟩
    have B6 := Lib.hid (B5.out.trans (g6.mono B5.out.size))
    clear g6 B5
    go_wp2_with fail
    go_ret
    exact ⟨rfl, B6.out⟩

theorem setR_ok {l : List Opd} {p t : Int} {s : ByteArray} (h : setE l p t s = 0) : setR l p t s = setT l p t s := by rw [setR, if_pos h]
theorem setR_again {l : List Opd} {p t : Int} {s : ByteArray} (h : setE l p t s = 0) : setE (setR l p t s) p t s = 0 ∧ setR (setR l p t s) p t s = setR l p t s := by
  have h2 := again_ok h
  rw [setR_ok h]
  exact ⟨h2, by rw [setR_ok h2, set_again]⟩
theorem setR_back {l : List Opd} {p t : Int} {s : ByteArray} (h : setE l p t s = 0) : setE (setR l p t s) 0 t s = 0 ∧ setR (setR l p t s) 0 t s = rem s (clsI t) l := by
  have h2 := back_ok h
  rw [setR_ok h]
  exact ⟨h2, by rw [setR_ok h2, set_back]⟩
theorem cl3_of {t : Int} (h : clsI t ≠ 0) : cl3 (clsI t) = clsI t := by
  rcases cls_rng t with e | e | e | e
  · exact absurd e h
  all_goals rw [e]; rfl
theorem arg_isT {l : List Opd} {p t : Int} {s : ByteArray} (h : argB l p t s = true) : clsI t ≠ 0 := by
  simp only [argB, Bool.and_eq_true] at h
  exact cls_isT.1 h.1.2
theorem lk_eq {l : List Opd} (h : Vd l) (m : ByteArray) (c : Int) : HP.look l m c = l.find? (isK m c) := by rw [HP.look, if_pos (vld_iff.2 h)]
set_option maxHeartbeats 4000000 in
theorem opsAgain_any (A : Option Addr) (cap : Nat) (l : List Opd) (p t : Int) (s : ByteArray) (w : World) (hm : l.length ≤ 9223372036854775807) (hP : PRO w A l) (hL : Laid w) : Calls Tryd.prog 9 #[.slice A l.length cap, .int .i64 p, .int .i64 t, .string s] w (AwEnd w) := by
  obtain ⟨n, hn⟩ : ∃ n, l.length = n := ⟨_, rfl⟩
  have HP := Lib.hid hP
  have HL := Lib.hid hL
  have Hn := Lib.hid hn
  rw [hn] at hm ⊢
  clear hP hL hn
  by_cases h3 : 300 < n
  · go_enter Tryd.func9, Tryd.ntmps9
    go_wp2_with fail
    refine (awake_any _ HL.out).mono ?_
    rintro e w5 ⟨rfl, g5⟩
    go_wp2_with fail
    go_ret
    exact ⟨rfl, g5⟩
  · obtain ⟨k, hk⟩ : ∃ k, setE l p t s = k := ⟨_, rfl⟩
    obtain ⟨r, hr⟩ : ∃ r, setR l p t s = r := ⟨_, rfl⟩
    obtain ⟨m, hm2⟩ : ∃ m, r.length = m := ⟨_, rfl⟩
    have H1 : Hid (Calls Tryd.prog 15 #[.slice A n cap, .int .i64 p, .int .i64 t, .string s] w fun e w' => ∃ A cap, e = .returned (.tuple #[.slice A m cap, .int .i64 k]) ∧ PRO w' A r ∧ Below w.heap.size w w') := by
      show Calls _ _ _ _ _
      rw [← hk, ← hm2, ← hr]; exact set_any A n cap l p t s w Hn.out (by omega) HP.out HL.out.kl
    by_cases h0 : k = 0
    · subst h0
      have hr1 : r.length ≤ 100 := by rw [← hr]; exact setR_len ..
      obtain ⟨a1, a2⟩ := setR_again hk
      obtain ⟨z1, z2⟩ := setR_back hk
      rw [hr] at a1 a2 z1 z2
      have hV := arg_vd (setE_zero hk).1
      have hc0 := arg_isT (setE_zero hk).1
      obtain ⟨q, hq⟩ : ∃ q, rem s (clsI t) l = q := ⟨_, rfl⟩
      obtain ⟨mq, hmq⟩ : ∃ m, q.length = m := ⟨_, rfl⟩
      have hq1 : q.length ≤ 100 := by
        rw [← hq]
        exact Nat.le_trans (List.length_filter_le _ _) hV.le
      rw [hq] at z2
      obtain ⟨c, hc⟩ : ∃ c, clsI t = c := ⟨_, rfl⟩
      obtain ⟨b, hb⟩ : ∃ b, lkB l s c = b := ⟨_, rfl⟩
      obtain ⟨⟨s1, t1, p1⟩, ho⟩ : ∃ o, lkO l s c = o := ⟨_, rfl⟩
      have HB : Hid (b = false → q = l) := Lib.hid (fun e => by
        rw [← hq, hc]
        refine rem_none ?_
        rw [← hb, lkB, lk_eq hV] at e
        simpa using e)
      have H2 : Hid (∀ A cap w, PRO w A r → KLaid w → Calls Tryd.prog 15 #[.slice A m cap, .int .i64 p, .int .i64 t, .string s] w fun e w' => ∃ A cap, e = .returned (.tuple #[.slice A m cap, .int .i64 0]) ∧ PRO w' A r ∧ Below w.heap.size w w') := fun A cap w h1 h2 => by
        have C := set_any A m cap r p t s w hm2 (by omega) h1 h2
        unfold SetEnd at C
        rwa [a1, a2, hm2] at C
      have H3 : Hid (∀ A cap w, PRO w A r → KLaid w → Calls Tryd.prog 15 #[.slice A m cap, .int .i64 0, .int .i64 t, .string s] w fun e w' => ∃ A cap, e = .returned (.tuple #[.slice A mq cap, .int .i64 0]) ∧ PRO w' A q ∧ Below w.heap.size w w') := fun A cap w h1 h2 => by
        have C := set_any A m cap r 0 t s w hm2 (by omega) h1 h2
        unfold SetEnd at C
        rwa [z1, z2, hmq] at C
      have H4 : Hid (∀ w, Calls Tryd.prog 32 #[.int .i64 t] w fun e w' => e = .returned (.int .i64 c) ∧ w = w') := fun w => by rw [← hc]; exact (class_any t w).mono fun _ _ h => ⟨h.1, h.2.symm⟩
      have H5 : Hid (∀ w, PRO w A l → KLaid w → Calls Tryd.prog 33 #[.slice A n cap, .int .i64 c, .string s] w (LkEnd (s1, t1, p1) b w)) := fun w h1 h2 => by
        have C := lfind_any A n cap l c s w Hn.out (by omega) h1 h2
        rw [← hc, cl3_of hc0, hc, hb, ho] at C
        exact C
      have H6 : Hid (∀ A B cap cap2 w, PRO w A r → PRO w B r → Calls Tryd.prog 21 #[.slice A m cap, .slice B m cap2] w (BEnd true w)) := fun A B cap cap2 w h1 h2 => by
        have C := same_any A B m m cap cap2 r r w hm2 hm2 (by omega) h1 h2
        rwa [decide_eq_true rfl] at C
      have H7 : Hid (∀ A B cap cap2 w, b = false → PRO w A q → PRO w B l → Calls Tryd.prog 21 #[.slice A mq cap, .slice B n cap2] w (BEnd true w)) := fun A B cap cap2 w e h1 h2 => by
        have C := same_any A B mq n cap cap2 q l w hmq Hn.out (by omega) h1 h2
        rwa [decide_eq_true (HB.out e)] at C
      clear hr hk hm2 a1 a2 z1 z2 hV hc0 hq hmq hq1 hr1 hc hb ho HB Hn
      go_enter Tryd.func9, Tryd.ntmps9
      go_wp2_with fail
      refine (H1.out).mono ?_
      rintro e w1 ⟨A1, c1, rfl, p1, b1⟩
      have B1 := Lib.hid b1
      have P1 := Lib.hid p1
      clear p1 b1 H1
      go_wp2_with fail
      refine (H2.out _ _ _ P1.out (HL.out.below B1.out).kl).mono ?_
      rintro e w2 ⟨A2, c2, rfl, p2, b2⟩
      have B2 := Lib.hid (B1.out.trans (b2.mono B1.out.size))
      have P2 := Lib.hid (P1.out.below b2)
      have Q2 := Lib.hid p2
      clear p2 b2 P1 B1 H2
      go_wp2_with fail
      refine (H3.out _ _ _ P2.out (HL.out.below B2.out).kl).mono ?_
      rintro e w3 ⟨A3, c3, rfl, p3, b3⟩
      have B3 := Lib.hid (B2.out.trans (b3.mono B2.out.size))
      have P3 := Lib.hid (P2.out.below b3)
      have Q3 := Lib.hid (Q2.out.below b3)
      have T3 := Lib.hid p3
      clear p3 b3 P2 Q2 B2 H3
      go_wp2_with (go_at_call 32; ((with_reducible refine (H4.out _).mono ?_); rintro e w1 ⟨rfl, rfl⟩))
      refine (H5.out _ (HP.out.below B3.out) (HL.out.below B3.out).kl).mono ?_
      rintro e w4 ⟨rfl, g4⟩
      have B4 := Lib.hid ((B3.out.trans (g4.mono B3.out.size)).alloc (Nat.le_trans B3.out.size g4.size) (.cells #[.string s1, .int .i64 t1, .int .i64 p1] 26))
      have P4 := Lib.hid (P3.out.below (g4.alloc g4.size (.cells #[.string s1, .int .i64 t1, .int .i64 p1] 26)))
      have Q4 := Lib.hid (Q3.out.below (g4.alloc g4.size (.cells #[.string s1, .int .i64 t1, .int .i64 p1] 26)))
      have T4 := Lib.hid (T3.out.below (g4.alloc g4.size (.cells #[.string s1, .int .i64 t1, .int .i64 p1] 26)))
      clear g4 P3 Q3 T3 B3 H4 H5
      go_wp2_with fail
      refine (H6.out _ _ _ _ _ P4.out Q4.out).mono ?_
      rintro e w5 ⟨rfl, b5⟩
      have B5 := Lib.hid (B4.out.trans (b5.b.mono B4.out.size))
      have T5 := Lib.hid (T4.out.below b5.b)
      clear b5 B4 P4 Q4 T4 H6
      cases b
      · go_wp2_with fail
        refine (H7.out _ _ _ _ _ (by first | trivial | rfl) T5.out (HP.out.below B5.out)).mono ?_
        rintro e w6 ⟨rfl, b6⟩
        have B6 := Lib.hid (B5.out.trans (b6.b.mono B5.out.size))
        clear b6 B5 T5 H7
        go_wp2_with fail
        refine (awake_any _ (HL.out.below B6.out)).mono ?_
        rintro e w7 ⟨rfl, g7⟩
        have B7 := Lib.hid (B6.out.trans (g7.mono B6.out.size))
        clear g7 B6
        go_wp2_with fail
        go_ret
        exact ⟨rfl, B7.out⟩
      · go_wp2_with fail
        refine (awake_any _ (HL.out.below B5.out)).mono ?_
        rintro e w7 ⟨rfl, g7⟩
        have B7 := Lib.hid (B5.out.trans (g7.mono B5.out.size))
        clear g7 B5
        go_wp2_with fail
        go_ret
        exact ⟨rfl, B7.out⟩
    · have hk1 : (k != 0) = true := by simpa using h0
      clear hr hk hm2
      go_enter Tryd.func9, Tryd.ntmps9
      go_wp2_with fail
      refine (H1.out).mono ?_
      rintro e w1 ⟨A1, c1, rfl, p1, b1⟩
      have B1 := Lib.hid b1
      clear p1 b1 H1
      go_wp2_with fail
      refine (awake_any _ (HL.out.below B1.out)).mono ?_
      rintro e w5 ⟨rfl, g5⟩
      have B5 := Lib.hid (B1.out.trans (g5.mono B1.out.size))
      clear g5
      go_wp2_with fail
      go_ret
      exact ⟨rfl, B5.out⟩
end Go.Proofs.YtkjkhhifkedflaaDoor
