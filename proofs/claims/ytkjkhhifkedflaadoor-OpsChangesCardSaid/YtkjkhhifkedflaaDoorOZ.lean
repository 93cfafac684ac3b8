/- The contract of the specification's Set. -/
import Derived.Test.YtkjkhhifkedflaaDoorOY
set_option linter.unusedVariables false
set_option linter.unusedSimpArgs false
namespace Go.Proofs.YtkjkhhifkedflaaDoor
open Go.RowKit Go.Proofs.HP Go.BigFrame

theorem bar_cls {l : List Opd} (h : Vd l) {c : Int} (hc : c ≠ 2) : l.find? (isK (nm [124]) c) = none := by
  rw [List.find?_eq_none]
  intro x hx hk
  rw [isK_iff] at hk
  have h1 := h.one x hx
  simp only [oneB, hk.1, Bool.and_eq_true] at h1
  have h2 := h1.2
  rw [if_neg (by decide), if_pos (by decide)] at h2
  simp only [Bool.and_eq_true, beq_iff_eq] at h2
  exact hc (hk.2.symm.trans h2.1)
theorem cls0_none {l : List Opd} (h : Vd l) (s : ByteArray) : l.find? (isK s 0) = none := by
  rw [List.find?_eq_none]
  intro x hx hk
  rw [isK_iff] at hk
  exact one_cls0 (h.one x hx) hk.2
/-- Where the name passes, only the rival counts. -/
theorem perm_tail {l : List Opd} {p t : Int} {s : ByteArray} {c : Int} (hV : Vd l) (hc : clsI t = c) (hcr : c = 1 ∨ c = 2 ∨ c = 3)
    (h1 : ¬ s = nm [44]) (h2 : ¬ s = nm [91, 93]) (h3 : ¬ s = nm [123, 125]) (h4 : s = nm [124] → c = 2 ∧ (p = 0 ∨ 1001 ≤ p)) (hp : 0 ≤ p) : perm l p t s = !(decide (1 < c) && decide (0 < p) && lkB l s (5 - c)) := by
  have hl : ∀ d, lkB l s d = (l.find? (isK s d)).isSome := fun d => by unfold lkB HP.look; rw [if_pos (vld_iff.2 hV)]
  unfold perm
  rw [decide_eq_false h1, decide_eq_false h2, decide_eq_false h3, hc]
  by_cases h : s = nm [124]
  · obtain ⟨rfl, hpp⟩ := h4 h
    rw [if_pos h, hl, h, bar_cls hV (by decide)]
    simp
    omega
  · rw [if_neg h]
    by_cases hp0 : p = 0
    · subst hp0; simp
    · have hp1 : 0 < p := by omega
      have e0 : (p == 0) = false := by simpa using hp0
      rw [e0, decide_eq_true hp1]
      rcases hcr with rfl | rfl | rfl
      · rw [show riv 1 = 0 by decide, cls0_none hV]; rfl
      · rw [show riv 2 = 3 by decide, hl]; rfl
      · rw [show riv 3 = 2 by decide, hl]; rfl

set_option maxHeartbeats 8000000 in
theorem rset_noarg (A : Option Addr) (n cap : Nat) (l : List Opd) (p t : Int) (s : ByteArray) (w : World) (hn : l.length = n) (hm : n ≤ 1000) (hP : PRO w A l) (ha : argB l p t s = false) :
    Calls Tryd.prog 28 #[.slice A n cap, .int .i64 p, .int .i64 t, .string s] w (SetEnd l p t s w) := by
  have HE : Hid (setE l p t s = 1) := by show _ = _; rw [setE, ha]; rfl
  obtain ⟨b1, hb1⟩ : ∃ b, vld l = b := ⟨_, rfl⟩
  have H1 : Hid (∀ w, PRO w A l → Calls Tryd.prog 26 #[.slice A n cap] w (BEnd b1 w)) := fun w h1 => by rw [← hb1]; exact rvalid_any A n cap l w hn (by omega) h1
  obtain ⟨c, hc⟩ : ∃ c, clsI t = c := ⟨_, rfl⟩
  have H2 : Hid (∀ w, Calls Tryd.prog 32 #[.int .i64 t] w fun e w' => e = .returned (.int .i64 c) ∧ w = w') := fun w => by rw [← hc]; exact (class_any t w).mono fun _ _ h => ⟨h.1, h.2.symm⟩
  have HP := Lib.hid hP
  have eT : isT t = !(c == 0) := by rw [Bool.eq_iff_iff, cls_isT, hc]; simp
  have hq : (b1 && (decide (0 ≤ p) && decide (p ≤ 1200)) && !(c == 0) && decide (s.size ≤ 100)) = false := by rw [← hb1, ← eT]; exact ha
  clear hP hn ha hb1 hc eT
  cases b1
  · clear hq
    go_enter Tryd.func28, Tryd.ntmps28
    go_wp2_with (first | (go_at_call 32; ((with_reducible refine (H2.out _).mono ?_); rintro e w2 ⟨rfl, rfl⟩)) | (go_at_call 26; ((with_reducible refine (H1.out _ HP.out).mono ?_); rintro e w1 ⟨rfl, g1⟩)))
    go_ret2
    exact ret_set HE.out (by decide) g1.b
  · by_cases l1 : p < 0
    · clear hq
      go_enter Tryd.func28, Tryd.ntmps28
      go_wp2_with (first | (go_at_call 32; ((with_reducible refine (H2.out _).mono ?_); rintro e w2 ⟨rfl, rfl⟩)) | (go_at_call 26; ((with_reducible refine (H1.out _ HP.out).mono ?_); rintro e w1 ⟨rfl, g1⟩)))
      go_ret2
      exact ret_set HE.out (by decide) g1.b
    · by_cases l2 : 1200 < p
      · clear hq
        go_enter Tryd.func28, Tryd.ntmps28
        go_wp2_with (first | (go_at_call 32; ((with_reducible refine (H2.out _).mono ?_); rintro e w2 ⟨rfl, rfl⟩)) | (go_at_call 26; ((with_reducible refine (H1.out _ HP.out).mono ?_); rintro e w1 ⟨rfl, g1⟩)))
        go_ret2
        exact ret_set HE.out (by decide) g1.b
      · rcases Bool.eq_false_or_eq_true (c == 0) with l3 | l3
        · clear hq
          go_enter Tryd.func28, Tryd.ntmps28
          go_wp2_with (first | (go_at_call 32; ((with_reducible refine (H2.out _).mono ?_); rintro e w2 ⟨rfl, rfl⟩)) | (go_at_call 26; ((with_reducible refine (H1.out _ HP.out).mono ?_); rintro e w1 ⟨rfl, g1⟩)))
          go_ret2
          exact ret_set HE.out (by decide) g1.b
        · have l4 : (100 : Int) < (s.size : Int) := by
            rw [l3, decide_eq_true (show 0 ≤ p by omega), decide_eq_true (show p ≤ 1200 by omega)] at hq
            simp at hq; omega
          clear hq
          go_enter Tryd.func28, Tryd.ntmps28
          go_wp2_with (first | (go_at_call 32; ((with_reducible refine (H2.out _).mono ?_); rintro e w2 ⟨rfl, rfl⟩)) | (go_at_call 26; ((with_reducible refine (H1.out _ HP.out).mono ?_); rintro e w1 ⟨rfl, g1⟩)))
          go_ret2
          exact ret_set HE.out (by decide) g1.b
set_option maxHeartbeats 16000000 in
theorem rset_arg (A : Option Addr) (n cap : Nat) (l : List Opd) (p t : Int) (s : ByteArray) (w : World) (hn : l.length = n) (hm : n ≤ 1000) (hP : PRO w A l) (ha : argB l p t s = true) :
    Calls Tryd.prog 28 #[.slice A n cap, .int .i64 p, .int .i64 t, .string s] w (SetEnd l p t s w) := by
  have hV := arg_vd ha
  have HV := Lib.hid hV
  have HP := Lib.hid hP
  have Hn := Lib.hid hn
  have hta : isT t = true := by simp only [argB, Bool.and_eq_true] at ha; exact ha.1.2
  have hsa : s.size ≤ 100 := by simp only [argB, Bool.and_eq_true, decide_eq_true_eq] at ha; exact ha.2
  have hpa : 0 ≤ p ∧ p ≤ 1200 := by simp only [argB, Bool.and_eq_true, decide_eq_true_eq] at ha; exact ha.1.1.2
  obtain ⟨hp0, hp1⟩ := hpa
  have hsz : ¬ (100 : Int) < (s.size : Int) := by omega
  have hpn : ¬ p < 0 := by omega
  have hpx : ¬ 1200 < p := by omega
  obtain ⟨c, hc⟩ : ∃ c, clsI t = c := ⟨_, rfl⟩
  have hcr : c = 1 ∨ c = 2 ∨ c = 3 := by
    have h0 := cls_isT.1 hta
    have r := cls_rng t
    rw [hc] at h0 r
    omega
  have H1 : Hid (∀ w, PRO w A l → Calls Tryd.prog 26 #[.slice A n cap] w (BEnd true w)) := fun w h1 => by rw [← vld_iff.2 hV]; exact rvalid_any A n cap l w hn (by omega) h1
  have H2 : Hid (∀ w, Calls Tryd.prog 32 #[.int .i64 t] w fun e w' => e = .returned (.int .i64 c) ∧ w = w') := fun w => by rw [← hc]; exact (class_any t w).mono fun _ _ h => ⟨h.1, h.2.symm⟩
  have HC := Lib.hid hc
  have HEQ : Hid (perm l p t s = false → setE l p t s = 5) := Lib.hid (fun h => by rw [setE, ha, h]; rfl)
  have HEE : Hid (perm l p t s = true → setE l p t s = if 100 < (setT l p t s).length then 13 else 0) := Lib.hid (fun h => by rw [setE, ha, h]; rfl)
  have HPT : Hid (¬ s = nm [44] → ¬ s = nm [91, 93] → ¬ s = nm [123, 125] → (s = nm [124] → c = 2 ∧ (p = 0 ∨ 1001 ≤ p)) → perm l p t s = !(decide (1 < c) && decide (0 < p) && lkB l s (5 - c))) := Lib.hid (fun h1 h2 h3 h4 => perm_tail hV hc hcr h1 h2 h3 h4 hp0)
  have c0 : (c == 0) = false := by rcases hcr with rfl | rfl | rfl <;> rfl
  clear hP hn ha hV hta hc hsa
  rcases n5 s with ⟨h, h1, h2, h3, h4⟩ | ⟨h, h1, h2, h3, h4⟩ | ⟨h, h1, h2, h3, h4⟩ | ⟨h, h1, h2, h3, h4⟩ | ⟨k1, k2, k3, k4, h1, h2, h3, h4⟩
  · have HE5 : Hid (setE l p t s = 5) := Lib.hid (HEQ.out (by unfold perm; rw [h]; simp))
    clear h
    go_enter Tryd.func28, Tryd.ntmps28
    go_wp2_with (first | (go_at_call 32; ((with_reducible refine (H2.out _).mono ?_); rintro e w2 ⟨rfl, rfl⟩)) | (go_at_call 26; ((with_reducible refine (H1.out _ HP.out).mono ?_); rintro e w1 ⟨rfl, g1⟩; have B1 := Lib.hid g1.b; have P1 := Lib.hid (HP.out.below g1.b))))
    go_ret2
    exact ret_set HE5.out (by decide) B1.out
  · have HE5 : Hid (setE l p t s = 5) := Lib.hid (HEQ.out (by unfold perm; rw [h]; simp))
    clear h
    go_enter Tryd.func28, Tryd.ntmps28
    go_wp2_with (first | (go_at_call 32; ((with_reducible refine (H2.out _).mono ?_); rintro e w2 ⟨rfl, rfl⟩)) | (go_at_call 26; ((with_reducible refine (H1.out _ HP.out).mono ?_); rintro e w1 ⟨rfl, g1⟩; have B1 := Lib.hid g1.b; have P1 := Lib.hid (HP.out.below g1.b))))
    go_ret2
    exact ret_set HE5.out (by decide) B1.out
  · have HE5 : Hid (setE l p t s = 5) := Lib.hid (HEQ.out (by unfold perm; rw [h]; simp))
    clear h
    go_enter Tryd.func28, Tryd.ntmps28
    go_wp2_with (first | (go_at_call 32; ((with_reducible refine (H2.out _).mono ?_); rintro e w2 ⟨rfl, rfl⟩)) | (go_at_call 26; ((with_reducible refine (H1.out _ HP.out).mono ?_); rintro e w1 ⟨rfl, g1⟩; have B1 := Lib.hid g1.b; have P1 := Lib.hid (HP.out.below g1.b))))
    go_ret2
    exact ret_set HE5.out (by decide) B1.out
  · have HD : Hid (perm l p t s = (c == 2 && (p == 0 || decide (1001 ≤ p)))) := by show _ = _; unfold perm; rw [HC.out, if_pos h, h]; simp only [Bool.and_eq_right_iff_imp]; intro _; decide
    have HBAR := Lib.hid h
    clear h
    rcases hcr with rfl | rfl | rfl
    · have HE5 : Hid (setE l p t s = 5) := Lib.hid (HEQ.out (by rw [HD.out]; rfl))
      go_enter Tryd.func28, Tryd.ntmps28
      go_wp2_with (first | (go_at_call 32; ((with_reducible refine (H2.out _).mono ?_); rintro e w2 ⟨rfl, rfl⟩)) | (go_at_call 26; ((with_reducible refine (H1.out _ HP.out).mono ?_); rintro e w1 ⟨rfl, g1⟩; have B1 := Lib.hid g1.b; have P1 := Lib.hid (HP.out.below g1.b))))
      go_ret2
      exact ret_set HE5.out (by decide) B1.out
    · by_cases hz : p = 0
      · subst hz
        have HQ : Hid (perm l 0 t s = true) := by show _ = _; rw [HD.out]; rfl
        obtain ⟨M, hM⟩ : ∃ M, (rem s 2 l).length = M := ⟨_, rfl⟩
        have HM := Lib.hid hM
        have hMl : M ≤ 200 := by rw [← hM]; have := List.length_filter_le (fun o => !isK s 2 o) l; unfold rem; have := HV.out.le; omega
        have H4 : Hid (∀ w, PRO w A l → Calls Tryd.prog 55 #[.slice A n cap, .int .i64 2, .string s] w fun e w' => ∃ A' c', e = .returned (.slice A' M c') ∧ PRO w' A' (rem s 2 l) ∧ Below w.heap.size w w') := fun w h => by rw [← hM]; exact without_any A n cap l 2 s w Hn.out hm h
        clear hM
        have HT : Hid (setT l 0 t s = (rem s 2 l)) := by show _ = _; rw [setT, if_neg (by omega), HC.out]
        have HLN : Hid ((setT l 0 t s).length = M) := by show _ = _; rw [HT.out]; exact HM.out
        by_cases h100 : 100 < M
        · have HE : Hid (setE l 0 t s = 13) := by show _ = _; rw [HEE.out HQ.out, HLN.out, if_pos h100]
          go_enter Tryd.func28, Tryd.ntmps28
          go_wp2_with (first | (go_at_call 32; ((with_reducible refine (H2.out _).mono ?_); rintro e w2 ⟨rfl, rfl⟩)) | (go_at_call 26; ((with_reducible refine (H1.out _ HP.out).mono ?_); rintro e w1 ⟨rfl, g1⟩; have B1 := Lib.hid g1.b; have P1 := Lib.hid (HP.out.below g1.b))) | (go_at_call 55; ((with_reducible refine (H4.out _ P1.out).mono ?_); rintro e w5 ⟨A5, c5, rfl, r5, b5⟩; have B5 := Lib.hid (B1.out.trans (b5.mono B1.out.size)); have P5 := Lib.hid r5)))
          go_ret2
          exact ret_set HE.out (by decide) B5.out
        · have HE : Hid (setE l 0 t s = 0) := by show _ = _; rw [HEE.out HQ.out, HLN.out, if_neg h100]
          have HRR : Hid (setR l 0 t s = setT l 0 t s) := by show _ = _; rw [setR, if_pos HE.out]
          go_enter Tryd.func28, Tryd.ntmps28
          go_wp2_with (first | (go_at_call 32; ((with_reducible refine (H2.out _).mono ?_); rintro e w2 ⟨rfl, rfl⟩)) | (go_at_call 26; ((with_reducible refine (H1.out _ HP.out).mono ?_); rintro e w1 ⟨rfl, g1⟩; have B1 := Lib.hid g1.b; have P1 := Lib.hid (HP.out.below g1.b))) | (go_at_call 55; ((with_reducible refine (H4.out _ P1.out).mono ?_); rintro e w5 ⟨A5, c5, rfl, r5, b5⟩; have B5 := Lib.hid (B1.out.trans (b5.mono B1.out.size)); have P5 := Lib.hid r5)))
          go_ret2
          exact ⟨A5, c5, ret_sz (by rw [HRR.out, HLN.out]) HE.out.symm, by rw [HRR.out, HT.out]; exact P5.out, B5.out⟩
      · have hpos : 0 < p := by omega
        have hz0 : (p == 0) = false := by simpa using hz
        by_cases hb : p < 1001
        · have HE5 : Hid (setE l p t s = 5) := Lib.hid (HEQ.out (by rw [HD.out, hz0, decide_eq_false (by omega)]; rfl))
          go_enter Tryd.func28, Tryd.ntmps28
          go_wp2_with (first | (go_at_call 32; ((with_reducible refine (H2.out _).mono ?_); rintro e w2 ⟨rfl, rfl⟩)) | (go_at_call 26; ((with_reducible refine (H1.out _ HP.out).mono ?_); rintro e w1 ⟨rfl, g1⟩; have B1 := Lib.hid g1.b; have P1 := Lib.hid (HP.out.below g1.b))))
          go_ret2
          exact ret_set HE5.out (by decide) B1.out
        · have HQ : Hid (perm l p t s = true) := by show _ = _; rw [HD.out, decide_eq_true (show 1001 ≤ p by omega)]; simp
          have HB3 : Hid (lkB l s 3 = false) := Lib.hid (by unfold lkB Go.Proofs.HP.look; rw [if_pos (vld_iff.2 HV.out), HBAR.out, bar_cls HV.out (by decide)]; rfl)
          obtain ⟨M, hM⟩ : ∃ M, (rem s 2 l).length = M := ⟨_, rfl⟩
          have HM := Lib.hid hM
          have hMl : M ≤ 200 := by rw [← hM]; have := List.length_filter_le (fun o => !isK s 2 o) l; unfold rem; have := HV.out.le; omega
          have H4 : Hid (∀ w, PRO w A l → Calls Tryd.prog 55 #[.slice A n cap, .int .i64 2, .string s] w fun e w' => ∃ A' c', e = .returned (.slice A' M c') ∧ PRO w' A' (rem s 2 l) ∧ Below w.heap.size w w') := fun w h => by rw [← hM]; exact without_any A n cap l 2 s w Hn.out hm h
          obtain ⟨N, hN⟩ : ∃ N, (wit (rem s 2 l) (s, t, p)).length = N := ⟨_, rfl⟩
          have HN := Lib.hid hN
          have hNl : N ≤ 300 := by rw [← hN, len_wit, hM]; omega
          have H5 : Hid (∀ w A3 c3, PRO w A3 (rem s 2 l) → Calls Tryd.prog 56 #[.slice A3 M c3, opV (s, t, p)] w fun e w' => ∃ A' c', e = .returned (.slice A' N c') ∧ PRO w' A' (wit (rem s 2 l) (s, t, p)) ∧ Below w.heap.size w w') := fun w A3 c3 h => by rw [← hN]; exact with_any A3 M c3 _ (s, t, p) w HM.out (by omega) h
          clear hN
          obtain ⟨⟨s3, t3, p3⟩, hq3⟩ : ∃ o, lkO l s 3 = o := ⟨_, rfl⟩
          have H3 : Hid (∀ w, PRO w A l → Calls Tryd.prog 25 #[.slice A n cap, .int .i64 3, .string s] w (LkEnd (s3, t3, p3) false w)) := fun w h => by rw [← hq3, ← HB3.out]; exact rfind_any A n cap l s 3 w Hn.out (by omega) h
          clear hq3
          clear hM
          have HT : Hid (setT l p t s = (wit (rem s 2 l) (s, t, p))) := by show _ = _; rw [setT, if_pos hpos, HC.out]
          have HLN : Hid ((setT l p t s).length = N) := by show _ = _; rw [HT.out]; exact HN.out
          by_cases h100 : 100 < N
          · have HE : Hid (setE l p t s = 13) := by show _ = _; rw [HEE.out HQ.out, HLN.out, if_pos h100]
            go_enter Tryd.func28, Tryd.ntmps28
            go_wp2_with (first | (go_at_call 32; ((with_reducible refine (H2.out _).mono ?_); rintro e w2 ⟨rfl, rfl⟩)) | (go_at_call 26; ((with_reducible refine (H1.out _ HP.out).mono ?_); rintro e w1 ⟨rfl, g1⟩; have B1 := Lib.hid g1.b; have P1 := Lib.hid (HP.out.below g1.b))) | (go_at_call 25; ((with_reducible refine (H3.out _ P1.out).mono ?_); rintro e w4 ⟨rfl, g4⟩; have B4 := Lib.hid ((B1.out.trans (g4.mono B1.out.size)).alloc (Nat.le_trans B1.out.size g4.size) (.cells #[.string s3, .int .i64 t3, .int .i64 p3] 26)); have P4 := Lib.hid (HP.out.below B4.out))) | (go_at_call 55; ((with_reducible refine (H4.out _ P4.out).mono ?_); rintro e w5 ⟨A5, c5, rfl, r5, b5⟩; have B5 := Lib.hid (B4.out.trans (b5.mono B4.out.size)); have P5 := Lib.hid r5)) | (go_at_call 56; ((with_reducible refine (H5.out _ A5 c5 P5.out).mono ?_); rintro e w6 ⟨A6, c6, rfl, r6, b6⟩; have B6 := Lib.hid (B5.out.trans (b6.mono B5.out.size)); have P6 := Lib.hid r6)))
            go_ret2
            exact ret_set HE.out (by decide) B6.out
          · have HE : Hid (setE l p t s = 0) := by show _ = _; rw [HEE.out HQ.out, HLN.out, if_neg h100]
            have HRR : Hid (setR l p t s = setT l p t s) := by show _ = _; rw [setR, if_pos HE.out]
            go_enter Tryd.func28, Tryd.ntmps28
            go_wp2_with (first | (go_at_call 32; ((with_reducible refine (H2.out _).mono ?_); rintro e w2 ⟨rfl, rfl⟩)) | (go_at_call 26; ((with_reducible refine (H1.out _ HP.out).mono ?_); rintro e w1 ⟨rfl, g1⟩; have B1 := Lib.hid g1.b; have P1 := Lib.hid (HP.out.below g1.b))) | (go_at_call 25; ((with_reducible refine (H3.out _ P1.out).mono ?_); rintro e w4 ⟨rfl, g4⟩; have B4 := Lib.hid ((B1.out.trans (g4.mono B1.out.size)).alloc (Nat.le_trans B1.out.size g4.size) (.cells #[.string s3, .int .i64 t3, .int .i64 p3] 26)); have P4 := Lib.hid (HP.out.below B4.out))) | (go_at_call 55; ((with_reducible refine (H4.out _ P4.out).mono ?_); rintro e w5 ⟨A5, c5, rfl, r5, b5⟩; have B5 := Lib.hid (B4.out.trans (b5.mono B4.out.size)); have P5 := Lib.hid r5)) | (go_at_call 56; ((with_reducible refine (H5.out _ A5 c5 P5.out).mono ?_); rintro e w6 ⟨A6, c6, rfl, r6, b6⟩; have B6 := Lib.hid (B5.out.trans (b6.mono B5.out.size)); have P6 := Lib.hid r6)))
            go_ret2
            exact ⟨A6, c6, ret_sz (by rw [HRR.out, HLN.out]) HE.out.symm, by rw [HRR.out, HT.out]; exact P6.out, B6.out⟩
    · have HE5 : Hid (setE l p t s = 5) := Lib.hid (HEQ.out (by rw [HD.out]; rfl))
      go_enter Tryd.func28, Tryd.ntmps28
      go_wp2_with (first | (go_at_call 32; ((with_reducible refine (H2.out _).mono ?_); rintro e w2 ⟨rfl, rfl⟩)) | (go_at_call 26; ((with_reducible refine (H1.out _ HP.out).mono ?_); rintro e w1 ⟨rfl, g1⟩; have B1 := Lib.hid g1.b; have P1 := Lib.hid (HP.out.below g1.b))))
      go_ret2
      exact ret_set HE5.out (by decide) B1.out
  · have HD := Lib.hid (HPT.out k3 k1 k2 (fun h => absurd h k4))
    clear k1 k2 k3 k4
    by_cases hz : p = 0
    · subst hz
      have HQ : Hid (perm l 0 t s = true) := by show _ = _; rw [HD.out]; simp
      rcases hcr with rfl | rfl | rfl
      · obtain ⟨M, hM⟩ : ∃ M, (rem s 1 l).length = M := ⟨_, rfl⟩
        have HM := Lib.hid hM
        have hMl : M ≤ 200 := by rw [← hM]; have := List.length_filter_le (fun o => !isK s 1 o) l; unfold rem; have := HV.out.le; omega
        have H4 : Hid (∀ w, PRO w A l → Calls Tryd.prog 55 #[.slice A n cap, .int .i64 1, .string s] w fun e w' => ∃ A' c', e = .returned (.slice A' M c') ∧ PRO w' A' (rem s 1 l) ∧ Below w.heap.size w w') := fun w h => by rw [← hM]; exact without_any A n cap l 1 s w Hn.out hm h
        clear hM
        have HT : Hid (setT l 0 t s = (rem s 1 l)) := by show _ = _; rw [setT, if_neg (by omega), HC.out]
        have HLN : Hid ((setT l 0 t s).length = M) := by show _ = _; rw [HT.out]; exact HM.out
        by_cases h100 : 100 < M
        · have HE : Hid (setE l 0 t s = 13) := by show _ = _; rw [HEE.out HQ.out, HLN.out, if_pos h100]
          go_enter Tryd.func28, Tryd.ntmps28
          go_wp2_with (first | (go_at_call 32; ((with_reducible refine (H2.out _).mono ?_); rintro e w2 ⟨rfl, rfl⟩)) | (go_at_call 26; ((with_reducible refine (H1.out _ HP.out).mono ?_); rintro e w1 ⟨rfl, g1⟩; have B1 := Lib.hid g1.b; have P1 := Lib.hid (HP.out.below g1.b))) | (go_at_call 55; ((with_reducible refine (H4.out _ P1.out).mono ?_); rintro e w5 ⟨A5, c5, rfl, r5, b5⟩; have B5 := Lib.hid (B1.out.trans (b5.mono B1.out.size)); have P5 := Lib.hid r5)))
          go_ret2
          exact ret_set HE.out (by decide) B5.out
        · have HE : Hid (setE l 0 t s = 0) := by show _ = _; rw [HEE.out HQ.out, HLN.out, if_neg h100]
          have HRR : Hid (setR l 0 t s = setT l 0 t s) := by show _ = _; rw [setR, if_pos HE.out]
          go_enter Tryd.func28, Tryd.ntmps28
          go_wp2_with (first | (go_at_call 32; ((with_reducible refine (H2.out _).mono ?_); rintro e w2 ⟨rfl, rfl⟩)) | (go_at_call 26; ((with_reducible refine (H1.out _ HP.out).mono ?_); rintro e w1 ⟨rfl, g1⟩; have B1 := Lib.hid g1.b; have P1 := Lib.hid (HP.out.below g1.b))) | (go_at_call 55; ((with_reducible refine (H4.out _ P1.out).mono ?_); rintro e w5 ⟨A5, c5, rfl, r5, b5⟩; have B5 := Lib.hid (B1.out.trans (b5.mono B1.out.size)); have P5 := Lib.hid r5)))
          go_ret2
          exact ⟨A5, c5, ret_sz (by rw [HRR.out, HLN.out]) HE.out.symm, by rw [HRR.out, HT.out]; exact P5.out, B5.out⟩
      · obtain ⟨M, hM⟩ : ∃ M, (rem s 2 l).length = M := ⟨_, rfl⟩
        have HM := Lib.hid hM
        have hMl : M ≤ 200 := by rw [← hM]; have := List.length_filter_le (fun o => !isK s 2 o) l; unfold rem; have := HV.out.le; omega
        have H4 : Hid (∀ w, PRO w A l → Calls Tryd.prog 55 #[.slice A n cap, .int .i64 2, .string s] w fun e w' => ∃ A' c', e = .returned (.slice A' M c') ∧ PRO w' A' (rem s 2 l) ∧ Below w.heap.size w w') := fun w h => by rw [← hM]; exact without_any A n cap l 2 s w Hn.out hm h
        clear hM
        have HT : Hid (setT l 0 t s = (rem s 2 l)) := by show _ = _; rw [setT, if_neg (by omega), HC.out]
        have HLN : Hid ((setT l 0 t s).length = M) := by show _ = _; rw [HT.out]; exact HM.out
        by_cases h100 : 100 < M
        · have HE : Hid (setE l 0 t s = 13) := by show _ = _; rw [HEE.out HQ.out, HLN.out, if_pos h100]
          go_enter Tryd.func28, Tryd.ntmps28
          go_wp2_with (first | (go_at_call 32; ((with_reducible refine (H2.out _).mono ?_); rintro e w2 ⟨rfl, rfl⟩)) | (go_at_call 26; ((with_reducible refine (H1.out _ HP.out).mono ?_); rintro e w1 ⟨rfl, g1⟩; have B1 := Lib.hid g1.b; have P1 := Lib.hid (HP.out.below g1.b))) | (go_at_call 55; ((with_reducible refine (H4.out _ P1.out).mono ?_); rintro e w5 ⟨A5, c5, rfl, r5, b5⟩; have B5 := Lib.hid (B1.out.trans (b5.mono B1.out.size)); have P5 := Lib.hid r5)))
          go_ret2
          exact ret_set HE.out (by decide) B5.out
        · have HE : Hid (setE l 0 t s = 0) := by show _ = _; rw [HEE.out HQ.out, HLN.out, if_neg h100]
          have HRR : Hid (setR l 0 t s = setT l 0 t s) := by show _ = _; rw [setR, if_pos HE.out]
          go_enter Tryd.func28, Tryd.ntmps28
          go_wp2_with (first | (go_at_call 32; ((with_reducible refine (H2.out _).mono ?_); rintro e w2 ⟨rfl, rfl⟩)) | (go_at_call 26; ((with_reducible refine (H1.out _ HP.out).mono ?_); rintro e w1 ⟨rfl, g1⟩; have B1 := Lib.hid g1.b; have P1 := Lib.hid (HP.out.below g1.b))) | (go_at_call 55; ((with_reducible refine (H4.out _ P1.out).mono ?_); rintro e w5 ⟨A5, c5, rfl, r5, b5⟩; have B5 := Lib.hid (B1.out.trans (b5.mono B1.out.size)); have P5 := Lib.hid r5)))
          go_ret2
          exact ⟨A5, c5, ret_sz (by rw [HRR.out, HLN.out]) HE.out.symm, by rw [HRR.out, HT.out]; exact P5.out, B5.out⟩
      · obtain ⟨M, hM⟩ : ∃ M, (rem s 3 l).length = M := ⟨_, rfl⟩
        have HM := Lib.hid hM
        have hMl : M ≤ 200 := by rw [← hM]; have := List.length_filter_le (fun o => !isK s 3 o) l; unfold rem; have := HV.out.le; omega
        have H4 : Hid (∀ w, PRO w A l → Calls Tryd.prog 55 #[.slice A n cap, .int .i64 3, .string s] w fun e w' => ∃ A' c', e = .returned (.slice A' M c') ∧ PRO w' A' (rem s 3 l) ∧ Below w.heap.size w w') := fun w h => by rw [← hM]; exact without_any A n cap l 3 s w Hn.out hm h
        clear hM
        have HT : Hid (setT l 0 t s = (rem s 3 l)) := by show _ = _; rw [setT, if_neg (by omega), HC.out]
        have HLN : Hid ((setT l 0 t s).length = M) := by show _ = _; rw [HT.out]; exact HM.out
        by_cases h100 : 100 < M
        · have HE : Hid (setE l 0 t s = 13) := by show _ = _; rw [HEE.out HQ.out, HLN.out, if_pos h100]
          go_enter Tryd.func28, Tryd.ntmps28
          go_wp2_with (first | (go_at_call 32; ((with_reducible refine (H2.out _).mono ?_); rintro e w2 ⟨rfl, rfl⟩)) | (go_at_call 26; ((with_reducible refine (H1.out _ HP.out).mono ?_); rintro e w1 ⟨rfl, g1⟩; have B1 := Lib.hid g1.b; have P1 := Lib.hid (HP.out.below g1.b))) | (go_at_call 55; ((with_reducible refine (H4.out _ P1.out).mono ?_); rintro e w5 ⟨A5, c5, rfl, r5, b5⟩; have B5 := Lib.hid (B1.out.trans (b5.mono B1.out.size)); have P5 := Lib.hid r5)))
          go_ret2
          exact ret_set HE.out (by decide) B5.out
        · have HE : Hid (setE l 0 t s = 0) := by show _ = _; rw [HEE.out HQ.out, HLN.out, if_neg h100]
          have HRR : Hid (setR l 0 t s = setT l 0 t s) := by show _ = _; rw [setR, if_pos HE.out]
          go_enter Tryd.func28, Tryd.ntmps28
          go_wp2_with (first | (go_at_call 32; ((with_reducible refine (H2.out _).mono ?_); rintro e w2 ⟨rfl, rfl⟩)) | (go_at_call 26; ((with_reducible refine (H1.out _ HP.out).mono ?_); rintro e w1 ⟨rfl, g1⟩; have B1 := Lib.hid g1.b; have P1 := Lib.hid (HP.out.below g1.b))) | (go_at_call 55; ((with_reducible refine (H4.out _ P1.out).mono ?_); rintro e w5 ⟨A5, c5, rfl, r5, b5⟩; have B5 := Lib.hid (B1.out.trans (b5.mono B1.out.size)); have P5 := Lib.hid r5)))
          go_ret2
          exact ⟨A5, c5, ret_sz (by rw [HRR.out, HLN.out]) HE.out.symm, by rw [HRR.out, HT.out]; exact P5.out, B5.out⟩
    · have hpos : 0 < p := by omega
      rcases hcr with rfl | rfl | rfl
      · have HQ : Hid (perm l p t s = true) := by show _ = _; rw [HD.out]; rfl
        obtain ⟨M, hM⟩ : ∃ M, (rem s 1 l).length = M := ⟨_, rfl⟩
        have HM := Lib.hid hM
        have hMl : M ≤ 200 := by rw [← hM]; have := List.length_filter_le (fun o => !isK s 1 o) l; unfold rem; have := HV.out.le; omega
        have H4 : Hid (∀ w, PRO w A l → Calls Tryd.prog 55 #[.slice A n cap, .int .i64 1, .string s] w fun e w' => ∃ A' c', e = .returned (.slice A' M c') ∧ PRO w' A' (rem s 1 l) ∧ Below w.heap.size w w') := fun w h => by rw [← hM]; exact without_any A n cap l 1 s w Hn.out hm h
        obtain ⟨N, hN⟩ : ∃ N, (wit (rem s 1 l) (s, t, p)).length = N := ⟨_, rfl⟩
        have HN := Lib.hid hN
        have hNl : N ≤ 300 := by rw [← hN, len_wit, hM]; omega
        have H5 : Hid (∀ w A3 c3, PRO w A3 (rem s 1 l) → Calls Tryd.prog 56 #[.slice A3 M c3, opV (s, t, p)] w fun e w' => ∃ A' c', e = .returned (.slice A' N c') ∧ PRO w' A' (wit (rem s 1 l) (s, t, p)) ∧ Below w.heap.size w w') := fun w A3 c3 h => by rw [← hN]; exact with_any A3 M c3 _ (s, t, p) w HM.out (by omega) h
        clear hN
        clear hM
        have HT : Hid (setT l p t s = (wit (rem s 1 l) (s, t, p))) := by show _ = _; rw [setT, if_pos hpos, HC.out]
        have HLN : Hid ((setT l p t s).length = N) := by show _ = _; rw [HT.out]; exact HN.out
        by_cases h100 : 100 < N
        · have HE : Hid (setE l p t s = 13) := by show _ = _; rw [HEE.out HQ.out, HLN.out, if_pos h100]
          go_enter Tryd.func28, Tryd.ntmps28
          go_wp2_with (first | (go_at_call 32; ((with_reducible refine (H2.out _).mono ?_); rintro e w2 ⟨rfl, rfl⟩)) | (go_at_call 26; ((with_reducible refine (H1.out _ HP.out).mono ?_); rintro e w1 ⟨rfl, g1⟩; have B1 := Lib.hid g1.b; have P1 := Lib.hid (HP.out.below g1.b))) | (go_at_call 55; ((with_reducible refine (H4.out _ P1.out).mono ?_); rintro e w5 ⟨A5, c5, rfl, r5, b5⟩; have B5 := Lib.hid (B1.out.trans (b5.mono B1.out.size)); have P5 := Lib.hid r5)) | (go_at_call 56; ((with_reducible refine (H5.out _ A5 c5 P5.out).mono ?_); rintro e w6 ⟨A6, c6, rfl, r6, b6⟩; have B6 := Lib.hid (B5.out.trans (b6.mono B5.out.size)); have P6 := Lib.hid r6)))
          go_ret2
          exact ret_set HE.out (by decide) B6.out
        · have HE : Hid (setE l p t s = 0) := by show _ = _; rw [HEE.out HQ.out, HLN.out, if_neg h100]
          have HRR : Hid (setR l p t s = setT l p t s) := by show _ = _; rw [setR, if_pos HE.out]
          go_enter Tryd.func28, Tryd.ntmps28
          go_wp2_with (first | (go_at_call 32; ((with_reducible refine (H2.out _).mono ?_); rintro e w2 ⟨rfl, rfl⟩)) | (go_at_call 26; ((with_reducible refine (H1.out _ HP.out).mono ?_); rintro e w1 ⟨rfl, g1⟩; have B1 := Lib.hid g1.b; have P1 := Lib.hid (HP.out.below g1.b))) | (go_at_call 55; ((with_reducible refine (H4.out _ P1.out).mono ?_); rintro e w5 ⟨A5, c5, rfl, r5, b5⟩; have B5 := Lib.hid (B1.out.trans (b5.mono B1.out.size)); have P5 := Lib.hid r5)) | (go_at_call 56; ((with_reducible refine (H5.out _ A5 c5 P5.out).mono ?_); rintro e w6 ⟨A6, c6, rfl, r6, b6⟩; have B6 := Lib.hid (B5.out.trans (b6.mono B5.out.size)); have P6 := Lib.hid r6)))
          go_ret2
          exact ⟨A6, c6, ret_sz (by rw [HRR.out, HLN.out]) HE.out.symm, by rw [HRR.out, HT.out]; exact P6.out, B6.out⟩
      · rcases Bool.eq_false_or_eq_true (lkB l s 3) with hlk | hlk
        · have HE5 : Hid (setE l p t s = 5) := Lib.hid (HEQ.out (by rw [HD.out, decide_eq_true hpos]; show (!(true && true && lkB l s 3)) = false; rw [hlk]; rfl))
          have HB3 : Hid (lkB l s 3 = true) := Lib.hid hlk
          clear hlk
          obtain ⟨⟨s3, t3, p3⟩, hq3⟩ : ∃ o, lkO l s 3 = o := ⟨_, rfl⟩
          have H3 : Hid (∀ w, PRO w A l → Calls Tryd.prog 25 #[.slice A n cap, .int .i64 3, .string s] w (LkEnd (s3, t3, p3) true w)) := fun w h => by rw [← hq3, ← HB3.out]; exact rfind_any A n cap l s 3 w Hn.out (by omega) h
          clear hq3
          go_enter Tryd.func28, Tryd.ntmps28
          go_wp2_with (first | (go_at_call 32; ((with_reducible refine (H2.out _).mono ?_); rintro e w2 ⟨rfl, rfl⟩)) | (go_at_call 26; ((with_reducible refine (H1.out _ HP.out).mono ?_); rintro e w1 ⟨rfl, g1⟩; have B1 := Lib.hid g1.b; have P1 := Lib.hid (HP.out.below g1.b))) | (go_at_call 25; ((with_reducible refine (H3.out _ P1.out).mono ?_); rintro e w4 ⟨rfl, g4⟩; have B4 := Lib.hid ((B1.out.trans (g4.mono B1.out.size)).alloc (Nat.le_trans B1.out.size g4.size) (.cells #[.string s3, .int .i64 t3, .int .i64 p3] 26)); have P4 := Lib.hid (HP.out.below B4.out))))
          go_ret2
          exact ret_set HE5.out (by decide) B4.out
        · have HQ : Hid (perm l p t s = true) := by show _ = _; rw [HD.out, decide_eq_true hpos]; show (!(true && true && lkB l s 3)) = true; rw [hlk]; rfl
          have HB3 : Hid (lkB l s 3 = false) := Lib.hid hlk
          clear hlk
          obtain ⟨M, hM⟩ : ∃ M, (rem s 2 l).length = M := ⟨_, rfl⟩
          have HM := Lib.hid hM
          have hMl : M ≤ 200 := by rw [← hM]; have := List.length_filter_le (fun o => !isK s 2 o) l; unfold rem; have := HV.out.le; omega
          have H4 : Hid (∀ w, PRO w A l → Calls Tryd.prog 55 #[.slice A n cap, .int .i64 2, .string s] w fun e w' => ∃ A' c', e = .returned (.slice A' M c') ∧ PRO w' A' (rem s 2 l) ∧ Below w.heap.size w w') := fun w h => by rw [← hM]; exact without_any A n cap l 2 s w Hn.out hm h
          obtain ⟨N, hN⟩ : ∃ N, (wit (rem s 2 l) (s, t, p)).length = N := ⟨_, rfl⟩
          have HN := Lib.hid hN
          have hNl : N ≤ 300 := by rw [← hN, len_wit, hM]; omega
          have H5 : Hid (∀ w A3 c3, PRO w A3 (rem s 2 l) → Calls Tryd.prog 56 #[.slice A3 M c3, opV (s, t, p)] w fun e w' => ∃ A' c', e = .returned (.slice A' N c') ∧ PRO w' A' (wit (rem s 2 l) (s, t, p)) ∧ Below w.heap.size w w') := fun w A3 c3 h => by rw [← hN]; exact with_any A3 M c3 _ (s, t, p) w HM.out (by omega) h
          clear hN
          obtain ⟨⟨s3, t3, p3⟩, hq3⟩ : ∃ o, lkO l s 3 = o := ⟨_, rfl⟩
          have H3 : Hid (∀ w, PRO w A l → Calls Tryd.prog 25 #[.slice A n cap, .int .i64 3, .string s] w (LkEnd (s3, t3, p3) false w)) := fun w h => by rw [← hq3, ← HB3.out]; exact rfind_any A n cap l s 3 w Hn.out (by omega) h
          clear hq3
          clear hM
          have HT : Hid (setT l p t s = (wit (rem s 2 l) (s, t, p))) := by show _ = _; rw [setT, if_pos hpos, HC.out]
          have HLN : Hid ((setT l p t s).length = N) := by show _ = _; rw [HT.out]; exact HN.out
          by_cases h100 : 100 < N
          · have HE : Hid (setE l p t s = 13) := by show _ = _; rw [HEE.out HQ.out, HLN.out, if_pos h100]
            go_enter Tryd.func28, Tryd.ntmps28
            go_wp2_with (first | (go_at_call 32; ((with_reducible refine (H2.out _).mono ?_); rintro e w2 ⟨rfl, rfl⟩)) | (go_at_call 26; ((with_reducible refine (H1.out _ HP.out).mono ?_); rintro e w1 ⟨rfl, g1⟩; have B1 := Lib.hid g1.b; have P1 := Lib.hid (HP.out.below g1.b))) | (go_at_call 25; ((with_reducible refine (H3.out _ P1.out).mono ?_); rintro e w4 ⟨rfl, g4⟩; have B4 := Lib.hid ((B1.out.trans (g4.mono B1.out.size)).alloc (Nat.le_trans B1.out.size g4.size) (.cells #[.string s3, .int .i64 t3, .int .i64 p3] 26)); have P4 := Lib.hid (HP.out.below B4.out))) | (go_at_call 55; ((with_reducible refine (H4.out _ P4.out).mono ?_); rintro e w5 ⟨A5, c5, rfl, r5, b5⟩; have B5 := Lib.hid (B4.out.trans (b5.mono B4.out.size)); have P5 := Lib.hid r5)) | (go_at_call 56; ((with_reducible refine (H5.out _ A5 c5 P5.out).mono ?_); rintro e w6 ⟨A6, c6, rfl, r6, b6⟩; have B6 := Lib.hid (B5.out.trans (b6.mono B5.out.size)); have P6 := Lib.hid r6)))
            go_ret2
            exact ret_set HE.out (by decide) B6.out
          · have HE : Hid (setE l p t s = 0) := by show _ = _; rw [HEE.out HQ.out, HLN.out, if_neg h100]
            have HRR : Hid (setR l p t s = setT l p t s) := by show _ = _; rw [setR, if_pos HE.out]
            go_enter Tryd.func28, Tryd.ntmps28
            go_wp2_with (first | (go_at_call 32; ((with_reducible refine (H2.out _).mono ?_); rintro e w2 ⟨rfl, rfl⟩)) | (go_at_call 26; ((with_reducible refine (H1.out _ HP.out).mono ?_); rintro e w1 ⟨rfl, g1⟩; have B1 := Lib.hid g1.b; have P1 := Lib.hid (HP.out.below g1.b))) | (go_at_call 25; ((with_reducible refine (H3.out _ P1.out).mono ?_); rintro e w4 ⟨rfl, g4⟩; have B4 := Lib.hid ((B1.out.trans (g4.mono B1.out.size)).alloc (Nat.le_trans B1.out.size g4.size) (.cells #[.string s3, .int .i64 t3, .int .i64 p3] 26)); have P4 := Lib.hid (HP.out.below B4.out))) | (go_at_call 55; ((with_reducible refine (H4.out _ P4.out).mono ?_); rintro e w5 ⟨A5, c5, rfl, r5, b5⟩; have B5 := Lib.hid (B4.out.trans (b5.mono B4.out.size)); have P5 := Lib.hid r5)) | (go_at_call 56; ((with_reducible refine (H5.out _ A5 c5 P5.out).mono ?_); rintro e w6 ⟨A6, c6, rfl, r6, b6⟩; have B6 := Lib.hid (B5.out.trans (b6.mono B5.out.size)); have P6 := Lib.hid r6)))
            go_ret2
            exact ⟨A6, c6, ret_sz (by rw [HRR.out, HLN.out]) HE.out.symm, by rw [HRR.out, HT.out]; exact P6.out, B6.out⟩
      · rcases Bool.eq_false_or_eq_true (lkB l s 2) with hlk | hlk
        · have HE5 : Hid (setE l p t s = 5) := Lib.hid (HEQ.out (by rw [HD.out, decide_eq_true hpos]; show (!(true && true && lkB l s 2)) = false; rw [hlk]; rfl))
          have HB3 : Hid (lkB l s 2 = true) := Lib.hid hlk
          clear hlk
          obtain ⟨⟨s3, t3, p3⟩, hq3⟩ : ∃ o, lkO l s 2 = o := ⟨_, rfl⟩
          have H3 : Hid (∀ w, PRO w A l → Calls Tryd.prog 25 #[.slice A n cap, .int .i64 2, .string s] w (LkEnd (s3, t3, p3) true w)) := fun w h => by rw [← hq3, ← HB3.out]; exact rfind_any A n cap l s 2 w Hn.out (by omega) h
          clear hq3
          go_enter Tryd.func28, Tryd.ntmps28
          go_wp2_with (first | (go_at_call 32; ((with_reducible refine (H2.out _).mono ?_); rintro e w2 ⟨rfl, rfl⟩)) | (go_at_call 26; ((with_reducible refine (H1.out _ HP.out).mono ?_); rintro e w1 ⟨rfl, g1⟩; have B1 := Lib.hid g1.b; have P1 := Lib.hid (HP.out.below g1.b))) | (go_at_call 25; ((with_reducible refine (H3.out _ P1.out).mono ?_); rintro e w4 ⟨rfl, g4⟩; have B4 := Lib.hid ((B1.out.trans (g4.mono B1.out.size)).alloc (Nat.le_trans B1.out.size g4.size) (.cells #[.string s3, .int .i64 t3, .int .i64 p3] 26)); have P4 := Lib.hid (HP.out.below B4.out))))
          go_ret2
          exact ret_set HE5.out (by decide) B4.out
        · have HQ : Hid (perm l p t s = true) := by show _ = _; rw [HD.out, decide_eq_true hpos]; show (!(true && true && lkB l s 2)) = true; rw [hlk]; rfl
          have HB3 : Hid (lkB l s 2 = false) := Lib.hid hlk
          clear hlk
          obtain ⟨M, hM⟩ : ∃ M, (rem s 3 l).length = M := ⟨_, rfl⟩
          have HM := Lib.hid hM
          have hMl : M ≤ 200 := by rw [← hM]; have := List.length_filter_le (fun o => !isK s 3 o) l; unfold rem; have := HV.out.le; omega
          have H4 : Hid (∀ w, PRO w A l → Calls Tryd.prog 55 #[.slice A n cap, .int .i64 3, .string s] w fun e w' => ∃ A' c', e = .returned (.slice A' M c') ∧ PRO w' A' (rem s 3 l) ∧ Below w.heap.size w w') := fun w h => by rw [← hM]; exact without_any A n cap l 3 s w Hn.out hm h
          obtain ⟨N, hN⟩ : ∃ N, (wit (rem s 3 l) (s, t, p)).length = N := ⟨_, rfl⟩
          have HN := Lib.hid hN
          have hNl : N ≤ 300 := by rw [← hN, len_wit, hM]; omega
          have H5 : Hid (∀ w A3 c3, PRO w A3 (rem s 3 l) → Calls Tryd.prog 56 #[.slice A3 M c3, opV (s, t, p)] w fun e w' => ∃ A' c', e = .returned (.slice A' N c') ∧ PRO w' A' (wit (rem s 3 l) (s, t, p)) ∧ Below w.heap.size w w') := fun w A3 c3 h => by rw [← hN]; exact with_any A3 M c3 _ (s, t, p) w HM.out (by omega) h
          clear hN
          obtain ⟨⟨s3, t3, p3⟩, hq3⟩ : ∃ o, lkO l s 2 = o := ⟨_, rfl⟩
          have H3 : Hid (∀ w, PRO w A l → Calls Tryd.prog 25 #[.slice A n cap, .int .i64 2, .string s] w (LkEnd (s3, t3, p3) false w)) := fun w h => by rw [← hq3, ← HB3.out]; exact rfind_any A n cap l s 2 w Hn.out (by omega) h
          clear hq3
          clear hM
          have HT : Hid (setT l p t s = (wit (rem s 3 l) (s, t, p))) := by show _ = _; rw [setT, if_pos hpos, HC.out]
          have HLN : Hid ((setT l p t s).length = N) := by show _ = _; rw [HT.out]; exact HN.out
          by_cases h100 : 100 < N
          · have HE : Hid (setE l p t s = 13) := by show _ = _; rw [HEE.out HQ.out, HLN.out, if_pos h100]
            go_enter Tryd.func28, Tryd.ntmps28
            go_wp2_with (first | (go_at_call 32; ((with_reducible refine (H2.out _).mono ?_); rintro e w2 ⟨rfl, rfl⟩)) | (go_at_call 26; ((with_reducible refine (H1.out _ HP.out).mono ?_); rintro e w1 ⟨rfl, g1⟩; have B1 := Lib.hid g1.b; have P1 := Lib.hid (HP.out.below g1.b))) | (go_at_call 25; ((with_reducible refine (H3.out _ P1.out).mono ?_); rintro e w4 ⟨rfl, g4⟩; have B4 := Lib.hid ((B1.out.trans (g4.mono B1.out.size)).alloc (Nat.le_trans B1.out.size g4.size) (.cells #[.string s3, .int .i64 t3, .int .i64 p3] 26)); have P4 := Lib.hid (HP.out.below B4.out))) | (go_at_call 55; ((with_reducible refine (H4.out _ P4.out).mono ?_); rintro e w5 ⟨A5, c5, rfl, r5, b5⟩; have B5 := Lib.hid (B4.out.trans (b5.mono B4.out.size)); have P5 := Lib.hid r5)) | (go_at_call 56; ((with_reducible refine (H5.out _ A5 c5 P5.out).mono ?_); rintro e w6 ⟨A6, c6, rfl, r6, b6⟩; have B6 := Lib.hid (B5.out.trans (b6.mono B5.out.size)); have P6 := Lib.hid r6)))
            go_ret2
            exact ret_set HE.out (by decide) B6.out
          · have HE : Hid (setE l p t s = 0) := by show _ = _; rw [HEE.out HQ.out, HLN.out, if_neg h100]
            have HRR : Hid (setR l p t s = setT l p t s) := by show _ = _; rw [setR, if_pos HE.out]
            go_enter Tryd.func28, Tryd.ntmps28
            go_wp2_with (first | (go_at_call 32; ((with_reducible refine (H2.out _).mono ?_); rintro e w2 ⟨rfl, rfl⟩)) | (go_at_call 26; ((with_reducible refine (H1.out _ HP.out).mono ?_); rintro e w1 ⟨rfl, g1⟩; have B1 := Lib.hid g1.b; have P1 := Lib.hid (HP.out.below g1.b))) | (go_at_call 25; ((with_reducible refine (H3.out _ P1.out).mono ?_); rintro e w4 ⟨rfl, g4⟩; have B4 := Lib.hid ((B1.out.trans (g4.mono B1.out.size)).alloc (Nat.le_trans B1.out.size g4.size) (.cells #[.string s3, .int .i64 t3, .int .i64 p3] 26)); have P4 := Lib.hid (HP.out.below B4.out))) | (go_at_call 55; ((with_reducible refine (H4.out _ P4.out).mono ?_); rintro e w5 ⟨A5, c5, rfl, r5, b5⟩; have B5 := Lib.hid (B4.out.trans (b5.mono B4.out.size)); have P5 := Lib.hid r5)) | (go_at_call 56; ((with_reducible refine (H5.out _ A5 c5 P5.out).mono ?_); rintro e w6 ⟨A6, c6, rfl, r6, b6⟩; have B6 := Lib.hid (B5.out.trans (b6.mono B5.out.size)); have P6 := Lib.hid r6)))
            go_ret2
            exact ⟨A6, c6, ret_sz (by rw [HRR.out, HLN.out]) HE.out.symm, by rw [HRR.out, HT.out]; exact P6.out, B6.out⟩

theorem rset_any (A : Option Addr) (n cap : Nat) (l : List Opd) (p t : Int) (s : ByteArray) (w : World) (hn : l.length = n) (hm : n ≤ 1000) (hP : PRO w A l) :
    Calls Tryd.prog 28 #[.slice A n cap, .int .i64 p, .int .i64 t, .string s] w (SetEnd l p t s w) := by
  rcases Bool.eq_false_or_eq_true (argB l p t s) with h | h
  · exact rset_arg A n cap l p t s w hn hm hP h
  · exact rset_noarg A n cap l p t s w hn hm hP h
end Go.Proofs.YtkjkhhifkedflaaDoor
