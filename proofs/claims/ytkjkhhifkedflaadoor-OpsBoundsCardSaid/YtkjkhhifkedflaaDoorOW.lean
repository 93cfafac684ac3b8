/- The contracts of the specification's Is, Sides, TypeName, TypeOf. -/
import Derived.Test.YtkjkhhifkedflaaDoorOV
set_option linter.unusedVariables false
set_option linter.unusedSimpArgs false
namespace Go.Proofs.YtkjkhhifkedflaaDoor
open Go.RowKit Go.Proofs.HP Go.BigFrame

theorem is_eq (l : List Opd) (m : ByteArray) : isB l m = (lkB l m 1 || lkB l m 2 || lkB l m 3) := by
  rcases Bool.eq_false_or_eq_true (vld l) with hv | hv
  · have hV := vld_iff.1 hv
    unfold isB lkB HP.look
    rw [hv, Bool.eq_iff_iff]
    simp only [Bool.true_and, if_true, Bool.or_eq_true, List.any_eq_true, decide_eq_true_eq, List.find?_isSome, isK_iff]
    constructor
    · rintro ⟨o, ho, hm⟩
      have h0 := one_cls0 (hV.one o ho)
      have hr := cls_rng o.2.1
      unfold oc at h0
      rcases hr with r | r | r | r
      · exact absurd r h0
      · exact .inl (.inl ⟨o, ho, hm, r⟩)
      · exact .inl (.inr ⟨o, ho, hm, r⟩)
      · exact .inr ⟨o, ho, hm, r⟩
    · rintro ((⟨o, ho, hm, _⟩ | ⟨o, ho, hm, _⟩) | ⟨o, ho, hm, _⟩) <;> exact ⟨o, ho, hm⟩
  · simp [isB, lkB, HP.look, hv]
set_option maxHeartbeats 4000000 in
theorem ris_any (A : Option Addr) (n cap : Nat) (l : List Opd) (m : ByteArray) (w : World) (hn : l.length = n) (hm : n ≤ 4611686018427387903) (hP : PRO w A l) :
    Calls Tryd.prog 27 #[.slice A n cap, .string m] w fun e w' => e = .returned (.bool (isB l m)) ∧ Below w.heap.size w w' := by
  have HQ := Lib.hid (is_eq l m)
  obtain ⟨⟨s1, t1, p1⟩, e1⟩ : ∃ o, lkO l m 1 = o := ⟨_, rfl⟩
  obtain ⟨⟨s2, t2, p2⟩, e2⟩ : ∃ o, lkO l m 2 = o := ⟨_, rfl⟩
  obtain ⟨⟨s3, t3, p3⟩, e3⟩ : ∃ o, lkO l m 3 = o := ⟨_, rfl⟩
  obtain ⟨b1, d1⟩ : ∃ o, lkB l m 1 = o := ⟨_, rfl⟩
  obtain ⟨b2, d2⟩ : ∃ o, lkB l m 2 = o := ⟨_, rfl⟩
  obtain ⟨b3, d3⟩ : ∃ o, lkB l m 3 = o := ⟨_, rfl⟩
  have H1 : Hid (∀ w, PRO w A l → Calls Tryd.prog 25 #[.slice A n cap, .int .i64 1, .string m] w (LkEnd (s1, t1, p1) b1 w)) := fun w h => by rw [← e1, ← d1]; exact rfind_any A n cap l m 1 w hn hm h
  have H2 : Hid (∀ w, PRO w A l → Calls Tryd.prog 25 #[.slice A n cap, .int .i64 2, .string m] w (LkEnd (s2, t2, p2) b2 w)) := fun w h => by rw [← e2, ← d2]; exact rfind_any A n cap l m 2 w hn hm h
  have H3 : Hid (∀ w, PRO w A l → Calls Tryd.prog 25 #[.slice A n cap, .int .i64 3, .string m] w (LkEnd (s3, t3, p3) b3 w)) := fun w h => by rw [← e3, ← d3]; exact rfind_any A n cap l m 3 w hn hm h
  rw [d1, d2, d3] at HQ
  have HP := Lib.hid hP
  clear e1 e2 e3 d1 d2 d3 hP hn
  go_enter Tryd.func27, Tryd.ntmps27
  go_wp2_with fail
  refine (H1.out _ HP.out).mono ?_
  rintro e w1 ⟨rfl, g1⟩
  have B1 := Lib.hid (g1.alloc g1.size (.cells #[.string s1, .int .i64 t1, .int .i64 p1] 26))
  have P1 := Lib.hid (HP.out.below B1.out)
  clear g1
  go_wp2_with fail
  refine (H2.out _ P1.out).mono ?_
  rintro e w2 ⟨rfl, g2⟩
  have B2 := Lib.hid ((B1.out.trans (g2.mono B1.out.size)).alloc (Nat.le_trans B1.out.size g2.size) (.cells #[.string s2, .int .i64 t2, .int .i64 p2] 26))
  have P2 := Lib.hid (HP.out.below B2.out)
  clear g2
  go_wp2_with fail
  refine (H3.out _ P2.out).mono ?_
  rintro e w3 ⟨rfl, g3⟩
  have B3 := Lib.hid ((B2.out.trans (g3.mono B2.out.size)).alloc (Nat.le_trans B2.out.size g3.size) (.cells #[.string s3, .int .i64 t3, .int .i64 p3] 26))
  clear g3
  cases b1 <;> cases b2
  all_goals
    go_wp2_with fail
    go_ret
    exact ⟨ret_bool (by rw [HQ.out]; rfl), B3.out⟩

set_option maxHeartbeats 4000000 in
theorem rsides_any (o : Opd) (w : World) : Calls Tryd.prog 29 #[opV o] w (SdEnd o w) := by
  obtain ⟨n, t, p⟩ := o
  have HG := Lib.hid ((Gw.refl w).alloc (.cells #[.string n, .int .i64 t, .int .i64 p] 26))
  by_cases h1 : 1 ≤ p
  · by_cases h2 : p ≤ 1200
    · have hpr : isPr p = true := by simp [isPr]; omega
      have hp0 : (p == 0) = false := by simp; omega
      by_cases ht : 1 ≤ t ∧ t ≤ 7
      · have h7 : t = 1 ∨ t = 2 ∨ t = 3 ∨ t = 4 ∨ t = 5 ∨ t = 6 ∨ t = 7 := by omega
        have HSL : Hid (isT t = true → sdL (n, t, p) = grt (kL t) p ∧ sdR (n, t, p) = grt (kR t) p) := Lib.hid (fun h => by
          unfold sdL sdR; simp only [h, hpr, hp0]; exact ⟨rfl, rfl⟩)
        clear hpr hp0
        rcases h7 with rfl | rfl | rfl | rfl | rfl | rfl | rfl
        all_goals
          have HS2 := Lib.hid (HSL.out (by decide))
          clear HSL ht
          go_enter Tryd.func29, Tryd.ntmps29
          go_wp2_with fail
          go_ret2
          exact ⟨ret_ii (by rw [HS2.out.1]; rfl) (by rw [HS2.out.2]; rfl), HG.out⟩
      · have hT : isT t = false := by rw [Bool.eq_false_iff]; simp only [isT, ne_eq, Bool.and_eq_true, decide_eq_true_eq]; exact ht
        have HS2 : Hid (sdL (n, t, p) = 0 ∧ sdR (n, t, p) = 0) := Lib.hid (by unfold sdL sdR; simp [hT])
        have g1 : (t == 1) = false := by simp; omega
        have g2 : (t == 2) = false := by simp; omega
        have g3 : (t == 3) = false := by simp; omega
        have g4 : (t == 4) = false := by simp; omega
        have g5 : (t == 5) = false := by simp; omega
        have g6 : (t == 6) = false := by simp; omega
        have g7 : (t == 7) = false := by simp; omega
        clear hT ht hpr hp0
        go_enter Tryd.func29, Tryd.ntmps29
        go_wp2_with fail
        go_ret2
        exact ⟨ret_ii HS2.out.1.symm HS2.out.2.symm, HG.out⟩
    · have HS2 : Hid (sdL (n, t, p) = 0 ∧ sdR (n, t, p) = 0) := Lib.hid (by
        have : isPr p = false := by simp [isPr]; omega
        unfold sdL sdR; simp [this])
      have h3 : 1200 < p := by omega
      go_enter Tryd.func29, Tryd.ntmps29
      go_wp2_with fail
      go_ret2
      exact ⟨ret_ii HS2.out.1.symm HS2.out.2.symm, HG.out⟩
  · have HS2 : Hid (sdL (n, t, p) = 0 ∧ sdR (n, t, p) = 0) := Lib.hid (by
      by_cases h0 : p = 0
      · subst h0; unfold sdL sdR; simp
      · have : isPr p = false := by simp [isPr]; omega
        unfold sdL sdR; simp [this])
    have h3 : p < 1 := by omega
    go_enter Tryd.func29, Tryd.ntmps29
    go_wp2_with fail
    go_ret2
    exact ⟨ret_ii HS2.out.1.symm HS2.out.2.symm, HG.out⟩

def TnEnd (t : Int) (w : World) (e : Ending) (w' : World) : Prop := e = .returned (.tuple #[.string (if isT t then kN t else ⟨#[]⟩), .bool (isT t)]) ∧ Gw w w'
set_option maxHeartbeats 4000000 in
theorem rtypeName_any (t : Int) (w : World) : Calls Tryd.prog 30 #[.int .i64 t] w (TnEnd t w) := by
  by_cases ht : 1 ≤ t ∧ t ≤ 7
  · have h7 : t = 1 ∨ t = 2 ∨ t = 3 ∨ t = 4 ∨ t = 5 ∨ t = 6 ∨ t = 7 := by omega
    rcases h7 with rfl | rfl | rfl | rfl | rfl | rfl | rfl
    all_goals
      clear ht
      go_enter Tryd.func30, Tryd.ntmps30
      go_wp2_with fail
      go_ret2
      exact ⟨rfl, (Gw.refl w).alloc _⟩
  · have hT : isT t = false := by rw [Bool.eq_false_iff]; simp only [isT, ne_eq, Bool.and_eq_true, decide_eq_true_eq]; exact ht
    have HE : Hid ((.string (if isT t then kN t else ⟨#[]⟩) : Value) = .string ⟨#[]⟩ ∧ isT t = false) := Lib.hid (by rw [hT]; exact ⟨rfl, rfl⟩)
    by_cases h1 : t < 1
    · clear ht hT
      go_enter Tryd.func30, Tryd.ntmps30
      go_wp2_with fail
      go_ret2
      exact ⟨by rw [HE.out.1, HE.out.2]; rfl, (Gw.refl w).alloc _⟩
    · have h3 : 7 < t := by omega
      have h4 : ¬ t < 1 := h1
      clear ht hT
      go_enter Tryd.func30, Tryd.ntmps30
      go_wp2_with fail
      go_ret2
      exact ⟨by rw [HE.out.1, HE.out.2]; rfl, (Gw.refl w).alloc _⟩
set_option maxHeartbeats 4000000 in
theorem rtypeOf_any (s : ByteArray) (w : World) : Calls Tryd.prog 31 #[.string s] w fun e w' => e = .returned (.tuple #[.int .i64 (tyV s), .bool (tyB s)]) ∧ Gw w w' := by
  go_enter Tryd.func31, Tryd.ntmps31
  go_wp2_with fail
  go_loopw [4] (fun vi wr => ∃ k : Nat, 1 ≤ k ∧ k ≤ 8 ∧ vi = .int .i64 k ∧ Hid (tyO s 7 1 = tyO s (8 - k) k) ∧ Hid (Gw w wr)) (fun vi _ => 8 - (intOf vi).toNat)
  case atStart => exact ⟨1, by omega, by omega, rfl, Lib.hid rfl, Lib.hid (Gw.refl _)⟩
  case round =>
    obtain ⟨k, hk1, hk, rfl, hI, hb⟩ := hrel
    by_cases hlt : k < 8
    · have ht : isT (k : Int) = true := by simp [isT]; omega
      obtain ⟨q, hq⟩ : ∃ q, kN (k : Int) = q := ⟨_, rfl⟩
      have H1 : Hid (∀ w, Calls Tryd.prog 30 #[.int .i64 k] w fun e w' => e = .returned (.tuple #[.string q, .bool true]) ∧ Gw w w') := fun w => by
        have h := rtypeName_any k w
        unfold TnEnd at h
        rw [ht, if_pos rfl, hq] at h
        exact h
      have he := toList_eq q s
      have h0 : (k : Int) ≤ 7 := by omega
      have e8 : 8 - k = (8 - (k + 1)) + 1 := by omega
      have HE8 := Lib.hid e8
      by_cases hqs : q = s
      · have HR : Hid (tyO s 7 1 = some (k : Int)) := by show _ = _; rw [hI.out, HE8.out]; exact tyO_yes (by rw [hq]; simpa using hqs)
        have g1 : (q.toList == s.toList) = true := by rw [he]; simpa using hqs
        clear ht he hqs hq e8
        go_wp2_with (go_at_call 30; ((with_reducible refine (H1.out _).mono ?_); rintro e w1 ⟨rfl, gg⟩))
        go_ret2
        exact ⟨by rw [tyV, tyB, HR.out]; rfl, hb.out.trans gg⟩
      · have HR : Hid (tyO s 7 1 = tyO s (8 - (k + 1)) ((k + 1 : Nat) : Int)) := by show _ = _; rw [hI.out, HE8.out]; exact tyO_no (by rw [hq]; simpa using hqs)
        have g1 : (q.toList == s.toList) = false := by rw [he]; simpa using hqs
        clear ht he hqs hq e8
        go_wp2_with (go_at_call 30; ((with_reducible refine (H1.out _).mono ?_); rintro e w1 ⟨rfl, gg⟩))
        go_roundw
        case rel => exact ⟨k + 1, by omega, by omega, by go_num, HR, Lib.hid (hb.out.trans gg)⟩
        case measure => simp [intOf]; omega
    · obtain rfl : k = 8 := by omega
      go_wp2_with fail
      go_ret2
      exact ⟨by rw [tyV, tyB, hI.out]; rfl, hb.out⟩
end Go.Proofs.YtkjkhhifkedflaaDoor
