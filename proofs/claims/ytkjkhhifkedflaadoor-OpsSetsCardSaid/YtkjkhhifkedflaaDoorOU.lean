/- The contracts of the specification's Valid, Find and Is. -/
import Derived.Test.YtkjkhhifkedflaaDoorOT
set_option linter.unusedVariables false
set_option linter.unusedSimpArgs false
namespace Go.Proofs.YtkjkhhifkedflaaDoor
open Go.RowKit Go.Proofs.HP Go.BigFrame

theorem okP_ref (q o : Opd) : okP q o = (befB q o && !(decide (q.1 = o.1) && oc q == 2 && oc o == 3)) := by
  by_cases h : q.1 = o.1
  · have hb : befB q o = decide (oc q < oc o) := by unfold befB; rw [h, kc_name]; exact decide_eq_decide.2 cmpI_lt
    have hk : decide (kc q.1 (oc q) o.1 (oc o) < 0) = decide (oc q < oc o) := hb
    unfold okP
    rw [hb, hk, decide_eq_true h]
    have r1 := cls_rng q.2.1
    have r2 := cls_rng o.2.1
    unfold oc riv
    rcases r1 with r1 | r1 | r1 | r1 <;> rcases r2 with r2 | r2 | r2 | r2 <;> rw [r1, r2] <;> decide
  · unfold okP befB
    rw [decide_eq_false h]; simp
def bothB (q o : Opd) : Bool := decide (q.1 = o.1) && oc q == 2 && oc o == 3
set_option maxHeartbeats 8000000 in
theorem rvalid_any (A : Option Addr) (n cap : Nat) (l : List Opd) (w : World) (hn : l.length = n) (hm : n ≤ 9223372036854775807) (hP : PRO w A l) :
    Calls Tryd.prog 26 #[.slice A n cap] w (BEnd (vld l) w) := by
  have mixed : Tryd.prog.follows .mixedOrders = true := by kernel_rfl
  have HP := Lib.hid hP
  have Hn := Lib.hid hn
  clear hP hn
  by_cases h100 : n ≤ 100
  · have HV : Hid (vld l = chk (prv l 0) (l.drop 0)) := Lib.hid (vld_len (by have := Hn.out; omega))
    go_enter Tryd.func26, Tryd.ntmps26
    go_wp2_with fail
    go_loopw [3] (fun vi wr => ∃ k : Nat, k ≤ n ∧ vi = .int .i64 k ∧ Hid (vld l = chk (prv l k) (l.drop k)) ∧ Hid (Gw w wr)) (fun vi _ => n - (intOf vi).toNat)
    case atStart => exact ⟨0, Nat.zero_le _, rfl, HV, Lib.hid (Gw.refl _)⟩
    case round =>
      obtain ⟨k, hk, rfl, hC, hb⟩ := hrel
      by_cases hlt : k < n
      · obtain ⟨⟨s, t, p⟩, ho⟩ : ∃ o, l[k]? = some o := ⟨_, List.getElem?_eq_getElem (by have := Hn.out; omega)⟩
        obtain ⟨b, f, rfl, c0, c1, c2⟩ := HP.out.below hb.out.b k _ ho
        have HO := Lib.hid ho
        obtain ⟨v, hv⟩ : ∃ v, oneB (s, t, p) = v := ⟨_, rfl⟩
        have H1 : Hid (∀ w, Calls Tryd.prog 53 #[opV (s, t, p)] w fun e w' => e = .returned (.bool v) ∧ Gw w w') := fun w => by rw [← hv]; exact one_any _ w
        have HVV := Lib.hid hv
        have hlz : (k : Int) < (n : Int) := by omega
        have hkk : (0 : Int) ≤ (k : Int) := by omega
        clear ho hv
        simp only at c0 c1 c2
        cases v
        · have HF : Hid (vld l = false) := by show _ = _; rw [hC.out]; exact chk_bad1 HO.out HVV.out
          have z0 := cg c0
          have z1 := cg c1
          have z2 := cg c2
          clear c0 c1 c2
          go_wp2_with fail
          refine wp_region_quiet_grown (by assumption) (by kernel_rfl) ?_
          repeat (go_big_quiet_step ((go_at_call 53; exact gq (H1.out _))))
          refine wpQuiet_nil ?_
          intro _ hw'
          obtain ⟨⟨nq, osq⟩, hw''⟩ := hw'
          subst hw''
          go_wp2_with fail
          go_ret
          exact ⟨ret_bool HF.out.symm, hb.out.trans (gw_grow _ _ _)⟩
        · by_cases hk0 : k = 0
          · subst hk0
            simp only [Nat.zero_mul, Nat.add_zero] at c0 c1 c2
            have HF : Hid (vld l = chk (prv l 1) (l.drop 1)) := by show _ = _; rw [hC.out]; exact chk_zero HO.out HVV.out
            have z0 := cg c0
            have z1 := cg c1
            have z2 := cg c2
            clear c0 c1 c2
            go_wp2_with fail
            refine wp_region_quiet_grown (by assumption) (by kernel_rfl) ?_
            repeat (go_big_quiet_step ((go_at_call 53; exact gq (H1.out _))))
            refine wpQuiet_nil ?_
            intro _ hw'
            obtain ⟨⟨nq, osq⟩, hw''⟩ := hw'
            subst hw''
            have HG2 := Lib.hid (hb.out.trans (gw_grow wr nq osq))
            clear z0 z1 z2
            generalize Go.Sort.grow (wr.drewN nq) osq = W2 at *
            go_wp2_with fail
            refine wp_region_quiet_grown (by assumption) (by kernel_rfl) ?_
            repeat (go_big_quiet_step (fail))
            refine wpQuiet_nil ?_
            intro _ hw'
            obtain ⟨⟨nq, osq⟩, hw''⟩ := hw'
            subst hw''
            have HG3 := Lib.hid (HG2.out.trans (gw_grow W2 nq osq))
            generalize Go.Sort.grow (W2.drewN nq) osq = W3 at *
            go_wp2_with fail
            go_roundw
            case rel => exact ⟨1, by omega, by go_num, HF, HG3⟩
            case measure => simp [intOf]; omega
          · obtain ⟨⟨s2, t2, p2⟩, hq⟩ : ∃ o, l[k - 1]? = some o := ⟨_, List.getElem?_eq_getElem (by have := Hn.out; omega)⟩
            obtain ⟨b', f', e', d0, d1, d2⟩ := HP.out.below hb.out.b (k - 1) _ hq
            cases e'
            have HQ := Lib.hid hq
            obtain ⟨u, hu⟩ : ∃ u, befB (s2, t2, p2) (s, t, p) = u := ⟨_, rfl⟩
            have HF : Hid (vld l = (u && !(decide (s2 = s) && clsI t2 == 2 && clsI t == 3) && chk (prv l (k + 1)) (l.drop (k + 1)))) := by
              show _ = _; rw [hC.out, chk_pos (by omega) hq HO.out HVV.out, okP_ref, hu]; rfl
            have H2 : Hid (∀ w, Calls Tryd.prog 54 #[opV (s2, t2, p2), opV (s, t, p)] w fun e w' => e = .returned (.bool u) ∧ Gw w w') := fun w => by rw [← hu]; exact before_any _ _ w
            clear hq hu
            simp only at d0 d1 d2
            have hkz : (0 : Int) < (k : Int) := by omega
            have hkz2 : 0 < k := by omega
            have hk1 : (0 : Int) ≤ (k : Int) - 1 := by omega
            have hk2 : (k : Int) - 1 < (n : Int) := by omega
            have hk3 : ((k : Int) - 1).toNat = k - 1 := by omega
            have hk5 : (1 : Int) ≤ (k : Int) := by omega
            have hk4 : IntKind.i64.wrap ((k : Int) - 1) = (k : Int) - 1 := IntWalk.i64_in _ ⟨by omega, by omega⟩
            have HC := Lib.hid (And.intro c0 (And.intro c1 (And.intro d0 d1)))
            have z0 := cg c0
            have z1 := cg c1
            have z2 := cg c2
            have v0 := cg d0
            have v1 := cg d1
            have v2 := cg d2
            clear c0 c1 c2 d0 d1 d2
            cases u
            · go_wp2_with fail
              refine wp_region_quiet_grown (by assumption) (by kernel_rfl) ?_
              repeat (go_big_quiet_step (first | (go_at_call 53; exact gq (H1.out _)) | (go_at_call 54; exact gq (H2.out _))))
              refine wpQuiet_nil ?_
              intro _ hw'
              obtain ⟨⟨nq, osq⟩, hw''⟩ := hw'
              subst hw''
              go_wp2_with fail
              go_ret
              exact ⟨ret_bool (by rw [HF.out]; rfl), hb.out.trans (gw_grow _ _ _)⟩
            · go_wp2_with fail
              refine wp_region_quiet_grown (by assumption) (by kernel_rfl) ?_
              repeat (go_big_quiet_step (first | (go_at_call 53; exact gq (H1.out _)) | (go_at_call 54; exact gq (H2.out _))))
              refine wpQuiet_nil ?_
              intro _ hw'
              obtain ⟨⟨nq, osq⟩, hw''⟩ := hw'
              subst hw''
              have HG2 := Lib.hid (hb.out.trans (gw_grow wr nq osq))
              obtain ⟨c0, c1, d0, d1⟩ := HC.out
              have c0 := cg c0 nq osq
              have c1 := cg c1 nq osq
              have d0 := cg d0 nq osq
              have d1 := cg d1 nq osq
              clear z0 z1 z2 v0 v1 v2 HC
              generalize Go.Sort.grow (wr.drewN nq) osq = W2 at *
              have z0 := cg c0
              have z1 := cg c1
              have v0 := cg d0
              have v1 := cg d1
              clear c0 c1 d0 d1
              obtain ⟨ca, hca⟩ : ∃ c, clsI t2 = c := ⟨_, rfl⟩
              obtain ⟨cb, hcb⟩ : ∃ c, clsI t = c := ⟨_, rfl⟩
              have H3 : Hid (∀ w, Calls Tryd.prog 32 #[.int .i64 t2] w fun e w' => e = .returned (.int .i64 ca) ∧ w' = w) := fun w => by rw [← hca]; exact class_any t2 w
              have H4 : Hid (∀ w, Calls Tryd.prog 32 #[.int .i64 t] w fun e w' => e = .returned (.int .i64 cb) ∧ w' = w) := fun w => by rw [← hcb]; exact class_any t w
              rw [hca, hcb] at HF
              have he := toList_eq s2 s
              clear hca hcb
              rcases Bool.eq_false_or_eq_true (s2.toList == s.toList) with g1 | g1
              · rcases Bool.eq_false_or_eq_true (ca == 2) with g2 | g2
                · rcases Bool.eq_false_or_eq_true (cb == 3) with g3 | g3
                  · have HF2 : Hid (vld l = false) := by show _ = _; rw [HF.out, ← he, g1, g2, g3]; rfl
                    clear he
                    go_wp2_with fail
                    refine wp_region_quiet_grown (by assumption) (by kernel_rfl) ?_
                    repeat (go_big_quiet_step (first | (go_at_call 32; ((with_reducible refine gq_same (H3.out _)))) | (go_at_call 32; ((with_reducible refine gq_same (H4.out _))))))
                    refine wpQuiet_nil ?_
                    intro _ hw'
                    obtain ⟨⟨nq, osq⟩, hw''⟩ := hw'
                    subst hw''
                    go_wp2_with fail
                    go_ret
                    exact ⟨ret_bool HF2.out.symm, HG2.out.trans (gw_grow _ _ _)⟩
                  · have HF2 : Hid (vld l = chk (prv l (k + 1)) (l.drop (k + 1))) := by show _ = _; rw [HF.out, ← he, g1, g2, g3]; rfl
                    clear he
                    go_wp2_with fail
                    refine wp_region_quiet_grown (by assumption) (by kernel_rfl) ?_
                    repeat (go_big_quiet_step (first | (go_at_call 32; ((with_reducible refine gq_same (H3.out _)))) | (go_at_call 32; ((with_reducible refine gq_same (H4.out _))))))
                    refine wpQuiet_nil ?_
                    intro _ hw'
                    obtain ⟨⟨nq, osq⟩, hw''⟩ := hw'
                    subst hw''
                    go_wp2_with fail
                    go_roundw
                    case rel => exact ⟨k + 1, by omega, by go_num, HF2, Lib.hid (HG2.out.trans (gw_grow _ _ _))⟩
                    case measure => simp [intOf]; omega
                · have HF2 : Hid (vld l = chk (prv l (k + 1)) (l.drop (k + 1))) := by show _ = _; rw [HF.out, ← he, g1, g2]; rfl
                  clear he
                  go_wp2_with fail
                  refine wp_region_quiet_grown (by assumption) (by kernel_rfl) ?_
                  repeat (go_big_quiet_step (first | (go_at_call 32; ((with_reducible refine gq_same (H3.out _)))) | (go_at_call 32; ((with_reducible refine gq_same (H4.out _))))))
                  refine wpQuiet_nil ?_
                  intro _ hw'
                  obtain ⟨⟨nq, osq⟩, hw''⟩ := hw'
                  subst hw''
                  go_wp2_with fail
                  go_roundw
                  case rel => exact ⟨k + 1, by omega, by go_num, HF2, Lib.hid (HG2.out.trans (gw_grow _ _ _))⟩
                  case measure => simp [intOf]; omega
              · have HF2 : Hid (vld l = chk (prv l (k + 1)) (l.drop (k + 1))) := by show _ = _; rw [HF.out, ← he, g1]; rfl
                clear he
                go_wp2_with fail
                refine wp_region_quiet_grown (by assumption) (by kernel_rfl) ?_
                repeat (go_big_quiet_step (first | (go_at_call 32; ((with_reducible refine gq_same (H3.out _)))) | (go_at_call 32; ((with_reducible refine gq_same (H4.out _))))))
                refine wpQuiet_nil ?_
                intro _ hw'
                obtain ⟨⟨nq, osq⟩, hw''⟩ := hw'
                subst hw''
                go_wp2_with fail
                go_roundw
                case rel => exact ⟨k + 1, by omega, by go_num, HF2, Lib.hid (HG2.out.trans (gw_grow _ _ _))⟩
                case measure => simp [intOf]; omega
      · obtain rfl : k = n := by omega
        have HF : Hid (vld l = true) := by show _ = _; rw [hC.out]; have := Hn.out; subst this; exact chk_end l _
        go_wp2_with fail
        go_ret
        exact ⟨ret_bool HF.out.symm, hb.out⟩
  · have HF : Hid (vld l = false) := by show _ = _; have := Hn.out; unfold vld; rw [decide_eq_false (by omega)]; rfl
    have h2 : (100 : Int) < (n : Int) := by omega
    go_enter Tryd.func26, Tryd.ntmps26
    go_wp2_with fail
    go_ret
    exact ⟨ret_bool HF.out.symm, Gw.refl _⟩
end Go.Proofs.YtkjkhhifkedflaaDoor
