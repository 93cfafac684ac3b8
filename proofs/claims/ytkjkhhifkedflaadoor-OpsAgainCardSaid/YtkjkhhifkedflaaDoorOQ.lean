/- The contracts of ops.isPermitted and ops.Set. -/
import Derived.Test.YtkjkhhifkedflaaDoorOP
import Derived.Laws.MakeOwn
set_option linter.unusedVariables false
set_option linter.unusedSimpArgs false
namespace Go.Proofs.YtkjkhhifkedflaaDoor
open Go.RowKit Go.Proofs.HP Go.BigFrame

theorem lb_rem' : ∀ (l : List Opd) (n : ByteArray) (c : Int), Asc l → lb (rem n c l) n c = lb l n c
  | [], n, c, _ => rfl
  | x :: r, n, c, h => by
    have h2 := List.pairwise_cons.1 h
    by_cases hb : bfr n c x = true
    · have hk : isK n c x = false := by
        rw [Bool.eq_false_iff]; intro hk
        rw [isK_kc] at hk
        simp only [bfr, decide_eq_true_eq] at hb
        omega
      have hr : rem n c (x :: r) = x :: rem n c r := by simp [rem, hk]
      have ih := lb_rem' r n c h2.2
      rw [hr]
      simp only [lb, List.takeWhile_cons, hb, if_true, List.length_cons] at ih ⊢
      rw [ih]
    · have hlb : lb (x :: r) n c = 0 := by simp [lb, hb]
      rw [hlb]
      have hge : 0 ≤ kc x.1 (oc x) n c := by simp only [bfr, decide_eq_true_eq] at hb; omega
      have hall : ∀ y ∈ rem n c (x :: r), bfr n c y = false := fun y hy => by
        rcases List.mem_cons.1 (mem_rem.1 hy).1 with rfl | hy2
        · simpa using hb
        · have := h2.1 y hy2
          simp only [bfr, decide_eq_false_iff_not]
          intro h3
          have := kc_lt_trans this h3
          omega
      unfold lb
      cases hq : rem n c (x :: r) with
      | nil => rfl
      | cons y s => rw [List.takeWhile_cons_of_neg (by rw [hall y (by rw [hq]; exact List.mem_cons_self ..)]; decide)]; rfl
theorem rem_yes {l : List Opd} {n : ByteArray} {c : Int} (h : Vd l) (hf : fnd l n c = true) : rem n c l = del l (lb l n c) ∧ lb l n c < l.length := by
  obtain ⟨o, h1, _, h3⟩ := (asc_look l n c h.asc).1 hf
  exact ⟨h3, (List.getElem?_eq_some_iff.1 h1).1⟩
theorem rem_no {l : List Opd} {n : ByteArray} {c : Int} (h : Vd l) (hf : fnd l n c = false) : rem n c l = l := ((asc_look l n c h.asc).2 hf).2
theorem setT_pos {l : List Opd} {p t : Int} {n : ByteArray} (h : Vd l) (hp : 0 < p) : setT l p t n = ins (rem n (clsI t) l) (lb l n (clsI t)) (n, t, p) := by
  rw [setT, if_pos hp, wit_ins (rem n (clsI t) l) (n, t, p) (fun x hx => (mem_rem.1 hx).2)]
  show ins _ (lb (rem n (clsI t) l) n (clsI t)) _ = _
  rw [lb_rem' l n (clsI t) h.asc]
theorem fnd_isSome {l : List Opd} {n : ByteArray} {c : Int} (h : Vd l) : fnd l n c = (l.find? (isK n c)).isSome := by
  rcases Bool.eq_false_or_eq_true (fnd l n c) with hf | hf
  · obtain ⟨o, _, h2, _⟩ := (asc_look l n c h.asc).1 hf
    rw [hf, h2]; rfl
  · rw [hf, ((asc_look l n c h.asc).2 hf).1]; rfl

theorem gq_same {f : FuncId} {args : Array Value} {w : World} {n : Nat} {os : Array Obj} {v : Value}
    (h : Calls Tryd.prog f args (Go.Sort.grow (w.drewN n) os) fun e w' => e = .returned v ∧ w' = Go.Sort.grow (w.drewN n) os) : Calls Tryd.prog f args (Go.Sort.grow (w.drewN n) os) fun e w'' => e = .returned v ∧ ∃ p : GrownBy, w'' = Go.Sort.grow (w.drewN p.n) p.os :=
  gq (h.mono fun _ _ ⟨he, hw⟩ => ⟨he, hw ▸ Gw.refl _⟩)
set_option maxHeartbeats 8000000 in
theorem isPermitted_any (A : Option Addr) (n cap : Nat) (l : List Opd) (s : ByteArray) (t p : Int) (w : World) (hn : l.length = n) (hm : n ≤ 4611686018427387903) (hP : PRO w A l) (hV : Vd l) (ht : isT t = true) (hL : KLaid w) :
    Calls Tryd.prog 44 #[.slice A n cap, opV (s, t, p)] w (BEnd (perm l p t s) w) := by
  have mixed : Tryd.prog.follows .mixedOrders = true := by kernel_rfl
  have HG := Lib.hid ((Gw.refl w).alloc (.cells #[.string s, .int .i64 t, .int .i64 p] 26))
  have HP := Lib.hid (hP.below HG.out.b)
  have HL := Lib.hid (hL.below HG.out.b)
  have Hn := Lib.hid hn
  have HV := Lib.hid hV
  obtain ⟨c, hc⟩ : ∃ c, clsI t = c := ⟨_, rfl⟩
  have HT : Hid (∀ w, KLaid w → Calls Tryd.prog 64 #[.int .i64 t] w fun e w' => e = .returned (.int .i64 c) ∧ w' = w) := fun w h => by rw [← hc]; exact classOf_any t ht w h
  obtain ⟨r, hr⟩ : ∃ r, riv c = r := ⟨_, rfl⟩
  have HRV : Hid (∀ w, Calls Tryd.prog 65 #[.int .i64 c] w fun e w' => e = .returned (.int .i64 r) ∧ w' = w) := fun w => by rw [← hr]; exact rival_any c w
  obtain ⟨fb, hfb⟩ : ∃ b, fnd l s r = b := ⟨_, rfl⟩
  obtain ⟨fi, hfi⟩ : ∃ b, lb l s r = b := ⟨_, rfl⟩
  have HF : Hid (∀ w, PRO w A l → KLaid w → Calls Tryd.prog 45 #[.slice A n cap, plV s r] w (FndEnd fi fb w)) := fun w h1 h2 => by rw [← hfb, ← hfi]; exact find_any A n cap l s r w hn hm h1 hV h2
  have HB : Hid (perm l p t s = (!(decide (s = nm [44]) || decide (s = nm [91, 93]) || decide (s = nm [123, 125])) && (if s = nm [124] then c == 2 && (p == 0 || decide (1001 ≤ p)) else (p == 0 || !fb)))) := by
    show _ = _
    rw [← hfb, fnd_isSome hV, ← hr, ← hc]; rfl
  clear hP hL hn hV hc hr hfb hfi ht
  rcases n5 s with ⟨h, h1, h2, h3, h4⟩ | ⟨h, h1, h2, h3, h4⟩ | ⟨h, h1, h2, h3, h4⟩ | ⟨h, h1, h2, h3, h4⟩ | ⟨k1, k2, k3, k4, h1, h2, h3, h4⟩
  · have HE : Hid (perm l p t s = false) := by show _ = _; rw [HB.out, h]; simp
    clear h
    go_enter Tryd.func44, Tryd.ntmps44
    go_wp2_with (go_at_call 64; ((with_reducible refine (HT.out _ HL.out).mono ?_); rintro e w1 ⟨rfl, rfl⟩))
    go_ret
    exact ⟨ret_bool HE.out.symm, HG.out⟩
  · have HE : Hid (perm l p t s = false) := by show _ = _; rw [HB.out, h]; simp
    clear h
    go_enter Tryd.func44, Tryd.ntmps44
    go_wp2_with (go_at_call 64; ((with_reducible refine (HT.out _ HL.out).mono ?_); rintro e w1 ⟨rfl, rfl⟩))
    go_ret
    exact ⟨ret_bool HE.out.symm, HG.out⟩
  · have HE : Hid (perm l p t s = false) := by show _ = _; rw [HB.out, h]; simp
    clear h
    go_enter Tryd.func44, Tryd.ntmps44
    go_wp2_with (go_at_call 64; ((with_reducible refine (HT.out _ HL.out).mono ?_); rintro e w1 ⟨rfl, rfl⟩))
    go_ret
    exact ⟨ret_bool HE.out.symm, HG.out⟩
  · have HE0 : Hid (perm l p t s = (c == 2 && (p == 0 || decide (1001 ≤ p)))) := by show _ = _; rw [HB.out, if_pos h, h]; simp only [Bool.and_eq_right_iff_imp]; intro _; decide
    clear h
    rcases Bool.eq_false_or_eq_true (c == 2) with g1 | g1
    · rcases Bool.eq_false_or_eq_true (p == 0) with g2 | g2
      · have HE : Hid (perm l p t s = true) := by show _ = _; rw [HE0.out, g1, g2]; rfl
        go_enter Tryd.func44, Tryd.ntmps44
        go_wp2_with (go_at_call 64; ((with_reducible refine (HT.out _ HL.out).mono ?_); rintro e w1 ⟨rfl, rfl⟩))
        go_ret
        exact ⟨ret_bool HE.out.symm, HG.out⟩
      · have HE : Hid (perm l p t s = decide (1001 ≤ p)) := by show _ = _; rw [HE0.out, g1, g2]; rfl
        go_enter Tryd.func44, Tryd.ntmps44
        go_wp2_with (go_at_call 64; ((with_reducible refine (HT.out _ HL.out).mono ?_); rintro e w1 ⟨rfl, rfl⟩))
        go_ret
        exact ⟨ret_bool HE.out.symm, HG.out⟩
    · have HE : Hid (perm l p t s = false) := by show _ = _; rw [HE0.out, g1]; rfl
      go_enter Tryd.func44, Tryd.ntmps44
      go_wp2_with (go_at_call 64; ((with_reducible refine (HT.out _ HL.out).mono ?_); rintro e w1 ⟨rfl, rfl⟩))
      go_ret
      exact ⟨ret_bool HE.out.symm, HG.out⟩
  · have HE0 : Hid (perm l p t s = (p == 0 || !fb)) := by show _ = _; rw [HB.out, if_neg k4]; simp [k1, k2, k3]
    clear k1 k2 k3 k4
    rcases Bool.eq_false_or_eq_true (p == 0) with g2 | g2
    all_goals
      go_enter Tryd.func44, Tryd.ntmps44
      go_wp2_with (go_at_call 64; ((with_reducible refine (HT.out _ HL.out).mono ?_); rintro e w1 ⟨rfl, rfl⟩))
      have y0 : (w.alloc (.cells #[.string s, .int .i64 t, .int .i64 p] 26)).cell? ⟨w.heap.size, 0, none⟩ = some (.string s) := by simp
      have y2 : (w.alloc (.cells #[.string s, .int .i64 t, .int .i64 p] 26)).cell? ⟨w.heap.size, 2, none⟩ = some (.int .i64 p) := by simp
      have HY2 := Lib.hid y2
      generalize w.alloc (.cells #[.string s, .int .i64 t, .int .i64 p] 26) = W0 at *
      have z0 := cg y0
      clear y0 y2
      refine wp_region_quiet_grown (by assumption) (by kernel_rfl) ?_
      repeat (go_big_quiet_step (first | (go_at_call 65; ((with_reducible refine gq_same (HRV.out _)))) | (go_at_call 45; exact gq (HF.out _ (HP.out.below (gw_grow _ _ _).b) (HL.out.below (gw_grow _ _ _).b)))))
      refine wpQuiet_nil ?_
      intro _ hw'
      obtain ⟨⟨nq, osq⟩, hw''⟩ := hw'
      subst hw''
      have z2 := cg HY2.out nq osq
      clear z0
      have HN := Lib.hid (HG.out.trans (gw_grow W0 nq osq))
      generalize Go.Sort.grow (W0.drewN nq) osq = W2 at *
      go_wp2_with fail
      go_ret
      exact ⟨ret_bool (by rw [HE0.out, g2]; cases fb <;> rfl), HN.out⟩
end Go.Proofs.YtkjkhhifkedflaaDoor
