/- The contracts of slices.BinarySearchFunc at operators and of ops.find. -/
import Derived.Test.YtkjkhhifkedflaaDoorOG
set_option linter.unusedVariables false
set_option linter.unusedSimpArgs false
namespace Go.Proofs.YtkjkhhifkedflaaDoor
open Go.RowKit Go.Proofs.HP Go.BigFrame

structure Inv (l : List Opd) (m : ByteArray) (c : Int) (i j : Nat) : Prop where
  lo : ∀ o, 0 < i → l[i - 1]? = some o → kc o.1 (oc o) m c < 0
  hi : ∀ o, l[j]? = some o → ¬ kc o.1 (oc o) m c < 0
theorem takeWhile_len {α : Type} {p : α → Bool} {l : List α} : ∀ {k : Nat}, k ≤ l.length → (∀ i o, i < k → l[i]? = some o → p o = true) → (∀ o, l[k]? = some o → p o = false) → (l.takeWhile p).length = k := by
  induction l with
  | nil => intro k hk _ _; simp at hk; simp [hk]
  | cons q r ih =>
    intro k hk h1 h2
    cases k with
    | zero =>
      have := h2 q rfl
      simp [this]
    | succ k =>
      have hq : p q = true := h1 0 q (by omega) rfl
      simp only [List.takeWhile_cons, hq, if_true, List.length_cons]
      rw [ih (by simpa using hk) (fun i o hi ho => h1 (i + 1) o (by omega) (by simpa using ho)) (fun o ho => h2 o (by simpa using ho))]
theorem asc_get {l : List Opd} (h : Asc l) {i j : Nat} {a b : Opd} (hij : i < j) (ha : l[i]? = some a) (hb : l[j]? = some b) : kc a.1 (oc a) b.1 (oc b) < 0 := by
  obtain ⟨h1, e1⟩ := List.getElem?_eq_some_iff.1 ha
  obtain ⟨h2, e2⟩ := List.getElem?_eq_some_iff.1 hb
  have := (List.pairwise_iff_getElem.1 h) i j h1 h2 hij
  rw [e1, e2] at this
  exact this
theorem lb_of {l : List Opd} {m : ByteArray} {c : Int} {n i : Nat} (hn : l.length = n) (hA : Asc l) (hi : i ≤ n) (h : Inv l m c i i) : lb l m c = i := by
  refine takeWhile_len (by omega) (fun k o hk ho => ?_) (fun o ho => ?_)
  · obtain ⟨q, hq⟩ : ∃ q, l[i - 1]? = some q := ⟨_, List.getElem?_eq_getElem (by omega)⟩
    have b := h.lo q (by omega) hq
    simp only [bfr, decide_eq_true_eq]
    by_cases e : k = i - 1
    · subst e; rw [hq] at ho; cases ho; exact b
    · exact kc_lt_trans (asc_get hA (show k < i - 1 by omega) ho hq) b
  · simp only [bfr, decide_eq_false_iff_not]
    exact h.hi o ho
theorem Inv.up {l : List Opd} {m : ByteArray} {c : Int} {i j h : Nat} {o : Opd} (hI : Inv l m c i j) (ho : l[h]? = some o) (hx : kc o.1 (oc o) m c < 0) : Inv l m c (h + 1) j :=
  ⟨fun q _ hq => by simp only [Nat.add_sub_cancel] at hq; rw [ho] at hq; cases hq; exact hx, hI.hi⟩
theorem Inv.down {l : List Opd} {m : ByteArray} {c : Int} {i j h : Nat} {o : Opd} (hI : Inv l m c i j) (ho : l[h]? = some o) (hx : ¬ kc o.1 (oc o) m c < 0) : Inv l m c i h :=
  ⟨hI.lo, fun q hq => by rw [ho] at hq; cases hq; exact hx⟩
def FndEnd (i : Nat) (b : Bool) (w : World) (e : Ending) (w' : World) : Prop := e = .returned (.tuple #[.int .i64 i, .bool b]) ∧ Gw w w'
theorem ret_ib {a c : Int} {b d : Bool} (h : a = c) (h2 : b = d) : Ending.returned (.tuple #[.int .i64 a, .bool b]) = .returned (.tuple #[.int .i64 c, .bool d]) := by rw [h, h2]

set_option maxHeartbeats 4000000 in
theorem bsf_any (A : Option Addr) (n cap : Nat) (l : List Opd) (m : ByteArray) (c : Int) (w : World) (hn : l.length = n) (hm : n ≤ 4611686018427387903) (hP : PRO w A l) (hA : Asc l) (hT : ∀ o ∈ l, isT o.2.1 = true) (hL : KLaid w) :
    Calls Tryd.prog 66 #[.slice A n cap, plV m c, .func (Fn.func 67) #[] #[]] w (FndEnd (lb l m c) (fnd l m c) w) := by
  have mixed : Tryd.prog.follows .mixedOrders = true := by kernel_rfl
  have HP := Lib.hid hP
  have Hn := Lib.hid hn
  have HA := Lib.hid hA
  have HT := Lib.hid hT
  have HL := Lib.hid hL
  have HG := Lib.hid ((Gw.refl w).alloc (.cells #[.string m, .int .i64 c] 55))
  clear hP hn hA hT hL
  go_enter Tryd.func66, Tryd.ntmps66
  go_wp2_with fail
  have m0 : (w.alloc (.cells #[.string m, .int .i64 c] 55)).cell? ⟨w.heap.size, 0, none⟩ = some (.string m) := by simp
  have m1 : (w.alloc (.cells #[.string m, .int .i64 c] 55)).cell? ⟨w.heap.size, 1, none⟩ = some (.int .i64 c) := by simp
  have HM := Lib.hid (And.intro m0 m1)
  clear m0 m1
  generalize w.alloc (.cells #[.string m, .int .i64 c] 55) = W0 at *
  go_loopw [9, 10] (fun vi vj wr => ∃ i j : Nat, i ≤ j ∧ j ≤ n ∧ vi = .int .i64 i ∧ vj = .int .i64 j ∧ Hid (Inv l m c i j) ∧ Hid (Gw W0 wr)) (fun vi vj _ => (intOf vj).toNat - (intOf vi).toNat)
  case atStart => exact ⟨0, n, by omega, by omega, rfl, rfl, Lib.hid ⟨fun _ h _ => absurd h (by omega), fun p hp => by have := (List.getElem?_eq_some_iff.1 hp).1; have := Hn.out; omega⟩, Lib.hid (Gw.refl _)⟩
  case round =>
    obtain ⟨i, j, hij, hj, rfl, rfl, hI, hb⟩ := hrel
    have HB := Lib.hid (HG.out.trans hb.out)
    have HK := Lib.hid (HL.out.below HB.out.b)
    have m0 := cell_below hb.out.b _ _ HM.out.1
    have m1 := cell_below hb.out.b _ _ HM.out.2
    by_cases hlt : i < j
    · obtain ⟨h, hh⟩ : ∃ h, (i + j) / 2 = h := ⟨_, rfl⟩
      have hhn : h < n := by omega
      have hih : i ≤ h := by omega
      have hhj : h < j := by omega
      have HH := Lib.hid hh
      obtain ⟨⟨s, t, p⟩, ho⟩ : ∃ o, l[h]? = some o := ⟨_, List.getElem?_eq_getElem (by have := Hn.out; omega)⟩
      obtain ⟨b, f, rfl, c0, c1, c2⟩ := HP.out.below HB.out.b h _ ho
      have HO := Lib.hid ho
      have ht : isT t = true := HT.out _ (List.mem_of_getElem? ho)
      obtain ⟨k, hk⟩ : ∃ k, kc s (oc (s, t, p)) m c = k := ⟨_, rfl⟩
      have H1 : Hid (∀ w, KLaid w → Calls Tryd.prog 67 #[opV (s, t, p), plV m c] w fun e w' => e = .returned (.int .i64 k) ∧ Gw w w') := fun w h => by rw [← hk]; exact find1_any (s, t, p) ht m c w h
      have HKK := Lib.hid hk
      simp only at c0 c1 c2
      have q1 : ((i : Int) + (j : Int)) / 2 = (h : Int) := by omega
      have q2 : (0 : Int) ≤ (h : Int) := by omega
      have q3 : (h : Int) < (n : Int) := by omega
      clear ho ht hk hh
      go_wp2_with fail
      have z0 := cg m0
      have z1 := cg m1
      have v0 := cg c0
      have v1 := cg c1
      have v2 := cg c2
      clear m0 m1 c0 c1 c2
      refine wp_region_quiet_grown (by assumption) (by kernel_rfl) ?_
      repeat (go_big_quiet_step ((go_at_call 67; ((with_reducible refine gq (H1.out _ ?_)); exact HK.out.below (gw_grow _ _ _).b))))
      refine wpQuiet_nil ?_
      intro _ hw'
      obtain ⟨⟨nq, osq⟩, hw''⟩ := hw'
      subst hw''
      have HN2 := Lib.hid (hb.out.trans (gw_grow wr nq osq))
      clear z0 z1 v0 v1 v2
      generalize Go.Sort.grow (wr.drewN nq) osq = W2 at *
      by_cases hx : k < 0
      · have hN : Hid (Inv l m c (h + 1) j) := hI.out.up HO.out (by rw [HKK.out]; exact hx)
        have hx' : decide (k < 0) = true := by simpa using hx
        go_wp2_with fail
        go_roundw
        case rel => exact ⟨h + 1, j, by omega, by omega, by go_num, rfl, hN, HN2⟩
        case measure => simp [intOf]; omega
      · have hN : Hid (Inv l m c i h) := hI.out.down HO.out (by rw [HKK.out]; exact hx)
        have hx' : decide (k < 0) = false := by simpa using hx
        go_wp2_with fail
        go_roundw
        case rel => exact ⟨i, h, by omega, by omega, rfl, rfl, hN, HN2⟩
        case measure => simp [intOf]; omega
    · obtain rfl : i = j := by omega
      have HLB := Lib.hid (lb_of Hn.out HA.out hj hI.out)
      have hnl : ¬ (i : Int) < (i : Int) := by omega
      by_cases hlt2 : i < n
      · obtain ⟨⟨s, t, p⟩, ho⟩ : ∃ o, l[i]? = some o := ⟨_, List.getElem?_eq_getElem (by have := Hn.out; omega)⟩
        obtain ⟨b, f, rfl, c0, c1, c2⟩ := HP.out.below HB.out.b i _ ho
        have ht : isT t = true := HT.out _ (List.mem_of_getElem? ho)
        obtain ⟨k, hk⟩ : ∃ k, kc s (oc (s, t, p)) m c = k := ⟨_, rfl⟩
        have H1 : Hid (∀ w, KLaid w → Calls Tryd.prog 67 #[opV (s, t, p), plV m c] w fun e w' => e = .returned (.int .i64 k) ∧ Gw w w') := fun w h => by rw [← hk]; exact find1_any (s, t, p) ht m c w h
        have Hf : Hid (fnd l m c = (k == 0)) := by
          show fnd l m c = _
          rw [fnd, HLB.out, ho]
          simp only
          rw [Bool.eq_iff_iff, isK_kc, beq_iff_eq, hk]
        simp only at c0 c1 c2
        have q2 : (0 : Int) ≤ (i : Int) := by omega
        have q3 : (i : Int) < (n : Int) := by omega
        have q4 : decide ((i : Int) < (n : Int)) = true := by simpa using q3
        clear ho ht hk
        go_wp2_with fail
        have z0 := cg m0
        have z1 := cg m1
        have v0 := cg c0
        have v1 := cg c1
        have v2 := cg c2
        clear m0 m1 c0 c1 c2
        refine wp_region_quiet_grown (by assumption) (by kernel_rfl) ?_
        repeat (go_big_quiet_step ((go_at_call 67; ((with_reducible refine gq (H1.out _ ?_)); exact HK.out.below (gw_grow _ _ _).b))))
        refine wpQuiet_nil ?_
        intro _ hw'
        obtain ⟨⟨nq, osq⟩, hw''⟩ := hw'
        subst hw''
        have HN2 := Lib.hid (HB.out.trans (gw_grow wr nq osq))
        clear z0 z1 v0 v1 v2
        generalize Go.Sort.grow (wr.drewN nq) osq = W2 at *
        go_wp2_with fail
        go_ret2
        exact ⟨ret_ib (by rw [HLB.out]) (by rw [Hf.out]), HN2.out⟩
      · have Hf : Hid (fnd l m c = false) := by
          show fnd l m c = _
          rw [fnd, HLB.out, List.getElem?_eq_none (by have := Hn.out; omega)]
        have q3 : ¬ (i : Int) < (n : Int) := by omega
        have q4 : decide ((i : Int) < (n : Int)) = false := by simpa using q3
        go_wp2_with fail
        refine wp_region_quiet_grown (by assumption) (by kernel_rfl) ?_
        repeat (go_big_quiet_step (fail))
        refine wpQuiet_nil ?_
        intro _ hw'
        obtain ⟨⟨nq, osq⟩, hw''⟩ := hw'
        subst hw''
        have HN2 := Lib.hid (HB.out.trans (gw_grow wr nq osq))
        generalize Go.Sort.grow (wr.drewN nq) osq = W2 at *
        go_wp2_with fail
        go_ret2
        exact ⟨ret_ib (by rw [HLB.out]) Hf.out.symm, HN2.out⟩

theorem find_any (A : Option Addr) (n cap : Nat) (l : List Opd) (m : ByteArray) (c : Int) (w : World) (hn : l.length = n) (hm : n ≤ 4611686018427387903) (hP : PRO w A l) (hV : Vd l) (hL : KLaid w) :
    Calls Tryd.prog 45 #[.slice A n cap, plV m c] w (FndEnd (lb l m c) (fnd l m c) w) := by
  have HG := Lib.hid ((Gw.refl w).alloc (.cells #[.string m, .int .i64 c] 55))
  have HB := Lib.hid (bsf_any A n cap l m c (w.alloc (.cells #[.string m, .int .i64 c] 55)) hn hm (hP.below HG.out.b) hV.asc (fun o ho => one_cls (hV.one o ho)) (hL.below HG.out.b))
  clear hP hn hV hL
  go_enter Tryd.func45, Tryd.ntmps45
  go_wp2_with (go_at_call 66; ((with_reducible refine (HB.out).mono ?_); rintro e w1 ⟨rfl, g1⟩))
  go_ret2
  exact ⟨rfl, HG.out.trans g1⟩

end Go.Proofs.YtkjkhhifkedflaaDoor
