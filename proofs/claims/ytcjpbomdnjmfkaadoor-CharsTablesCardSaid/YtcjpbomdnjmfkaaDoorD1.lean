/- The contracts of the specification's Valid and Convert on tables. They return what the program's functions return. -/
import Derived.Test.YtcjpbomdnjmfkaaDoorB3
import Derived.Test.YtcjpbomdnjmfkaaDoorM1
namespace Go.Proofs.YtcjpbomdnjmfkaaDoor
open Go.RowKit

theorem isr {c : Int} {b : Bool} (h : isC c = b) (w : World) : Calls Tryd.prog 34 #[.int .i64 c] w fun e w' => e = .returned (.bool b) ∧ w' = w :=
  (is_any c w).mono fun _ _ g => ⟨by rw [← h]; exact g.1, g.2.symm⟩

set_option maxHeartbeats 1000000 in
theorem refvalid_any (A : Option Addr) (n cap : Nat) (ps : List (Int × Int)) (w : World) (hn : ps.length = n) (hm : n ≤ 9223372036854775807) (hP : PR w A ps) :
    Calls Tryd.prog 24 #[.slice A n cap] w fun e w' => e = .returned (.bool (vld ps)) ∧ Below w.heap.size w w' := by
  have HP := Lib.hid hP
  have Hn := Lib.hid hn
  clear hP hn
  go_enter Tryd.func24, Tryd.ntmps24
  go_wp2
  go_loopw [3] (fun i wr => ∃ k : Nat, k ≤ n ∧ i = .int .i64 k ∧ Hid (GT ps k) ∧ Below w.heap.size w wr) (fun i _ => n - (intOf i).toNat)
  case atStart => exact ⟨0, by omega, rfl, GT.zero _, Below.refl _ _⟩
  case round =>
    obtain ⟨k, hk, rfl, hC, hb⟩ := hrel
    have hP1 := Lib.hid (HP.out.below (hb.mono (Nat.le_refl _)))
    by_cases hlt : k < n
    · obtain ⟨p, hp⟩ : ∃ p, ps[k]? = some p := ⟨_, List.getElem?_eq_getElem (by have := Hn.out; omega)⟩
      obtain ⟨b, o, rfl, hc1, hc2⟩ := hP1.out k p hp
      have Hp := Lib.hid hp
      clear hp
      obtain ⟨pa, pb⟩ := p
      simp only at hc1 hc2
      rcases Bool.eq_false_or_eq_true (isC pa) with g1 | g1
      · have I1 := isr g1
        rcases Bool.eq_false_or_eq_true (isC pb) with g2 | g2
        · have I2 := isr g2
          rcases Bool.eq_false_or_eq_true (pa == pb) with g3 | g3
          · have HB := Lib.hid (vld_bad Hp.out (badP3 (p := (pa, pb)) g3))
            have g4 : pa = pb := by simpa using g3
            clear g1 g2
            go_wp2_with fail
            go_quiet (first | (go_at_call_of 34 (Value.int .i64 pa); exact Calls.quiet_of_same (I1 _)) | (go_at_call_of 34 (Value.int .i64 pb); exact Calls.quiet_of_same (I2 _)))
            go_wp2
            go_ret
            exact ⟨ret_bool HB.out.symm, below_drewN hb _⟩
          · have g4 : ¬ pa = pb := by simpa using g3
            have Hg := Lib.hid (goodP_of (p := (pa, pb)) g1 g2 g3)
            by_cases h0 : 0 < k
            · obtain ⟨q, hq⟩ : ∃ q, ps[k - 1]? = some q := ⟨_, List.getElem?_eq_getElem (by have := Hn.out; omega)⟩
              obtain ⟨b', o', e', hd1, hd2⟩ := hP1.out (k - 1) q hq
              cases e'
              have ho : GT ps k → (q.1 < pa) → GT ps (k + 1) := fun hG hq2 => hG.next Hp.out Hg.out (fun q' _ hq' => by rw [hq] at hq'; cases hq'; exact hq2)
              have HO := Lib.hid ho
              have HX := Lib.hid (fun h => vld_ord h0 hq Hp.out h)
              clear ho hq g1 g2
              have e1 : ((k : Int) - 1).toNat = k - 1 := by omega
              have e2 : (0 : Int) ≤ (k : Int) - 1 := by omega
              by_cases hlt2 : q.1 < pa
              · go_wp2_with fail
                go_quiet (first | (go_at_call_of 34 (Value.int .i64 pa); exact Calls.quiet_of_same (I1 _)) | (go_at_call_of 34 (Value.int .i64 pb); exact Calls.quiet_of_same (I2 _)))
                go_wp2
                go_roundw
                case rel => exact ⟨k + 1, by omega, by go_num, HO.out hC.out hlt2, below_drewN hb _⟩
                case measure => simp [intOf]; omega
              · go_wp2_with fail
                go_quiet (first | (go_at_call_of 34 (Value.int .i64 pa); exact Calls.quiet_of_same (I1 _)) | (go_at_call_of 34 (Value.int .i64 pb); exact Calls.quiet_of_same (I2 _)))
                go_wp2
                go_ret
                exact ⟨ret_bool (HX.out (by omega)).symm, below_drewN hb _⟩
            · have hk0 : decide ((0 : Int) < (k : Int)) = false := decide_eq_false (by omega)
              have hk1 : ¬ (0 : Int) < (k : Int) := by omega
              clear g1 g2
              go_wp2_with fail
              go_quiet (first | (go_at_call_of 34 (Value.int .i64 pa); exact Calls.quiet_of_same (I1 _)) | (go_at_call_of 34 (Value.int .i64 pb); exact Calls.quiet_of_same (I2 _)))
              go_wp2
              go_roundw
              case rel => exact ⟨k + 1, by omega, by go_num, hC.out.next Hp.out Hg.out (fun _ h _ => absurd h (by omega)), below_drewN hb _⟩
              case measure => simp [intOf]; omega
        · have I2 := isr g2
          have HB := Lib.hid (vld_bad Hp.out (badP2 (p := (pa, pb)) g2))
          clear g1 g2
          go_wp2_with fail
          go_quiet (first | (go_at_call_of 34 (Value.int .i64 pa); exact Calls.quiet_of_same (I1 _)) | (go_at_call_of 34 (Value.int .i64 pb); exact Calls.quiet_of_same (I2 _)))
          go_wp2
          go_ret
          exact ⟨ret_bool HB.out.symm, below_drewN hb _⟩
      · have I1 := isr g1
        have HB := Lib.hid (vld_bad Hp.out (badP1 (p := (pa, pb)) g1))
        clear g1
        go_wp2_with fail
        go_quiet (first | (go_at_call_of 34 (Value.int .i64 pa); exact Calls.quiet_of_same (I1 _)))
        go_wp2
        go_ret
        exact ⟨ret_bool HB.out.symm, below_drewN hb _⟩
    · obtain rfl : k = n := by omega
      go_wp2
      go_ret
      exact ⟨ret_bool (vld_true (by rw [Hn.out]; exact hC.out)).symm, hb⟩

theorem look_at {ps : List (Int × Int)} (h : VT ps) {k : Nat} {p : Int × Int} {c : Int} (hp : ps[k]? = some p) (e : p.1 = c) : look ps c = p.2 := by
  subst e; exact ((mem_iff_look h).1 (List.mem_of_getElem? hp)).1
theorem look_none {ps : List (Int × Int)} (h : VT ps) {c : Int} (hn : ∀ i p, i < ps.length → ps[i]? = some p → ¬ p.1 = c) : look ps c = c := by
  by_cases e : look ps c = c
  · exact e
  · obtain ⟨i, hi, hp⟩ := List.getElem_of_mem ((mem_iff_look h).2 ⟨rfl, e⟩)
    exact absurd rfl (hn i _ hi (by rw [List.getElem?_eq_getElem hi, hp]))

set_option maxHeartbeats 1000000 in
theorem refconvert_any (A : Option Addr) (n cap : Nat) (ps : List (Int × Int)) (c : Int) (w : World) (hn : ps.length = n) (hm : n ≤ 9223372036854775807) (hP : PR w A ps) :
    Calls Tryd.prog 25 #[.slice A n cap, .int .i64 c] w fun e w' => e = .returned (.int .i64 (conv ps c)) ∧ Below w.heap.size w w' := by
  have HP := Lib.hid hP
  have Hn := Lib.hid hn
  clear hP hn
  go_enter Tryd.func25, Tryd.ntmps25
  go_wp2_with fail
  refine (refvalid_any A n cap ps _ Hn.out hm HP.out).mono ?_
  rintro e w1 ⟨rfl, hb1⟩
  rcases Bool.eq_false_or_eq_true (vld ps) with hv | hv
  · go_wp2_with fail
    refine (is_any _ _).mono ?_
    rintro e w2 ⟨rfl, rfl⟩
    rcases Bool.eq_false_or_eq_true (isC c) with hc | hc
    · have HC := Lib.hid (conv_ok hv hc)
      have HV := Lib.hid (vld_iff.1 hv)
      go_wp2_with fail
      clear hv hc
      go_loopw [5] (fun i wr => ∃ k : Nat, k ≤ n ∧ i = .int .i64 k ∧ Hid (∀ i p, i < k → ps[i]? = some p → ¬ p.1 = c) ∧ Below w.heap.size w wr) (fun i _ => n - (intOf i).toNat)
      case atStart => exact ⟨0, by omega, rfl, fun i p h => absurd h (by omega), hb1⟩
      case round =>
        obtain ⟨k, hk, rfl, hC, hb⟩ := hrel
        by_cases hlt : k < n
        · obtain ⟨p, hp⟩ : ∃ p, ps[k]? = some p := ⟨_, List.getElem?_eq_getElem (by have := Hn.out; omega)⟩
          obtain ⟨b, o, rfl, hc1, hc2⟩ := (HP.out.below hb) k p hp
          have Hp := Lib.hid hp
          clear hp
          by_cases he : p.1 = c
          · have HL := Lib.hid (look_at HV.out Hp.out he)
            go_wp2_with fail
            go_ret
            exact ⟨ret_int (HL.out.symm.trans HC.out.symm), hb⟩
          · go_wp2_with fail
            go_roundw
            case rel => exact ⟨k + 1, by omega, by go_num, fun i q hi hq => (by
              by_cases e : i = k
              · subst e; rw [Hp.out] at hq; cases hq; exact he
              · exact hC.out i q (by omega) hq), hb⟩
            case measure => simp [intOf]; omega
        · obtain rfl : k = n := by omega
          have HL : Hid (look ps c = c) := look_none HV.out (fun i p hi => hC.out i p (by have := Hn.out; omega))
          go_wp2_with fail
          go_ret
          exact ⟨ret_int (HL.out.symm.trans HC.out.symm), hb⟩
    · have HC := Lib.hid (conv_no (ps := ps) hc)
      go_wp2_with fail
      go_ret
      exact ⟨ret_int HC.out.symm, hb1⟩
  · have HC := Lib.hid (conv_bad (c := c) hv)
    go_wp2_with fail
    go_ret
    exact ⟨ret_int HC.out.symm, hb1⟩

end Go.Proofs.YtcjpbomdnjmfkaaDoor
