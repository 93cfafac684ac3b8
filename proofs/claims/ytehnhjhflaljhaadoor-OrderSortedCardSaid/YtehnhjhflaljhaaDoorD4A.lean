/- The law OrderRanked. -/
import Derived.Test.YtehnhjhflaljhaaDoorKI
import Derived.Test.YtehnhjhflaljhaaDoorL9
namespace Go.Proofs.YtehnhjhflaljhaaDoor
open Go.RowKit Go.Proofs.HT

theorem bs_cnt (l : List PV) (t : Tm) (r : Nat) (o : Bool) (h : BsIs l t r o) (hi : Inc l) (hv : ∀ p ∈ l, validB p.1 = true) (ht : validB t = true) : o = (cntS l t == 1) := by
  obtain ⟨h1, h2, h3, h4⟩ := h
  rcases inc_cnt l hi hv t ht with ⟨hc, p, hp, hz⟩ | ⟨hc, hz⟩
  · rw [hc, h4]
    obtain ⟨k, hk, rfl⟩ := List.mem_iff_getElem.1 hp
    have hkr : r ≤ k := by
      by_cases e : k < r
      · have := h2 k e; rw [getD_at l k hk] at this; omega
      · omega
    have hr : r < l.length := by omega
    have e : k = r := by
      by_cases e : r < k
      · have h5 := h3 r (Nat.le_refl _) hr
        rw [getD_at l r hr] at h5
        have h6 := List.pairwise_iff_getElem.1 hi r k hr hk e
        have h7 := cT_lt' h6 (by omega : cT l[k].1 t ≤ 0)
        omega
      · omega
    subst e
    rw [getD_at l k hk]
    simp [hk, hz]
  · rw [hc, h4]
    have : ¬ (r < l.length ∧ cT (l.getD r dflt).1 t = 0) := fun h => by
      have := hz l[r] (List.getElem_mem h.1)
      rw [getD_at l r h.1] at h
      exact this h.2
    rw [decide_eq_false this]; rfl
theorem RkE.no {l : List PV} {t : Tm} {w : World} {e : Ending} {w' : World} (h : RkE l t w e w') (hq : ((validB t && (l.all fun p => validB p.1)) && incB l) = false) : e = .returned (.tuple #[.int .i64 0, .bool false]) ∧ Below w.heap.size w w' := by
  obtain ⟨r, o, rfl, h1, h2⟩ := h
  obtain ⟨rfl, rfl⟩ := h1.2 hq
  exact ⟨rfl, h2⟩
theorem RowV.slice {w : World} {v : Value} {l : List PV} (h : RowV w v l) : ∃ a c, v = .slice a l.length c := by
  rcases h with ⟨rfl, rfl⟩ | ⟨_, _, _, c, h, _⟩
  · exact ⟨_, _, rfl⟩
  · exact ⟨_, _, h⟩

set_option maxRecDepth 4000 in
set_option maxHeartbeats 8000000 in
theorem ranked_walk (ts : List Tm) (t : Tm) (x v : Value) (w : World) (h : LiesA w ts x) (ht : LiesT w t v) (hp : Places w) : Calls Tryd.prog 10 #[x, tv t v] w fun e w' => e = .returned (.bool true) ∧ Below w.heap.size w w' := by
  obtain ⟨va, vc, rfl⟩ : ∃ a c, v = .slice a t.args.length c := ht.slice
  obtain ⟨l0, hl0, _, hfw⟩ := few_A ts x (w.alloc (.cells #[.int .i64 t.kind, .int .i64 t.num, .string t.name, .slice va t.args.length vc] 24)) (h.below ((Below.refl _ _).alloc (Nat.le_refl _) _))
  have B0 : Hid (Below w.heap.size w (w.alloc (.cells #[.int .i64 t.kind, .int .i64 t.num, .string t.name, .slice va t.args.length vc] 24))) := (Below.refl _ _).alloc (Nat.le_refl _) _
  have X0 : Hid (BoxIn (w.alloc (.cells #[.int .i64 t.kind, .int .i64 t.num, .string t.name, .slice va t.args.length vc] 24)) w.heap.size t va vc) := Lib.hid ⟨by rw [cell_of_row _ _ _ _ _ _ (heap_alloc_new _ _)]; rfl, by rw [cell_of_row _ _ _ _ _ _ (heap_alloc_new _ _)]; rfl, by rw [cell_of_row _ _ _ _ _ _ (heap_alloc_new _ _)]; rfl, by rw [cell_of_row _ _ _ _ _ _ (heap_alloc_new _ _)]; rfl⟩
  have Z0 : Hid (w.heap.size < (w.alloc (.cells #[.int .i64 t.kind, .int .i64 t.num, .string t.name, .slice va t.args.length vc] 24)).heap.size) := Lib.hid (by simp)
  obtain ⟨l, hl⟩ : ∃ l, l0.take 40 = l := ⟨_, rfl⟩
  rw [hl] at hfw
  have hlen : l.length ≤ 40 := by rw [← hl, List.length_take]; omega
  have HL : Hid (∀ p ∈ l, LiesT (w.alloc (.cells #[.int .i64 t.kind, .int .i64 t.num, .string t.name, .slice va t.args.length vc] 24)) p.1 p.2) := fun p hp => hl0 p (by rw [← hl] at hp; exact List.mem_of_mem_take hp)
  have HF := Lib.hid hfw
  have HT := Lib.hid ht
  have HP := Lib.hid hp
  have HLE := Lib.hid hlen
  clear hl0 hfw h ht hp hl hlen
  simp only [tv]
  go_enter Tryd.func10, Tryd.ntmps10
  go_wp2_with fail
  refine HF.out.mono ?_
  rintro e w1 ⟨v0, rfl, ho1, hb1⟩
  have X1 := Lib.hid (X0.out.below hb1)
  have HL1 : Hid (∀ p ∈ l, LiesT w1 p.1 p.2) := fun p hp => (HL.out p hp).below hb1
  have R1 := Lib.hid ho1.row
  have B1 := Lib.hid (B0.out.trans (hb1.mono B0.out.size))
  have Z1 : Hid (w.heap.size < w1.heap.size) := Lib.hid (by have := hb1.size; have := Z0.out; omega)
  obtain ⟨x0, x1, x2, x3⟩ := X1.out
  clear hb1 ho1 X0 HL
  obtain ⟨a0, c0, rfl⟩ := R1.out.slice
  cases hv : (l.all fun p => validB p.1)
  · have C1 : Hid (Calls Tryd.prog 23 #[.slice a0 l.length c0] w1 fun e w' => e = .returned (.bool false) ∧ Below w1.heap.size w1 w') := by
      have h := lvalidq_v _ l w1 R1.out (by have := HLE.out; omega) HL1.out
      rw [hv] at h; exact h
    have HNO : Hid (((validB t && (l.all fun p => validB p.1)) && incB l) = false) := Lib.hid (by rw [hv]; simp)
    clear hv
    go_wp2_with fail
    refine C1.out.mono ?_
    rintro e w2 ⟨rfl, hb2⟩
    have B2 := Lib.hid (B1.out.trans (hb2.mono B1.out.size))
    have X2 := Lib.hid (X1.out.below hb2)
    have HB2 := Lib.hid hb2
    clear hb2 x0 x1 x2 x3
    obtain ⟨x0, x1, x2, x3⟩ := X2.out
    have C2 := Lib.hid (Rank_v _ l t _ w2 (R1.out.below HB2.out) (by have := HLE.out; omega) (fun p hp => (HL1.out p hp).below HB2.out) (HP.out.below B2.out) (HT.out.below B2.out))
    go_wp2_with fail
    refine ((C2.out.mono fun _ _ h => h.no HNO.out)).mono ?_
    rintro e w3 ⟨rfl, hb3⟩
    have B3 := Lib.hid (B2.out.trans (hb3.mono B2.out.size))
    have X3 := Lib.hid (X2.out.below hb3)
    clear hb3 x0 x1 x2 x3
    obtain ⟨x0, x1, x2, x3⟩ := X3.out
    have CA := Lib.hid (awake_any _ (HP.out.below B3.out))
    go_wp2_with fail
    refine CA.out.mono ?_
    rintro e w7 ⟨rfl, hb7⟩
    go_wp2_with fail
    go_ret
    exact ⟨rfl, B3.out.trans (hb7.mono B3.out.size)⟩
  · have C1 : Hid (Calls Tryd.prog 23 #[.slice a0 l.length c0] w1 fun e w' => e = .returned (.bool true) ∧ Below w1.heap.size w1 w') := by
      have h := lvalidq_v _ l w1 R1.out (by have := HLE.out; omega) HL1.out
      rw [hv] at h; exact h
    have HV := Lib.hid hv
    clear hv
    go_wp2_with fail
    refine C1.out.mono ?_
    rintro e w2 ⟨rfl, hb2⟩
    have B2 := Lib.hid (B1.out.trans (hb2.mono B1.out.size))
    have X2 := Lib.hid (X1.out.below hb2)
    have HB2 := Lib.hid hb2
    clear hb2 x0 x1 x2 x3
    obtain ⟨x0, x1, x2, x3⟩ := X2.out
    cases hvt : validB t
    · have C2 : Hid (Calls Tryd.prog 31 #[tv t (.slice va t.args.length vc)] w2 fun e w' => e = .returned (.bool false) ∧ Below w2.heap.size w2 w') := by
        have h := valid_any t _ w2 (HT.out.below B2.out)
        rw [hvt] at h; exact h
      have HNO : Hid (((validB t && (l.all fun p => validB p.1)) && incB l) = false) := Lib.hid (by rw [hvt]; simp)
      clear hvt
      go_wp2_with fail
      refine C2.out.mono ?_
      rintro e w3 ⟨rfl, hb3⟩
      have B3 := Lib.hid (B2.out.trans (hb3.mono B2.out.size))
      have X3 := Lib.hid (X2.out.below hb3)
      have HB3 := Lib.hid (HB2.out.trans (hb3.mono HB2.out.size))
      clear hb3 x0 x1 x2 x3
      obtain ⟨x0, x1, x2, x3⟩ := X3.out
      have C3 := Lib.hid (Rank_v _ l t _ w3 (R1.out.below HB3.out) (by have := HLE.out; omega) (fun p hp => (HL1.out p hp).below HB3.out) (HP.out.below B3.out) (HT.out.below B3.out))
      go_wp2_with fail
      refine (C3.out.mono fun _ _ h => h.no HNO.out).mono ?_
      rintro e w4 ⟨rfl, hb4⟩
      have B4 := Lib.hid (B3.out.trans (hb4.mono B3.out.size))
      have X4 := Lib.hid (X3.out.below hb4)
      clear hb4 x0 x1 x2 x3
      obtain ⟨x0, x1, x2, x3⟩ := X4.out
      have CA := Lib.hid (awake_any _ (HP.out.below B4.out))
      go_wp2_with fail
      refine CA.out.mono ?_
      rintro e w7 ⟨rfl, hb7⟩
      go_wp2_with fail
      go_ret
      exact ⟨rfl, B4.out.trans (hb7.mono B4.out.size)⟩
    · have C2 : Hid (Calls Tryd.prog 31 #[tv t (.slice va t.args.length vc)] w2 fun e w' => e = .returned (.bool true) ∧ Below w2.heap.size w2 w') := by
        have h := valid_any t _ w2 (HT.out.below B2.out)
        rw [hvt] at h; exact h
      have HVT := Lib.hid hvt
      clear hvt
      go_wp2_with fail
      refine C2.out.mono ?_
      rintro e w3 ⟨rfl, hb3⟩
      have B3 := Lib.hid (B2.out.trans (hb3.mono B2.out.size))
      have X3 := Lib.hid (X2.out.below hb3)
      have HB3 := Lib.hid (HB2.out.trans (hb3.mono HB2.out.size))
      clear hb3 x0 x1 x2 x3
      obtain ⟨x0, x1, x2, x3⟩ := X3.out
      have C3 := Lib.hid (Sort_40 _ l w3 (R1.out.below HB3.out) HLE.out (fun p hp => (HL1.out p hp).below HB3.out) (HP.out.below B3.out) HV.out)
      have HMS : Hid (∀ q ∈ (cptN eqP (stL (cfP false) l) l.length).map Prod.fst, validB q = true) := Lib.hid (fun q hq => by
        obtain ⟨p, hp, rfl⟩ := List.mem_map.1 hq
        exact List.all_eq_true.1 HV.out p (st_mem.1 (cptN_mem eqP _ _ (by rw [st_length]; exact Nat.le_refl _) p hp)))
      have HSL : Hid ((cptN eqP (stL (cfP false) l) l.length).length ≤ 40) := Lib.hid (by have := cptN_len eqP (stL (cfP false) l) l.length; have := HLE.out; omega)
      have HSI : Hid (Inc (cptN eqP (stL (cfP false) l) l.length)) := Lib.hid (cpt_inc _ (st_sorted (cfP_ord false) l) _ (by rw [st_length]; exact Nat.le_refl _)).1
      generalize cptN eqP (stL (cfP false) l) l.length = S at *
      go_wp2_with fail
      refine C3.out.mono ?_
      rintro e w4 ⟨g, s, rfl, hs1, hg1, hg2, hrow, hown, hb4⟩
      have B4 := Lib.hid (B3.out.trans (hb4.mono B3.out.size))
      have X4 := Lib.hid (X3.out.below hb4)
      have hsl : s.length = S.length := by have := congrArg List.length hs1; simpa using this
      have HSI2 : Hid (incB s = true) := Lib.hid (inc_congr hs1.symm ((inc_iff S).2 HSI.out))
      have HSV : Hid (∀ p ∈ s, validB p.1 = true) := Lib.hid (fun p hp => HMS.out _ (by rw [← hs1]; exact List.mem_map_of_mem hp))
      have HROW := Lib.hid hrow
      have HL4 : Hid (∀ p ∈ s, LiesT w4 p.1 p.2) := Lib.hid (fun p hp => OwnT.lies _ _ (hown p hp))
      have HG : Hid (w.heap.size < g) := Lib.hid (by have := B3.out.size; have := Z1.out; have := HB3.out.size; omega)
      have hlm : (List.map Prod.fst S).length = s.length := by rw [List.length_map, hsl]
      rw [hlm]
      have HSS : Hid (s.length ≤ 40) := Lib.hid (by rw [hsl]; exact HSL.out)
      have HOWN := Lib.hid hown
      clear hs1 hg1 hg2 hrow hown hb4 x0 x1 x2 x3 hsl hlm
      obtain ⟨x0, x1, x2, x3⟩ := X4.out
      have R4 : Hid (RowW w4 (.slice (some ⟨g, 0, none⟩) s.length s.length) s) := Lib.hid (RowW.of_at HROW.out _ (Nat.le_refl _))
      obtain ⟨m, hm⟩ : ∃ m, s.length = m := ⟨_, rfl⟩
      have HM := Lib.hid hm
      have hm40 : m ≤ 40 := by rw [← hm]; exact HSS.out
      rw [hm] at R4 ⊢
      have C4 : Hid (Calls Tryd.prog 26 #[.slice (some ⟨g, 0, none⟩) m m, tv t (.slice va t.args.length vc)] w4 (BsEnd s t w4)) := Lib.hid (by
        exact rank_yes g 0 m m s t _ w4 hm (by omega) (Nat.le_refl _) (RowAt.rowIn HROW.out) HL4.out (HP.out.below B4.out) (HT.out.below B4.out) HVT.out (List.all_eq_true.2 HSV.out) HSI2.out)
      clear hm
      go_wp2_with fail
      refine C4.out.mono ?_
      rintro e w5 ⟨r, o, rfl, hr, hb5⟩
      have B5 := Lib.hid (B4.out.trans (hb5.mono B4.out.size))
      have X5 := Lib.hid (X4.out.below hb5)
      have HR := Lib.hid hr
      have B45 := Lib.hid hb5
      clear hr
      clear hb5 x0 x1 x2 x3
      obtain ⟨x0, x1, x2, x3⟩ := X5.out
      have hrm : r ≤ m := by have := HR.out.1; have := HM.out; omega
      have HO : Hid (o = (cntS s t == 1)) := Lib.hid (bs_cnt s t r o HR.out ((inc_iff s).1 HSI2.out) HSV.out HVT.out)
      obtain ⟨k, hk⟩ : ∃ k, cntS s t = k := ⟨_, rfl⟩
      rw [hk] at HO
      have C5 : Hid (Calls Tryd.prog 32 #[.slice (some ⟨g, 0, none⟩) m m, tv t (.slice va t.args.length vc)] w5 fun e w' => e = .returned (.int .i64 k) ∧ Below w5.heap.size w5 w') := Lib.hid (by
        have h := count_w _ s t (.slice va t.args.length vc) w5 (R4.out.below B45.out) (by have := HM.out; omega) (fun p hp => (HL4.out p hp).below B45.out) (HT.out.below B5.out)
        rw [hk] at h; exact h)
      have d0 : decide ((r : Int) < 0) = false := by simp
      have d1 : decide ((m : Int) < (r : Int)) = false := by simp; omega
      have d2 : decide (m < r) = false := by simp; omega
      have HKO : Hid (((k : Int) == 1) = o) := Lib.hid (by rw [HO.out, Bool.eq_iff_iff, beq_iff_eq, beq_iff_eq]; omega)
      have ek := HKO.out
      clear hk
      go_wp2_with fail
      refine C5.out.mono ?_
      rintro e w6 ⟨rfl, hb6⟩
      have B6 := Lib.hid (B5.out.trans (hb6.mono B5.out.size))
      have B46 := Lib.hid (B45.out.trans (hb6.mono B45.out.size))
      have X6 := Lib.hid (X5.out.below hb6)
      clear hb6 x0 x1 x2 x3
      go_wp2_with fail
      clear d0 d1 d2 ek
      go_loopw [11] (fun vi wr => ∃ j : Nat, j ≤ m ∧ vi = .int .i64 j ∧ Hid (Below w4.heap.size w4 wr)) (fun vi _ => m - (intOf vi).toNat)
      case atStart => exact ⟨0, by omega, rfl, B46⟩
      case round =>
        obtain ⟨j, hj, rfl, hb⟩ := hrel
        have HRW := Lib.hid (RowAt.rowIn HROW.out)
        by_cases hlt : j < m
        · have hjn : j < m := hlt
          have hkp : j < s.length := by have := HM.out; omega
          have cp := (HRW.out.below hb.out).at j hkp
          have mp := HL4.out _ (List.getElem_mem hkp)
          have gp := getD_at s j hkp
          obtain ⟨ep, hep⟩ : ∃ q, s[j] = q := ⟨_, rfl⟩
          rw [hep] at cp mp gp
          obtain ⟨tp, vp⟩ := ep
          obtain ⟨pa, pc, ev⟩ := mp.slice
          obtain rfl : vp = .slice pa tp.args.length pc := ev
          obtain ⟨p0, p1, p2, p3⟩ := cp
          have HGp := Lib.hid gp
          have HMp := Lib.hid mp
          clear gp hep mp hkp
          simp only [Nat.zero_add] at p0 p1 p2 p3
          obtain ⟨q0, q1, q2, q3⟩ := X4.out.below hb.out
          have HVP : Hid (validB tp = true) := Lib.hid (by
            have e := HGp.out
            have hj2 : j < s.length := by have := HM.out; omega
            have h := HSV.out _ (List.getElem_mem hj2)
            rw [getD_at s j hj2] at e
            rw [e] at h; exact h)
          have HLT : Hid (cT tp t < 0 ↔ j < r) := Lib.hid (by
            have e := HGp.out
            have h2 := HR.out.2.1 j
            have h3 := HR.out.2.2.1 j
            rw [e] at h2 h3
            dsimp only at h2 h3
            constructor
            · intro h
              by_cases c : j < r
              · exact c
              · have := h3 (by omega) (by have := HM.out; omega); exact absurd h (by omega)
            · exact h2)
          obtain ⟨z, hz0⟩ : ∃ z, cT tp t = z := ⟨_, rfl⟩
          rw [hz0] at HLT
          have HCC : Hid (∀ w', Below wr.heap.size wr w' → Calls Tryd.prog 12 #[tv tp (.slice pa tp.args.length pc), tv t (.slice va t.args.length vc)] w' fun e w'' => e = .returned (.int .i64 z) ∧ Below w'.heap.size w' w'') := fun w' h => by
            have hb3 := hb.out.trans (h.mono hb.out.size)
            have hw3 := B4.out.trans (hb3.mono B4.out.size)
            have hq : cmpV tp t = z := by rw [cmpV, if_pos ⟨HVP.out, HVT.out⟩]; exact hz0
            rw [← hq]
            exact Cmp_any _ _ _ _ _ (HMp.out.below hb3) (HT.out.below hw3) (HP.out.below hw3)
          have lj0 : (0 : Int) ≤ (j : Int) := by omega
          have lj1 : (j : Int) < (m : Int) := by omega
          clear hz0
          have hS0 : Below wr.heap.size wr wr.drew := (Below.refl _ _).drew
          have HS : Hid (∀ w', Below wr.heap.size wr w' → (fun w' => Below wr.heap.size wr w' ∧ w'.cell? ⟨g, j * 4, none⟩ = some (.int .i64 tp.kind) ∧ w'.cell? ⟨g, j * 4 + 1, none⟩ = some (.int .i64 tp.num) ∧ w'.cell? ⟨g, j * 4 + 2, none⟩ = some (.string tp.name) ∧ w'.cell? ⟨g, j * 4 + 3, none⟩ = some (.slice pa tp.args.length pc) ∧ w'.cell? ⟨w.heap.size, 0, none⟩ = some (.int .i64 t.kind) ∧ w'.cell? ⟨w.heap.size, 1, none⟩ = some (.int .i64 t.num) ∧ w'.cell? ⟨w.heap.size, 2, none⟩ = some (.string t.name) ∧ w'.cell? ⟨w.heap.size, 3, none⟩ = some (.slice va t.args.length vc)) w') := fun w' h => ⟨h, cell_below h _ _ p0, cell_below h _ _ p1, cell_below h _ _ p2, cell_below h _ _ p3, cell_below h _ _ q0, cell_below h _ _ q1, cell_below h _ _ q2, cell_below h _ _ q3⟩
          by_cases hzn : z < 0
          · have hjr : j < r := HLT.out.1 hzn
            have e1 : decide (z < 0) = true := by simpa using hzn
            have e2 : decide ((j : Int) < (r : Int)) = true := by simp; omega
            have e3 : decide (j < r) = true := by simp; omega
            go_wp2_with fail
            go_region_held3 (fun w' => Below wr.heap.size wr w' ∧ w'.cell? ⟨g, j * 4, none⟩ = some (.int .i64 tp.kind) ∧ w'.cell? ⟨g, j * 4 + 1, none⟩ = some (.int .i64 tp.num) ∧ w'.cell? ⟨g, j * 4 + 2, none⟩ = some (.string tp.name) ∧ w'.cell? ⟨g, j * 4 + 3, none⟩ = some (.slice pa tp.args.length pc) ∧ w'.cell? ⟨w.heap.size, 0, none⟩ = some (.int .i64 t.kind) ∧ w'.cell? ⟨w.heap.size, 1, none⟩ = some (.int .i64 t.num) ∧ w'.cell? ⟨w.heap.size, 2, none⟩ = some (.string t.name) ∧ w'.cell? ⟨w.heap.size, 3, none⟩ = some (.slice va t.args.length vc))
              (first | exact HS.out _ h5 | exact HS.out _ hS0 | assumption | go_keep)
              (first
                | (go_at_call 12; ((with_reducible refine (HCC.out _ (by assumption : Below wr.heap.size wr _)).mono ?_); rintro e w8 ⟨rfl, hb8⟩; have h5 : Below wr.heap.size wr w8 := Below.trans (by assumption : Below wr.heap.size wr _) (hb8.mono (Below.size (by assumption : Below wr.heap.size wr _))))))
            have H5 := Lib.hid h5
            clear p0 p1 p2 p3 q0 q1 q2 q3 h5 hS0 HS
            go_wp2_with fail
            go_roundw
            case rel => exact ⟨j + 1, by omega, by go_num, Lib.hid (hb.out.trans (H5.out.mono hb.out.size))⟩
            case measure => simp [intOf]; omega
          · have hjr : ¬ j < r := fun h => hzn (HLT.out.2 h)
            have e1 : decide (z < 0) = false := by simpa using hzn
            have e2 : decide ((j : Int) < (r : Int)) = false := by simp; omega
            have e3 : decide (j < r) = false := by simp; omega
            go_wp2_with fail
            go_region_held3 (fun w' => Below wr.heap.size wr w' ∧ w'.cell? ⟨g, j * 4, none⟩ = some (.int .i64 tp.kind) ∧ w'.cell? ⟨g, j * 4 + 1, none⟩ = some (.int .i64 tp.num) ∧ w'.cell? ⟨g, j * 4 + 2, none⟩ = some (.string tp.name) ∧ w'.cell? ⟨g, j * 4 + 3, none⟩ = some (.slice pa tp.args.length pc) ∧ w'.cell? ⟨w.heap.size, 0, none⟩ = some (.int .i64 t.kind) ∧ w'.cell? ⟨w.heap.size, 1, none⟩ = some (.int .i64 t.num) ∧ w'.cell? ⟨w.heap.size, 2, none⟩ = some (.string t.name) ∧ w'.cell? ⟨w.heap.size, 3, none⟩ = some (.slice va t.args.length vc))
              (first | exact HS.out _ h5 | exact HS.out _ hS0 | assumption | go_keep)
              (first
                | (go_at_call 12; ((with_reducible refine (HCC.out _ (by assumption : Below wr.heap.size wr _)).mono ?_); rintro e w8 ⟨rfl, hb8⟩; have h5 : Below wr.heap.size wr w8 := Below.trans (by assumption : Below wr.heap.size wr _) (hb8.mono (Below.size (by assumption : Below wr.heap.size wr _))))))
            have H5 := Lib.hid h5
            clear p0 p1 p2 p3 q0 q1 q2 q3 h5 hS0 HS
            go_wp2_with fail
            go_roundw
            case rel => exact ⟨j + 1, by omega, by go_num, Lib.hid (hb.out.trans (H5.out.mono hb.out.size))⟩
            case measure => simp [intOf]; omega
        · have hx := Lib.hid (X4.out.below hb.out)
          have BW := Lib.hid (B4.out.trans (hb.out.mono B4.out.size))
          by_cases h1 : 1 < m
          · have d1 : decide ((1 : Int) < (m : Int)) = true := by simp; omega
            have hm00 : 0 < m := by omega
            have hm0 : (0 : Int) < (m : Int) := by omega
            have hm1 : (1 : Int) < (m : Int) := by omega
            have RW := Lib.hid (show RowAt wr g s [] 24 from RowAt.keep HROW.out hb.out)
            have hk0 : 0 < s.length := by have := HM.out; omega
            have hk1 : 1 < s.length := by have := HM.out; omega
            have cp := RW.out.cells 0 hk0
            have cq := RW.out.cells 1 hk1
            have mp := HL4.out _ (List.getElem_mem hk0)
            have mq := HL4.out _ (List.getElem_mem hk1)
            have hinc := (incB_iff s).1 HSI2.out 0 hk1
            rw [getD_at s 0 hk0, getD_at s 1 hk1] at hinc
            have HMP : Hid (s[0] ∈ s ∧ s[1] ∈ s) := Lib.hid ⟨List.getElem_mem hk0, List.getElem_mem hk1⟩
            obtain ⟨pp, hpe⟩ : ∃ q, s[0] = q := ⟨_, rfl⟩
            obtain ⟨qq, hqe⟩ : ∃ q, s[1] = q := ⟨_, rfl⟩
            rw [hpe] at cp mp hinc HMP
            rw [hqe] at cq mq hinc HMP
            obtain ⟨tp, vp⟩ := pp
            obtain ⟨tq, vq⟩ := qq
            obtain ⟨pa, pc, ev⟩ := mp.slice
            obtain rfl : vp = .slice pa tp.args.length pc := ev
            obtain ⟨qa, qc, ev⟩ := mq.slice
            obtain rfl : vq = .slice qa tq.args.length qc := ev
            obtain ⟨p0, p1, p2, p3⟩ := cp
            obtain ⟨q0, q1, q2, q3⟩ := cq
            simp only [Nat.zero_mul, Nat.one_mul, Nat.zero_add, Nat.reduceAdd] at p0 p1 p2 p3 q0 q1 q2 q3
            have f0 := frozen_of_row _ _ 0 _ _ RW.out
            have f1 := frozen_of_row _ _ 1 _ _ RW.out
            have f2 := frozen_of_row _ _ 2 _ _ RW.out
            have f3 := frozen_of_row _ _ 3 _ _ RW.out
            have f4 := frozen_of_row _ _ 4 _ _ RW.out
            have f5 := frozen_of_row _ _ 5 _ _ RW.out
            have f6 := frozen_of_row _ _ 6 _ _ RW.out
            have f7 := frozen_of_row _ _ 7 _ _ RW.out
            have HIN := Lib.hid hinc
            clear mp mq hpe hqe hinc
            go_wp2_with fail
            go_region_law (fail)
            all_goals
              have RW9 : RowAt (((((((((wr.setCell ⟨g, 0, none⟩ (.int .i64 tq.kind)).setCell ⟨g, 1, none⟩ (.int .i64 tq.num)).setCell ⟨g, 2, none⟩ (.string tq.name)).setCell ⟨g, 3, none⟩ (.slice qa tq.args.length qc)).setCell ⟨g, 4, none⟩ (.int .i64 tp.kind)).setCell ⟨g, 5, none⟩ (.int .i64 tp.num)).setCell ⟨g, 6, none⟩ (.string tp.name)).setCell ⟨g, 7, none⟩ (.slice pa tp.args.length pc)).drew) g ((s.set 0 (tq, .slice qa tq.args.length qc)).set 1 (tp, .slice pa tp.args.length pc)) [] 24 := RowAt.drew (RowAt.set (RowAt.set RW.out 0 hk0 (tq, .slice qa tq.args.length qc)) 1 (by rw [List.length_set]; exact hk1) (tp, .slice pa tp.args.length pc))
              have N9 : Near g wr (((((((((wr.setCell ⟨g, 0, none⟩ (.int .i64 tq.kind)).setCell ⟨g, 1, none⟩ (.int .i64 tq.num)).setCell ⟨g, 2, none⟩ (.string tq.name)).setCell ⟨g, 3, none⟩ (.slice qa tq.args.length qc)).setCell ⟨g, 4, none⟩ (.int .i64 tp.kind)).setCell ⟨g, 5, none⟩ (.int .i64 tp.num)).setCell ⟨g, 6, none⟩ (.string tp.name)).setCell ⟨g, 7, none⟩ (.slice pa tp.args.length pc)).drew) := Near.drew ((RowAt.near 0 (tq, .slice qa tq.args.length qc)).trans (RowAt.near 1 (tp, .slice pa tp.args.length pc)))
              generalize (((((((((wr.setCell ⟨g, 0, none⟩ (.int .i64 tq.kind)).setCell ⟨g, 1, none⟩ (.int .i64 tq.num)).setCell ⟨g, 2, none⟩ (.string tq.name)).setCell ⟨g, 3, none⟩ (.slice qa tq.args.length qc)).setCell ⟨g, 4, none⟩ (.int .i64 tp.kind)).setCell ⟨g, 5, none⟩ (.int .i64 tp.num)).setCell ⟨g, 6, none⟩ (.string tp.name)).setCell ⟨g, 7, none⟩ (.slice pa tp.args.length pc)).drew) = w9 at RW9 N9 ⊢
              have B9 := Lib.hid (N9.below BW.out (by have := HG.out; omega) BW.out.size)
              have X9 : Hid (BoxIn w9 w.heap.size t va vc) := by
                have hlt : w.heap.size < wr.heap.size := World.block_lt_of_cell? _ _ hx.out.1
                have hne : w.heap.size ≠ g := by have := HG.out; omega
                have e : ∀ k, w9.cell? ⟨w.heap.size, k, none⟩ = wr.cell? ⟨w.heap.size, k, none⟩ := fun k => World.cell?_of_block (N9.block w.heap.size hlt hne)
                exact Lib.hid ⟨(e 0).trans hx.out.1, (e 1).trans hx.out.2.1, (e 2).trans hx.out.2.2.1, (e 3).trans hx.out.2.2.2⟩
              have HM9 : Hid (∀ p ∈ ((s.set 0 (tq, .slice qa tq.args.length qc)).set 1 (tp, .slice pa tp.args.length pc)), p ∈ s) := Lib.hid (fun p hp => by
                rcases List.mem_or_eq_of_mem_set hp with h | rfl
                · rcases List.mem_or_eq_of_mem_set h with h | rfl
                  · exact h
                  · exact HMP.out.2
                · exact HMP.out.1)
              have HL9 : Hid (∀ p ∈ ((s.set 0 (tq, .slice qa tq.args.length qc)).set 1 (tp, .slice pa tp.args.length pc)), LiesT w9 p.1 p.2) := Lib.hid (fun p hp => OwnT.lies _ _ (OwnT.keep (fun b hS => (N9.block b (by have := hb.out.size; omega) hS.2).trans (hb.out.block b hS.1.2)) (fun _ h _ => h) _ _ (HOWN.out p (HM9.out p hp))))
              have HNO9 : Hid (((validB t && (((s.set 0 (tq, .slice qa tq.args.length qc)).set 1 (tp, .slice pa tp.args.length pc)).all fun p => validB p.1)) && incB ((s.set 0 (tq, .slice qa tq.args.length qc)).set 1 (tp, .slice pa tp.args.length pc))) = false) := Lib.hid (by
                have e : incB ((s.set 0 (tq, .slice qa tq.args.length qc)).set 1 (tp, .slice pa tp.args.length pc)) = false := by
                  rw [← Bool.not_eq_true, incB_iff]
                  intro h
                  have h2 := h 0 (by simp; omega)
                  have g0 : ((s.set 0 (tq, .slice qa tq.args.length qc)).set 1 (tp, .slice pa tp.args.length pc)).getD 0 dflt = (tq, .slice qa tq.args.length qc) := by simp [List.getD, hk0]
                  have g1 : ((s.set 0 (tq, .slice qa tq.args.length qc)).set 1 (tp, .slice pa tp.args.length pc)).getD (0 + 1) dflt = (tp, .slice pa tp.args.length pc) := by simp [List.getD, hk1]
                  rw [g0, g1] at h2
                  dsimp only at h2
                  have := cT_neg tp tq
                  have := HIN.out
                  omega
                rw [e]; simp)
              have HLN : Hid (((s.set 0 (tq, .slice qa tq.args.length qc)).set 1 (tp, .slice pa tp.args.length pc)).length = m) := Lib.hid (by simp; exact HM.out)
              have R9 : Hid (RowV w9 (.slice (some ⟨g, 0, none⟩) m m) ((s.set 0 (tq, .slice qa tq.args.length qc)).set 1 (tp, .slice pa tp.args.length pc))) := Lib.hid (.inr ⟨by have := HLN.out; omega, g, 0, m, by rw [HLN.out], by have := HLN.out; omega, RowAt.rowIn RW9⟩)
              have C9 := Lib.hid ((Rank_v _ _ t _ w9 R9.out (by have := HLN.out; omega) HL9.out (HP.out.below B9.out) (HT.out.below B9.out)).mono fun _ _ h => h.no HNO9.out)
              clear f0 f1 f2 f3 f4 f5 f6 f7 p0 p1 p2 p3 q0 q1 q2 q3 RW9 N9
              obtain ⟨x0, x1, x2, x3⟩ := X9.out
              go_wp2_with fail
              refine C9.out.mono ?_
              rintro e w10 ⟨rfl, hb10⟩
              have B10 := Lib.hid (B9.out.trans (hb10.mono B9.out.size))
              have CA := Lib.hid (awake_any w10 (HP.out.below B10.out))
              clear hb10 x0 x1 x2 x3
              go_wp2_with fail
              refine CA.out.mono ?_
              rintro e w11 ⟨rfl, hb11⟩
              go_wp2_with fail
              go_ret
              exact ⟨rfl, B10.out.trans (hb11.mono B10.out.size)⟩
          · have d1 : decide ((1 : Int) < (m : Int)) = false := by simp; omega
            have d2 : ¬ (1 : Int) < (m : Int) := by omega
            have CA := Lib.hid (awake_any wr (HP.out.below BW.out))
            go_wp2_with fail
            refine CA.out.mono ?_
            rintro e w7 ⟨rfl, hb7⟩
            go_wp2_with fail
            go_ret
            exact ⟨rfl, BW.out.trans (hb7.mono BW.out.size)⟩

end Go.Proofs.YtehnhjhflaljhaaDoor
