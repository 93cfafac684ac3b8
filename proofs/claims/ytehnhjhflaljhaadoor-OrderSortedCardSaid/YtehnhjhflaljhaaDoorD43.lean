/- The law OrderSorts. -/
import Derived.Test.YtehnhjhflaljhaaDoorKI
import Derived.Test.YtehnhjhflaljhaaDoorL9
import Derived.Test.YtehnhjhflaljhaaDoorRD
namespace Go.Proofs.YtehnhjhflaljhaaDoor
open Go.RowKit Go.Proofs.HT

theorem RowW.slice {w : World} {v : Value} {l : List PV} (h : RowW w v l) : ∃ a c, v = .slice a l.length c := by
  obtain ⟨a, c, h, _⟩ := h; exact ⟨a, c, h⟩
theorem RowV.slice' {w : World} {v : Value} {l : List PV} (h : RowV w v l) : ∃ a c, v = .slice a l.length c := h.weak.slice

set_option maxRecDepth 20000 in
set_option maxHeartbeats 8000000 in
theorem sorts_walk (ts : List Tm) (x : Value) (w : World) (h : LiesA w ts x) (hp : Places w) : Calls Tryd.prog 4 #[x] w fun e w' => e = .returned (.bool true) ∧ Below w.heap.size w w' := by
  obtain ⟨l0, hl0, _, hfw⟩ := few_A ts x w h
  obtain ⟨l, hl⟩ : ∃ l, l0.take 40 = l := ⟨_, rfl⟩
  rw [hl] at hfw
  have hlen : l.length ≤ 40 := by rw [← hl, List.length_take]; omega
  have HL : Hid (∀ p ∈ l, LiesT w p.1 p.2) := fun p hp => hl0 p (by rw [← hl] at hp; exact List.mem_of_mem_take hp)
  have HF := Lib.hid hfw
  have HP := Lib.hid hp
  have HLE := Lib.hid hlen
  clear hl0 hfw h hp hl hlen
  go_enter Tryd.func4, Tryd.ntmps4
  go_wp2_with fail
  refine HF.out.mono ?_
  rintro e w1 ⟨v0, rfl, ho1, hb1⟩
  have L1 : Hid (∀ p ∈ l, LiesT w1 p.1 p.2) := fun p hp => (HL.out p hp).below hb1
  have R1 := Lib.hid ho1.row
  have B1 := Lib.hid hb1
  clear hb1 ho1 HL HF
  obtain ⟨a0, c0, rfl⟩ := R1.out.slice'
  obtain ⟨S, T, K, c1, c3, gS, gT, gK, hsix⟩ := six_any (.slice a0 l.length c0) l HLE.out
  have GS := Lib.hid gS
  have GT := Lib.hid gT
  have GK := Lib.hid gK
  have H6 := Lib.hid hsix
  clear gS gT gK hsix
  have C2 := Lib.hid ((H6.out w1 R1.out L1.out (HP.out.below B1.out)).1)
  go_wp2_with fail
  refine C2.out.mono ?_
  rintro e w2 ⟨vs, ls, rfl, hs, cs, hb2⟩
  have EQs := Lib.hid hs
  have Vs := Lib.hid cs
  have B2 := Lib.hid (B1.out.trans (hb2.mono B1.out.size))
  have R2 := Lib.hid (R1.out.below hb2)
  have L2 : Hid (∀ p ∈ l, LiesT w2 p.1 p.2) := fun p hp => (L1.out p hp).below hb2
  have D2 := Lib.hid hb2
  clear hs cs hb2 C2
  obtain ⟨axs, ds, rfl⟩ := Vs.out.rowW.slice
  have C3 := Lib.hid ((H6.out w2 R2.out L2.out (HP.out.below B2.out)).2.1)
  go_wp2_with fail
  refine C3.out.mono ?_
  rintro e w3 ⟨vt, lt, rfl, ht, ct, hb3⟩
  have EQt := Lib.hid ht
  have Vt := Lib.hid ct
  have B3 := Lib.hid (B2.out.trans (hb3.mono B2.out.size))
  have R3 := Lib.hid (R2.out.below hb3)
  have L3 : Hid (∀ p ∈ l, LiesT w3 p.1 p.2) := fun p hp => (L2.out p hp).below hb3
  have D3 := Lib.hid hb3
  clear ht ct hb3 C3
  have Vs := Lib.hid (Vs.out.below D3.out)
  obtain ⟨axt, dt, rfl⟩ := Vt.out.rowW.slice
  have C4 := Lib.hid ((H6.out w3 R3.out L3.out (HP.out.below B3.out)).2.2.1)
  go_wp2_with fail
  refine C4.out.mono ?_
  rintro e w4 ⟨vk, lk, rfl, hk, ck, hb4⟩
  have EQk := Lib.hid hk
  have Vk := Lib.hid ck
  have B4 := Lib.hid (B3.out.trans (hb4.mono B3.out.size))
  have R4 := Lib.hid (R3.out.below hb4)
  have L4 : Hid (∀ p ∈ l, LiesT w4 p.1 p.2) := fun p hp => (L3.out p hp).below hb4
  have D4 := Lib.hid hb4
  clear hk ck hb4 C4
  have Vs := Lib.hid (Vs.out.below D4.out)
  have Vt := Lib.hid (Vt.out.below D4.out)
  obtain ⟨axk, dk, rfl⟩ := Vk.out.rowW.slice
  have C5 := Lib.hid ((H6.out w4 R4.out L4.out (HP.out.below B4.out)).2.2.2.1)
  go_wp2_with fail
  refine C5.out.mono ?_
  rintro e w5 ⟨uS, rfl, hS, hb5⟩
  have QS := Lib.hid hS.weak
  have B5 := Lib.hid (B4.out.trans (hb5.mono B4.out.size))
  have R5 := Lib.hid (R4.out.below hb5)
  have L5 : Hid (∀ p ∈ l, LiesT w5 p.1 p.2) := fun p hp => (L4.out p hp).below hb5
  have D5 := Lib.hid hb5
  clear hS hb5 C5
  have Vs := Lib.hid (Vs.out.below D5.out)
  have Vt := Lib.hid (Vt.out.below D5.out)
  have Vk := Lib.hid (Vk.out.below D5.out)
  obtain ⟨axS, dS, rfl⟩ := QS.out.slice
  have C6 := Lib.hid ((H6.out w5 R5.out L5.out (HP.out.below B5.out)).2.2.2.2.1)
  go_wp2_with fail
  refine C6.out.mono ?_
  rintro e w6 ⟨uT, rfl, hT, hb6⟩
  have QT := Lib.hid hT.weak
  have B6 := Lib.hid (B5.out.trans (hb6.mono B5.out.size))
  have R6 := Lib.hid (R5.out.below hb6)
  have L6 : Hid (∀ p ∈ l, LiesT w6 p.1 p.2) := fun p hp => (L5.out p hp).below hb6
  have D6 := Lib.hid hb6
  clear hT hb6 C6
  have Vs := Lib.hid (Vs.out.below D6.out)
  have Vt := Lib.hid (Vt.out.below D6.out)
  have Vk := Lib.hid (Vk.out.below D6.out)
  have QS := Lib.hid (QS.out.below D6.out)
  obtain ⟨axT, dT, rfl⟩ := QT.out.slice
  have C7 := Lib.hid ((H6.out w6 R6.out L6.out (HP.out.below B6.out)).2.2.2.2.2)
  go_wp2_with fail
  refine C7.out.mono ?_
  rintro e w7 ⟨uK, rfl, hK, hb7⟩
  have QK := Lib.hid hK.weak
  have B7 := Lib.hid (B6.out.trans (hb7.mono B6.out.size))
  have R7 := Lib.hid (R6.out.below hb7)
  have L7 : Hid (∀ p ∈ l, LiesT w7 p.1 p.2) := fun p hp => (L6.out p hp).below hb7
  have D7 := Lib.hid hb7
  clear hK hb7 C7
  have Vs := Lib.hid (Vs.out.below D7.out)
  have Vt := Lib.hid (Vt.out.below D7.out)
  have Vk := Lib.hid (Vk.out.below D7.out)
  have QS := Lib.hid (QS.out.below D7.out)
  have QT := Lib.hid (QT.out.below D7.out)
  obtain ⟨axK, dK, rfl⟩ := QK.out.slice
  clear H6
  have C8 : Hid (Calls Tryd.prog 22 #[.slice axs ls.length ds, .slice axS S.length dS] w7 fun e w' => e = .returned (.bool true) ∧ Below w7.heap.size w7 w') := Lib.hid (by
    have h := sall_w _ _ ls S w7 Vs.out.rowW QS.out (by have := congrArg List.length EQs.out; simp at this; have := GS.out.1; omega) Vs.out.lies (fun p hp => L7.out p (GS.out.2 p hp).1)
    rw [sall_refl ls S EQs.out (fun p hp => by
      have h2 : p.1 ∈ S.map Prod.fst := by rw [← EQs.out]; exact List.mem_map_of_mem hp
      obtain ⟨q, hq, e⟩ := List.mem_map.1 h2
      rw [← e]; exact (GS.out.2 q hq).2)] at h
    exact h)
  go_wp2_with fail
  refine C8.out.mono ?_
  rintro e w8 ⟨rfl, hb8⟩
  have B8 := Lib.hid (B7.out.trans (hb8.mono B7.out.size))
  have R8 := Lib.hid (R7.out.below hb8)
  have L8 : Hid (∀ p ∈ l, LiesT w8 p.1 p.2) := fun p hp => (L7.out p hp).below hb8
  have D8 := Lib.hid hb8
  clear hb8 C8
  have Vs := Lib.hid (Vs.out.below D8.out)
  have Vt := Lib.hid (Vt.out.below D8.out)
  have Vk := Lib.hid (Vk.out.below D8.out)
  have QS := Lib.hid (QS.out.below D8.out)
  have QT := Lib.hid (QT.out.below D8.out)
  have QK := Lib.hid (QK.out.below D8.out)
  have C9 : Hid (Calls Tryd.prog 22 #[.slice axt lt.length dt, .slice axT T.length dT] w8 fun e w' => e = .returned (.bool true) ∧ Below w8.heap.size w8 w') := Lib.hid (by
    have h := sall_w _ _ lt T w8 Vt.out.rowW QT.out (by have := congrArg List.length EQt.out; simp at this; have := GT.out.1; omega) Vt.out.lies (fun p hp => L8.out p (GT.out.2 p hp).1)
    rw [sall_refl lt T EQt.out (fun p hp => by
      have h2 : p.1 ∈ T.map Prod.fst := by rw [← EQt.out]; exact List.mem_map_of_mem hp
      obtain ⟨q, hq, e⟩ := List.mem_map.1 h2
      rw [← e]; exact (GT.out.2 q hq).2)] at h
    exact h)
  go_wp2_with fail
  refine C9.out.mono ?_
  rintro e w9 ⟨rfl, hb9⟩
  have B9 := Lib.hid (B8.out.trans (hb9.mono B8.out.size))
  have R9 := Lib.hid (R8.out.below hb9)
  have L9 : Hid (∀ p ∈ l, LiesT w9 p.1 p.2) := fun p hp => (L8.out p hp).below hb9
  have D9 := Lib.hid hb9
  clear hb9 C9
  have Vs := Lib.hid (Vs.out.below D9.out)
  have Vt := Lib.hid (Vt.out.below D9.out)
  have Vk := Lib.hid (Vk.out.below D9.out)
  have QS := Lib.hid (QS.out.below D9.out)
  have QT := Lib.hid (QT.out.below D9.out)
  have QK := Lib.hid (QK.out.below D9.out)
  have C10 : Hid (Calls Tryd.prog 22 #[.slice axk lk.length dk, .slice axK K.length dK] w9 fun e w' => e = .returned (.bool true) ∧ Below w9.heap.size w9 w') := Lib.hid (by
    have h := sall_w _ _ lk K w9 Vk.out.rowW QK.out (by have := congrArg List.length EQk.out; simp at this; have := GK.out.1; omega) Vk.out.lies (fun p hp => L9.out p (GK.out.2 p hp).1)
    rw [sall_refl lk K EQk.out (fun p hp => by
      have h2 : p.1 ∈ K.map Prod.fst := by rw [← EQk.out]; exact List.mem_map_of_mem hp
      obtain ⟨q, hq, e⟩ := List.mem_map.1 h2
      rw [← e]; exact (GK.out.2 q hq).2)] at h
    exact h)
  go_wp2_with fail
  refine C10.out.mono ?_
  rintro e w10 ⟨rfl, hb10⟩
  have B10 := Lib.hid (B9.out.trans (hb10.mono B9.out.size))
  have R10 := Lib.hid (R9.out.below hb10)
  have L10 : Hid (∀ p ∈ l, LiesT w10 p.1 p.2) := fun p hp => (L9.out p hp).below hb10
  have D10 := Lib.hid hb10
  clear hb10 C10
  have Vs := Lib.hid (Vs.out.below D10.out)
  have Vt := Lib.hid (Vt.out.below D10.out)
  have Vk := Lib.hid (Vk.out.below D10.out)
  have QS := Lib.hid (QS.out.below D10.out)
  have QT := Lib.hid (QT.out.below D10.out)
  have QK := Lib.hid (QK.out.below D10.out)
  cases hv : (l.all fun p => validB p.1)
  · have C11 : Hid (Calls Tryd.prog 23 #[.slice a0 l.length c0] w10 fun e w' => e = .returned (.bool false) ∧ Below w10.heap.size w10 w') := Lib.hid (by
      have h := lvalidq_v _ l w10 R10.out (by have := HLE.out; omega) L10.out
      rw [hv] at h; exact h)
    clear hv
    go_wp2_with fail
    refine C11.out.mono ?_
    rintro e w11 ⟨rfl, hb11⟩
    have B11 := Lib.hid (B10.out.trans (hb11.mono B10.out.size))
    clear hb11
    have CA := Lib.hid (awake_any w11 (HP.out.below B11.out))
    go_wp2_with fail
    refine CA.out.mono ?_
    rintro e w99 ⟨rfl, hb99⟩
    go_wp2_with fail
    go_ret
    exact ⟨rfl, B11.out.trans (hb99.mono B11.out.size)⟩
  · have C11 : Hid (Calls Tryd.prog 23 #[.slice a0 l.length c0] w10 fun e w' => e = .returned (.bool true) ∧ Below w10.heap.size w10 w') := Lib.hid (by
      have h := lvalidq_v _ l w10 R10.out (by have := HLE.out; omega) L10.out
      rw [hv] at h; exact h)
    have HV := Lib.hid hv
    clear hv
    go_wp2_with fail
    refine C11.out.mono ?_
    rintro e w11 ⟨rfl, hb11⟩
    have B11 := Lib.hid (B10.out.trans (hb11.mono B10.out.size))
    have R11 := Lib.hid (R10.out.below hb11)
    have L11 : Hid (∀ p ∈ l, LiesT w11 p.1 p.2) := fun p hp => (L10.out p hp).below hb11
    have D11 := Lib.hid hb11
    clear hb11 C11
    have Vs := Lib.hid (Vs.out.below D11.out)
    have Vt := Lib.hid (Vt.out.below D11.out)
    have Vk := Lib.hid (Vk.out.below D11.out)
    clear QS QT QK
    go_wp2_with fail
    obtain ⟨n, hn⟩ : ∃ n, l.length = n := ⟨_, rfl⟩
    have HN := Lib.hid hn
    have hn40 : n ≤ 40 := by rw [← hn]; exact HLE.out
    rw [hn] at R11 ⊢
    go_loopw [15, 16] (fun vq vi wr => ∃ (j : Nat) (vo : Value) (lw : List PV), vo = vq ∧ j ≤ n ∧ vi = .int .i64 j ∧ Hid (wr.ownsRow w11.heap.size 24 4 vo j (flat lw)) ∧ Hid (lw.map Prod.fst = (l.take j).map Prod.fst) ∧ Hid (Clones w11.heap.size wr vo lw) ∧ Hid (j = 0 → vo = .slice none 0 0) ∧ Hid (Below w11.heap.size w11 wr)) (fun _ vi _ => n - (intOf vi).toNat)
    case atStart => exact ⟨0, _, [], rfl, by omega, rfl, Lib.hid (own_none _ _), Lib.hid rfl, Lib.hid (fun p hp => by cases hp), Lib.hid (fun _ => rfl), Lib.hid (Below.refl _ _)⟩
    case round =>
      obtain ⟨j, vo, lw, rfl, hj, rfl, hown, hmp, hcl, hz, hb⟩ := hrel
      have hlw : lw.length = j := by have := congrArg List.length hmp.out; simp at this; have := HN.out; omega
      by_cases hlt : j < n
      · have hjl : j < l.length := by have := HN.out; omega
        obtain ⟨b0, off, hr0⟩ : ∃ b off, a0 = some ⟨b, off, none⟩ ∧ RowIn w11 b off l := by
          rcases R11.out with ⟨h, _⟩ | ⟨_, b, off, cap, h1, h2, h3⟩
          · have := HN.out; rw [h] at this; simp at this; omega
          · simp only [Value.slice.injEq] at h1
            exact ⟨b, off, h1.1, h3⟩
        obtain ⟨rfl, hr1⟩ := hr0
        obtain ⟨d0, d1, d2, d3⟩ := (hr1.below hb.out).at j hjl
        have hm1 : (l.take (j + 1)).map Prod.fst = (l.take j).map Prod.fst ++ [l[j].1] := by rw [List.take_succ_eq_append_getElem hjl, List.map_append]; rfl
        have mp := L11.out _ (List.getElem_mem hjl)
        have vp2 := List.all_eq_true.1 HV.out _ (List.getElem_mem hjl)
        obtain ⟨pp, hpe⟩ : ∃ q, l[j] = q := ⟨_, rfl⟩
        rw [hpe] at d0 d1 d2 d3 mp vp2 hm1
        obtain ⟨tp, vp⟩ := pp
        obtain ⟨pa, pc, ev⟩ := mp.slice
        obtain rfl : vp = .slice pa tp.args.length pc := ev
        have CC := Lib.hid (clone_yes tp _ wr (mp.below hb.out) vp2)
        have HM1 := Lib.hid hm1
        clear hpe hm1 mp vp2 hr1 hjl hlw
        have hlw : lw.length = j := by have := congrArg List.length hmp.out; simp at this; have := HN.out; omega
        have HLW := Lib.hid hlw
        clear hlw
        go_wp2_with (first
          | (go_at_call 24; refine CC.out.mono ?_; rintro e w5 ⟨va, rfl, hva, hb5⟩; have HVA := Lib.hid hva; have HB5 := Lib.hid hb5; have HSL : Hid (∃ a c, va = .slice a tp.args.length c) := Lib.hid hva.slice; obtain ⟨ya, yc, hye⟩ := HSL.out; subst hye; have HO1 := Lib.hid ((own_keep hown.out hb5).alloc (.cells #[.int .i64 tp.kind, .int .i64 tp.num, .string tp.name, .slice ya tp.args.length yc] 24)); have HRN : Hid (∀ k u, (flat [(tp, (.slice ya tp.args.length yc : Value))])[k]? = some u → (w5.alloc (.cells #[.int .i64 tp.kind, .int .i64 tp.num, .string tp.name, .slice ya tp.args.length yc] 24)).cell? (Addr.add ⟨w5.heap.size, 0, none⟩ k) = some u) := (fun k u hq => (by rw [Addr.add_lit]; exact row_new (w := w5) #[.int .i64 tp.kind, .int .i64 tp.num, .string tp.name, .slice ya tp.args.length yc] [(tp, .slice ya tp.args.length yc)] 24 rfl k u hq)); have HV1 : Hid (∀ q ∈ [(tp, (.slice ya tp.args.length yc : Value))], ∃ a c, q.2 = .slice a q.1.args.length c) := (fun q hq => (by obtain rfl := List.mem_singleton.1 hq; exact ⟨_, _, rfl⟩)); have HBS : Hid (w11.heap.size ≤ (w5.alloc (.cells #[.int .i64 tp.kind, .int .i64 tp.num, .string tp.name, .slice ya tp.args.length yc] 24)).heap.size) := Lib.hid ((hb.out.trans (hb5.mono hb.out.size)).alloc (hb.out.trans (hb5.mono hb.out.size)).size _).size; clear hva hb5)
          | (at_builtin; refine wp_appL rfl _ _ rfl _ w11.heap.size j vo lw [(tp, .slice ya tp.args.length yc)] rfl HO1 ⟨w5.heap.size, 0, none⟩ 1 1 rfl rfl (by omega) HRN HV1 (by omega) HBS.out ?_; intro g cap w7 hown7 hb7 hg7 hgg7))
        go_roundw
        case rel =>
          have hs7 := hg7.out.size
          refine ⟨j + 1, _, lw ++ [(tp, .slice ya tp.args.length yc)], rfl, by omega, by go_num, hown7, Lib.hid ?_, Lib.hid ?_, Lib.hid (fun h => by omega), Lib.hid ?_⟩
          · rw [HM1.out, List.map_append, hmp.out]; rfl
          · exact hcl.out.step hown.out hb.out.size HB5.out HVA.out hg7.out hgg7.out hs7 (fun b h1 h2 => hg7.out.block b h1 (fun h => h2 h.symm))
          · exact ((hb.out.trans (HB5.out.mono hb.out.size)).alloc (hb.out.trans (HB5.out.mono hb.out.size)).size _).trans hb7.out
        case measure => simp [intOf]; omega
      · have HE : Hid (j = n) := by show _ = _; omega
        have hmp2 : lw.map Prod.fst = l.map Prod.fst := by
          have h := hmp.out
          rw [List.take_of_length_le (by have := HN.out; omega)] at h; exact h
        have HMP := Lib.hid hmp2
        have Vs := Lib.hid (Vs.out.below hb.out)
        have Vt := Lib.hid (Vt.out.below hb.out)
        have Vk := Lib.hid (Vk.out.below hb.out)
        have BL := Lib.hid (B11.out.trans (hb.out.mono B11.out.size))
        have hw7 : w7.heap.size ≤ w11.heap.size := (D8.out.trans ((D9.out.trans ((D10.out.trans (D11.out.mono D10.out.size)).mono D9.out.size)).mono D8.out.size)).size
        have hw4 : w4.heap.size ≤ w7.heap.size := (D5.out.trans ((D6.out.trans (D7.out.mono D6.out.size)).mono D5.out.size)).size
        have HW4 := Lib.hid (Nat.le_trans hw4 hw7)
        have hls : ls.length ≤ 1000 := by have := congrArg List.length EQs.out; simp at this; have := GS.out.1; omega
        have hlt' : lt.length ≤ 1000 := by have := congrArg List.length EQt.out; simp at this; have := GT.out.1; omega
        have hlk : lk.length ≤ 1000 := by have := congrArg List.length EQk.out; simp at this; have := GK.out.1; omega
        have P1 := Lib.hid (spoil_c _ ls _ _ wr Vs.out hls)
        have HLT' := Lib.hid hlt'
        have HLK := Lib.hid hlk
        clear hmp2 hw7 hw4 hls hlt' hlk
        go_wp2_with fail
        refine P1.out.mono ?_
        rintro e w12 ⟨rfl, ho12⟩
        have O12 := Lib.hid ho12
        have Vt := Lib.hid (Vt.out.out ho12 (Nat.le_refl _))
        have Vk := Lib.hid (Vk.out.out ho12 D3.out.size)
        clear ho12
        have P2 := Lib.hid (spoil_c _ lt _ _ w12 Vt.out HLT'.out)
        go_wp2_with fail
        refine P2.out.mono ?_
        rintro e w13 ⟨rfl, ho13⟩
        have O13 := Lib.hid ho13
        have Vk := Lib.hid (Vk.out.out ho13 (Nat.le_refl _))
        clear ho13
        have P3 := Lib.hid (spoil_c _ lk _ _ w13 Vk.out HLK.out)
        go_wp2_with fail
        refine P3.out.mono ?_
        rintro e w14 ⟨rfl, ho14⟩
        have O14 := Lib.hid ho14
        clear ho14
        have s1 := D2.out.size
        have s2 := D3.out.size
        have s3 := D4.out.size
        have hsz : wr.heap.size ≤ w14.heap.size := Nat.le_trans O12.out.size (Nat.le_trans O13.out.size O14.out.size)
        have hsz13 : wr.heap.size ≤ w13.heap.size := Nat.le_trans O12.out.size O13.out.size
        have hbl : ∀ b, b < wr.heap.size → (b < w1.heap.size ∨ w4.heap.size ≤ b) → w14.heap[b]? = wr.heap[b]? := fun b h1 h2 =>
          (O14.out.block b (by omega) (by omega)).trans ((O13.out.block b (by have := O12.out.size; omega) (by omega)).trans (O12.out.block b h1 (by omega)))
        have hw1 : w1.heap.size ≤ wr.heap.size := by have := HW4.out; have := hb.out.size; omega
        have B14a : Below w1.heap.size wr w14 := ⟨O14.out.os.trans (O13.out.os.trans O12.out.os), O14.out.tape.trans (O13.out.tape.trans O12.out.tape), O14.out.output.trans (O13.out.output.trans O12.out.output), hsz, fun q hq => hbl q (by omega) (.inl hq)⟩
        have B1r : Below w1.heap.size w1 wr := (D2.out.trans ((D3.out.trans ((D4.out.trans ((D5.out.trans ((D6.out.trans ((D7.out.trans ((D8.out.trans ((D9.out.trans ((D10.out.trans ((D11.out.trans (hb.out.mono D11.out.size)).mono D10.out.size)).mono D9.out.size)).mono D8.out.size)).mono D7.out.size)).mono D6.out.size)).mono D5.out.size)).mono D4.out.size)).mono D3.out.size)).mono D2.out.size))
        have B14 := Lib.hid (B1r.trans B14a)
        have R14 : Hid (RowW w14 (.slice a0 n c0) l) := Lib.hid (by
          have h := (R1.out.below B14.out).weak
          rw [HN.out] at h; exact h)
        have L14 : Hid (∀ p ∈ l, LiesT w14 p.1 p.2) := Lib.hid (fun p hp => (L1.out p hp).below B14.out)
        have hwb : ∀ b, w11.heap.size ≤ b → b < wr.heap.size → w14.heap[b]? = wr.heap[b]? := fun b h1 h2 => hbl b h2 (.inr (by have := HW4.out; omega))
        have LW : Hid (∀ p ∈ lw, LiesT w14 p.1 p.2) := Lib.hid (fun p hp => OwnT.lies _ _ ((hcl.out p hp).keep (fun b hS => hwb b hS.1.1 hS.1.2) (fun _ h _ => h)))
        have RW14 : Hid (OwnV w14 w11.heap.size vo lw) := Lib.hid (by
          have ho : w14.ownsRow w11.heap.size 24 4 vo j (flat lw) := ownsRow_at hown.out (fun g hg => hwb g (hown.out.lt g hg).1 (hown.out.lt g hg).2)
          exact OwnV.of_own ho hlw hz.out)
        have HQ : sallB l lw = true := sall_refl l lw HMP.out.symm (fun p hp => List.all_eq_true.1 HV.out p hp)
        obtain ⟨a9, c9, hvo⟩ := RW14.out.row.slice'
        subst hvo
        have C15 : Hid (Calls Tryd.prog 22 #[.slice a0 n c0, .slice a9 lw.length c9] w14 fun e w' => e = .returned (.bool true) ∧ Below w14.heap.size w14 w') := Lib.hid (by
          have h := sall_w _ _ l lw w14 R14.out RW14.out.row.weak (by have := HLE.out; omega) L14.out LW.out
          rw [HQ] at h; exact h)
        have BF := Lib.hid (B1.out.trans (B14.out.mono B1.out.size))
        clear hbl hwb HQ B14a B1r hlw s1 s2 s3 hsz hsz13 hw1
        go_wp2_with fail
        refine C15.out.mono ?_
        rintro e w15 ⟨rfl, hb15⟩
        have B15 := Lib.hid (BF.out.trans (hb15.mono BF.out.size))
        clear hb15
        have CA := Lib.hid (awake_any w15 (HP.out.below B15.out))
        go_wp2_with fail
        refine CA.out.mono ?_
        rintro e w99 ⟨rfl, hb99⟩
        go_wp2_with fail
        go_ret
        exact ⟨rfl, B15.out.trans (hb99.mono B15.out.size)⟩

end Go.Proofs.YtehnhjhflaljhaaDoor
