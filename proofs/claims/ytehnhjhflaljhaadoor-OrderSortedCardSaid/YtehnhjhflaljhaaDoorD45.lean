/- The law OrderSorted. -/
import Derived.Test.YtehnhjhflaljhaaDoorKJ
import Derived.Test.YtehnhjhflaljhaaDoorL9
import Derived.Test.YtehnhjhflaljhaaDoorD43
import Derived.Test.YtehnhjhflaljhaaDoorD4A
namespace Go.Proofs.YtehnhjhflaljhaaDoor
open Go.RowKit Go.Proofs.HT

/-- The row that the call swaps in place. -/
def OthV (w : World) (base n : Nat) (a : Option Addr) (lo : List PV) : Prop := 0 < n → ∃ g pad, a = some ⟨g, 0, none⟩ ∧ base ≤ g ∧ RowAt w g lo pad 24

set_option maxRecDepth 100000 in
set_option maxHeartbeats 16000000 in
theorem sorted_walk (ts : List Tm) (x sv : Value) (w : World) (h : LiesA w ts x) (hsv : U8s w sv) (hp : Places w) : Calls Tryd.prog 8 #[x, sv] w fun e w' => e = .returned (.bool true) ∧ Below w.heap.size w w' := by
  obtain ⟨l0, hl0, _, hfw⟩ := few_A ts x w h
  obtain ⟨sa, ns, sc, rfl, hns, hsc⟩ := hsv
  obtain ⟨l, hl⟩ : ∃ l, l0.take 40 = l := ⟨_, rfl⟩
  rw [hl] at hfw
  have hlen : l.length ≤ 40 := by rw [← hl, List.length_take]; omega
  have HL : Hid (∀ p ∈ l, LiesT w p.1 p.2) := fun p hp => hl0 p (by rw [← hl] at hp; exact List.mem_of_mem_take hp)
  have HF := Lib.hid hfw
  have HP := Lib.hid hp
  have HLE := Lib.hid hlen
  have HSC := Lib.hid hsc
  clear hl0 hfw h hp hl hlen hsc
  go_enter Tryd.func8, Tryd.ntmps8
  go_wp2_with fail
  refine HF.out.mono ?_
  rintro e w1 ⟨v0, rfl, ho1, hb1⟩
  have L1 : Hid (∀ p ∈ l, LiesT w1 p.1 p.2) := fun p hp => (HL.out p hp).below hb1
  have R1 := Lib.hid ho1.row
  have B1 := Lib.hid hb1
  clear hb1 ho1 HL HF
  obtain ⟨a0, c0, rfl⟩ := R1.out.slice'
  obtain ⟨n, hn⟩ : ∃ n, l.length = n := ⟨_, rfl⟩
  have HN := Lib.hid hn
  have hn40 : n ≤ 40 := by rw [← hn]; exact HLE.out
  rw [hn] at R1 ⊢
  cases hv : (l.all fun p => validB p.1)
  · have C2 : Hid (Calls Tryd.prog 23 #[.slice a0 n c0] w1 fun e w' => e = .returned (.bool false) ∧ Below w1.heap.size w1 w') := Lib.hid (by
      have h := lvalidq_v _ l w1 R1.out (by have := HLE.out; omega) L1.out
      rw [hv] at h; exact h)
    clear hv hn
    go_wp2_with fail
    refine C2.out.mono ?_
    rintro e w2 ⟨rfl, hb2⟩
    have B2 := Lib.hid (B1.out.trans (hb2.mono B1.out.size))
    clear hb2
    have CA := Lib.hid (awake_any w2 (HP.out.below B2.out))
    go_wp2_with fail
    refine CA.out.mono ?_
    rintro e w99 ⟨rfl, hb99⟩
    go_wp2_with fail
    go_ret
    exact ⟨rfl, B2.out.trans (hb99.mono B2.out.size)⟩
  · have C2 : Hid (Calls Tryd.prog 23 #[.slice a0 n c0] w1 fun e w' => e = .returned (.bool true) ∧ Below w1.heap.size w1 w') := Lib.hid (by
      have h := lvalidq_v _ l w1 R1.out (by have := HLE.out; omega) L1.out
      rw [hv] at h; exact h)
    have HV := Lib.hid (List.all_eq_true.1 hv)
    clear hv hn
    go_wp2_with fail
    refine C2.out.mono ?_
    rintro e w2 ⟨rfl, hb2⟩
    have B2 := Lib.hid (B1.out.trans (hb2.mono B1.out.size))
    have L2 : Hid (∀ p ∈ l, LiesT w2 p.1 p.2) := fun p hp => (L1.out p hp).below hb2
    have R2 := Lib.hid (R1.out.below hb2)
    clear hb2 C2
    have C3 := Lib.hid (few_v _ l w2 R2.out (by have := HLE.out; omega) L2.out)
    rw [List.take_of_length_le HLE.out] at C3
    go_wp2_with fail
    refine C3.out.mono ?_
    rintro e w3 ⟨v5, rfl, ho3, hb3⟩
    have B3 := Lib.hid (B2.out.trans (hb3.mono B2.out.size))
    have L3 : Hid (∀ p ∈ l, LiesT w3 p.1 p.2) := fun p hp => (L2.out p hp).below hb3
    have R3 := Lib.hid (R2.out.below hb3)
    have Z3 := Lib.hid hb3.size
    have D23 := Lib.hid hb3
    obtain ⟨a5, c5, he5⟩ := ho3.row.slice'
    subst he5
    rw [HN.out] at ho3 ⊢
    have HN0 : Hid (n = 0 → a5 = none ∧ c5 = 0) := Lib.hid (fun h0 => by
      rcases ho3 with ⟨_, h⟩ | ⟨h, _⟩
      · simp only [Value.slice.injEq] at h; exact ⟨h.1, h.2.2⟩
      · have := HN.out; omega)
    have hc5 : n ≤ c5 ∨ n = 0 := by
      rcases ho3 with ⟨h, _⟩ | ⟨_, g, cap, pad, h, h2, _⟩
      · have := HN.out; rw [h] at this; simp at this; omega
      · simp only [Value.slice.injEq] at h; have := HN.out; omega
    have O3 : Hid (OthV w3 w2.heap.size n a5 l) := Lib.hid (fun h0 => by
      rcases ho3 with ⟨h, _⟩ | ⟨_, g, cap, pad, h, h2, h3, h4⟩
      · have := HN.out; rw [h] at this; simp at this; omega
      · simp only [Value.slice.injEq] at h
        exact ⟨g, pad, h.1, h3, h4⟩)
    clear ho3 hb3 C3
    go_wp2_with fail
    go_loopw [6] (fun vi wr => ∃ (k : Nat) (lo : List PV), vi = .int .i64 k ∧ k ≤ 60 ∧ Hid (lo.Perm l) ∧ Hid (OthV wr w2.heap.size n a5 lo) ∧ Hid (Below w2.heap.size w3 wr)) (fun vi _ => 60 - (intOf vi).toNat)
    case atStart => exact ⟨0, l, rfl, by omega, Lib.hid (List.Perm.refl _), O3, Lib.hid (Below.refl _ _)⟩
    case round =>
      obtain ⟨k, lo, rfl, hk, hpm, hot, hb⟩ := hrel
      by_cases hlt : k < ns ∧ k < 60 ∧ 0 < n
      · obtain ⟨hk1, hk2, hn0⟩ := hlt
        obtain ⟨sb, so, hsa, hcell⟩ := HSC.out (by omega)
        obtain ⟨u, hu, hcu⟩ := hcell k hk1
        obtain ⟨g, pad, ha5, hg, hrow⟩ := hot.out hn0
        subst hsa
        subst ha5
        have hW : Below w.heap.size w wr := B3.out.trans (hb.out.mono (by have := B2.out.size; omega))
        have cu := cell_below hW _ _ hcu
        obtain ⟨x, hx⟩ : ∃ x : Nat, x = k % n := ⟨_, rfl⟩
        obtain ⟨y, hy⟩ : ∃ y : Nat, y = u % n := ⟨_, rfl⟩
        have hxn : x < n := by rw [hx]; exact Nat.mod_lt _ hn0
        have hyn : y < n := by rw [hy]; exact Nat.mod_lt _ hn0
        have hX : (k : Int) % (n : Int) = (x : Int) := by rw [hx]; exact (Int.natCast_emod k n).symm
        have hY : (u : Int) % (n : Int) = (y : Int) := by rw [hy]; exact (Int.natCast_emod u n).symm
        have hX2 : Int.tmod (k : Int) (n : Int) = (x : Int) := by rw [hx]; rfl
        have hY2 : Int.tmod (u : Int) (n : Int) = (y : Int) := by rw [hy]; rfl
        have wu : IntKind.i64.wrap (u : Int) = (u : Int) := IntWalk.i64_in _ (by omega)
        have wx := sub_bits x (by omega)
        have wy := sub_bits y (by omega)
        have nz : ((n : Int) == 0) = false := by simp; omega
        have nz2 : ¬ (n : Int) = 0 := by omega
        have nz3 : ¬ n = 0 := by omega
        have nz4 : (n == 0) = false := by simp; omega
        have f1 : decide ((k : Int) < (ns : Int)) = true := by simp; omega
        have f1' : (k : Int) < (ns : Int) := by omega
        have f2 : decide ((k : Int) < 60) = true := by simp; omega
        have f2' : (k : Int) < 60 := by omega
        have f3 : decide ((0 : Int) < (n : Int)) = true := by simp; omega
        have f3' : (0 : Int) < (n : Int) := by omega
        have lx0 : (0 : Int) ≤ (x : Int) := by omega
        have lx1 : (x : Int) < (n : Int) := by omega
        have ly0 : (0 : Int) ≤ (y : Int) := by omega
        have ly1 : (y : Int) < (n : Int) := by omega
        have hll : lo.length = n := by have := hpm.out.length_eq; have := HN.out; omega
        have HLL := Lib.hid hll
        have HROW := Lib.hid hrow
        have HGG := Lib.hid hg
        have hkx : x < lo.length := by omega
        have hky : y < lo.length := by omega
        have cp := hrow.cells x hkx
        have cq := hrow.cells y hky
        have mp := L3.out _ (hpm.out.subset (List.getElem_mem hkx))
        have mq := L3.out _ (hpm.out.subset (List.getElem_mem hky))
        have gp := getD_at lo x hkx
        have gq := getD_at lo y hky
        obtain ⟨pp, hpe⟩ : ∃ q, lo[x] = q := ⟨_, rfl⟩
        obtain ⟨qq, hqe⟩ : ∃ q, lo[y] = q := ⟨_, rfl⟩
        rw [hpe] at cp mp gp
        rw [hqe] at cq mq gq
        by_cases hxy : x = y
        · obtain rfl : pp = qq := by subst hxy; exact hpe.symm.trans hqe
          subst hxy
          clear cq mq gq hqe hky wy ly0 ly1 hyn
          obtain ⟨tp, vp⟩ := pp
          obtain ⟨pa, pc, ev⟩ := mp.slice
          obtain rfl : vp = .slice pa tp.args.length pc := ev
          obtain ⟨p0, p1, p2, p3⟩ := cp
          have HGP := Lib.hid gp
          have HKX := Lib.hid hkx
          have frp0 := frozen_of_row _ _ (x * 4) _ _ hrow
          have frp1 := frozen_of_row _ _ (x * 4 + 1) _ _ hrow
          have frp2 := frozen_of_row _ _ (x * 4 + 2) _ _ hrow
          have frp3 := frozen_of_row _ _ (x * 4 + 3) _ _ hrow
          clear mp gp hpe hcu hW hll hg hx hy hrow hcell hkx
          go_wp2_with fail
          go_quiet (fail)
          go_wp2_with fail
          clear hX hY hX2 hY2 wu wx nz nz2 nz3 nz4 cu f1 f1' f3 f3'
          go_region_law (fail)
          all_goals
            go_wp2_with fail
            go_roundw
            case rel =>
              have hN : ∀ q, Near g wr ((((((((((wr.drewN q).setCell ⟨g, x * 4, none⟩ (.int .i64 tp.kind)).setCell ⟨g, x * 4 + 1, none⟩ (.int .i64 tp.num)).setCell ⟨g, x * 4 + 2, none⟩ (.string tp.name)).setCell ⟨g, x * 4 + 3, none⟩ (.slice pa tp.args.length pc)).setCell ⟨g, x * 4, none⟩ (.int .i64 tp.kind)).setCell ⟨g, x * 4 + 1, none⟩ (.int .i64 tp.num)).setCell ⟨g, x * 4 + 2, none⟩ (.string tp.name)).setCell ⟨g, x * 4 + 3, none⟩ (.slice pa tp.args.length pc))) := fun q =>
                (((Near.refl g wr).drewN q).trans ((RowAt.near x (tp, .slice pa tp.args.length pc)).trans (RowAt.near x (tp, .slice pa tp.args.length pc))))
              refine ⟨k + 1, (lo.set x (tp, .slice pa tp.args.length pc)).set x (tp, .slice pa tp.args.length pc), by go_num, by omega, Lib.hid ?_, Lib.hid (fun _ => ⟨g, pad, rfl, HGG.out, ?_⟩), Lib.hid ((hN _).below hb.out HGG.out (by have := hb.out.size; have := Z3.out; omega))⟩
              · have h := (swap_perm lo x x HKX.out HKX.out).trans hpm.out
                rw [HGP.out] at h; exact h
              · exact (RowAt.set (RowAt.set (HROW.out.drewN _) x HKX.out (tp, .slice pa tp.args.length pc)) x (by rw [List.length_set]; exact HKX.out) (tp, .slice pa tp.args.length pc))
            case measure => simp [intOf]; omega
        · obtain ⟨tp, vp⟩ := pp
          obtain ⟨tq, vq⟩ := qq
          obtain ⟨pa, pc, ev⟩ := mp.slice
          obtain rfl : vp = .slice pa tp.args.length pc := ev
          obtain ⟨qa, qc, ev⟩ := mq.slice
          obtain rfl : vq = .slice qa tq.args.length qc := ev
          obtain ⟨p0, p1, p2, p3⟩ := cp
          obtain ⟨q0, q1, q2, q3⟩ := cq
          have HGP := Lib.hid gp
          have HGQ := Lib.hid gq
          have HKX := Lib.hid hkx
          have HKY := Lib.hid hky
          have frp0 := frozen_of_row _ _ (x * 4) _ _ hrow
          have frp1 := frozen_of_row _ _ (x * 4 + 1) _ _ hrow
          have frp2 := frozen_of_row _ _ (x * 4 + 2) _ _ hrow
          have frp3 := frozen_of_row _ _ (x * 4 + 3) _ _ hrow
          have frq0 := frozen_of_row _ _ (y * 4) _ _ hrow
          have frq1 := frozen_of_row _ _ (y * 4 + 1) _ _ hrow
          have frq2 := frozen_of_row _ _ (y * 4 + 2) _ _ hrow
          have frq3 := frozen_of_row _ _ (y * 4 + 3) _ _ hrow
          clear mp mq gp gq hpe hqe hcu hW hll hg hx hy hrow hcell hkx hky
          go_wp2_with fail
          go_quiet (fail)
          go_wp2_with fail
          clear hX hY hX2 hY2 wu wx wy nz nz2 nz3 nz4 cu f1 f1' f3 f3'
          go_region_law (fail)
          all_goals
            go_wp2_with fail
            go_roundw
            case rel =>
              have hN : ∀ q, Near g wr ((((((((((wr.drewN q).setCell ⟨g, x * 4, none⟩ (.int .i64 tq.kind)).setCell ⟨g, x * 4 + 1, none⟩ (.int .i64 tq.num)).setCell ⟨g, x * 4 + 2, none⟩ (.string tq.name)).setCell ⟨g, x * 4 + 3, none⟩ (.slice qa tq.args.length qc)).setCell ⟨g, y * 4, none⟩ (.int .i64 tp.kind)).setCell ⟨g, y * 4 + 1, none⟩ (.int .i64 tp.num)).setCell ⟨g, y * 4 + 2, none⟩ (.string tp.name)).setCell ⟨g, y * 4 + 3, none⟩ (.slice pa tp.args.length pc))) := fun q =>
                (((Near.refl g wr).drewN q).trans ((RowAt.near x (tq, .slice qa tq.args.length qc)).trans (RowAt.near y (tp, .slice pa tp.args.length pc))))
              refine ⟨k + 1, (lo.set x (tq, .slice qa tq.args.length qc)).set y (tp, .slice pa tp.args.length pc), by go_num, by omega, Lib.hid ?_, Lib.hid (fun _ => ⟨g, pad, rfl, HGG.out, ?_⟩), Lib.hid ((hN _).below hb.out HGG.out (by have := hb.out.size; have := Z3.out; omega))⟩
              · have h := (swap_perm lo x y HKX.out HKY.out).trans hpm.out
                rw [HGP.out, HGQ.out] at h; exact h
              · exact (RowAt.set (RowAt.set (HROW.out.drewN _) x HKX.out (tq, .slice qa tq.args.length qc)) y (by rw [List.length_set]; exact HKY.out) (tp, .slice pa tp.args.length pc))
            case measure => simp [intOf]; omega
      · have Bw := Lib.hid (B3.out.trans (hb.out.mono (by have := B2.out.size; omega)))
        have D2w : Below w2.heap.size w2 wr := D23.out.trans (hb.out.mono (Nat.le_refl _))
        have hll : lo.length = n := by have := hpm.out.length_eq; have := HN.out; omega
        have R4 := Lib.hid (R2.out.below D2w)
        have L4 : Hid (∀ p ∈ l, LiesT wr p.1 p.2) := fun p hp => (L2.out p hp).below D2w
        have M4 : Hid (∀ p ∈ lo, LiesT wr p.1 p.2) := fun p hp => L4.out p (hpm.out.subset hp)
        have O4 : Hid (RowV wr (.slice a5 n c5) lo) := Lib.hid (by
          by_cases h0 : 0 < n
          · obtain ⟨g, pad, e, _, hr⟩ := hot.out h0
            exact .inr ⟨by omega, g, 0, c5, by rw [e, hll], by omega, RowAt.rowIn hr⟩
          · obtain ⟨e1, e2⟩ := HN0.out (by omega)
            refine .inl ⟨List.length_eq_zero_iff.1 (by omega), ?_⟩
            rw [e1, e2, show n = 0 by omega])
        have B4 := Bw
        obtain ⟨S, TL, hfive⟩ := five_any (.slice a5 n c5) (.slice a0 n c0) l lo n HN.out hn40 HV.out hpm.out
        have H5 := Lib.hid hfive
        have HX : (k < ns ∧ k < 60 ∧ ¬ 0 < n) ∨ (k < ns ∧ ¬ k < 60) ∨ ¬ k < ns := by omega
        clear hot hb hpm hlt hll D2w hfive
        rcases HX with ⟨k1, k2, k3⟩ | ⟨k1, k2⟩ | k1
        · have f1 : decide ((k : Int) < (ns : Int)) = true := by simp; omega
          have f1' : (k : Int) < (ns : Int) := by omega
          have f2 : decide ((k : Int) < 60) = true := by simp; omega
          have f2' : (k : Int) < 60 := by omega
          have f3 : decide ((0 : Int) < (n : Int)) = false := by simp; omega
          have f3' : ¬ (0 : Int) < (n : Int) := by omega
          have HNZ : Hid (n = 0) := by show _ = _; omega
          clear k1 k2 k3
          go_wp2_with fail
          clear f1 f1' f2 f2' f3 f3'
          have Q := Lib.hid ((H5.out.2.1 wr R4.out L4.out (HP.out.below B4.out)).1)
          go_wp2_with fail
          refine Q.out.mono ?_
          rintro e w5 ⟨vs, ls, rfl, hs, cs, hb5⟩
          have EQs := Lib.hid hs
          have Vs := Lib.hid cs
          clear Q hs cs
          have B5 := Lib.hid (B4.out.trans (hb5.mono B4.out.size))
          have R5 := Lib.hid (R4.out.below hb5)
          have L5 : Hid (∀ p ∈ l, LiesT w5 p.1 p.2) := fun p hp => (L4.out p hp).below hb5
          have O5 := Lib.hid (O4.out.below hb5)
          have M5 : Hid (∀ p ∈ lo, LiesT w5 p.1 p.2) := fun p hp => (M4.out p hp).below hb5
          clear hb5
          obtain ⟨axs, ds, he⟩ := Vs.out.rowW.slice
          subst he
          have Q := Lib.hid ((H5.out.2.1 w5 R5.out L5.out (HP.out.below B5.out)).2)
          go_wp2_with fail
          refine Q.out.mono ?_
          rintro e w6 ⟨vt, lt, rfl, ht, ct, hb6⟩
          have EQt := Lib.hid ht
          have Vt := Lib.hid ct
          clear Q ht ct
          have B6 := Lib.hid (B5.out.trans (hb6.mono B5.out.size))
          have R6 := Lib.hid (R5.out.below hb6)
          have L6 : Hid (∀ p ∈ l, LiesT w6 p.1 p.2) := fun p hp => (L5.out p hp).below hb6
          have O6 := Lib.hid (O5.out.below hb6)
          have M6 : Hid (∀ p ∈ lo, LiesT w6 p.1 p.2) := fun p hp => (M5.out p hp).below hb6
          have Vs := Lib.hid (Vs.out.below hb6)
          clear hb6
          obtain ⟨axt, dt, he⟩ := Vt.out.rowW.slice
          subst he
          have hltn : lt.length = n := by have := congrArg List.length EQt.out; have h2 := H5.out.1.2.2.2.2.2.length_eq; simp only [List.length_map] at this; have := HN.out; omega
          have HLT := Lib.hid hltn
          rw [hltn]
          clear hltn
          have Q := Lib.hid ((H5.out.2.2.1 w6 O6.out M6.out (HP.out.below B6.out)).1)
          go_wp2_with fail
          refine Q.out.mono ?_
          rintro e w7 ⟨vu, lu, rfl, hu, cu, hb7⟩
          have EQu := Lib.hid hu
          have Vu := Lib.hid cu
          clear Q hu cu
          have B7 := Lib.hid (B6.out.trans (hb7.mono B6.out.size))
          have R7 := Lib.hid (R6.out.below hb7)
          have L7 : Hid (∀ p ∈ l, LiesT w7 p.1 p.2) := fun p hp => (L6.out p hp).below hb7
          have O7 := Lib.hid (O6.out.below hb7)
          have M7 : Hid (∀ p ∈ lo, LiesT w7 p.1 p.2) := fun p hp => (M6.out p hp).below hb7
          have Vs := Lib.hid (Vs.out.below hb7)
          have Vt := Lib.hid (Vt.out.below hb7)
          clear hb7
          obtain ⟨axu, du, he⟩ := Vu.out.rowW.slice
          subst he
          have Q := Lib.hid ((H5.out.2.2.1 w7 O7.out M7.out (HP.out.below B7.out)).2)
          go_wp2_with fail
          refine Q.out.mono ?_
          rintro e w8 ⟨vv, lv, rfl, hv, cv, hb8⟩
          have EQv := Lib.hid hv
          have Vv := Lib.hid cv
          clear Q hv cv
          have B8 := Lib.hid (B7.out.trans (hb8.mono B7.out.size))
          have R8 := Lib.hid (R7.out.below hb8)
          have L8 : Hid (∀ p ∈ l, LiesT w8 p.1 p.2) := fun p hp => (L7.out p hp).below hb8
          have O8 := Lib.hid (O7.out.below hb8)
          have M8 : Hid (∀ p ∈ lo, LiesT w8 p.1 p.2) := fun p hp => (M7.out p hp).below hb8
          have Vs := Lib.hid (Vs.out.below hb8)
          have Vt := Lib.hid (Vt.out.below hb8)
          have Vu := Lib.hid (Vu.out.below hb8)
          clear hb8
          obtain ⟨axv, dv, he⟩ := Vv.out.rowW.slice
          subst he
          have Vtn : Hid (CpV w8 w5.heap.size w6.heap.size (.slice axt n dt) lt) := Lib.hid (by have h := Vt.out; rw [HLT.out] at h; exact h)
          have Q := Lib.hid (H5.out.2.2.2 _ lt _ _ w8 Vtn.out EQt.out (HP.out.below B8.out))
          go_wp2_with fail
          refine Q.out.mono ?_
          rintro e w9 ⟨vg, lg, rfl, hg, cg, hb9⟩
          have EQg := Lib.hid hg
          have Vg := Lib.hid cg
          clear Q hg cg
          have B9 := Lib.hid (B8.out.trans (hb9.mono B8.out.size))
          have R9 := Lib.hid (R8.out.below hb9)
          have L9 : Hid (∀ p ∈ l, LiesT w9 p.1 p.2) := fun p hp => (L8.out p hp).below hb9
          have O9 := Lib.hid (O8.out.below hb9)
          have M9 : Hid (∀ p ∈ lo, LiesT w9 p.1 p.2) := fun p hp => (M8.out p hp).below hb9
          have Vs := Lib.hid (Vs.out.below hb9)
          have Vt := Lib.hid (Vt.out.below hb9)
          have Vu := Lib.hid (Vu.out.below hb9)
          have Vv := Lib.hid (Vv.out.below hb9)
          clear hb9
          obtain ⟨axg, dg, he⟩ := Vg.out.rowW.slice
          subst he
          obtain ⟨m, hm⟩ : ∃ m, ls.length = m := ⟨_, rfl⟩
          have HM := Lib.hid hm
          have hm40 : m ≤ 40 := by have h1 := congrArg List.length EQs.out; have h2 := H5.out.1.2.2.2.1; simp only [List.length_map] at h1; omega
          have hmn : m ≤ n := by have h1 := congrArg List.length EQs.out; have h2 := H5.out.1.2.2.2.1; simp only [List.length_map] at h1; omega
          have HVS : Hid (∀ p ∈ ls, validB p.1 = true) := Lib.hid (fun p hp => by
            have h2 : p.1 ∈ S.map Prod.fst := by rw [← EQs.out]; exact List.mem_map_of_mem hp
            obtain ⟨q, hq, e⟩ := List.mem_map.1 h2
            rw [← e]; exact HV.out q (H5.out.1.2.2.1 q hq))
          have HVT : Hid (∀ p ∈ lt, validB p.1 = true) := Lib.hid (fun p hp => by
            have h2 : p.1 ∈ TL.map Prod.fst := by rw [← EQt.out]; exact List.mem_map_of_mem hp
            obtain ⟨q, hq, e⟩ := List.mem_map.1 h2
            rw [← e]; exact HV.out q (H5.out.1.2.2.2.2.2.subset hq))
          clear hm
          have Q : Hid (Calls Tryd.prog 22 #[.slice axs ls.length ds, .slice axu lu.length du] w9 fun e w' => e = .returned (.bool true) ∧ Below w9.heap.size w9 w') := Lib.hid (by
            have h := sall_w _ _ ls lu w9 Vs.out.rowW Vu.out.rowW (by have := HM.out; omega) Vs.out.lies Vu.out.lies
            rw [sall_refl ls lu (EQs.out.trans EQu.out.symm) HVS.out] at h
            exact h)
          go_wp2_with fail
          refine Q.out.mono ?_
          rintro e w10 ⟨rfl, hb10⟩
          clear Q
          have B10 := Lib.hid (B9.out.trans (hb10.mono B9.out.size))
          have R10 := Lib.hid (R9.out.below hb10)
          have L10 : Hid (∀ p ∈ l, LiesT w10 p.1 p.2) := fun p hp => (L9.out p hp).below hb10
          have O10 := Lib.hid (O9.out.below hb10)
          have M10 : Hid (∀ p ∈ lo, LiesT w10 p.1 p.2) := fun p hp => (M9.out p hp).below hb10
          have Vs := Lib.hid (Vs.out.below hb10)
          have Vt := Lib.hid (Vt.out.below hb10)
          have Vu := Lib.hid (Vu.out.below hb10)
          have Vv := Lib.hid (Vv.out.below hb10)
          have Vg := Lib.hid (Vg.out.below hb10)
          clear hb10
          have Q : Hid (Calls Tryd.prog 22 #[.slice axt n dt, .slice axv lv.length dv] w10 fun e w' => e = .returned (.bool true) ∧ Below w10.heap.size w10 w') := Lib.hid (by
            have h := sall_w _ _ lt lv w10 Vt.out.rowW Vv.out.rowW (by have := HLT.out; omega) Vt.out.lies Vv.out.lies
            rw [sall_refl lt lv (EQt.out.trans EQv.out.symm) HVT.out] at h
            rw [HLT.out] at h; exact h)
          go_wp2_with fail
          refine Q.out.mono ?_
          rintro e w11 ⟨rfl, hb11⟩
          clear Q
          have B11 := Lib.hid (B10.out.trans (hb11.mono B10.out.size))
          have R11 := Lib.hid (R10.out.below hb11)
          have L11 : Hid (∀ p ∈ l, LiesT w11 p.1 p.2) := fun p hp => (L10.out p hp).below hb11
          have O11 := Lib.hid (O10.out.below hb11)
          have M11 : Hid (∀ p ∈ lo, LiesT w11 p.1 p.2) := fun p hp => (M10.out p hp).below hb11
          have Vs := Lib.hid (Vs.out.below hb11)
          have Vt := Lib.hid (Vt.out.below hb11)
          have Vu := Lib.hid (Vu.out.below hb11)
          have Vv := Lib.hid (Vv.out.below hb11)
          have Vg := Lib.hid (Vg.out.below hb11)
          clear hb11
          have Q : Hid (Calls Tryd.prog 22 #[.slice axs ls.length ds, .slice axg lg.length dg] w11 fun e w' => e = .returned (.bool true) ∧ Below w11.heap.size w11 w') := Lib.hid (by
            have h := sall_w _ _ ls lg w11 Vs.out.rowW Vg.out.rowW (by have := HM.out; omega) Vs.out.lies Vg.out.lies
            rw [sall_refl ls lg (EQs.out.trans EQg.out.symm) HVS.out] at h
            exact h)
          go_wp2_with fail
          refine Q.out.mono ?_
          rintro e w12 ⟨rfl, hb12⟩
          clear Q
          have B12 := Lib.hid (B11.out.trans (hb12.mono B11.out.size))
          have R12 := Lib.hid (R11.out.below hb12)
          have L12 : Hid (∀ p ∈ l, LiesT w12 p.1 p.2) := fun p hp => (L11.out p hp).below hb12
          have O12 := Lib.hid (O11.out.below hb12)
          have M12 : Hid (∀ p ∈ lo, LiesT w12 p.1 p.2) := fun p hp => (M11.out p hp).below hb12
          have Vs := Lib.hid (Vs.out.below hb12)
          have Vt := Lib.hid (Vt.out.below hb12)
          have Vu := Lib.hid (Vu.out.below hb12)
          have Vv := Lib.hid (Vv.out.below hb12)
          have Vg := Lib.hid (Vg.out.below hb12)
          clear hb12
          go_wp2_with fail
          go_loopw [19] (fun vi wr => ∃ j : Nat, j ≤ n ∧ vi = .int .i64 j ∧ Hid (Below w12.heap.size w12 wr)) (fun vi _ => n - (intOf vi).toNat)
          case atStart => exact ⟨0, by omega, rfl, Lib.hid (Below.refl _ _)⟩
          case round =>
            obtain ⟨j, hj, rfl, hb⟩ := hrel
            have hlt : ¬ j < n := by have := HNZ.out; omega
            have HBX := hb
            go_wp2_with fail
            clear hb hlt hj
            go_loopw [20] (fun vi wr => ∃ j : Nat, j ≤ n ∧ vi = .int .i64 j ∧ Hid (Below w12.heap.size w12 wr)) (fun vi _ => n - (intOf vi).toNat)
            case atStart => exact ⟨0, by omega, rfl, HBX⟩
            case round =>
              obtain ⟨j, hj, rfl, hb⟩ := hrel
              have hlt : ¬ j < n := by have := HNZ.out; omega
              have HBX := hb
              rw [HM.out]
              go_wp2_with fail
              clear hb hlt hj
              go_loopw [21] (fun vi wr => ∃ j : Nat, j ≤ m ∧ vi = .int .i64 j ∧ Hid (Below w12.heap.size w12 wr)) (fun vi _ => m - (intOf vi).toNat)
              case atStart => exact ⟨0, by omega, rfl, HBX⟩
              case round =>
                obtain ⟨j, hj, rfl, hb⟩ := hrel
                have hlt : ¬ j < m := by have := HNZ.out; omega
                have BZ := Lib.hid (B12.out.trans (hb.out.mono B12.out.size))
                have CA := Lib.hid (awake_any wr (HP.out.below BZ.out))
                go_wp2_with fail
                refine CA.out.mono ?_
                rintro e w99 ⟨rfl, hb99⟩
                go_wp2_with fail
                go_ret
                exact ⟨rfl, BZ.out.trans (hb99.mono BZ.out.size)⟩
        · have f1 : decide ((k : Int) < (ns : Int)) = true := by simp; omega
          have f1' : (k : Int) < (ns : Int) := by omega
          have f2 : decide ((k : Int) < 60) = false := by simp; omega
          have f2' : ¬ (k : Int) < 60 := by omega
          clear k1 k2
          go_wp2_with fail
          clear f1 f1' f2 f2'
          have Q := Lib.hid ((H5.out.2.1 wr R4.out L4.out (HP.out.below B4.out)).1)
          go_wp2_with fail
          refine Q.out.mono ?_
          rintro e w5 ⟨vs, ls, rfl, hs, cs, hb5⟩
          have EQs := Lib.hid hs
          have Vs := Lib.hid cs
          clear Q hs cs
          have B5 := Lib.hid (B4.out.trans (hb5.mono B4.out.size))
          have R5 := Lib.hid (R4.out.below hb5)
          have L5 : Hid (∀ p ∈ l, LiesT w5 p.1 p.2) := fun p hp => (L4.out p hp).below hb5
          have O5 := Lib.hid (O4.out.below hb5)
          have M5 : Hid (∀ p ∈ lo, LiesT w5 p.1 p.2) := fun p hp => (M4.out p hp).below hb5
          clear hb5
          obtain ⟨axs, ds, he⟩ := Vs.out.rowW.slice
          subst he
          have Q := Lib.hid ((H5.out.2.1 w5 R5.out L5.out (HP.out.below B5.out)).2)
          go_wp2_with fail
          refine Q.out.mono ?_
          rintro e w6 ⟨vt, lt, rfl, ht, ct, hb6⟩
          have EQt := Lib.hid ht
          have Vt := Lib.hid ct
          clear Q ht ct
          have B6 := Lib.hid (B5.out.trans (hb6.mono B5.out.size))
          have R6 := Lib.hid (R5.out.below hb6)
          have L6 : Hid (∀ p ∈ l, LiesT w6 p.1 p.2) := fun p hp => (L5.out p hp).below hb6
          have O6 := Lib.hid (O5.out.below hb6)
          have M6 : Hid (∀ p ∈ lo, LiesT w6 p.1 p.2) := fun p hp => (M5.out p hp).below hb6
          have Vs := Lib.hid (Vs.out.below hb6)
          clear hb6
          obtain ⟨axt, dt, he⟩ := Vt.out.rowW.slice
          subst he
          have hltn : lt.length = n := by have := congrArg List.length EQt.out; have h2 := H5.out.1.2.2.2.2.2.length_eq; simp only [List.length_map] at this; have := HN.out; omega
          have HLT := Lib.hid hltn
          rw [hltn]
          clear hltn
          have Q := Lib.hid ((H5.out.2.2.1 w6 O6.out M6.out (HP.out.below B6.out)).1)
          go_wp2_with fail
          refine Q.out.mono ?_
          rintro e w7 ⟨vu, lu, rfl, hu, cu, hb7⟩
          have EQu := Lib.hid hu
          have Vu := Lib.hid cu
          clear Q hu cu
          have B7 := Lib.hid (B6.out.trans (hb7.mono B6.out.size))
          have R7 := Lib.hid (R6.out.below hb7)
          have L7 : Hid (∀ p ∈ l, LiesT w7 p.1 p.2) := fun p hp => (L6.out p hp).below hb7
          have O7 := Lib.hid (O6.out.below hb7)
          have M7 : Hid (∀ p ∈ lo, LiesT w7 p.1 p.2) := fun p hp => (M6.out p hp).below hb7
          have Vs := Lib.hid (Vs.out.below hb7)
          have Vt := Lib.hid (Vt.out.below hb7)
          clear hb7
          obtain ⟨axu, du, he⟩ := Vu.out.rowW.slice
          subst he
          have Q := Lib.hid ((H5.out.2.2.1 w7 O7.out M7.out (HP.out.below B7.out)).2)
          go_wp2_with fail
          refine Q.out.mono ?_
          rintro e w8 ⟨vv, lv, rfl, hv, cv, hb8⟩
          have EQv := Lib.hid hv
          have Vv := Lib.hid cv
          clear Q hv cv
          have B8 := Lib.hid (B7.out.trans (hb8.mono B7.out.size))
          have R8 := Lib.hid (R7.out.below hb8)
          have L8 : Hid (∀ p ∈ l, LiesT w8 p.1 p.2) := fun p hp => (L7.out p hp).below hb8
          have O8 := Lib.hid (O7.out.below hb8)
          have M8 : Hid (∀ p ∈ lo, LiesT w8 p.1 p.2) := fun p hp => (M7.out p hp).below hb8
          have Vs := Lib.hid (Vs.out.below hb8)
          have Vt := Lib.hid (Vt.out.below hb8)
          have Vu := Lib.hid (Vu.out.below hb8)
          clear hb8
          obtain ⟨axv, dv, he⟩ := Vv.out.rowW.slice
          subst he
          have Vtn : Hid (CpV w8 w5.heap.size w6.heap.size (.slice axt n dt) lt) := Lib.hid (by have h := Vt.out; rw [HLT.out] at h; exact h)
          have Q := Lib.hid (H5.out.2.2.2 _ lt _ _ w8 Vtn.out EQt.out (HP.out.below B8.out))
          go_wp2_with fail
          refine Q.out.mono ?_
          rintro e w9 ⟨vg, lg, rfl, hg, cg, hb9⟩
          have EQg := Lib.hid hg
          have Vg := Lib.hid cg
          clear Q hg cg
          have B9 := Lib.hid (B8.out.trans (hb9.mono B8.out.size))
          have R9 := Lib.hid (R8.out.below hb9)
          have L9 : Hid (∀ p ∈ l, LiesT w9 p.1 p.2) := fun p hp => (L8.out p hp).below hb9
          have O9 := Lib.hid (O8.out.below hb9)
          have M9 : Hid (∀ p ∈ lo, LiesT w9 p.1 p.2) := fun p hp => (M8.out p hp).below hb9
          have Vs := Lib.hid (Vs.out.below hb9)
          have Vt := Lib.hid (Vt.out.below hb9)
          have Vu := Lib.hid (Vu.out.below hb9)
          have Vv := Lib.hid (Vv.out.below hb9)
          clear hb9
          obtain ⟨axg, dg, he⟩ := Vg.out.rowW.slice
          subst he
          obtain ⟨m, hm⟩ : ∃ m, ls.length = m := ⟨_, rfl⟩
          have HM := Lib.hid hm
          have hm40 : m ≤ 40 := by have h1 := congrArg List.length EQs.out; have h2 := H5.out.1.2.2.2.1; simp only [List.length_map] at h1; omega
          have hmn : m ≤ n := by have h1 := congrArg List.length EQs.out; have h2 := H5.out.1.2.2.2.1; simp only [List.length_map] at h1; omega
          have HVS : Hid (∀ p ∈ ls, validB p.1 = true) := Lib.hid (fun p hp => by
            have h2 : p.1 ∈ S.map Prod.fst := by rw [← EQs.out]; exact List.mem_map_of_mem hp
            obtain ⟨q, hq, e⟩ := List.mem_map.1 h2
            rw [← e]; exact HV.out q (H5.out.1.2.2.1 q hq))
          have HVT : Hid (∀ p ∈ lt, validB p.1 = true) := Lib.hid (fun p hp => by
            have h2 : p.1 ∈ TL.map Prod.fst := by rw [← EQt.out]; exact List.mem_map_of_mem hp
            obtain ⟨q, hq, e⟩ := List.mem_map.1 h2
            rw [← e]; exact HV.out q (H5.out.1.2.2.2.2.2.subset hq))
          clear hm
          have Q : Hid (Calls Tryd.prog 22 #[.slice axs ls.length ds, .slice axu lu.length du] w9 fun e w' => e = .returned (.bool true) ∧ Below w9.heap.size w9 w') := Lib.hid (by
            have h := sall_w _ _ ls lu w9 Vs.out.rowW Vu.out.rowW (by have := HM.out; omega) Vs.out.lies Vu.out.lies
            rw [sall_refl ls lu (EQs.out.trans EQu.out.symm) HVS.out] at h
            exact h)
          go_wp2_with fail
          refine Q.out.mono ?_
          rintro e w10 ⟨rfl, hb10⟩
          clear Q
          have B10 := Lib.hid (B9.out.trans (hb10.mono B9.out.size))
          have R10 := Lib.hid (R9.out.below hb10)
          have L10 : Hid (∀ p ∈ l, LiesT w10 p.1 p.2) := fun p hp => (L9.out p hp).below hb10
          have O10 := Lib.hid (O9.out.below hb10)
          have M10 : Hid (∀ p ∈ lo, LiesT w10 p.1 p.2) := fun p hp => (M9.out p hp).below hb10
          have Vs := Lib.hid (Vs.out.below hb10)
          have Vt := Lib.hid (Vt.out.below hb10)
          have Vu := Lib.hid (Vu.out.below hb10)
          have Vv := Lib.hid (Vv.out.below hb10)
          have Vg := Lib.hid (Vg.out.below hb10)
          clear hb10
          have Q : Hid (Calls Tryd.prog 22 #[.slice axt n dt, .slice axv lv.length dv] w10 fun e w' => e = .returned (.bool true) ∧ Below w10.heap.size w10 w') := Lib.hid (by
            have h := sall_w _ _ lt lv w10 Vt.out.rowW Vv.out.rowW (by have := HLT.out; omega) Vt.out.lies Vv.out.lies
            rw [sall_refl lt lv (EQt.out.trans EQv.out.symm) HVT.out] at h
            rw [HLT.out] at h; exact h)
          go_wp2_with fail
          refine Q.out.mono ?_
          rintro e w11 ⟨rfl, hb11⟩
          clear Q
          have B11 := Lib.hid (B10.out.trans (hb11.mono B10.out.size))
          have R11 := Lib.hid (R10.out.below hb11)
          have L11 : Hid (∀ p ∈ l, LiesT w11 p.1 p.2) := fun p hp => (L10.out p hp).below hb11
          have O11 := Lib.hid (O10.out.below hb11)
          have M11 : Hid (∀ p ∈ lo, LiesT w11 p.1 p.2) := fun p hp => (M10.out p hp).below hb11
          have Vs := Lib.hid (Vs.out.below hb11)
          have Vt := Lib.hid (Vt.out.below hb11)
          have Vu := Lib.hid (Vu.out.below hb11)
          have Vv := Lib.hid (Vv.out.below hb11)
          have Vg := Lib.hid (Vg.out.below hb11)
          clear hb11
          have Q : Hid (Calls Tryd.prog 22 #[.slice axs ls.length ds, .slice axg lg.length dg] w11 fun e w' => e = .returned (.bool true) ∧ Below w11.heap.size w11 w') := Lib.hid (by
            have h := sall_w _ _ ls lg w11 Vs.out.rowW Vg.out.rowW (by have := HM.out; omega) Vs.out.lies Vg.out.lies
            rw [sall_refl ls lg (EQs.out.trans EQg.out.symm) HVS.out] at h
            exact h)
          go_wp2_with fail
          refine Q.out.mono ?_
          rintro e w12 ⟨rfl, hb12⟩
          clear Q
          have B12 := Lib.hid (B11.out.trans (hb12.mono B11.out.size))
          have R12 := Lib.hid (R11.out.below hb12)
          have L12 : Hid (∀ p ∈ l, LiesT w12 p.1 p.2) := fun p hp => (L11.out p hp).below hb12
          have O12 := Lib.hid (O11.out.below hb12)
          have M12 : Hid (∀ p ∈ lo, LiesT w12 p.1 p.2) := fun p hp => (M11.out p hp).below hb12
          have Vs := Lib.hid (Vs.out.below hb12)
          have Vt := Lib.hid (Vt.out.below hb12)
          have Vu := Lib.hid (Vu.out.below hb12)
          have Vv := Lib.hid (Vv.out.below hb12)
          have Vg := Lib.hid (Vg.out.below hb12)
          clear hb12
          go_wp2_with fail
          go_loopw [19] (fun vi wr => ∃ j : Nat, j ≤ n ∧ vi = .int .i64 j ∧ Hid (Below w12.heap.size w12 wr)) (fun vi _ => n - (intOf vi).toNat)
          case atStart => exact ⟨0, by omega, rfl, Lib.hid (Below.refl _ _)⟩
          case round =>
            obtain ⟨j, hj, rfl, hb⟩ := hrel
            by_cases hlt : j < n
            · obtain ⟨b0, off, ha0, hrow⟩ : ∃ b off, a0 = some ⟨b, off, none⟩ ∧ RowIn w12 b off l := by
                rcases R12.out with ⟨h, _⟩ | ⟨_, b, off, cap, h1, h2, h3⟩
                · have := HN.out; rw [h] at this; simp at this; omega
                · simp only [Value.slice.injEq] at h1
                  exact ⟨b, off, h1.1, h3⟩
              subst ha0
              have HR := Lib.hid hrow
              have hjn : j < n := hlt
              have hkp : j < l.length := by have := HN.out; omega
              have cp := (HR.out.below hb.out).at j hkp
              have mp := L12.out _ (List.getElem_mem hkp)
              have gp := getD_at l j hkp
              obtain ⟨ep, hep⟩ : ∃ q, l[j] = q := ⟨_, rfl⟩
              rw [hep] at cp mp gp
              obtain ⟨tp, vp⟩ := ep
              obtain ⟨pa, pc, ev⟩ := mp.slice
              obtain rfl : vp = .slice pa tp.args.length pc := ev
              obtain ⟨p0, p1, p2, p3⟩ := cp
              have HGp := Lib.hid gp
              have HMp := Lib.hid mp
              clear gp hep mp hkp
              have HMEM : Hid (tp ∈ l.map Prod.fst) := Lib.hid (by
                have hj2 : j < l.length := by have := HN.out; omega
                have e := HGp.out
                rw [getD_at l j hj2] at e
                have h := List.mem_map_of_mem (f := Prod.fst) (List.getElem_mem hj2)
                rw [e] at h; exact h)
              have HVP : Hid (validB tp = true) := Lib.hid (by
                obtain ⟨q, hq, e⟩ := List.mem_map.1 HMEM.out
                rw [← e]; exact HV.out q hq)
              obtain ⟨c, hc⟩ : ∃ c, cntS l tp = c := ⟨_, rfl⟩
              have HC1 : Hid (∀ w', Below wr.heap.size wr w' → Calls Tryd.prog 32 #[.slice axt n dt, tv tp (.slice pa tp.args.length pc)] w' fun e w'' => e = .returned (.int .i64 c) ∧ Below w'.heap.size w' w'') := fun w' h => by
                have hb3 := hb.out.trans (h.mono hb.out.size)
                have e : cntS lt tp = c := by rw [← hc]; exact cnt_map (by rw [EQt.out]; exact H5.out.1.2.2.2.2.2.map _) tp
                have h := count_w _ lt tp _ w' (Vt.out.below hb3).rowW (by have := HLT.out; omega) (Vt.out.below hb3).lies (HMp.out.below hb3)
                rw [e, HLT.out] at h; exact h
              have HC2 : Hid (∀ w', Below wr.heap.size wr w' → Calls Tryd.prog 32 #[.slice (some ⟨b0, off, none⟩) n c0, tv tp (.slice pa tp.args.length pc)] w' fun e w'' => e = .returned (.int .i64 c) ∧ Below w'.heap.size w' w'') := fun w' h => by
                have hb3 := hb.out.trans (h.mono hb.out.size)
                have h := count_w _ l tp _ w' (R12.out.below hb3).weak (by have := HN.out; omega) (fun p hp => (L12.out p hp).below hb3) (HMp.out.below hb3)
                rw [hc] at h; exact h
              have HC3 : Hid (∀ w', Below wr.heap.size wr w' → Calls Tryd.prog 32 #[.slice axs ls.length ds, tv tp (.slice pa tp.args.length pc)] w' fun e w'' => e = .returned (.int .i64 1) ∧ Below w'.heap.size w' w'') := fun w' h => by
                have hb3 := hb.out.trans (h.mono hb.out.size)
                have e : cntS ls tp = 1 := by
                  have hi : Inc ls := (inc_iff ls).1 (inc_congr EQs.out.symm ((inc_iff S).2 H5.out.1.1))
                  rcases inc_cnt ls hi HVS.out tp HVP.out with ⟨h, _⟩ | ⟨_, h⟩
                  · exact h
                  · exfalso
                    obtain ⟨q, hq, e⟩ := List.mem_map.1 HMEM.out
                    obtain ⟨q2, hq2, hz⟩ := H5.out.1.2.1 q hq
                    have h3 : q2.1 ∈ ls.map Prod.fst := by rw [EQs.out]; exact List.mem_map_of_mem hq2
                    obtain ⟨q3, hq3, e3⟩ := List.mem_map.1 h3
                    exact h q3 hq3 (by rw [e3, ← e]; exact hz)
                have h := count_w _ ls tp _ w' (Vs.out.below hb3).rowW (by have := HM.out; omega) (Vs.out.below hb3).lies (HMp.out.below hb3)
                rw [e] at h; exact h
              have lj0 : (0 : Int) ≤ (j : Int) := by omega
              have lj1 : (j : Int) < (n : Int) := by omega
              have cc : ((c : Int) != (c : Int)) = false := by simp
              clear hc
              have hS0 : Below wr.heap.size wr wr.drew := (Below.refl _ _).drew
              have HS : Hid (∀ w', Below wr.heap.size wr w' → (fun w' => Below wr.heap.size wr w' ∧ w'.cell? ⟨b0, off + j * 4, none⟩ = some (.int .i64 tp.kind) ∧ w'.cell? ⟨b0, off + j * 4 + 1, none⟩ = some (.int .i64 tp.num) ∧ w'.cell? ⟨b0, off + j * 4 + 2, none⟩ = some (.string tp.name) ∧ w'.cell? ⟨b0, off + j * 4 + 3, none⟩ = some (.slice pa tp.args.length pc)) w') := fun w' h => ⟨h, cell_below h _ _ p0, cell_below h _ _ p1, cell_below h _ _ p2, cell_below h _ _ p3⟩
              go_wp2_with fail
              go_region_held3 (fun w' => Below wr.heap.size wr w' ∧ w'.cell? ⟨b0, off + j * 4, none⟩ = some (.int .i64 tp.kind) ∧ w'.cell? ⟨b0, off + j * 4 + 1, none⟩ = some (.int .i64 tp.num) ∧ w'.cell? ⟨b0, off + j * 4 + 2, none⟩ = some (.string tp.name) ∧ w'.cell? ⟨b0, off + j * 4 + 3, none⟩ = some (.slice pa tp.args.length pc))
                (first | exact HS.out _ h5 | exact HS.out _ hS0 | assumption | go_keep)
                (first
                  | (go_at_call 32; ((with_reducible refine (HC1.out _ (by assumption : Below wr.heap.size wr _)).mono ?_); rintro e wa0 ⟨rfl, hba0⟩; have h5 : Below wr.heap.size wr wa0 := Below.trans (by assumption : Below wr.heap.size wr _) (hba0.mono (Below.size (by assumption : Below wr.heap.size wr _)))))
                  | (go_at_call 32; ((with_reducible refine (HC2.out _ (by assumption : Below wr.heap.size wr _)).mono ?_); rintro e wa1 ⟨rfl, hba1⟩; have h5 : Below wr.heap.size wr wa1 := Below.trans (by assumption : Below wr.heap.size wr _) (hba1.mono (Below.size (by assumption : Below wr.heap.size wr _)))))
                  | (go_at_call 32; ((with_reducible refine (HC3.out _ (by assumption : Below wr.heap.size wr _)).mono ?_); rintro e wa2 ⟨rfl, hba2⟩; have h5 : Below wr.heap.size wr wa2 := Below.trans (by assumption : Below wr.heap.size wr _) (hba2.mono (Below.size (by assumption : Below wr.heap.size wr _))))))
              have H6 := Lib.hid h5
              clear p0 p1 p2 p3 h5 hS0 HS
              go_wp2_with fail
              go_roundw
              case rel => exact ⟨j + 1, by omega, by go_num, Lib.hid (hb.out.trans (H6.out.mono hb.out.size))⟩
              case measure => simp [intOf]; omega
            · have HBX := hb
              go_wp2_with fail
              clear hb hlt hj
              go_loopw [20] (fun vi wr => ∃ j : Nat, j ≤ n ∧ vi = .int .i64 j ∧ Hid (Below w12.heap.size w12 wr)) (fun vi _ => n - (intOf vi).toNat)
              case atStart => exact ⟨0, by omega, rfl, HBX⟩
              case round =>
                obtain ⟨j, hj, rfl, hb⟩ := hrel
                by_cases hlt : j < n
                · by_cases hj0 : 0 < j
                  · obtain ⟨g, hat, hrow⟩ : ∃ g, axt = some ⟨g, 0, none⟩ ∧ RowAt w12 g lt [] 24 := by
                      rcases Vt.out with ⟨h, _⟩ | ⟨g, h1, _, _, _, h5, _⟩
                      · have := HLT.out; rw [h] at this; simp at this; omega
                      · simp only [Value.slice.injEq] at h1; exact ⟨g, h1.1, h5⟩
                    subst hat
                    have HR := Lib.hid (RowAt.rowIn hrow)
                    obtain ⟨y, hy⟩ : ∃ y : Nat, y = j - 1 := ⟨_, rfl⟩
                    have hY : (j : Int) - 1 = (y : Int) := by omega
                    have hyn : y < n := by omega
                    have hkp : y < lt.length := by have := HLT.out; omega
                    have cp := (HR.out.below hb.out).at y hkp
                    have mp := Vt.out.lies _ (List.getElem_mem hkp)
                    have gp := getD_at lt y hkp
                    obtain ⟨ep, hep⟩ : ∃ q, lt[y] = q := ⟨_, rfl⟩
                    rw [hep] at cp mp gp
                    obtain ⟨tp, vp⟩ := ep
                    obtain ⟨pa, pc, ev⟩ := mp.slice
                    obtain rfl : vp = .slice pa tp.args.length pc := ev
                    obtain ⟨p0, p1, p2, p3⟩ := cp
                    have HGp := Lib.hid gp
                    have HMp := Lib.hid mp
                    clear gp hep mp hkp
                    have hkq : j < lt.length := by have := HLT.out; omega
                    have cq := (HR.out.below hb.out).at j hkq
                    have mq := Vt.out.lies _ (List.getElem_mem hkq)
                    have gq := getD_at lt j hkq
                    obtain ⟨eq, heq⟩ : ∃ q, lt[j] = q := ⟨_, rfl⟩
                    rw [heq] at cq mq gq
                    obtain ⟨tq, vq⟩ := eq
                    obtain ⟨qa, qc, ev⟩ := mq.slice
                    obtain rfl : vq = .slice qa tq.args.length qc := ev
                    obtain ⟨q0, q1, q2, q3⟩ := cq
                    have HGq := Lib.hid gq
                    have HMq := Lib.hid mq
                    clear gq heq mq hkq
                    have HSRT : Hid (∀ i j (h1 : i < lt.length) (h2 : j < lt.length), i < j → cT lt[i].1 lt[j].1 ≤ 0) := Lib.hid (fun i j h1 h2 hij => by
                      have hs : (lt.map Prod.fst).Pairwise (fun a b => cT a b ≤ 0) := by rw [EQt.out]; exact sorted_map H5.out.1.2.2.2.2.1
                      exact List.pairwise_iff_getElem.1 (List.pairwise_map.1 hs) i j h1 h2 hij)
                    simp only [Nat.zero_add] at p0 p1 p2 p3 q0 q1 q2 q3
                    obtain ⟨z, hz0⟩ : ∃ z, cT tp tq = z := ⟨_, rfl⟩
                    have HZ : Hid (z ≤ 0) := Lib.hid (by
                      have h1 : y < lt.length := by have := HLT.out; omega
                      have h2 : j < lt.length := by have := HLT.out; omega
                      have e1 := HGp.out
                      have e2 := HGq.out
                      rw [getD_at lt y h1] at e1
                      rw [getD_at lt j h2] at e2
                      have h := HSRT.out y j h1 h2 (by omega)
                      rw [e1, e2] at h
                      rw [← hz0]; exact h)
                    have HVBO : Hid (validB tp = true ∧ validB tq = true) := Lib.hid (by
                      have h1 : y < lt.length := by have := HLT.out; omega
                      have h2 : j < lt.length := by have := HLT.out; omega
                      have e1 := HGp.out
                      have e2 := HGq.out
                      rw [getD_at lt y h1] at e1
                      rw [getD_at lt j h2] at e2
                      have g1 := HVT.out _ (List.getElem_mem h1)
                      have g2 := HVT.out _ (List.getElem_mem h2)
                      rw [e1] at g1; rw [e2] at g2
                      exact ⟨g1, g2⟩)
                    have HCC : Hid (∀ w', Below wr.heap.size wr w' → Calls Tryd.prog 12 #[tv tp (.slice pa tp.args.length pc), tv tq (.slice qa tq.args.length qc)] w' fun e w'' => e = .returned (.int .i64 z) ∧ Below w'.heap.size w' w'') := fun w' h => by
                      have hb3 := hb.out.trans (h.mono hb.out.size)
                      have hw3 := B12.out.trans (hb3.mono B12.out.size)
                      have hq : cmpV tp tq = z := by rw [cmpV, if_pos HVBO.out]; exact hz0
                      rw [← hq]
                      exact Cmp_any _ _ _ _ _ (HMp.out.below hb3) (HMq.out.below hb3) (HP.out.below hw3)
                    have wy := sub_bits y (by omega)
                    have ly0 : (0 : Int) ≤ (y : Int) := by omega
                    have ly1 : (y : Int) < (n : Int) := by omega
                    have lj0 : (0 : Int) ≤ (j : Int) := by omega
                    have lj1 : (j : Int) < (n : Int) := by omega
                    have dj : decide ((0 : Int) < (j : Int)) = true := by simp; omega
                    have dj2 : (0 : Int) < (j : Int) := by omega
                    have zn := HZ.out
                    have e9 : decide (0 < z) = false := by simp; omega
                    have e9' : ¬ 0 < z := by omega
                    clear hz0 hy
                    have hS0 : Below wr.heap.size wr wr.drew := (Below.refl _ _).drew
                    have HS : Hid (∀ w', Below wr.heap.size wr w' → (fun w' => Below wr.heap.size wr w' ∧ w'.cell? ⟨g, y * 4, none⟩ = some (.int .i64 tp.kind) ∧ w'.cell? ⟨g, y * 4 + 1, none⟩ = some (.int .i64 tp.num) ∧ w'.cell? ⟨g, y * 4 + 2, none⟩ = some (.string tp.name) ∧ w'.cell? ⟨g, y * 4 + 3, none⟩ = some (.slice pa tp.args.length pc) ∧ w'.cell? ⟨g, j * 4, none⟩ = some (.int .i64 tq.kind) ∧ w'.cell? ⟨g, j * 4 + 1, none⟩ = some (.int .i64 tq.num) ∧ w'.cell? ⟨g, j * 4 + 2, none⟩ = some (.string tq.name) ∧ w'.cell? ⟨g, j * 4 + 3, none⟩ = some (.slice qa tq.args.length qc)) w') := fun w' h => ⟨h, cell_below h _ _ p0, cell_below h _ _ p1, cell_below h _ _ p2, cell_below h _ _ p3, cell_below h _ _ q0, cell_below h _ _ q1, cell_below h _ _ q2, cell_below h _ _ q3⟩
                    go_wp2_with fail
                    go_region_held3 (fun w' => Below wr.heap.size wr w' ∧ w'.cell? ⟨g, y * 4, none⟩ = some (.int .i64 tp.kind) ∧ w'.cell? ⟨g, y * 4 + 1, none⟩ = some (.int .i64 tp.num) ∧ w'.cell? ⟨g, y * 4 + 2, none⟩ = some (.string tp.name) ∧ w'.cell? ⟨g, y * 4 + 3, none⟩ = some (.slice pa tp.args.length pc) ∧ w'.cell? ⟨g, j * 4, none⟩ = some (.int .i64 tq.kind) ∧ w'.cell? ⟨g, j * 4 + 1, none⟩ = some (.int .i64 tq.num) ∧ w'.cell? ⟨g, j * 4 + 2, none⟩ = some (.string tq.name) ∧ w'.cell? ⟨g, j * 4 + 3, none⟩ = some (.slice qa tq.args.length qc))
                      (first | exact HS.out _ h5 | exact HS.out _ hS0 | assumption | go_keep)
                      (first
                        | (go_at_call 12; ((with_reducible refine (HCC.out _ (by assumption : Below wr.heap.size wr _)).mono ?_); rintro e wz ⟨rfl, hbz⟩; have h5 : Below wr.heap.size wr wz := Below.trans (by assumption : Below wr.heap.size wr _) (hbz.mono (Below.size (by assumption : Below wr.heap.size wr _))))))
                    have H6 := Lib.hid h5
                    clear p0 p1 p2 p3 q0 q1 q2 q3 h5 hS0 HS
                    go_wp2_with fail
                    go_roundw
                    case rel => exact ⟨j + 1, by omega, by go_num, Lib.hid (hb.out.trans (H6.out.mono hb.out.size))⟩
                    case measure => simp [intOf]; omega
                  · obtain rfl : j = 0 := by omega
                    have d0 : decide ((0 : Int) < ((0 : Nat) : Int)) = false := by simp
                    have q1 : (0 : Int) < (n : Int) := by omega
                    have q2 : 0 < n := by omega
                    go_wp2_with fail
                    go_quiet (fail)
                    go_wp2_with fail
                    go_roundw
                    case rel => exact ⟨0 + 1, by omega, by go_num, Lib.hid (below_drewN hb.out _)⟩
                    case measure => simp [intOf]; omega
                · have HBX := hb
                  rw [HM.out]
                  go_wp2_with fail
                  clear hb hlt hj
                  go_loopw [21] (fun vi wr => ∃ j : Nat, j ≤ m ∧ vi = .int .i64 j ∧ Hid (Below w12.heap.size w12 wr)) (fun vi _ => m - (intOf vi).toNat)
                  case atStart => exact ⟨0, by omega, rfl, HBX⟩
                  case round =>
                    obtain ⟨j, hj, rfl, hb⟩ := hrel
                    by_cases hlt : j < m
                    · obtain ⟨g, hat, hrow⟩ : ∃ g, axs = some ⟨g, 0, none⟩ ∧ RowAt w12 g ls [] 24 := by
                        rcases Vs.out with ⟨h, _⟩ | ⟨g, h1, _, _, _, h5, _⟩
                        · have := HM.out; rw [h] at this; simp at this; omega
                        · simp only [Value.slice.injEq] at h1; exact ⟨g, h1.1, h5⟩
                      subst hat
                      have HR := Lib.hid (RowAt.rowIn hrow)
                      clear hrow
                      have hkq : j < ls.length := by have := HM.out; omega
                      have cq := HR.out.at j hkq
                      have mq := Vs.out.lies _ (List.getElem_mem hkq)
                      have gq := getD_at ls j hkq
                      obtain ⟨eq, heq⟩ : ∃ q, ls[j] = q := ⟨_, rfl⟩
                      rw [heq] at cq mq gq
                      obtain ⟨tq, vq⟩ := eq
                      obtain ⟨qa, qc, ev⟩ := mq.slice
                      obtain rfl : vq = .slice qa tq.args.length qc := ev
                      obtain ⟨q0, q1, q2, q3⟩ := cq
                      have HGq := Lib.hid gq
                      have HMq := Lib.hid mq
                      clear gq heq mq hkq
                      simp only [Nat.zero_add] at q0 q1 q2 q3
                      have HMEM : Hid (∃ p ∈ l, p.1 = tq) := Lib.hid (by
                        have hj2 : j < ls.length := by have := HM.out; omega
                        have e := HGq.out
                        rw [getD_at ls j hj2] at e
                        have h := List.mem_map_of_mem (f := Prod.fst) (List.getElem_mem hj2)
                        rw [e, EQs.out] at h
                        obtain ⟨q, hq, e2⟩ := List.mem_map.1 h
                        exact ⟨q, H5.out.1.2.2.1 q hq, e2⟩)
                      have HTV1 : Hid (validB tq = true) := Lib.hid (by
                        obtain ⟨p, hp, e⟩ := HMEM.out
                        rw [← e]; exact HV.out p hp)
                      obtain ⟨c, hc⟩ : ∃ c, cntS l tq = c := ⟨_, rfl⟩
                      have hcp : 0 < c := by
                        obtain ⟨p, hp, e⟩ := HMEM.out
                        rw [← hc]
                        unfold cntS
                        refine List.length_pos_iff.2 (fun h => ?_)
                        have h2 : p ∈ l.filter fun q => sameV q.1 tq := List.mem_filter.2 ⟨hp, (sameV_iff _ _ (HV.out p hp) HTV1.out).2 (by rw [e, cT_self])⟩
                        rw [h] at h2; cases h2
                      have HCN : Hid (∀ w', Below w12.heap.size w12 w' → Calls Tryd.prog 32 #[.slice a0 n c0, tv tq (.slice qa tq.args.length qc)] w' fun e w'' => e = .returned (.int .i64 c) ∧ Below w'.heap.size w' w'') := fun w' hb3 => by
                        have h := count_w _ l tq _ w' (R12.out.below hb3).weak (by have := HN.out; omega) (fun p hp => (L12.out p hp).below hb3) (HMq.out.below hb3)
                        rw [hc] at h; exact h
                      have HRK : Hid (∀ w', Below w12.heap.size w12 w' → Calls Tryd.prog 26 #[.slice (some ⟨g, 0, none⟩) m ds, tv tq (.slice qa tq.args.length qc)] w' fun e w'' => e = .returned (.tuple #[.int .i64 j, .bool true]) ∧ Below w'.heap.size w' w'') := fun w' hb3 => by
                        have hw3 := B12.out.trans (hb3.mono B12.out.size)
                        have hrv : RowV w' (.slice (some ⟨g, 0, none⟩) m ds) ls := by
                          rcases (Vs.out.below hb3) with ⟨h, _⟩ | ⟨g2, h1, _, _, _, h5, _⟩
                          · have := HM.out; rw [h] at this; simp at this; omega
                          · simp only [Value.slice.injEq, Option.some.injEq, Addr.mk.injEq] at h1
                            refine .inr ⟨by have := HM.out; omega, g, 0, ds, by rw [HM.out], by omega, ?_⟩
                            rw [h1.1.1]; exact RowAt.rowIn h5
                        have h := Rank_v _ ls tq _ w' hrv (by have := HM.out; omega) (Vs.out.below hb3).lies (HP.out.below hw3) (HMq.out.below hb3)
                        refine h.mono ?_
                        rintro e w9 ⟨r, o, rfl, hr, hb9⟩
                        have hj2 : j < ls.length := by have := HM.out; omega
                        have hself := rk_self ls ((inc_iff ls).1 (inc_congr EQs.out.symm ((inc_iff S).2 H5.out.1.1))) HVS.out j hj2
                        have e := HGq.out
                        rw [e] at hself
                        obtain ⟨rfl, rfl⟩ := hr.one hself
                        exact ⟨rfl, hb9⟩
                      have lj0 : (0 : Int) ≤ (j : Int) := by omega
                      have lj1 : (j : Int) < (m : Int) := by omega
                      have cz : ((c : Int) == 0) = false := by simp; omega
                      have jj : ((j : Int) != (j : Int)) = false := by simp
                      clear hc hcp
                      have HQ0 : Hid (w12.cell? ⟨g, j * 4, none⟩ = some (.int .i64 tq.kind)) := Lib.hid q0
                      have HQ1 : Hid (w12.cell? ⟨g, j * 4 + 1, none⟩ = some (.int .i64 tq.num)) := Lib.hid q1
                      have HQ2 : Hid (w12.cell? ⟨g, j * 4 + 2, none⟩ = some (.string tq.name)) := Lib.hid q2
                      have HQ3 : Hid (w12.cell? ⟨g, j * 4 + 3, none⟩ = some (.slice qa tq.args.length qc)) := Lib.hid q3
                      clear q0 q1 q2 q3
                      by_cases hj0 : 0 < j
                      · obtain ⟨y, hy⟩ : ∃ y : Nat, y = j - 1 := ⟨_, rfl⟩
                        have hY : (j : Int) - 1 = (y : Int) := by omega
                        have hyn : y < m := by omega
                        have hkp : y < ls.length := by have := HM.out; omega
                        have cp := (HR.out.below hb.out).at y hkp
                        have mp := Vs.out.lies _ (List.getElem_mem hkp)
                        have gp := getD_at ls y hkp
                        obtain ⟨ep, hep⟩ : ∃ q, ls[y] = q := ⟨_, rfl⟩
                        rw [hep] at cp mp gp
                        obtain ⟨tp, vp⟩ := ep
                        obtain ⟨pa, pc, ev⟩ := mp.slice
                        obtain rfl : vp = .slice pa tp.args.length pc := ev
                        obtain ⟨p0, p1, p2, p3⟩ := cp
                        have HGp := Lib.hid gp
                        have HMp := Lib.hid mp
                        clear gp hep mp hkp
                        have q0 := cell_below hb.out _ _ HQ0.out
                        have q1 := cell_below hb.out _ _ HQ1.out
                        have q2 := cell_below hb.out _ _ HQ2.out
                        have q3 := cell_below hb.out _ _ HQ3.out
                        have HSRT : Hid (∀ i j (h1 : i < ls.length) (h2 : j < ls.length), i < j → cT ls[i].1 ls[j].1 < 0) := Lib.hid (fun i j h1 h2 hij =>
                          List.pairwise_iff_getElem.1 ((inc_iff ls).1 (inc_congr EQs.out.symm ((inc_iff S).2 H5.out.1.1))) i j h1 h2 hij)
                        simp only [Nat.zero_add] at p0 p1 p2 p3
                        obtain ⟨z, hz0⟩ : ∃ z, cT tp tq = z := ⟨_, rfl⟩
                        have HZ : Hid (z < 0) := Lib.hid (by
                          have h1 : y < ls.length := by have := HM.out; omega
                          have h2 : j < ls.length := by have := HM.out; omega
                          have e1 := HGp.out
                          have e2 := HGq.out
                          rw [getD_at ls y h1] at e1
                          rw [getD_at ls j h2] at e2
                          have h := HSRT.out y j h1 h2 (by omega)
                          rw [e1, e2] at h
                          rw [← hz0]; exact h)
                        have HVBO : Hid (validB tp = true ∧ validB tq = true) := Lib.hid (by
                          have h1 : y < ls.length := by have := HM.out; omega
                          have h2 : j < ls.length := by have := HM.out; omega
                          have e1 := HGp.out
                          have e2 := HGq.out
                          rw [getD_at ls y h1] at e1
                          rw [getD_at ls j h2] at e2
                          have g1 := HVS.out _ (List.getElem_mem h1)
                          have g2 := HVS.out _ (List.getElem_mem h2)
                          rw [e1] at g1; rw [e2] at g2
                          exact ⟨g1, g2⟩)
                        have HCC : Hid (∀ w', Below wr.heap.size wr w' → Calls Tryd.prog 12 #[tv tp (.slice pa tp.args.length pc), tv tq (.slice qa tq.args.length qc)] w' fun e w'' => e = .returned (.int .i64 z) ∧ Below w'.heap.size w' w'') := fun w' h => by
                          have hb3 := hb.out.trans (h.mono hb.out.size)
                          have hw3 := B12.out.trans (hb3.mono B12.out.size)
                          have hq : cmpV tp tq = z := by rw [cmpV, if_pos HVBO.out]; exact hz0
                          rw [← hq]
                          exact Cmp_any _ _ _ _ _ (HMp.out.below hb3) (HMq.out.below hb3) (HP.out.below hw3)
                        have wy := sub_bits y (by omega)
                        have ly0 : (0 : Int) ≤ (y : Int) := by omega
                        have ly1 : (y : Int) < (m : Int) := by omega
                        have lj0 : (0 : Int) ≤ (j : Int) := by omega
                        have lj1 : (j : Int) < (m : Int) := by omega
                        have dj : decide ((0 : Int) < (j : Int)) = true := by simp; omega
                        have dj2 : (0 : Int) < (j : Int) := by omega
                        have zn := HZ.out
                        have e9 : decide (0 ≤ z) = false := by simp; omega
                        have e9' : ¬ 0 ≤ z := by omega
                        clear hz0 hy
                        have hS0 : Below wr.heap.size wr wr.drew := (Below.refl _ _).drew
                        have HS : Hid (∀ w', Below wr.heap.size wr w' → (fun w' => Below wr.heap.size wr w' ∧ w'.cell? ⟨g, y * 4, none⟩ = some (.int .i64 tp.kind) ∧ w'.cell? ⟨g, y * 4 + 1, none⟩ = some (.int .i64 tp.num) ∧ w'.cell? ⟨g, y * 4 + 2, none⟩ = some (.string tp.name) ∧ w'.cell? ⟨g, y * 4 + 3, none⟩ = some (.slice pa tp.args.length pc) ∧ w'.cell? ⟨g, j * 4, none⟩ = some (.int .i64 tq.kind) ∧ w'.cell? ⟨g, j * 4 + 1, none⟩ = some (.int .i64 tq.num) ∧ w'.cell? ⟨g, j * 4 + 2, none⟩ = some (.string tq.name) ∧ w'.cell? ⟨g, j * 4 + 3, none⟩ = some (.slice qa tq.args.length qc)) w') := fun w' h => ⟨h, cell_below h _ _ p0, cell_below h _ _ p1, cell_below h _ _ p2, cell_below h _ _ p3, cell_below h _ _ q0, cell_below h _ _ q1, cell_below h _ _ q2, cell_below h _ _ q3⟩
                        go_wp2_with fail
                        go_region_held3 (fun w' => Below wr.heap.size wr w' ∧ w'.cell? ⟨g, y * 4, none⟩ = some (.int .i64 tp.kind) ∧ w'.cell? ⟨g, y * 4 + 1, none⟩ = some (.int .i64 tp.num) ∧ w'.cell? ⟨g, y * 4 + 2, none⟩ = some (.string tp.name) ∧ w'.cell? ⟨g, y * 4 + 3, none⟩ = some (.slice pa tp.args.length pc) ∧ w'.cell? ⟨g, j * 4, none⟩ = some (.int .i64 tq.kind) ∧ w'.cell? ⟨g, j * 4 + 1, none⟩ = some (.int .i64 tq.num) ∧ w'.cell? ⟨g, j * 4 + 2, none⟩ = some (.string tq.name) ∧ w'.cell? ⟨g, j * 4 + 3, none⟩ = some (.slice qa tq.args.length qc))
                          (first | exact HS.out _ h5 | exact HS.out _ hS0 | assumption | go_keep)
                          (first
                            | (go_at_call 12; ((with_reducible refine (HCC.out _ (by assumption : Below wr.heap.size wr _)).mono ?_); rintro e wz ⟨rfl, hbz⟩; have h5 : Below wr.heap.size wr wz := Below.trans (by assumption : Below wr.heap.size wr _) (hbz.mono (Below.size (by assumption : Below wr.heap.size wr _))))))
                        have H6 := Lib.hid h5
                        clear p0 p1 p2 p3 q0 q1 q2 q3 h5 hS0 HS
                        clear wy ly0 ly1 dj dj2 zn e9 e9' hY
                        have HBW := Lib.hid (hb.out.trans (H6.out.mono hb.out.size))
                        have r0 := cell_below HBW.out _ _ HQ0.out
                        have r1 := cell_below HBW.out _ _ HQ1.out
                        have r2 := cell_below HBW.out _ _ HQ2.out
                        have r3 := cell_below HBW.out _ _ HQ3.out
                        go_wp2_with fail
                        refine (HRK.out _ HBW.out).mono ?_
                        rintro e wb ⟨rfl, hbb⟩
                        have HBB := Lib.hid (HBW.out.trans (hbb.mono HBW.out.size))
                        clear r0 r1 r2 r3 hbb
                        have r0 := cell_below HBB.out _ _ HQ0.out
                        have r1 := cell_below HBB.out _ _ HQ1.out
                        have r2 := cell_below HBB.out _ _ HQ2.out
                        have r3 := cell_below HBB.out _ _ HQ3.out
                        go_wp2_with fail
                        refine (HCN.out _ HBB.out).mono ?_
                        rintro e wc ⟨rfl, hbc⟩
                        have HBC := Lib.hid (HBB.out.trans (hbc.mono HBB.out.size))
                        clear r0 r1 r2 r3 hbc
                        go_wp2_with fail
                        go_roundw
                        case rel => exact ⟨j + 1, by omega, by go_num, HBC⟩
                        case measure => simp [intOf]; omega
                      · obtain rfl : j = 0 := by omega
                        have d0 : decide ((0 : Int) < ((0 : Nat) : Int)) = false := by simp
                        have q1 : (0 : Int) < (m : Int) := by omega
                        have q2 : 0 < m := by omega
                        go_wp2_with fail
                        go_quiet (fail)
                        have HBW : ∀ q, Hid (Below w12.heap.size w12 (wr.drewN q)) := fun q => Lib.hid (below_drewN hb.out q)
                        have r0 := cell_below hb.out _ _ HQ0.out
                        have r1 := cell_below hb.out _ _ HQ1.out
                        have r2 := cell_below hb.out _ _ HQ2.out
                        have r3 := cell_below hb.out _ _ HQ3.out
                        go_wp2_with fail
                        refine (HRK.out _ (HBW _).out).mono ?_
                        rintro e wb ⟨rfl, hbb⟩
                        have HBB := Lib.hid ((HBW _).out.trans (hbb.mono (HBW _).out.size))
                        clear r0 r1 r2 r3 hbb
                        have r0 := cell_below HBB.out _ _ HQ0.out
                        have r1 := cell_below HBB.out _ _ HQ1.out
                        have r2 := cell_below HBB.out _ _ HQ2.out
                        have r3 := cell_below HBB.out _ _ HQ3.out
                        go_wp2_with fail
                        refine (HCN.out _ HBB.out).mono ?_
                        rintro e wc ⟨rfl, hbc⟩
                        have HBC := Lib.hid (HBB.out.trans (hbc.mono HBB.out.size))
                        clear r0 r1 r2 r3 hbc
                        go_wp2_with fail
                        go_roundw
                        case rel => exact ⟨0 + 1, by omega, by go_num, HBC⟩
                        case measure => simp [intOf]; omega
                    · have BZ := Lib.hid (B12.out.trans (hb.out.mono B12.out.size))
                      have CA := Lib.hid (awake_any wr (HP.out.below BZ.out))
                      go_wp2_with fail
                      refine CA.out.mono ?_
                      rintro e w99 ⟨rfl, hb99⟩
                      go_wp2_with fail
                      go_ret
                      exact ⟨rfl, BZ.out.trans (hb99.mono BZ.out.size)⟩
        · have f1 : decide ((k : Int) < (ns : Int)) = false := by simp; omega
          have f1' : ¬ (k : Int) < (ns : Int) := by omega
          clear k1
          go_wp2_with fail
          clear f1 f1'
          have Q := Lib.hid ((H5.out.2.1 wr R4.out L4.out (HP.out.below B4.out)).1)
          go_wp2_with fail
          refine Q.out.mono ?_
          rintro e w5 ⟨vs, ls, rfl, hs, cs, hb5⟩
          have EQs := Lib.hid hs
          have Vs := Lib.hid cs
          clear Q hs cs
          have B5 := Lib.hid (B4.out.trans (hb5.mono B4.out.size))
          have R5 := Lib.hid (R4.out.below hb5)
          have L5 : Hid (∀ p ∈ l, LiesT w5 p.1 p.2) := fun p hp => (L4.out p hp).below hb5
          have O5 := Lib.hid (O4.out.below hb5)
          have M5 : Hid (∀ p ∈ lo, LiesT w5 p.1 p.2) := fun p hp => (M4.out p hp).below hb5
          clear hb5
          obtain ⟨axs, ds, he⟩ := Vs.out.rowW.slice
          subst he
          have Q := Lib.hid ((H5.out.2.1 w5 R5.out L5.out (HP.out.below B5.out)).2)
          go_wp2_with fail
          refine Q.out.mono ?_
          rintro e w6 ⟨vt, lt, rfl, ht, ct, hb6⟩
          have EQt := Lib.hid ht
          have Vt := Lib.hid ct
          clear Q ht ct
          have B6 := Lib.hid (B5.out.trans (hb6.mono B5.out.size))
          have R6 := Lib.hid (R5.out.below hb6)
          have L6 : Hid (∀ p ∈ l, LiesT w6 p.1 p.2) := fun p hp => (L5.out p hp).below hb6
          have O6 := Lib.hid (O5.out.below hb6)
          have M6 : Hid (∀ p ∈ lo, LiesT w6 p.1 p.2) := fun p hp => (M5.out p hp).below hb6
          have Vs := Lib.hid (Vs.out.below hb6)
          clear hb6
          obtain ⟨axt, dt, he⟩ := Vt.out.rowW.slice
          subst he
          have hltn : lt.length = n := by have := congrArg List.length EQt.out; have h2 := H5.out.1.2.2.2.2.2.length_eq; simp only [List.length_map] at this; have := HN.out; omega
          have HLT := Lib.hid hltn
          rw [hltn]
          clear hltn
          have Q := Lib.hid ((H5.out.2.2.1 w6 O6.out M6.out (HP.out.below B6.out)).1)
          go_wp2_with fail
          refine Q.out.mono ?_
          rintro e w7 ⟨vu, lu, rfl, hu, cu, hb7⟩
          have EQu := Lib.hid hu
          have Vu := Lib.hid cu
          clear Q hu cu
          have B7 := Lib.hid (B6.out.trans (hb7.mono B6.out.size))
          have R7 := Lib.hid (R6.out.below hb7)
          have L7 : Hid (∀ p ∈ l, LiesT w7 p.1 p.2) := fun p hp => (L6.out p hp).below hb7
          have O7 := Lib.hid (O6.out.below hb7)
          have M7 : Hid (∀ p ∈ lo, LiesT w7 p.1 p.2) := fun p hp => (M6.out p hp).below hb7
          have Vs := Lib.hid (Vs.out.below hb7)
          have Vt := Lib.hid (Vt.out.below hb7)
          clear hb7
          obtain ⟨axu, du, he⟩ := Vu.out.rowW.slice
          subst he
          have Q := Lib.hid ((H5.out.2.2.1 w7 O7.out M7.out (HP.out.below B7.out)).2)
          go_wp2_with fail
          refine Q.out.mono ?_
          rintro e w8 ⟨vv, lv, rfl, hv, cv, hb8⟩
          have EQv := Lib.hid hv
          have Vv := Lib.hid cv
          clear Q hv cv
          have B8 := Lib.hid (B7.out.trans (hb8.mono B7.out.size))
          have R8 := Lib.hid (R7.out.below hb8)
          have L8 : Hid (∀ p ∈ l, LiesT w8 p.1 p.2) := fun p hp => (L7.out p hp).below hb8
          have O8 := Lib.hid (O7.out.below hb8)
          have M8 : Hid (∀ p ∈ lo, LiesT w8 p.1 p.2) := fun p hp => (M7.out p hp).below hb8
          have Vs := Lib.hid (Vs.out.below hb8)
          have Vt := Lib.hid (Vt.out.below hb8)
          have Vu := Lib.hid (Vu.out.below hb8)
          clear hb8
          obtain ⟨axv, dv, he⟩ := Vv.out.rowW.slice
          subst he
          have Vtn : Hid (CpV w8 w5.heap.size w6.heap.size (.slice axt n dt) lt) := Lib.hid (by have h := Vt.out; rw [HLT.out] at h; exact h)
          have Q := Lib.hid (H5.out.2.2.2 _ lt _ _ w8 Vtn.out EQt.out (HP.out.below B8.out))
          go_wp2_with fail
          refine Q.out.mono ?_
          rintro e w9 ⟨vg, lg, rfl, hg, cg, hb9⟩
          have EQg := Lib.hid hg
          have Vg := Lib.hid cg
          clear Q hg cg
          have B9 := Lib.hid (B8.out.trans (hb9.mono B8.out.size))
          have R9 := Lib.hid (R8.out.below hb9)
          have L9 : Hid (∀ p ∈ l, LiesT w9 p.1 p.2) := fun p hp => (L8.out p hp).below hb9
          have O9 := Lib.hid (O8.out.below hb9)
          have M9 : Hid (∀ p ∈ lo, LiesT w9 p.1 p.2) := fun p hp => (M8.out p hp).below hb9
          have Vs := Lib.hid (Vs.out.below hb9)
          have Vt := Lib.hid (Vt.out.below hb9)
          have Vu := Lib.hid (Vu.out.below hb9)
          have Vv := Lib.hid (Vv.out.below hb9)
          clear hb9
          obtain ⟨axg, dg, he⟩ := Vg.out.rowW.slice
          subst he
          obtain ⟨m, hm⟩ : ∃ m, ls.length = m := ⟨_, rfl⟩
          have HM := Lib.hid hm
          have hm40 : m ≤ 40 := by have h1 := congrArg List.length EQs.out; have h2 := H5.out.1.2.2.2.1; simp only [List.length_map] at h1; omega
          have hmn : m ≤ n := by have h1 := congrArg List.length EQs.out; have h2 := H5.out.1.2.2.2.1; simp only [List.length_map] at h1; omega
          have HVS : Hid (∀ p ∈ ls, validB p.1 = true) := Lib.hid (fun p hp => by
            have h2 : p.1 ∈ S.map Prod.fst := by rw [← EQs.out]; exact List.mem_map_of_mem hp
            obtain ⟨q, hq, e⟩ := List.mem_map.1 h2
            rw [← e]; exact HV.out q (H5.out.1.2.2.1 q hq))
          have HVT : Hid (∀ p ∈ lt, validB p.1 = true) := Lib.hid (fun p hp => by
            have h2 : p.1 ∈ TL.map Prod.fst := by rw [← EQt.out]; exact List.mem_map_of_mem hp
            obtain ⟨q, hq, e⟩ := List.mem_map.1 h2
            rw [← e]; exact HV.out q (H5.out.1.2.2.2.2.2.subset hq))
          clear hm
          have Q : Hid (Calls Tryd.prog 22 #[.slice axs ls.length ds, .slice axu lu.length du] w9 fun e w' => e = .returned (.bool true) ∧ Below w9.heap.size w9 w') := Lib.hid (by
            have h := sall_w _ _ ls lu w9 Vs.out.rowW Vu.out.rowW (by have := HM.out; omega) Vs.out.lies Vu.out.lies
            rw [sall_refl ls lu (EQs.out.trans EQu.out.symm) HVS.out] at h
            exact h)
          go_wp2_with fail
          refine Q.out.mono ?_
          rintro e w10 ⟨rfl, hb10⟩
          clear Q
          have B10 := Lib.hid (B9.out.trans (hb10.mono B9.out.size))
          have R10 := Lib.hid (R9.out.below hb10)
          have L10 : Hid (∀ p ∈ l, LiesT w10 p.1 p.2) := fun p hp => (L9.out p hp).below hb10
          have O10 := Lib.hid (O9.out.below hb10)
          have M10 : Hid (∀ p ∈ lo, LiesT w10 p.1 p.2) := fun p hp => (M9.out p hp).below hb10
          have Vs := Lib.hid (Vs.out.below hb10)
          have Vt := Lib.hid (Vt.out.below hb10)
          have Vu := Lib.hid (Vu.out.below hb10)
          have Vv := Lib.hid (Vv.out.below hb10)
          have Vg := Lib.hid (Vg.out.below hb10)
          clear hb10
          have Q : Hid (Calls Tryd.prog 22 #[.slice axt n dt, .slice axv lv.length dv] w10 fun e w' => e = .returned (.bool true) ∧ Below w10.heap.size w10 w') := Lib.hid (by
            have h := sall_w _ _ lt lv w10 Vt.out.rowW Vv.out.rowW (by have := HLT.out; omega) Vt.out.lies Vv.out.lies
            rw [sall_refl lt lv (EQt.out.trans EQv.out.symm) HVT.out] at h
            rw [HLT.out] at h; exact h)
          go_wp2_with fail
          refine Q.out.mono ?_
          rintro e w11 ⟨rfl, hb11⟩
          clear Q
          have B11 := Lib.hid (B10.out.trans (hb11.mono B10.out.size))
          have R11 := Lib.hid (R10.out.below hb11)
          have L11 : Hid (∀ p ∈ l, LiesT w11 p.1 p.2) := fun p hp => (L10.out p hp).below hb11
          have O11 := Lib.hid (O10.out.below hb11)
          have M11 : Hid (∀ p ∈ lo, LiesT w11 p.1 p.2) := fun p hp => (M10.out p hp).below hb11
          have Vs := Lib.hid (Vs.out.below hb11)
          have Vt := Lib.hid (Vt.out.below hb11)
          have Vu := Lib.hid (Vu.out.below hb11)
          have Vv := Lib.hid (Vv.out.below hb11)
          have Vg := Lib.hid (Vg.out.below hb11)
          clear hb11
          have Q : Hid (Calls Tryd.prog 22 #[.slice axs ls.length ds, .slice axg lg.length dg] w11 fun e w' => e = .returned (.bool true) ∧ Below w11.heap.size w11 w') := Lib.hid (by
            have h := sall_w _ _ ls lg w11 Vs.out.rowW Vg.out.rowW (by have := HM.out; omega) Vs.out.lies Vg.out.lies
            rw [sall_refl ls lg (EQs.out.trans EQg.out.symm) HVS.out] at h
            exact h)
          go_wp2_with fail
          refine Q.out.mono ?_
          rintro e w12 ⟨rfl, hb12⟩
          clear Q
          have B12 := Lib.hid (B11.out.trans (hb12.mono B11.out.size))
          have R12 := Lib.hid (R11.out.below hb12)
          have L12 : Hid (∀ p ∈ l, LiesT w12 p.1 p.2) := fun p hp => (L11.out p hp).below hb12
          have O12 := Lib.hid (O11.out.below hb12)
          have M12 : Hid (∀ p ∈ lo, LiesT w12 p.1 p.2) := fun p hp => (M11.out p hp).below hb12
          have Vs := Lib.hid (Vs.out.below hb12)
          have Vt := Lib.hid (Vt.out.below hb12)
          have Vu := Lib.hid (Vu.out.below hb12)
          have Vv := Lib.hid (Vv.out.below hb12)
          have Vg := Lib.hid (Vg.out.below hb12)
          clear hb12
          go_wp2_with fail
          go_loopw [19] (fun vi wr => ∃ j : Nat, j ≤ n ∧ vi = .int .i64 j ∧ Hid (Below w12.heap.size w12 wr)) (fun vi _ => n - (intOf vi).toNat)
          case atStart => exact ⟨0, by omega, rfl, Lib.hid (Below.refl _ _)⟩
          case round =>
            obtain ⟨j, hj, rfl, hb⟩ := hrel
            by_cases hlt : j < n
            · obtain ⟨b0, off, ha0, hrow⟩ : ∃ b off, a0 = some ⟨b, off, none⟩ ∧ RowIn w12 b off l := by
                rcases R12.out with ⟨h, _⟩ | ⟨_, b, off, cap, h1, h2, h3⟩
                · have := HN.out; rw [h] at this; simp at this; omega
                · simp only [Value.slice.injEq] at h1
                  exact ⟨b, off, h1.1, h3⟩
              subst ha0
              have HR := Lib.hid hrow
              have hjn : j < n := hlt
              have hkp : j < l.length := by have := HN.out; omega
              have cp := (HR.out.below hb.out).at j hkp
              have mp := L12.out _ (List.getElem_mem hkp)
              have gp := getD_at l j hkp
              obtain ⟨ep, hep⟩ : ∃ q, l[j] = q := ⟨_, rfl⟩
              rw [hep] at cp mp gp
              obtain ⟨tp, vp⟩ := ep
              obtain ⟨pa, pc, ev⟩ := mp.slice
              obtain rfl : vp = .slice pa tp.args.length pc := ev
              obtain ⟨p0, p1, p2, p3⟩ := cp
              have HGp := Lib.hid gp
              have HMp := Lib.hid mp
              clear gp hep mp hkp
              have HMEM : Hid (tp ∈ l.map Prod.fst) := Lib.hid (by
                have hj2 : j < l.length := by have := HN.out; omega
                have e := HGp.out
                rw [getD_at l j hj2] at e
                have h := List.mem_map_of_mem (f := Prod.fst) (List.getElem_mem hj2)
                rw [e] at h; exact h)
              have HVP : Hid (validB tp = true) := Lib.hid (by
                obtain ⟨q, hq, e⟩ := List.mem_map.1 HMEM.out
                rw [← e]; exact HV.out q hq)
              obtain ⟨c, hc⟩ : ∃ c, cntS l tp = c := ⟨_, rfl⟩
              have HC1 : Hid (∀ w', Below wr.heap.size wr w' → Calls Tryd.prog 32 #[.slice axt n dt, tv tp (.slice pa tp.args.length pc)] w' fun e w'' => e = .returned (.int .i64 c) ∧ Below w'.heap.size w' w'') := fun w' h => by
                have hb3 := hb.out.trans (h.mono hb.out.size)
                have e : cntS lt tp = c := by rw [← hc]; exact cnt_map (by rw [EQt.out]; exact H5.out.1.2.2.2.2.2.map _) tp
                have h := count_w _ lt tp _ w' (Vt.out.below hb3).rowW (by have := HLT.out; omega) (Vt.out.below hb3).lies (HMp.out.below hb3)
                rw [e, HLT.out] at h; exact h
              have HC2 : Hid (∀ w', Below wr.heap.size wr w' → Calls Tryd.prog 32 #[.slice (some ⟨b0, off, none⟩) n c0, tv tp (.slice pa tp.args.length pc)] w' fun e w'' => e = .returned (.int .i64 c) ∧ Below w'.heap.size w' w'') := fun w' h => by
                have hb3 := hb.out.trans (h.mono hb.out.size)
                have h := count_w _ l tp _ w' (R12.out.below hb3).weak (by have := HN.out; omega) (fun p hp => (L12.out p hp).below hb3) (HMp.out.below hb3)
                rw [hc] at h; exact h
              have HC3 : Hid (∀ w', Below wr.heap.size wr w' → Calls Tryd.prog 32 #[.slice axs ls.length ds, tv tp (.slice pa tp.args.length pc)] w' fun e w'' => e = .returned (.int .i64 1) ∧ Below w'.heap.size w' w'') := fun w' h => by
                have hb3 := hb.out.trans (h.mono hb.out.size)
                have e : cntS ls tp = 1 := by
                  have hi : Inc ls := (inc_iff ls).1 (inc_congr EQs.out.symm ((inc_iff S).2 H5.out.1.1))
                  rcases inc_cnt ls hi HVS.out tp HVP.out with ⟨h, _⟩ | ⟨_, h⟩
                  · exact h
                  · exfalso
                    obtain ⟨q, hq, e⟩ := List.mem_map.1 HMEM.out
                    obtain ⟨q2, hq2, hz⟩ := H5.out.1.2.1 q hq
                    have h3 : q2.1 ∈ ls.map Prod.fst := by rw [EQs.out]; exact List.mem_map_of_mem hq2
                    obtain ⟨q3, hq3, e3⟩ := List.mem_map.1 h3
                    exact h q3 hq3 (by rw [e3, ← e]; exact hz)
                have h := count_w _ ls tp _ w' (Vs.out.below hb3).rowW (by have := HM.out; omega) (Vs.out.below hb3).lies (HMp.out.below hb3)
                rw [e] at h; exact h
              have lj0 : (0 : Int) ≤ (j : Int) := by omega
              have lj1 : (j : Int) < (n : Int) := by omega
              have cc : ((c : Int) != (c : Int)) = false := by simp
              clear hc
              have hS0 : Below wr.heap.size wr wr.drew := (Below.refl _ _).drew
              have HS : Hid (∀ w', Below wr.heap.size wr w' → (fun w' => Below wr.heap.size wr w' ∧ w'.cell? ⟨b0, off + j * 4, none⟩ = some (.int .i64 tp.kind) ∧ w'.cell? ⟨b0, off + j * 4 + 1, none⟩ = some (.int .i64 tp.num) ∧ w'.cell? ⟨b0, off + j * 4 + 2, none⟩ = some (.string tp.name) ∧ w'.cell? ⟨b0, off + j * 4 + 3, none⟩ = some (.slice pa tp.args.length pc)) w') := fun w' h => ⟨h, cell_below h _ _ p0, cell_below h _ _ p1, cell_below h _ _ p2, cell_below h _ _ p3⟩
              go_wp2_with fail
              go_region_held3 (fun w' => Below wr.heap.size wr w' ∧ w'.cell? ⟨b0, off + j * 4, none⟩ = some (.int .i64 tp.kind) ∧ w'.cell? ⟨b0, off + j * 4 + 1, none⟩ = some (.int .i64 tp.num) ∧ w'.cell? ⟨b0, off + j * 4 + 2, none⟩ = some (.string tp.name) ∧ w'.cell? ⟨b0, off + j * 4 + 3, none⟩ = some (.slice pa tp.args.length pc))
                (first | exact HS.out _ h5 | exact HS.out _ hS0 | assumption | go_keep)
                (first
                  | (go_at_call 32; ((with_reducible refine (HC1.out _ (by assumption : Below wr.heap.size wr _)).mono ?_); rintro e wa0 ⟨rfl, hba0⟩; have h5 : Below wr.heap.size wr wa0 := Below.trans (by assumption : Below wr.heap.size wr _) (hba0.mono (Below.size (by assumption : Below wr.heap.size wr _)))))
                  | (go_at_call 32; ((with_reducible refine (HC2.out _ (by assumption : Below wr.heap.size wr _)).mono ?_); rintro e wa1 ⟨rfl, hba1⟩; have h5 : Below wr.heap.size wr wa1 := Below.trans (by assumption : Below wr.heap.size wr _) (hba1.mono (Below.size (by assumption : Below wr.heap.size wr _)))))
                  | (go_at_call 32; ((with_reducible refine (HC3.out _ (by assumption : Below wr.heap.size wr _)).mono ?_); rintro e wa2 ⟨rfl, hba2⟩; have h5 : Below wr.heap.size wr wa2 := Below.trans (by assumption : Below wr.heap.size wr _) (hba2.mono (Below.size (by assumption : Below wr.heap.size wr _))))))
              have H6 := Lib.hid h5
              clear p0 p1 p2 p3 h5 hS0 HS
              go_wp2_with fail
              go_roundw
              case rel => exact ⟨j + 1, by omega, by go_num, Lib.hid (hb.out.trans (H6.out.mono hb.out.size))⟩
              case measure => simp [intOf]; omega
            · have HBX := hb
              go_wp2_with fail
              clear hb hlt hj
              go_loopw [20] (fun vi wr => ∃ j : Nat, j ≤ n ∧ vi = .int .i64 j ∧ Hid (Below w12.heap.size w12 wr)) (fun vi _ => n - (intOf vi).toNat)
              case atStart => exact ⟨0, by omega, rfl, HBX⟩
              case round =>
                obtain ⟨j, hj, rfl, hb⟩ := hrel
                by_cases hlt : j < n
                · by_cases hj0 : 0 < j
                  · obtain ⟨g, hat, hrow⟩ : ∃ g, axt = some ⟨g, 0, none⟩ ∧ RowAt w12 g lt [] 24 := by
                      rcases Vt.out with ⟨h, _⟩ | ⟨g, h1, _, _, _, h5, _⟩
                      · have := HLT.out; rw [h] at this; simp at this; omega
                      · simp only [Value.slice.injEq] at h1; exact ⟨g, h1.1, h5⟩
                    subst hat
                    have HR := Lib.hid (RowAt.rowIn hrow)
                    obtain ⟨y, hy⟩ : ∃ y : Nat, y = j - 1 := ⟨_, rfl⟩
                    have hY : (j : Int) - 1 = (y : Int) := by omega
                    have hyn : y < n := by omega
                    have hkp : y < lt.length := by have := HLT.out; omega
                    have cp := (HR.out.below hb.out).at y hkp
                    have mp := Vt.out.lies _ (List.getElem_mem hkp)
                    have gp := getD_at lt y hkp
                    obtain ⟨ep, hep⟩ : ∃ q, lt[y] = q := ⟨_, rfl⟩
                    rw [hep] at cp mp gp
                    obtain ⟨tp, vp⟩ := ep
                    obtain ⟨pa, pc, ev⟩ := mp.slice
                    obtain rfl : vp = .slice pa tp.args.length pc := ev
                    obtain ⟨p0, p1, p2, p3⟩ := cp
                    have HGp := Lib.hid gp
                    have HMp := Lib.hid mp
                    clear gp hep mp hkp
                    have hkq : j < lt.length := by have := HLT.out; omega
                    have cq := (HR.out.below hb.out).at j hkq
                    have mq := Vt.out.lies _ (List.getElem_mem hkq)
                    have gq := getD_at lt j hkq
                    obtain ⟨eq, heq⟩ : ∃ q, lt[j] = q := ⟨_, rfl⟩
                    rw [heq] at cq mq gq
                    obtain ⟨tq, vq⟩ := eq
                    obtain ⟨qa, qc, ev⟩ := mq.slice
                    obtain rfl : vq = .slice qa tq.args.length qc := ev
                    obtain ⟨q0, q1, q2, q3⟩ := cq
                    have HGq := Lib.hid gq
                    have HMq := Lib.hid mq
                    clear gq heq mq hkq
                    have HSRT : Hid (∀ i j (h1 : i < lt.length) (h2 : j < lt.length), i < j → cT lt[i].1 lt[j].1 ≤ 0) := Lib.hid (fun i j h1 h2 hij => by
                      have hs : (lt.map Prod.fst).Pairwise (fun a b => cT a b ≤ 0) := by rw [EQt.out]; exact sorted_map H5.out.1.2.2.2.2.1
                      exact List.pairwise_iff_getElem.1 (List.pairwise_map.1 hs) i j h1 h2 hij)
                    simp only [Nat.zero_add] at p0 p1 p2 p3 q0 q1 q2 q3
                    obtain ⟨z, hz0⟩ : ∃ z, cT tp tq = z := ⟨_, rfl⟩
                    have HZ : Hid (z ≤ 0) := Lib.hid (by
                      have h1 : y < lt.length := by have := HLT.out; omega
                      have h2 : j < lt.length := by have := HLT.out; omega
                      have e1 := HGp.out
                      have e2 := HGq.out
                      rw [getD_at lt y h1] at e1
                      rw [getD_at lt j h2] at e2
                      have h := HSRT.out y j h1 h2 (by omega)
                      rw [e1, e2] at h
                      rw [← hz0]; exact h)
                    have HVBO : Hid (validB tp = true ∧ validB tq = true) := Lib.hid (by
                      have h1 : y < lt.length := by have := HLT.out; omega
                      have h2 : j < lt.length := by have := HLT.out; omega
                      have e1 := HGp.out
                      have e2 := HGq.out
                      rw [getD_at lt y h1] at e1
                      rw [getD_at lt j h2] at e2
                      have g1 := HVT.out _ (List.getElem_mem h1)
                      have g2 := HVT.out _ (List.getElem_mem h2)
                      rw [e1] at g1; rw [e2] at g2
                      exact ⟨g1, g2⟩)
                    have HCC : Hid (∀ w', Below wr.heap.size wr w' → Calls Tryd.prog 12 #[tv tp (.slice pa tp.args.length pc), tv tq (.slice qa tq.args.length qc)] w' fun e w'' => e = .returned (.int .i64 z) ∧ Below w'.heap.size w' w'') := fun w' h => by
                      have hb3 := hb.out.trans (h.mono hb.out.size)
                      have hw3 := B12.out.trans (hb3.mono B12.out.size)
                      have hq : cmpV tp tq = z := by rw [cmpV, if_pos HVBO.out]; exact hz0
                      rw [← hq]
                      exact Cmp_any _ _ _ _ _ (HMp.out.below hb3) (HMq.out.below hb3) (HP.out.below hw3)
                    have wy := sub_bits y (by omega)
                    have ly0 : (0 : Int) ≤ (y : Int) := by omega
                    have ly1 : (y : Int) < (n : Int) := by omega
                    have lj0 : (0 : Int) ≤ (j : Int) := by omega
                    have lj1 : (j : Int) < (n : Int) := by omega
                    have dj : decide ((0 : Int) < (j : Int)) = true := by simp; omega
                    have dj2 : (0 : Int) < (j : Int) := by omega
                    have zn := HZ.out
                    have e9 : decide (0 < z) = false := by simp; omega
                    have e9' : ¬ 0 < z := by omega
                    clear hz0 hy
                    have hS0 : Below wr.heap.size wr wr.drew := (Below.refl _ _).drew
                    have HS : Hid (∀ w', Below wr.heap.size wr w' → (fun w' => Below wr.heap.size wr w' ∧ w'.cell? ⟨g, y * 4, none⟩ = some (.int .i64 tp.kind) ∧ w'.cell? ⟨g, y * 4 + 1, none⟩ = some (.int .i64 tp.num) ∧ w'.cell? ⟨g, y * 4 + 2, none⟩ = some (.string tp.name) ∧ w'.cell? ⟨g, y * 4 + 3, none⟩ = some (.slice pa tp.args.length pc) ∧ w'.cell? ⟨g, j * 4, none⟩ = some (.int .i64 tq.kind) ∧ w'.cell? ⟨g, j * 4 + 1, none⟩ = some (.int .i64 tq.num) ∧ w'.cell? ⟨g, j * 4 + 2, none⟩ = some (.string tq.name) ∧ w'.cell? ⟨g, j * 4 + 3, none⟩ = some (.slice qa tq.args.length qc)) w') := fun w' h => ⟨h, cell_below h _ _ p0, cell_below h _ _ p1, cell_below h _ _ p2, cell_below h _ _ p3, cell_below h _ _ q0, cell_below h _ _ q1, cell_below h _ _ q2, cell_below h _ _ q3⟩
                    go_wp2_with fail
                    go_region_held3 (fun w' => Below wr.heap.size wr w' ∧ w'.cell? ⟨g, y * 4, none⟩ = some (.int .i64 tp.kind) ∧ w'.cell? ⟨g, y * 4 + 1, none⟩ = some (.int .i64 tp.num) ∧ w'.cell? ⟨g, y * 4 + 2, none⟩ = some (.string tp.name) ∧ w'.cell? ⟨g, y * 4 + 3, none⟩ = some (.slice pa tp.args.length pc) ∧ w'.cell? ⟨g, j * 4, none⟩ = some (.int .i64 tq.kind) ∧ w'.cell? ⟨g, j * 4 + 1, none⟩ = some (.int .i64 tq.num) ∧ w'.cell? ⟨g, j * 4 + 2, none⟩ = some (.string tq.name) ∧ w'.cell? ⟨g, j * 4 + 3, none⟩ = some (.slice qa tq.args.length qc))
                      (first | exact HS.out _ h5 | exact HS.out _ hS0 | assumption | go_keep)
                      (first
                        | (go_at_call 12; ((with_reducible refine (HCC.out _ (by assumption : Below wr.heap.size wr _)).mono ?_); rintro e wz ⟨rfl, hbz⟩; have h5 : Below wr.heap.size wr wz := Below.trans (by assumption : Below wr.heap.size wr _) (hbz.mono (Below.size (by assumption : Below wr.heap.size wr _))))))
                    have H6 := Lib.hid h5
                    clear p0 p1 p2 p3 q0 q1 q2 q3 h5 hS0 HS
                    go_wp2_with fail
                    go_roundw
                    case rel => exact ⟨j + 1, by omega, by go_num, Lib.hid (hb.out.trans (H6.out.mono hb.out.size))⟩
                    case measure => simp [intOf]; omega
                  · obtain rfl : j = 0 := by omega
                    have d0 : decide ((0 : Int) < ((0 : Nat) : Int)) = false := by simp
                    have q1 : (0 : Int) < (n : Int) := by omega
                    have q2 : 0 < n := by omega
                    go_wp2_with fail
                    go_quiet (fail)
                    go_wp2_with fail
                    go_roundw
                    case rel => exact ⟨0 + 1, by omega, by go_num, Lib.hid (below_drewN hb.out _)⟩
                    case measure => simp [intOf]; omega
                · have HBX := hb
                  rw [HM.out]
                  go_wp2_with fail
                  clear hb hlt hj
                  go_loopw [21] (fun vi wr => ∃ j : Nat, j ≤ m ∧ vi = .int .i64 j ∧ Hid (Below w12.heap.size w12 wr)) (fun vi _ => m - (intOf vi).toNat)
                  case atStart => exact ⟨0, by omega, rfl, HBX⟩
                  case round =>
                    obtain ⟨j, hj, rfl, hb⟩ := hrel
                    by_cases hlt : j < m
                    · obtain ⟨g, hat, hrow⟩ : ∃ g, axs = some ⟨g, 0, none⟩ ∧ RowAt w12 g ls [] 24 := by
                        rcases Vs.out with ⟨h, _⟩ | ⟨g, h1, _, _, _, h5, _⟩
                        · have := HM.out; rw [h] at this; simp at this; omega
                        · simp only [Value.slice.injEq] at h1; exact ⟨g, h1.1, h5⟩
                      subst hat
                      have HR := Lib.hid (RowAt.rowIn hrow)
                      clear hrow
                      have hkq : j < ls.length := by have := HM.out; omega
                      have cq := HR.out.at j hkq
                      have mq := Vs.out.lies _ (List.getElem_mem hkq)
                      have gq := getD_at ls j hkq
                      obtain ⟨eq, heq⟩ : ∃ q, ls[j] = q := ⟨_, rfl⟩
                      rw [heq] at cq mq gq
                      obtain ⟨tq, vq⟩ := eq
                      obtain ⟨qa, qc, ev⟩ := mq.slice
                      obtain rfl : vq = .slice qa tq.args.length qc := ev
                      obtain ⟨q0, q1, q2, q3⟩ := cq
                      have HGq := Lib.hid gq
                      have HMq := Lib.hid mq
                      clear gq heq mq hkq
                      simp only [Nat.zero_add] at q0 q1 q2 q3
                      have HMEM : Hid (∃ p ∈ l, p.1 = tq) := Lib.hid (by
                        have hj2 : j < ls.length := by have := HM.out; omega
                        have e := HGq.out
                        rw [getD_at ls j hj2] at e
                        have h := List.mem_map_of_mem (f := Prod.fst) (List.getElem_mem hj2)
                        rw [e, EQs.out] at h
                        obtain ⟨q, hq, e2⟩ := List.mem_map.1 h
                        exact ⟨q, H5.out.1.2.2.1 q hq, e2⟩)
                      have HTV1 : Hid (validB tq = true) := Lib.hid (by
                        obtain ⟨p, hp, e⟩ := HMEM.out
                        rw [← e]; exact HV.out p hp)
                      obtain ⟨c, hc⟩ : ∃ c, cntS l tq = c := ⟨_, rfl⟩
                      have hcp : 0 < c := by
                        obtain ⟨p, hp, e⟩ := HMEM.out
                        rw [← hc]
                        unfold cntS
                        refine List.length_pos_iff.2 (fun h => ?_)
                        have h2 : p ∈ l.filter fun q => sameV q.1 tq := List.mem_filter.2 ⟨hp, (sameV_iff _ _ (HV.out p hp) HTV1.out).2 (by rw [e, cT_self])⟩
                        rw [h] at h2; cases h2
                      have HCN : Hid (∀ w', Below w12.heap.size w12 w' → Calls Tryd.prog 32 #[.slice a0 n c0, tv tq (.slice qa tq.args.length qc)] w' fun e w'' => e = .returned (.int .i64 c) ∧ Below w'.heap.size w' w'') := fun w' hb3 => by
                        have h := count_w _ l tq _ w' (R12.out.below hb3).weak (by have := HN.out; omega) (fun p hp => (L12.out p hp).below hb3) (HMq.out.below hb3)
                        rw [hc] at h; exact h
                      have HRK : Hid (∀ w', Below w12.heap.size w12 w' → Calls Tryd.prog 26 #[.slice (some ⟨g, 0, none⟩) m ds, tv tq (.slice qa tq.args.length qc)] w' fun e w'' => e = .returned (.tuple #[.int .i64 j, .bool true]) ∧ Below w'.heap.size w' w'') := fun w' hb3 => by
                        have hw3 := B12.out.trans (hb3.mono B12.out.size)
                        have hrv : RowV w' (.slice (some ⟨g, 0, none⟩) m ds) ls := by
                          rcases (Vs.out.below hb3) with ⟨h, _⟩ | ⟨g2, h1, _, _, _, h5, _⟩
                          · have := HM.out; rw [h] at this; simp at this; omega
                          · simp only [Value.slice.injEq, Option.some.injEq, Addr.mk.injEq] at h1
                            refine .inr ⟨by have := HM.out; omega, g, 0, ds, by rw [HM.out], by omega, ?_⟩
                            rw [h1.1.1]; exact RowAt.rowIn h5
                        have h := Rank_v _ ls tq _ w' hrv (by have := HM.out; omega) (Vs.out.below hb3).lies (HP.out.below hw3) (HMq.out.below hb3)
                        refine h.mono ?_
                        rintro e w9 ⟨r, o, rfl, hr, hb9⟩
                        have hj2 : j < ls.length := by have := HM.out; omega
                        have hself := rk_self ls ((inc_iff ls).1 (inc_congr EQs.out.symm ((inc_iff S).2 H5.out.1.1))) HVS.out j hj2
                        have e := HGq.out
                        rw [e] at hself
                        obtain ⟨rfl, rfl⟩ := hr.one hself
                        exact ⟨rfl, hb9⟩
                      have lj0 : (0 : Int) ≤ (j : Int) := by omega
                      have lj1 : (j : Int) < (m : Int) := by omega
                      have cz : ((c : Int) == 0) = false := by simp; omega
                      have jj : ((j : Int) != (j : Int)) = false := by simp
                      clear hc hcp
                      have HQ0 : Hid (w12.cell? ⟨g, j * 4, none⟩ = some (.int .i64 tq.kind)) := Lib.hid q0
                      have HQ1 : Hid (w12.cell? ⟨g, j * 4 + 1, none⟩ = some (.int .i64 tq.num)) := Lib.hid q1
                      have HQ2 : Hid (w12.cell? ⟨g, j * 4 + 2, none⟩ = some (.string tq.name)) := Lib.hid q2
                      have HQ3 : Hid (w12.cell? ⟨g, j * 4 + 3, none⟩ = some (.slice qa tq.args.length qc)) := Lib.hid q3
                      clear q0 q1 q2 q3
                      by_cases hj0 : 0 < j
                      · obtain ⟨y, hy⟩ : ∃ y : Nat, y = j - 1 := ⟨_, rfl⟩
                        have hY : (j : Int) - 1 = (y : Int) := by omega
                        have hyn : y < m := by omega
                        have hkp : y < ls.length := by have := HM.out; omega
                        have cp := (HR.out.below hb.out).at y hkp
                        have mp := Vs.out.lies _ (List.getElem_mem hkp)
                        have gp := getD_at ls y hkp
                        obtain ⟨ep, hep⟩ : ∃ q, ls[y] = q := ⟨_, rfl⟩
                        rw [hep] at cp mp gp
                        obtain ⟨tp, vp⟩ := ep
                        obtain ⟨pa, pc, ev⟩ := mp.slice
                        obtain rfl : vp = .slice pa tp.args.length pc := ev
                        obtain ⟨p0, p1, p2, p3⟩ := cp
                        have HGp := Lib.hid gp
                        have HMp := Lib.hid mp
                        clear gp hep mp hkp
                        have q0 := cell_below hb.out _ _ HQ0.out
                        have q1 := cell_below hb.out _ _ HQ1.out
                        have q2 := cell_below hb.out _ _ HQ2.out
                        have q3 := cell_below hb.out _ _ HQ3.out
                        have HSRT : Hid (∀ i j (h1 : i < ls.length) (h2 : j < ls.length), i < j → cT ls[i].1 ls[j].1 < 0) := Lib.hid (fun i j h1 h2 hij =>
                          List.pairwise_iff_getElem.1 ((inc_iff ls).1 (inc_congr EQs.out.symm ((inc_iff S).2 H5.out.1.1))) i j h1 h2 hij)
                        simp only [Nat.zero_add] at p0 p1 p2 p3
                        obtain ⟨z, hz0⟩ : ∃ z, cT tp tq = z := ⟨_, rfl⟩
                        have HZ : Hid (z < 0) := Lib.hid (by
                          have h1 : y < ls.length := by have := HM.out; omega
                          have h2 : j < ls.length := by have := HM.out; omega
                          have e1 := HGp.out
                          have e2 := HGq.out
                          rw [getD_at ls y h1] at e1
                          rw [getD_at ls j h2] at e2
                          have h := HSRT.out y j h1 h2 (by omega)
                          rw [e1, e2] at h
                          rw [← hz0]; exact h)
                        have HVBO : Hid (validB tp = true ∧ validB tq = true) := Lib.hid (by
                          have h1 : y < ls.length := by have := HM.out; omega
                          have h2 : j < ls.length := by have := HM.out; omega
                          have e1 := HGp.out
                          have e2 := HGq.out
                          rw [getD_at ls y h1] at e1
                          rw [getD_at ls j h2] at e2
                          have g1 := HVS.out _ (List.getElem_mem h1)
                          have g2 := HVS.out _ (List.getElem_mem h2)
                          rw [e1] at g1; rw [e2] at g2
                          exact ⟨g1, g2⟩)
                        have HCC : Hid (∀ w', Below wr.heap.size wr w' → Calls Tryd.prog 12 #[tv tp (.slice pa tp.args.length pc), tv tq (.slice qa tq.args.length qc)] w' fun e w'' => e = .returned (.int .i64 z) ∧ Below w'.heap.size w' w'') := fun w' h => by
                          have hb3 := hb.out.trans (h.mono hb.out.size)
                          have hw3 := B12.out.trans (hb3.mono B12.out.size)
                          have hq : cmpV tp tq = z := by rw [cmpV, if_pos HVBO.out]; exact hz0
                          rw [← hq]
                          exact Cmp_any _ _ _ _ _ (HMp.out.below hb3) (HMq.out.below hb3) (HP.out.below hw3)
                        have wy := sub_bits y (by omega)
                        have ly0 : (0 : Int) ≤ (y : Int) := by omega
                        have ly1 : (y : Int) < (m : Int) := by omega
                        have lj0 : (0 : Int) ≤ (j : Int) := by omega
                        have lj1 : (j : Int) < (m : Int) := by omega
                        have dj : decide ((0 : Int) < (j : Int)) = true := by simp; omega
                        have dj2 : (0 : Int) < (j : Int) := by omega
                        have zn := HZ.out
                        have e9 : decide (0 ≤ z) = false := by simp; omega
                        have e9' : ¬ 0 ≤ z := by omega
                        clear hz0 hy
                        have hS0 : Below wr.heap.size wr wr.drew := (Below.refl _ _).drew
                        have HS : Hid (∀ w', Below wr.heap.size wr w' → (fun w' => Below wr.heap.size wr w' ∧ w'.cell? ⟨g, y * 4, none⟩ = some (.int .i64 tp.kind) ∧ w'.cell? ⟨g, y * 4 + 1, none⟩ = some (.int .i64 tp.num) ∧ w'.cell? ⟨g, y * 4 + 2, none⟩ = some (.string tp.name) ∧ w'.cell? ⟨g, y * 4 + 3, none⟩ = some (.slice pa tp.args.length pc) ∧ w'.cell? ⟨g, j * 4, none⟩ = some (.int .i64 tq.kind) ∧ w'.cell? ⟨g, j * 4 + 1, none⟩ = some (.int .i64 tq.num) ∧ w'.cell? ⟨g, j * 4 + 2, none⟩ = some (.string tq.name) ∧ w'.cell? ⟨g, j * 4 + 3, none⟩ = some (.slice qa tq.args.length qc)) w') := fun w' h => ⟨h, cell_below h _ _ p0, cell_below h _ _ p1, cell_below h _ _ p2, cell_below h _ _ p3, cell_below h _ _ q0, cell_below h _ _ q1, cell_below h _ _ q2, cell_below h _ _ q3⟩
                        go_wp2_with fail
                        go_region_held3 (fun w' => Below wr.heap.size wr w' ∧ w'.cell? ⟨g, y * 4, none⟩ = some (.int .i64 tp.kind) ∧ w'.cell? ⟨g, y * 4 + 1, none⟩ = some (.int .i64 tp.num) ∧ w'.cell? ⟨g, y * 4 + 2, none⟩ = some (.string tp.name) ∧ w'.cell? ⟨g, y * 4 + 3, none⟩ = some (.slice pa tp.args.length pc) ∧ w'.cell? ⟨g, j * 4, none⟩ = some (.int .i64 tq.kind) ∧ w'.cell? ⟨g, j * 4 + 1, none⟩ = some (.int .i64 tq.num) ∧ w'.cell? ⟨g, j * 4 + 2, none⟩ = some (.string tq.name) ∧ w'.cell? ⟨g, j * 4 + 3, none⟩ = some (.slice qa tq.args.length qc))
                          (first | exact HS.out _ h5 | exact HS.out _ hS0 | assumption | go_keep)
                          (first
                            | (go_at_call 12; ((with_reducible refine (HCC.out _ (by assumption : Below wr.heap.size wr _)).mono ?_); rintro e wz ⟨rfl, hbz⟩; have h5 : Below wr.heap.size wr wz := Below.trans (by assumption : Below wr.heap.size wr _) (hbz.mono (Below.size (by assumption : Below wr.heap.size wr _))))))
                        have H6 := Lib.hid h5
                        clear p0 p1 p2 p3 q0 q1 q2 q3 h5 hS0 HS
                        clear wy ly0 ly1 dj dj2 zn e9 e9' hY
                        have HBW := Lib.hid (hb.out.trans (H6.out.mono hb.out.size))
                        have r0 := cell_below HBW.out _ _ HQ0.out
                        have r1 := cell_below HBW.out _ _ HQ1.out
                        have r2 := cell_below HBW.out _ _ HQ2.out
                        have r3 := cell_below HBW.out _ _ HQ3.out
                        go_wp2_with fail
                        refine (HRK.out _ HBW.out).mono ?_
                        rintro e wb ⟨rfl, hbb⟩
                        have HBB := Lib.hid (HBW.out.trans (hbb.mono HBW.out.size))
                        clear r0 r1 r2 r3 hbb
                        have r0 := cell_below HBB.out _ _ HQ0.out
                        have r1 := cell_below HBB.out _ _ HQ1.out
                        have r2 := cell_below HBB.out _ _ HQ2.out
                        have r3 := cell_below HBB.out _ _ HQ3.out
                        go_wp2_with fail
                        refine (HCN.out _ HBB.out).mono ?_
                        rintro e wc ⟨rfl, hbc⟩
                        have HBC := Lib.hid (HBB.out.trans (hbc.mono HBB.out.size))
                        clear r0 r1 r2 r3 hbc
                        go_wp2_with fail
                        go_roundw
                        case rel => exact ⟨j + 1, by omega, by go_num, HBC⟩
                        case measure => simp [intOf]; omega
                      · obtain rfl : j = 0 := by omega
                        have d0 : decide ((0 : Int) < ((0 : Nat) : Int)) = false := by simp
                        have q1 : (0 : Int) < (m : Int) := by omega
                        have q2 : 0 < m := by omega
                        go_wp2_with fail
                        go_quiet (fail)
                        have HBW : ∀ q, Hid (Below w12.heap.size w12 (wr.drewN q)) := fun q => Lib.hid (below_drewN hb.out q)
                        have r0 := cell_below hb.out _ _ HQ0.out
                        have r1 := cell_below hb.out _ _ HQ1.out
                        have r2 := cell_below hb.out _ _ HQ2.out
                        have r3 := cell_below hb.out _ _ HQ3.out
                        go_wp2_with fail
                        refine (HRK.out _ (HBW _).out).mono ?_
                        rintro e wb ⟨rfl, hbb⟩
                        have HBB := Lib.hid ((HBW _).out.trans (hbb.mono (HBW _).out.size))
                        clear r0 r1 r2 r3 hbb
                        have r0 := cell_below HBB.out _ _ HQ0.out
                        have r1 := cell_below HBB.out _ _ HQ1.out
                        have r2 := cell_below HBB.out _ _ HQ2.out
                        have r3 := cell_below HBB.out _ _ HQ3.out
                        go_wp2_with fail
                        refine (HCN.out _ HBB.out).mono ?_
                        rintro e wc ⟨rfl, hbc⟩
                        have HBC := Lib.hid (HBB.out.trans (hbc.mono HBB.out.size))
                        clear r0 r1 r2 r3 hbc
                        go_wp2_with fail
                        go_roundw
                        case rel => exact ⟨0 + 1, by omega, by go_num, HBC⟩
                        case measure => simp [intOf]; omega
                    · have BZ := Lib.hid (B12.out.trans (hb.out.mono B12.out.size))
                      have CA := Lib.hid (awake_any wr (HP.out.below BZ.out))
                      go_wp2_with fail
                      refine CA.out.mono ?_
                      rintro e w99 ⟨rfl, hb99⟩
                      go_wp2_with fail
                      go_ret
                      exact ⟨rfl, BZ.out.trans (hb99.mono BZ.out.size)⟩

end Go.Proofs.YtehnhjhflaljhaaDoor
