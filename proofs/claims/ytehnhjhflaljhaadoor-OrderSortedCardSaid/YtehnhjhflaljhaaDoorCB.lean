/- The contract of the program's compare: cmp.Or, slices.CompareFunc, compare. -/
import Derived.Test.YtehnhjhflaljhaaDoorCA
import Derived.Deep.RegionHeld3
import Derived.Deep.DeepCutAuto
import Derived.Test.YtehnhjhflaljhaaDoorPW
namespace Go.Proofs.YtehnhjhflaljhaaDoor
open Go.RowKit Go.Proofs.HT

def or4 (a b c d : Int) : Int := orI a (orI b (orI c d))
theorem or4_a {a b c d : Int} (h : (a == 0) = false) : or4 a b c d = a := by
  have : ¬ a = 0 := by simpa using h
  simp [or4, orI, this]
theorem or4_b {b c d : Int} (h : (b == 0) = false) : or4 0 b c d = b := by
  have : ¬ b = 0 := by simpa using h
  simp [or4, orI, this]
theorem or4_c {c d : Int} (h : (c == 0) = false) : or4 0 0 c d = c := by
  have : ¬ c = 0 := by simpa using h
  simp [or4, orI, this]
theorem or4_d {d : Int} : or4 0 0 0 d = d := by simp [or4, orI]
theorem zero_cases (n : Int) : n = 0 ∨ ((n == 0) = false ∧ (n != 0) = true) := by by_cases h : n = 0 <;> simp [h]

set_option maxHeartbeats 2000000 in
theorem or4_any (g : Nat) (a b c d : Int) (w : World) (h0 : w.cell? ⟨g, 0, none⟩ = some (.int .i64 a)) (h1 : w.cell? ⟨g, 1, none⟩ = some (.int .i64 b)) (h2 : w.cell? ⟨g, 2, none⟩ = some (.int .i64 c)) (h3 : w.cell? ⟨g, 3, none⟩ = some (.int .i64 d)) :
    Calls Tryd.prog 59 #[.slice (some ⟨g, 0, none⟩) 4 4] w fun e w' => e = .returned (.int .i64 (or4 a b c d)) ∧ w = w' := by
  rcases zero_cases a with rfl | ⟨za, ya⟩
  · rcases zero_cases b with rfl | ⟨zb, yb⟩
    · rcases zero_cases c with rfl | ⟨zc, yc⟩
      · rcases zero_cases d with rfl | ⟨zd, yd⟩
        · rw [or4_d]
          go_enter Tryd.func59, Tryd.ntmps59
          go_wp2_with fail
          refine wp_loop_rounds 5 ?_
          iterate 5
            rw [rounds_succ]
            go_wp2_with fail
          go_ret
          exact ⟨rfl, rfl⟩
        · rw [or4_d]
          go_enter Tryd.func59, Tryd.ntmps59
          go_wp2_with fail
          refine wp_loop_rounds 4 ?_
          iterate 4
            rw [rounds_succ]
            go_wp2_with fail
          go_ret
          exact ⟨rfl, rfl⟩
      · rw [or4_c zc]
        go_enter Tryd.func59, Tryd.ntmps59
        go_wp2_with fail
        refine wp_loop_rounds 3 ?_
        iterate 3
          rw [rounds_succ]
          go_wp2_with fail
        go_ret
        exact ⟨rfl, rfl⟩
    · rw [or4_b zb]
      go_enter Tryd.func59, Tryd.ntmps59
      go_wp2_with fail
      refine wp_loop_rounds 2 ?_
      iterate 2
        rw [rounds_succ]
        go_wp2_with fail
      go_ret
      exact ⟨rfl, rfl⟩
  · rw [or4_a za]
    go_enter Tryd.func59, Tryd.ntmps59
    go_wp2_with fail
    refine wp_loop_rounds 1 ?_
    rw [rounds_succ]
    go_wp2_with fail
    go_ret
    exact ⟨rfl, rfl⟩

/-- The places of the kinds, as they are laid. -/
def Places (w : World) : Prop := ∀ j : Nat, j < 4 → w.cell? ⟨0, j, none⟩ = some (.int .i64 j)
theorem Places.below {w w' : World} (h : Places w) (hb : Below w.heap.size w w') : Places w' := fun j hj => cell_below hb _ _ (h j hj)
theorem Places.at {w : World} (h : Places w) {k : Int} (h0 : 0 ≤ k) (h1 : k ≤ 3) : w.cell? ⟨0, k.toNat, none⟩ = some (.int .i64 k) := by
  have := h k.toNat (by omega)
  rw [Int.toNat_of_nonneg h0] at this
  exact this
/-- What compare returns. -/
def CompEnd (t u : Tm) (w : World) (e : Ending) (w' : World) : Prop := e = .returned (.int .i64 (cT t u)) ∧ Below w.heap.size w w'

set_option maxHeartbeats 4000000 in
theorem cfunc_any (ts us : List Tm) (b o cap b2 o2 cap2 : Nat) (w : World) (hl : LiesL w ts b o) (hl2 : LiesL w us b2 o2) (hlen : ts.length = us.length) (hn : ts.length ≤ 8) (hcap : ts.length ≤ cap) (hcap2 : us.length ≤ cap2) (hp : Places w)
    (HI : Hid (∀ i (hi : i < ts.length) (hi2 : i < us.length) (v x : Value) (w : World), LiesT w ts[i] v → LiesT w us[i] x → Places w → Calls Tryd.prog 37 #[tv ts[i] v, tv us[i] x] w (CompEnd ts[i] us[i] w))) :
    Calls Tryd.prog 63 #[.slice (some ⟨b, o, none⟩) ts.length cap, .slice (some ⟨b2, o2, none⟩) us.length cap2, .func (.func 37) #[] #[]] w fun e w' => e = .returned (.int .i64 (cL ts us)) ∧ Below w.heap.size w w' := by
  obtain ⟨m, hm⟩ : ∃ m, ts.length = m := ⟨_, rfl⟩
  have HLN := Lib.hid (show ts.length = m ∧ us.length = m from ⟨hm, by omega⟩)
  rw [← hlen, hm]
  have HL := Lib.hid hl
  have HL2 := Lib.hid hl2
  have HP := Lib.hid hp
  have hm8 : m ≤ 8 := by omega
  have hmc : m ≤ cap := by omega
  have hmc2 : m ≤ cap2 := by omega
  clear hl hl2 hp hlen hm hn hcap hcap2
  go_enter Tryd.func63, Tryd.ntmps63
  go_wp2_with fail
  go_loopw [13] (fun i wr => ∃ j : Nat, j ≤ m ∧ i = .int .i64 j ∧ Hid (Below w.heap.size w wr) ∧ Hid (∀ p (h1 : p < ts.length) (h2 : p < us.length), p < j → cT ts[p] us[p] = 0)) (fun i _ => m - (intOf i).toNat)
  case atStart => exact ⟨0, by omega, rfl, Lib.hid (Below.refl _ _), Lib.hid (fun _ _ _ h => by omega)⟩
  case round =>
    obtain ⟨j, hj, rfl, hb, hz⟩ := hrel
    by_cases hlt : j < m
    · have i1 : j < ts.length := by have := HLN.out.1; omega
      have i2 : j < us.length := by have := HLN.out.2; omega
      obtain ⟨u, c0, c1, c2, c3, hu⟩ := HL.out.at j i1
      obtain ⟨u2, e0, e1, e2, e3, hu2⟩ := HL2.out.at j i2
      obtain ⟨ua, uc, rfl⟩ : ∃ a c, u = .slice a ts[j].args.length c := hu.slice
      obtain ⟨ua2, uc2, rfl⟩ : ∃ a c, u2 = .slice a us[j].args.length c := hu2.slice
      have d0 := cell_below hb.out _ _ c0
      have d1 := cell_below hb.out _ _ c1
      have d2 := cell_below hb.out _ _ c2
      have d3 := cell_below hb.out _ _ c3
      have f0 := cell_below hb.out _ _ e0
      have f1 := cell_below hb.out _ _ e1
      have f2 := cell_below hb.out _ _ e2
      have f3 := cell_below hb.out _ _ e3
      have zb := World.block_lt_of_cell? _ _ f0
      have BX := Lib.hid (fun o1 o2 => (((Below.refl wr.heap.size wr).alloc (Nat.le_refl _) o1).alloc (by simp) o2 : Below wr.heap.size wr ((wr.alloc o1).alloc o2)))
      have HU := Lib.hid (hu.below hb.out)
      have HU2 := Lib.hid (hu2.below hb.out)
      have HPW := Lib.hid (HP.out.below hb.out)
      clear c0 c1 c2 c3 e0 e1 e2 e3 hu hu2
      obtain ⟨q, hq⟩ : ∃ q, cT ts[j] us[j] = q := ⟨_, rfl⟩
      have HC : Hid (∀ o1 o2, Calls Tryd.prog 37 #[tv ts[j] (.slice ua ts[j].args.length uc), tv us[j] (.slice ua2 us[j].args.length uc2)] ((wr.alloc o1).alloc o2) fun e w' => e = .returned (.int .i64 q) ∧ Below wr.heap.size wr w') := fun o1 o2 => by
        refine (HI.out j i1 i2 _ _ _ (HU.out.below (BX.out o1 o2)) (HU2.out.below (BX.out o1 o2)) (HPW.out.below (BX.out o1 o2))).mono ?_
        rintro e w1 ⟨h1, h2⟩
        rw [hq] at h1
        exact ⟨h1, (BX.out o1 o2).trans (h2.mono (BX.out o1 o2).size)⟩
      rcases zero_cases q with rfl | ⟨z1, z2⟩
      · have HQ := Lib.hid hq
        clear hq
        go_wp2_with (first | (go_at_call 37; refine (HC.out _ _).mono ?_; rintro e w1 ⟨rfl, hb1⟩))
        go_roundw
        case rel =>
          refine ⟨j + 1, by omega, by go_num, Lib.hid (hb.out.trans (hb1.mono hb.out.size)), Lib.hid (fun p h1 h2 h3 => ?_)⟩
          by_cases e : p = j
          · subst e; exact HQ.out
          · exact hz.out p h1 h2 (by omega)
        case measure => simp [intOf]; omega
      · have HQ := Lib.hid (show cL ts us = q by rw [← hq]; exact cL_at ts us j i1 i2 hz.out (by rw [hq]; simpa using z1))
        clear hq
        go_wp2_with (first | (go_at_call 37; refine (HC.out _ _).mono ?_; rintro e w1 ⟨rfl, hb1⟩))
        go_ret
        exact ⟨ret_int HQ.out.symm, hb.out.trans (hb1.mono hb.out.size)⟩
    · obtain rfl : j = m := by omega
      have HQ := Lib.hid (cL_end ts us (by have := HLN.out; omega) (fun p h1 h2 _ => hz.out p h1 h2 (by have := HLN.out; omega)))
      go_wp2_with fail
      go_ret
      exact ⟨ret_int HQ.out.symm, hb.out⟩

end Go.Proofs.YtehnhjhflaljhaaDoor

/- The contract of the program's compare. -/
namespace Go.Proofs.YtehnhjhflaljhaaDoor
open Go.RowKit Go.Proofs.HT

set_option maxHeartbeats 1000000 in
theorem cfunc_nil (a a2 : Option Addr) (cap cap2 : Nat) (w : World) : Calls Tryd.prog 63 #[.slice a 0 cap, .slice a2 0 cap2, .func (.func 37) #[] #[]] w fun e w' => e = .returned (.int .i64 0) ∧ Below w.heap.size w w' := by
  go_enter Tryd.func63, Tryd.ntmps63
  go_wp2_with fail
  refine wp_loop_rounds 1 ?_
  rw [rounds_succ]
  go_wp2_with fail
  go_ret
  exact ⟨rfl, Below.refl _ _⟩
theorem cmpI_zero {a b : Int} (h : cmpI a b = 0) : a = b := by
  rcases cmpI_cases a b with ⟨_, e⟩ | ⟨_, _, e⟩ | ⟨h1, h2, _⟩
  · rw [e] at h; cases h
  · rw [e] at h; cases h
  · omega
theorem orI_zero {a b : Int} (h : orI a b = 0) : a = 0 ∧ b = 0 := by
  unfold orI at h
  by_cases h0 : a = 0
  · rw [if_pos h0] at h; exact ⟨h0, h⟩
  · rw [if_neg h0] at h; exact absurd h h0
theorem or4_zero {a b c d : Int} (h : or4 a b c d = 0) : a = 0 ∧ b = 0 ∧ c = 0 ∧ d = 0 := by
  unfold or4 at h
  obtain ⟨h1, h⟩ := orI_zero h
  obtain ⟨h2, h⟩ := orI_zero h
  obtain ⟨h3, h⟩ := orI_zero h
  exact ⟨h1, h2, h3, h⟩
theorem or4_rest (a b c d e : Int) : orI a (orI b (orI c (orI d e))) = orI (or4 a b c d) e := by
  unfold or4 orI
  by_cases h1 : a = 0 <;> by_cases h2 : b = 0 <;> by_cases h3 : c = 0 <;> by_cases h4 : d = 0 <;> simp [h1, h2, h3, h4]
theorem kind_bd {k n : Int} {s : ByteArray} {l : Nat} (h : nodeB k n s l = true) : 0 ≤ k ∧ k ≤ 3 := by
  unfold nodeB at h
  by_cases h0 : k = 0
  · omega
  · by_cases h1 : k = 1
    · omega
    · by_cases h2 : k = 2
      · omega
      · by_cases h3 : k = 3
        · omega
        · simp [h0, h1, h2, h3] at h
theorem args_bd {k n : Int} {s : ByteArray} {l : Nat} (h : nodeB k n s l = true) : l ≤ 8 := by
  unfold nodeB at h
  by_cases h0 : k = 0
  · simp [h0] at h; omega
  · by_cases h1 : k = 1
    · simp [h1] at h; omega
    · by_cases h2 : k = 2
      · simp [h2] at h; omega
      · by_cases h3 : k = 3
        · simp [h3] at h; omega
        · simp [h0, h1, h2, h3] at h

set_option maxHeartbeats 8000000 in
theorem compare_any (t : Tm) : ∀ (u : Tm) (v x : Value) (w : World), LiesT w t v → LiesT w u x → nodesB t = true → nodesB u = true → Places w → Calls Tryd.prog 37 #[tv t v, tv u x] w (CompEnd t u w) := by
  induction t using Tm.ind with
  | h k n s ts ih =>
    intro u v x w hv hx hnt hnu hp
    obtain ⟨k2, n2, s2, us⟩ := u
    obtain ⟨va, vc, rfl⟩ : ∃ a c, v = .slice a ts.length c := hv.slice
    obtain ⟨xa, xc, rfl⟩ : ∃ a c, x = .slice a us.length c := hx.slice
    have kb := kind_bd (nodes_at hnt).1
    have kb2 := kind_bd (nodes_at hnu).1
    have pl := Lib.hid (hp.at kb.1 kb.2)
    have pl2 := Lib.hid (hp.at kb2.1 kb2.2)
    have i0 := kb.1
    have i1 : k < 4 := by omega
    have j0 := kb2.1
    have j1 : k2 < 4 := by omega
    obtain ⟨qa, hqa⟩ : ∃ q, cmpI k k2 = q := ⟨_, rfl⟩
    obtain ⟨qb, hqb⟩ : ∃ q, cmpI n n2 = q := ⟨_, rfl⟩
    obtain ⟨qc, hqc⟩ : ∃ q, cmpI (ts.length : Int) us.length = q := ⟨_, rfl⟩
    obtain ⟨qd, hqd⟩ : ∃ q, cmpB s.data.toList s2.data.toList = q := ⟨_, rfl⟩
    obtain ⟨q, hq⟩ : ∃ q, or4 qa qb qc qd = q := ⟨_, rfl⟩
    have HA : Hid (∀ w, Calls Tryd.prog 60 #[.int .i64 k, .int .i64 k2] w fun e w' => e = .returned (.int .i64 qa) ∧ w = w') := fun w => by rw [← hqa]; exact compI_any _ _ _
    have HB : Hid (∀ w, Calls Tryd.prog 61 #[.int .i64 n, .int .i64 n2] w fun e w' => e = .returned (.int .i64 qb) ∧ w = w') := fun w => by rw [← hqb]; exact compJ_any _ _ _
    have HC : Hid (∀ w, Calls Tryd.prog 60 #[.int .i64 (ts.length : Int), .int .i64 (us.length : Int)] w fun e w' => e = .returned (.int .i64 qc) ∧ w = w') := fun w => by rw [← hqc]; exact compI_any _ _ _
    have HD : Hid (∀ w, Calls Tryd.prog 62 #[.string s, .string s2] w fun e w' => e = .returned (.int .i64 qd) ∧ w = w') := fun w => by rw [← hqd, ← Lib.toList_data, ← Lib.toList_data]; exact compS_any _ _ _
    have HO : Hid (∀ g w, w.cell? ⟨g, 0, none⟩ = some (.int .i64 qa) → w.cell? ⟨g, 1, none⟩ = some (.int .i64 qb) → w.cell? ⟨g, 2, none⟩ = some (.int .i64 qc) → w.cell? ⟨g, 3, none⟩ = some (.int .i64 qd) → Calls Tryd.prog 59 #[.slice (some ⟨g, 0, none⟩) 4 4] w fun e w' => e = .returned (.int .i64 q) ∧ w = w') := fun g w h0 h1 h2 h3 => by rw [← hq]; exact or4_any g qa qb qc qd w h0 h1 h2 h3
    have hct : cT (.mk k n s ts) (.mk k2 n2 s2 us) = orI q (cL ts us) := by rw [cT, or4_rest, hqa, hqb, hqc, hqd, hq]
    have HR0 : Hid (q = 0 → cT (.mk k n s ts) (.mk k2 n2 s2 us) = cL ts us) := fun h => by rw [hct, orI, if_pos h]
    have HR1 : Hid (¬ q = 0 → cT (.mk k n s ts) (.mk k2 n2 s2 us) = q) := fun h => by rw [hct, orI, if_neg h]
    have HF : Hid (q = 0 → ∀ w1, Below w.heap.size w w1 → Calls Tryd.prog 63 #[.slice va ts.length vc, .slice xa us.length xc, .func (.func 37) #[] #[]] w1 fun e w' => e = .returned (.int .i64 (cL ts us)) ∧ Below w1.heap.size w1 w') := fun h0 w1 hb1 => by
      have hl : ts.length = us.length := by
        rw [h0] at hq
        have := cmpI_zero (hqc.trans (or4_zero hq).2.2.1)
        omega
      rcases (hv.below hb1).len with ⟨rfl, a, cap, e1⟩ | ⟨b, o, cap, e1, hpos, hlc, hcap, hll⟩
      · obtain rfl : us = [] := List.length_eq_zero_iff.1 hl.symm
        exact cfunc_nil _ _ _ _ _
      · rcases (hx.below hb1).len with ⟨rfl, a2, cap2, e2⟩ | ⟨b2, o2, cap2, e2, hpos2, hlc2, hcap2, hll2⟩
        · simp only [List.length_nil] at hl; omega
        · cases e1
          cases e2
          exact cfunc_any ts us b o vc b2 o2 xc w1 hll hll2 hl (args_bd (nodes_at hnt).1) (by omega) (by omega) (hp.below hb1)
            (Lib.hid (fun i hi hi2 v x w h1 h2 h3 => ih _ (List.getElem_mem hi) _ v x w h1 h2 ((nodes_at hnt).2 i hi) ((nodes_at hnu).2 i hi2) h3))
    have E0 := Lib.hid ((((Env.start w).pushC pl.out).pushC pl2.out).box rfl (.int .i64 k) (.int .i64 n) (.string s) (.slice va ts.length vc) 24)
    have E1 := Lib.hid (E0.out.box (g := w.heap.size + 1) (by simp) (.int .i64 k2) (.int .i64 n2) (.string s2) (.slice xa us.length xc) 24)
    simp only [tv, Tm.kind, Tm.num, Tm.name]
    clear ih hv hx hnt hnu hp hct hqa hqb hqc hqd hq kb kb2 pl pl2 E0
    go_enter Tryd.func37, Tryd.ntmps37
    go_wp2_with fail
    have EB := Lib.hid (Env.b E1.out)
    have EW := E1.out.c
    clear E1
    generalize ((w.alloc (.cells #[.int .i64 k, .int .i64 n, .string s, .slice va ts.length vc] 24)).alloc (.cells #[.int .i64 k2, .int .i64 n2, .string s2, .slice xa us.length xc] 24)) = W0 at *
    have y0 := EW.hd
    have y1 := EW.tl.hd
    have y2 := EW.tl.tl.hd
    have y3 := EW.tl.tl.tl.hd
    have x0 := EW.tl.tl.tl.tl.hd
    have x1 := EW.tl.tl.tl.tl.tl.hd
    have x2 := EW.tl.tl.tl.tl.tl.tl.hd
    have x3 := EW.tl.tl.tl.tl.tl.tl.tl.hd
    have l2 := EW.tl.tl.tl.tl.tl.tl.tl.tl.hd
    have l1 := EW.tl.tl.tl.tl.tl.tl.tl.tl.tl.hd
    clear EW
    have hS0 : Below W0.heap.size W0 W0.drew := (Below.refl _ _).drew
    have HS : Hid (∀ w', Below W0.heap.size W0 w' → (fun w' => Below W0.heap.size W0 w' ∧ w'.cell? ⟨w.heap.size, 0, none⟩ = some (.int .i64 k) ∧ w'.cell? ⟨w.heap.size, 1, none⟩ = some (.int .i64 n) ∧ w'.cell? ⟨w.heap.size, 2, none⟩ = some (.string s) ∧ w'.cell? ⟨w.heap.size, 3, none⟩ = some (.slice va ts.length vc) ∧ w'.cell? ⟨w.heap.size + 1, 0, none⟩ = some (.int .i64 k2) ∧ w'.cell? ⟨w.heap.size + 1, 1, none⟩ = some (.int .i64 n2) ∧ w'.cell? ⟨w.heap.size + 1, 2, none⟩ = some (.string s2) ∧ w'.cell? ⟨w.heap.size + 1, 3, none⟩ = some (.slice xa us.length xc) ∧ w'.cell? ⟨0, k.toNat, none⟩ = some (.int .i64 k) ∧ w'.cell? ⟨0, k2.toNat, none⟩ = some (.int .i64 k2)) w') :=
      fun w' h => ⟨h, cell_below h _ _ x0, cell_below h _ _ x1, cell_below h _ _ x2, cell_below h _ _ x3, cell_below h _ _ y0, cell_below h _ _ y1, cell_below h _ _ y2, cell_below h _ _ y3, cell_below h _ _ l1, cell_below h _ _ l2⟩
    go_region_held3 (fun w' => Below W0.heap.size W0 w' ∧ w'.cell? ⟨w.heap.size, 0, none⟩ = some (.int .i64 k) ∧ w'.cell? ⟨w.heap.size, 1, none⟩ = some (.int .i64 n) ∧ w'.cell? ⟨w.heap.size, 2, none⟩ = some (.string s) ∧ w'.cell? ⟨w.heap.size, 3, none⟩ = some (.slice va ts.length vc) ∧ w'.cell? ⟨w.heap.size + 1, 0, none⟩ = some (.int .i64 k2) ∧ w'.cell? ⟨w.heap.size + 1, 1, none⟩ = some (.int .i64 n2) ∧ w'.cell? ⟨w.heap.size + 1, 2, none⟩ = some (.string s2) ∧ w'.cell? ⟨w.heap.size + 1, 3, none⟩ = some (.slice xa us.length xc) ∧ w'.cell? ⟨0, k.toNat, none⟩ = some (.int .i64 k) ∧ w'.cell? ⟨0, k2.toNat, none⟩ = some (.int .i64 k2))
      (first | assumption | exact HS.out _ hS0 | exact HS.out _ (((Below.refl _ _).alloc (Nat.le_refl _) _).drew) | exact HS.out _ (Below.alloc ‹Below W0.heap.size W0 _› (Below.size ‹Below W0.heap.size W0 _›) _) | go_keep)
      (first
        | (go_at_call_of 60 (Value.int .i64 k); refine (HA.out _).mono ?_; rintro e w1 ⟨rfl, rfl⟩)
        | (go_at_call 61; refine (HB.out _).mono ?_; rintro e w1 ⟨rfl, rfl⟩)
        | (go_at_call 60; refine (HC.out _).mono ?_; rintro e w1 ⟨rfl, rfl⟩)
        | (go_at_call 62; refine (HD.out _).mono ?_; rintro e w1 ⟨rfl, rfl⟩)
        | (go_at_call 59; refine (HO.out _ _ (by change World.cell? (World.alloc W0 _) _ = _; rw [cell_of_row _ _ _ _ _ _ (heap_alloc_new _ _)]; rfl) (by change World.cell? (World.alloc W0 _) _ = _; rw [cell_of_row _ _ _ _ _ _ (heap_alloc_new _ _)]; rfl) (by change World.cell? (World.alloc W0 _) _ = _; rw [cell_of_row _ _ _ _ _ _ (heap_alloc_new _ _)]; rfl) (by change World.cell? (World.alloc W0 _) _ = _; rw [cell_of_row _ _ _ _ _ _ (heap_alloc_new _ _)]; rfl)).mono ?_; rintro e w1 ⟨rfl, rfl⟩))
    have hB1 : Hid (Below W0.heap.size W0 ((W0.alloc (.cells #[.int .i64 qa, .int .i64 qb, .int .i64 qc, .int .i64 qd] 3)).drew)) := Lib.hid (((Below.refl _ _).alloc (Nat.le_refl _) _).drew)
    generalize (W0.alloc (.cells #[.int .i64 qa, .int .i64 qb, .int .i64 qc, .int .i64 qd] 3)).drew = W1 at *
    have B1 := Lib.hid (EB.out.trans (hB1.out.mono EB.out.size))
    have u3 := cell_below hB1.out _ _ x3
    have v3 := cell_below hB1.out _ _ y3
    clear x0 x1 x2 x3 y0 y1 y2 y3 l1 l2 hS0 HS HA HB HC HD HO
    rcases zero_cases q with rfl | ⟨z1, z2⟩
    · go_wp2_with (first | (go_at_call 63; refine (HF.out rfl _ B1.out).mono ?_; rintro e w2 ⟨rfl, hb2⟩))
      go_ret
      exact ⟨ret_int (HR0.out (by first | rfl | trivial)).symm, B1.out.trans (hb2.mono B1.out.size)⟩
    · go_wp2_with fail
      go_ret
      exact ⟨ret_int (HR1.out (by simpa using z1)).symm, B1.out⟩

end Go.Proofs.YtehnhjhflaljhaaDoor

/- The contract of the specification's compare. -/
namespace Go.Proofs.YtehnhjhflaljhaaDoor
open Go.RowKit Go.Proofs.HT

theorem kinds_cases (a b : Int) : (a = b) ∨ ((a == b) = false ∧ (a != b) = true ∧ ¬ a = b) := by by_cases h : a = b <;> simp [h]

set_option maxHeartbeats 8000000 in
theorem compR_any (t : Tm) : ∀ (u : Tm) (v x : Value) (w : World), LiesT w t v → LiesT w u x → nodesB t = true → nodesB u = true → Calls Tryd.prog 38 #[tv t v, tv u x] w (CompEnd t u w) := by
  induction t using Tm.ind with
  | h k n s ts ih =>
    intro u v x w hv hx hnt hnu
    obtain ⟨k2, n2, s2, us⟩ := u
    obtain ⟨va, vc, rfl⟩ : ∃ a c, v = .slice a ts.length c := hv.slice
    obtain ⟨xa, xc, rfl⟩ : ∃ a c, x = .slice a us.length c := hx.slice
    have hsz : s.size ≤ 9223372036854775807 ∧ s2.size ≤ 9223372036854775807 := by
      have h1 := hv; have h2 := hx
      simp only [LiesT] at h1 h2
      exact ⟨h1.2.2.1, h2.2.2.1⟩
    obtain ⟨qa, hqa⟩ : ∃ q, cmpI k k2 = q := ⟨_, rfl⟩
    obtain ⟨qb, hqb⟩ : ∃ q, cmpI n n2 = q := ⟨_, rfl⟩
    obtain ⟨qc, hqc⟩ : ∃ q, cmpI (ts.length : Int) us.length = q := ⟨_, rfl⟩
    obtain ⟨qd, hqd⟩ : ∃ q, cmpB s.data.toList s2.data.toList = q := ⟨_, rfl⟩
    have HA : Hid (∀ w, Calls Tryd.prog 64 #[.int .i64 k, .int .i64 k2] w fun e w' => e = .returned (.int .i64 qa) ∧ w = w') := fun w => by rw [← hqa]; exact numR_any _ _ _
    have HB : Hid (∀ w, Calls Tryd.prog 64 #[.int .i64 n, .int .i64 n2] w fun e w' => e = .returned (.int .i64 qb) ∧ w = w') := fun w => by rw [← hqb]; exact numR_any _ _ _
    have HC : Hid (∀ w, Calls Tryd.prog 64 #[.int .i64 (ts.length : Int), .int .i64 (us.length : Int)] w fun e w' => e = .returned (.int .i64 qc) ∧ w = w') := fun w => by rw [← hqc]; exact numR_any _ _ _
    have HD : Hid (∀ w, Calls Tryd.prog 65 #[.string s, .string s2] w fun e w' => e = .returned (.int .i64 qd) ∧ Below w.heap.size w w') := fun w => by rw [← hqd, ← Lib.toList_data, ← Lib.toList_data]; exact names_any _ _ hsz.1 hsz.2 _
    have hct : cT (.mk k n s ts) (.mk k2 n2 s2 us) = orI qa (orI qb (orI qc (orI qd (cL ts us)))) := by rw [cT, hqa, hqb, hqc, hqd]
    have E0 := Lib.hid ((Env.start w).box rfl (.int .i64 k) (.int .i64 n) (.string s) (.slice va ts.length vc) 24)
    have E1 := Lib.hid (E0.out.box (g := w.heap.size + 1) (by simp) (.int .i64 k2) (.int .i64 n2) (.string s2) (.slice xa us.length xc) 24)
    rcases kinds_cases k k2 with rfl | ⟨f1, f2, f3⟩
    · have HI : Hid (∀ i (hi : i < ts.length) (hi2 : i < us.length) (v x : Value) (w : World), LiesT w ts[i] v → LiesT w us[i] x → Calls Tryd.prog 38 #[tv ts[i] v, tv us[i] x] w (CompEnd ts[i] us[i] w)) := fun i hi hi2 v x w h1 h2 => ih _ (List.getElem_mem hi) _ v x w h1 h2 ((nodes_at hnt).2 i hi) ((nodes_at hnu).2 i hi2)
      have HV : Hid (0 < ts.length → ∃ b o, va = some ⟨b, o, none⟩ ∧ Hid (LiesL w ts b o) ∧ ts.length ≤ vc) := fun h => by
        rcases hv.len with ⟨rfl, a, cap, e1⟩ | ⟨b, o, cap, e1, hpos, hlc, hcap, hll⟩
        · simp at h
        · cases e1; exact ⟨b, o, rfl, hll, hlc⟩
      have HX : Hid (0 < us.length → ∃ b o, xa = some ⟨b, o, none⟩ ∧ Hid (LiesL w us b o) ∧ us.length ≤ xc) := fun h => by
        rcases hx.len with ⟨rfl, a, cap, e1⟩ | ⟨b, o, cap, e1, hpos, hlc, hcap, hll⟩
        · simp at h
        · cases e1; exact ⟨b, o, rfl, hll, hlc⟩
      have hts8 : ts.length ≤ 8 := args_bd (nodes_at hnt).1
      have hus8 : us.length ≤ 8 := args_bd (nodes_at hnu).1
      have hqa0 : qa = 0 := by rw [← hqa]; simp [cmpI]
      have hlen0 : Hid (qc = 0 → ts.length = us.length) := fun h => by have := cmpI_zero (hqc.trans h); omega
      obtain ⟨R, hR⟩ : ∃ R, cT (.mk k n s ts) (.mk k n2 s2 us) = R := ⟨_, rfl⟩
      have HRR := Lib.hid hR
      have hct2 : R = orI qb (orI qc (orI qd (cL ts us))) := by rw [← hR, hct, hqa0]; simp [orI]
      simp only [tv, Tm.kind, Tm.num, Tm.name]
      clear ih hv hx hnt hnu hct hqa hqb hqc hqd hqa0 hR E0 HA
      rcases zero_cases qb with rfl | ⟨zb, yb⟩
      · rcases zero_cases qc with rfl | ⟨zc, yc⟩
        · have HR : Hid (¬ qd = 0 → R = qd) := fun h => by rw [hct2]; simp [orI, h]
          have HZ : Hid (qd = 0 → ts.length = us.length ∧ R = cL ts us) := fun h => ⟨hlen0.out rfl, by rw [hct2]; simp [orI, h]⟩
          clear hct2 
          go_enter Tryd.func38, Tryd.ntmps38
          go_wp2_with (first
            | (go_at_call_of 64 (Value.int .i64 n); refine (HB.out _).mono ?_; rintro e w1 ⟨rfl, rfl⟩)
            | (go_at_call_of 64 (Value.int .i64 (ts.length : Int)); refine (HC.out _).mono ?_; rintro e w1 ⟨rfl, rfl⟩)
            | (go_at_call 65; refine (HD.out _).mono ?_; rintro e w1 ⟨rfl, hb1⟩))
          have B1 := Lib.hid ((Env.b E1.out).trans (hb1.mono (Env.b E1.out).size))
          have P3 := Lib.hid (cell_below hb1 _ _ E1.out.c.tl.tl.tl.tl.tl.tl.tl.hd)
          have R3 := Lib.hid (cell_below hb1 _ _ E1.out.c.tl.tl.tl.hd)
          clear E1 hb1
          go_loopw [5, 6] (fun c i wr => ∃ (j : Nat) (q : Int), j ≤ ts.length ∧ i = .int .i64 j ∧ c = .int .i64 q ∧ Hid (Below w.heap.size w wr) ∧ Hid (wr.cell? ⟨w.heap.size, 3, none⟩ = some (.slice va ts.length vc)) ∧ Hid (wr.cell? ⟨w.heap.size + 1, 3, none⟩ = some (.slice xa us.length xc)) ∧ Hid ((¬ q = 0 → R = q) ∧ (q = 0 → ts.length = us.length ∧ R = cL ts us ∧ ∀ p (h1 : p < ts.length) (h2 : p < us.length), p < j → cT ts[p] us[p] = 0))) (fun _ i _ => ts.length - (intOf i).toNat)
          case atStart => exact ⟨0, qd, by omega, rfl, rfl, B1, P3, R3, Lib.hid ⟨HR.out, fun h => ⟨(HZ.out h).1, (HZ.out h).2, fun _ _ _ h => by omega⟩⟩⟩
          case round =>
            obtain ⟨j, q, hj, rfl, rfl, hb, hp3, hr3, hz⟩ := hrel
            have p3 := hp3.out
            have r3 := hr3.out
            rcases zero_cases q with rfl | ⟨z1, z2⟩
            · by_cases hlt : j < ts.length
              · have hz2 := hz.out.2 rfl
                have i2 : j < us.length := by omega
                obtain ⟨b, o, rfl, HL, hcp⟩ := HV.out (by omega)
                obtain ⟨b2, o2, rfl, HL2, hcp2⟩ := HX.out (by omega)
                obtain ⟨u, c0, c1, c2, c3, hu⟩ := HL.out.at j hlt
                obtain ⟨u2, e0, e1, e2, e3, hu2⟩ := HL2.out.at j i2
                have d0 := cell_below hb.out _ _ c0
                have d1 := cell_below hb.out _ _ c1
                have d2 := cell_below hb.out _ _ c2
                have d3 := cell_below hb.out _ _ c3
                have f0 := cell_below hb.out _ _ e0
                have f1 := cell_below hb.out _ _ e1
                have f2 := cell_below hb.out _ _ e2
                have f3 := cell_below hb.out _ _ e3
                have HU := Lib.hid (hu.below hb.out)
                have HU2 := Lib.hid (hu2.below hb.out)
                have HZ2 := Lib.hid hz2
                clear c0 c1 c2 c3 e0 e1 e2 e3 hu hu2 hz2 hz
                obtain ⟨q2, hq2⟩ : ∃ q, cT ts[j] us[j] = q := ⟨_, rfl⟩
                have HC : Hid (∀ w2, Below wr.heap.size wr w2 → Calls Tryd.prog 38 #[tv ts[j] u, tv us[j] u2] w2 fun e w' => e = .returned (.int .i64 q2) ∧ Below w2.heap.size w2 w') := fun w2 h2 => by
                  refine (HI.out j hlt i2 u u2 _ (HU.out.below h2) (HU2.out.below h2)).mono ?_
                  rintro e w1 ⟨h1, h3⟩
                  rw [hq2] at h1
                  exact ⟨h1, h3⟩
                have HQ2 := Lib.hid hq2
                clear hq2
                go_wp2_with fail
                have hS0 : Below wr.heap.size wr wr.drew := (Below.refl _ _).drew
                have HS : Hid (∀ w', Below wr.heap.size wr w' → (fun w' => Below wr.heap.size wr w' ∧ w'.cell? ⟨w.heap.size, 3, none⟩ = some (.slice (some ⟨b, o, none⟩) ts.length vc) ∧ w'.cell? ⟨w.heap.size + 1, 3, none⟩ = some (.slice (some ⟨b2, o2, none⟩) us.length xc) ∧ w'.cell? ⟨b, o + j * 4, none⟩ = some (.int .i64 ts[j].kind) ∧ w'.cell? ⟨b, o + j * 4 + 1, none⟩ = some (.int .i64 ts[j].num) ∧ w'.cell? ⟨b, o + j * 4 + 2, none⟩ = some (.string ts[j].name) ∧ w'.cell? ⟨b, o + j * 4 + 3, none⟩ = some (u) ∧ w'.cell? ⟨b2, o2 + j * 4, none⟩ = some (.int .i64 us[j].kind) ∧ w'.cell? ⟨b2, o2 + j * 4 + 1, none⟩ = some (.int .i64 us[j].num) ∧ w'.cell? ⟨b2, o2 + j * 4 + 2, none⟩ = some (.string us[j].name) ∧ w'.cell? ⟨b2, o2 + j * 4 + 3, none⟩ = some (u2)) w') :=
                  fun w' h => ⟨h, cell_below h _ _ p3, cell_below h _ _ r3, cell_below h _ _ d0, cell_below h _ _ d1, cell_below h _ _ d2, cell_below h _ _ d3, cell_below h _ _ f0, cell_below h _ _ f1, cell_below h _ _ f2, cell_below h _ _ f3⟩
                go_region_held3 (fun w' => Below wr.heap.size wr w' ∧ w'.cell? ⟨w.heap.size, 3, none⟩ = some (.slice (some ⟨b, o, none⟩) ts.length vc) ∧ w'.cell? ⟨w.heap.size + 1, 3, none⟩ = some (.slice (some ⟨b2, o2, none⟩) us.length xc) ∧ w'.cell? ⟨b, o + j * 4, none⟩ = some (.int .i64 ts[j].kind) ∧ w'.cell? ⟨b, o + j * 4 + 1, none⟩ = some (.int .i64 ts[j].num) ∧ w'.cell? ⟨b, o + j * 4 + 2, none⟩ = some (.string ts[j].name) ∧ w'.cell? ⟨b, o + j * 4 + 3, none⟩ = some (u) ∧ w'.cell? ⟨b2, o2 + j * 4, none⟩ = some (.int .i64 us[j].kind) ∧ w'.cell? ⟨b2, o2 + j * 4 + 1, none⟩ = some (.int .i64 us[j].num) ∧ w'.cell? ⟨b2, o2 + j * 4 + 2, none⟩ = some (.string us[j].name) ∧ w'.cell? ⟨b2, o2 + j * 4 + 3, none⟩ = some (u2))
                  (first | assumption | exact HS.out _ hS0 | exact HS.out _ h5 | go_keep)
                  (first
                    | (go_at_call 38; refine (HC.out _ ‹Below wr.heap.size wr _›).mono ?_; rintro e w1 ⟨rfl, hb1⟩; have h5 : Below wr.heap.size wr w1 := Below.trans ‹Below wr.heap.size wr _› (hb1.mono (Below.size ‹Below wr.heap.size wr _›))))
                have H5 := Lib.hid h5
                clear h5 hS0 HS d0 d1 d2 d3 f0 f1 f2 f3
                go_wp2_with fail
                go_roundw
                case rel =>
                  refine ⟨j + 1, q2, by omega, by go_num, rfl, Lib.hid (hb.out.trans (H5.out.mono hb.out.size)), Lib.hid (cell_below H5.out _ _ p3), Lib.hid (cell_below H5.out _ _ r3), Lib.hid ⟨fun h => ?_, fun h => ⟨HZ2.out.1, HZ2.out.2.1, fun p h1 h2 h3 => ?_⟩⟩⟩
                  · rw [HZ2.out.2.1, cL_at ts us j hlt i2 HZ2.out.2.2 (by rw [HQ2.out]; exact h)]; exact HQ2.out
                  · by_cases e : p = j
                    · subst e; exact HQ2.out.trans h
                    · exact HZ2.out.2.2 p h1 h2 (by omega)
                case measure => simp [intOf]; omega
              · have e : j = ts.length := by omega
                have HE : Hid (R = 0) := by
                  have hz2 := hz.out.2 rfl
                  show _ = _
                  rw [hz2.2.1]; exact cL_end ts us hz2.1 (fun p h1 h2 h3 => hz2.2.2 p h1 h2 (by omega))
                clear hz
                go_wp2_with fail
                go_ret
                exact ⟨ret_int (HRR.out.trans HE.out).symm, hb.out⟩
            · have HE := Lib.hid (hz.out.1 (by simpa using z1))
              clear hz
              by_cases hlt : j < ts.length
              all_goals
                go_wp2_with fail
                go_ret
                exact ⟨ret_int (HRR.out.trans HE.out).symm, hb.out⟩
        · have HR : Hid (¬ qc = 0 → R = qc) := fun h => by rw [hct2]; simp [orI, h]
          have HZ : Hid (qc = 0 → ts.length = us.length ∧ R = cL ts us) := fun h => by rw [h] at zc; cases zc
          clear hct2 HD
          go_enter Tryd.func38, Tryd.ntmps38
          go_wp2_with (first
            | (go_at_call_of 64 (Value.int .i64 n); refine (HB.out _).mono ?_; rintro e w1 ⟨rfl, rfl⟩)
            | (go_at_call_of 64 (Value.int .i64 (ts.length : Int)); refine (HC.out _).mono ?_; rintro e w1 ⟨rfl, rfl⟩))
          have B1 := Lib.hid (Env.b E1.out)
          have P3 := Lib.hid E1.out.c.tl.tl.tl.tl.tl.tl.tl.hd
          have R3 := Lib.hid E1.out.c.tl.tl.tl.hd
          clear E1
          generalize ((w.alloc (.cells #[.int .i64 k, .int .i64 n, .string s, .slice va ts.length vc] 24)).alloc (.cells #[.int .i64 k, .int .i64 n2, .string s2, .slice xa us.length xc] 24)) = W1 at *
          go_loopw [5, 6] (fun c i wr => ∃ (j : Nat) (q : Int), j ≤ ts.length ∧ i = .int .i64 j ∧ c = .int .i64 q ∧ Hid (Below w.heap.size w wr) ∧ Hid (wr.cell? ⟨w.heap.size, 3, none⟩ = some (.slice va ts.length vc)) ∧ Hid (wr.cell? ⟨w.heap.size + 1, 3, none⟩ = some (.slice xa us.length xc)) ∧ Hid ((¬ q = 0 → R = q) ∧ (q = 0 → ts.length = us.length ∧ R = cL ts us ∧ ∀ p (h1 : p < ts.length) (h2 : p < us.length), p < j → cT ts[p] us[p] = 0))) (fun _ i _ => ts.length - (intOf i).toNat)
          case atStart => exact ⟨0, qc, by omega, rfl, rfl, B1, P3, R3, Lib.hid ⟨HR.out, fun h => ⟨(HZ.out h).1, (HZ.out h).2, fun _ _ _ h => by omega⟩⟩⟩
          case round =>
            obtain ⟨j, q, hj, rfl, rfl, hb, hp3, hr3, hz⟩ := hrel
            have p3 := hp3.out
            have r3 := hr3.out
            rcases zero_cases q with rfl | ⟨z1, z2⟩
            · by_cases hlt : j < ts.length
              · have hz2 := hz.out.2 rfl
                have i2 : j < us.length := by omega
                obtain ⟨b, o, rfl, HL, hcp⟩ := HV.out (by omega)
                obtain ⟨b2, o2, rfl, HL2, hcp2⟩ := HX.out (by omega)
                obtain ⟨u, c0, c1, c2, c3, hu⟩ := HL.out.at j hlt
                obtain ⟨u2, e0, e1, e2, e3, hu2⟩ := HL2.out.at j i2
                have d0 := cell_below hb.out _ _ c0
                have d1 := cell_below hb.out _ _ c1
                have d2 := cell_below hb.out _ _ c2
                have d3 := cell_below hb.out _ _ c3
                have f0 := cell_below hb.out _ _ e0
                have f1 := cell_below hb.out _ _ e1
                have f2 := cell_below hb.out _ _ e2
                have f3 := cell_below hb.out _ _ e3
                have HU := Lib.hid (hu.below hb.out)
                have HU2 := Lib.hid (hu2.below hb.out)
                have HZ2 := Lib.hid hz2
                clear c0 c1 c2 c3 e0 e1 e2 e3 hu hu2 hz2 hz
                obtain ⟨q2, hq2⟩ : ∃ q, cT ts[j] us[j] = q := ⟨_, rfl⟩
                have HC : Hid (∀ w2, Below wr.heap.size wr w2 → Calls Tryd.prog 38 #[tv ts[j] u, tv us[j] u2] w2 fun e w' => e = .returned (.int .i64 q2) ∧ Below w2.heap.size w2 w') := fun w2 h2 => by
                  refine (HI.out j hlt i2 u u2 _ (HU.out.below h2) (HU2.out.below h2)).mono ?_
                  rintro e w1 ⟨h1, h3⟩
                  rw [hq2] at h1
                  exact ⟨h1, h3⟩
                have HQ2 := Lib.hid hq2
                clear hq2
                go_wp2_with fail
                have hS0 : Below wr.heap.size wr wr.drew := (Below.refl _ _).drew
                have HS : Hid (∀ w', Below wr.heap.size wr w' → (fun w' => Below wr.heap.size wr w' ∧ w'.cell? ⟨w.heap.size, 3, none⟩ = some (.slice (some ⟨b, o, none⟩) ts.length vc) ∧ w'.cell? ⟨w.heap.size + 1, 3, none⟩ = some (.slice (some ⟨b2, o2, none⟩) us.length xc) ∧ w'.cell? ⟨b, o + j * 4, none⟩ = some (.int .i64 ts[j].kind) ∧ w'.cell? ⟨b, o + j * 4 + 1, none⟩ = some (.int .i64 ts[j].num) ∧ w'.cell? ⟨b, o + j * 4 + 2, none⟩ = some (.string ts[j].name) ∧ w'.cell? ⟨b, o + j * 4 + 3, none⟩ = some (u) ∧ w'.cell? ⟨b2, o2 + j * 4, none⟩ = some (.int .i64 us[j].kind) ∧ w'.cell? ⟨b2, o2 + j * 4 + 1, none⟩ = some (.int .i64 us[j].num) ∧ w'.cell? ⟨b2, o2 + j * 4 + 2, none⟩ = some (.string us[j].name) ∧ w'.cell? ⟨b2, o2 + j * 4 + 3, none⟩ = some (u2)) w') :=
                  fun w' h => ⟨h, cell_below h _ _ p3, cell_below h _ _ r3, cell_below h _ _ d0, cell_below h _ _ d1, cell_below h _ _ d2, cell_below h _ _ d3, cell_below h _ _ f0, cell_below h _ _ f1, cell_below h _ _ f2, cell_below h _ _ f3⟩
                go_region_held3 (fun w' => Below wr.heap.size wr w' ∧ w'.cell? ⟨w.heap.size, 3, none⟩ = some (.slice (some ⟨b, o, none⟩) ts.length vc) ∧ w'.cell? ⟨w.heap.size + 1, 3, none⟩ = some (.slice (some ⟨b2, o2, none⟩) us.length xc) ∧ w'.cell? ⟨b, o + j * 4, none⟩ = some (.int .i64 ts[j].kind) ∧ w'.cell? ⟨b, o + j * 4 + 1, none⟩ = some (.int .i64 ts[j].num) ∧ w'.cell? ⟨b, o + j * 4 + 2, none⟩ = some (.string ts[j].name) ∧ w'.cell? ⟨b, o + j * 4 + 3, none⟩ = some (u) ∧ w'.cell? ⟨b2, o2 + j * 4, none⟩ = some (.int .i64 us[j].kind) ∧ w'.cell? ⟨b2, o2 + j * 4 + 1, none⟩ = some (.int .i64 us[j].num) ∧ w'.cell? ⟨b2, o2 + j * 4 + 2, none⟩ = some (.string us[j].name) ∧ w'.cell? ⟨b2, o2 + j * 4 + 3, none⟩ = some (u2))
                  (first | assumption | exact HS.out _ hS0 | exact HS.out _ h5 | go_keep)
                  (first
                    | (go_at_call 38; refine (HC.out _ ‹Below wr.heap.size wr _›).mono ?_; rintro e w1 ⟨rfl, hb1⟩; have h5 : Below wr.heap.size wr w1 := Below.trans ‹Below wr.heap.size wr _› (hb1.mono (Below.size ‹Below wr.heap.size wr _›))))
                have H5 := Lib.hid h5
                clear h5 hS0 HS d0 d1 d2 d3 f0 f1 f2 f3
                go_wp2_with fail
                go_roundw
                case rel =>
                  refine ⟨j + 1, q2, by omega, by go_num, rfl, Lib.hid (hb.out.trans (H5.out.mono hb.out.size)), Lib.hid (cell_below H5.out _ _ p3), Lib.hid (cell_below H5.out _ _ r3), Lib.hid ⟨fun h => ?_, fun h => ⟨HZ2.out.1, HZ2.out.2.1, fun p h1 h2 h3 => ?_⟩⟩⟩
                  · rw [HZ2.out.2.1, cL_at ts us j hlt i2 HZ2.out.2.2 (by rw [HQ2.out]; exact h)]; exact HQ2.out
                  · by_cases e : p = j
                    · subst e; exact HQ2.out.trans h
                    · exact HZ2.out.2.2 p h1 h2 (by omega)
                case measure => simp [intOf]; omega
              · have e : j = ts.length := by omega
                have HE : Hid (R = 0) := by
                  have hz2 := hz.out.2 rfl
                  show _ = _
                  rw [hz2.2.1]; exact cL_end ts us hz2.1 (fun p h1 h2 h3 => hz2.2.2 p h1 h2 (by omega))
                clear hz
                go_wp2_with fail
                go_ret
                exact ⟨ret_int (HRR.out.trans HE.out).symm, hb.out⟩
            · have HE := Lib.hid (hz.out.1 (by simpa using z1))
              clear hz
              by_cases hlt : j < ts.length
              all_goals
                go_wp2_with fail
                go_ret
                exact ⟨ret_int (HRR.out.trans HE.out).symm, hb.out⟩
      · have HR : Hid (¬ qb = 0 → R = qb) := fun h => by rw [hct2, orI, if_neg h]
        have HZ : Hid (qb = 0 → ts.length = us.length ∧ R = cL ts us) := fun h => by rw [h] at zb; cases zb
        clear hct2 HC HD
        go_enter Tryd.func38, Tryd.ntmps38
        go_wp2_with (first
          | (go_at_call_of 64 (Value.int .i64 n); refine (HB.out _).mono ?_; rintro e w1 ⟨rfl, rfl⟩))
        have B1 := Lib.hid (Env.b E1.out)
        have P3 := Lib.hid E1.out.c.tl.tl.tl.tl.tl.tl.tl.hd
        have R3 := Lib.hid E1.out.c.tl.tl.tl.hd
        clear E1
        generalize ((w.alloc (.cells #[.int .i64 k, .int .i64 n, .string s, .slice va ts.length vc] 24)).alloc (.cells #[.int .i64 k, .int .i64 n2, .string s2, .slice xa us.length xc] 24)) = W1 at *
        go_loopw [5, 6] (fun c i wr => ∃ (j : Nat) (q : Int), j ≤ ts.length ∧ i = .int .i64 j ∧ c = .int .i64 q ∧ Hid (Below w.heap.size w wr) ∧ Hid (wr.cell? ⟨w.heap.size, 3, none⟩ = some (.slice va ts.length vc)) ∧ Hid (wr.cell? ⟨w.heap.size + 1, 3, none⟩ = some (.slice xa us.length xc)) ∧ Hid ((¬ q = 0 → R = q) ∧ (q = 0 → ts.length = us.length ∧ R = cL ts us ∧ ∀ p (h1 : p < ts.length) (h2 : p < us.length), p < j → cT ts[p] us[p] = 0))) (fun _ i _ => ts.length - (intOf i).toNat)
        case atStart => exact ⟨0, qb, by omega, rfl, rfl, B1, P3, R3, Lib.hid ⟨HR.out, fun h => ⟨(HZ.out h).1, (HZ.out h).2, fun _ _ _ h => by omega⟩⟩⟩
        case round =>
          obtain ⟨j, q, hj, rfl, rfl, hb, hp3, hr3, hz⟩ := hrel
          have p3 := hp3.out
          have r3 := hr3.out
          rcases zero_cases q with rfl | ⟨z1, z2⟩
          · by_cases hlt : j < ts.length
            · have hz2 := hz.out.2 rfl
              have i2 : j < us.length := by omega
              obtain ⟨b, o, rfl, HL, hcp⟩ := HV.out (by omega)
              obtain ⟨b2, o2, rfl, HL2, hcp2⟩ := HX.out (by omega)
              obtain ⟨u, c0, c1, c2, c3, hu⟩ := HL.out.at j hlt
              obtain ⟨u2, e0, e1, e2, e3, hu2⟩ := HL2.out.at j i2
              have d0 := cell_below hb.out _ _ c0
              have d1 := cell_below hb.out _ _ c1
              have d2 := cell_below hb.out _ _ c2
              have d3 := cell_below hb.out _ _ c3
              have f0 := cell_below hb.out _ _ e0
              have f1 := cell_below hb.out _ _ e1
              have f2 := cell_below hb.out _ _ e2
              have f3 := cell_below hb.out _ _ e3
              have HU := Lib.hid (hu.below hb.out)
              have HU2 := Lib.hid (hu2.below hb.out)
              have HZ2 := Lib.hid hz2
              clear c0 c1 c2 c3 e0 e1 e2 e3 hu hu2 hz2 hz
              obtain ⟨q2, hq2⟩ : ∃ q, cT ts[j] us[j] = q := ⟨_, rfl⟩
              have HC : Hid (∀ w2, Below wr.heap.size wr w2 → Calls Tryd.prog 38 #[tv ts[j] u, tv us[j] u2] w2 fun e w' => e = .returned (.int .i64 q2) ∧ Below w2.heap.size w2 w') := fun w2 h2 => by
                refine (HI.out j hlt i2 u u2 _ (HU.out.below h2) (HU2.out.below h2)).mono ?_
                rintro e w1 ⟨h1, h3⟩
                rw [hq2] at h1
                exact ⟨h1, h3⟩
              have HQ2 := Lib.hid hq2
              clear hq2
              go_wp2_with fail
              have hS0 : Below wr.heap.size wr wr.drew := (Below.refl _ _).drew
              have HS : Hid (∀ w', Below wr.heap.size wr w' → (fun w' => Below wr.heap.size wr w' ∧ w'.cell? ⟨w.heap.size, 3, none⟩ = some (.slice (some ⟨b, o, none⟩) ts.length vc) ∧ w'.cell? ⟨w.heap.size + 1, 3, none⟩ = some (.slice (some ⟨b2, o2, none⟩) us.length xc) ∧ w'.cell? ⟨b, o + j * 4, none⟩ = some (.int .i64 ts[j].kind) ∧ w'.cell? ⟨b, o + j * 4 + 1, none⟩ = some (.int .i64 ts[j].num) ∧ w'.cell? ⟨b, o + j * 4 + 2, none⟩ = some (.string ts[j].name) ∧ w'.cell? ⟨b, o + j * 4 + 3, none⟩ = some (u) ∧ w'.cell? ⟨b2, o2 + j * 4, none⟩ = some (.int .i64 us[j].kind) ∧ w'.cell? ⟨b2, o2 + j * 4 + 1, none⟩ = some (.int .i64 us[j].num) ∧ w'.cell? ⟨b2, o2 + j * 4 + 2, none⟩ = some (.string us[j].name) ∧ w'.cell? ⟨b2, o2 + j * 4 + 3, none⟩ = some (u2)) w') :=
                fun w' h => ⟨h, cell_below h _ _ p3, cell_below h _ _ r3, cell_below h _ _ d0, cell_below h _ _ d1, cell_below h _ _ d2, cell_below h _ _ d3, cell_below h _ _ f0, cell_below h _ _ f1, cell_below h _ _ f2, cell_below h _ _ f3⟩
              go_region_held3 (fun w' => Below wr.heap.size wr w' ∧ w'.cell? ⟨w.heap.size, 3, none⟩ = some (.slice (some ⟨b, o, none⟩) ts.length vc) ∧ w'.cell? ⟨w.heap.size + 1, 3, none⟩ = some (.slice (some ⟨b2, o2, none⟩) us.length xc) ∧ w'.cell? ⟨b, o + j * 4, none⟩ = some (.int .i64 ts[j].kind) ∧ w'.cell? ⟨b, o + j * 4 + 1, none⟩ = some (.int .i64 ts[j].num) ∧ w'.cell? ⟨b, o + j * 4 + 2, none⟩ = some (.string ts[j].name) ∧ w'.cell? ⟨b, o + j * 4 + 3, none⟩ = some (u) ∧ w'.cell? ⟨b2, o2 + j * 4, none⟩ = some (.int .i64 us[j].kind) ∧ w'.cell? ⟨b2, o2 + j * 4 + 1, none⟩ = some (.int .i64 us[j].num) ∧ w'.cell? ⟨b2, o2 + j * 4 + 2, none⟩ = some (.string us[j].name) ∧ w'.cell? ⟨b2, o2 + j * 4 + 3, none⟩ = some (u2))
                (first | assumption | exact HS.out _ hS0 | exact HS.out _ h5 | go_keep)
                (first
                  | (go_at_call 38; refine (HC.out _ ‹Below wr.heap.size wr _›).mono ?_; rintro e w1 ⟨rfl, hb1⟩; have h5 : Below wr.heap.size wr w1 := Below.trans ‹Below wr.heap.size wr _› (hb1.mono (Below.size ‹Below wr.heap.size wr _›))))
              have H5 := Lib.hid h5
              clear h5 hS0 HS d0 d1 d2 d3 f0 f1 f2 f3
              go_wp2_with fail
              go_roundw
              case rel =>
                refine ⟨j + 1, q2, by omega, by go_num, rfl, Lib.hid (hb.out.trans (H5.out.mono hb.out.size)), Lib.hid (cell_below H5.out _ _ p3), Lib.hid (cell_below H5.out _ _ r3), Lib.hid ⟨fun h => ?_, fun h => ⟨HZ2.out.1, HZ2.out.2.1, fun p h1 h2 h3 => ?_⟩⟩⟩
                · rw [HZ2.out.2.1, cL_at ts us j hlt i2 HZ2.out.2.2 (by rw [HQ2.out]; exact h)]; exact HQ2.out
                · by_cases e : p = j
                  · subst e; exact HQ2.out.trans h
                  · exact HZ2.out.2.2 p h1 h2 (by omega)
              case measure => simp [intOf]; omega
            · have e : j = ts.length := by omega
              have HE : Hid (R = 0) := by
                have hz2 := hz.out.2 rfl
                show _ = _
                rw [hz2.2.1]; exact cL_end ts us hz2.1 (fun p h1 h2 h3 => hz2.2.2 p h1 h2 (by omega))
              clear hz
              go_wp2_with fail
              go_ret
              exact ⟨ret_int (HRR.out.trans HE.out).symm, hb.out⟩
          · have HE := Lib.hid (hz.out.1 (by simpa using z1))
            clear hz
            by_cases hlt : j < ts.length
            all_goals
              go_wp2_with fail
              go_ret
              exact ⟨ret_int (HRR.out.trans HE.out).symm, hb.out⟩
    · have HR : Hid (cT (.mk k n s ts) (.mk k2 n2 s2 us) = qa) := by
        have : ¬ qa = 0 := fun h => f3 (cmpI_zero (hqa.trans h))
        show _ = _
        rw [hct, orI, if_neg this]
      simp only [tv, Tm.kind, Tm.num, Tm.name]
      clear ih hv hx hnt hnu hct hqa hqb hqc hqd E0 f3
      go_enter Tryd.func38, Tryd.ntmps38
      go_wp2_with (first | (go_at_call 64; refine (HA.out _).mono ?_; rintro e w1 ⟨rfl, rfl⟩))
      go_ret
      exact ⟨ret_int HR.out.symm, E1.out.b⟩

end Go.Proofs.YtehnhjhflaljhaaDoor

/- The contracts of Cmp: the program's, the specification's. -/
namespace Go.Proofs.YtehnhjhflaljhaaDoor
open Go.RowKit Go.Proofs.HT

def cmpV (t u : Tm) : Int := if validB t = true ∧ validB u = true then cT t u else 0
theorem val_nodes {t : Tm} (h : validB t = true) : nodesB t = true := by unfold validB at h; simp at h; exact h.2
theorem boxesC {w : World} {t u : Tm} {v x : Value} (h : LiesT w t v) (hx : LiesT w u x) (o1 o2 : Obj) : LiesT ((w.alloc o1).alloc o2) t v ∧ LiesT ((w.alloc o1).alloc o2) u x ∧ Below w.heap.size w ((w.alloc o1).alloc o2) ∧ ((w.alloc o1).alloc o2).heap[w.heap.size]? = some o1 ∧ ((w.alloc o1).alloc o2).heap[w.heap.size + 1]? = some o2 := by
  have hb : Below w.heap.size w ((w.alloc o1).alloc o2) := ((Below.refl w.heap.size w).alloc (Nat.le_refl _) _).alloc (by simp) _
  exact ⟨h.below hb, hx.below hb, hb, by rw [Below.heap_alloc _ _ _ (by simp), heap_alloc_new], by have h := heap_alloc_new (w.alloc o1) o2; simpa using h⟩

set_option maxHeartbeats 2000000 in
theorem Cmp_any (t u : Tm) (v x : Value) (w : World) (h : LiesT w t v) (hx : LiesT w u x) (hp : Places w) : Calls Tryd.prog 12 #[tv t v, tv u x] w fun e w' => e = .returned (.int .i64 (cmpV t u)) ∧ Below w.heap.size w w' := by
  have HX := Lib.hid (fun o1 o2 => boxesC h hx o1 o2)
  have HH := Lib.hid h
  have HU := Lib.hid hx
  have HP := Lib.hid hp
  rcases Bool.eq_false_or_eq_true (validB t) with b1 | b1
  · rcases Bool.eq_false_or_eq_true (validB u) with b2 | b2
    · have HR : Hid (cmpV t u = cT t u) := by show _ = _; rw [cmpV, if_pos ⟨b1, b2⟩]
      have HB1 := Lib.hid b1
      have HB2 := Lib.hid b2
      have N1 := Lib.hid (val_nodes b1)
      have N2 := Lib.hid (val_nodes b2)
      simp only [tv]
      clear h hx hp b1 b2
      go_enter Tryd.func12, Tryd.ntmps12
      go_wp2_with fail
      refine (Valid_any t v _ (HX.out _ _).1).mono ?_
      rintro e w1 ⟨rfl, hb1⟩
      rw [HB1.out]
      have z1 : w.heap.size + 2 ≤ w1.heap.size := by have := hb1.size; simp at this; omega
      have K0 := Lib.hid ((hb1.block w.heap.size (by simp <;> omega)).trans (HX.out _ _).2.2.2.1)
      have K1 := Lib.hid ((hb1.block (w.heap.size + 1) (by simp)).trans (HX.out _ _).2.2.2.2)
      have B1 := Lib.hid ((HX.out _ _).2.2.1.trans (hb1.mono (by simp <;> omega)))
      clear hb1
      have q0 : w1.cell? ⟨w.heap.size + 1, 0, none⟩ = some (.int .i64 u.kind) := by rw [cell_of_row _ _ _ _ _ _ K1.out]; rfl
      have q1 : w1.cell? ⟨w.heap.size + 1, 1, none⟩ = some (.int .i64 u.num) := by rw [cell_of_row _ _ _ _ _ _ K1.out]; rfl
      have q2 : w1.cell? ⟨w.heap.size + 1, 2, none⟩ = some (.string u.name) := by rw [cell_of_row _ _ _ _ _ _ K1.out]; rfl
      have q3 : w1.cell? ⟨w.heap.size + 1, 3, none⟩ = some (x) := by rw [cell_of_row _ _ _ _ _ _ K1.out]; rfl
      go_wp2_with fail
      refine (Valid_any u x _ (HU.out.below B1.out)).mono ?_
      rintro e w2 ⟨rfl, hb2⟩
      rw [HB2.out]
      have J0 := Lib.hid ((hb2.block w.heap.size (by omega)).trans K0.out)
      have J1 := Lib.hid ((hb2.block (w.heap.size + 1) (by omega)).trans K1.out)
      have B2 := Lib.hid (B1.out.trans (hb2.mono B1.out.size))
      have z2 : w.heap.size + 2 ≤ w2.heap.size := by have := hb2.size; omega
      clear hb2 q0 q1 q2 q3 K0 K1
      have p0 : w2.cell? ⟨w.heap.size, 0, none⟩ = some (.int .i64 t.kind) := by rw [cell_of_row _ _ _ _ _ _ J0.out]; rfl
      have p1 : w2.cell? ⟨w.heap.size, 1, none⟩ = some (.int .i64 t.num) := by rw [cell_of_row _ _ _ _ _ _ J0.out]; rfl
      have p2 : w2.cell? ⟨w.heap.size, 2, none⟩ = some (.string t.name) := by rw [cell_of_row _ _ _ _ _ _ J0.out]; rfl
      have p3 : w2.cell? ⟨w.heap.size, 3, none⟩ = some (v) := by rw [cell_of_row _ _ _ _ _ _ J0.out]; rfl
      have q0 : w2.cell? ⟨w.heap.size + 1, 0, none⟩ = some (.int .i64 u.kind) := by rw [cell_of_row _ _ _ _ _ _ J1.out]; rfl
      have q1 : w2.cell? ⟨w.heap.size + 1, 1, none⟩ = some (.int .i64 u.num) := by rw [cell_of_row _ _ _ _ _ _ J1.out]; rfl
      have q2 : w2.cell? ⟨w.heap.size + 1, 2, none⟩ = some (.string u.name) := by rw [cell_of_row _ _ _ _ _ _ J1.out]; rfl
      have q3 : w2.cell? ⟨w.heap.size + 1, 3, none⟩ = some (x) := by rw [cell_of_row _ _ _ _ _ _ J1.out]; rfl
      go_wp2_with fail
      refine (compare_any t u v x _ (HH.out.below B2.out) (HU.out.below B2.out) N1.out N2.out (HP.out.below B2.out)).mono ?_
      rintro e w3 ⟨rfl, hb3⟩
      go_wp2_with fail
      go_ret
      exact ⟨ret_int HR.out.symm, B2.out.trans (hb3.mono B2.out.size)⟩
    · have HR : Hid (cmpV t u = 0) := by show _ = _; rw [cmpV, if_neg (by rw [b2]; simp)]
      have HB1 := Lib.hid b1
      have HB2 := Lib.hid b2
      simp only [tv]
      clear h hx hp b1 b2
      go_enter Tryd.func12, Tryd.ntmps12
      go_wp2_with fail
      refine (Valid_any t v _ (HX.out _ _).1).mono ?_
      rintro e w1 ⟨rfl, hb1⟩
      rw [HB1.out]
      have z1 : w.heap.size + 2 ≤ w1.heap.size := by have := hb1.size; simp at this; omega
      have K0 := Lib.hid ((hb1.block w.heap.size (by simp <;> omega)).trans (HX.out _ _).2.2.2.1)
      have K1 := Lib.hid ((hb1.block (w.heap.size + 1) (by simp)).trans (HX.out _ _).2.2.2.2)
      have B1 := Lib.hid ((HX.out _ _).2.2.1.trans (hb1.mono (by simp <;> omega)))
      clear hb1
      have q0 : w1.cell? ⟨w.heap.size + 1, 0, none⟩ = some (.int .i64 u.kind) := by rw [cell_of_row _ _ _ _ _ _ K1.out]; rfl
      have q1 : w1.cell? ⟨w.heap.size + 1, 1, none⟩ = some (.int .i64 u.num) := by rw [cell_of_row _ _ _ _ _ _ K1.out]; rfl
      have q2 : w1.cell? ⟨w.heap.size + 1, 2, none⟩ = some (.string u.name) := by rw [cell_of_row _ _ _ _ _ _ K1.out]; rfl
      have q3 : w1.cell? ⟨w.heap.size + 1, 3, none⟩ = some (x) := by rw [cell_of_row _ _ _ _ _ _ K1.out]; rfl
      go_wp2_with fail
      refine (Valid_any u x _ (HU.out.below B1.out)).mono ?_
      rintro e w2 ⟨rfl, hb2⟩
      rw [HB2.out]
      have J0 := Lib.hid ((hb2.block w.heap.size (by omega)).trans K0.out)
      have J1 := Lib.hid ((hb2.block (w.heap.size + 1) (by omega)).trans K1.out)
      have B2 := Lib.hid (B1.out.trans (hb2.mono B1.out.size))
      have z2 : w.heap.size + 2 ≤ w2.heap.size := by have := hb2.size; omega
      clear hb2 q0 q1 q2 q3 K0 K1
      go_wp2_with fail
      go_ret
      exact ⟨ret_int HR.out.symm, B2.out⟩
  · have HR : Hid (cmpV t u = 0) := by show _ = _; rw [cmpV, if_neg (by rw [b1]; simp)]
    have HB1 := Lib.hid b1
    simp only [tv]
    clear h hx hp b1
    go_enter Tryd.func12, Tryd.ntmps12
    go_wp2_with fail
    refine (Valid_any t v _ (HX.out _ _).1).mono ?_
    rintro e w1 ⟨rfl, hb1⟩
    rw [HB1.out]
    have z1 : w.heap.size + 2 ≤ w1.heap.size := by have := hb1.size; simp at this; omega
    have K0 := Lib.hid ((hb1.block w.heap.size (by simp <;> omega)).trans (HX.out _ _).2.2.2.1)
    have K1 := Lib.hid ((hb1.block (w.heap.size + 1) (by simp)).trans (HX.out _ _).2.2.2.2)
    have B1 := Lib.hid ((HX.out _ _).2.2.1.trans (hb1.mono (by simp <;> omega)))
    clear hb1
    go_wp2_with fail
    go_ret
    exact ⟨ret_int HR.out.symm, B1.out⟩

set_option maxHeartbeats 2000000 in
theorem cmp_any (t u : Tm) (v x : Value) (w : World) (h : LiesT w t v) (hx : LiesT w u x) : Calls Tryd.prog 13 #[tv t v, tv u x] w fun e w' => e = .returned (.int .i64 (cmpV t u)) ∧ Below w.heap.size w w' := by
  have HX := Lib.hid (fun o1 o2 => boxesC h hx o1 o2)
  have HH := Lib.hid h
  have HU := Lib.hid hx
  rcases Bool.eq_false_or_eq_true (validB t) with b1 | b1
  · rcases Bool.eq_false_or_eq_true (validB u) with b2 | b2
    · have HR : Hid (cmpV t u = cT t u) := by show _ = _; rw [cmpV, if_pos ⟨b1, b2⟩]
      have HB1 := Lib.hid b1
      have HB2 := Lib.hid b2
      have N1 := Lib.hid (val_nodes b1)
      have N2 := Lib.hid (val_nodes b2)
      simp only [tv]
      clear h hx b1 b2
      go_enter Tryd.func13, Tryd.ntmps13
      go_wp2_with fail
      refine (valid_any t v _ (HX.out _ _).1).mono ?_
      rintro e w1 ⟨rfl, hb1⟩
      rw [HB1.out]
      have z1 : w.heap.size + 2 ≤ w1.heap.size := by have := hb1.size; simp at this; omega
      have K0 := Lib.hid ((hb1.block w.heap.size (by simp <;> omega)).trans (HX.out _ _).2.2.2.1)
      have K1 := Lib.hid ((hb1.block (w.heap.size + 1) (by simp)).trans (HX.out _ _).2.2.2.2)
      have B1 := Lib.hid ((HX.out _ _).2.2.1.trans (hb1.mono (by simp <;> omega)))
      clear hb1
      have q0 : w1.cell? ⟨w.heap.size + 1, 0, none⟩ = some (.int .i64 u.kind) := by rw [cell_of_row _ _ _ _ _ _ K1.out]; rfl
      have q1 : w1.cell? ⟨w.heap.size + 1, 1, none⟩ = some (.int .i64 u.num) := by rw [cell_of_row _ _ _ _ _ _ K1.out]; rfl
      have q2 : w1.cell? ⟨w.heap.size + 1, 2, none⟩ = some (.string u.name) := by rw [cell_of_row _ _ _ _ _ _ K1.out]; rfl
      have q3 : w1.cell? ⟨w.heap.size + 1, 3, none⟩ = some (x) := by rw [cell_of_row _ _ _ _ _ _ K1.out]; rfl
      go_wp2_with fail
      refine (valid_any u x _ (HU.out.below B1.out)).mono ?_
      rintro e w2 ⟨rfl, hb2⟩
      rw [HB2.out]
      have J0 := Lib.hid ((hb2.block w.heap.size (by omega)).trans K0.out)
      have J1 := Lib.hid ((hb2.block (w.heap.size + 1) (by omega)).trans K1.out)
      have B2 := Lib.hid (B1.out.trans (hb2.mono B1.out.size))
      have z2 : w.heap.size + 2 ≤ w2.heap.size := by have := hb2.size; omega
      clear hb2 q0 q1 q2 q3 K0 K1
      have p0 : w2.cell? ⟨w.heap.size, 0, none⟩ = some (.int .i64 t.kind) := by rw [cell_of_row _ _ _ _ _ _ J0.out]; rfl
      have p1 : w2.cell? ⟨w.heap.size, 1, none⟩ = some (.int .i64 t.num) := by rw [cell_of_row _ _ _ _ _ _ J0.out]; rfl
      have p2 : w2.cell? ⟨w.heap.size, 2, none⟩ = some (.string t.name) := by rw [cell_of_row _ _ _ _ _ _ J0.out]; rfl
      have p3 : w2.cell? ⟨w.heap.size, 3, none⟩ = some (v) := by rw [cell_of_row _ _ _ _ _ _ J0.out]; rfl
      have q0 : w2.cell? ⟨w.heap.size + 1, 0, none⟩ = some (.int .i64 u.kind) := by rw [cell_of_row _ _ _ _ _ _ J1.out]; rfl
      have q1 : w2.cell? ⟨w.heap.size + 1, 1, none⟩ = some (.int .i64 u.num) := by rw [cell_of_row _ _ _ _ _ _ J1.out]; rfl
      have q2 : w2.cell? ⟨w.heap.size + 1, 2, none⟩ = some (.string u.name) := by rw [cell_of_row _ _ _ _ _ _ J1.out]; rfl
      have q3 : w2.cell? ⟨w.heap.size + 1, 3, none⟩ = some (x) := by rw [cell_of_row _ _ _ _ _ _ J1.out]; rfl
      go_wp2_with fail
      refine (compR_any t u v x _ (HH.out.below B2.out) (HU.out.below B2.out) N1.out N2.out).mono ?_
      rintro e w3 ⟨rfl, hb3⟩
      go_wp2_with fail
      go_ret
      exact ⟨ret_int HR.out.symm, B2.out.trans (hb3.mono B2.out.size)⟩
    · have HR : Hid (cmpV t u = 0) := by show _ = _; rw [cmpV, if_neg (by rw [b2]; simp)]
      have HB1 := Lib.hid b1
      have HB2 := Lib.hid b2
      simp only [tv]
      clear h hx b1 b2
      go_enter Tryd.func13, Tryd.ntmps13
      go_wp2_with fail
      refine (valid_any t v _ (HX.out _ _).1).mono ?_
      rintro e w1 ⟨rfl, hb1⟩
      rw [HB1.out]
      have z1 : w.heap.size + 2 ≤ w1.heap.size := by have := hb1.size; simp at this; omega
      have K0 := Lib.hid ((hb1.block w.heap.size (by simp <;> omega)).trans (HX.out _ _).2.2.2.1)
      have K1 := Lib.hid ((hb1.block (w.heap.size + 1) (by simp)).trans (HX.out _ _).2.2.2.2)
      have B1 := Lib.hid ((HX.out _ _).2.2.1.trans (hb1.mono (by simp <;> omega)))
      clear hb1
      have q0 : w1.cell? ⟨w.heap.size + 1, 0, none⟩ = some (.int .i64 u.kind) := by rw [cell_of_row _ _ _ _ _ _ K1.out]; rfl
      have q1 : w1.cell? ⟨w.heap.size + 1, 1, none⟩ = some (.int .i64 u.num) := by rw [cell_of_row _ _ _ _ _ _ K1.out]; rfl
      have q2 : w1.cell? ⟨w.heap.size + 1, 2, none⟩ = some (.string u.name) := by rw [cell_of_row _ _ _ _ _ _ K1.out]; rfl
      have q3 : w1.cell? ⟨w.heap.size + 1, 3, none⟩ = some (x) := by rw [cell_of_row _ _ _ _ _ _ K1.out]; rfl
      go_wp2_with fail
      refine (valid_any u x _ (HU.out.below B1.out)).mono ?_
      rintro e w2 ⟨rfl, hb2⟩
      rw [HB2.out]
      have J0 := Lib.hid ((hb2.block w.heap.size (by omega)).trans K0.out)
      have J1 := Lib.hid ((hb2.block (w.heap.size + 1) (by omega)).trans K1.out)
      have B2 := Lib.hid (B1.out.trans (hb2.mono B1.out.size))
      have z2 : w.heap.size + 2 ≤ w2.heap.size := by have := hb2.size; omega
      clear hb2 q0 q1 q2 q3 K0 K1
      go_wp2_with fail
      go_ret
      exact ⟨ret_int HR.out.symm, B2.out⟩
  · have HR : Hid (cmpV t u = 0) := by show _ = _; rw [cmpV, if_neg (by rw [b1]; simp)]
    have HB1 := Lib.hid b1
    simp only [tv]
    clear h hx b1
    go_enter Tryd.func13, Tryd.ntmps13
    go_wp2_with fail
    refine (valid_any t v _ (HX.out _ _).1).mono ?_
    rintro e w1 ⟨rfl, hb1⟩
    rw [HB1.out]
    have z1 : w.heap.size + 2 ≤ w1.heap.size := by have := hb1.size; simp at this; omega
    have K0 := Lib.hid ((hb1.block w.heap.size (by simp <;> omega)).trans (HX.out _ _).2.2.2.1)
    have K1 := Lib.hid ((hb1.block (w.heap.size + 1) (by simp)).trans (HX.out _ _).2.2.2.2)
    have B1 := Lib.hid ((HX.out _ _).2.2.1.trans (hb1.mono (by simp <;> omega)))
    clear hb1
    go_wp2_with fail
    go_ret
    exact ⟨ret_int HR.out.symm, B1.out⟩

end Go.Proofs.YtehnhjhflaljhaaDoor
