/- Bytes that came in; sorted rows that are permutations of one another; two elements exchanged. -/
import Derived.Test.YtehnhjhflaljhaaDoorKI
import Derived.OpenShut
import Derived.Test.YtehnhjhflaljhaaDoorO1
namespace Go.Proofs.YtehnhjhflaljhaaDoor
open Go.ChangeShapes Go.WideShapes Go.RowKit Go.Proofs.HT

def U8s (w : World) (v : Value) : Prop := ∃ a n c, v = .slice a n c ∧ n ≤ 9223372036854775807 ∧ (0 < n → ∃ b off, a = some ⟨b, off, none⟩ ∧ ∀ j, j < n → ∃ x : Nat, x < 256 ∧ w.cell? ⟨b, off + j, none⟩ = some (.int .u8 x))
theorem cells5 : Tryd.prog.cellsOf 5 = 1 := by kernel_rfl
theorem open_u8s {H : Type} {enc : TypeId × Value → H} {W : World} {r : Reach} {base : Nat} {v : Value} {d : DataW H} {p : List MemPlace} (hv : Value.okWide Tryd.prog W r base 43 v) (h : DataW.Trod enc Tryd.prog W 0 (fun _ => true) true 43 v d p) : U8s W v := by
  obtain ⟨a1, len, cap, rfl⟩ := okWide_slice Tryd.underlying43 hv
  obtain ⟨fuel, hf⟩ := h
  rcases open_ints Tryd.underlying43 Tryd.underlying5 cells5 hf with ⟨hcs, _⟩ | ⟨a, len', cap', zs, hcs, _, hl, hm, hz, _, hcell, hwz⟩
  · simp [Value.cells] at hcs
    obtain ⟨rfl, rfl, rfl⟩ := hcs
    exact ⟨none, 0, 0, rfl, by omega, fun h => by omega⟩
  · simp [Value.cells] at hcs
    obtain ⟨rfl, rfl, rfl⟩ := hcs
    simp only [if_true] at hz
    refine ⟨some a, len, cap, rfl, by simp only [maxLen] at hm; omega, fun h0 => ?_⟩
    obtain ⟨ab, ao, spot⟩ := a
    have hspot : spot = none := by simpa [Addr.add] using World.cell?_spot (hcell 0 (by omega))
    subst hspot
    refine ⟨ab, ao, rfl, fun j hj => ?_⟩
    have hcj := hcell j (by omega)
    rw [Addr.add_lit] at hcj
    have hb := range_u8 hwz j
    rw [← List.getD_eq_getElem?_getD] at hb
    refine ⟨(zs.getD j 0).toNat, by omega, ?_⟩
    rw [hcj]
    congr 2
    omega
theorem sorted_one : ∀ (l m : List Tm), l.Pairwise (fun a b => cT a b ≤ 0) → m.Pairwise (fun a b => cT a b ≤ 0) → l.Perm m → l = m
  | [], m, _, _, h => (List.Perm.nil_eq h)
  | a :: l, [], _, _, h => by have := h.length_eq; simp at this
  | a :: l, b :: m, h1, h2, h => by
    have ha : a ∈ b :: m := h.subset (by simp)
    have hb : b ∈ a :: l := h.symm.subset (by simp)
    have p1 := List.pairwise_cons.1 h1
    have p2 := List.pairwise_cons.1 h2
    have e : a = b := by
      rcases List.mem_cons.1 ha with e | ha
      · exact e
      · rcases List.mem_cons.1 hb with e | hb
        · exact e.symm
        · have q1 := p2.1 a ha
          have q2 := p1.1 b hb
          have := cT_neg a b
          exact cT_eq a b (by omega)
    subst e
    rw [sorted_one l m p1.2 p2.2 (List.Perm.cons_inv h)]
theorem sorted_map {l : List PV} (h : SortedC (cfP false) l) : (l.map Prod.fst).Pairwise (fun a b => cT a b ≤ 0) := List.pairwise_map.2 h
theorem st_one {l m : List PV} (h : (l.map Prod.fst).Perm (m.map Prod.fst)) : (stL (cfP false) l).map Prod.fst = (stL (cfP false) m).map Prod.fst :=
  sorted_one _ _ (sorted_map (st_sorted (cfP_ord false) l)) (sorted_map (st_sorted (cfP_ord false) m)) (((st_perm l).map _).trans (h.trans ((st_perm m).map _).symm))
theorem cpt_map {l m : List PV} (h : l.map Prod.fst = m.map Prod.fst) : ∀ i, (cptN eqP l i).map Prod.fst = (cptN eqP m i).map Prod.fst
  | 0 => rfl
  | 1 => by simp only [cptN, List.map_take, h]
  | i + 2 => by
    have ih := cpt_map h (i + 1)
    have e1 := map_getD h (i + 1)
    have e2 := map_getD h i
    have e : eqP (l.getD (i + 1) dflt) (l.getD i dflt) = eqP (m.getD (i + 1) dflt) (m.getD i dflt) := by unfold eqP; rw [e1, e2]
    rw [cptN, cptN, e]
    split
    · exact ih
    · rw [List.map_append, List.map_append, ih, List.map_singleton, List.map_singleton, e1]
theorem swap_lt (l : List PV) (i j : Nat) (hij : i < j) (hj : j < l.length) : ((l.set i (l.getD j dflt)).set j (l.getD i dflt)).Perm l ∧ ((l.set j (l.getD i dflt)).set i (l.getD j dflt)).Perm l := by
  have e1 : l = l.take i ++ l.drop i := (List.take_append_drop i l).symm
  have e2 : l.drop i = l[i]'(by omega) :: l.drop (i + 1) := List.drop_eq_getElem_cons (by omega)
  have e3 : l.drop (i + 1) = (l.drop (i + 1)).take (j - i - 1) ++ (l.drop (i + 1)).drop (j - i - 1) := (List.take_append_drop _ _).symm
  have e4 : (l.drop (i + 1)).drop (j - i - 1) = l.drop j := by rw [List.drop_drop]; congr 1; omega
  have e5 : l.drop j = l[j] :: l.drop (j + 1) := List.drop_eq_getElem_cons hj
  have hF : (l.take i).length = i := by rw [List.length_take]; omega
  have hG : ((l.drop (i + 1)).take (j - i - 1)).length = j - i - 1 := by rw [List.length_take, List.length_drop]; omega
  obtain ⟨F, hFe⟩ : ∃ F, l.take i = F := ⟨_, rfl⟩
  obtain ⟨G, hGe⟩ : ∃ G, (l.drop (i + 1)).take (j - i - 1) = G := ⟨_, rfl⟩
  obtain ⟨H, hHe⟩ : ∃ H, l.drop (j + 1) = H := ⟨_, rfl⟩
  obtain ⟨u, hu⟩ : ∃ u, l[i]'(by omega) = u := ⟨_, rfl⟩
  obtain ⟨v, hv⟩ : ∃ v, l[j] = v := ⟨_, rfl⟩
  rw [e4, e5, hGe, hHe, hv] at e3
  rw [e3, hu] at e2
  rw [e2, hFe] at e1
  rw [hFe] at hF
  rw [hGe] at hG
  obtain ⟨g1, g2, g3, g4⟩ := swap_two F G H u v i j hF (by omega)
  have hp : (F ++ v :: (G ++ u :: H)).Perm (F ++ u :: (G ++ v :: H)) := by
    refine List.Perm.append_left F ?_
    exact ((List.perm_middle.cons v).trans (List.Perm.swap u v _)).trans (List.perm_middle.symm.cons u)
  rw [e1, g1, g2, g3, g4]
  exact ⟨hp, hp⟩
theorem swap_perm (l : List PV) (i j : Nat) (hi : i < l.length) (hj : j < l.length) : ((l.set i (l.getD j dflt)).set j (l.getD i dflt)).Perm l := by
  by_cases h : i < j
  · exact (swap_lt l i j h hj).1
  · by_cases h2 : j < i
    · exact (swap_lt l j i h2 hi).2
    · obtain rfl : i = j := by omega
      have : (l.set i (l.getD i dflt)).set i (l.getD i dflt) = l := by
        rw [getD_at l i hi, List.set_getElem_self, List.set_getElem_self]
      rw [this]
theorem cnt_map {l m : List PV} (h : (l.map Prod.fst).Perm (m.map Prod.fst)) (t : Tm) : cntS l t = cntS m t := by
  have e : ∀ l : List PV, cntS l t = ((l.map Prod.fst).filter fun u => sameV u t).length := fun l => by
    unfold cntS
    rw [List.filter_map, List.length_map]; rfl
  rw [e, e, (h.filter _).length_eq]
/-- Each element of a sorted row is among those without duplicates. -/
theorem cpt_has (l : List PV) (hs : SortedC (cfP false) l) : ∀ i, i ≤ l.length → ∀ k, k < i → ∃ p ∈ cptN eqP l i, cT p.1 (l.getD k dflt).1 = 0
  | 0, _, _, h => by omega
  | 1, h, k, hk => by
    obtain rfl : k = 0 := by omega
    rw [cptN_one eqP l (by omega)]
    exact ⟨_, by simp, cT_self _⟩
  | i + 2, h, k, hk => by
    have ih := cpt_has l hs (i + 1) (by omega)
    rw [cptN]
    by_cases e : eqP (l.getD (i + 1) dflt) (l.getD i dflt) = true
    · rw [if_pos e]
      by_cases hk2 : k < i + 1
      · exact ih k hk2
      · obtain rfl : k = i + 1 := by omega
        obtain ⟨p, hp, hz⟩ := ih i (by omega)
        unfold eqP at e
        have e2 : cT (l.getD (i + 1) dflt).1 (l.getD i dflt).1 = 0 := by simpa using e
        have := cT_eq _ _ e2
        exact ⟨p, hp, by rw [this]; exact hz⟩
    · rw [if_neg e]
      by_cases hk2 : k < i + 1
      · obtain ⟨p, hp, hz⟩ := ih k hk2
        exact ⟨p, List.mem_append_left _ hp, hz⟩
      · obtain rfl : k = i + 1 := by omega
        exact ⟨_, List.mem_append_right _ (by simp), cT_self _⟩
/-- The rank of an element of a strictly increasing row. -/
theorem rk_self (l : List PV) (hi : Inc l) (hv : ∀ p ∈ l, validB p.1 = true) (k : Nat) (hk : k < l.length) : RkIs l (l.getD k dflt).1 k true := by
  have hb : BsIs l (l.getD k dflt).1 k true := by
    rw [getD_at l k hk]
    refine ⟨by omega, fun j hj => ?_, fun j h1 h2 => ?_, ?_⟩
    · rw [getD_at l j (by omega)]
      exact List.pairwise_iff_getElem.1 hi j k (by omega) hk hj
    · rw [getD_at l j h2]
      by_cases e : k = j
      · subst e; rw [cT_self]; exact Int.le_refl _
      · have h3 := List.pairwise_iff_getElem.1 hi k j hk h2 (by omega)
        rw [cT_neg l[k].1 l[j].1]; omega
    · rw [getD_at l k hk, cT_self]; simp; exact hk
  have hq : ((validB (l.getD k dflt).1 && (l.all fun p => validB p.1)) && incB l) = true := by
    rw [getD_at l k hk, hv _ (List.getElem_mem hk), List.all_eq_true.2 hv, (inc_iff l).2 hi]; rfl
  exact ⟨fun _ => hb, fun h => by rw [hq] at h; cases h⟩

set_option maxHeartbeats 4000000 in
theorem Sort_zero (b off n cap : Nat) (l : List PV) (w : World) (hn : l.length = n) (hn2 : n ≤ 1000000) (hcap : n ≤ cap) (hrow : RowIn w b off l) (hl : ∀ p ∈ l, LiesT w p.1 p.2) (hp : Places w) (hv : (l.all fun p => validB p.1) = true) (R : List PV) (hR : R.length = n) (hmem : ∀ p ∈ R, p ∈ l) (hn0 : n = 0)
    (HS : Hid (∀ w1, Below w.heap.size w w1 → Calls Tryd.prog 42 #[.slice (some ⟨b, off, none⟩) n cap, .func (.func 43) #[] #[]] w1 (RowEnd R w1))) :
    Calls Tryd.prog 16 #[.slice (some ⟨b, off, none⟩) n cap] w (CopyE ((cptN eqP R n).map Prod.fst) 0 w) := by
  have A1 := Lib.hid (all_valid b off n cap l w hn hn2 hcap hrow hl)
  rw [hv] at A1
  have HL : Hid (∀ p ∈ R, LiesT w p.1 p.2 ∧ validB p.1 = true) := fun p hp => And.intro (hl p (hmem p hp)) (List.all_eq_true.1 hv p (hmem p hp))
  have HRL := Lib.hid hR
  have HN1 := Lib.hid hn0
  have HP := Lib.hid hp
  clear hrow hl hn hv hmem hR hp hn0
  go_enter Tryd.func16, Tryd.ntmps16
  go_wp2_with fail
  refine A1.out.mono ?_
  rintro e w1 ⟨rfl, hb1⟩
  have B2 := Lib.hid hb1
  clear hb1
  go_wp2_with fail
  refine (HS.out w1 B2.out).mono ?_
  rintro e w3 ⟨g, cap3, pad, rfl, hc3, hg3, hr3, hb3⟩
  rw [HRL.out] at hc3
  rw [HRL.out]
  have B3 := Lib.hid (B2.out.trans (hb3.mono B2.out.size))
  have HC : Hid (Calls Tryd.prog 41 #[.slice (some ⟨g, 0, none⟩) n cap3, .func (.func 44) #[] #[]] w3 fun e w' => e = .returned (.slice (some ⟨g, 0, none⟩) n cap3) ∧ w3 = w') := compact_short _ n cap3 (by have := HN1.out; omega) w3
  have HROW : Hid (RowAt w3 g R pad 24) := Lib.hid hr3
  clear hr3 hb3 hg3
  go_wp2_with fail
  refine HC.out.mono ?_
  rintro e w4 ⟨rfl, rfl⟩
  have hcp : cptN eqP R n = R := by
    rw [HN1.out, cptN]
    exact (List.length_eq_zero_iff.1 (by rw [HRL.out, HN1.out])).symm
  have HCP := Lib.hid hcp
  have HC2 := Lib.hid (copies_any (some ⟨g, 0, none⟩) n cap3 R w3 HRL.out (by omega) hc3 (Lib.hid (fun _ => ⟨g, 0, rfl, RowAt.rowIn HROW.out⟩)) (fun p hp => ⟨(HL.out p hp).1.below B3.out, (HL.out p hp).2⟩))
  clear hcp
  go_wp2_with fail
  refine HC2.out.mono ?_
  intro e w5 hC5
  obtain ⟨g5, rfl, hE⟩ := CopyE.of B3.out hC5
  rw [List.length_map] at hE
  have HE := Lib.hid hE
  clear hE hC5
  go_wp2_with fail
  go_ret2
  rw [HCP.out]
  exact HE.out


theorem Sort_c (v : Value) (m : List PV) (lo hi : Nat) (w : World) (h : CpV w lo hi v m) (hn : m.length ≤ 40) (hp : Places w) (hv : (m.all fun p => validB p.1) = true) : Calls Tryd.prog 16 #[v] w (CpE ((cptN eqP (stL (cfP false) m) m.length).map Prod.fst) 0 w) := by
  by_cases h0 : 0 < m.length
  · have hr : RowV w v m := by
      rcases h with ⟨rfl, _⟩ | ⟨g, h1, _, _, _, h5, _⟩
      · simp at h0
      · exact .inr ⟨h0, g, 0, m.length, h1, Nat.le_refl _, RowAt.rowIn h5⟩
    exact (Sort_40 v m w hr hn h.lies hp hv).mono fun _ _ h => h.cp
  · have e : m = [] := List.length_eq_zero_iff.1 (by omega)
    subst e
    rcases h with ⟨_, rfl⟩ | ⟨g, rfl, _, _, _, h5, _⟩
    · exact (Sort_nil w).mono fun _ _ h => h.cp
    · exact (Sort_zero g 0 0 0 [] w rfl (by omega) (Nat.le_refl _) (RowAt.rowIn h5) (by simp) hp rfl [] rfl (by simp) rfl
        (Lib.hid (fun w1 hb => sorted_w40 g 0 0 0 [] w1 rfl (by omega) ((RowAt.rowIn h5).below hb) (by simp) (hp.below hb)))).mono fun _ _ h => h.cp
def Five (v5 v0 : Value) (l lo : List PV) (n : Nat) (S TL : List PV) : Prop :=
  (Inc S ∧ (∀ p ∈ l, ∃ q ∈ S, cT q.1 p.1 = 0) ∧ (∀ p ∈ S, p ∈ l) ∧ S.length ≤ n ∧ SortedC (cfP false) TL ∧ TL.Perm l) ∧
  (∀ w, RowV w v0 l → (∀ p ∈ l, LiesT w p.1 p.2) → Places w → Calls Tryd.prog 16 #[v0] w (CpE (S.map Prod.fst) 0 w) ∧ Calls Tryd.prog 17 #[v0] w (CpE (TL.map Prod.fst) 0 w)) ∧
  (∀ w, RowV w v5 lo → (∀ p ∈ lo, LiesT w p.1 p.2) → Places w → Calls Tryd.prog 16 #[v5] w (CpE (S.map Prod.fst) 0 w) ∧ Calls Tryd.prog 17 #[v5] w (CpE (TL.map Prod.fst) 0 w)) ∧
  (∀ (v : Value) (m : List PV) (b c : Nat) (w : World), CpV w b c v m → m.map Prod.fst = TL.map Prod.fst → Places w → Calls Tryd.prog 16 #[v] w (CpE (S.map Prod.fst) 0 w))
theorem five_any (v5 v0 : Value) (l lo : List PV) (n : Nat) (hn : l.length = n) (hn40 : n ≤ 40) (hv : ∀ p ∈ l, validB p.1 = true) (hpm : lo.Perm l) : ∃ S TL, Five v5 v0 l lo n S TL := by
  have hlo : lo.length = n := by have := hpm.length_eq; omega
  have hva : (l.all fun p => validB p.1) = true := List.all_eq_true.2 hv
  have hvo : (lo.all fun p => validB p.1) = true := List.all_eq_true.2 (fun p hp => hv p (hpm.subset hp))
  have e1 : (stL (cfP false) lo).map Prod.fst = (stL (cfP false) l).map Prod.fst := st_one (hpm.map _)
  have e2 : (cptN eqP (stL (cfP false) lo) n).map Prod.fst = (cptN eqP (stL (cfP false) l) n).map Prod.fst := cpt_map e1 n
  have hs := st_sorted (cfP_ord false) l
  have hsl : (stL (cfP false) l).length = n := by rw [st_length, hn]
  refine ⟨cptN eqP (stL (cfP false) l) n, stL (cfP false) l, ⟨(cpt_inc _ hs n (by omega)).1, fun p hp => ?_, fun p hp => ?_, cptN_len _ _ _, hs, st_perm l⟩, fun w h1 h2 h3 => ⟨?_, ?_⟩, fun w h1 h2 h3 => ⟨?_, ?_⟩, fun v m b c w h1 h2 h3 => ?_⟩
  · obtain ⟨j, hj, e⟩ := List.mem_iff_getElem.1 (st_mem.2 hp : p ∈ stL (cfP false) l)
    obtain ⟨q, hq, hz⟩ := cpt_has _ hs n (by omega) j (by omega)
    rw [getD_at _ j hj, e] at hz
    exact ⟨q, hq, hz⟩
  · exact st_mem.1 (cptN_mem eqP _ _ (by omega) p hp)
  · have h := Sort_40 v0 l w h1 (by omega) h2 h3 hva
    rw [hn] at h
    exact h.mono fun _ _ h => h.cp
  · exact (Stable_40 v0 l w h1 (by omega) h2 h3 hva).mono fun _ _ h => h.cp
  · have h := Sort_40 v5 lo w h1 (by omega) h2 h3 hvo
    rw [hlo, e2] at h
    exact h.mono fun _ _ h => h.cp
  · have h := Stable_40 v5 lo w h1 (by omega) h2 h3 hvo
    rw [e1] at h
    exact h.mono fun _ _ h => h.cp
  · have hlen : m.length = n := by have := congrArg List.length h2; simp only [List.length_map] at this; omega
    have e : (stL (cfP false) m).map Prod.fst = (stL (cfP false) l).map Prod.fst := sorted_one _ _ (sorted_map (st_sorted (cfP_ord false) m)) (sorted_map hs) (((st_perm m).map _).trans (by rw [h2]))
    have hvm : (m.all fun p => validB p.1) = true := by
      rw [all_congr validB h2, List.all_eq_true]
      exact fun p hp => hv p (st_mem.1 hp)
    have h := Sort_c v m b c w h1 (by omega) h3 hvm
    rw [hlen, cpt_map e n] at h
    exact h

end Go.Proofs.YtehnhjhflaljhaaDoor
