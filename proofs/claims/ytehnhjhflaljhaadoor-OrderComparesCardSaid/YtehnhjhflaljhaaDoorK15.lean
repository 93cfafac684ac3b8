/- Sort. -/
import Derived.Test.YtehnhjhflaljhaaDoorK14
namespace Go.Proofs.YtehnhjhflaljhaaDoor
open Go.RowKit Go.Proofs.HT

def eqP (p q : PV) : Bool := cT p.1 q.1 == 0
theorem cptN_mem (eq : PV → PV → Bool) (l : List PV) : ∀ i, i ≤ l.length → ∀ p, p ∈ cptN eq l i → p ∈ l
  | 0, _, _, h => by simp [cptN] at h
  | 1, _, _, h => List.mem_of_mem_take h
  | i + 2, hi, p, h => by
    rw [cptN] at h
    split at h
    · exact cptN_mem eq l (i + 1) (by omega) p h
    · rw [List.mem_append] at h
      rcases h with h | h
      · exact cptN_mem eq l (i + 1) (by omega) p h
      · obtain rfl := List.mem_singleton.1 h
        rw [getD_at l (i + 1) (by omega)]
        exact List.getElem_mem _
theorem RowAt.front {w : World} {b : Nat} {A B : List PV} {pad : List Value} {ty : TypeId} (h : RowAt w b (A ++ B) pad ty) : RowAt w b A (flat B ++ pad) ty := by
  unfold RowAt at *
  rw [h, flat_append, List.append_assoc]

set_option maxHeartbeats 2000000 in
theorem Sort_bad (b off n cap : Nat) (l : List PV) (w : World) (hn : l.length = n) (hn2 : n ≤ 1000000) (hcap : n ≤ cap) (hrow : RowIn w b off l) (hl : ∀ p ∈ l, LiesT w p.1 p.2) (hv : (l.all fun p => validB p.1) = false) :
    Calls Tryd.prog 16 #[.slice (some ⟨b, off, none⟩) n cap] w (NoneE 1 w) := by
  have A1 := Lib.hid (all_valid b off n cap l w hn hn2 hcap hrow hl)
  rw [hv] at A1
  clear hrow hl hn hv
  go_enter Tryd.func16, Tryd.ntmps16
  go_wp2_with (first | (go_at_call 39; refine A1.out.mono ?_; rintro e w1 ⟨rfl, hb1⟩))
  go_ret2
  exact ⟨rfl, hb1⟩

set_option maxHeartbeats 4000000 in
theorem Sort_yes (b off n cap : Nat) (l : List PV) (w : World) (hn : l.length = n) (hn2 : n ≤ 1000000) (hcap : n ≤ cap) (hrow : RowIn w b off l) (hl : ∀ p ∈ l, LiesT w p.1 p.2) (hp : Places w) (hv : (l.all fun p => validB p.1) = true) (R : List PV) (hR : R.length = n) (hmem : ∀ p ∈ R, p ∈ l) (hn0 : 2 ≤ n)
    (HS : Hid (∀ w1, Below w.heap.size w w1 → Calls Tryd.prog 42 #[.slice (some ⟨b, off, none⟩) n cap, .func (.func 43) #[] #[]] w1 (RowEnd R w1))) :
    Calls Tryd.prog 16 #[.slice (some ⟨b, off, none⟩) n cap] w (CopyE ((cptN eqP R n).map Prod.fst) 0 w) := by
  have A1 := Lib.hid (all_valid b off n cap l w hn hn2 hcap hrow hl)
  rw [hv] at A1
  have HL : Hid (∀ p ∈ R, LiesT w p.1 p.2 ∧ validB p.1 = true) := fun p hp => And.intro (hl p (hmem p hp)) (List.all_eq_true.1 hv p (hmem p hp))
  have HRL := Lib.hid hR
  have HP := Lib.hid hp
  clear hrow hl hn hv hmem hR hp
  go_enter Tryd.func16, Tryd.ntmps16
  go_wp2_with fail
  refine A1.out.mono ?_
  rintro e w1 ⟨rfl, hb1⟩
  have B2 := Lib.hid hb1
  clear hb1
  go_wp2_with fail
  refine (HS.out w1 B2.out).mono ?_
  rintro e w3 ⟨g, cap3, pad, rfl, hc3, hg3, hr3, hb3⟩
  rw [HRL.out] at hc3
  rw [HRL.out]
  have B3 := Lib.hid (B2.out.trans (hb3.mono B2.out.size))
  have hgw : w.heap.size ≤ g := by have := B2.out.size; omega
  have HC := Lib.hid (compact_any g n cap3 eqP R pad w3 (show RowAt w3 g R pad 24 from hr3) HRL.out hc3 hn2 hn0 (Lib.hid (fun p hp => (HL.out p hp).1.slice)) (Lib.hid (fun p hp q hq w' hnr => by
    have hb4 := hnr.below B3.out hgw B3.out.size
    exact eqF_any p.1 q.1 p.2 q.2 w' ((HL.out p hp).1.below hb4) ((HL.out q hq).1.below hb4) (val_nodes (HL.out p hp).2) (val_nodes (HL.out q hq).2) (HP.out.below hb4))))
  clear hr3 hb3 hg3
  go_wp2_with fail
  refine HC.out.mono ?_
  rintro e w4 ⟨m, rfl, hm, hmn, hr4, hn4⟩
  have B4 := Lib.hid (hn4.below B3.out hgw B3.out.size)
  have HC2 := Lib.hid (copies_any (some ⟨g, 0, none⟩) m cap3 (cptN eqP R n) w4 hm.symm (by omega) (by omega) (Lib.hid (fun _ => ⟨g, 0, rfl, RowAt.rowIn (RowAt.front (show RowAt w4 g (cptN eqP R n ++ List.replicate (n - m) dflt) pad 24 from hr4))⟩)) (fun p hp => by
    have hpR := cptN_mem eqP R n (by rw [HRL.out]; exact Nat.le_refl _) p hp
    exact ⟨(HL.out p hpR).1.below B4.out, (HL.out p hpR).2⟩))
  have HM := Lib.hid hm
  clear hr4 hn4 hm
  go_wp2_with fail
  refine HC2.out.mono ?_
  intro e w5 hC5
  obtain ⟨g5, rfl, hE⟩ := CopyE.of B4.out hC5
  rw [List.length_map] at hE
  have HE := Lib.hid hE
  clear hE hC5
  go_wp2_with fail
  go_ret2
  exact HE.out

end Go.Proofs.YtehnhjhflaljhaaDoor
