/- few of an argument; Rank of any row. -/
import Derived.Test.YtehnhjhflaljhaaDoorKH
import Derived.Deep.AppendLies
namespace Go.Proofs.YtehnhjhflaljhaaDoor
open Go.RowKit Go.Proofs.HT

theorem few_empty (a : Option Addr) (cap : Nat) (w : World) : Calls Tryd.prog 15 #[.slice a 0 cap] w (OwnE [] w) := by
  go_enter Tryd.func15, Tryd.ntmps15
  go_wp2_with fail
  refine wp_loop_rounds 1 ?_
  rw [rounds_succ]
  go_wp2_with fail
  go_ret
  exact ⟨_, rfl, .inl ⟨rfl, rfl⟩, Below.refl _ _⟩
theorem few_A (ts : List Tm) (v : Value) (w : World) (h : LiesA w ts v) : ∃ l : List PV, (∀ p ∈ l, LiesT w p.1 p.2) ∧ l.map Prod.fst = ts ∧ Calls Tryd.prog 15 #[v] w (OwnE (l.take 40) w) := by
  have h' : LiesT w (.mk 3 0 ⟨#[]⟩ ts) v := h
  rcases h'.len with ⟨rfl, a, cap, rfl⟩ | ⟨b, o, cap, rfl, hpos, hlc, hcap, hl⟩
  · exact ⟨[], by simp, rfl, few_empty a cap w⟩
  · obtain ⟨l, hm, hrow, hp⟩ := row_of_lies b ts o hl
    have hlen : l.length = ts.length := by rw [← hm, List.length_map]
    exact ⟨l, hp, hm, by rw [← hlen] at hlc ⊢; exact few_row b o l.length cap l w rfl (by omega) hlc hrow hp⟩

/-- What Rank says. -/
def RkIs (l : List PV) (t : Tm) (r : Nat) (o : Bool) : Prop := (((validB t && (l.all fun p => validB p.1)) && incB l) = true → BsIs l t r o) ∧ (((validB t && (l.all fun p => validB p.1)) && incB l) = false → r = 0 ∧ o = false)
theorem RkIs.one {l : List PV} {t : Tm} {r r2 : Nat} {o o2 : Bool} (h : RkIs l t r o) (h2 : RkIs l t r2 o2) : r = r2 ∧ o = o2 := by
  cases hq : ((validB t && (l.all fun p => validB p.1)) && incB l)
  · have a := h.2 hq; have b := h2.2 hq; exact ⟨a.1.trans b.1.symm, a.2.trans b.2.symm⟩
  · exact bs_one (h.1 hq) (h2.1 hq)
def RkE (l : List PV) (t : Tm) (w : World) (e : Ending) (w' : World) : Prop := ∃ (r : Nat) (o : Bool), e = .returned (.tuple #[.int .i64 r, .bool o]) ∧ RkIs l t r o ∧ Below w.heap.size w w'
theorem RkE.of_no {l : List PV} {t : Tm} {w : World} {e : Ending} {w' : World} (h : RankNo w e w') (hq : ((validB t && (l.all fun p => validB p.1)) && incB l) = false) : RkE l t w e w' :=
  ⟨0, false, h.1, ⟨fun h2 => (by rw [hq] at h2; cases h2), fun _ => ⟨rfl, rfl⟩⟩, h.2⟩
theorem RkE.of_bs {l : List PV} {t : Tm} {w : World} {e : Ending} {w' : World} (h : BsEnd l t w e w') (hq : ((validB t && (l.all fun p => validB p.1)) && incB l) = true) : RkE l t w e w' := by
  obtain ⟨r, o, rfl, h1, h2⟩ := h
  exact ⟨r, o, rfl, ⟨fun _ => h1, fun h2 => by rw [hq] at h2; cases h2⟩, h2⟩
theorem bs_empty (t : Tm) : BsIs [] t 0 false := ⟨by simp, fun k h => by omega, fun k h1 h2 => by simp at h2, by simp⟩
theorem inc_nil (w : World) : Calls Tryd.prog 51 #[.slice none 0 0] w fun e w' => e = .returned (.bool true) ∧ w = w' := by
  go_enter Tryd.func51, Tryd.ntmps51
  go_wp2_with fail
  refine wp_loop_rounds 1 ?_
  rw [rounds_succ]
  go_wp2_with fail
  go_ret
  exact ⟨rfl, rfl⟩
theorem bsf_nil (t : Tm) (v : Value) (f : Nat) (w : World) (ht : LiesT w t v) : Calls Tryd.prog 52 #[.slice none 0 0, tv t v, .func (.func f) #[] #[]] w fun e w' => e = .returned (.tuple #[.int .i64 0, .bool false]) ∧ Below w.heap.size w w' := by
  have HB0 : Hid (Below w.heap.size w (w.alloc (.cells #[.int .i64 t.kind, .int .i64 t.num, .string t.name, v] 24))) := (Below.refl _ _).alloc (Nat.le_refl _) _
  obtain ⟨va, vc, rfl⟩ : ∃ a c, v = .slice a t.args.length c := ht.slice
  clear ht
  simp only [tv]
  go_enter Tryd.func52, Tryd.ntmps52
  go_wp2_with fail
  refine wp_loop_rounds 1 ?_
  rw [rounds_succ]
  go_wp2_with fail
  go_quiet (fail)
  go_wp2_with fail
  go_ret2
  exact ⟨rfl, below_drewN HB0.out _⟩
theorem Rank_nil (t : Tm) (v : Value) (w : World) (ht : LiesT w t v) : Calls Tryd.prog 26 #[.slice none 0 0, tv t v] w (RankNo w) := by
  obtain ⟨va, vc, rfl⟩ : ∃ a c, v = .slice a t.args.length c := ht.slice
  have HB0 : Hid (Below w.heap.size w (w.alloc (.cells #[.int .i64 t.kind, .int .i64 t.num, .string t.name, .slice va t.args.length vc] 24))) := (Below.refl _ _).alloc (Nat.le_refl _) _
  have HX0 : Hid (BoxIn (w.alloc (.cells #[.int .i64 t.kind, .int .i64 t.num, .string t.name, .slice va t.args.length vc] 24)) w.heap.size t va vc) := Lib.hid ⟨by rw [cell_of_row _ _ _ _ _ _ (heap_alloc_new _ _)]; rfl, by rw [cell_of_row _ _ _ _ _ _ (heap_alloc_new _ _)]; rfl, by rw [cell_of_row _ _ _ _ _ _ (heap_alloc_new _ _)]; rfl, by rw [cell_of_row _ _ _ _ _ _ (heap_alloc_new _ _)]; rfl⟩
  have HT := Lib.hid ht
  cases hv : validB t
  · have HV : Hid (∀ w1, Below w.heap.size w w1 → Calls Tryd.prog 36 #[tv t (.slice va t.args.length vc)] w1 fun e w' => e = .returned (.bool false) ∧ Below w1.heap.size w1 w') := fun w1 hb => by
      have h := Valid_any t _ w1 (ht.below hb)
      rw [hv] at h; exact h
    clear ht hv
    simp only [tv]
    go_enter Tryd.func26, Tryd.ntmps26
    go_wp2_with fail
    refine (HV.out _ HB0.out).mono ?_
    rintro e w1 ⟨rfl, hb1⟩
    have B1 := Lib.hid (HB0.out.trans (hb1.mono HB0.out.size))
    clear hb1
    go_wp2_with fail
    go_ret2
    exact ⟨rfl, B1.out⟩
  · have HV : Hid (∀ w1, Below w.heap.size w w1 → Calls Tryd.prog 36 #[tv t (.slice va t.args.length vc)] w1 fun e w' => e = .returned (.bool true) ∧ Below w1.heap.size w1 w') := fun w1 hb => by
      have h := Valid_any t _ w1 (ht.below hb)
      rw [hv] at h; exact h
    clear ht hv
    simp only [tv]
    go_enter Tryd.func26, Tryd.ntmps26
    go_wp2_with fail
    refine (HV.out _ HB0.out).mono ?_
    rintro e w1 ⟨rfl, hb1⟩
    have X1 := Lib.hid (HX0.out.below hb1)
    have B1 := Lib.hid (HB0.out.trans (hb1.mono HB0.out.size))
    clear hb1
    go_wp2_with fail
    refine (all_nil _ _).mono ?_
    rintro e w2 ⟨rfl, hb2⟩
    have X2 := Lib.hid (X1.out.below hb2)
    have B2 := Lib.hid (B1.out.trans (hb2.mono B1.out.size))
    clear hb2
    go_wp2_with fail
    refine (inc_nil _).mono ?_
    rintro e w3 ⟨rfl, rfl⟩
    obtain ⟨x0, x1, x2, x3⟩ := X2.out
    have HT2 := Lib.hid (HT.out.below B2.out)
    go_wp2_with fail
    refine (bsf_nil t _ _ _ HT2.out).mono ?_
    rintro e w4 ⟨rfl, hb4⟩
    go_wp2_with fail
    go_ret2
    exact ⟨rfl, B2.out.trans (hb4.mono B2.out.size)⟩
theorem rrank_nil (t : Tm) (v : Value) (w : World) (ht : LiesT w t v) : Calls Tryd.prog 27 #[.slice none 0 0, tv t v] w (RankNo w) := by
  obtain ⟨va, vc, rfl⟩ : ∃ a c, v = .slice a t.args.length c := ht.slice
  have HB0 : Hid (Below w.heap.size w (w.alloc (.cells #[.int .i64 t.kind, .int .i64 t.num, .string t.name, .slice va t.args.length vc] 24))) := (Below.refl _ _).alloc (Nat.le_refl _) _
  have HVN : Hid (∀ w1, Calls Tryd.prog 47 #[.slice none 0 0] w1 fun e w' => e = .returned (.bool true) ∧ Below w1.heap.size w1 w') := fun w1 => rvalid_v (.slice none 0 0) [] w1 (.inl ⟨rfl, rfl⟩) (by simp) (by simp)
  cases hv : validB t
  · have HV : Hid (∀ w1, Below w.heap.size w w1 → Calls Tryd.prog 31 #[tv t (.slice va t.args.length vc)] w1 fun e w' => e = .returned (.bool false) ∧ Below w1.heap.size w1 w') := fun w1 hb => by
      have h := valid_any t _ w1 (ht.below hb)
      rw [hv] at h; exact h
    clear ht hv
    simp only [tv]
    go_enter Tryd.func27, Tryd.ntmps27
    go_wp2_with fail
    refine (HV.out _ HB0.out).mono ?_
    rintro e w1 ⟨rfl, hb1⟩
    have B1 := Lib.hid (HB0.out.trans (hb1.mono HB0.out.size))
    clear hb1
    go_wp2_with fail
    go_ret2
    exact ⟨rfl, B1.out⟩
  · have HV : Hid (∀ w1, Below w.heap.size w w1 → Calls Tryd.prog 31 #[tv t (.slice va t.args.length vc)] w1 fun e w' => e = .returned (.bool true) ∧ Below w1.heap.size w1 w') := fun w1 hb => by
      have h := valid_any t _ w1 (ht.below hb)
      rw [hv] at h; exact h
    clear ht hv
    simp only [tv]
    go_enter Tryd.func27, Tryd.ntmps27
    go_wp2_with fail
    refine (HV.out _ HB0.out).mono ?_
    rintro e w1 ⟨rfl, hb1⟩
    have B1 := Lib.hid (HB0.out.trans (hb1.mono HB0.out.size))
    clear hb1
    go_wp2_with fail
    refine (HVN.out _).mono ?_
    rintro e w2 ⟨rfl, hb2⟩
    have B2 := Lib.hid (B1.out.trans (hb2.mono B1.out.size))
    clear hb2
    go_wp2_with fail
    refine wp_loop_rounds 1 ?_
    rw [rounds_succ]
    go_wp2_with fail
    refine wp_loop_rounds 1 ?_
    rw [rounds_succ]
    go_wp2_with fail
    go_quiet (fail)
    go_wp2_with fail
    go_quiet (fail)
    go_wp2_with fail
    go_ret2
    exact ⟨rfl, below_drewN (below_drewN B2.out _) _⟩
theorem RkIs.nil_no {t : Tm} {w : World} {e : Ending} {w' : World} (h : RankNo w e w') : RkE [] t w e w' :=
  ⟨0, false, h.1, ⟨fun _ => bs_empty t, fun _ => ⟨rfl, rfl⟩⟩, h.2⟩
theorem Rank_v (v : Value) (l : List PV) (t : Tm) (x : Value) (w : World) (h : RowV w v l) (hn2 : l.length ≤ 1000000) (hl : ∀ p ∈ l, LiesT w p.1 p.2) (hp : Places w) (ht : LiesT w t x) : Calls Tryd.prog 26 #[v, tv t x] w (RkE l t w) := by
  rcases h with ⟨rfl, rfl⟩ | ⟨h0, b, off, cap, rfl, h2, h3⟩
  · exact (Rank_nil t x w ht).mono fun _ _ h => RkIs.nil_no h
  · cases hv : validB t
    · exact (rank_no1 b off _ cap l t x w rfl hn2 h2 h3 hl hp ht hv).mono fun _ _ h => RkE.of_no h (by rw [hv]; rfl)
    · cases ha : (l.all fun p => validB p.1)
      · exact (rank_no2 b off _ cap l t x w rfl hn2 h2 h3 hl hp ht hv ha).mono fun _ _ h => RkE.of_no h (by rw [hv, ha]; rfl)
      · cases hi : incB l
        · exact (rank_no3 b off _ cap l t x w rfl hn2 h2 h3 hl hp ht hv ha hi).mono fun _ _ h => RkE.of_no h (by rw [hv, ha, hi]; rfl)
        · exact (rank_yes b off _ cap l t x w rfl hn2 h2 h3 hl hp ht hv ha hi).mono fun _ _ h => RkE.of_bs h (by rw [hv, ha, hi]; rfl)
theorem rrank_v (v : Value) (l : List PV) (t : Tm) (x : Value) (w : World) (h : RowV w v l) (hn2 : l.length ≤ 1000000) (hl : ∀ p ∈ l, LiesT w p.1 p.2) (ht : LiesT w t x) : Calls Tryd.prog 27 #[v, tv t x] w (RkE l t w) := by
  rcases h with ⟨rfl, rfl⟩ | ⟨h0, b, off, cap, rfl, h2, h3⟩
  · exact (rrank_nil t x w ht).mono fun _ _ h => RkIs.nil_no h
  · cases hv : validB t
    · exact (rrank_bad1 b off _ cap l t x w rfl hn2 h2 h3 hl ht hv).mono fun _ _ h => RkE.of_no h (by rw [hv]; rfl)
    · cases ha : (l.all fun p => validB p.1)
      · exact (rrank_bad2 b off _ cap l t x w rfl hn2 h2 h3 hl ht hv ha).mono fun _ _ h => RkE.of_no h (by rw [hv, ha]; rfl)
      · refine (rrank_yes b off _ cap l t x w rfl hn2 h2 h3 hl ht hv ha).mono fun _ _ h => ?_
        rcases h with ⟨hi, h⟩ | ⟨hi, h⟩
        · exact RkE.of_no h (by rw [hv, ha, hi]; rfl)
        · exact RkE.of_bs h (by rw [hv, ha, hi]; rfl)

end Go.Proofs.YtehnhjhflaljhaaDoor

/- SameAll and count of any rows; what is left of a sorted row without duplicates. -/
namespace Go.Proofs.YtehnhjhflaljhaaDoor
open Go.RowKit Go.Proofs.HT

/-- A row of terms, whatever its value where it is empty. -/
def RowW (w : World) (v : Value) (l : List PV) : Prop := ∃ a cap, v = .slice a l.length cap ∧ l.length ≤ cap ∧ (0 < l.length → ∃ b off, a = some ⟨b, off, none⟩ ∧ RowIn w b off l)
theorem RowW.below {w w' : World} {v : Value} {l : List PV} (h : RowW w v l) (hb : Below w.heap.size w w') : RowW w' v l := by
  obtain ⟨a, cap, h1, h2, h3⟩ := h
  exact ⟨a, cap, h1, h2, fun h0 => (h3 h0).elim fun b h4 => h4.elim fun off h5 => ⟨b, off, h5.1, h5.2.below hb⟩⟩
theorem RowV.weak {w : World} {v : Value} {l : List PV} (h : RowV w v l) : RowW w v l := by
  rcases h with ⟨rfl, rfl⟩ | ⟨h0, b, off, cap, h1, h2, h3⟩
  · exact ⟨none, 0, rfl, Nat.le_refl _, fun h => by simp at h⟩
  · exact ⟨_, cap, h1, h2, fun _ => ⟨b, off, rfl, h3⟩⟩
theorem RowW.of_at {w : World} {g : Nat} {l : List PV} {pad : List Value} (h : RowAt w g l pad 24) (cap : Nat) (hc : l.length ≤ cap) : RowW w (.slice (some ⟨g, 0, none⟩) l.length cap) l :=
  ⟨_, cap, rfl, hc, fun _ => ⟨g, 0, rfl, RowAt.rowIn h⟩⟩
theorem sall_w (v x : Value) (l m : List PV) (w : World) (h : RowW w v l) (h2 : RowW w x m) (hn : l.length ≤ 1000000) (hl : ∀ p ∈ l, LiesT w p.1 p.2) (hm : ∀ p ∈ m, LiesT w p.1 p.2) :
    Calls Tryd.prog 22 #[v, x] w fun e w' => e = .returned (.bool (sallB l m)) ∧ Below w.heap.size w w' := by
  obtain ⟨a, cap, rfl, hc, ha⟩ := h
  obtain ⟨a2, cap2, rfl, hc2, ha2⟩ := h2
  by_cases e : l.length = m.length
  · by_cases h0 : 0 < l.length
    · obtain ⟨b, off, rfl, hr⟩ := ha h0
      obtain ⟨b2, off2, rfl, hr2⟩ := ha2 (by omega)
      exact sall_any b off _ cap b2 off2 _ cap2 l m w rfl rfl hn hc hc2 hr hr2 hl hm
    · have e1 : l = [] := List.length_eq_zero_iff.1 (by omega)
      have e2 : m = [] := List.length_eq_zero_iff.1 (by omega)
      subst e1; subst e2
      have hq : sallB [] [] = true := rfl
      rw [hq]
      simp only [List.length_nil]
      clear ha ha2 hc hc2 hl hm hn h0 e hq
      go_enter Tryd.func22, Tryd.ntmps22
      go_wp2_with fail
      refine wp_loop_rounds 1 ?_
      rw [rounds_succ]
      go_wp2_with fail
      go_ret
      exact ⟨rfl, Below.refl _ _⟩
  · have hq : sallB l m = false := by unfold sallB; rw [decide_eq_false e, Bool.false_and]
    rw [hq]
    have hne : ((l.length : Int) == (m.length : Int)) = false := by simp; omega
    have hne2 : ((l.length : Int) != (m.length : Int)) = true := by simp; omega
    generalize l.length = n at *
    generalize m.length = k at *
    clear ha ha2 hc hc2 hl hm hn hq
    go_enter Tryd.func22, Tryd.ntmps22
    go_wp2_with fail
    go_ret
    exact ⟨rfl, Below.refl _ _⟩
theorem sall_refl (l m : List PV) (h : l.map Prod.fst = m.map Prod.fst) (hv : ∀ p ∈ l, validB p.1 = true) : sallB l m = true := by
  have hlen : l.length = m.length := by have := congrArg List.length h; simpa using this
  unfold sallB
  rw [decide_eq_true hlen, Bool.true_and, List.all_eq_true]
  intro k hk
  have hk1 : k < l.length := List.mem_range.1 hk
  rw [getD_at l k hk1, getD_at m k (by omega)]
  have e : l[k].1 = (m[k]'(by omega)).1 := by
    have h1 : (l.map Prod.fst)[k]? = (m.map Prod.fst)[k]? := by rw [h]
    simpa [List.getElem?_eq_getElem hk1, List.getElem?_eq_getElem (show k < m.length by omega)] using h1
  rw [← e]
  unfold sameV
  rw [hv _ (List.getElem_mem hk1), (sameB_iff _ _).2 rfl]; rfl

/-- How many elements are the term. -/
def cntS (l : List PV) (t : Tm) : Nat := (l.filter fun p => sameV p.1 t).length
theorem cntS_next (l : List PV) (t : Tm) (j : Nat) (h : j < l.length) : cntS (l.take (j + 1)) t = cntS (l.take j) t + if sameV l[j].1 t = true then 1 else 0 := by
  unfold cntS
  rw [List.take_succ_eq_append_getElem h, List.filter_append, List.length_append]
  by_cases e : sameV l[j].1 t = true
  · simp [e]
  · simp [e]
theorem cntS_le (l : List PV) (t : Tm) : cntS l t ≤ l.length := List.length_filter_le _ _

set_option maxHeartbeats 4000000 in
theorem count_row (b off n cap : Nat) (l : List PV) (t : Tm) (v : Value) (w : World) (hn : l.length = n) (hn2 : n ≤ 1000000) (_hcap : n ≤ cap) (hrow : RowIn w b off l) (hl : ∀ p ∈ l, LiesT w p.1 p.2) (ht : LiesT w t v) :
    Calls Tryd.prog 32 #[.slice (some ⟨b, off, none⟩) n cap, tv t v] w fun e w' => e = .returned (.int .i64 (cntS l t)) ∧ Below w.heap.size w w' := by
  obtain ⟨va, vc, rfl⟩ : ∃ a c, v = .slice a t.args.length c := ht.slice
  obtain ⟨R, hR⟩ : ∃ R, cntS l t = R := ⟨_, rfl⟩
  rw [hR]
  have HRR := Lib.hid hR
  have HN := Lib.hid hn
  have HR := Lib.hid hrow
  have HT := Lib.hid ht
  have HL : Hid (∀ p ∈ l, LiesT w p.1 p.2 ∧ True) := fun p hp => ⟨hl p hp, trivial⟩
  have HB0 : Hid (Below w.heap.size w (w.alloc (.cells #[.int .i64 t.kind, .int .i64 t.num, .string t.name, .slice va t.args.length vc] 24))) := (Below.refl _ _).alloc (Nat.le_refl _) _
  have HX0 : Hid (BoxIn (w.alloc (.cells #[.int .i64 t.kind, .int .i64 t.num, .string t.name, .slice va t.args.length vc] 24)) w.heap.size t va vc) := Lib.hid ⟨by rw [cell_of_row _ _ _ _ _ _ (heap_alloc_new _ _)]; rfl, by rw [cell_of_row _ _ _ _ _ _ (heap_alloc_new _ _)]; rfl, by rw [cell_of_row _ _ _ _ _ _ (heap_alloc_new _ _)]; rfl, by rw [cell_of_row _ _ _ _ _ _ (heap_alloc_new _ _)]; rfl⟩
  clear hR hn hrow hl ht
  simp only [tv]
  go_enter Tryd.func32, Tryd.ntmps32
  go_wp2_with fail
  go_loopw [5, 6] (fun vk vi wr => ∃ (j k : Nat), j ≤ n ∧ k ≤ j ∧ vk = .int .i64 k ∧ vi = .int .i64 j ∧ Hid (cntS (l.take j) t = k) ∧ Hid (Below w.heap.size w wr) ∧ Hid (BoxIn wr w.heap.size t va vc)) (fun _ vi _ => n - (intOf vi).toNat)
  case atStart => exact ⟨0, 0, by omega, by omega, rfl, rfl, Lib.hid rfl, HB0, HX0⟩
  case round =>
    obtain ⟨j, k, hj, hkj, rfl, rfl, hc, hb, hbx⟩ := hrel
    by_cases hlt : j < n
    · have hjn : j < n := hlt
      have hcn : cntS (l.take (j + 1)) t = cntS (l.take j) t + if sameV (l[j]'(by have := HN.out; omega)).1 t = true then 1 else 0 := cntS_next l t j _
      have hkp : j < l.length := by have := HN.out; omega
      have cp := (HR.out.below hb.out).at j hkp
      have mp := HL.out _ (List.getElem_mem hkp)
      have gp := getD_at l j hkp
      obtain ⟨ep, hep⟩ : ∃ q, l[j] = q := ⟨_, rfl⟩
      rw [hep] at cp mp gp hcn
      obtain ⟨tp, vp⟩ := ep
      obtain ⟨pa, pc, ev⟩ := mp.1.slice
      obtain rfl : vp = .slice pa tp.args.length pc := ev
      obtain ⟨p0, p1, p2, p3⟩ := cp
      have HGp := Lib.hid gp
      have HMp := Lib.hid mp
      clear gp hep mp hkp
      obtain ⟨q0, q1, q2, q3⟩ := hbx.out
      obtain ⟨z, hz0⟩ : ∃ z, sameV tp t = z := ⟨_, rfl⟩
      simp only [hz0] at hcn
      rw [hc.out] at hcn
      have HCN := Lib.hid hcn
      have HCC : Hid (∀ w', Below wr.heap.size wr w' → Calls Tryd.prog 28 #[tv tp (.slice pa tp.args.length pc), tv t (.slice va t.args.length vc)] w' fun e w'' => e = .returned (.bool z) ∧ Below w'.heap.size w' w'') := fun w' h => by
        rw [← hz0]
        have hb3 := hb.out.trans (h.mono hb.out.size)
        exact same_any _ _ _ _ _ (HMp.out.1.below hb3) (HT.out.below hb3)
      have lj0 : (0 : Int) ≤ (j : Int) := by omega
      have lj1 : (j : Int) < (n : Int) := by omega
      clear hz0 hcn
      have hS0 : Below wr.heap.size wr wr.drew := (Below.refl _ _).drew
      have HS : Hid (∀ w', Below wr.heap.size wr w' → (fun w' => Below wr.heap.size wr w' ∧ w'.cell? ⟨b, off + j * 4, none⟩ = some (.int .i64 tp.kind) ∧ w'.cell? ⟨b, off + j * 4 + 1, none⟩ = some (.int .i64 tp.num) ∧ w'.cell? ⟨b, off + j * 4 + 2, none⟩ = some (.string tp.name) ∧ w'.cell? ⟨b, off + j * 4 + 3, none⟩ = some (.slice pa tp.args.length pc) ∧ w'.cell? ⟨w.heap.size, 0, none⟩ = some (.int .i64 t.kind) ∧ w'.cell? ⟨w.heap.size, 1, none⟩ = some (.int .i64 t.num) ∧ w'.cell? ⟨w.heap.size, 2, none⟩ = some (.string t.name) ∧ w'.cell? ⟨w.heap.size, 3, none⟩ = some (.slice va t.args.length vc)) w') := fun w' h => ⟨h, cell_below h _ _ p0, cell_below h _ _ p1, cell_below h _ _ p2, cell_below h _ _ p3, cell_below h _ _ q0, cell_below h _ _ q1, cell_below h _ _ q2, cell_below h _ _ q3⟩
      cases z
      · go_wp2_with fail
        go_region_held3 (fun w' => Below wr.heap.size wr w' ∧ w'.cell? ⟨b, off + j * 4, none⟩ = some (.int .i64 tp.kind) ∧ w'.cell? ⟨b, off + j * 4 + 1, none⟩ = some (.int .i64 tp.num) ∧ w'.cell? ⟨b, off + j * 4 + 2, none⟩ = some (.string tp.name) ∧ w'.cell? ⟨b, off + j * 4 + 3, none⟩ = some (.slice pa tp.args.length pc) ∧ w'.cell? ⟨w.heap.size, 0, none⟩ = some (.int .i64 t.kind) ∧ w'.cell? ⟨w.heap.size, 1, none⟩ = some (.int .i64 t.num) ∧ w'.cell? ⟨w.heap.size, 2, none⟩ = some (.string t.name) ∧ w'.cell? ⟨w.heap.size, 3, none⟩ = some (.slice va t.args.length vc))
          (first | exact HS.out _ h5 | exact HS.out _ hS0 | assumption | go_keep)
          (first
            | (go_at_call 28; ((with_reducible refine (HCC.out _ (by assumption : Below wr.heap.size wr _)).mono ?_); rintro e w4 ⟨rfl, hb4⟩; have h5 : Below wr.heap.size wr w4 := Below.trans (by assumption : Below wr.heap.size wr _) (hb4.mono (Below.size (by assumption : Below wr.heap.size wr _))))))
        have H5 := Lib.hid h5
        clear p0 p1 p2 p3 q0 q1 q2 q3 h5 hS0 HS
        go_wp2_with fail
        go_roundw
        case rel => exact ⟨j + 1, k, by omega, by omega, rfl, by go_num, Lib.hid (by rw [HCN.out]; rfl), Lib.hid (hb.out.trans (H5.out.mono hb.out.size)), Lib.hid (hbx.out.below H5.out)⟩
        case measure => simp [intOf]; omega
      · go_wp2_with fail
        go_region_held3 (fun w' => Below wr.heap.size wr w' ∧ w'.cell? ⟨b, off + j * 4, none⟩ = some (.int .i64 tp.kind) ∧ w'.cell? ⟨b, off + j * 4 + 1, none⟩ = some (.int .i64 tp.num) ∧ w'.cell? ⟨b, off + j * 4 + 2, none⟩ = some (.string tp.name) ∧ w'.cell? ⟨b, off + j * 4 + 3, none⟩ = some (.slice pa tp.args.length pc) ∧ w'.cell? ⟨w.heap.size, 0, none⟩ = some (.int .i64 t.kind) ∧ w'.cell? ⟨w.heap.size, 1, none⟩ = some (.int .i64 t.num) ∧ w'.cell? ⟨w.heap.size, 2, none⟩ = some (.string t.name) ∧ w'.cell? ⟨w.heap.size, 3, none⟩ = some (.slice va t.args.length vc))
          (first | exact HS.out _ h5 | exact HS.out _ hS0 | assumption | go_keep)
          (first
            | (go_at_call 28; ((with_reducible refine (HCC.out _ (by assumption : Below wr.heap.size wr _)).mono ?_); rintro e w4 ⟨rfl, hb4⟩; have h5 : Below wr.heap.size wr w4 := Below.trans (by assumption : Below wr.heap.size wr _) (hb4.mono (Below.size (by assumption : Below wr.heap.size wr _))))))
        have H5 := Lib.hid h5
        clear p0 p1 p2 p3 q0 q1 q2 q3 h5 hS0 HS
        go_wp2_with fail
        go_roundw
        case rel => exact ⟨j + 1, k + 1, by omega, by omega, by go_num, by go_num, Lib.hid (by rw [HCN.out]; rfl), Lib.hid (hb.out.trans (H5.out.mono hb.out.size)), Lib.hid (hbx.out.below H5.out)⟩
        case measure => simp [intOf]; omega
    · have HE : Hid (k = R) := by
        show _ = _
        rw [← HRR.out, ← hc.out, List.take_of_length_le (by have := HN.out; omega)]
      go_wp2_with fail
      go_ret
      exact ⟨by rw [← HE.out]; rfl, hb.out⟩
theorem count_none (a : Option Addr) (cap : Nat) (t : Tm) (v : Value) (w : World) (ht : LiesT w t v) : Calls Tryd.prog 32 #[.slice a 0 cap, tv t v] w fun e w' => e = .returned (.int .i64 (0 : Nat)) ∧ Below w.heap.size w w' := by
  obtain ⟨va, vc, rfl⟩ : ∃ a c, v = .slice a t.args.length c := ht.slice
  have HB0 : Hid (Below w.heap.size w (w.alloc (.cells #[.int .i64 t.kind, .int .i64 t.num, .string t.name, .slice va t.args.length vc] 24))) := (Below.refl _ _).alloc (Nat.le_refl _) _
  clear ht
  simp only [tv]
  go_enter Tryd.func32, Tryd.ntmps32
  go_wp2_with fail
  refine wp_loop_rounds 1 ?_
  rw [rounds_succ]
  go_wp2_with fail
  go_ret
  exact ⟨rfl, HB0.out⟩
theorem count_w (v : Value) (l : List PV) (t : Tm) (x : Value) (w : World) (h : RowW w v l) (hn : l.length ≤ 1000000) (hl : ∀ p ∈ l, LiesT w p.1 p.2) (ht : LiesT w t x) : Calls Tryd.prog 32 #[v, tv t x] w fun e w' => e = .returned (.int .i64 (cntS l t)) ∧ Below w.heap.size w w' := by
  obtain ⟨a, cap, rfl, hc, ha⟩ := h
  by_cases h0 : 0 < l.length
  · obtain ⟨b, off, rfl, hr⟩ := ha h0
    exact count_row b off _ cap l t x w rfl hn hc hr hl ht
  · have e1 : l = [] := List.length_eq_zero_iff.1 (by omega)
    subst e1
    exact count_none a cap t x w ht

/-- Strictly increasing. -/
def Inc (l : List PV) : Prop := l.Pairwise fun p q => cT p.1 q.1 < 0
theorem inc_iff (l : List PV) : incB l = true ↔ Inc l := by
  rw [incB_iff]
  constructor
  · intro h
    refine List.pairwise_iff_getElem.2 fun i j hi hj hij => ?_
    have h1 := inc_lt l ((incB_iff l).2 h) i (j - i - 1) (by omega)
    rw [show i + (j - i - 1) + 1 = j by omega, getD_at l i hi, getD_at l j hj] at h1
    exact h1
  · intro h k hk
    rw [getD_at l k (by omega), getD_at l (k + 1) hk]
    exact List.pairwise_iff_getElem.1 h k (k + 1) (by omega) hk (by omega)
theorem cpt_inc (l : List PV) (hs : SortedC (cfP false) l) : ∀ i, i ≤ l.length → Inc (cptN eqP l i) ∧ (0 < i → ∀ p ∈ cptN eqP l i, cT p.1 (l.getD (i - 1) dflt).1 ≤ 0)
  | 0, _ => ⟨List.Pairwise.nil, fun h => by omega⟩
  | 1, h => by
    rw [cptN_one eqP l (by omega)]
    exact ⟨List.pairwise_singleton _ _, fun _ p hp => by obtain rfl := List.mem_singleton.1 hp; rw [cT_self]; exact Int.le_refl _⟩
  | i + 2, h => by
    obtain ⟨h1, h2⟩ := cpt_inc l hs (i + 1) (by omega)
    have h3 := h2 (by omega)
    rw [Nat.add_sub_cancel] at h3
    have hle : cT (l.getD i dflt).1 (l.getD (i + 1) dflt).1 ≤ 0 := by
      rw [getD_at l i (by omega), getD_at l (i + 1) (by omega)]
      exact hs.at i (i + 1) (by omega) (by omega)
    rw [cptN]
    by_cases e : eqP (l.getD (i + 1) dflt) (l.getD i dflt) = true
    · rw [if_pos e]
      exact ⟨h1, fun _ p hp => cT_le (h3 p hp) hle⟩
    · rw [if_neg e]
      have hlt : cT (l.getD i dflt).1 (l.getD (i + 1) dflt).1 < 0 := by
        have : ¬ cT (l.getD (i + 1) dflt).1 (l.getD i dflt).1 = 0 := fun h => e (by unfold eqP; rw [h]; rfl)
        have := cT_neg (l.getD i dflt).1 (l.getD (i + 1) dflt).1
        omega
      refine ⟨List.pairwise_append.2 ⟨h1, List.pairwise_singleton _ _, fun p hp q hq => ?_⟩, fun _ p hp => ?_⟩
      · obtain rfl := List.mem_singleton.1 hq
        exact cT_lt (h3 p hp) hlt
      · rcases List.mem_append.1 hp with hp | hp
        · exact cT_le (h3 p hp) (by show cT (l.getD i dflt).1 (l.getD (i + 1) dflt).1 ≤ 0; exact hle)
        · obtain rfl := List.mem_singleton.1 hp
          show cT (l.getD (i + 1) dflt).1 (l.getD (i + 1) dflt).1 ≤ 0
          rw [cT_self]; exact Int.le_refl _
theorem map_getD {l m : List PV} (h : l.map Prod.fst = m.map Prod.fst) (k : Nat) : (l.getD k dflt).1 = (m.getD k dflt).1 := by
  have hlen : l.length = m.length := by have := congrArg List.length h; simpa using this
  by_cases hk : k < l.length
  · rw [getD_at l k hk, getD_at m k (by omega)]
    have h1 : (l.map Prod.fst)[k]? = (m.map Prod.fst)[k]? := by rw [h]
    simpa [List.getElem?_eq_getElem hk, List.getElem?_eq_getElem (show k < m.length by omega)] using h1
  · simp [List.getD, List.getElem?_eq_none (show l.length ≤ k by omega), List.getElem?_eq_none (show m.length ≤ k by omega)]
theorem inc_congr {l m : List PV} (h : l.map Prod.fst = m.map Prod.fst) (hi : incB l = true) : incB m = true := by
  have hlen : l.length = m.length := by have := congrArg List.length h; simpa using this
  refine (incB_iff m).2 fun k hk => ?_
  rw [← map_getD h, ← map_getD h]
  exact (incB_iff l).1 hi k (by omega)
theorem all_congr {l m : List PV} (f : Tm → Bool) (h : l.map Prod.fst = m.map Prod.fst) : (l.all fun p => f p.1) = (m.all fun p => f p.1) := by
  have e : ∀ l : List PV, (l.all fun p => f p.1) = (l.map Prod.fst).all f := fun l => by rw [List.all_map]; rfl
  rw [e, e, h]
theorem sameV_iff (t u : Tm) (h1 : validB t = true) (h2 : validB u = true) : sameV t u = true ↔ cT t u = 0 := by
  unfold sameV
  rw [h1, h2, Bool.true_and, Bool.true_and, sameB_iff]
  constructor
  · rintro rfl; exact cT_self t
  · exact cT_eq t u
/-- In a strictly increasing row of valid terms a term is there once or not at all. -/
theorem inc_cnt (l : List PV) (hi : Inc l) (hv : ∀ p ∈ l, validB p.1 = true) (t : Tm) (ht : validB t = true) : cntS l t = 1 ∧ (∃ p ∈ l, cT p.1 t = 0) ∨ cntS l t = 0 ∧ ∀ p ∈ l, cT p.1 t ≠ 0 := by
  induction l with
  | nil => exact .inr ⟨rfl, by simp⟩
  | cons a l ih =>
    have h1 := List.pairwise_cons.1 hi
    have hs := sameV_iff a.1 t (hv a (by simp)) ht
    rcases ih h1.2 (fun p hp => hv p (by simp [hp])) with ⟨h2, q, hq, h3⟩ | ⟨h2, h3⟩
    · have hne : ¬ cT a.1 t = 0 := fun h => by
        have e := cT_eq a.1 t h
        have h4 := h1.1 q hq
        rw [e, cT_neg q.1 t, h3] at h4; omega
      refine .inl ⟨?_, q, by simp [hq], h3⟩
      unfold cntS at h2 ⊢
      rw [List.filter_cons, if_neg (fun h => hne (hs.1 h))]; exact h2
    · by_cases hz : cT a.1 t = 0
      · refine .inl ⟨?_, a, by simp, hz⟩
        unfold cntS at h2 ⊢
        rw [List.filter_cons, if_pos (hs.2 hz), List.length_cons, h2]
      · refine .inr ⟨?_, fun p hp => ?_⟩
        · unfold cntS at h2 ⊢
          rw [List.filter_cons, if_neg (fun h => hz (hs.1 h))]; exact h2
        · rcases List.mem_cons.1 hp with rfl | hp
          · exact hz
          · exact h3 p hp

end Go.Proofs.YtehnhjhflaljhaaDoor

/- spoil: only the blocks of its own row and terms are turned. -/
namespace Go.Proofs.YtehnhjhflaljhaaDoor
open Go.RowKit Go.Proofs.HT

/-- All that lay in w lies unturned in w', but for the blocks from lo to hi. -/
structure Out (lo hi : Nat) (w w' : World) : Prop where
  os : w'.os = w.os
  tape : w'.tape = w.tape
  output : w'.output = w.output
  size : w.heap.size ≤ w'.heap.size
  block : ∀ q, q < w.heap.size → (q < lo ∨ hi ≤ q) → w'.heap[q]? = w.heap[q]?
theorem Out.refl (lo hi : Nat) (w : World) : Out lo hi w w := ⟨rfl, rfl, rfl, Nat.le_refl _, fun _ _ _ => rfl⟩
theorem Out.trans {lo hi : Nat} {w w1 w2 : World} (h : Out lo hi w w1) (k : Out lo hi w1 w2) : Out lo hi w w2 :=
  ⟨k.os.trans h.os, k.tape.trans h.tape, k.output.trans h.output, Nat.le_trans h.size k.size, fun q hq hb => (k.block q (Nat.lt_of_lt_of_le hq h.size) hb).trans (h.block q hq hb)⟩
theorem Out.setCell {lo hi : Nat} {w w' : World} (h : Out lo hi w w') (b i : Nat) (hb : lo ≤ b ∧ b < hi) (u : Value) : Out lo hi w (w'.setCell ⟨b, i, none⟩ u) :=
  ⟨h.os, h.tape, h.output, by simpa [World.setCell] using h.size, fun q hq hq2 => (Below.heap_setCell _ _ _ _ (by show q ≠ b; omega)).trans (h.block q hq hq2)⟩
theorem Out.below {lo hi base : Nat} {w0 w w' : World} (h : Out lo hi w w') (k : Below base w0 w) (hb : base ≤ lo) (hs : base ≤ w.heap.size) : Below base w0 w' :=
  k.trans ⟨h.os, h.tape, h.output, h.size, fun q hq => h.block q (by omega) (.inl (by omega))⟩
theorem set4_out {lo hi : Nat} {w w' : World} (h : Out lo hi w w') (b i : Nat) (hb : lo ≤ b ∧ b < hi) (u0 u1 u2 u3 : Value) : Out lo hi w ((((w'.setCell ⟨b, i, none⟩ u0).setCell ⟨b, i + 1, none⟩ u1).setCell ⟨b, i + 2, none⟩ u2).setCell ⟨b, i + 3, none⟩ u3) :=
  (((h.setCell b i hb u0).setCell b (i + 1) hb u1).setCell b (i + 2) hb u2).setCell b (i + 3) hb u3
/-- A block of at least n cells that may be written. -/
def Room (w : World) (b n : Nat) : Prop := ∃ cur ty, w.heap[b]? = some (.cells cur ty (0, 0)) ∧ n ≤ cur.size
theorem Room.set {w : World} {b n : Nat} (h : Room w b n) (c i : Nat) (u : Value) : Room (w.setCell ⟨c, i, none⟩ u) b n := by
  obtain ⟨cur, ty, h1, h2⟩ := h
  by_cases e : c = b
  · subst e
    exact ⟨_, ty, heap_setCell_same _ _ i _ _ u h1, by rw [Array.size_setIfInBounds]; exact h2⟩
  · exact ⟨cur, ty, (Below.heap_setCell _ _ _ _ (by show b ≠ c; omega)).trans h1, h2⟩
theorem Room.set4 {w : World} {b n : Nat} (h : Room w b n) (c i j k l : Nat) (u0 u1 u2 u3 : Value) : Room ((((w.setCell ⟨c, i, none⟩ u0).setCell ⟨c, j, none⟩ u1).setCell ⟨c, k, none⟩ u2).setCell ⟨c, l, none⟩ u3) b n := (((h.set c i u0).set c j u1).set c k u2).set c l u3
theorem Room.cell {w : World} {b n : Nat} (h : Room w b n) (i : Nat) (hi : i < n) : ∃ u, w.cell? ⟨b, i, none⟩ = some u := by
  obtain ⟨cur, ty, h1, h2⟩ := h
  exact ⟨cur[i]'(by omega), by rw [cell_of_row _ _ _ _ _ _ h1, Array.getElem?_eq_getElem (by omega)]⟩
theorem Room.frozen {w : World} {b n : Nat} (h : Room w b n) (i : Nat) : w.frozen? ⟨b, i, none⟩ = false := by
  obtain ⟨cur, ty, h1, _⟩ := h
  exact frozen_of_row _ _ i _ _ h1
/-- The blocks that hold the arguments of a row's terms. -/
def Args (w : World) (g lo hi : Nat) (l : List PV) : Prop := ∀ p ∈ l, ∃ a c, p.2 = .slice a p.1.args.length c ∧ p.1.args.length ≤ 9223372036854775807 ∧ (0 < p.1.args.length → ∃ b, a = some ⟨b, 0, none⟩ ∧ lo ≤ b ∧ b < hi ∧ b ≠ g ∧ Room w b (p.1.args.length * 4))
theorem Args.of_own {w : World} {g lo hi : Nat} {l : List PV} (h : ∀ p ∈ l, OwnT (fun b => (lo ≤ b ∧ b < hi) ∧ b ≠ g) w p.1 p.2) : Args w g lo hi l := fun p hp => by
  obtain ⟨⟨k, n, s, ts⟩, v⟩ := p
  have h1 := h _ hp
  simp only [OwnT] at h1
  obtain ⟨_, _, _, ⟨rfl, rfl⟩ | ⟨b, cap, rfl, hc, hc2, hS, hpl, hl⟩⟩ := h1
  · exact ⟨none, 0, rfl, by simp [Tm.args], fun h => by simp [Tm.args] at h⟩
  · refine ⟨_, cap, rfl, Nat.le_trans hc hc2, fun h0 => ⟨b, rfl, hS.1.1, hS.1.2, hS.2, ?_⟩⟩
    simp only [Tm.args] at h0 ⊢
    obtain ⟨cur, e, hh⟩ := hpl
    refine ⟨cur, e, hh, ?_⟩
    obtain ⟨v, _, _, _, c3, _⟩ := hl.at (ts.length - 1) (by omega)
    rw [cell_of_row _ _ _ _ _ _ hh] at c3
    have := (Array.getElem?_eq_some_iff.1 c3).1
    omega
def spP : PV := (.mk 7 0 ⟨#[]⟩ [], .slice none 0 0)

set_option maxHeartbeats 8000000 in
theorem spoil_any (g m lo hi : Nat) (l : List PV) (w : World) (hrow : RowAt w g l [] 24) (hm : l.length = m) (hm2 : m ≤ 1000) (hg : lo ≤ g ∧ g < hi) (ha : Args w g lo hi l) :
    Calls Tryd.prog 25 #[.slice (some ⟨g, 0, none⟩) m m] w fun e w' => e = .returned (.tuple #[]) ∧ Out lo hi w w' := by
  have HROW := Lib.hid hrow
  have HM := Lib.hid hm
  have HG := Lib.hid hg
  have HA := Lib.hid ha
  clear hrow hm ha hg
  go_enter Tryd.func25, Tryd.ntmps25
  go_wp2_with fail
  go_loopw [2] (fun vi wr => ∃ (j : Nat) (l' : List PV), j ≤ m ∧ vi = .int .i64 j ∧ Hid (l'.length = m ∧ ∀ k, j ≤ k → k < m → l'.getD k dflt = l.getD k dflt) ∧ Hid (RowAt wr g l' [] 24) ∧ Hid (Args wr g lo hi l) ∧ Hid (Out lo hi w wr)) (fun vi _ => m - (intOf vi).toNat)
  case atStart => exact ⟨0, l, by omega, rfl, Lib.hid ⟨HM.out, fun _ _ _ => rfl⟩, HROW, HA, Lib.hid (Out.refl _ _ _)⟩
  case round =>
    obtain ⟨j, l', hj, rfl, hl', hr, har, ho⟩ := hrel
    by_cases hlt : j < m
    · have hjl : j < l.length := by have := HM.out; omega
      have hjl' : j < l'.length := by have := hl'.out.1; omega
      have e1 : l'[j] = l[j] := by
        have h := hl'.out.2 j (Nat.le_refl _) hlt
        rw [getD_at l' j hjl', getD_at l j hjl] at h; exact h
      have hx := har.out _ (List.getElem_mem hjl)
      have hcl := hr.out.cells j hjl'
      rw [e1] at hcl
      obtain ⟨pp, hpe⟩ : ∃ q, l[j] = q := ⟨_, rfl⟩
      have HMEM : Hid (pp ∈ l) := Lib.hid (by rw [← hpe]; exact List.getElem_mem hjl)
      rw [hpe] at hx hcl
      obtain ⟨tp, vp⟩ := pp
      obtain ⟨pa, pc, hvp, hn, hb0⟩ := hx
      dsimp only at hvp hn hb0 hcl
      subst hvp
      obtain ⟨d0, d1, d2, d3⟩ := hcl
      obtain ⟨n, hne⟩ : ∃ n, tp.args.length = n := ⟨_, rfl⟩
      have HNE := Lib.hid hne
      rw [hne] at hn hb0 d3
      have HB := Lib.hid hb0
      have hj0 : (0 : Int) ≤ (j : Int) := by omega
      have hj1 : (j : Int) < (m : Int) := by omega
      have HJL := Lib.hid hjl'
      have HD3 := Lib.hid d3
      clear e1 hpe hjl hb0 hne hjl'
      go_wp2_with fail
      clear d0 d1 d2 d3
      go_loopw [3] (fun vk w2 => ∃ k : Nat, k ≤ n ∧ vk = .int .i64 k ∧ Hid (RowAt w2 g l' [] 24) ∧ Hid (w2.cell? ⟨g, j * 4 + 3, none⟩ = some (.slice pa n pc)) ∧ Hid (Args w2 g lo hi l) ∧ Hid (Out lo hi w w2)) (fun vk _ => n - (intOf vk).toNat)
      case atStart => exact ⟨0, by omega, rfl, hr, HD3, har, ho⟩
      case round =>
        clear hr har ho
        obtain ⟨k, hk, rfl, hr, hd3, har, ho⟩ := hrel
        have d3 := hd3.out
        by_cases hlt2 : k < n
        · have hz := har.out _ HMEM.out
          obtain ⟨pa2, pc2, e2, _, hb2⟩ := hz
          dsimp only at e2 hb2
          rw [HNE.out] at e2 hb2
          obtain ⟨b, rfl, hb3, hb4, hb5, hrm⟩ := hb2 (by omega)
          obtain ⟨rfl, rfl⟩ : pa = some ⟨b, 0, none⟩ ∧ pc2 = pc := by
            have h := e2
            simp only [Value.slice.injEq] at h
            exact ⟨h.1, h.2.2.symm⟩
          obtain ⟨u0, c0⟩ := hrm.cell (k * 4) (by omega)
          obtain ⟨u1, c1⟩ := hrm.cell (k * 4 + 1) (by omega)
          obtain ⟨u2, c2⟩ := hrm.cell (k * 4 + 2) (by omega)
          obtain ⟨u3, c3⟩ := hrm.cell (k * 4 + 3) (by omega)
          have f0 := hrm.frozen (k * 4)
          have f1 := hrm.frozen (k * 4 + 1)
          have f2 := hrm.frozen (k * 4 + 2)
          have f3 := hrm.frozen (k * 4 + 3)
          have HBB : Hid ((lo ≤ b ∧ b < hi) ∧ b ≠ g) := Lib.hid ⟨⟨hb3, hb4⟩, hb5⟩
          have hgb : ¬ g = b := fun h => hb5 h.symm
          have hbg : ¬ b = g := hb5
          have HC3 : Hid (∀ w5 : World, w5.heap[g]? = wr.heap[g]? → w5.cell? ⟨g, j * 4 + 3, none⟩ = some (.slice (some ⟨b, 0, none⟩) n pc2)) := Lib.hid (fun w5 h => (World.cell?_of_block h).trans hd3.out)
          clear hb2 e2 hrm hb3 hb4 hb5
          go_wp2_with fail
          go_roundw
          case rel =>
            have hset : ∀ (W : World) (i : Nat) (u : Value), (W.setCell ⟨b, i, none⟩ u).heap[g]? = W.heap[g]? := fun W i u => Below.heap_setCell _ _ _ _ (by show g ≠ b; exact fun h => HBB.out.2 h.symm)
            refine ⟨k + 1, by omega, by go_num, Lib.hid ?_, Lib.hid ?_, Lib.hid ?_, Lib.hid (set4_out ho.out b (k * 4) HBB.out.1 _ _ _ _)⟩
            · exact (((hset _ _ _).trans (hset _ _ _)).trans ((hset _ _ _).trans (hset _ _ _))).trans hr.out
            · exact HC3.out _ (((hset _ _ _).trans (hset _ _ _)).trans ((hset _ _ _).trans (hset _ _ _)))
            · intro p hp
              obtain ⟨a5, c5, h5, h6, h7⟩ := har.out p hp
              exact ⟨a5, c5, h5, h6, fun h0 => (h7 h0).elim fun b5 h8 => ⟨b5, h8.1, h8.2.1, h8.2.2.1, h8.2.2.2.1, h8.2.2.2.2.set4 _ _ _ _ _ _ _ _ _⟩⟩
          case measure => simp [intOf]; omega
        · have hrm : RowAt wr g l' [] 24 := hr.out
          have c0 := (hrm.cells j HJL.out).1
          have c1 := (hrm.cells j HJL.out).2.1
          have c2 := (hrm.cells j HJL.out).2.2.1
          have f0 := frozen_of_row _ _ (j * 4) _ _ hrm
          have f1 := frozen_of_row _ _ (j * 4 + 1) _ _ hrm
          have f2 := frozen_of_row _ _ (j * 4 + 2) _ _ hrm
          have f3 := frozen_of_row _ _ (j * 4 + 3) _ _ hrm
          clear hrm
          go_wp2_with fail
          go_roundw
          case rel =>
            refine ⟨j + 1, l'.set j spP, by omega, by go_num, Lib.hid ⟨by simp; exact hl'.out.1, fun q h1 h2 => ?_⟩, Lib.hid (RowAt.set hr.out j HJL.out spP), Lib.hid ?_, Lib.hid (set4_out ho.out g (j * 4) HG.out _ _ _ _)⟩
            · rw [← hl'.out.2 q (by omega) h2]
              simp [List.getD, List.getElem?_set_ne (show j ≠ q by omega)]
            · intro p hp
              obtain ⟨a5, c5, h5, h6, h7⟩ := har.out p hp
              exact ⟨a5, c5, h5, h6, fun h0 => (h7 h0).elim fun b5 h8 => ⟨b5, h8.1, h8.2.1, h8.2.2.1, h8.2.2.2.1, h8.2.2.2.2.set4 _ _ _ _ _ _ _ _ _⟩⟩
          case measure => simp [intOf]; omega
    · go_wp2_with fail
      go_end0
      exact ⟨rfl, ho.out⟩

end Go.Proofs.YtehnhjhflaljhaaDoor

/- Sort, Stable and Keys of the program and of the specification side by side; what spoil leaves. -/
namespace Go.Proofs.YtehnhjhflaljhaaDoor
open Go.RowKit Go.Proofs.HT

/-- A list of deep copies. -/
def CpV (w : World) (lo hi : Nat) (v : Value) (l : List PV) : Prop := (l = [] ∧ v = .slice none 0 0) ∨ ∃ g, v = .slice (some ⟨g, 0, none⟩) l.length l.length ∧ lo ≤ g ∧ g < hi ∧ hi ≤ w.heap.size ∧ RowAt w g l [] 24 ∧ ∀ p ∈ l, OwnT (fun b => (lo ≤ b ∧ b < hi) ∧ b ≠ g) w p.1 p.2
theorem CpV.keep {w w' : World} {lo hi : Nat} {v : Value} {l : List PV} (h : CpV w lo hi v l) (hb : ∀ b, lo ≤ b → b < hi → b < w.heap.size → w'.heap[b]? = w.heap[b]?) (hs : w.heap.size ≤ w'.heap.size) : CpV w' lo hi v l := by
  rcases h with h | ⟨g, h1, h2, h3, h4, h5, h6⟩
  · exact .inl h
  · exact .inr ⟨g, h1, h2, h3, by omega, (hb g h2 h3 (by omega)).trans h5, fun p hp => (h6 p hp).keep (fun b hS => hb b hS.1.1 hS.1.2 (by omega)) (fun _ h _ => h)⟩
theorem CpV.below {w w' : World} {lo hi : Nat} {v : Value} {l : List PV} (h : CpV w lo hi v l) (hb : Below w.heap.size w w') : CpV w' lo hi v l := h.keep (fun b _ _ h => hb.block b h) hb.size
theorem CpV.out {w w' : World} {lo hi lo2 hi2 : Nat} {v : Value} {l : List PV} (h : CpV w lo hi v l) (ho : Out lo2 hi2 w w') (hd : hi2 ≤ lo) : CpV w' lo hi v l := h.keep (fun b h1 _ h3 => ho.block b h3 (.inr (by omega))) ho.size
theorem CpV.rowW {w : World} {lo hi : Nat} {v : Value} {l : List PV} (h : CpV w lo hi v l) : RowW w v l := by
  rcases h with ⟨rfl, rfl⟩ | ⟨g, rfl, _, _, _, h5, _⟩
  · exact ⟨none, 0, rfl, Nat.le_refl _, fun h => by simp at h⟩
  · exact RowW.of_at h5 _ (Nat.le_refl _)
theorem CpV.lies {w : World} {lo hi : Nat} {v : Value} {l : List PV} (h : CpV w lo hi v l) : ∀ p ∈ l, LiesT w p.1 p.2 := by
  rcases h with ⟨rfl, _⟩ | ⟨g, _, _, _, _, _, h6⟩
  · simp
  · exact fun p hp => OwnT.lies _ _ (h6 p hp)
theorem spoil_nil (w : World) : Calls Tryd.prog 25 #[.slice none 0 0] w fun e w' => e = .returned (.tuple #[]) ∧ w = w' := by
  go_enter Tryd.func25, Tryd.ntmps25
  go_wp2_with fail
  refine wp_loop_rounds 1 ?_
  rw [rounds_succ]
  go_wp2_with fail
  go_end0
  exact ⟨rfl, rfl⟩
theorem spoil_c (v : Value) (l : List PV) (lo hi : Nat) (w : World) (h : CpV w lo hi v l) (hn : l.length ≤ 1000) : Calls Tryd.prog 25 #[v] w fun e w' => e = .returned (.tuple #[]) ∧ Out lo hi w w' := by
  rcases h with ⟨rfl, rfl⟩ | ⟨g, rfl, h2, h3, h4, h5, h6⟩
  · exact (spoil_nil w).mono fun _ _ h => ⟨h.1, h.2 ▸ Out.refl _ _ _⟩
  · exact spoil_any g _ lo hi l w h5 rfl hn ⟨h2, h3⟩ (Args.of_own h6)
def CpE (R : List Tm) (c : Int) (w : World) (e : Ending) (w' : World) : Prop := ∃ v l, e = .returned (.tuple #[v, .int .i64 c]) ∧ l.map Prod.fst = R ∧ CpV w' w.heap.size w'.heap.size v l ∧ Below w.heap.size w w'
def RfE (R : List PV) (c : Int) (w : World) (e : Ending) (w' : World) : Prop := ∃ v, e = .returned (.tuple #[v, .int .i64 c]) ∧ RowV w' v R ∧ Below w.heap.size w w'
theorem CopyE.cp {R : List Tm} {c : Int} {w : World} {e : Ending} {w' : World} (h : CopyE R c w e w') : CpE R c w e w' := by
  obtain ⟨g, l, rfl, h1, h2, h3, h4, h5, h6⟩ := h
  have hl : R.length = l.length := by rw [← h1, List.length_map]
  exact ⟨_, l, by rw [hl], h1, .inr ⟨g, rfl, h2, h3, Nat.le_refl _, h4, h5⟩, h6⟩
theorem NoneE.cp {c : Int} {w : World} {e : Ending} {w' : World} (h : NoneE c w e w') : CpE [] c w e w' := ⟨_, [], h.1, rfl, .inl ⟨rfl, rfl⟩, h.2⟩
theorem ResO.rf {R : List PV} {c : Int} {w : World} {e : Ending} {w' : World} (h : ResO R c w e w') : RfE R c w e w' := by
  obtain ⟨v, h1, h2, h3⟩ := h
  exact ⟨v, h1, h2.row, h3⟩
theorem NoneE.rf {c : Int} {w : World} {e : Ending} {w' : World} (h : NoneE c w e w') : RfE [] c w e w' := ⟨_, h.1, .inl ⟨rfl, rfl⟩, h.2⟩
def Six (v : Value) (l R1 R2 R3 : List PV) (c1 c3 : Int) : Prop := ∀ w, RowV w v l → (∀ p ∈ l, LiesT w p.1 p.2) → Places w →
  Calls Tryd.prog 16 #[v] w (CpE (R1.map Prod.fst) c1 w) ∧ Calls Tryd.prog 17 #[v] w (CpE (R2.map Prod.fst) c1 w) ∧ Calls Tryd.prog 18 #[v] w (CpE (R3.map Prod.fst) c3 w) ∧
  Calls Tryd.prog 19 #[v] w (RfE R1 c1 w) ∧ Calls Tryd.prog 20 #[v] w (RfE R2 c1 w) ∧ Calls Tryd.prog 21 #[v] w (RfE R3 c3 w)
def Good (l R : List PV) : Prop := R.length ≤ 40 ∧ ∀ p ∈ R, p ∈ l ∧ validB p.1 = true
theorem six_any (v : Value) (l : List PV) (hn : l.length ≤ 40) : ∃ R1 R2 R3 c1 c3, Good l R1 ∧ Good l R2 ∧ Good l R3 ∧ Six v l R1 R2 R3 c1 c3 := by
  cases hv : (l.all fun p => validB p.1)
  · refine ⟨[], [], [], 1, 1, ⟨by simp, by simp⟩, ⟨by simp, by simp⟩, ⟨by simp, by simp⟩, fun w h hl hp => ⟨?_, ?_, ?_, ?_, ?_, ?_⟩⟩
    · exact (Sort_40b v l w h (by omega) hl hv).mono fun _ _ h => h.cp
    · exact (Stable_40b v l w h (by omega) hl hv).mono fun _ _ h => h.cp
    · exact (Keys_40b v l w h (by omega) hl hv).mono fun _ _ h => h.cp
    · exact (rsort_bad v l w h (by omega) hl hv).mono fun _ _ h => h.rf
    · exact (rstable_bad v l w h (by omega) hl hv).mono fun _ _ h => h.rf
    · exact (rkeys_bad v l w h (by omega) hl hv).mono fun _ _ h => h.rf
  · have hva := List.all_eq_true.1 hv
    have g1 : Good l (cptN eqP (stL (cfP false) l) l.length) := ⟨by have := cptN_len eqP (stL (cfP false) l) l.length; omega, fun p hp => by
      have hm := st_mem.1 (cptN_mem eqP _ _ (by rw [st_length]; exact Nat.le_refl _) p hp)
      exact ⟨hm, hva p hm⟩⟩
    have g2 : ∀ b, Good l (stL (cfP b) l) := fun b => ⟨by rw [st_length]; exact hn, fun p hp => ⟨st_mem.1 hp, hva p (st_mem.1 hp)⟩⟩
    cases hk : (l.all fun p => pairB p.1)
    · refine ⟨_, _, [], 0, 3, g1, g2 false, ⟨by simp, by simp⟩, fun w h hl hp => ⟨?_, ?_, ?_, ?_, ?_, ?_⟩⟩
      · exact (Sort_40 v l w h hn hl hp hv).mono fun _ _ h => h.cp
      · exact (Stable_40 v l w h hn hl hp hv).mono fun _ _ h => h.cp
      · exact (Keys_40f v l w h (by omega) hl hv hk).mono fun _ _ h => h.cp
      · exact (rsort_v v l w h (by omega) hl hv).mono fun _ _ h => h.rf
      · exact (rstable_v v l w h (by omega) hl hv).mono fun _ _ h => h.rf
      · obtain ⟨h0, b, off, cap, rfl, h2, h3⟩ := bad_some h hk
        exact (rkeys_form b off _ cap l w rfl (by omega) h2 h3 hl hv hk).mono fun _ _ h => h.rf
    · refine ⟨_, _, _, 0, 0, g1, g2 false, g2 true, fun w h hl hp => ⟨?_, ?_, ?_, ?_, ?_, ?_⟩⟩
      · exact (Sort_40 v l w h hn hl hp hv).mono fun _ _ h => h.cp
      · exact (Stable_40 v l w h hn hl hp hv).mono fun _ _ h => h.cp
      · exact (Keys_40 v l w h hn hl hp hv hk).mono fun _ _ h => h.cp
      · exact (rsort_v v l w h (by omega) hl hv).mono fun _ _ h => h.rf
      · exact (rstable_v v l w h (by omega) hl hv).mono fun _ _ h => h.rf
      · exact (rkeys_v v l w h (by omega) hl hv hk).mono fun _ _ h => h.rf

theorem wp_appL {ops : Array Oper} {rest : List Oper} {o : Oper} {a : Act} {Q : Exit → Act → World → Prop} (hgd : o.guard = none) (s x : Operand) (ho : o.op = .call { callee := .builtin .append, args := #[s, x], argTypes := #[22, 22] }) (w : World)
    (base n : Nat) (v : Value) (l m : List PV) (hs : a.eval s = v) (hown : Hid (w.ownsRow base 24 4 v n (flat l))) (ad : Addr) (k c : Nat) (hx : a.eval x = .slice (some ad) k c) (hk : m.length = k) (hk0 : 0 < k)
    (hm : Hid (∀ j u, (flat m)[j]? = some u → w.cell? (ad.add j) = some u)) (h1 : Hid (∀ p ∈ m, ∃ a c, p.2 = .slice a p.1.args.length c)) (hsz : n + k ≤ 1000000) (hbase : base ≤ w.heap.size)
    (h : ∀ g cap w', Hid (w'.ownsRow base 24 4 (.slice (some ⟨g, 0, none⟩) (n + k) cap) (n + k) (flat (l ++ m))) → Hid (Below base w w') → Hid (w.grownBy w' v.ownBlock) → Hid ((v.ownBlock = some g ∨ g = w.heap.size) ∧ g < w'.heap.size) → wpList Tryd.prog ops Q rest (a.put o.dst (.slice (some ⟨g, 0, none⟩) (n + k) cap)) w') : wpList Tryd.prog ops Q (o :: rest) a w := by
  obtain ⟨i0, hi0, hz0, hz1, hz2⟩ := info_parts info24
  refine wpList_append_lies w hgd s x 22 ho base 24 i0 _ 4 56 under22 hi0 hz0 hz1 hz2 rfl (by omega) v n (flat l) hs hown.out ad k c (flat m) hx (by rw [flat_length, hk]) hm.out (flat_one m h1.out) hk0 (by simp only [maxLen]; omega) (by omega) hbase w.heap.size rfl ?_
  intro g cap w' h2 h3 h4 h5
  refine h g cap w' (Lib.hid ?_) (Lib.hid (own_below hown.out h3 hbase)) (Lib.hid h3) (Lib.hid ⟨h4, h5⟩)
  rw [flat_append]; exact h2
/-- Terms that were cloned lie in blocks of their own, none of them the row's. -/
def Clones (base : Nat) (w : World) (v : Value) (l : List PV) : Prop := ∀ p ∈ l, OwnT (fun b => (base ≤ b ∧ b < w.heap.size) ∧ v.ownBlock ≠ some b) w p.1 p.2
theorem Clones.step {base n : Nat} {wr w5 w7 : World} {vo : Value} {lw : List PV} {t : Tm} {x : Value} {g cap k : Nat} {o : Obj} {xs : List Value} (h : Clones base wr vo lw) (hown : wr.ownsRow base 24 4 vo n xs) (hbs : base ≤ wr.heap.size) (h5 : Below wr.heap.size wr w5) (hx : OwnT (fun b => wr.heap.size ≤ b ∧ b < w5.heap.size) w5 t x)
    (_hg : (w5.alloc o).grownBy w7 vo.ownBlock) (hgg : (vo.ownBlock = some g ∨ g = (w5.alloc o).heap.size) ∧ g < w7.heap.size) (hs7 : (w5.alloc o).heap.size ≤ w7.heap.size) (hblk : ∀ b, b < (w5.alloc o).heap.size → vo.ownBlock ≠ some b → w7.heap[b]? = (w5.alloc o).heap[b]?) : Clones base w7 (.slice (some ⟨g, 0, none⟩) k cap) (lw ++ [(t, x)]) := by
  have ha : (w5.alloc o).heap.size = w5.heap.size + 1 := by simp
  have hal : ∀ b, b < w5.heap.size → (w5.alloc o).heap[b]? = w5.heap[b]? := fun b hb => ((Below.refl w5.heap.size w5).alloc (Nat.le_refl _) o).block b hb
  have h5s := h5.size
  intro p hp
  rcases List.mem_append.1 hp with hp | hp
  · refine (h p hp).keep (fun b hS => ?_) (fun b hS _ => ⟨⟨hS.1.1, by omega⟩, ?_⟩)
    · exact (hblk b (by omega) hS.2).trans ((hal b (by omega)).trans (h5.block b hS.1.2))
    · intro h; simp only [Value.ownBlock, Option.some.injEq] at h
      subst h
      rcases hgg.1 with h1 | h1
      · exact hS.2 h1
      · omega
  · obtain rfl := List.mem_singleton.1 hp
    have hno : ∀ b, wr.heap.size ≤ b → vo.ownBlock ≠ some b := fun b hb h => by
      have := (hown.lt b h).2; omega
    refine hx.keep (fun b hS => ?_) (fun b hS _ => ⟨⟨by omega, by omega⟩, ?_⟩)
    · exact (hblk b (by omega) (hno b hS.1)).trans (hal b hS.2)
    · intro h; simp only [Value.ownBlock, Option.some.injEq] at h
      subst h
      rcases hgg.1 with h1 | h1
      · exact hno g hS.1 h1
      · omega

end Go.Proofs.YtehnhjhflaljhaaDoor
