/- all: whether all terms of a row have a property (Valid, isPair). -/
import Derived.Test.YtehnhjhflaljhaaDoorKA
import Derived.Test.YtehnhjhflaljhaaDoorSA
import Derived.Test.YtehnhjhflaljhaaDoorC7
namespace Go.Proofs.YtehnhjhflaljhaaDoor
open Go.RowKit Go.Proofs.HT

theorem RowIn.at {w : World} {b off : Nat} {l : List PV} (h : RowIn w b off l) (j : Nat) (hj : j < l.length) : w.cell? ⟨b, off + j * 4, none⟩ = some (.int .i64 l[j].1.kind) ∧ w.cell? ⟨b, off + j * 4 + 1, none⟩ = some (.int .i64 l[j].1.num) ∧ w.cell? ⟨b, off + j * 4 + 2, none⟩ = some (.string l[j].1.name) ∧ w.cell? ⟨b, off + j * 4 + 3, none⟩ = some l[j].2 := by
  obtain ⟨h0, h1, h2, h3⟩ := flat_get l j hj
  exact ⟨h _ _ h0, by have := h _ _ h1; rwa [← Nat.add_assoc] at this, by have := h _ _ h2; rwa [← Nat.add_assoc] at this, by have := h _ _ h3; rwa [← Nat.add_assoc] at this⟩

set_option maxHeartbeats 2000000 in
theorem idx_any (b off n cap c : Nat) (l : List PV) (P : Tm → Bool) (w : World) (hn : l.length = n) (hn2 : n ≤ 1000000) (_hcap : n ≤ cap) (hrow : RowIn w b off l)
    (HF : Hid (∀ p ∈ l, ∀ w', Below w.heap.size w w' → Calls Tryd.prog 67 #[tv p.1 p.2, .pointer (some ⟨c, 0, none⟩)] w' fun e w'' => e = .returned (.bool (!P p.1)) ∧ Below w'.heap.size w' w'')) :
    Calls Tryd.prog 80 #[.slice (some ⟨b, off, none⟩) n cap, .func (.func 67) #[] #[.pointer (some ⟨c, 0, none⟩)]] w fun e w' => ∃ i : Int, e = .returned (.int .i64 i) ∧ (decide (0 ≤ i) = !(l.all fun p => P p.1)) ∧ Below w.heap.size w w' := by
  have HR := Lib.hid hrow
  have HN := Lib.hid hn
  clear hrow hn
  go_enter Tryd.func80, Tryd.ntmps80
  go_wp2_with fail
  go_loopw [8] (fun i wr => ∃ j : Nat, j ≤ n ∧ i = .int .i64 j ∧ Hid (Below w.heap.size w wr) ∧ Hid (∀ k (h : k < l.length), k < j → P l[k].1 = true)) (fun i _ => n - (intOf i).toNat)
  case atStart => exact ⟨0, by omega, rfl, Lib.hid (Below.refl _ _), Lib.hid (fun _ _ h => by omega)⟩
  case round =>
    obtain ⟨j, hj, rfl, hb, hz⟩ := hrel
    by_cases hlt : j < n
    · have hjl : j < l.length := by have := HN.out; omega
      obtain ⟨d0, d1, d2, d3⟩ := (HR.out.below hb.out).at j hjl
      have hF := HF.out l[j] (List.getElem_mem hjl) wr hb.out
      obtain ⟨q, hq⟩ : ∃ q, P l[j].1 = q := ⟨_, rfl⟩
      rw [hq] at hF
      have HFF := Lib.hid hF
      have HQ := Lib.hid hq
      clear hF hq
      cases q
      · go_wp2_with (first | (go_at_call 67; refine HFF.out.mono ?_; rintro e w1 ⟨rfl, hb1⟩))
        go_ret
        refine ⟨j, rfl, ?_, hb.out.trans (hb1.mono hb.out.size)⟩
        have h1 : (l.all fun p => P p.1) = false := by
          rw [← Bool.not_eq_true, List.all_eq_true]
          intro h; have := h l[j] (List.getElem_mem hjl); rw [HQ.out] at this; cases this
        rw [h1]; simp
      · go_wp2_with (first | (go_at_call 67; refine HFF.out.mono ?_; rintro e w1 ⟨rfl, hb1⟩))
        go_roundw
        case rel =>
          refine ⟨j + 1, by omega, by go_num, Lib.hid (hb.out.trans (hb1.mono hb.out.size)), Lib.hid (fun k h h2 => ?_)⟩
          by_cases e : k = j
          · subst e; exact HQ.out
          · exact hz.out k h (by omega)
        case measure => simp [intOf]; omega
    · go_wp2_with fail
      go_ret
      refine ⟨-1, rfl, ?_, hb.out⟩
      have h1 : (l.all fun p => P p.1) = true := by
        rw [List.all_eq_true]
        intro p hp
        obtain ⟨k, hk, rfl⟩ := List.mem_iff_getElem.1 hp
        exact hz.out k hk (by have := HN.out; omega)
      rw [h1]; rfl

set_option maxHeartbeats 2000000 in
theorem cont_any (b off n cap c : Nat) (l : List PV) (P : Tm → Bool) (w : World) (hn : l.length = n) (hn2 : n ≤ 1000000) (hcap : n ≤ cap) (hrow : RowIn w b off l)
    (HF : Hid (∀ p ∈ l, ∀ w', Below w.heap.size w w' → Calls Tryd.prog 67 #[tv p.1 p.2, .pointer (some ⟨c, 0, none⟩)] w' fun e w'' => e = .returned (.bool (!P p.1)) ∧ Below w'.heap.size w' w'')) :
    Calls Tryd.prog 66 #[.slice (some ⟨b, off, none⟩) n cap, .func (.func 67) #[] #[.pointer (some ⟨c, 0, none⟩)]] w fun e w' => e = .returned (.bool (!(l.all fun p => P p.1))) ∧ Below w.heap.size w w' := by
  have HI := Lib.hid (idx_any b off n cap c l P w hn hn2 hcap hrow HF)
  clear hrow hn HF
  go_enter Tryd.func66, Tryd.ntmps66
  go_wp2_with (first | (go_at_call 80; refine HI.out.mono ?_; rintro e w1 ⟨i, rfl, hi, hb1⟩))
  go_ret
  exact ⟨by simp, hb1⟩

def pairB (t : Tm) : Bool := (t.kind == 3) && (t.name.data.toList == [45]) && decide (t.args.length = 2)
theorem pairT_of {t : Tm} (h : pairB t = true) : pairT t = true := by
  obtain ⟨k, n, s, ts⟩ := t
  unfold pairB at h
  simp only [Bool.and_eq_true, Tm.args] at h
  match ts, h.2 with
  | _ :: _, _ => rfl
set_option maxHeartbeats 2000000 in
theorem isPair_any (t : Tm) (v : Value) (w : World) (h : LiesT w t v) : Calls Tryd.prog 45 #[tv t v] w fun e w' => e = .returned (.bool (pairB t)) ∧ Below w.heap.size w w' := by
  obtain ⟨a, c, rfl⟩ : ∃ a c, v = .slice a t.args.length c := h.slice
  obtain ⟨q, hq⟩ : ∃ q, pairB t = q := ⟨_, rfl⟩
  obtain ⟨m, hm⟩ : ∃ m, t.args.length = m := ⟨_, rfl⟩
  have hq2 : ((t.kind == 3) && (t.name.toList == [45]) && decide (m = 2)) = q := by rw [← hm, Lib.toList_data]; exact hq
  rw [hq]
  simp only [tv]
  rw [hm]
  clear h hq hm
  obtain ⟨z, hz⟩ : ∃ z, decide (m = 2) = z := ⟨_, rfl⟩
  have h5 : ((m : Int) == 2) = z := by rw [← hz, Bool.eq_iff_iff]; simp; omega
  rw [hz] at hq2
  clear hz
  rcases Bool.eq_false_or_eq_true (t.kind == 3) with h1 | h1 <;> rcases Bool.eq_false_or_eq_true (t.name.toList == [45]) with h2 | h2 <;> cases z
  all_goals
    have hq3 := hq2
    rw [h1, h2] at hq3
    simp at hq3
    have HQ := Lib.hid hq3
    clear hq2 hq3
    go_enter Tryd.func45, Tryd.ntmps45
    go_wp2_with fail
    go_ret
    exact ⟨ret_bool (by first | exact HQ.out | (rw [← HQ.out]) | (rw [HQ.out])), (Below.refl _ _).alloc (Nat.le_refl _) _⟩

set_option maxHeartbeats 2000000 in
theorem neg_valid (t : Tm) (v : Value) (c : Nat) (w : World) (h : LiesT w t v) (hc : w.cell? ⟨c, 0, none⟩ = some (.func (.func 36) #[] #[])) :
    Calls Tryd.prog 67 #[tv t v, .pointer (some ⟨c, 0, none⟩)] w fun e w' => e = .returned (.bool (!validB t)) ∧ Below w.heap.size w w' := by
  have HB : Hid (∀ o1, Below w.heap.size w (w.alloc o1)) := fun o1 => (Below.refl w.heap.size w).alloc (Nat.le_refl _) _
  have HH := Lib.hid h
  have zb := World.block_lt_of_cell? _ _ hc
  clear h
  simp only [tv]
  go_enter Tryd.func67, Tryd.ntmps67
  go_wp2_with (first | (go_at_call 36; refine (Valid_any t v _ (HH.out.below (HB.out _))).mono ?_; rintro e w1 ⟨rfl, hb1⟩))
  go_ret
  exact ⟨rfl, (HB.out _).trans (hb1.mono (HB.out _).size)⟩

set_option maxHeartbeats 2000000 in
theorem all_valid (b off n cap : Nat) (l : List PV) (w : World) (hn : l.length = n) (hn2 : n ≤ 1000000) (hcap : n ≤ cap) (hrow : RowIn w b off l) (hl : ∀ p ∈ l, LiesT w p.1 p.2) :
    Calls Tryd.prog 39 #[.slice (some ⟨b, off, none⟩) n cap, .func (.func 36) #[] #[]] w fun e w' => e = .returned (.bool (l.all fun p => validB p.1)) ∧ Below w.heap.size w w' := by
  obtain ⟨q, hq⟩ : ∃ q, (l.all fun p => validB p.1) = q := ⟨_, rfl⟩
  rw [hq]
  have HB0 : Hid (Below w.heap.size w (w.alloc (.cells #[.func (.func 36) #[] #[]] 41))) := (Below.refl _ _).alloc (Nat.le_refl _) _
  have HC : Hid (Calls Tryd.prog 66 #[.slice (some ⟨b, off, none⟩) n cap, .func (.func 67) #[] #[.pointer (some ⟨w.heap.size, 0, none⟩)]] (w.alloc (.cells #[.func (.func 36) #[] #[]] 41)) fun e w' => e = .returned (.bool (!q)) ∧ Below (w.alloc (.cells #[.func (.func 36) #[] #[]] 41)).heap.size (w.alloc (.cells #[.func (.func 36) #[] #[]] 41)) w') := by
    rw [← hq]
    refine cont_any b off n cap w.heap.size l validB _ hn hn2 hcap (hrow.below HB0.out) (Lib.hid (fun p hp w' hb => ?_))
    exact neg_valid p.1 p.2 _ w' ((hl p hp).below (HB0.out.trans (hb.mono HB0.out.size))) (cell_below hb _ _ (by rw [cell_of_row _ _ _ _ _ _ (heap_alloc_new _ _)]; rfl))
  clear hrow hl hq hn
  go_enter Tryd.func39, Tryd.ntmps39
  go_wp2_with (first | (go_at_call 66; refine HC.out.mono ?_; rintro e w1 ⟨rfl, hb1⟩))
  go_ret
  exact ⟨ret_bool (by simp), HB0.out.trans (hb1.mono HB0.out.size)⟩

set_option maxHeartbeats 2000000 in
theorem neg_pair (t : Tm) (v : Value) (c : Nat) (w : World) (h : LiesT w t v) (hc : w.cell? ⟨c, 0, none⟩ = some (.func (.func 45) #[] #[])) :
    Calls Tryd.prog 67 #[tv t v, .pointer (some ⟨c, 0, none⟩)] w fun e w' => e = .returned (.bool (!pairB t)) ∧ Below w.heap.size w w' := by
  have HB : Hid (∀ o1, Below w.heap.size w (w.alloc o1)) := fun o1 => (Below.refl w.heap.size w).alloc (Nat.le_refl _) _
  have HH := Lib.hid h
  have zb := World.block_lt_of_cell? _ _ hc
  clear h
  simp only [tv]
  go_enter Tryd.func67, Tryd.ntmps67
  go_wp2_with (first | (go_at_call 45; refine (isPair_any t v _ (HH.out.below (HB.out _))).mono ?_; rintro e w1 ⟨rfl, hb1⟩))
  go_ret
  exact ⟨rfl, (HB.out _).trans (hb1.mono (HB.out _).size)⟩

set_option maxHeartbeats 2000000 in
theorem all_pair (b off n cap : Nat) (l : List PV) (w : World) (hn : l.length = n) (hn2 : n ≤ 1000000) (hcap : n ≤ cap) (hrow : RowIn w b off l) (hl : ∀ p ∈ l, LiesT w p.1 p.2) :
    Calls Tryd.prog 39 #[.slice (some ⟨b, off, none⟩) n cap, .func (.func 45) #[] #[]] w fun e w' => e = .returned (.bool (l.all fun p => pairB p.1)) ∧ Below w.heap.size w w' := by
  obtain ⟨q, hq⟩ : ∃ q, (l.all fun p => pairB p.1) = q := ⟨_, rfl⟩
  rw [hq]
  have HB0 : Hid (Below w.heap.size w (w.alloc (.cells #[.func (.func 45) #[] #[]] 41))) := (Below.refl _ _).alloc (Nat.le_refl _) _
  have HC : Hid (Calls Tryd.prog 66 #[.slice (some ⟨b, off, none⟩) n cap, .func (.func 67) #[] #[.pointer (some ⟨w.heap.size, 0, none⟩)]] (w.alloc (.cells #[.func (.func 45) #[] #[]] 41)) fun e w' => e = .returned (.bool (!q)) ∧ Below (w.alloc (.cells #[.func (.func 45) #[] #[]] 41)).heap.size (w.alloc (.cells #[.func (.func 45) #[] #[]] 41)) w') := by
    rw [← hq]
    refine cont_any b off n cap w.heap.size l pairB _ hn hn2 hcap (hrow.below HB0.out) (Lib.hid (fun p hp w' hb => ?_))
    exact neg_pair p.1 p.2 _ w' ((hl p hp).below (HB0.out.trans (hb.mono HB0.out.size))) (cell_below hb _ _ (by rw [cell_of_row _ _ _ _ _ _ (heap_alloc_new _ _)]; rfl))
  clear hrow hl hq hn
  go_enter Tryd.func39, Tryd.ntmps39
  go_wp2_with (first | (go_at_call 66; refine HC.out.mono ?_; rintro e w1 ⟨rfl, hb1⟩))
  go_ret
  exact ⟨ret_bool (by simp), HB0.out.trans (hb1.mono HB0.out.size)⟩

end Go.Proofs.YtehnhjhflaljhaaDoor

/- copies: deep copies of the terms of a row. -/
namespace Go.Proofs.YtehnhjhflaljhaaDoor
open Go.RowKit Go.Proofs.HT

theorem flat_zero (n : Nat) : mk0 n = (flat (List.replicate n dflt)).toArray := by
  apply Array.ext
  · rw [mk0_size]; simp [flat_length]
  · intro i h1 h2
    have hl : i < n * 4 := by rw [mk0_size] at h1; exact h1
    have hj : i / 4 < (List.replicate n dflt).length := by simp; omega
    obtain ⟨g0, g1, g2, g3⟩ := flat_get (List.replicate n dflt) (i / 4) hj
    simp only [List.getElem_replicate] at g0 g1 g2 g3
    have e : i = i / 4 * 4 + i % 4 := by omega
    have hr : i % 4 = 0 ∨ i % 4 = 1 ∨ i % 4 = 2 ∨ i % 4 = 3 := by omega
    have key : ∀ v, (flat (List.replicate n dflt))[i]? = some v → (mk0 n)[i]? = some v → (mk0 n)[i] = (flat (List.replicate n dflt)).toArray[i] := fun v hv hm => by
      rw [Array.getElem?_eq_getElem h1] at hm
      have h3 : (flat (List.replicate n dflt)).toArray[i]? = some v := by rw [List.getElem?_toArray]; exact hv
      rw [Array.getElem?_eq_getElem h2] at h3
      exact Option.some.inj (hm.trans h3.symm)
    rcases hr with hr | hr | hr | hr
    · exact key _ (by rw [show i = i / 4 * 4 by omega]; exact g0) (by simp [mk0, madeCells, hl, hr]; rfl)
    · exact key _ (by rw [show i = i / 4 * 4 + 1 by omega]; exact g1) (by simp [mk0, madeCells, hl, hr]; rfl)
    · exact key _ (by rw [show i = i / 4 * 4 + 2 by omega]; exact g2) (by simp [mk0, madeCells, hl, hr]; rfl)
    · exact key _ (by rw [show i = i / 4 * 4 + 3 by omega]; exact g3) (by simp [mk0, madeCells, hl, hr]; rfl)

end Go.Proofs.YtehnhjhflaljhaaDoor

/- The contract of copies. -/
namespace Go.Proofs.YtehnhjhflaljhaaDoor
open Go.RowKit Go.Proofs.HT

def CopyEnd (ts : List Tm) (w : World) (e : Ending) (w' : World) : Prop := ∃ g l', e = .returned (.slice (some ⟨g, 0, none⟩) ts.length ts.length) ∧ l'.map Prod.fst = ts ∧ w.heap.size ≤ g ∧ g < w'.heap.size ∧ RowAt w' g l' [] 24 ∧ (∀ p ∈ l', OwnT (fun b => (w.heap.size ≤ b ∧ b < w'.heap.size) ∧ b ≠ g) w' p.1 p.2) ∧ Below w.heap.size w w'
theorem set_mid (d : List PV) (m : Nat) (p : PV) : (d ++ List.replicate (m + 1) dflt).set d.length p = (d ++ [p]) ++ List.replicate m dflt := by
  rw [List.set_append_right _ _ (Nat.le_refl _), Nat.sub_self, List.replicate_succ, List.set_cons_zero]; simp

set_option maxHeartbeats 4000000 in
theorem copies_any (a : Option Addr) (n cap : Nat) (l : List PV) (w : World) (hn : l.length = n) (hn2 : n ≤ 1000000) (_hcap : n ≤ cap) (hrow : Hid (0 < n → ∃ b off, a = some ⟨b, off, none⟩ ∧ RowIn w b off l)) (hl : ∀ p ∈ l, LiesT w p.1 p.2 ∧ validB p.1 = true) :
    Calls Tryd.prog 40 #[.slice a n cap] w (CopyEnd (l.map Prod.fst) w) := by
  obtain ⟨i0, hi0, hz0, hz1, hz2⟩ := info_parts info24
  have hmk : ∀ w, (Instr.makeSlice 22 (.int .i64 n) (.int .i64 n)).run Tryd.prog w = .ok (.slice (some ⟨w.heap.size, 0, none⟩) n n) (w.alloc (.cells (mk0 n) 24)) := fun w => by
    have h := run_make (P := Tryd.prog) w 22 24 i0 _ under22 hi0 hz0 .i64 .i64 n n (by omega) (by omega) (by rw [hz2]; omega) (by omega)
    simp only [Int.toNat_natCast, hz1] at h
    exact h
  have HN := Lib.hid hn
  have HL := Lib.hid hl
  have HB0 : Hid (Below w.heap.size w (w.alloc (.cells (mk0 n) 24))) := (Below.refl _ _).alloc (Nat.le_refl _) _
  have HR0 : Hid (RowAt (w.alloc (.cells (mk0 n) 24)) w.heap.size (List.replicate n dflt) [] 24) := by
    show _ = _
    rw [heap_alloc_new, flat_zero, List.append_nil]
  clear hn hl hi0 hz0 hz1 hz2
  go_enter Tryd.func40, Tryd.ntmps40
  go_wp2_with fail
  go_loopw [11] (fun i wr => ∃ (j : Nat) (d : List PV), j ≤ n ∧ i = .int .i64 j ∧ Hid (Below w.heap.size w wr) ∧ Hid (RowAt wr w.heap.size (d ++ List.replicate (n - j) dflt) [] 24) ∧ Hid (d.length = j ∧ d.map Prod.fst = (l.map Prod.fst).take j ∧ ∀ p ∈ d, OwnT (fun b => (w.heap.size ≤ b ∧ b < wr.heap.size) ∧ b ≠ w.heap.size) wr p.1 p.2)) (fun i _ => n - (intOf i).toNat)
  case atStart => exact ⟨0, [], by omega, rfl, HB0, HR0, Lib.hid ⟨rfl, by simp, by simp⟩⟩
  case round =>
    obtain ⟨j, d, hj, rfl, hb, hr, hd⟩ := hrel
    by_cases hlt : j < n
    · have hjl : j < l.length := by have := HN.out; omega
      obtain ⟨b, off, rfl, HRI⟩ := hrow.out (by omega)
      obtain ⟨d0, d1, d2, d3⟩ := (RowIn.below HRI hb.out).at j hjl
      obtain ⟨lj, vj⟩ := HL.out l[j] (List.getElem_mem hjl)
      obtain ⟨pp, hpe⟩ : ∃ p, l[j] = p := ⟨_, rfl⟩
      rw [hpe] at d0 d1 d2 d3 lj vj
      obtain ⟨t, v⟩ := pp
      obtain ⟨va, vc, ev⟩ : ∃ a c, v = .slice a t.args.length c := lj.slice
      obtain rfl := ev
      have HP := Lib.hid hpe
      have HLJ := Lib.hid (lj.below hb.out)
      have HVJ := Lib.hid vj
      have hg : w.heap.size < wr.heap.size := (Array.getElem?_eq_some_iff.1 hr.out).1
      have BX := Lib.hid (fun o1 => ((Below.refl wr.heap.size wr).alloc (Nat.le_refl _) o1 : Below wr.heap.size wr (wr.alloc o1)))
      clear hpe lj vj HRI
      go_wp2_with fail
      refine (Clone_yes t _ _ (HLJ.out.below (BX.out _)) HVJ.out).mono ?_
      rintro e w1 ⟨y, rfl, hy, hb1⟩
      obtain ⟨ya, yc, rfl⟩ := hy.slice
      have B1 := Lib.hid ((BX.out (.cells #[.int .i64 t.kind, .int .i64 t.num, .string t.name, .slice va t.args.length vc] 24)).trans (hb1.mono (BX.out _).size))
      have R1 := Lib.hid (hr.out.keep B1.out)
      have HY := Lib.hid hy
      have hz1 : wr.heap.size + 1 ≤ w1.heap.size := by have := hb1.size; simpa using this
      have f0 := frozen_of_row _ _ (j * 4) _ _ R1.out
      have f1 := frozen_of_row _ _ (j * 4 + 1) _ _ R1.out
      have f2 := frozen_of_row _ _ (j * 4 + 2) _ _ R1.out
      have f3 := frozen_of_row _ _ (j * 4 + 3) _ _ R1.out
      have hjl2 : j < (d ++ List.replicate (n - j) dflt).length := by rw [List.length_append, List.length_replicate, hd.out.1]; omega
      obtain ⟨z0, c0⟩ : ∃ v, w1.cell? ⟨w.heap.size, j * 4, none⟩ = some v := ⟨_, (R1.out.cells j hjl2).1⟩
      obtain ⟨z1, c1⟩ : ∃ v, w1.cell? ⟨w.heap.size, j * 4 + 1, none⟩ = some v := ⟨_, (R1.out.cells j hjl2).2.1⟩
      obtain ⟨z2, c2⟩ : ∃ v, w1.cell? ⟨w.heap.size, j * 4 + 2, none⟩ = some v := ⟨_, (R1.out.cells j hjl2).2.2.1⟩
      obtain ⟨z3, c3⟩ : ∃ v, w1.cell? ⟨w.heap.size, j * 4 + 3, none⟩ = some v := ⟨_, (R1.out.cells j hjl2).2.2.2⟩
      clear hb1 hy d0 d1 d2 d3 hjl2
      go_wp2_with fail
      go_roundw
      case rel =>
        have hm := hd.out
        have e1 : d ++ List.replicate (n - j) dflt = d ++ List.replicate ((n - (j + 1)) + 1) dflt := by rw [show n - j = (n - (j + 1)) + 1 by omega]
        have hRS := RowAt.set R1.out j (by rw [List.length_append, List.length_replicate, hm.1]; omega) (t, .slice ya t.args.length yc)
        have e2 : (d ++ List.replicate (n - j) dflt).set j (t, .slice ya t.args.length yc) = (d ++ [(t, .slice ya t.args.length yc)]) ++ List.replicate (n - (j + 1)) dflt := by
          rw [e1, ← hm.1]; exact set_mid d _ _
        rw [e2] at hRS
        refine ⟨j + 1, d ++ [(t, .slice ya t.args.length yc)], by omega, by go_num, Lib.hid ?_, Lib.hid hRS, Lib.hid ⟨by simp [hm.1], ?_, ?_⟩⟩
        · exact ((((hb.out.trans (B1.out.mono hb.out.size)).setCell (p := ⟨w.heap.size, j * 4, none⟩) (Nat.le_refl _) _).setCell (p := ⟨w.heap.size, j * 4 + 1, none⟩) (Nat.le_refl _) _).setCell (p := ⟨w.heap.size, j * 4 + 2, none⟩) (Nat.le_refl _) _).setCell (p := ⟨w.heap.size, j * 4 + 3, none⟩) (Nat.le_refl _) _
        · have hjl2 : j < (l.map Prod.fst).length := by simpa using hjl
          rw [List.map_append, hm.2.1, List.take_succ_eq_append_getElem hjl2]
          simp [HP.out]
        · intro p hp
          have hsz : w1.heap.size = (((((w1.setCell ⟨w.heap.size, j * 4, none⟩ (.int .i64 t.kind)).setCell ⟨w.heap.size, j * 4 + 1, none⟩ (.int .i64 t.num)).setCell ⟨w.heap.size, j * 4 + 2, none⟩ (.string t.name)).setCell ⟨w.heap.size, j * 4 + 3, none⟩ (.slice ya t.args.length yc))).heap.size := by simp [World.setCell]
          have hbl : ∀ b, b ≠ w.heap.size → (((((w1.setCell ⟨w.heap.size, j * 4, none⟩ (.int .i64 t.kind)).setCell ⟨w.heap.size, j * 4 + 1, none⟩ (.int .i64 t.num)).setCell ⟨w.heap.size, j * 4 + 2, none⟩ (.string t.name)).setCell ⟨w.heap.size, j * 4 + 3, none⟩ (.slice ya t.args.length yc))).heap[b]? = w1.heap[b]? := fun b hb => by
            rw [Below.heap_setCell _ _ _ _ hb, Below.heap_setCell _ _ _ _ hb, Below.heap_setCell _ _ _ _ hb, Below.heap_setCell _ _ _ _ hb]
          rw [List.mem_append] at hp
          rcases hp with hp | hp
          · refine (hm.2.2 p hp).keep (fun b hb => ?_) (fun b hb _ => ⟨⟨hb.1.1, by rw [← hsz]; omega⟩, hb.2⟩)
            rw [hbl b hb.2]; exact B1.out.block b hb.1.2
          · obtain rfl := List.mem_singleton.1 hp
            refine HY.out.keep (fun b hb => ?_) (fun b hb _ => ⟨⟨by have := hb.1; simp at this; omega, by rw [← hsz]; exact hb.2⟩, by have := hb.1; simp at this; omega⟩)
            rw [hbl b (by have := hb.1; simp at this; omega)]
      case measure => simp [intOf]; omega
    · have e : j = n := by omega
      have HE : Hid (d.map Prod.fst = l.map Prod.fst ∧ d.length = n) := by
        have hm := hd.out
        refine ⟨?_, by omega⟩
        rw [hm.2.1, List.take_of_length_le (by simp; have := HN.out; omega)]
      have HRR : Hid (RowAt wr w.heap.size d [] 24) := by
        have h1 := hr.out
        rw [e, Nat.sub_self] at h1
        exact Lib.hid (by simpa using h1)
      go_wp2_with fail
      go_ret
      have hlen : (l.map Prod.fst).length = n := by simpa using HN.out
      exact ⟨w.heap.size, d, by rw [hlen]; rfl, HE.out.1, Nat.le_refl _, (Array.getElem?_eq_some_iff.1 HRR.out).1, HRR.out, hd.out.2.2, hb.out⟩

end Go.Proofs.YtehnhjhflaljhaaDoor

/- Stable and Keys. -/
namespace Go.Proofs.YtehnhjhflaljhaaDoor
open Go.RowKit Go.Proofs.HT

theorem sink_mem (cf : PV → PV → Int) (a : Nat) : ∀ (j : Nat) (l : List PV), j < l.length → ∀ p, p ∈ sink cf a j l → p ∈ l
  | 0, _, _, _, h => h
  | j + 1, l, hj, p, h => by
    unfold sink at h
    split at h
    · exact swap_mem hj (sink_mem cf a j _ (by simp; omega) p h)
    · exact h
theorem isort_mem (cf : PV → PV → Int) (a : Nat) : ∀ (m i : Nat) (l : List PV), i + m ≤ l.length → ∀ p, p ∈ isort cf a m i l → p ∈ l
  | 0, _, _, _, _, h => h
  | m + 1, i, l, hl, p, h => by
    rw [isort] at h
    exact sink_mem cf a i l (by omega) p (isort_mem cf a m (i + 1) _ (by rw [sink_length]; omega) p h)
theorem RowAt.rowIn {w : World} {b : Nat} {l : List PV} {pad : List Value} {ty : TypeId} (h : RowAt w b l pad ty) : RowIn w b 0 l := fun j u hj => by
  rw [Nat.zero_add, cell_of_row _ _ _ _ _ _ h]
  have hlt := (List.getElem?_eq_some_iff.1 hj).1
  simp [List.getElem?_append_left hlt, hj]
/-- Deep copies of a row, and an error's number. -/
def CopyE (ts : List Tm) (c : Int) (w : World) (e : Ending) (w' : World) : Prop := ∃ g l', e = .returned (.tuple #[.slice (some ⟨g, 0, none⟩) ts.length ts.length, .int .i64 c]) ∧ l'.map Prod.fst = ts ∧ w.heap.size ≤ g ∧ g < w'.heap.size ∧ RowAt w' g l' [] 24 ∧ (∀ p ∈ l', OwnT (fun b => (w.heap.size ≤ b ∧ b < w'.heap.size) ∧ b ≠ g) w' p.1 p.2) ∧ Below w.heap.size w w'
/-- No result but an error's number. -/
def NoneE (c : Int) (w : World) (e : Ending) (w' : World) : Prop := e = .returned (.tuple #[.slice none 0 0, .int .i64 c]) ∧ Below w.heap.size w w'
theorem CopyE.of {ts : List Tm} {w0 w : World} {e : Ending} {w' : World} (hb : Below w0.heap.size w0 w) (h : CopyEnd ts w e w') : ∃ g, e = .returned (.slice (some ⟨g, 0, none⟩) ts.length ts.length) ∧ CopyE ts 0 w0 (.returned (.tuple #[.slice (some ⟨g, 0, none⟩) ts.length ts.length, .int .i64 0])) w' := by
  obtain ⟨g, l', rfl, h1, h2, h3, h4, h5, h6⟩ := h
  have hs := hb.size
  exact ⟨g, rfl, g, l', rfl, h1, by omega, h3, h4, fun p hp => (h5 p hp).keep (fun _ _ => rfl) (fun b hb _ => ⟨⟨by have := hb.1.1; omega, hb.1.2⟩, hb.2⟩), hb.trans (h6.mono hb.size)⟩

set_option maxHeartbeats 2000000 in
theorem Stable_bad (b off n cap : Nat) (l : List PV) (w : World) (hn : l.length = n) (hn2 : n ≤ 1000000) (hcap : n ≤ cap) (hrow : RowIn w b off l) (hl : ∀ p ∈ l, LiesT w p.1 p.2) (hv : (l.all fun p => validB p.1) = false) :
    Calls Tryd.prog 17 #[.slice (some ⟨b, off, none⟩) n cap] w (NoneE 1 w) := by
  have A1 := Lib.hid (all_valid b off n cap l w hn hn2 hcap hrow hl)
  rw [hv] at A1
  clear hrow hl hn hv
  go_enter Tryd.func17, Tryd.ntmps17
  go_wp2_with (first | (go_at_call 39; refine A1.out.mono ?_; rintro e w1 ⟨rfl, hb1⟩))
  go_ret2
  exact ⟨rfl, hb1⟩

set_option maxHeartbeats 2000000 in
theorem Stable_yes (b off n cap : Nat) (l : List PV) (w : World) (hn : l.length = n) (hn2 : n ≤ 1000000) (hcap : n ≤ cap) (hrow : RowIn w b off l) (hl : ∀ p ∈ l, LiesT w p.1 p.2) (hv : (l.all fun p => validB p.1) = true) (R : List PV) (hR : R.length = n) (hmem : ∀ p ∈ R, p ∈ l) (_hn0 : 0 < n)
    (HS : Hid (∀ w1, Below w.heap.size w w1 → Calls Tryd.prog 42 #[.slice (some ⟨b, off, none⟩) n cap, .func (.func 43) #[] #[]] w1 (RowEnd R w1))) :
    Calls Tryd.prog 17 #[.slice (some ⟨b, off, none⟩) n cap] w (CopyE (R.map Prod.fst) 0 w) := by
  have A1 := Lib.hid (all_valid b off n cap l w hn hn2 hcap hrow hl)
  rw [hv] at A1
  have HL := Lib.hid (fun p hp => And.intro (hl p hp) (List.all_eq_true.1 hv p hp) : ∀ p ∈ l, LiesT w p.1 p.2 ∧ validB p.1 = true)
  have HM := Lib.hid hmem
  have HRL := Lib.hid hR
  clear hrow hl hn hv hmem hR
  go_enter Tryd.func17, Tryd.ntmps17
  go_wp2_with fail
  refine A1.out.mono ?_
  rintro e w1 ⟨rfl, hb1⟩
  have B1 := Lib.hid hb1
  clear hb1
  have B2 := Lib.hid B1.out
  go_wp2_with fail
  refine (HS.out w1 B2.out).mono ?_
  rintro e w3 ⟨g, cap3, pad, rfl, hc3, hg3, hr3, hb3⟩
  rw [HRL.out] at hc3
  rw [HRL.out]
  have B3 := Lib.hid (B2.out.trans (hb3.mono B2.out.size))
  have HC := Lib.hid (copies_any (some ⟨g, 0, none⟩) n cap3 R w3 HRL.out hn2 hc3 (Lib.hid (fun _ => ⟨g, 0, rfl, RowAt.rowIn (show RowAt w3 g R pad 24 from hr3)⟩)) (fun p hp => ⟨(HL.out p (HM.out p hp)).1.below B3.out, (HL.out p (HM.out p hp)).2⟩))
  clear hr3 hb3 hg3
  go_wp2_with fail
  refine HC.out.mono ?_
  intro e w4 hC4
  obtain ⟨g4, rfl, hE⟩ := CopyE.of B3.out hC4
  rw [List.length_map] at hE
  have HE := Lib.hid hE
  clear hE hC4
  go_wp2_with fail
  go_ret2
  exact HE.out

set_option maxHeartbeats 2000000 in
theorem Keys_bad (b off n cap : Nat) (l : List PV) (w : World) (hn : l.length = n) (hn2 : n ≤ 1000000) (hcap : n ≤ cap) (hrow : RowIn w b off l) (hl : ∀ p ∈ l, LiesT w p.1 p.2) (hv : (l.all fun p => validB p.1) = false) :
    Calls Tryd.prog 18 #[.slice (some ⟨b, off, none⟩) n cap] w (NoneE 1 w) := by
  have A1 := Lib.hid (all_valid b off n cap l w hn hn2 hcap hrow hl)
  rw [hv] at A1
  clear hrow hl hn hv
  go_enter Tryd.func18, Tryd.ntmps18
  go_wp2_with (first | (go_at_call 39; refine A1.out.mono ?_; rintro e w1 ⟨rfl, hb1⟩))
  go_ret2
  exact ⟨rfl, hb1⟩

set_option maxHeartbeats 2000000 in
theorem Keys_form (b off n cap : Nat) (l : List PV) (w : World) (hn : l.length = n) (hn2 : n ≤ 1000000) (hcap : n ≤ cap) (hrow : RowIn w b off l) (hl : ∀ p ∈ l, LiesT w p.1 p.2) (hv : (l.all fun p => validB p.1) = true) (hk : (l.all fun p => pairB p.1) = false) :
    Calls Tryd.prog 18 #[.slice (some ⟨b, off, none⟩) n cap] w (NoneE 3 w) := by
  have A1 := Lib.hid (all_valid b off n cap l w hn hn2 hcap hrow hl)
  rw [hv] at A1
  have A2 : Hid (∀ w1, Below w.heap.size w w1 → Calls Tryd.prog 39 #[.slice (some ⟨b, off, none⟩) n cap, .func (.func 45) #[] #[]] w1 fun e w' => e = .returned (.bool false) ∧ Below w1.heap.size w1 w') := fun w1 hb => by
    have h := all_pair b off n cap l w1 hn hn2 hcap (hrow.below hb) (fun p hp => (hl p hp).below hb)
    rw [hk] at h; exact h
  clear hrow hl hn hv hk
  go_enter Tryd.func18, Tryd.ntmps18
  go_wp2_with fail
  refine A1.out.mono ?_
  rintro e w1 ⟨rfl, hb1⟩
  go_wp2_with fail
  refine (A2.out w1 hb1).mono ?_
  rintro e w2 ⟨rfl, hb2⟩
  go_wp2_with fail
  go_ret2
  exact ⟨rfl, hb1.trans (hb2.mono hb1.size)⟩

set_option maxHeartbeats 2000000 in
theorem Keys_yes (b off n cap : Nat) (l : List PV) (w : World) (hn : l.length = n) (hn2 : n ≤ 1000000) (hcap : n ≤ cap) (hrow : RowIn w b off l) (hl : ∀ p ∈ l, LiesT w p.1 p.2) (hv : (l.all fun p => validB p.1) = true) (hk : (l.all fun p => pairB p.1) = true) (R : List PV) (hR : R.length = n) (hmem : ∀ p ∈ R, p ∈ l) (_hn0 : 0 < n)
    (HS : Hid (∀ w1, Below w.heap.size w w1 → Calls Tryd.prog 42 #[.slice (some ⟨b, off, none⟩) n cap, .func (.func 46) #[] #[]] w1 (RowEnd R w1))) :
    Calls Tryd.prog 18 #[.slice (some ⟨b, off, none⟩) n cap] w (CopyE (R.map Prod.fst) 0 w) := by
  have A1 := Lib.hid (all_valid b off n cap l w hn hn2 hcap hrow hl)
  rw [hv] at A1
  have A2 : Hid (∀ w1, Below w.heap.size w w1 → Calls Tryd.prog 39 #[.slice (some ⟨b, off, none⟩) n cap, .func (.func 45) #[] #[]] w1 fun e w' => e = .returned (.bool true) ∧ Below w1.heap.size w1 w') := fun w1 hb => by
    have h := all_pair b off n cap l w1 hn hn2 hcap (hrow.below hb) (fun p hp => (hl p hp).below hb)
    rw [hk] at h; exact h
  have HL := Lib.hid (fun p hp => And.intro (hl p hp) (List.all_eq_true.1 hv p hp) : ∀ p ∈ l, LiesT w p.1 p.2 ∧ validB p.1 = true)
  have HM := Lib.hid hmem
  have HRL := Lib.hid hR
  clear hrow hl hn hv hmem hR hk
  go_enter Tryd.func18, Tryd.ntmps18
  go_wp2_with fail
  refine A1.out.mono ?_
  rintro e w1 ⟨rfl, hb1⟩
  have B1 := Lib.hid hb1
  clear hb1
  go_wp2_with fail
  refine (A2.out w1 B1.out).mono ?_
  rintro e w2 ⟨rfl, hb2⟩
  have B2 := Lib.hid (B1.out.trans (hb2.mono B1.out.size))
  clear hb2
  go_wp2_with fail
  refine (HS.out w2 B2.out).mono ?_
  rintro e w3 ⟨g, cap3, pad, rfl, hc3, hg3, hr3, hb3⟩
  rw [HRL.out] at hc3
  rw [HRL.out]
  have B3 := Lib.hid (B2.out.trans (hb3.mono B2.out.size))
  have HC := Lib.hid (copies_any (some ⟨g, 0, none⟩) n cap3 R w3 HRL.out hn2 hc3 (Lib.hid (fun _ => ⟨g, 0, rfl, RowAt.rowIn (show RowAt w3 g R pad 24 from hr3)⟩)) (fun p hp => ⟨(HL.out p (HM.out p hp)).1.below B3.out, (HL.out p (HM.out p hp)).2⟩))
  clear hr3 hb3 hg3
  go_wp2_with fail
  refine HC.out.mono ?_
  intro e w4 hC4
  obtain ⟨g4, rfl, hE⟩ := CopyE.of B3.out hC4
  rw [List.length_map] at hE
  have HE := Lib.hid hE
  clear hE hC4
  go_wp2_with fail
  go_ret2
  exact HE.out

end Go.Proofs.YtehnhjhflaljhaaDoor

/- isIncreasing, the binary search. -/
namespace Go.Proofs.YtehnhjhflaljhaaDoor
open Go.RowKit Go.Proofs.HT

def incB (l : List PV) : Bool := (List.range (l.length - 1)).all fun k => decide (cT (l.getD k dflt).1 (l.getD (k + 1) dflt).1 < 0)
theorem incB_iff (l : List PV) : incB l = true ↔ ∀ k, k + 1 < l.length → cT (l.getD k dflt).1 (l.getD (k + 1) dflt).1 < 0 := by
  unfold incB
  rw [List.all_eq_true]
  constructor
  · intro h k hk
    simpa using h k (List.mem_range.2 (by omega))
  · intro h k hk
    have := List.mem_range.1 hk
    simpa using h k (by omega)

set_option maxHeartbeats 4000000 in
theorem inc_any (b off n cap : Nat) (l : List PV) (w : World) (hn : l.length = n) (hn2 : n ≤ 1000000) (_hcap : n ≤ cap) (hrow : RowIn w b off l) (hl : ∀ p ∈ l, LiesT w p.1 p.2 ∧ nodesB p.1 = true) (hp : Places w) :
    Calls Tryd.prog 51 #[.slice (some ⟨b, off, none⟩) n cap] w fun e w' => e = .returned (.bool (incB l)) ∧ Below w.heap.size w w' := by
  obtain ⟨R, hR⟩ : ∃ R, incB l = R := ⟨_, rfl⟩
  rw [hR]
  have HRR := Lib.hid hR
  have HN := Lib.hid hn
  have HL := Lib.hid hl
  have HR := Lib.hid hrow
  have HP := Lib.hid hp
  clear hR hn hl hrow hp
  go_enter Tryd.func51, Tryd.ntmps51
  go_wp2_with fail
  go_loopw [3] (fun i wr => ∃ j : Nat, i = .int .i64 ((j : Int) + 1) ∧ (j = 0 ∨ j + 1 ≤ n) ∧ Hid (Below w.heap.size w wr) ∧ Hid (∀ k, k < j → cT (l.getD k dflt).1 (l.getD (k + 1) dflt).1 < 0)) (fun i _ => n - (intOf i).toNat)
  case atStart => exact ⟨0, rfl, .inl rfl, Lib.hid (Below.refl _ _), Lib.hid (fun _ h => by omega)⟩
  case round =>
    obtain ⟨k, rfl, hj, hb, hz⟩ := hrel
    have v0 : (0 : Int) ≤ (k : Int) + 1 := by omega
    by_cases hlt : k + 1 < n
    · have d1 : decide ((k : Int) + 1 < (n : Int)) = true := by simp; omega
      have b1 : (k : Int) + 1 < (n : Int) := by omega
      have b2 : (k : Int) < (n : Int) := by omega
      have hk1 : k + 1 < l.length := by have := HN.out; omega
      have hk0 : k < l.length := by omega
      have cp := (HR.out.below hb.out).at k hk0
      have cq := (HR.out.below hb.out).at (k + 1) hk1
      have mp := HL.out _ (List.getElem_mem hk0)
      have mq := HL.out _ (List.getElem_mem hk1)
      have gp := getD_at l k hk0
      have gq := getD_at l (k + 1) hk1
      obtain ⟨pp, hpe⟩ : ∃ p, l[k] = p := ⟨_, rfl⟩
      obtain ⟨qq, hqe⟩ : ∃ p, l[k + 1] = p := ⟨_, rfl⟩
      rw [hpe] at cp mp gp
      rw [hqe] at cq mq gq
      obtain ⟨tp, vp⟩ := pp
      obtain ⟨tq, vq⟩ := qq
      obtain ⟨pa, pc, ev⟩ := mp.1.slice
      obtain rfl : vp = .slice pa tp.args.length pc := ev
      obtain ⟨qa, qc, ev⟩ := mq.1.slice
      obtain rfl : vq = .slice qa tq.args.length qc := ev
      obtain ⟨z, hz0⟩ : ∃ z, cT tp tq = z := ⟨_, rfl⟩
      have HCC : Hid (∀ w', Below wr.heap.size wr w' → Calls Tryd.prog 37 #[tv tp (.slice pa tp.args.length pc), tv tq (.slice qa tq.args.length qc)] w' fun e w'' => e = .returned (.int .i64 z) ∧ Below w'.heap.size w' w'') := fun w' h => by
        rw [← hz0]
        have hb3 := hb.out.trans (h.mono hb.out.size)
        exact compare_any tp tq _ _ w' (mp.1.below hb3) (mq.1.below hb3) mp.2 mq.2 (HP.out.below hb3)
      have HG : Hid (cT (l.getD k dflt).1 (l.getD (k + 1) dflt).1 = z) := by show _ = _; rw [gp, gq]; exact hz0
      obtain ⟨p0, p1, p2, p3⟩ := cp
      obtain ⟨q0, q1, q2, q3⟩ := cq
      clear mp mq gp gq hpe hqe hz0 hk0
      have w1 : IntKind.i64.wrap ((k : Int) + 1 - 1) = (k : Int) := by rw [show (k : Int) + 1 - 1 = (k : Int) by omega]; exact IntWalk.i64_in _ (by omega)
      have w3 : (k : Int) + 1 - 1 = (k : Int) := by omega
      have w4 : IntKind.i64.wrap (k : Int) = (k : Int) := IntWalk.i64_in _ (by omega)
      have w5 : -9223372036854775808 ≤ (k : Int) + 1 + 1 := by omega
      have w6 : (k : Int) + 1 + 1 ≤ 9223372036854775807 := by omega
      have hS0 : Below wr.heap.size wr wr.drew := (Below.refl _ _).drew
      have HS : Hid (∀ w', Below wr.heap.size wr w' → (fun w' => Below wr.heap.size wr w' ∧ w'.cell? ⟨b, off + k * 4, none⟩ = some (.int .i64 tp.kind) ∧ w'.cell? ⟨b, off + k * 4 + 1, none⟩ = some (.int .i64 tp.num) ∧ w'.cell? ⟨b, off + k * 4 + 2, none⟩ = some (.string tp.name) ∧ w'.cell? ⟨b, off + k * 4 + 3, none⟩ = some (.slice pa tp.args.length pc) ∧ w'.cell? ⟨b, off + (k + 1) * 4, none⟩ = some (.int .i64 tq.kind) ∧ w'.cell? ⟨b, off + (k + 1) * 4 + 1, none⟩ = some (.int .i64 tq.num) ∧ w'.cell? ⟨b, off + (k + 1) * 4 + 2, none⟩ = some (.string tq.name) ∧ w'.cell? ⟨b, off + (k + 1) * 4 + 3, none⟩ = some (.slice qa tq.args.length qc)) w') := fun w' h => ⟨h, cell_below h _ _ p0, cell_below h _ _ p1, cell_below h _ _ p2, cell_below h _ _ p3, cell_below h _ _ q0, cell_below h _ _ q1, cell_below h _ _ q2, cell_below h _ _ q3⟩
      by_cases hzn : z < 0
      · have e1 : decide (0 ≤ z) = false := by simp; omega
        go_wp2_with fail
        go_region_held3 (fun w' => Below wr.heap.size wr w' ∧ w'.cell? ⟨b, off + k * 4, none⟩ = some (.int .i64 tp.kind) ∧ w'.cell? ⟨b, off + k * 4 + 1, none⟩ = some (.int .i64 tp.num) ∧ w'.cell? ⟨b, off + k * 4 + 2, none⟩ = some (.string tp.name) ∧ w'.cell? ⟨b, off + k * 4 + 3, none⟩ = some (.slice pa tp.args.length pc) ∧ w'.cell? ⟨b, off + (k + 1) * 4, none⟩ = some (.int .i64 tq.kind) ∧ w'.cell? ⟨b, off + (k + 1) * 4 + 1, none⟩ = some (.int .i64 tq.num) ∧ w'.cell? ⟨b, off + (k + 1) * 4 + 2, none⟩ = some (.string tq.name) ∧ w'.cell? ⟨b, off + (k + 1) * 4 + 3, none⟩ = some (.slice qa tq.args.length qc))
          (first | exact HS.out _ h5 | exact HS.out _ hS0 | assumption | go_keep)
          (first
            | (go_at_call 37; refine (HCC.out _ (by assumption : Below wr.heap.size wr _)).mono ?_; rintro e w4 ⟨rfl, hb4⟩; have h5 : Below wr.heap.size wr w4 := Below.trans (by assumption : Below wr.heap.size wr _) (hb4.mono (Below.size (by assumption : Below wr.heap.size wr _)))))
        have H5 := Lib.hid h5
        clear p0 p1 p2 p3 q0 q1 q2 q3 h5 hS0 HS
        go_wp2_with fail
        go_roundw
        case rel =>
          refine ⟨k + 1, by go_num, .inr (by omega), Lib.hid (hb.out.trans (H5.out.mono hb.out.size)), Lib.hid (fun i hi => ?_)⟩
          by_cases e : i = k
          · subst e; rw [HG.out]; exact hzn
          · exact hz.out i (by omega)
        case measure => simp [intOf]; omega
      · have e1 : decide (0 ≤ z) = true := by simp; omega
        have HE : Hid (R = false) := by
          show _ = _
          rw [← HRR.out]
          rw [← Bool.not_eq_true, incB_iff]
          intro h
          have := h k hk1
          rw [HG.out] at this
          exact hzn this
        go_wp2_with fail
        go_region_held3 (fun w' => Below wr.heap.size wr w' ∧ w'.cell? ⟨b, off + k * 4, none⟩ = some (.int .i64 tp.kind) ∧ w'.cell? ⟨b, off + k * 4 + 1, none⟩ = some (.int .i64 tp.num) ∧ w'.cell? ⟨b, off + k * 4 + 2, none⟩ = some (.string tp.name) ∧ w'.cell? ⟨b, off + k * 4 + 3, none⟩ = some (.slice pa tp.args.length pc) ∧ w'.cell? ⟨b, off + (k + 1) * 4, none⟩ = some (.int .i64 tq.kind) ∧ w'.cell? ⟨b, off + (k + 1) * 4 + 1, none⟩ = some (.int .i64 tq.num) ∧ w'.cell? ⟨b, off + (k + 1) * 4 + 2, none⟩ = some (.string tq.name) ∧ w'.cell? ⟨b, off + (k + 1) * 4 + 3, none⟩ = some (.slice qa tq.args.length qc))
          (first | exact HS.out _ h5 | exact HS.out _ hS0 | assumption | go_keep)
          (first
            | (go_at_call 37; refine (HCC.out _ (by assumption : Below wr.heap.size wr _)).mono ?_; rintro e w4 ⟨rfl, hb4⟩; have h5 : Below wr.heap.size wr w4 := Below.trans (by assumption : Below wr.heap.size wr _) (hb4.mono (Below.size (by assumption : Below wr.heap.size wr _)))))
        have H5 := Lib.hid h5
        clear p0 p1 p2 p3 q0 q1 q2 q3 h5 hS0 HS
        go_wp2_with fail
        go_ret
        exact ⟨ret_bool HE.out.symm, hb.out.trans (H5.out.mono hb.out.size)⟩
    · have d1 : decide ((k : Int) + 1 < (n : Int)) = false := by simp; omega
      have HE : Hid (R = true) := by
        show _ = _
        rw [← HRR.out]
        rw [incB_iff]
        intro i hi
        exact hz.out i (by have := HN.out; omega)
      have b1 : ¬ (k : Int) + 1 < (n : Int) := by omega
      go_wp2_with fail
      go_ret
      exact ⟨ret_bool HE.out.symm, hb.out⟩

end Go.Proofs.YtehnhjhflaljhaaDoor

/- The binary search over a row of terms. -/
namespace Go.Proofs.YtehnhjhflaljhaaDoor
open Go.RowKit Go.Proofs.HT

theorem inc_lt (l : List PV) (h : incB l = true) (i : Nat) : ∀ d, i + d + 1 < l.length → cT (l.getD i dflt).1 (l.getD (i + d + 1) dflt).1 < 0
  | 0, hd => (incB_iff l).1 h i (by omega)
  | d + 1, hd => by
    have h1 := inc_lt l h i d (by omega)
    have h2 := (incB_iff l).1 h (i + d + 1) (by omega)
    exact cT_lt (by omega) h2
theorem inc_le (l : List PV) (h : incB l = true) (i j : Nat) (hij : i ≤ j) (hj : j < l.length) : cT (l.getD i dflt).1 (l.getD j dflt).1 ≤ 0 := by
  by_cases e : i = j
  · subst e; rw [cT_self]; omega
  · have := inc_lt l h i (j - i - 1) (by omega)
    rw [show i + (j - i - 1) + 1 = j by omega] at this
    omega
/-- What the search returns: where the elements that come before t end, and whether t stands there. -/
def BsIs (l : List PV) (t : Tm) (r : Nat) (ok : Bool) : Prop := r ≤ l.length ∧ (∀ k, k < r → cT (l.getD k dflt).1 t < 0) ∧ (∀ k, r ≤ k → k < l.length → 0 ≤ cT (l.getD k dflt).1 t) ∧ ok = decide (r < l.length ∧ cT (l.getD r dflt).1 t = 0)
def BsEnd (l : List PV) (t : Tm) (w : World) (e : Ending) (w' : World) : Prop := ∃ (r : Nat) (ok : Bool), e = .returned (.tuple #[.int .i64 r, .bool ok]) ∧ BsIs l t r ok ∧ Below w.heap.size w w'
def BoxIn (w : World) (g : Nat) (t : Tm) (va : Option Addr) (vc : Nat) : Prop := w.cell? ⟨g, 0, none⟩ = some (.int .i64 t.kind) ∧ w.cell? ⟨g, 1, none⟩ = some (.int .i64 t.num) ∧ w.cell? ⟨g, 2, none⟩ = some (.string t.name) ∧ w.cell? ⟨g, 3, none⟩ = some (.slice va t.args.length vc)
theorem BoxIn.below {w w' : World} {g : Nat} {t : Tm} {va : Option Addr} {vc : Nat} (h : BoxIn w g t va vc) (hb : Below w.heap.size w w') : BoxIn w' g t va vc := ⟨cell_below hb _ _ h.1, cell_below hb _ _ h.2.1, cell_below hb _ _ h.2.2.1, cell_below hb _ _ h.2.2.2⟩

set_option maxHeartbeats 4000000 in
theorem bs_any (b off n cap : Nat) (l : List PV) (t : Tm) (v : Value) (w : World) (hn : l.length = n) (hn2 : n ≤ 1000000) (_hcap : n ≤ cap) (hrow : RowIn w b off l) (hl : ∀ p ∈ l, LiesT w p.1 p.2 ∧ nodesB p.1 = true) (hp : Places w) (ht : LiesT w t v) (htn : nodesB t = true) (hinc : incB l = true) :
    Calls Tryd.prog 52 #[.slice (some ⟨b, off, none⟩) n cap, tv t v, .func (.func 37) #[] #[]] w (BsEnd l t w) := by
  obtain ⟨va, vc, rfl⟩ : ∃ a c, v = .slice a t.args.length c := ht.slice
  have HN := Lib.hid hn
  have HL := Lib.hid hl
  have HR := Lib.hid hrow
  have HP := Lib.hid hp
  have HT := Lib.hid ht
  have HTN := Lib.hid htn
  have HI := Lib.hid hinc
  have HB0 : Hid (Below w.heap.size w (w.alloc (.cells #[.int .i64 t.kind, .int .i64 t.num, .string t.name, .slice va t.args.length vc] 24))) := (Below.refl _ _).alloc (Nat.le_refl _) _
  have HX0 : Hid (BoxIn (w.alloc (.cells #[.int .i64 t.kind, .int .i64 t.num, .string t.name, .slice va t.args.length vc] 24)) w.heap.size t va vc) := Lib.hid ⟨by rw [cell_of_row _ _ _ _ _ _ (heap_alloc_new _ _)]; rfl, by rw [cell_of_row _ _ _ _ _ _ (heap_alloc_new _ _)]; rfl, by rw [cell_of_row _ _ _ _ _ _ (heap_alloc_new _ _)]; rfl, by rw [cell_of_row _ _ _ _ _ _ (heap_alloc_new _ _)]; rfl⟩
  clear hn hl hrow hp ht htn hinc
  simp only [tv]
  go_enter Tryd.func52, Tryd.ntmps52
  go_wp2_with fail
  go_loopw [9, 10] (fun vi vj wr => ∃ i j : Nat, i ≤ j ∧ j ≤ n ∧ vi = .int .i64 i ∧ vj = .int .i64 j ∧ Hid (Below w.heap.size w wr) ∧ Hid (BoxIn wr w.heap.size t va vc) ∧ Hid ((∀ k, k < i → cT (l.getD k dflt).1 t < 0) ∧ ∀ k, j ≤ k → k < l.length → 0 ≤ cT (l.getD k dflt).1 t)) (fun vi vj _ => (intOf vj).toNat - (intOf vi).toNat)
  case atStart => exact ⟨0, n, by omega, by omega, rfl, rfl, HB0, HX0, Lib.hid ⟨fun _ h => by omega, fun k h1 h2 => by have := HN.out; omega⟩⟩
  case round =>
    obtain ⟨i, j, hij, hj, rfl, rfl, hb, hbx, hI⟩ := hrel
    by_cases hlt : i < j
    · obtain ⟨h, hh⟩ : ∃ h : Nat, h = (i + j) / 2 := ⟨_, rfl⟩
      have hX : ((i : Int) + (j : Int)) / 2 = (h : Int) := by omega
      have hhi : i ≤ h := by omega
      have hhj : h < j := by omega
      have HH2 := Lib.hid hh
      clear hh
      have hk0 : h < l.length := by have := HN.out; omega
      have cp := (HR.out.below hb.out).at (h) hk0
      have mp := HL.out _ (List.getElem_mem hk0)
      have gp := getD_at l (h) hk0
      obtain ⟨pp, hpe⟩ : ∃ p, l[h] = p := ⟨_, rfl⟩
      rw [hpe] at cp mp gp
      obtain ⟨tp, vp⟩ := pp
      obtain ⟨pa, pc, ev⟩ := mp.1.slice
      obtain rfl : vp = .slice pa tp.args.length pc := ev
      obtain ⟨z, hz0⟩ : ∃ z, cT tp t = z := ⟨_, rfl⟩
      have HCC : Hid (∀ w', Below wr.heap.size wr w' → Calls Tryd.prog 37 #[tv tp (.slice pa tp.args.length pc), tv t (.slice va t.args.length vc)] w' fun e w'' => e = .returned (.int .i64 z) ∧ Below w'.heap.size w' w'') := fun w' h => by
        rw [← hz0]
        have hb3 := hb.out.trans (h.mono hb.out.size)
        exact compare_any tp t _ _ w' (mp.1.below hb3) (HT.out.below hb3) mp.2 HTN.out (HP.out.below hb3)
      have HG : Hid (cT (l.getD (h) dflt).1 t = z) := by show _ = _; rw [gp]; exact hz0
      obtain ⟨p0, p1, p2, p3⟩ := cp
      obtain ⟨q0, q1, q2, q3⟩ := hbx.out
      clear mp gp hpe hz0 hk0
      have hS0 : Below wr.heap.size wr wr.drew := (Below.refl _ _).drew
      have HS : Hid (∀ w', Below wr.heap.size wr w' → (fun w' => Below wr.heap.size wr w' ∧ w'.cell? ⟨b, off + h * 4, none⟩ = some (.int .i64 tp.kind) ∧ w'.cell? ⟨b, off + h * 4 + 1, none⟩ = some (.int .i64 tp.num) ∧ w'.cell? ⟨b, off + h * 4 + 2, none⟩ = some (.string tp.name) ∧ w'.cell? ⟨b, off + h * 4 + 3, none⟩ = some (.slice pa tp.args.length pc) ∧ w'.cell? ⟨w.heap.size, 0, none⟩ = some (.int .i64 t.kind) ∧ w'.cell? ⟨w.heap.size, 1, none⟩ = some (.int .i64 t.num) ∧ w'.cell? ⟨w.heap.size, 2, none⟩ = some (.string t.name) ∧ w'.cell? ⟨w.heap.size, 3, none⟩ = some (.slice va t.args.length vc)) w') := fun w' h => ⟨h, cell_below h _ _ p0, cell_below h _ _ p1, cell_below h _ _ p2, cell_below h _ _ p3, cell_below h _ _ q0, cell_below h _ _ q1, cell_below h _ _ q2, cell_below h _ _ q3⟩
      have b1 : (h : Int) < (n : Int) := by omega
      by_cases hzn : z < 0
      · have e1 : decide (z < 0) = true := by simpa using hzn
        go_wp2_with fail
        go_region_held3 (fun w' => Below wr.heap.size wr w' ∧ w'.cell? ⟨b, off + h * 4, none⟩ = some (.int .i64 tp.kind) ∧ w'.cell? ⟨b, off + h * 4 + 1, none⟩ = some (.int .i64 tp.num) ∧ w'.cell? ⟨b, off + h * 4 + 2, none⟩ = some (.string tp.name) ∧ w'.cell? ⟨b, off + h * 4 + 3, none⟩ = some (.slice pa tp.args.length pc) ∧ w'.cell? ⟨w.heap.size, 0, none⟩ = some (.int .i64 t.kind) ∧ w'.cell? ⟨w.heap.size, 1, none⟩ = some (.int .i64 t.num) ∧ w'.cell? ⟨w.heap.size, 2, none⟩ = some (.string t.name) ∧ w'.cell? ⟨w.heap.size, 3, none⟩ = some (.slice va t.args.length vc))
          (first | exact HS.out _ h5 | exact HS.out _ hS0 | assumption | go_keep)
          (first
            | (go_at_call 37; refine (HCC.out _ (by assumption : Below wr.heap.size wr _)).mono ?_; rintro e w4 ⟨rfl, hb4⟩; have h5 : Below wr.heap.size wr w4 := Below.trans (by assumption : Below wr.heap.size wr _) (hb4.mono (Below.size (by assumption : Below wr.heap.size wr _)))))
        have H5 := Lib.hid h5
        have BX5 : Hid (BoxIn w4 w.heap.size t va vc) := Lib.hid ⟨cell_below h5 _ _ q0, cell_below h5 _ _ q1, cell_below h5 _ _ q2, cell_below h5 _ _ q3⟩
        clear p0 p1 p2 p3 q0 q1 q2 q3 h5 hS0 HS
        go_wp2_with fail
        go_roundw
        case rel =>
          refine ⟨h + 1, j, by omega, by omega, by go_num, rfl, Lib.hid (hb.out.trans (H5.out.mono hb.out.size)), BX5, Lib.hid ⟨fun k hk => ?_, hI.out.2⟩⟩
          have h1 := inc_le l HI.out k h (by omega) (by have := HN.out; omega)
          exact cT_lt h1 (by rw [HG.out]; exact hzn)
        case measure => simp [intOf]; omega
      · have e1 : decide (z < 0) = false := by simpa using hzn
        go_wp2_with fail
        go_region_held3 (fun w' => Below wr.heap.size wr w' ∧ w'.cell? ⟨b, off + h * 4, none⟩ = some (.int .i64 tp.kind) ∧ w'.cell? ⟨b, off + h * 4 + 1, none⟩ = some (.int .i64 tp.num) ∧ w'.cell? ⟨b, off + h * 4 + 2, none⟩ = some (.string tp.name) ∧ w'.cell? ⟨b, off + h * 4 + 3, none⟩ = some (.slice pa tp.args.length pc) ∧ w'.cell? ⟨w.heap.size, 0, none⟩ = some (.int .i64 t.kind) ∧ w'.cell? ⟨w.heap.size, 1, none⟩ = some (.int .i64 t.num) ∧ w'.cell? ⟨w.heap.size, 2, none⟩ = some (.string t.name) ∧ w'.cell? ⟨w.heap.size, 3, none⟩ = some (.slice va t.args.length vc))
          (first | exact HS.out _ h5 | exact HS.out _ hS0 | assumption | go_keep)
          (first
            | (go_at_call 37; refine (HCC.out _ (by assumption : Below wr.heap.size wr _)).mono ?_; rintro e w4 ⟨rfl, hb4⟩; have h5 : Below wr.heap.size wr w4 := Below.trans (by assumption : Below wr.heap.size wr _) (hb4.mono (Below.size (by assumption : Below wr.heap.size wr _)))))
        have H5 := Lib.hid h5
        have BX5 : Hid (BoxIn w4 w.heap.size t va vc) := Lib.hid ⟨cell_below h5 _ _ q0, cell_below h5 _ _ q1, cell_below h5 _ _ q2, cell_below h5 _ _ q3⟩
        clear p0 p1 p2 p3 q0 q1 q2 q3 h5 hS0 HS
        go_wp2_with fail
        go_roundw
        case rel =>
          refine ⟨i, h, by omega, by omega, rfl, by go_num, Lib.hid (hb.out.trans (H5.out.mono hb.out.size)), BX5, Lib.hid ⟨hI.out.1, fun k hk hkl => ?_⟩⟩
          have h1 := inc_le l HI.out h k (by omega) hkl
          have hG := HG.out
          by_cases h2 : cT (l.getD k dflt).1 t < 0
          · have h3 := cT_lt h1 h2
            omega
          · omega
        case measure => simp [intOf]; omega
    · obtain rfl : i = j := by omega
      by_cases hin : i < n
      · have hk0 : i < l.length := by have := HN.out; omega
        have cp := (HR.out.below hb.out).at (i) hk0
        have mp := HL.out _ (List.getElem_mem hk0)
        have gp := getD_at l (i) hk0
        obtain ⟨pp, hpe⟩ : ∃ p, l[i] = p := ⟨_, rfl⟩
        rw [hpe] at cp mp gp
        obtain ⟨tp, vp⟩ := pp
        obtain ⟨pa, pc, ev⟩ := mp.1.slice
        obtain rfl : vp = .slice pa tp.args.length pc := ev
        obtain ⟨z, hz0⟩ : ∃ z, cT tp t = z := ⟨_, rfl⟩
        have HCC : Hid (∀ w', Below wr.heap.size wr w' → Calls Tryd.prog 37 #[tv tp (.slice pa tp.args.length pc), tv t (.slice va t.args.length vc)] w' fun e w'' => e = .returned (.int .i64 z) ∧ Below w'.heap.size w' w'') := fun w' h => by
          rw [← hz0]
          have hb3 := hb.out.trans (h.mono hb.out.size)
          exact compare_any tp t _ _ w' (mp.1.below hb3) (HT.out.below hb3) mp.2 HTN.out (HP.out.below hb3)
        have HG : Hid (cT (l.getD (i) dflt).1 t = z) := by show _ = _; rw [gp]; exact hz0
        obtain ⟨p0, p1, p2, p3⟩ := cp
        obtain ⟨q0, q1, q2, q3⟩ := hbx.out
        clear mp gp hpe hz0 hk0
        have hS0 : Below wr.heap.size wr wr.drew := (Below.refl _ _).drew
        have HS : Hid (∀ w', Below wr.heap.size wr w' → (fun w' => Below wr.heap.size wr w' ∧ w'.cell? ⟨b, off + i * 4, none⟩ = some (.int .i64 tp.kind) ∧ w'.cell? ⟨b, off + i * 4 + 1, none⟩ = some (.int .i64 tp.num) ∧ w'.cell? ⟨b, off + i * 4 + 2, none⟩ = some (.string tp.name) ∧ w'.cell? ⟨b, off + i * 4 + 3, none⟩ = some (.slice pa tp.args.length pc) ∧ w'.cell? ⟨w.heap.size, 0, none⟩ = some (.int .i64 t.kind) ∧ w'.cell? ⟨w.heap.size, 1, none⟩ = some (.int .i64 t.num) ∧ w'.cell? ⟨w.heap.size, 2, none⟩ = some (.string t.name) ∧ w'.cell? ⟨w.heap.size, 3, none⟩ = some (.slice va t.args.length vc)) w') := fun w' h => ⟨h, cell_below h _ _ p0, cell_below h _ _ p1, cell_below h _ _ p2, cell_below h _ _ p3, cell_below h _ _ q0, cell_below h _ _ q1, cell_below h _ _ q2, cell_below h _ _ q3⟩
        have b1 : (i : Int) < (n : Int) := by omega
        have d1 : decide ((i : Int) < (n : Int)) = true := by simp; omega
        rcases zero_cases z with rfl | ⟨z1, z2⟩
        · go_wp2_with fail
          go_region_held3 (fun w' => Below wr.heap.size wr w' ∧ w'.cell? ⟨b, off + i * 4, none⟩ = some (.int .i64 tp.kind) ∧ w'.cell? ⟨b, off + i * 4 + 1, none⟩ = some (.int .i64 tp.num) ∧ w'.cell? ⟨b, off + i * 4 + 2, none⟩ = some (.string tp.name) ∧ w'.cell? ⟨b, off + i * 4 + 3, none⟩ = some (.slice pa tp.args.length pc) ∧ w'.cell? ⟨w.heap.size, 0, none⟩ = some (.int .i64 t.kind) ∧ w'.cell? ⟨w.heap.size, 1, none⟩ = some (.int .i64 t.num) ∧ w'.cell? ⟨w.heap.size, 2, none⟩ = some (.string t.name) ∧ w'.cell? ⟨w.heap.size, 3, none⟩ = some (.slice va t.args.length vc))
            (first | exact HS.out _ h5 | exact HS.out _ hS0 | assumption | go_keep)
            (first
              | (go_at_call 37; refine (HCC.out _ (by assumption : Below wr.heap.size wr _)).mono ?_; rintro e w4 ⟨rfl, hb4⟩; have h5 : Below wr.heap.size wr w4 := Below.trans (by assumption : Below wr.heap.size wr _) (hb4.mono (Below.size (by assumption : Below wr.heap.size wr _)))))
          have H5 := Lib.hid h5
          have BX5 : Hid (BoxIn w4 w.heap.size t va vc) := Lib.hid ⟨cell_below h5 _ _ q0, cell_below h5 _ _ q1, cell_below h5 _ _ q2, cell_below h5 _ _ q3⟩
          clear p0 p1 p2 p3 q0 q1 q2 q3 h5 hS0 HS
          go_wp2_with fail
          go_ret2
          exact ⟨i, true, rfl, ⟨by have := HN.out; omega, hI.out.1, hI.out.2, by rw [HG.out]; simp; have := HN.out; omega⟩, hb.out.trans (H5.out.mono hb.out.size)⟩
        · go_wp2_with fail
          go_region_held3 (fun w' => Below wr.heap.size wr w' ∧ w'.cell? ⟨b, off + i * 4, none⟩ = some (.int .i64 tp.kind) ∧ w'.cell? ⟨b, off + i * 4 + 1, none⟩ = some (.int .i64 tp.num) ∧ w'.cell? ⟨b, off + i * 4 + 2, none⟩ = some (.string tp.name) ∧ w'.cell? ⟨b, off + i * 4 + 3, none⟩ = some (.slice pa tp.args.length pc) ∧ w'.cell? ⟨w.heap.size, 0, none⟩ = some (.int .i64 t.kind) ∧ w'.cell? ⟨w.heap.size, 1, none⟩ = some (.int .i64 t.num) ∧ w'.cell? ⟨w.heap.size, 2, none⟩ = some (.string t.name) ∧ w'.cell? ⟨w.heap.size, 3, none⟩ = some (.slice va t.args.length vc))
            (first | exact HS.out _ h5 | exact HS.out _ hS0 | assumption | go_keep)
            (first
              | (go_at_call 37; refine (HCC.out _ (by assumption : Below wr.heap.size wr _)).mono ?_; rintro e w4 ⟨rfl, hb4⟩; have h5 : Below wr.heap.size wr w4 := Below.trans (by assumption : Below wr.heap.size wr _) (hb4.mono (Below.size (by assumption : Below wr.heap.size wr _)))))
          have H5 := Lib.hid h5
          have BX5 : Hid (BoxIn w4 w.heap.size t va vc) := Lib.hid ⟨cell_below h5 _ _ q0, cell_below h5 _ _ q1, cell_below h5 _ _ q2, cell_below h5 _ _ q3⟩
          clear p0 p1 p2 p3 q0 q1 q2 q3 h5 hS0 HS
          go_wp2_with fail
          go_ret2
          exact ⟨i, false, rfl, ⟨by have := HN.out; omega, hI.out.1, hI.out.2, by rw [HG.out]; simp; intro _; simpa using z1⟩, hb.out.trans (H5.out.mono hb.out.size)⟩
      · have d1 : decide ((i : Int) < (n : Int)) = false := by simp; omega
        have d2 : decide (i < n) = false := by simp; omega
        go_wp2_with fail
        go_quiet (fail)
        go_wp2_with fail
        go_ret2
        exact ⟨i, false, rfl, ⟨by have := HN.out; omega, hI.out.1, hI.out.2, by have := HN.out; simp; omega⟩, below_drewN hb.out _⟩

end Go.Proofs.YtehnhjhflaljhaaDoor

/- Rank. -/
namespace Go.Proofs.YtehnhjhflaljhaaDoor
open Go.RowKit Go.Proofs.HT

def RankNo (w : World) (e : Ending) (w' : World) : Prop := e = .returned (.tuple #[.int .i64 0, .bool false]) ∧ Below w.heap.size w w'

set_option maxHeartbeats 2000000 in
theorem rank_no1 (b off n cap : Nat) (l : List PV) (t : Tm) (v : Value) (w : World) (hn : l.length = n) (_hn2 : n ≤ 1000000) (_hcap : n ≤ cap) (hrow : RowIn w b off l) (hl : ∀ p ∈ l, LiesT w p.1 p.2) (hp : Places w) (ht : LiesT w t v) (hv : validB t = false) :
    Calls Tryd.prog 26 #[.slice (some ⟨b, off, none⟩) n cap, tv t v] w (RankNo w) := by
  have HL := Lib.hid hl
  have HR := Lib.hid hrow
  have HP := Lib.hid hp
  have HT := Lib.hid ht
  have HN := Lib.hid hn
  have HB0 : Hid (Below w.heap.size w (w.alloc (.cells #[.int .i64 t.kind, .int .i64 t.num, .string t.name, v] 24))) := (Below.refl _ _).alloc (Nat.le_refl _) _
  have HX0 := Lib.hid (heap_alloc_new w (.cells #[.int .i64 t.kind, .int .i64 t.num, .string t.name, v] 24))
  have HV := Lib.hid hv
  clear hv
  clear hn hl hrow hp ht
  simp only [tv]
  go_enter Tryd.func26, Tryd.ntmps26
  go_wp2_with fail
  refine (Valid_any t v _ (HT.out.below HB0.out)).mono ?_
  rintro e w1 ⟨rfl, hb1⟩
  rw [HV.out]
  have B1 := Lib.hid (HB0.out.trans (hb1.mono HB0.out.size))
  have K1 := Lib.hid ((hb1.block w.heap.size (by simp)).trans HX0.out)
  clear hb1
  go_wp2_with fail
  go_ret2
  exact ⟨rfl, B1.out⟩

set_option maxHeartbeats 2000000 in
theorem rank_no2 (b off n cap : Nat) (l : List PV) (t : Tm) (v : Value) (w : World) (hn : l.length = n) (hn2 : n ≤ 1000000) (hcap : n ≤ cap) (hrow : RowIn w b off l) (hl : ∀ p ∈ l, LiesT w p.1 p.2) (hp : Places w) (ht : LiesT w t v) (hv : validB t = true) (ha : (l.all fun p => validB p.1) = false) :
    Calls Tryd.prog 26 #[.slice (some ⟨b, off, none⟩) n cap, tv t v] w (RankNo w) := by
  have HL := Lib.hid hl
  have HR := Lib.hid hrow
  have HP := Lib.hid hp
  have HT := Lib.hid ht
  have HN := Lib.hid hn
  have HB0 : Hid (Below w.heap.size w (w.alloc (.cells #[.int .i64 t.kind, .int .i64 t.num, .string t.name, v] 24))) := (Below.refl _ _).alloc (Nat.le_refl _) _
  have HX0 := Lib.hid (heap_alloc_new w (.cells #[.int .i64 t.kind, .int .i64 t.num, .string t.name, v] 24))
  have HV := Lib.hid hv
  have HA := Lib.hid ha
  clear hv ha
  clear hn hl hrow hp ht
  simp only [tv]
  go_enter Tryd.func26, Tryd.ntmps26
  go_wp2_with fail
  refine (Valid_any t v _ (HT.out.below HB0.out)).mono ?_
  rintro e w1 ⟨rfl, hb1⟩
  rw [HV.out]
  have B1 := Lib.hid (HB0.out.trans (hb1.mono HB0.out.size))
  have K1 := Lib.hid ((hb1.block w.heap.size (by simp)).trans HX0.out)
  clear hb1
  go_wp2_with fail
  refine (all_valid b off n cap l w1 HN.out hn2 hcap (HR.out.below B1.out) (fun p hp => (HL.out p hp).below B1.out)).mono ?_
  rintro e w2 ⟨rfl, hb2⟩
  rw [HA.out]
  have B2 := Lib.hid (B1.out.trans (hb2.mono B1.out.size))
  have z2 : w.heap.size < w1.heap.size := (Array.getElem?_eq_some_iff.1 K1.out).1
  have K2 := Lib.hid ((hb2.block w.heap.size z2).trans K1.out)
  clear hb2
  go_wp2_with fail
  go_ret2
  exact ⟨rfl, B2.out⟩

set_option maxHeartbeats 2000000 in
theorem rank_no3 (b off n cap : Nat) (l : List PV) (t : Tm) (v : Value) (w : World) (hn : l.length = n) (hn2 : n ≤ 1000000) (hcap : n ≤ cap) (hrow : RowIn w b off l) (hl : ∀ p ∈ l, LiesT w p.1 p.2) (hp : Places w) (ht : LiesT w t v) (hv : validB t = true) (ha : (l.all fun p => validB p.1) = true) (hi : incB l = false) :
    Calls Tryd.prog 26 #[.slice (some ⟨b, off, none⟩) n cap, tv t v] w (RankNo w) := by
  have HL := Lib.hid hl
  have HR := Lib.hid hrow
  have HP := Lib.hid hp
  have HT := Lib.hid ht
  have HN := Lib.hid hn
  have HB0 : Hid (Below w.heap.size w (w.alloc (.cells #[.int .i64 t.kind, .int .i64 t.num, .string t.name, v] 24))) := (Below.refl _ _).alloc (Nat.le_refl _) _
  have HX0 := Lib.hid (heap_alloc_new w (.cells #[.int .i64 t.kind, .int .i64 t.num, .string t.name, v] 24))
  have HNOD : Hid (∀ p ∈ l, nodesB p.1 = true) := fun p hp => val_nodes (List.all_eq_true.1 ha p hp)
  have HV := Lib.hid hv
  have HA := Lib.hid ha
  have HI := Lib.hid hi
  clear hv ha hi
  clear hn hl hrow hp ht
  simp only [tv]
  go_enter Tryd.func26, Tryd.ntmps26
  go_wp2_with fail
  refine (Valid_any t v _ (HT.out.below HB0.out)).mono ?_
  rintro e w1 ⟨rfl, hb1⟩
  rw [HV.out]
  have B1 := Lib.hid (HB0.out.trans (hb1.mono HB0.out.size))
  have K1 := Lib.hid ((hb1.block w.heap.size (by simp)).trans HX0.out)
  clear hb1
  go_wp2_with fail
  refine (all_valid b off n cap l w1 HN.out hn2 hcap (HR.out.below B1.out) (fun p hp => (HL.out p hp).below B1.out)).mono ?_
  rintro e w2 ⟨rfl, hb2⟩
  rw [HA.out]
  have B2 := Lib.hid (B1.out.trans (hb2.mono B1.out.size))
  have z2 : w.heap.size < w1.heap.size := (Array.getElem?_eq_some_iff.1 K1.out).1
  have K2 := Lib.hid ((hb2.block w.heap.size z2).trans K1.out)
  clear hb2
  go_wp2_with fail
  refine (inc_any b off n cap l w2 HN.out hn2 hcap (HR.out.below B2.out) (fun p hp => ⟨(HL.out p hp).below B2.out, HNOD.out p hp⟩) (HP.out.below B2.out)).mono ?_
  rintro e w3 ⟨rfl, hb3⟩
  rw [HI.out]
  have B3 := Lib.hid (B2.out.trans (hb3.mono B2.out.size))
  have z3 : w.heap.size < w2.heap.size := (Array.getElem?_eq_some_iff.1 K2.out).1
  have K3 := Lib.hid ((hb3.block w.heap.size z3).trans K2.out)
  clear hb3
  go_wp2_with fail
  go_ret2
  exact ⟨rfl, B3.out⟩

set_option maxHeartbeats 2000000 in
theorem rank_yes (b off n cap : Nat) (l : List PV) (t : Tm) (v : Value) (w : World) (hn : l.length = n) (hn2 : n ≤ 1000000) (hcap : n ≤ cap) (hrow : RowIn w b off l) (hl : ∀ p ∈ l, LiesT w p.1 p.2) (hp : Places w) (ht : LiesT w t v) (hv : validB t = true) (ha : (l.all fun p => validB p.1) = true) (hi : incB l = true) :
    Calls Tryd.prog 26 #[.slice (some ⟨b, off, none⟩) n cap, tv t v] w (BsEnd l t w) := by
  have HL := Lib.hid hl
  have HR := Lib.hid hrow
  have HP := Lib.hid hp
  have HT := Lib.hid ht
  have HN := Lib.hid hn
  have HB0 : Hid (Below w.heap.size w (w.alloc (.cells #[.int .i64 t.kind, .int .i64 t.num, .string t.name, v] 24))) := (Below.refl _ _).alloc (Nat.le_refl _) _
  have HX0 := Lib.hid (heap_alloc_new w (.cells #[.int .i64 t.kind, .int .i64 t.num, .string t.name, v] 24))
  have HNOD : Hid (∀ p ∈ l, nodesB p.1 = true) := fun p hp => val_nodes (List.all_eq_true.1 ha p hp)
  have HV := Lib.hid hv
  have HA := Lib.hid ha
  have HI := Lib.hid hi
  clear hv ha hi
  clear hn hl hrow hp ht
  simp only [tv]
  go_enter Tryd.func26, Tryd.ntmps26
  go_wp2_with fail
  refine (Valid_any t v _ (HT.out.below HB0.out)).mono ?_
  rintro e w1 ⟨rfl, hb1⟩
  rw [HV.out]
  have B1 := Lib.hid (HB0.out.trans (hb1.mono HB0.out.size))
  have K1 := Lib.hid ((hb1.block w.heap.size (by simp)).trans HX0.out)
  clear hb1
  go_wp2_with fail
  refine (all_valid b off n cap l w1 HN.out hn2 hcap (HR.out.below B1.out) (fun p hp => (HL.out p hp).below B1.out)).mono ?_
  rintro e w2 ⟨rfl, hb2⟩
  rw [HA.out]
  have B2 := Lib.hid (B1.out.trans (hb2.mono B1.out.size))
  have z2 : w.heap.size < w1.heap.size := (Array.getElem?_eq_some_iff.1 K1.out).1
  have K2 := Lib.hid ((hb2.block w.heap.size z2).trans K1.out)
  clear hb2
  go_wp2_with fail
  refine (inc_any b off n cap l w2 HN.out hn2 hcap (HR.out.below B2.out) (fun p hp => ⟨(HL.out p hp).below B2.out, HNOD.out p hp⟩) (HP.out.below B2.out)).mono ?_
  rintro e w3 ⟨rfl, hb3⟩
  rw [HI.out]
  have B3 := Lib.hid (B2.out.trans (hb3.mono B2.out.size))
  have z3 : w.heap.size < w2.heap.size := (Array.getElem?_eq_some_iff.1 K2.out).1
  have K3 := Lib.hid ((hb3.block w.heap.size z3).trans K2.out)
  clear hb3
  have p0 : w3.cell? ⟨w.heap.size, 0, none⟩ = some (.int .i64 t.kind) := by rw [cell_of_row _ _ _ _ _ _ K3.out]; rfl
  have p1 : w3.cell? ⟨w.heap.size, 1, none⟩ = some (.int .i64 t.num) := by rw [cell_of_row _ _ _ _ _ _ K3.out]; rfl
  have p2 : w3.cell? ⟨w.heap.size, 2, none⟩ = some (.string t.name) := by rw [cell_of_row _ _ _ _ _ _ K3.out]; rfl
  have p3 : w3.cell? ⟨w.heap.size, 3, none⟩ = some (v) := by rw [cell_of_row _ _ _ _ _ _ K3.out]; rfl
  go_wp2_with fail
  refine (bs_any b off n cap l t v w3 HN.out hn2 hcap (HR.out.below B3.out) (fun p hp => ⟨(HL.out p hp).below B3.out, HNOD.out p hp⟩) (HP.out.below B3.out) (HT.out.below B3.out) (val_nodes HV.out) HI.out).mono ?_
  rintro e w4 ⟨r, ok, rfl, hbs, hb4⟩
  have HBS := Lib.hid hbs
  clear hbs p0 p1 p2 p3
  go_wp2_with fail
  go_ret2
  exact ⟨r, ok, rfl, HBS.out, B3.out.trans (hb4.mono B3.out.size)⟩

end Go.Proofs.YtehnhjhflaljhaaDoor
