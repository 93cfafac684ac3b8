/- The specification's Rename. -/
import Derived.Test.YtdgflagafilobaaRC
import Derived.Test.YtdgflagafilobaaS10
import Derived.Test.YtdgflagafilobaaD8
namespace Go.Proofs.Ytdgflagafilobaa
open Go.RowKit Go.Proofs.HT

/-- The result of Rename and its code. -/
def renR (t : Tm) (f : Int) : Tm × Int := if validB t = true ∧ numB f = true then (if decide (0 ≤ badF f (varsF [] t) 0) = true then (z0, 2) else (mapT (sh f) t, 0)) else (z0, 1)
theorem Rename_any (t : Tm) (v : Value) (f : Int) (w : World) (h : LiesT w t v) : Calls Try.prog 14 #[tv t v, .int .i64 f] w (MadeE (renR t f).1 (renR t f).2 w) := by
  rcases Bool.eq_false_or_eq_true (validB t) with hv | hv
  · rcases Bool.eq_false_or_eq_true (numB f) with hf | hf
    · rcases Bool.eq_false_or_eq_true (decide (0 ≤ badF f (varsF [] t) 0)) with hb | hb
      · have e : renR t f = (z0, 2) := by unfold renR; rw [if_pos ⟨hv, hf⟩, if_pos hb]
        rw [e]; exact Rename_long t v f w h hv hf hb
      · have e : renR t f = (mapT (sh f) t, 0) := by unfold renR; rw [if_pos ⟨hv, hf⟩, if_neg (by rw [hb]; simp)]
        rw [e]; exact Rename_yes t v f w h hv hf hb
    · have e : renR t f = (z0, 1) := by unfold renR; rw [if_neg (by rw [hf]; simp)]
      rw [e]; exact Rename_number t v f w h hv hf
  · have e : renR t f = (z0, 1) := by unfold renR; rw [if_neg (by rw [hv]; simp)]
    rw [e]; exact Rename_invalid t v f w h hv

/-- Two new boxes of four cells: what there is, and what is kept. -/
theorem boxes2 {w : World} {t : Tm} {v : Value} (h : LiesT w t v) (o1 o2 : Obj) : LiesT ((w.alloc o1).alloc o2) t v ∧ Below w.heap.size w ((w.alloc o1).alloc o2) ∧ ((w.alloc o1).alloc o2).heap[w.heap.size]? = some o1 ∧ ((w.alloc o1).alloc o2).heap[w.heap.size + 1]? = some o2 := by
  have hb : Below w.heap.size w ((w.alloc o1).alloc o2) := ((Below.refl w.heap.size w).alloc (Nat.le_refl _) _).alloc (by simp) _
  exact ⟨h.below hb, hb, by rw [Below.heap_alloc _ _ _ (by simp), heap_alloc_new], by have h := heap_alloc_new (w.alloc o1) o2; simpa using h⟩

set_option maxHeartbeats 2000000 in
theorem rename_bad (t : Tm) (v : Value) (f : Int) (w : World) (h : LiesT w t v) (hval : validB t = false) : Calls Try.prog 15 #[tv t v, .int .i64 f] w (MadeE z0 1 w) := by
  have HX := Lib.hid (fun o1 o2 => boxes2 h o1 o2)
  have HVL := Lib.hid hval
  clear h hval
  simp only [tv]
  go_enter Try.func15, Try.ntmps15
  go_wp2_with fail
  refine (valid_is t v false HVL.out _ (HX.out _ _).1).mono ?_
  rintro e w1 ⟨rfl, hb1⟩
  have z1 : w.heap.size + 2 ≤ w1.heap.size := by have := hb1.size; simp at this; omega
  have K0 := Lib.hid ((hb1.block w.heap.size (by simp <;> omega)).trans (HX.out _ _).2.2.1)
  have K1 := Lib.hid ((hb1.block (w.heap.size + 1) (by simp)).trans (HX.out _ _).2.2.2)
  have B1 := Lib.hid ((HX.out _ _).2.1.trans (hb1.mono (by simp <;> omega)))
  clear hb1
  have c0 : w1.cell? ⟨w.heap.size + 1, 0, none⟩ = some (.int .i64 0) := by rw [cell_of_row _ _ _ _ _ _ K1.out]; rfl
  have c1 : w1.cell? ⟨w.heap.size + 1, 1, none⟩ = some (.int .i64 0) := by rw [cell_of_row _ _ _ _ _ _ K1.out]; rfl
  have c2 : w1.cell? ⟨w.heap.size + 1, 2, none⟩ = some (.string ⟨#[]⟩) := by rw [cell_of_row _ _ _ _ _ _ K1.out]; rfl
  have c3 : w1.cell? ⟨w.heap.size + 1, 3, none⟩ = some (.slice none 0 0) := by rw [cell_of_row _ _ _ _ _ _ K1.out]; rfl
  have cf0 := frozen_of_row _ _ 0 _ _ K1.out
  have cf1 := frozen_of_row _ _ 1 _ _ K1.out
  have cf2 := frozen_of_row _ _ 2 _ _ K1.out
  have cf3 := frozen_of_row _ _ 3 _ _ K1.out
  go_wp2_with fail
  have FO := four K1.out (.int .i64 0) (.int .i64 0) (.string ⟨#[]⟩) (.slice none 0 0)
  have PE := FO.2.2.2 _ _ (by omega) B1.out
  generalize (((w1.setCell ⟨w.heap.size + 1, 0, none⟩ (.int .i64 0)).setCell ⟨w.heap.size + 1, 1, none⟩ (.int .i64 0)).setCell ⟨w.heap.size + 1, 2, none⟩ (.string ⟨#[]⟩)).setCell ⟨w.heap.size + 1, 3, none⟩ (.slice none 0 0) = W3 at *
  have k0 : W3.cell? ⟨w.heap.size + 1, 0, none⟩ = some (.int .i64 0) := by rw [cell_of_row _ _ _ _ _ _ FO.1]; rfl
  have k1 : W3.cell? ⟨w.heap.size + 1, 1, none⟩ = some (.int .i64 0) := by rw [cell_of_row _ _ _ _ _ _ FO.1]; rfl
  have k2 : W3.cell? ⟨w.heap.size + 1, 2, none⟩ = some (.string ⟨#[]⟩) := by rw [cell_of_row _ _ _ _ _ _ FO.1]; rfl
  have k3 : W3.cell? ⟨w.heap.size + 1, 3, none⟩ = some (.slice none 0 0) := by rw [cell_of_row _ _ _ _ _ _ FO.1]; rfl
  exact bodyPost_ret (v := .tuple #[zv, .int .i64 1]) (by simp [results, Try.results15, go_sem, k0, k1, k2, k3]) rfl ⟨.slice none 0 0, rfl, zero_own, PE⟩

set_option maxHeartbeats 2000000 in
theorem rename_low (t : Tm) (v : Value) (f : Int) (w : World) (h : LiesT w t v) (hval : validB t = true) (h0 : f < 0) : Calls Try.prog 15 #[tv t v, .int .i64 f] w (MadeE z0 1 w) := by
  have e0 : decide (f < 0) = true := by simpa using h0
  have HX := Lib.hid (fun o1 o2 => boxes2 h o1 o2)
  have HVL := Lib.hid hval
  clear h hval
  simp only [tv]
  go_enter Try.func15, Try.ntmps15
  go_wp2_with fail
  refine (valid_is t v true HVL.out _ (HX.out _ _).1).mono ?_
  rintro e w1 ⟨rfl, hb1⟩
  have z1 : w.heap.size + 2 ≤ w1.heap.size := by have := hb1.size; simp at this; omega
  have K0 := Lib.hid ((hb1.block w.heap.size (by simp <;> omega)).trans (HX.out _ _).2.2.1)
  have K1 := Lib.hid ((hb1.block (w.heap.size + 1) (by simp)).trans (HX.out _ _).2.2.2)
  have B1 := Lib.hid ((HX.out _ _).2.1.trans (hb1.mono (by simp <;> omega)))
  clear hb1
  have c0 : w1.cell? ⟨w.heap.size + 1, 0, none⟩ = some (.int .i64 0) := by rw [cell_of_row _ _ _ _ _ _ K1.out]; rfl
  have c1 : w1.cell? ⟨w.heap.size + 1, 1, none⟩ = some (.int .i64 0) := by rw [cell_of_row _ _ _ _ _ _ K1.out]; rfl
  have c2 : w1.cell? ⟨w.heap.size + 1, 2, none⟩ = some (.string ⟨#[]⟩) := by rw [cell_of_row _ _ _ _ _ _ K1.out]; rfl
  have c3 : w1.cell? ⟨w.heap.size + 1, 3, none⟩ = some (.slice none 0 0) := by rw [cell_of_row _ _ _ _ _ _ K1.out]; rfl
  have cf0 := frozen_of_row _ _ 0 _ _ K1.out
  have cf1 := frozen_of_row _ _ 1 _ _ K1.out
  have cf2 := frozen_of_row _ _ 2 _ _ K1.out
  have cf3 := frozen_of_row _ _ 3 _ _ K1.out
  go_wp2_with fail
  have FO := four K1.out (.int .i64 0) (.int .i64 0) (.string ⟨#[]⟩) (.slice none 0 0)
  have PE := FO.2.2.2 _ _ (by omega) B1.out
  generalize (((w1.setCell ⟨w.heap.size + 1, 0, none⟩ (.int .i64 0)).setCell ⟨w.heap.size + 1, 1, none⟩ (.int .i64 0)).setCell ⟨w.heap.size + 1, 2, none⟩ (.string ⟨#[]⟩)).setCell ⟨w.heap.size + 1, 3, none⟩ (.slice none 0 0) = W3 at *
  have k0 : W3.cell? ⟨w.heap.size + 1, 0, none⟩ = some (.int .i64 0) := by rw [cell_of_row _ _ _ _ _ _ FO.1]; rfl
  have k1 : W3.cell? ⟨w.heap.size + 1, 1, none⟩ = some (.int .i64 0) := by rw [cell_of_row _ _ _ _ _ _ FO.1]; rfl
  have k2 : W3.cell? ⟨w.heap.size + 1, 2, none⟩ = some (.string ⟨#[]⟩) := by rw [cell_of_row _ _ _ _ _ _ FO.1]; rfl
  have k3 : W3.cell? ⟨w.heap.size + 1, 3, none⟩ = some (.slice none 0 0) := by rw [cell_of_row _ _ _ _ _ _ FO.1]; rfl
  exact bodyPost_ret (v := .tuple #[zv, .int .i64 1]) (by simp [results, Try.results15, go_sem, k0, k1, k2, k3]) rfl ⟨.slice none 0 0, rfl, zero_own, PE⟩

set_option maxHeartbeats 2000000 in
theorem rename_high (t : Tm) (v : Value) (f : Int) (w : World) (h : LiesT w t v) (hval : validB t = true) (h0 : 1099511627776 < f) : Calls Try.prog 15 #[tv t v, .int .i64 f] w (MadeE z0 1 w) := by
  have e0 : decide (f < 0) = false := by simp; omega
  have e1 : decide (1099511627776 < f) = true := by simpa using h0
  have HX := Lib.hid (fun o1 o2 => boxes2 h o1 o2)
  have HVL := Lib.hid hval
  clear h hval
  simp only [tv]
  go_enter Try.func15, Try.ntmps15
  go_wp2_with fail
  refine (valid_is t v true HVL.out _ (HX.out _ _).1).mono ?_
  rintro e w1 ⟨rfl, hb1⟩
  have z1 : w.heap.size + 2 ≤ w1.heap.size := by have := hb1.size; simp at this; omega
  have K0 := Lib.hid ((hb1.block w.heap.size (by simp <;> omega)).trans (HX.out _ _).2.2.1)
  have K1 := Lib.hid ((hb1.block (w.heap.size + 1) (by simp)).trans (HX.out _ _).2.2.2)
  have B1 := Lib.hid ((HX.out _ _).2.1.trans (hb1.mono (by simp <;> omega)))
  clear hb1
  have c0 : w1.cell? ⟨w.heap.size + 1, 0, none⟩ = some (.int .i64 0) := by rw [cell_of_row _ _ _ _ _ _ K1.out]; rfl
  have c1 : w1.cell? ⟨w.heap.size + 1, 1, none⟩ = some (.int .i64 0) := by rw [cell_of_row _ _ _ _ _ _ K1.out]; rfl
  have c2 : w1.cell? ⟨w.heap.size + 1, 2, none⟩ = some (.string ⟨#[]⟩) := by rw [cell_of_row _ _ _ _ _ _ K1.out]; rfl
  have c3 : w1.cell? ⟨w.heap.size + 1, 3, none⟩ = some (.slice none 0 0) := by rw [cell_of_row _ _ _ _ _ _ K1.out]; rfl
  have cf0 := frozen_of_row _ _ 0 _ _ K1.out
  have cf1 := frozen_of_row _ _ 1 _ _ K1.out
  have cf2 := frozen_of_row _ _ 2 _ _ K1.out
  have cf3 := frozen_of_row _ _ 3 _ _ K1.out
  go_wp2_with fail
  have FO := four K1.out (.int .i64 0) (.int .i64 0) (.string ⟨#[]⟩) (.slice none 0 0)
  have PE := FO.2.2.2 _ _ (by omega) B1.out
  generalize (((w1.setCell ⟨w.heap.size + 1, 0, none⟩ (.int .i64 0)).setCell ⟨w.heap.size + 1, 1, none⟩ (.int .i64 0)).setCell ⟨w.heap.size + 1, 2, none⟩ (.string ⟨#[]⟩)).setCell ⟨w.heap.size + 1, 3, none⟩ (.slice none 0 0) = W3 at *
  have k0 : W3.cell? ⟨w.heap.size + 1, 0, none⟩ = some (.int .i64 0) := by rw [cell_of_row _ _ _ _ _ _ FO.1]; rfl
  have k1 : W3.cell? ⟨w.heap.size + 1, 1, none⟩ = some (.int .i64 0) := by rw [cell_of_row _ _ _ _ _ _ FO.1]; rfl
  have k2 : W3.cell? ⟨w.heap.size + 1, 2, none⟩ = some (.string ⟨#[]⟩) := by rw [cell_of_row _ _ _ _ _ _ FO.1]; rfl
  have k3 : W3.cell? ⟨w.heap.size + 1, 3, none⟩ = some (.slice none 0 0) := by rw [cell_of_row _ _ _ _ _ _ FO.1]; rfl
  exact bodyPost_ret (v := .tuple #[zv, .int .i64 1]) (by simp [results, Try.results15, go_sem, k0, k1, k2, k3]) rfl ⟨.slice none 0 0, rfl, zero_own, PE⟩

set_option maxHeartbeats 2000000 in
theorem rename_over (t : Tm) (v : Value) (f : Int) (w : World) (h : LiesT w t v) (hval : validB t = true) (hf : numB f = true) (hbad : decide (0 ≤ badF f (varsF [] t) 0) = true) : Calls Try.prog 15 #[tv t v, .int .i64 f] w (MadeE z0 2 w) := by
  have HX := Lib.hid (fun o1 o2 => boxes2 h o1 o2)
  have HH := Lib.hid h
  have HVL := Lib.hid hval
  have HNB : Hid (∀ x ∈ varsF [] t, numB x = true) := varsF_num t (validB_nodes hval).1 [] (by simp)
  have HF := Lib.hid (numB_iff.1 hf)
  have HCN := Lib.hid (validB_nodes hval).2
  have HNO := Lib.hid (validB_nodes hval).1
  have HBAD := Lib.hid hbad
  have e0 : decide (f < 0) = false := by have := HF.out.1; simp; omega
  have e1 : decide (1099511627776 < f) = false := by have := HF.out.2; simp; omega
  have HXL : Hid ((varsF [] t).length ≤ 2000) := by have h1 := varsF_len t []; have h2 := HCN.out; show _ ≤ _; simp at h1; omega
  clear h hval hf hbad
  simp only [tv]
  go_enter Try.func15, Try.ntmps15
  go_wp2_with fail
  refine (valid_is t v true HVL.out _ (HX.out _ _).1).mono ?_
  rintro e w1 ⟨rfl, hb1⟩
  have z1 : w.heap.size + 2 ≤ w1.heap.size := by have := hb1.size; simp at this; omega
  have K0 := Lib.hid ((hb1.block w.heap.size (by simp <;> omega)).trans (HX.out _ _).2.2.1)
  have K1 := Lib.hid ((hb1.block (w.heap.size + 1) (by simp)).trans (HX.out _ _).2.2.2)
  have B1 := Lib.hid ((HX.out _ _).2.1.trans (hb1.mono (by simp <;> omega)))
  clear hb1
  have p0 : w1.cell? ⟨w.heap.size, 0, none⟩ = some (.int .i64 t.kind) := by rw [cell_of_row _ _ _ _ _ _ K0.out]; rfl
  have p1 : w1.cell? ⟨w.heap.size, 1, none⟩ = some (.int .i64 t.num) := by rw [cell_of_row _ _ _ _ _ _ K0.out]; rfl
  have p2 : w1.cell? ⟨w.heap.size, 2, none⟩ = some (.string t.name) := by rw [cell_of_row _ _ _ _ _ _ K0.out]; rfl
  have p3 : w1.cell? ⟨w.heap.size, 3, none⟩ = some (v) := by rw [cell_of_row _ _ _ _ _ _ K0.out]; rfl
  go_wp2_with fail
  refine (vars_any t w1 w1.heap.size v (.slice none 0 0) [] w1 (HH.out.below B1.out) (Below.refl _ _) (Nat.le_refl _) (Nat.le_refl _) (World.ownsRow_nil _ _ _ _) (by have := HCN.out; simp; omega) HNO.out).mono ?_
  rintro e w2 ⟨x, rfl, hrow, hg, _⟩
  have hb2 : Below w1.heap.size w1 w2 := (Below.refl w1.heap.size w1).grown hg (Nat.le_refl _) (fun q hq => by cases hq)
  obtain ⟨la, lc, rfl, hx⟩ := list_read hrow
  have HR := Lib.hid hx
  have J0 := Lib.hid ((hb2.block w.heap.size (by omega)).trans K0.out)
  have J1 := Lib.hid ((hb2.block (w.heap.size + 1) (by omega)).trans K1.out)
  have B2 := Lib.hid (B1.out.trans (hb2.mono B1.out.size))
  have z2 : w.heap.size + 2 ≤ w2.heap.size := by have := hb2.size; omega
  clear p0 p1 p2 p3 hrow hg hx hb2 B1 K0 K1
  obtain ⟨xs, hxs⟩ : ∃ xs, xs = varsF [] t := ⟨_, rfl⟩
  rw [← hxs] at HBAD HNB HR HXL ⊢
  have HXS := Lib.hid hxs
  clear hxs
  go_wp2_with fail
  go_loopw [7] (fun i wr => ∃ j : Nat, j ≤ xs.length ∧ i = .int .i64 j ∧ wr = w2 ∧ Hid (badF f (xs.drop j) j = badF f xs 0)) (fun i _ => xs.length - (intOf i).toNat)
  case atStart => exact ⟨0, by omega, rfl, rfl, Lib.hid (by rw [List.drop_zero])⟩
  case round =>
    obtain ⟨j, hj, rfl, hw, hr⟩ := hrel
    have hw := hw.symm
    subst hw
    have hxl := HXL.out
    by_cases hlt : j < xs.length
    · obtain ⟨g, rfl, hc⟩ := HR.out j hlt
      have hnx := numB_iff.1 (HNB.out _ (List.getElem_mem hlt))
      have hfx := HF.out
      have hd := badF_drop f xs j hlt
      by_cases hb : 1099511627776 < xs[j] + f
      · have eb : decide (1099511627776 < xs[j] + f) = true := by simpa using hb
        have hn : numB (xs[j] + f) = false := by rw [numB_not]; omega
        have HD := Lib.hid hd
        clear hd
        have c0 : w2.cell? ⟨w.heap.size + 1, 0, none⟩ = some (.int .i64 0) := by rw [cell_of_row _ _ _ _ _ _ J1.out]; rfl
        have c1 : w2.cell? ⟨w.heap.size + 1, 1, none⟩ = some (.int .i64 0) := by rw [cell_of_row _ _ _ _ _ _ J1.out]; rfl
        have c2 : w2.cell? ⟨w.heap.size + 1, 2, none⟩ = some (.string ⟨#[]⟩) := by rw [cell_of_row _ _ _ _ _ _ J1.out]; rfl
        have c3 : w2.cell? ⟨w.heap.size + 1, 3, none⟩ = some (.slice none 0 0) := by rw [cell_of_row _ _ _ _ _ _ J1.out]; rfl
        have cf0 := frozen_of_row _ _ 0 _ _ J1.out
        have cf1 := frozen_of_row _ _ 1 _ _ J1.out
        have cf2 := frozen_of_row _ _ 2 _ _ J1.out
        have cf3 := frozen_of_row _ _ 3 _ _ J1.out
        go_wp2_with fail
        have FO := four J1.out (.int .i64 0) (.int .i64 0) (.string ⟨#[]⟩) (.slice none 0 0)
        have PE := FO.2.2.2 _ _ (by omega) B2.out
        generalize (((w2.setCell ⟨w.heap.size + 1, 0, none⟩ (.int .i64 0)).setCell ⟨w.heap.size + 1, 1, none⟩ (.int .i64 0)).setCell ⟨w.heap.size + 1, 2, none⟩ (.string ⟨#[]⟩)).setCell ⟨w.heap.size + 1, 3, none⟩ (.slice none 0 0) = W3 at *
        have k0 : W3.cell? ⟨w.heap.size + 1, 0, none⟩ = some (.int .i64 0) := by rw [cell_of_row _ _ _ _ _ _ FO.1]; rfl
        have k1 : W3.cell? ⟨w.heap.size + 1, 1, none⟩ = some (.int .i64 0) := by rw [cell_of_row _ _ _ _ _ _ FO.1]; rfl
        have k2 : W3.cell? ⟨w.heap.size + 1, 2, none⟩ = some (.string ⟨#[]⟩) := by rw [cell_of_row _ _ _ _ _ _ FO.1]; rfl
        have k3 : W3.cell? ⟨w.heap.size + 1, 3, none⟩ = some (.slice none 0 0) := by rw [cell_of_row _ _ _ _ _ _ FO.1]; rfl
        exact bodyPost_ret (v := .tuple #[zv, .int .i64 2]) (by simp [results, Try.results15, go_sem, k0, k1, k2, k3]) rfl ⟨.slice none 0 0, rfl, zero_own, PE⟩
      · have eb : decide (1099511627776 < xs[j] + f) = false := by simpa using hb
        have hn : numB (xs[j] + f) = true := by rw [numB_iff]; omega
        have HR2 : Hid (badF f (xs.drop (j + 1)) (j + 1) = badF f xs 0) := by show _ = _; rw [if_pos hn] at hd; rw [← hd]; exact hr.out
        clear hd hn hb
        go_wp2_with fail
        go_roundw
        case rel => exact ⟨j + 1, by omega, by go_num, by first | rfl | trivial, HR2⟩
        case measure => simp [intOf]; omega
    · obtain rfl : j = xs.length := by omega
      have h1 := hr.out
      rw [List.drop_length] at h1
      have h2 := HBAD.out
      rw [← h1] at h2
      simp [badF] at h2

set_option maxHeartbeats 2000000 in
theorem rename_fine (t : Tm) (v : Value) (f : Int) (w : World) (h : LiesT w t v) (hval : validB t = true) (hf : numB f = true) (hbad : decide (0 ≤ badF f (varsF [] t) 0) = false) : Calls Try.prog 15 #[tv t v, .int .i64 f] w (MadeE (mapT (sh f) t) 0 w) := by
  have HX := Lib.hid (fun o1 o2 => boxes2 h o1 o2)
  have HH := Lib.hid h
  have HVL := Lib.hid hval
  have HNB : Hid (∀ x ∈ varsF [] t, numB x = true) := varsF_num t (validB_nodes hval).1 [] (by simp)
  have HF := Lib.hid (numB_iff.1 hf)
  have HCN := Lib.hid (validB_nodes hval).2
  have HNO := Lib.hid (validB_nodes hval).1
  have HBAD := Lib.hid hbad
  have e0 : decide (f < 0) = false := by have := HF.out.1; simp; omega
  have e1 : decide (1099511627776 < f) = false := by have := HF.out.2; simp; omega
  have HXL : Hid ((varsF [] t).length ≤ 2000) := by have h1 := varsF_len t []; have h2 := HCN.out; show _ ≤ _; simp at h1; omega
  clear h hval hf hbad
  simp only [tv]
  go_enter Try.func15, Try.ntmps15
  go_wp2_with fail
  refine (valid_is t v true HVL.out _ (HX.out _ _).1).mono ?_
  rintro e w1 ⟨rfl, hb1⟩
  have z1 : w.heap.size + 2 ≤ w1.heap.size := by have := hb1.size; simp at this; omega
  have K0 := Lib.hid ((hb1.block w.heap.size (by simp <;> omega)).trans (HX.out _ _).2.2.1)
  have K1 := Lib.hid ((hb1.block (w.heap.size + 1) (by simp)).trans (HX.out _ _).2.2.2)
  have B1 := Lib.hid ((HX.out _ _).2.1.trans (hb1.mono (by simp <;> omega)))
  clear hb1
  have p0 : w1.cell? ⟨w.heap.size, 0, none⟩ = some (.int .i64 t.kind) := by rw [cell_of_row _ _ _ _ _ _ K0.out]; rfl
  have p1 : w1.cell? ⟨w.heap.size, 1, none⟩ = some (.int .i64 t.num) := by rw [cell_of_row _ _ _ _ _ _ K0.out]; rfl
  have p2 : w1.cell? ⟨w.heap.size, 2, none⟩ = some (.string t.name) := by rw [cell_of_row _ _ _ _ _ _ K0.out]; rfl
  have p3 : w1.cell? ⟨w.heap.size, 3, none⟩ = some (v) := by rw [cell_of_row _ _ _ _ _ _ K0.out]; rfl
  go_wp2_with fail
  refine (vars_any t w1 w1.heap.size v (.slice none 0 0) [] w1 (HH.out.below B1.out) (Below.refl _ _) (Nat.le_refl _) (Nat.le_refl _) (World.ownsRow_nil _ _ _ _) (by have := HCN.out; simp; omega) HNO.out).mono ?_
  rintro e w2 ⟨x, rfl, hrow, hg, _⟩
  have hb2 : Below w1.heap.size w1 w2 := (Below.refl w1.heap.size w1).grown hg (Nat.le_refl _) (fun q hq => by cases hq)
  obtain ⟨la, lc, rfl, hx⟩ := list_read hrow
  have HR := Lib.hid hx
  have J0 := Lib.hid ((hb2.block w.heap.size (by omega)).trans K0.out)
  have J1 := Lib.hid ((hb2.block (w.heap.size + 1) (by omega)).trans K1.out)
  have B2 := Lib.hid (B1.out.trans (hb2.mono B1.out.size))
  have z2 : w.heap.size + 2 ≤ w2.heap.size := by have := hb2.size; omega
  clear p0 p1 p2 p3 hrow hg hx hb2 B1 K0 K1
  obtain ⟨xs, hxs⟩ : ∃ xs, xs = varsF [] t := ⟨_, rfl⟩
  rw [← hxs] at HBAD HNB HR HXL ⊢
  have HXS := Lib.hid hxs
  clear hxs
  go_wp2_with fail
  go_loopw [7] (fun i wr => ∃ j : Nat, j ≤ xs.length ∧ i = .int .i64 j ∧ wr = w2 ∧ Hid (badF f (xs.drop j) j = badF f xs 0)) (fun i _ => xs.length - (intOf i).toNat)
  case atStart => exact ⟨0, by omega, rfl, rfl, Lib.hid (by rw [List.drop_zero])⟩
  case round =>
    obtain ⟨j, hj, rfl, hw, hr⟩ := hrel
    have hw := hw.symm
    subst hw
    have hxl := HXL.out
    by_cases hlt : j < xs.length
    · obtain ⟨g, rfl, hc⟩ := HR.out j hlt
      have hnx := numB_iff.1 (HNB.out _ (List.getElem_mem hlt))
      have hfx := HF.out
      have hd := badF_drop f xs j hlt
      by_cases hb : 1099511627776 < xs[j] + f
      · have eb : decide (1099511627776 < xs[j] + f) = true := by simpa using hb
        have hn : numB (xs[j] + f) = false := by rw [numB_not]; omega
        have HD := Lib.hid hd
        clear hd
        exfalso
        have h1 := HD.out
        rw [if_neg (by rw [hn]; simp)] at h1
        have h2 := HBAD.out
        rw [← hr.out, h1] at h2
        simp at h2
      · have eb : decide (1099511627776 < xs[j] + f) = false := by simpa using hb
        have hn : numB (xs[j] + f) = true := by rw [numB_iff]; omega
        have HR2 : Hid (badF f (xs.drop (j + 1)) (j + 1) = badF f xs 0) := by show _ = _; rw [if_pos hn] at hd; rw [← hd]; exact hr.out
        clear hd hn hb
        go_wp2_with fail
        go_roundw
        case rel => exact ⟨j + 1, by omega, by go_num, by first | rfl | trivial, HR2⟩
        case measure => simp [intOf]; omega
    · obtain rfl : j = xs.length := by omega
      clear hj hlt hr
      have p0 : w2.cell? ⟨w.heap.size, 0, none⟩ = some (.int .i64 t.kind) := by rw [cell_of_row _ _ _ _ _ _ J0.out]; rfl
      have p1 : w2.cell? ⟨w.heap.size, 1, none⟩ = some (.int .i64 t.num) := by rw [cell_of_row _ _ _ _ _ _ J0.out]; rfl
      have p2 : w2.cell? ⟨w.heap.size, 2, none⟩ = some (.string t.name) := by rw [cell_of_row _ _ _ _ _ _ J0.out]; rfl
      have p3 : w2.cell? ⟨w.heap.size, 3, none⟩ = some (v) := by rw [cell_of_row _ _ _ _ _ _ J0.out]; rfl
      go_wp2_with fail
      refine (shift_any f HF.out.1 HF.out.2 t v w2 (HH.out.below B2.out) (by have := HCN.out; omega) HNO.out).mono ?_
      rintro e w3 ⟨y, rfl, hy, hb3⟩
      obtain ⟨ya, yc, rfl⟩ := hy.slice
      have K3 := Lib.hid ((hb3.block (w.heap.size + 1) (by omega)).trans J1.out)
      have B3 := Lib.hid (B2.out.trans (hb3.mono B2.out.size))
      have HY := Lib.hid hy
      have z3 : w.heap.size + 2 ≤ w3.heap.size := by have := hb3.size; omega
      clear p0 p1 p2 p3 hb3 hy
      have c0 : w3.cell? ⟨w.heap.size + 1, 0, none⟩ = some (.int .i64 0) := by rw [cell_of_row _ _ _ _ _ _ K3.out]; rfl
      have c1 : w3.cell? ⟨w.heap.size + 1, 1, none⟩ = some (.int .i64 0) := by rw [cell_of_row _ _ _ _ _ _ K3.out]; rfl
      have c2 : w3.cell? ⟨w.heap.size + 1, 2, none⟩ = some (.string ⟨#[]⟩) := by rw [cell_of_row _ _ _ _ _ _ K3.out]; rfl
      have c3 : w3.cell? ⟨w.heap.size + 1, 3, none⟩ = some (.slice none 0 0) := by rw [cell_of_row _ _ _ _ _ _ K3.out]; rfl
      have cf0 := frozen_of_row _ _ 0 _ _ K3.out
      have cf1 := frozen_of_row _ _ 1 _ _ K3.out
      have cf2 := frozen_of_row _ _ 2 _ _ K3.out
      have cf3 := frozen_of_row _ _ 3 _ _ K3.out
      go_wp2_with fail
      have FO := four K3.out (.int .i64 (mapT (sh f) t).kind) (.int .i64 (mapT (sh f) t).num) (.string (mapT (sh f) t).name) (.slice ya (mapT (sh f) t).args.length yc)
      have PE := made_e (n := 0) (T := mapT (sh f) t) (b := w.heap.size + 1) (c := w2.heap.size) (by omega) (by omega) B3.out HY.out K3.out _ rfl
      generalize (((w3.setCell ⟨w.heap.size + 1, 0, none⟩ (.int .i64 (mapT (sh f) t).kind)).setCell ⟨w.heap.size + 1, 1, none⟩ (.int .i64 (mapT (sh f) t).num)).setCell ⟨w.heap.size + 1, 2, none⟩ (.string (mapT (sh f) t).name)).setCell ⟨w.heap.size + 1, 3, none⟩ (.slice ya (mapT (sh f) t).args.length yc) = W3 at *
      have k0 : W3.cell? ⟨w.heap.size + 1, 0, none⟩ = some (.int .i64 (mapT (sh f) t).kind) := by rw [cell_of_row _ _ _ _ _ _ FO.1]; rfl
      have k1 : W3.cell? ⟨w.heap.size + 1, 1, none⟩ = some (.int .i64 (mapT (sh f) t).num) := by rw [cell_of_row _ _ _ _ _ _ FO.1]; rfl
      have k2 : W3.cell? ⟨w.heap.size + 1, 2, none⟩ = some (.string (mapT (sh f) t).name) := by rw [cell_of_row _ _ _ _ _ _ FO.1]; rfl
      have k3 : W3.cell? ⟨w.heap.size + 1, 3, none⟩ = some (.slice ya (mapT (sh f) t).args.length yc) := by rw [cell_of_row _ _ _ _ _ _ FO.1]; rfl
      exact bodyPost_ret (v := .tuple #[.agg #[.int .i64 (mapT (sh f) t).kind, .int .i64 (mapT (sh f) t).num, .string (mapT (sh f) t).name, .slice ya (mapT (sh f) t).args.length yc], .int .i64 0]) (by simp [results, Try.results15, go_sem, k0, k1, k2, k3]) rfl PE

end Go.Proofs.Ytdgflagafilobaa
