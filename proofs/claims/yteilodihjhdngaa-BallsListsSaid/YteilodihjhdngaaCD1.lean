/- The specification's List. -/
import Derived.Test.YteilodihjhdngaaB2
import Derived.Test.YteilodihjhdngaaIL
import Derived.Test.YteilodihjhdngaaRD
import Derived.Test.YteilodihjhdngaaSA
import Derived.Deep.DeepCutAuto
set_option linter.unusedVariables false
set_option linter.unusedSimpArgs false
namespace Go.Proofs.Yteilodihjhdngaa
open Go.RowKit Go.Proofs.HT

theorem drop_listT (ts : List Tm) (T : Tm) (j : Nat) (h : j < ts.length) : listT (ts.drop j) T = .mk 3 0 ⟨#[46]⟩ [ts[j], listT (ts.drop (j + 1)) T] := by
  rw [List.drop_eq_getElem_cons h]; rfl
/-- Between two rounds of the specification's List. -/
structure LR3 (w : World) (U : Tm) (W : World) : Prop where
  row : ∃ la lc, RowT W (w.heap.size + 1 + 1) U (.slice la U.args.length lc) ∧ LiesS (fun b => b ≠ w.heap.size + 1 + 1) W U (.slice la U.args.length lc)
  z : RowT W (w.heap.size + 1) z0 (.slice none 0 0)
  b : Below w.heap.size w W
theorem LR3.lt {w W : World} {U : Tm} (h : LR3 w U W) : w.heap.size + 3 ≤ W.heap.size := by
  obtain ⟨la, lc, h1, _⟩ := h.row
  exact h1.lt
theorem LR3.start (w : World) (T : Tm) (v : Value) (hv : LiesT w T v) (o : Obj) : LR3 w T (((w.alloc o).alloc (.cells #[.int .i64 0, .int .i64 0, .string ⟨#[]⟩, .slice none 0 0] 24)).alloc (.cells #[.int .i64 T.kind, .int .i64 T.num, .string T.name, v] 24)) := by
  have hb : Below w.heap.size w (((w.alloc o).alloc (.cells #[.int .i64 0, .int .i64 0, .string ⟨#[]⟩, .slice none 0 0] 24)).alloc (.cells #[.int .i64 T.kind, .int .i64 T.num, .string T.name, v] 24)) := (((Below.refl _ _).alloc (Nat.le_refl _) _).alloc (by simp) _).alloc (by simp; omega) _
  obtain ⟨la, lc, rfl⟩ := hv.slice
  refine ⟨⟨la, lc, ?_, ?_⟩, ?_, hb⟩
  · have h := RowT.new ((w.alloc o).alloc (.cells #[.int .i64 0, .int .i64 0, .string ⟨#[]⟩, .slice none 0 0] 24)) T (.slice la T.args.length lc)
    simpa using h
  · exact (LiesT.inS _ _ hv).keep (fun b o x hb2 h => cell_below hb _ _ h) (fun b hb2 _ => by omega)
  · have h := RowT.new (w.alloc o) z0 (.slice none 0 0)
    have h2 := h.below (al0 _ (.cells #[.int .i64 T.kind, .int .i64 T.num, .string T.name, .slice la T.args.length lc] 24))
    rw [show (w.alloc o).heap.size = w.heap.size + 1 by simp] at h2
    exact h2
set_option maxHeartbeats 4000000 in
/-- A pair is made of an element and of what is there, and stored in its place. -/
theorem LR3.step {w W : World} {U x : Tm} {u : Value} (h : LR3 w U W) (hu : LiesT w x u) (la : Option Addr) (lc : Nat) (hr : RowT W (w.heap.size + 1 + 1) U (.slice la U.args.length lc)) (hs : LiesS (fun b => b ≠ w.heap.size + 1 + 1) W U (.slice la U.args.length lc)) :
    LR3 w (.mk 3 0 ⟨#[46]⟩ [x, U]) (put4 (W.alloc (.cells #[.int .i64 x.kind, .int .i64 x.num, .string x.name, u, .int .i64 U.kind, .int .i64 U.num, .string U.name, .slice la U.args.length lc] 24)) (w.heap.size + 1 + 1) (.int .i64 3) (.int .i64 0) (.string ⟨#[46]⟩) (.slice (some ⟨W.heap.size, 0, none⟩) 2 2)) := by
  have hz := h.lt
  have hr1 := hr.below (al0 W (.cells #[.int .i64 x.kind, .int .i64 x.num, .string x.name, u, .int .i64 U.kind, .int .i64 U.num, .string U.name, .slice la U.args.length lc] 24))
  have hz1 := h.z.below (al0 W (.cells #[.int .i64 x.kind, .int .i64 x.num, .string x.name, u, .int .i64 U.kind, .int .i64 U.num, .string U.name, .slice la U.args.length lc] 24))
  have hn := heap_alloc_new W (.cells #[.int .i64 x.kind, .int .i64 x.num, .string x.name, u, .int .i64 U.kind, .int .i64 U.num, .string U.name, .slice la U.args.length lc] 24)
  have hbb := al0 W (.cells #[.int .i64 x.kind, .int .i64 x.num, .string x.name, u, .int .i64 U.kind, .int .i64 U.num, .string U.name, .slice la U.args.length lc] 24)
  have hB := (h.b.alloc h.b.size (.cells #[.int .i64 x.kind, .int .i64 x.num, .string x.name, u, .int .i64 U.kind, .int .i64 U.num, .string U.name, .slice la U.args.length lc] 24))
  generalize W.alloc (.cells #[.int .i64 x.kind, .int .i64 x.num, .string x.name, u, .int .i64 U.kind, .int .i64 U.num, .string U.name, .slice la U.args.length lc] 24) = W1 at *
  obtain ⟨F1, F2, F3, F4⟩ := four hr1 (.int .i64 3) (.int .i64 0) (.string ⟨#[46]⟩) (.slice (some ⟨W.heap.size, 0, none⟩) 2 2)
  have hB3 := F4 _ _ (by omega) hB
  refine ⟨⟨some ⟨W.heap.size, 0, none⟩, 2, F1, ?_⟩, (F2 _ (by omega)).trans hz1, hB3⟩
  refine LiesS.two (g := W.heap.size) (x := x) (y := U) (vx := u) (vy := .slice la U.args.length lc) (nm := ⟨#[46]⟩) (by simp [ByteArray.size]) ((F2 W.heap.size (by omega)).trans hn) (by omega) ?_ ?_
  · exact (LiesT.inS _ _ hu).keep (fun b o z hb h => cell_below hB3 _ _ h) (fun b hb _ => by omega)
  · refine hs.keep (fun b o z hb h => ?_) (fun b hb _ => hb)
    rw [World.cell?_of_block (w := W1) (F2 b hb)]; exact cell_below hbb _ _ h
theorem LR3.drew {w W : World} {U : Tm} (h : LR3 w U W) : LR3 w U W.drew := by
  obtain ⟨la, lc, h1, h2⟩ := h.row
  exact ⟨⟨la, lc, h1, LiesS.keep (w := W) (w' := W.drew) (fun _ _ _ _ h => h) (fun _ h _ => h) _ _ h2⟩, h.z, h.b.drew⟩

set_option maxRecDepth 8000 in
set_option maxHeartbeats 4000000 in
theorem rlist_any (ts : List Tm) (T : Tm) (a v : Value) (w : World) (ha : LiesA w ts a) (hv : LiesT w T v) : Calls Try.prog 57 #[a, tv T v] w (MadeV (listT ts T) w) := by
  obtain ⟨va, vc, rfl⟩ := hv.slice
  by_cases hn : 2000 < ts.length
  · obtain ⟨aa, ac, rfl⟩ : ∃ x k, a = .slice x ts.length k := ha.slice
    refine Calls.mono ?_ (fun e w' => MadeV.no (by
      cases hq : validB (listT ts T)
      · rfl
      · have h1 := (validB_nodes hq).2
        have h2 := cnt_listT T ts
        omega))
    have hd : decide (2000 < (ts.length : Int)) = true := by simp; omega
    clear ha hv
    simp only [tv]
    go_enter Try.func57, Try.ntmps57
    go_wp2_with fail
    refine bodyPost_ret (v := zv) (by simp [results, Try.results57, go_sem]) rfl ⟨rfl, ?_⟩
    exact ((Below.refl _ _).alloc (Nat.le_refl _) _).alloc (by simp) _
  · obtain ⟨aa, ac, rfl⟩ : ∃ x k, a = .slice x ts.length k := ha.slice
    have hd : decide (2000 < (ts.length : Int)) = false := by simp; omega
    have HL := Lib.hid ha
    have HV := Lib.hid hv
    have HS := Lib.hid (LR3.start w T (.slice va T.args.length vc) hv (.cells #[.int .i64 T.kind, .int .i64 T.num, .string T.name, .slice va T.args.length vc] 24))
    clear ha hv
    simp only [tv]
    go_enter Try.func57, Try.ntmps57
    go_wp2_with fail
    go_loopw [6] (fun i wr => ∃ (j : Nat) (iv : Int), j ≤ ts.length ∧ iv + 1 = j ∧ i = .int .i64 iv ∧ Hid (LR3 w (listT (ts.drop j) T) wr)) (fun i _ => (intOf i + 1).toNat)
    case atStart => exact ⟨ts.length, (ts.length : Int) - 1, by omega, by omega, by go_num, by rw [List.drop_length]; exact HS⟩
    case round =>
      obtain ⟨j, iv, hj, hji, rfl, hR⟩ := hrel
      by_cases hlt : 0 < j
      · obtain ⟨i, rfl⟩ : ∃ i, j = i + 1 := ⟨j - 1, by omega⟩
        obtain rfl : iv = (i : Int) := by omega
        have hi : i < ts.length := by omega
        rcases HL.out.len with ⟨h0, _⟩ | ⟨b, o, cap, hax, hpos, hlc, hcap, hl⟩
        · subst h0; exact absurd hi (by simp)
        · injection hax with ha1 _ ha3
          subst ha1
          subst ha3
          obtain ⟨u, c0, c1, c2, c3, hu⟩ := hl.at i hi
          obtain ⟨x, hx⟩ : ∃ x, ts[i] = x := ⟨_, rfl⟩
          rw [hx] at c0
          rw [hx] at c1
          rw [hx] at c2
          rw [hx] at hu
          obtain ⟨ua, uc, rfl⟩ := hu.slice
          have HU := Lib.hid hu
          obtain ⟨U, hU⟩ : ∃ U, listT (ts.drop (i + 1)) T = U := ⟨_, rfl⟩
          rw [hU] at hR
          have HE : Hid (listT (ts.drop i) T = .mk 3 0 ⟨#[46]⟩ [x, U]) := Lib.hid (by rw [drop_listT ts T i hi, hx, hU])
          obtain ⟨la, lc, hr, hs⟩ := hR.out.row
          have d0 := cell_below hR.out.b _ _ c0
          have d1 := cell_below hR.out.b _ _ c1
          have d2 := cell_below hR.out.b _ _ c2
          have d3 := cell_below hR.out.b _ _ c3
          obtain ⟨q0, q1, q2, q3⟩ := hr.cells
          obtain ⟨f0, f1, f2, f3⟩ := hr.froz
          have lj0 : (0 : Int) ≤ (i : Int) := by omega
          have lj1 : (i : Int) < (ts.length : Int) := by omega
          have hz := hR.out.lt
          have HRow := Lib.hid hr
          have HSS := Lib.hid hs
          have g0 := fun ob => (hr.below (al0 wr ob)).cells.1
          have g1 := fun ob => (hr.below (al0 wr ob)).cells.2.1
          have g2 := fun ob => (hr.below (al0 wr ob)).cells.2.2.1
          have g3 := fun ob => (hr.below (al0 wr ob)).cells.2.2.2
          have k0 := fun ob => (hr.below (al0 wr ob)).froz.1
          have k1 := fun ob => (hr.below (al0 wr ob)).froz.2.1
          have k2 := fun ob => (hr.below (al0 wr ob)).froz.2.2.1
          have k3 := fun ob => (hr.below (al0 wr ob)).froz.2.2.2
          clear c0 c1 c2 c3 hu hx hU hr hs hl
          go_wp2_with fail
          have HN := Lib.hid (LR3.step hR.out HU.out la lc HRow.out HSS.out).drew
          go_region
          all_goals
            clear d0 d1 d2 d3 q0 q1 q2 q3 f0 f1 f2 f3 g0 g1 g2 g3 k0 k1 k2 k3
            go_wp2_with fail
            go_roundw
            case rel => exact ⟨i, (i : Int) - 1, by omega, by omega, by go_num, by rw [HE.out]; exact HN⟩
            case measure => simp [intOf]
      · obtain rfl : j = 0 := by omega
        obtain rfl : iv = -1 := by omega
        rw [List.drop_zero] at hR
        obtain ⟨U, hU⟩ : ∃ U, listT ts T = U := ⟨_, rfl⟩
        rw [hU] at hR
        obtain ⟨la, lc, hr, hs⟩ := hR.out.row
        obtain ⟨q0, q1, q2, q3⟩ := hr.cells
        have HLU := Lib.hid (LiesS.lies _ _ hs)
        obtain ⟨Q, hQ⟩ : ∃ Q, (if validB U = true then U else z0) = Q := ⟨_, rfl⟩
        have HC : Hid (∀ w1, LiesT w1 U (.slice la U.args.length lc) → Calls Try.prog 80 #[tv U (.slice la U.args.length lc)] w1 (MadeEnd Q w1)) := by show ∀ w1, _; intro w1 h1; have h2 := rvalid_any U _ w1 h1; unfold MadeV at h2; rw [hQ] at h2; exact h2
        have HUQ : Hid ((if validB (listT ts T) = true then listT ts T else z0) = Q) := Lib.hid (by rw [hU]; exact hQ)
        clear hr hs hU hQ hd hji hj hlt
        go_wp2_with fail
        refine (HC.out _ HLU.out).mono ?_
        rintro e w3 ⟨y, rfl, hy, hb3⟩
        obtain ⟨ya, yc, rfl⟩ := hy.slice
        have hz := hR.out.lt
        have K3 : Hid (w3.heap[w.heap.size + 1]? = some (.cells #[.int .i64 z0.kind, .int .i64 z0.num, .string z0.name, .slice none 0 0] 24 (0, 0))) := Lib.hid (hR.out.z.below hb3)
        have B3 : Hid (Below w.heap.size w w3) := Lib.hid (hR.out.b.trans (hb3.mono hR.out.b.size))
        have HY := Lib.hid hy
        clear hb3 hy q0 q1 q2 q3
        have c0 : w3.cell? ⟨w.heap.size + 1, 0, none⟩ = some (.int .i64 0) := by rw [cell_of_row _ _ _ _ _ _ K3.out]; rfl
        have c1 : w3.cell? ⟨w.heap.size + 1, 1, none⟩ = some (.int .i64 0) := by rw [cell_of_row _ _ _ _ _ _ K3.out]; rfl
        have c2 : w3.cell? ⟨w.heap.size + 1, 2, none⟩ = some (.string ⟨#[]⟩) := by rw [cell_of_row _ _ _ _ _ _ K3.out]; rfl
        have c3 : w3.cell? ⟨w.heap.size + 1, 3, none⟩ = some (.slice none 0 0) := by rw [cell_of_row _ _ _ _ _ _ K3.out]; rfl
        have cf0 := frozen_of_row _ _ 0 _ _ K3.out
        have cf1 := frozen_of_row _ _ 1 _ _ K3.out
        have cf2 := frozen_of_row _ _ 2 _ _ K3.out
        have cf3 := frozen_of_row _ _ 3 _ _ K3.out
        go_wp2_with fail
        have FO := four K3.out (.int .i64 Q.kind) (.int .i64 Q.num) (.string Q.name) (.slice ya Q.args.length yc)
        have PE := made_end (T := Q) B3.out (HY.out.keep (fun _ _ => rfl) (fun b hb _ => ⟨by have := hb.1; omega, hb.2⟩)) K3.out _ rfl
        generalize ((((w3.setCell ⟨w.heap.size + 1, 0, none⟩ (.int .i64 Q.kind)).setCell ⟨w.heap.size + 1, 1, none⟩ (.int .i64 Q.num)).setCell ⟨w.heap.size + 1, 2, none⟩ (.string Q.name)).setCell ⟨w.heap.size + 1, 3, none⟩ (.slice ya Q.args.length yc)) = W3 at *
        have k0 : W3.cell? ⟨w.heap.size + 1, 0, none⟩ = some (.int .i64 Q.kind) := by rw [cell_of_row _ _ _ _ _ _ FO.1]; rfl
        have k1 : W3.cell? ⟨w.heap.size + 1, 1, none⟩ = some (.int .i64 Q.num) := by rw [cell_of_row _ _ _ _ _ _ FO.1]; rfl
        have k2 : W3.cell? ⟨w.heap.size + 1, 2, none⟩ = some (.string Q.name) := by rw [cell_of_row _ _ _ _ _ _ FO.1]; rfl
        have k3 : W3.cell? ⟨w.heap.size + 1, 3, none⟩ = some (.slice ya Q.args.length yc) := by rw [cell_of_row _ _ _ _ _ _ FO.1]; rfl
        exact bodyPost_ret (v := tv Q (.slice ya Q.args.length yc)) (by simp [results, Try.results57, go_sem, k0, k1, k2, k3]) rfl (by unfold MadeV; rw [HUQ.out]; exact PE)
end Go.Proofs.Yteilodihjhdngaa
