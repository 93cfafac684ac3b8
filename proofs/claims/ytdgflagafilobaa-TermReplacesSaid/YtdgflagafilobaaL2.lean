/- The program's List. -/
import Derived.Test.YtdgflagafilobaaL1
import Derived.Test.YtdgflagafilobaaTm
namespace Go.Proofs.Ytdgflagafilobaa
open Go.RowKit Go.Shelf Go.Proofs.HT
attribute [local go_sem] Oper.semAt_some

def consT (x T : Tm) : Tm := .mk 3 0 ⟨#[46]⟩ [x, T]
def listT (ts : List Tm) (T : Tm) : Tm := ts.foldr consT T
def lp {w : World} (T : Tm) (pre : List (Int × El w)) : Tm := pre.foldl (fun T x => consT x.2.1.1 T) T
theorem lp_snoc {w : World} (T : Tm) (pre : List (Int × El w)) (x : Int × El w) : lp T (pre ++ [x]) = consT x.2.1.1 (lp T pre) := by simp [lp]
theorem lp_come {w : World} (T : Tm) (els : List (El w)) : ∀ k, k ≤ els.length → lp T (come els k) = listT ((els.drop (els.length - k)).map fun x => x.1.1) T
  | 0, _ => by simp [come, lp, listT]
  | k + 1, h => by
    rw [come_succ, lp_snoc, lp_come T els k (by omega)]
    have e : els.length - k = els.length - (k + 1) + 1 := by omega
    have hi : els.length - (k + 1) < els.length := by omega
    have e2 : els.length - 1 - k = els.length - (k + 1) := by omega
    rw [e, List.drop_eq_getElem_cons hi, List.map_cons]
    simp only [listT, List.foldr_cons]
    rw [e2]
    simp [List.getD, hi]
theorem lp_all {w : World} (T : Tm) (els : List (El w)) : lp T (come els els.length) = listT (els.map fun x => x.1.1) T := by rw [lp_come T els _ (Nat.le_refl _)]; simp

/-- Between two rounds. -/
def LI (w : World) (T : Tm) (pre : List (Int × El w)) (W : World) : Prop :=
  (∃ la lc, W.heap[w.heap.size + 1]? = some (.cells #[.int .i64 (lp T pre).kind, .int .i64 (lp T pre).num, .string (lp T pre).name, .slice la (lp T pre).args.length lc] 24 (0, 0)) ∧ LiesS (fun b => b ≠ w.heap.size + 1) W (lp T pre) (.slice la (lp T pre).args.length lc)) ∧ Below w.heap.size w W ∧ w.heap.size + 3 ≤ W.heap.size
theorem row_kept {W W' : World} {row : Option Nat} {g : Nat} {cs : Array Value} {ty : TypeId} (h : W.heap[g]? = some (.cells cs ty (0, 0))) (hg : W.grownBy W' row) (hr : ∀ r, row = some r → ∃ o : Obj, W.heap[r]? = some o ∧ o.isCells = false) : W'.heap[g]? = some (.cells cs ty (0, 0)) := by
  rw [hg.block g (Array.getElem?_eq_some_iff.1 h).1 (fun e => by
    obtain ⟨o, ho, hc⟩ := hr g e.symm
    rw [h] at ho; cases ho; cases hc)]
  exact h
theorem LI_own (w : World) (T : Tm) (B : Nat) (hB : w.heap.size ≤ B) : OwnFrom B (LI w T) := by
  rintro pre A W row ⟨⟨la, lc, h1, h2⟩, hb, hz⟩ hg hr
  have hr2 := fun r e => (hr r e).2
  exact ⟨⟨la, lc, row_kept h1 hg hr2, h2.keep (fun b o x _ h => cell_kept h hg hr2) (fun _ h _ => h)⟩, hb.grown hg hb.size (fun k e => by have := (hr k e).1; omega), Nat.le_trans hz hg.size⟩
theorem LI_alloc {w : World} {T : Tm} {pre : List (Int × El w)} {W : World} (h : LI w T pre W) (o : Obj) : LI w T pre (W.alloc o) := (LI_own w T w.heap.size (Nat.le_refl _)).alloc o h


set_option maxRecDepth 100000 in
set_option maxHeartbeats 4000000 in
theorem list_yes (w : World) (els : List (El w)) (T : Tm) (v : Value) (a : Option Addr) (cap : Nat) (hT : LiesT w T v) (hl : els.length ≤ 2000) (hE : els = [] ∨ ∃ b off, a = some ⟨b, off, none⟩ ∧ LiesE w els b off) (R : Tm) (hR : lp T (come els els.length) = R) (hval : validB R = true) :
    CallsIn Fence.wide 3 Try.prog 33 #[.slice a els.length cap, tv T v] w (MadeEnd R w) := by
  obtain ⟨va, vc, rfl⟩ := hT.slice
  have hd : decide (2000 < (els.length : Int)) = false := by simp; omega
  have hEls : Els (w.heap.size + 1) (w.heap.size + 3) (((w.alloc (.cells #[.int .i64 T.kind, .int .i64 T.num, .string T.name, .slice va T.args.length vc] 24)).alloc (.cells #[.int .i64 T.kind, .int .i64 T.num, .string T.name, .slice va T.args.length vc] 24)).alloc (.cells #[.slice a els.length cap] 22)) (.slice a els.length cap) els := by
    rcases hE with rfl | ⟨b, off, ha, hc⟩
    · exact .inl ⟨rfl, _, _, rfl⟩
    · by_cases hz : els = []
      · subst hz; exact .inl ⟨rfl, _, _, rfl⟩
      · have hb : b < w.heap.size := World.block_lt_of_cell? w ⟨b, off + 0 * 4, none⟩ (hc 0 (List.length_pos_iff.2 hz)).1
        have hbl : Below w.heap.size w (((w.alloc (.cells #[.int .i64 T.kind, .int .i64 T.num, .string T.name, .slice va T.args.length vc] 24)).alloc (.cells #[.int .i64 T.kind, .int .i64 T.num, .string T.name, .slice va T.args.length vc] 24)).alloc (.cells #[.slice a els.length cap] 22)) := (((Below.refl _ _).alloc (Nat.le_refl _) _).alloc (by simp) _).alloc (by simp <;> omega) _
        refine .inr ⟨b, off, cap, by rw [ha], by omega, by omega, by omega, fun i hi => ?_⟩
        obtain ⟨c0, c1, c2, c3⟩ := hc i hi
        exact ⟨cell_below hbl _ _ c0, cell_below hbl _ _ c1, cell_below hbl _ _ c2, cell_below hbl _ _ c3⟩
  have hI0 : LI w T [] (((w.alloc (.cells #[.int .i64 T.kind, .int .i64 T.num, .string T.name, .slice va T.args.length vc] 24)).alloc (.cells #[.int .i64 T.kind, .int .i64 T.num, .string T.name, .slice va T.args.length vc] 24)).alloc (.cells #[.slice a els.length cap] 22)) := by
    refine ⟨⟨va, vc, ?_, ?_⟩, (((Below.refl _ _).alloc (Nat.le_refl _) _).alloc (by simp) _).alloc (by simp <;> omega) _, by simp⟩
    · rw [Below.heap_alloc _ _ _ (by simp)]
      have h := heap_alloc_new (w.alloc (.cells #[.int .i64 T.kind, .int .i64 T.num, .string T.name, .slice va T.args.length vc] 24)) (.cells #[.int .i64 T.kind, .int .i64 T.num, .string T.name, .slice va T.args.length vc] 24)
      simpa [lp] using h
    · refine (LiesT.inS _ _ hT).keep (fun b o x hb h => ?_) (fun b hb _ => by omega)
      exact cell_below ((((Below.refl w.heap.size w).alloc (Nat.le_refl _) _).alloc (by simp) _).alloc (by simp <;> omega) _) _ _ h
  have hsz : (((w.alloc (.cells #[.int .i64 T.kind, .int .i64 T.num, .string T.name, .slice va T.args.length vc] 24)).alloc (.cells #[.int .i64 T.kind, .int .i64 T.num, .string T.name, .slice va T.args.length vc] 24)).alloc (.cells #[.slice a els.length cap] 22)).heap.size = w.heap.size + 3 := by simp
  have hcl : (((w.alloc (.cells #[.int .i64 T.kind, .int .i64 T.num, .string T.name, .slice va T.args.length vc] 24)).alloc (.cells #[.int .i64 T.kind, .int .i64 T.num, .string T.name, .slice va T.args.length vc] 24)).alloc (.cells #[.slice a els.length cap] 22)).cell? ⟨w.heap.size + 1 + 1, 0, none⟩ = some (.slice a els.length cap) := by go_simp
  have HW := Lib.hid hEls
  have HI := Lib.hid hI0
  have HZ := Lib.hid hsz
  have HC := Lib.hid hcl
  have HT := Lib.hid hT
  clear hEls hI0 hsz hcl hE hT
  simp only [tv]
  refine callsIn_of_wp_marks Try.func33 rfl trivial ?_ rfl
  simp only [Try.ntmps33, List.size_toArray, List.length_cons, List.length_nil, Nat.reduceAdd, Nat.reduceSub, Array.replicate_succ, Array.replicate_zero, List.push_toArray, List.append_toArray, List.nil_append, List.cons_append]
  gi_wp2_with (refine ⟨trivial, ?_⟩; gi_at_call 64; refine (back_in Fence.wide 2 trivial rfl _ _ _ _).mono ?_; rintro e w' ⟨rfl, rfl⟩)
  refine wpIn_rangeFunc_ownH rfl (by omega) (gf := 75) (lb := #[.pointer (some ⟨w.heap.size + 1 + 1, 0, none⟩)]) rfl trivial (enters_of Try.func75 (by kernel_rfl) rfl)
    (back_stops (w0 := w) Fence.wide 2 trivial rfl (by omega) (w.heap.size + 1 + 1) (w.heap.size + 1) (w.heap.size + 3) (.slice a els.length cap) els _ (by omega) (by omega) (by rw [HZ.out]; exact Nat.le_refl _) HC.out HW.out)
    KpB.trans (fun W l o o' hl ho hc hw => ⟨by simp, fun g hg hn => World.putObj_heap_other (by have := HZ.out; omega)⟩) (Below.refl _ _) (fun _ => rfl)
    (LI w T) (fun _ _ _ => False) (LI_own w T _ (by rw [HZ.out]; omega)) (fun _ _ _ _ _ hs _ _ => hs) HI.out
    (fun x a' W => ∃ Bx, w.heap.size + 3 ≤ Bx ∧ W.heap[Bx]? = some (.cells #[.int .i64 x.2.1.1.kind, .int .i64 x.2.1.1.num, .string x.2.1.1.name, .slice x.2.1.2.1 x.2.1.1.args.length x.2.1.2.2] 24 (0, 0)) ∧ a' = { tmps := #[.slice a els.length cap, .agg #[.int .i64 T.kind, .int .i64 T.num, .string T.name, .slice va T.args.length vc], undef, .pointer (some ⟨w.heap.size, 0, none⟩), .pointer (some ⟨w.heap.size + 1, 0, none⟩), undef, .pointer (some ⟨Bx, 0, none⟩), .slice a els.length cap, .int .i64 els.length, .bool false, undef, .agg #[.int .i64 T.kind, .int .i64 T.num, .string T.name, .slice va T.args.length vc], .slice a els.length cap, .func (.func 75) #[] #[.pointer (some ⟨w.heap.size + 1 + 1, 0, none⟩)], .int .i64 x.1, .agg #[.int .i64 x.2.1.1.kind, .int .i64 x.2.1.1.num, .string x.2.1.1.name, .slice x.2.1.2.1 x.2.1.1.args.length x.2.1.2.2], undef, undef, undef, undef, undef, undef], defers := [] })
    (by rintro x a' _ A W row ⟨Bx, h1, h2, h3⟩ hg hr; exact ⟨Bx, h1, row_kept h2 hg (fun r e => (hr r e).2), h3⟩) ?assign ?body ?done ?stop
  case assign =>
    intro l pre x W K hi hK
    have hle := hi.2.2
    gi_wp2
    exact hK _ _ ((KeepsOthers.alloc _ _).from _) ⟨by simp, fun g hg _ => Below.heap_alloc _ _ _ (by omega)⟩ (LI_alloc hi _) ⟨W.heap.size, by omega, heap_alloc_new _ _, rfl⟩
  case body =>
    rintro l pre x _ W hle0 ⟨r, hr⟩ ⟨⟨la, lc, h1, h2⟩, hb, hz⟩ ⟨Bx, hBx, hbx, rfl⟩ hlt
    have H1 := Lib.hid h1
    have H2 := Lib.hid h2
    have HB := Lib.hid hb
    have HX := Lib.hid (x.2.2.below hb)
    have HBX := Lib.hid hbx
    have hcW : w.heap.size + 1 < W.heap.size := by omega
    have hBW : Bx < W.heap.size := (Array.getElem?_eq_some_iff.1 hbx).1
    have hBc : ¬ Bx = w.heap.size + 1 := by omega
    have p0 : W.cell? ⟨Bx, 0, none⟩ = some (.int .i64 x.2.1.1.kind) := (by rw [cell_of_row _ _ _ _ _ _ HBX.out]; rfl)
    have p1 : W.cell? ⟨Bx, 1, none⟩ = some (.int .i64 x.2.1.1.num) := (by rw [cell_of_row _ _ _ _ _ _ HBX.out]; rfl)
    have p2 : W.cell? ⟨Bx, 2, none⟩ = some (.string x.2.1.1.name) := (by rw [cell_of_row _ _ _ _ _ _ HBX.out]; rfl)
    have p3 : W.cell? ⟨Bx, 3, none⟩ = some (.slice x.2.1.2.1 x.2.1.1.args.length x.2.1.2.2) := (by rw [cell_of_row _ _ _ _ _ _ HBX.out]; rfl)
    have q0 : W.cell? ⟨w.heap.size + 1, 0, none⟩ = some (.int .i64 (lp T pre).kind) := (by rw [cell_of_row _ _ _ _ _ _ H1.out]; rfl)
    have q1 : W.cell? ⟨w.heap.size + 1, 1, none⟩ = some (.int .i64 (lp T pre).num) := (by rw [cell_of_row _ _ _ _ _ _ H1.out]; rfl)
    have q2 : W.cell? ⟨w.heap.size + 1, 2, none⟩ = some (.string (lp T pre).name) := (by rw [cell_of_row _ _ _ _ _ _ H1.out]; rfl)
    have q3 : W.cell? ⟨w.heap.size + 1, 3, none⟩ = some (.slice la (lp T pre).args.length lc) := (by rw [cell_of_row _ _ _ _ _ _ H1.out]; rfl)
    have qf0 := frozen_of_row _ _ 0 _ _ H1.out
    have qf1 := frozen_of_row _ _ 1 _ _ H1.out
    have qf2 := frozen_of_row _ _ 2 _ _ H1.out
    have qf3 := frozen_of_row _ _ 3 _ _ H1.out
    clear h1 h2 hb hbx hr
    gi_wp2_with (refine ⟨trivial, ?_⟩; gi_at_call 56; refine (CallsIn.inRound l (callsIn_wide.2 (structure_any _ _ _ _ _))).mono ?_; rintro e w3 ⟨rfl, hb3⟩; have KB := Lib.hid hb3; have K1 := Lib.hid ((hb3.block (w.heap.size + 1) (by simp; omega)).trans ((Below.heap_alloc _ _ _ hcW).trans H1.out)); have r0 : w3.cell? ⟨w.heap.size + 1, 0, none⟩ = some (.int .i64 (lp T pre).kind) := (by rw [cell_of_row _ _ _ _ _ _ K1.out]; rfl); have r1 : w3.cell? ⟨w.heap.size + 1, 1, none⟩ = some (.int .i64 (lp T pre).num) := (by rw [cell_of_row _ _ _ _ _ _ K1.out]; rfl); have r2 : w3.cell? ⟨w.heap.size + 1, 2, none⟩ = some (.string (lp T pre).name) := (by rw [cell_of_row _ _ _ _ _ _ K1.out]; rfl); have r3 : w3.cell? ⟨w.heap.size + 1, 3, none⟩ = some (.slice la (lp T pre).args.length lc) := (by rw [cell_of_row _ _ _ _ _ _ K1.out]; rfl); have rf0 := frozen_of_row _ _ 0 _ _ K1.out; have rf1 := frozen_of_row _ _ 1 _ _ K1.out; have rf2 := frozen_of_row _ _ 2 _ _ K1.out; have rf3 := frozen_of_row _ _ 3 _ _ K1.out; clear hb3)
    have KS := KB.out.size
    simp at KS
    have FO := four K1.out (.int .i64 3) (.int .i64 0) (.string ⟨#[46]⟩) (.slice (some ⟨W.heap.size, 0, none⟩) 2 2)
    generalize ((((w3.setCell ⟨w.heap.size + 1, 0, none⟩ (.int .i64 3)).setCell ⟨w.heap.size + 1, 1, none⟩ (.int .i64 0)).setCell ⟨w.heap.size + 1, 2, none⟩ (.string ⟨#[46]⟩)).setCell ⟨w.heap.size + 1, 3, none⟩ (.slice (some ⟨W.heap.size, 0, none⟩) 2 2)) = W3 at *
    obtain ⟨F1, F2, F3, F4⟩ := FO
    have hkp : ∀ g, g < W.heap.size → ¬ g = w.heap.size + 1 → W3.heap[g]? = W.heap[g]? := fun g hg hn => (F2 g hn).trans ((KB.out.block g (by simp; omega)).trans (Below.heap_alloc _ _ _ hg))
    have hB3 : Below w.heap.size w W3 := F4 _ _ (by omega) ((HB.out.alloc HB.out.size _).trans (KB.out.mono (by simp; omega)))
    have hrow := (F2 W.heap.size (by omega)).trans ((KB.out.block W.heap.size (by simp)).trans (heap_alloc_new _ _))
    refine ⟨⟨by omega, fun k o _ hk ho => ?_⟩, ⟨by omega, fun g hg hn => hkp g (by omega) hn⟩, ⟨⟨some ⟨W.heap.size, 0, none⟩, 2, ?_, ?_⟩, hB3, by omega⟩⟩
    · rw [hkp k (Array.getElem?_eq_some_iff.1 hk).1 (fun e => by rw [e, H1.out] at hk; cases hk; cases ho)]; exact hk
    · rw [lp_snoc]; exact F1
    · rw [lp_snoc]
      refine LiesS.two (by simp [ByteArray.size]) hrow (by omega) ?_ ?_
      · exact (LiesT.inS _ _ x.2.2).keep (fun b o z hb h => cell_below hB3 _ _ h) (fun b hb _ => by omega)
      · refine H2.out.keep (fun b o z hb h => ?_) (fun b hb _ => hb)
        rw [World.cell?_of_block (hkp b (World.block_lt_of_cell? W _ h) hb)]; exact h
  case done =>
    rintro D ys W hD rfl ⟨⟨la, lc, h1, h2⟩, hb, hz⟩ hKD
    rw [hR] at h1 h2
    have H1 := Lib.hid h1
    have HB := Lib.hid hb
    have HLR := Lib.hid (LiesS.lies _ _ h2)
    have HD := Lib.hid hKD
    have hcW : w.heap.size + 1 < W.heap.size := by omega
    have q0 : W.cell? ⟨w.heap.size + 1, 0, none⟩ = some (.int .i64 R.kind) := (by rw [cell_of_row _ _ _ _ _ _ H1.out]; rfl)
    have q1 : W.cell? ⟨w.heap.size + 1, 1, none⟩ = some (.int .i64 R.num) := (by rw [cell_of_row _ _ _ _ _ _ H1.out]; rfl)
    have q2 : W.cell? ⟨w.heap.size + 1, 2, none⟩ = some (.string R.name) := (by rw [cell_of_row _ _ _ _ _ _ H1.out]; rfl)
    have q3 : W.cell? ⟨w.heap.size + 1, 3, none⟩ = some (.slice la R.args.length lc) := (by rw [cell_of_row _ _ _ _ _ _ H1.out]; rfl)
    have qf0 := frozen_of_row _ _ 0 _ _ H1.out
    have qf1 := frozen_of_row _ _ 1 _ _ H1.out
    have qf2 := frozen_of_row _ _ 2 _ _ H1.out
    have qf3 := frozen_of_row _ _ 3 _ _ H1.out
    clear h1 h2 hb hKD
    gi_wp2_with (refine ⟨trivial, ?_⟩; gi_at_call 55; refine (callsIn_wide.2 (Clone_yes R _ _ HLR.out hval)).mono ?_; rintro e w4 ⟨y, rfl, hy, hb4⟩; obtain ⟨ya, yc, rfl⟩ := hy.slice; have HY := Lib.hid hy; clear hy; have K1 := Lib.hid ((hb4.block (w.heap.size + 1) hcW).trans H1.out); have KB := Lib.hid hb4; have r0 : w4.cell? ⟨w.heap.size + 1, 0, none⟩ = some (.int .i64 R.kind) := (by rw [cell_of_row _ _ _ _ _ _ K1.out]; rfl); have r1 : w4.cell? ⟨w.heap.size + 1, 1, none⟩ = some (.int .i64 R.num) := (by rw [cell_of_row _ _ _ _ _ _ K1.out]; rfl); have r2 : w4.cell? ⟨w.heap.size + 1, 2, none⟩ = some (.string R.name) := (by rw [cell_of_row _ _ _ _ _ _ K1.out]; rfl); have r3 : w4.cell? ⟨w.heap.size + 1, 3, none⟩ = some (.slice la R.args.length lc) := (by rw [cell_of_row _ _ _ _ _ _ K1.out]; rfl); have rf0 := frozen_of_row _ _ 0 _ _ K1.out; have rf1 := frozen_of_row _ _ 1 _ _ K1.out; have rf2 := frozen_of_row _ _ 2 _ _ K1.out; have rf3 := frozen_of_row _ _ 3 _ _ K1.out; clear hb4)
    have FO := four K1.out (.int .i64 R.kind) (.int .i64 R.num) (.string R.name) (.slice ya R.args.length yc)
    have hD4 : ((((w4.setCell ⟨w.heap.size + 1, 0, none⟩ (.int .i64 R.kind)).setCell ⟨w.heap.size + 1, 1, none⟩ (.int .i64 R.num)).setCell ⟨w.heap.size + 1, 2, none⟩ (.string R.name)).setCell ⟨w.heap.size + 1, 3, none⟩ (.slice ya R.args.length yc)).heap[D]? = some (.deferred (some [])) := (FO.2.1 D (fun e => by have h := HD.out; rw [e, H1.out] at h; cases h)).trans ((KB.out.block D (Array.getElem?_eq_some_iff.1 HD.out).1).trans HD.out)
    have hB4 := FO.2.2.2 w.heap.size w (by omega) (HB.out.trans (KB.out.mono HB.out.size))
    have hO := HY.out.keep (S' := fun b => W.heap.size ≤ b ∧ b < w4.heap.size) (w' := ((((w4.setCell ⟨w.heap.size + 1, 0, none⟩ (.int .i64 R.kind)).setCell ⟨w.heap.size + 1, 1, none⟩ (.int .i64 R.num)).setCell ⟨w.heap.size + 1, 2, none⟩ (.string R.name)).setCell ⟨w.heap.size + 1, 3, none⟩ (.slice ya R.args.length yc))) (fun b hb => FO.2.1 b (by omega)) (fun b hb _ => hb)
    generalize ((((w4.setCell ⟨w.heap.size + 1, 0, none⟩ (.int .i64 R.kind)).setCell ⟨w.heap.size + 1, 1, none⟩ (.int .i64 R.num)).setCell ⟨w.heap.size + 1, 2, none⟩ (.string R.name)).setCell ⟨w.heap.size + 1, 3, none⟩ (.slice ya R.args.length yc)) = W4 at *
    refine ⟨by simp, .inl ⟨_, _, rfl, run_takeDeferred hD4, ?_⟩⟩
    have hg := grownBy_putObj' W4 D (.deferred none)
    have hr : ∀ r, (some D : Option Nat) = some r → ∃ o : Obj, W4.heap[r]? = some o ∧ o.isCells = false := fun r e => by cases e; exact ⟨_, hD4, rfl⟩
    have hrow := row_kept FO.1 hg hr
    have hDw : w.heap.size ≤ D := by have h := HZ.out; omega
    have hBF : Below w.heap.size w (W4.putObj D (.deferred none)) := hB4.grown hg hB4.size (fun k e => by cases e; exact hDw)
    have k0 : (W4.putObj D (.deferred none)).cell? ⟨w.heap.size + 1, 0, none⟩ = some (.int .i64 R.kind) := (by rw [cell_of_row _ _ _ _ _ _ hrow]; rfl)
    have k1 : (W4.putObj D (.deferred none)).cell? ⟨w.heap.size + 1, 1, none⟩ = some (.int .i64 R.num) := (by rw [cell_of_row _ _ _ _ _ _ hrow]; rfl)
    have k2 : (W4.putObj D (.deferred none)).cell? ⟨w.heap.size + 1, 2, none⟩ = some (.string R.name) := (by rw [cell_of_row _ _ _ _ _ _ hrow]; rfl)
    have k3 : (W4.putObj D (.deferred none)).cell? ⟨w.heap.size + 1, 3, none⟩ = some (.slice ya R.args.length yc) := (by rw [cell_of_row _ _ _ _ _ _ hrow]; rfl)
    exact ⟨_, by simp [results, Try.results33, go_sem, k0, k1, k2, k3], _, rfl, hO.keep (fun b hb => hg.block b (by rw [FO.2.2.1]; exact hb.2) (fun e => by cases e; have := (Array.getElem?_eq_some_iff.1 HD.out).1; omega)) (fun b hb _ => ⟨by omega, by simp; rw [FO.2.2.1]; exact hb.2⟩), hBF⟩
  case stop =>
    rintro D c pre W _ _ h _
    exact h.elim

set_option maxRecDepth 100000 in
set_option maxHeartbeats 4000000 in
theorem list_no (w : World) (els : List (El w)) (T : Tm) (v : Value) (a : Option Addr) (cap : Nat) (hT : LiesT w T v) (hl : els.length ≤ 2000) (hE : els = [] ∨ ∃ b off, a = some ⟨b, off, none⟩ ∧ LiesE w els b off) (R : Tm) (hR : lp T (come els els.length) = R) (hval : validB R = false) :
    CallsIn Fence.wide 3 Try.prog 33 #[.slice a els.length cap, tv T v] w (fun e w' => e = .returned zv ∧ Below w.heap.size w w') := by
  obtain ⟨va, vc, rfl⟩ := hT.slice
  have hd : decide (2000 < (els.length : Int)) = false := by simp; omega
  have hEls : Els (w.heap.size + 1) (w.heap.size + 3) (((w.alloc (.cells #[.int .i64 T.kind, .int .i64 T.num, .string T.name, .slice va T.args.length vc] 24)).alloc (.cells #[.int .i64 T.kind, .int .i64 T.num, .string T.name, .slice va T.args.length vc] 24)).alloc (.cells #[.slice a els.length cap] 22)) (.slice a els.length cap) els := by
    rcases hE with rfl | ⟨b, off, ha, hc⟩
    · exact .inl ⟨rfl, _, _, rfl⟩
    · by_cases hz : els = []
      · subst hz; exact .inl ⟨rfl, _, _, rfl⟩
      · have hb : b < w.heap.size := World.block_lt_of_cell? w ⟨b, off + 0 * 4, none⟩ (hc 0 (List.length_pos_iff.2 hz)).1
        have hbl : Below w.heap.size w (((w.alloc (.cells #[.int .i64 T.kind, .int .i64 T.num, .string T.name, .slice va T.args.length vc] 24)).alloc (.cells #[.int .i64 T.kind, .int .i64 T.num, .string T.name, .slice va T.args.length vc] 24)).alloc (.cells #[.slice a els.length cap] 22)) := (((Below.refl _ _).alloc (Nat.le_refl _) _).alloc (by simp) _).alloc (by simp <;> omega) _
        refine .inr ⟨b, off, cap, by rw [ha], by omega, by omega, by omega, fun i hi => ?_⟩
        obtain ⟨c0, c1, c2, c3⟩ := hc i hi
        exact ⟨cell_below hbl _ _ c0, cell_below hbl _ _ c1, cell_below hbl _ _ c2, cell_below hbl _ _ c3⟩
  have hI0 : LI w T [] (((w.alloc (.cells #[.int .i64 T.kind, .int .i64 T.num, .string T.name, .slice va T.args.length vc] 24)).alloc (.cells #[.int .i64 T.kind, .int .i64 T.num, .string T.name, .slice va T.args.length vc] 24)).alloc (.cells #[.slice a els.length cap] 22)) := by
    refine ⟨⟨va, vc, ?_, ?_⟩, (((Below.refl _ _).alloc (Nat.le_refl _) _).alloc (by simp) _).alloc (by simp <;> omega) _, by simp⟩
    · rw [Below.heap_alloc _ _ _ (by simp)]
      have h := heap_alloc_new (w.alloc (.cells #[.int .i64 T.kind, .int .i64 T.num, .string T.name, .slice va T.args.length vc] 24)) (.cells #[.int .i64 T.kind, .int .i64 T.num, .string T.name, .slice va T.args.length vc] 24)
      simpa [lp] using h
    · refine (LiesT.inS _ _ hT).keep (fun b o x hb h => ?_) (fun b hb _ => by omega)
      exact cell_below ((((Below.refl w.heap.size w).alloc (Nat.le_refl _) _).alloc (by simp) _).alloc (by simp <;> omega) _) _ _ h
  have hsz : (((w.alloc (.cells #[.int .i64 T.kind, .int .i64 T.num, .string T.name, .slice va T.args.length vc] 24)).alloc (.cells #[.int .i64 T.kind, .int .i64 T.num, .string T.name, .slice va T.args.length vc] 24)).alloc (.cells #[.slice a els.length cap] 22)).heap.size = w.heap.size + 3 := by simp
  have hcl : (((w.alloc (.cells #[.int .i64 T.kind, .int .i64 T.num, .string T.name, .slice va T.args.length vc] 24)).alloc (.cells #[.int .i64 T.kind, .int .i64 T.num, .string T.name, .slice va T.args.length vc] 24)).alloc (.cells #[.slice a els.length cap] 22)).cell? ⟨w.heap.size + 1 + 1, 0, none⟩ = some (.slice a els.length cap) := by go_simp
  have HW := Lib.hid hEls
  have HI := Lib.hid hI0
  have HZ := Lib.hid hsz
  have HC := Lib.hid hcl
  have HT := Lib.hid hT
  clear hEls hI0 hsz hcl hE hT
  simp only [tv]
  refine callsIn_of_wp_marks Try.func33 rfl trivial ?_ rfl
  simp only [Try.ntmps33, List.size_toArray, List.length_cons, List.length_nil, Nat.reduceAdd, Nat.reduceSub, Array.replicate_succ, Array.replicate_zero, List.push_toArray, List.append_toArray, List.nil_append, List.cons_append]
  gi_wp2_with (refine ⟨trivial, ?_⟩; gi_at_call 64; refine (back_in Fence.wide 2 trivial rfl _ _ _ _).mono ?_; rintro e w' ⟨rfl, rfl⟩)
  refine wpIn_rangeFunc_ownH rfl (by omega) (gf := 75) (lb := #[.pointer (some ⟨w.heap.size + 1 + 1, 0, none⟩)]) rfl trivial (enters_of Try.func75 (by kernel_rfl) rfl)
    (back_stops (w0 := w) Fence.wide 2 trivial rfl (by omega) (w.heap.size + 1 + 1) (w.heap.size + 1) (w.heap.size + 3) (.slice a els.length cap) els _ (by omega) (by omega) (by rw [HZ.out]; exact Nat.le_refl _) HC.out HW.out)
    KpB.trans (fun W l o o' hl ho hc hw => ⟨by simp, fun g hg hn => World.putObj_heap_other (by have := HZ.out; omega)⟩) (Below.refl _ _) (fun _ => rfl)
    (LI w T) (fun _ _ _ => False) (LI_own w T _ (by rw [HZ.out]; omega)) (fun _ _ _ _ _ hs _ _ => hs) HI.out
    (fun x a' W => ∃ Bx, w.heap.size + 3 ≤ Bx ∧ W.heap[Bx]? = some (.cells #[.int .i64 x.2.1.1.kind, .int .i64 x.2.1.1.num, .string x.2.1.1.name, .slice x.2.1.2.1 x.2.1.1.args.length x.2.1.2.2] 24 (0, 0)) ∧ a' = { tmps := #[.slice a els.length cap, .agg #[.int .i64 T.kind, .int .i64 T.num, .string T.name, .slice va T.args.length vc], undef, .pointer (some ⟨w.heap.size, 0, none⟩), .pointer (some ⟨w.heap.size + 1, 0, none⟩), undef, .pointer (some ⟨Bx, 0, none⟩), .slice a els.length cap, .int .i64 els.length, .bool false, undef, .agg #[.int .i64 T.kind, .int .i64 T.num, .string T.name, .slice va T.args.length vc], .slice a els.length cap, .func (.func 75) #[] #[.pointer (some ⟨w.heap.size + 1 + 1, 0, none⟩)], .int .i64 x.1, .agg #[.int .i64 x.2.1.1.kind, .int .i64 x.2.1.1.num, .string x.2.1.1.name, .slice x.2.1.2.1 x.2.1.1.args.length x.2.1.2.2], undef, undef, undef, undef, undef, undef], defers := [] })
    (by rintro x a' _ A W row ⟨Bx, h1, h2, h3⟩ hg hr; exact ⟨Bx, h1, row_kept h2 hg (fun r e => (hr r e).2), h3⟩) ?assign ?body ?done ?stop
  case assign =>
    intro l pre x W K hi hK
    have hle := hi.2.2
    gi_wp2
    exact hK _ _ ((KeepsOthers.alloc _ _).from _) ⟨by simp, fun g hg _ => Below.heap_alloc _ _ _ (by omega)⟩ (LI_alloc hi _) ⟨W.heap.size, by omega, heap_alloc_new _ _, rfl⟩
  case body =>
    rintro l pre x _ W hle0 ⟨r, hr⟩ ⟨⟨la, lc, h1, h2⟩, hb, hz⟩ ⟨Bx, hBx, hbx, rfl⟩ hlt
    have H1 := Lib.hid h1
    have H2 := Lib.hid h2
    have HB := Lib.hid hb
    have HX := Lib.hid (x.2.2.below hb)
    have HBX := Lib.hid hbx
    have hcW : w.heap.size + 1 < W.heap.size := by omega
    have hBW : Bx < W.heap.size := (Array.getElem?_eq_some_iff.1 hbx).1
    have hBc : ¬ Bx = w.heap.size + 1 := by omega
    have p0 : W.cell? ⟨Bx, 0, none⟩ = some (.int .i64 x.2.1.1.kind) := (by rw [cell_of_row _ _ _ _ _ _ HBX.out]; rfl)
    have p1 : W.cell? ⟨Bx, 1, none⟩ = some (.int .i64 x.2.1.1.num) := (by rw [cell_of_row _ _ _ _ _ _ HBX.out]; rfl)
    have p2 : W.cell? ⟨Bx, 2, none⟩ = some (.string x.2.1.1.name) := (by rw [cell_of_row _ _ _ _ _ _ HBX.out]; rfl)
    have p3 : W.cell? ⟨Bx, 3, none⟩ = some (.slice x.2.1.2.1 x.2.1.1.args.length x.2.1.2.2) := (by rw [cell_of_row _ _ _ _ _ _ HBX.out]; rfl)
    have q0 : W.cell? ⟨w.heap.size + 1, 0, none⟩ = some (.int .i64 (lp T pre).kind) := (by rw [cell_of_row _ _ _ _ _ _ H1.out]; rfl)
    have q1 : W.cell? ⟨w.heap.size + 1, 1, none⟩ = some (.int .i64 (lp T pre).num) := (by rw [cell_of_row _ _ _ _ _ _ H1.out]; rfl)
    have q2 : W.cell? ⟨w.heap.size + 1, 2, none⟩ = some (.string (lp T pre).name) := (by rw [cell_of_row _ _ _ _ _ _ H1.out]; rfl)
    have q3 : W.cell? ⟨w.heap.size + 1, 3, none⟩ = some (.slice la (lp T pre).args.length lc) := (by rw [cell_of_row _ _ _ _ _ _ H1.out]; rfl)
    have qf0 := frozen_of_row _ _ 0 _ _ H1.out
    have qf1 := frozen_of_row _ _ 1 _ _ H1.out
    have qf2 := frozen_of_row _ _ 2 _ _ H1.out
    have qf3 := frozen_of_row _ _ 3 _ _ H1.out
    clear h1 h2 hb hbx hr
    gi_wp2_with (refine ⟨trivial, ?_⟩; gi_at_call 56; refine (CallsIn.inRound l (callsIn_wide.2 (structure_any _ _ _ _ _))).mono ?_; rintro e w3 ⟨rfl, hb3⟩; have KB := Lib.hid hb3; have K1 := Lib.hid ((hb3.block (w.heap.size + 1) (by simp; omega)).trans ((Below.heap_alloc _ _ _ hcW).trans H1.out)); have r0 : w3.cell? ⟨w.heap.size + 1, 0, none⟩ = some (.int .i64 (lp T pre).kind) := (by rw [cell_of_row _ _ _ _ _ _ K1.out]; rfl); have r1 : w3.cell? ⟨w.heap.size + 1, 1, none⟩ = some (.int .i64 (lp T pre).num) := (by rw [cell_of_row _ _ _ _ _ _ K1.out]; rfl); have r2 : w3.cell? ⟨w.heap.size + 1, 2, none⟩ = some (.string (lp T pre).name) := (by rw [cell_of_row _ _ _ _ _ _ K1.out]; rfl); have r3 : w3.cell? ⟨w.heap.size + 1, 3, none⟩ = some (.slice la (lp T pre).args.length lc) := (by rw [cell_of_row _ _ _ _ _ _ K1.out]; rfl); have rf0 := frozen_of_row _ _ 0 _ _ K1.out; have rf1 := frozen_of_row _ _ 1 _ _ K1.out; have rf2 := frozen_of_row _ _ 2 _ _ K1.out; have rf3 := frozen_of_row _ _ 3 _ _ K1.out; clear hb3)
    have KS := KB.out.size
    simp at KS
    have FO := four K1.out (.int .i64 3) (.int .i64 0) (.string ⟨#[46]⟩) (.slice (some ⟨W.heap.size, 0, none⟩) 2 2)
    generalize ((((w3.setCell ⟨w.heap.size + 1, 0, none⟩ (.int .i64 3)).setCell ⟨w.heap.size + 1, 1, none⟩ (.int .i64 0)).setCell ⟨w.heap.size + 1, 2, none⟩ (.string ⟨#[46]⟩)).setCell ⟨w.heap.size + 1, 3, none⟩ (.slice (some ⟨W.heap.size, 0, none⟩) 2 2)) = W3 at *
    obtain ⟨F1, F2, F3, F4⟩ := FO
    have hkp : ∀ g, g < W.heap.size → ¬ g = w.heap.size + 1 → W3.heap[g]? = W.heap[g]? := fun g hg hn => (F2 g hn).trans ((KB.out.block g (by simp; omega)).trans (Below.heap_alloc _ _ _ hg))
    have hB3 : Below w.heap.size w W3 := F4 _ _ (by omega) ((HB.out.alloc HB.out.size _).trans (KB.out.mono (by simp; omega)))
    have hrow := (F2 W.heap.size (by omega)).trans ((KB.out.block W.heap.size (by simp)).trans (heap_alloc_new _ _))
    refine ⟨⟨by omega, fun k o _ hk ho => ?_⟩, ⟨by omega, fun g hg hn => hkp g (by omega) hn⟩, ⟨⟨some ⟨W.heap.size, 0, none⟩, 2, ?_, ?_⟩, hB3, by omega⟩⟩
    · rw [hkp k (Array.getElem?_eq_some_iff.1 hk).1 (fun e => by rw [e, H1.out] at hk; cases hk; cases ho)]; exact hk
    · rw [lp_snoc]; exact F1
    · rw [lp_snoc]
      refine LiesS.two (by simp [ByteArray.size]) hrow (by omega) ?_ ?_
      · exact (LiesT.inS _ _ x.2.2).keep (fun b o z hb h => cell_below hB3 _ _ h) (fun b hb _ => by omega)
      · refine H2.out.keep (fun b o z hb h => ?_) (fun b hb _ => hb)
        rw [World.cell?_of_block (hkp b (World.block_lt_of_cell? W _ h) hb)]; exact h
  case done =>
    rintro D ys W hD rfl ⟨⟨la, lc, h1, h2⟩, hb, hz⟩ hKD
    rw [hR] at h1 h2
    have H1 := Lib.hid h1
    have HB := Lib.hid hb
    have HLR := Lib.hid (LiesS.lies _ _ h2)
    have HD := Lib.hid hKD
    have hcW : w.heap.size + 1 < W.heap.size := by omega
    have q0 : W.cell? ⟨w.heap.size + 1, 0, none⟩ = some (.int .i64 R.kind) := (by rw [cell_of_row _ _ _ _ _ _ H1.out]; rfl)
    have q1 : W.cell? ⟨w.heap.size + 1, 1, none⟩ = some (.int .i64 R.num) := (by rw [cell_of_row _ _ _ _ _ _ H1.out]; rfl)
    have q2 : W.cell? ⟨w.heap.size + 1, 2, none⟩ = some (.string R.name) := (by rw [cell_of_row _ _ _ _ _ _ H1.out]; rfl)
    have q3 : W.cell? ⟨w.heap.size + 1, 3, none⟩ = some (.slice la R.args.length lc) := (by rw [cell_of_row _ _ _ _ _ _ H1.out]; rfl)
    have qf0 := frozen_of_row _ _ 0 _ _ H1.out
    have qf1 := frozen_of_row _ _ 1 _ _ H1.out
    have qf2 := frozen_of_row _ _ 2 _ _ H1.out
    have qf3 := frozen_of_row _ _ 3 _ _ H1.out
    clear h1 h2 hb hKD
    gi_wp2_with (refine ⟨trivial, ?_⟩; gi_at_call 55; refine (callsIn_wide.2 (Clone_no R _ _ HLR.out hval)).mono ?_; rintro e w4 ⟨rfl, hb4⟩; have K1 := Lib.hid ((hb4.block (w.heap.size + 1) hcW).trans H1.out); have KB := Lib.hid hb4; have r0 : w4.cell? ⟨w.heap.size + 1, 0, none⟩ = some (.int .i64 R.kind) := (by rw [cell_of_row _ _ _ _ _ _ K1.out]; rfl); have r1 : w4.cell? ⟨w.heap.size + 1, 1, none⟩ = some (.int .i64 R.num) := (by rw [cell_of_row _ _ _ _ _ _ K1.out]; rfl); have r2 : w4.cell? ⟨w.heap.size + 1, 2, none⟩ = some (.string R.name) := (by rw [cell_of_row _ _ _ _ _ _ K1.out]; rfl); have r3 : w4.cell? ⟨w.heap.size + 1, 3, none⟩ = some (.slice la R.args.length lc) := (by rw [cell_of_row _ _ _ _ _ _ K1.out]; rfl); have rf0 := frozen_of_row _ _ 0 _ _ K1.out; have rf1 := frozen_of_row _ _ 1 _ _ K1.out; have rf2 := frozen_of_row _ _ 2 _ _ K1.out; have rf3 := frozen_of_row _ _ 3 _ _ K1.out; clear hb4)
    have FO := four K1.out (.int .i64 0) (.int .i64 0) (.string ⟨#[]⟩) (.slice none 0 0)
    have hD4 : ((((w4.setCell ⟨w.heap.size + 1, 0, none⟩ (.int .i64 0)).setCell ⟨w.heap.size + 1, 1, none⟩ (.int .i64 0)).setCell ⟨w.heap.size + 1, 2, none⟩ (.string ⟨#[]⟩)).setCell ⟨w.heap.size + 1, 3, none⟩ (.slice none 0 0)).heap[D]? = some (.deferred (some [])) := (FO.2.1 D (fun e => by have h := HD.out; rw [e, H1.out] at h; cases h)).trans ((KB.out.block D (Array.getElem?_eq_some_iff.1 HD.out).1).trans HD.out)
    have hB4 := FO.2.2.2 w.heap.size w (by omega) (HB.out.trans (KB.out.mono HB.out.size))
    skip
    generalize ((((w4.setCell ⟨w.heap.size + 1, 0, none⟩ (.int .i64 0)).setCell ⟨w.heap.size + 1, 1, none⟩ (.int .i64 0)).setCell ⟨w.heap.size + 1, 2, none⟩ (.string ⟨#[]⟩)).setCell ⟨w.heap.size + 1, 3, none⟩ (.slice none 0 0)) = W4 at *
    refine ⟨by simp, .inl ⟨_, _, rfl, run_takeDeferred hD4, ?_⟩⟩
    have hg := grownBy_putObj' W4 D (.deferred none)
    have hr : ∀ r, (some D : Option Nat) = some r → ∃ o : Obj, W4.heap[r]? = some o ∧ o.isCells = false := fun r e => by cases e; exact ⟨_, hD4, rfl⟩
    have hrow := row_kept FO.1 hg hr
    have hDw : w.heap.size ≤ D := by have h := HZ.out; omega
    have hBF : Below w.heap.size w (W4.putObj D (.deferred none)) := hB4.grown hg hB4.size (fun k e => by cases e; exact hDw)
    have k0 : (W4.putObj D (.deferred none)).cell? ⟨w.heap.size + 1, 0, none⟩ = some (.int .i64 0) := (by rw [cell_of_row _ _ _ _ _ _ hrow]; rfl)
    have k1 : (W4.putObj D (.deferred none)).cell? ⟨w.heap.size + 1, 1, none⟩ = some (.int .i64 0) := (by rw [cell_of_row _ _ _ _ _ _ hrow]; rfl)
    have k2 : (W4.putObj D (.deferred none)).cell? ⟨w.heap.size + 1, 2, none⟩ = some (.string ⟨#[]⟩) := (by rw [cell_of_row _ _ _ _ _ _ hrow]; rfl)
    have k3 : (W4.putObj D (.deferred none)).cell? ⟨w.heap.size + 1, 3, none⟩ = some (.slice none 0 0) := (by rw [cell_of_row _ _ _ _ _ _ hrow]; rfl)
    exact ⟨_, by simp [results, Try.results33, go_sem, k0, k1, k2, k3], rfl, hBF⟩
  case stop =>
    rintro D c pre W _ _ h _
    exact h.elim

end Go.Proofs.Ytdgflagafilobaa
