/- The program's identical, with slices.EqualFunc; Same. -/
import Derived.Test.YteilodihjhdngaaSA
import Derived.Test.YteilodihjhdngaaRC
import Derived.Deep.RegionHeld3
import Derived.Deep.DeepCutAuto
import Derived.RangeFuncNested
import Derived.RangeFuncBound
import Derived.RangeFuncCalls
import Derived.RangeFuncLeaves
import Derived.Shelf.Abstract
import Derived.Shelf.RegionOpen
import Derived.WalkKit
import Derived.OwnWalkIn
import Derived.TacticsInMore
import Derived.LoopNIn
import Derived.LoopIn
import Derived.Test.YteilodihjhdngaaTm
namespace Go.Proofs.Yteilodihjhdngaa
open Go.RowKit Go.Proofs.HT

/-- Are two lists of the same length and identical, one by one? -/
def eqL (ts us : List Tm) : Bool := decide (ts.length = us.length) && sameL ts us
theorem eqL_not {ts us : List Tm} (h : ¬ ts.length = us.length) : eqL ts us = false := by simp [eqL, h]

end Go.Proofs.Yteilodihjhdngaa

/- The program's identical, Same. -/
namespace Go.Proofs.Yteilodihjhdngaa
open Go.RowKit Go.Proofs.HT

theorem ne_list {s s' : ByteArray} (c2 : ¬ s = s') : ¬ s.toList = s'.toList := fun h => c2 (ByteArray.ext (by rw [ByteArray.toList_eq, ByteArray.toList_eq] at h; exact Array.toList_inj.1 h))

end Go.Proofs.Yteilodihjhdngaa

/- The program's Same and Variant. -/
namespace Go.Proofs.Yteilodihjhdngaa
open Go.RowKit Go.Proofs.HT

theorem Valid_is (t : Tm) (v : Value) (b : Bool) (hb : validB t = b) (w : World) (h : LiesT w t v) : Calls Try.prog 71 #[tv t v] w fun e w' => e = .returned (.bool b) ∧ Below w.heap.size w w' := by
  subst hb; exact Valid_any t v w h
def variantV (t u : Tm) : Bool := validB t && validB u && sameB (canT t) (canT u)

end Go.Proofs.Yteilodihjhdngaa

/- slices.Backward over a slice of terms: its contract as an iterator. -/
namespace Go.Proofs.Yteilodihjhdngaa
open Go.RowKit Go.Shelf Go.Proofs.HT
attribute [local go_sem] Oper.semAt_some

/-- An element: a term that lies in w, by its slice. -/
def El (w : World) : Type := { p : Tm × Option Addr × Nat // LiesT w p.1 (.slice p.2.1 p.1.args.length p.2.2) }
def El.tm {w : World} (x : El w) : Tm := x.1.1
def El.sl {w : World} (x : El w) : Value := .slice x.1.2.1 x.1.1.args.length x.1.2.2
def e0 (w : World) : El w := ⟨(z0, none, 0), by unfold z0 LiesT; exact ⟨⟨by omega, by omega⟩, ⟨by omega, by omega⟩, by simp [ByteArray.size], .inl ⟨rfl, rfl⟩⟩⟩
abbrev encT {w : World} (x : Int × El w) : Array Value := #[.int .i64 x.1, .agg #[.int .i64 x.2.1.1.kind, .int .i64 x.2.1.1.num, .string x.2.1.1.name, .slice x.2.1.2.1 x.2.1.1.args.length x.2.1.2.2]]

/-- What a round keeps: all blocks below n but block c. -/
def KpB (c n : Nat) (W W' : World) : Prop := W.heap.size ≤ W'.heap.size ∧ ∀ g, g < n → g ≠ c → W'.heap[g]? = W.heap[g]?
theorem KpB.refl (c n : Nat) (W : World) : KpB c n W W := ⟨Nat.le_refl _, fun _ _ _ => rfl⟩
theorem KpB.trans {c n : Nat} {A B C : World} (h : KpB c n A B) (k : KpB c n B C) : KpB c n A C := ⟨Nat.le_trans h.1 k.1, fun g hg hn => (k.2 g hg hn).trans (h.2 g hg hn)⟩
theorem KpB.cell {c n : Nat} {A B : World} (h : KpB c n A B) {b o : Nat} (hb : b < n) (hc : b ≠ c) : B.cell? ⟨b, o, none⟩ = A.cell? ⟨b, o, none⟩ := World.cell?_of_block (h.2 b hb hc)

/-- What has come when k rounds are over. -/
def come {w : World} (els : List (El w)) (k : Nat) : List (Int × El w) := (List.range k).map fun (j : Nat) => ((els.length : Int) - 1 - (j : Int), els.getD (els.length - 1 - j) (e0 w))
theorem come_succ {w : World} (els : List (El w)) (k : Nat) : come els (k + 1) = come els k ++ [((els.length : Int) - 1 - k, els.getD (els.length - 1 - k) (e0 w))] := by simp [come, List.range_succ]
theorem come_len {w : World} (els : List (El w)) (k : Nat) : (come els k).length = k := by simp [come]

/-- The elements lie in block b from cell o on. -/
def LiesE (W : World) {w : World} (els : List (El w)) (b o : Nat) : Prop := ∀ (i : Nat) (h : i < els.length), W.cell? ⟨b, o + i * 4, none⟩ = some (.int .i64 els[i].1.1.kind) ∧ W.cell? ⟨b, o + i * 4 + 1, none⟩ = some (.int .i64 els[i].1.1.num) ∧ W.cell? ⟨b, o + i * 4 + 2, none⟩ = some (.string els[i].1.1.name) ∧ W.cell? ⟨b, o + i * 4 + 3, none⟩ = some (.slice els[i].1.2.1 els[i].1.1.args.length els[i].1.2.2)

/-- The slice value sv holds the elements els in a block below n that is not c; or there are none. -/
def Els (c n : Nat) (W : World) {w : World} (sv : Value) (els : List (El w)) : Prop :=
  (els = [] ∧ ∃ a cap, sv = .slice a 0 cap) ∨ ∃ b off cap, sv = .slice (some ⟨b, off, none⟩) els.length cap ∧ els.length ≤ 9223372036854775807 ∧ b < n ∧ b ≠ c ∧ LiesE W els b off

end Go.Proofs.Yteilodihjhdngaa

/- The program's List. -/
namespace Go.Proofs.Yteilodihjhdngaa
open Go.RowKit Go.Shelf Go.Proofs.HT
attribute [local go_sem] Oper.semAt_some

def consT (x T : Tm) : Tm := .mk 3 0 ⟨#[46]⟩ [x, T]
def listT (ts : List Tm) (T : Tm) : Tm := ts.foldr consT T
def lp {w : World} (T : Tm) (pre : List (Int × El w)) : Tm := pre.foldl (fun T x => consT x.2.1.1 T) T
theorem lp_snoc {w : World} (T : Tm) (pre : List (Int × El w)) (x : Int × El w) : lp T (pre ++ [x]) = consT x.2.1.1 (lp T pre) := by simp [lp]
theorem lp_come {w : World} (T : Tm) (els : List (El w)) : ∀ k, k ≤ els.length → lp T (come els k) = listT ((els.drop (els.length - k)).map fun x => x.1.1) T
  | 0, _ => by simp [come, lp, listT]
  | k + 1, h => by
    rw [come_succ, lp_snoc, lp_come T els k (by omega)]
    have e : els.length - k = els.length - (k + 1) + 1 := by omega
    have hi : els.length - (k + 1) < els.length := by omega
    have e2 : els.length - 1 - k = els.length - (k + 1) := by omega
    rw [e, List.drop_eq_getElem_cons hi, List.map_cons]
    simp only [listT, List.foldr_cons]
    rw [e2]
    simp [List.getD, hi]
theorem lp_all {w : World} (T : Tm) (els : List (El w)) : lp T (come els els.length) = listT (els.map fun x => x.1.1) T := by rw [lp_come T els _ (Nat.le_refl _)]; simp

/-- Between two rounds. -/
def LI (w : World) (T : Tm) (pre : List (Int × El w)) (W : World) : Prop :=
  (∃ la lc, W.heap[w.heap.size + 1]? = some (.cells #[.int .i64 (lp T pre).kind, .int .i64 (lp T pre).num, .string (lp T pre).name, .slice la (lp T pre).args.length lc] 24 (0, 0)) ∧ LiesS (fun b => b ≠ w.heap.size + 1) W (lp T pre) (.slice la (lp T pre).args.length lc)) ∧ Below w.heap.size w W ∧ w.heap.size + 3 ≤ W.heap.size
theorem row_kept {W W' : World} {row : Option Nat} {g : Nat} {cs : Array Value} {ty : TypeId} (h : W.heap[g]? = some (.cells cs ty (0, 0))) (hg : W.grownBy W' row) (hr : ∀ r, row = some r → ∃ o : Obj, W.heap[r]? = some o ∧ o.isCells = false) : W'.heap[g]? = some (.cells cs ty (0, 0)) := by
  rw [hg.block g (Array.getElem?_eq_some_iff.1 h).1 (fun e => by
    obtain ⟨o, ho, hc⟩ := hr g e.symm
    rw [h] at ho; cases ho; cases hc)]
  exact h
theorem LI_own (w : World) (T : Tm) (B : Nat) (hB : w.heap.size ≤ B) : OwnFrom B (LI w T) := by
  rintro pre A W row ⟨⟨la, lc, h1, h2⟩, hb, hz⟩ hg hr
  have hr2 := fun r e => (hr r e).2
  exact ⟨⟨la, lc, row_kept h1 hg hr2, h2.keep (fun b o x _ h => cell_kept h hg hr2) (fun _ h _ => h)⟩, hb.grown hg hb.size (fun k e => by have := (hr k e).1; omega), Nat.le_trans hz hg.size⟩
theorem LI_alloc {w : World} {T : Tm} {pre : List (Int × El w)} {W : World} (h : LI w T pre W) (o : Obj) : LI w T pre (W.alloc o) := (LI_own w T w.heap.size (Nat.le_refl _)).alloc o h


end Go.Proofs.Yteilodihjhdngaa

/- The program's List, for every slice of terms; Atom, Struct, Indicator. -/
namespace Go.Proofs.Yteilodihjhdngaa
open Go.RowKit Go.Proofs.HT

/-- A slice of terms. -/
abbrev LiesA (w : World) (ts : List Tm) (v : Value) : Prop := LiesT w (.mk 3 0 ⟨#[]⟩ ts) v
theorem collectG {α : Type} {p : Nat → α → Prop} : ∀ n, (∀ i, i < n → ∃ t, p i t) → ∃ ts : List α, ts.length = n ∧ ∀ (i : Nat) (h : i < ts.length), p i ts[i]
  | 0, _ => ⟨[], rfl, fun i h => absurd h (by simp)⟩
  | n + 1, h => by
    obtain ⟨ts, h1, h2⟩ := collectG n fun i hi => h i (by omega)
    obtain ⟨t, ht⟩ := h n (by omega)
    refine ⟨ts ++ [t], by simp [h1], fun i hi => ?_⟩
    by_cases e : i < ts.length
    · rw [List.getElem_append_left e]; exact h2 i e
    · obtain rfl : i = n := by simp at hi; omega
      rw [List.getElem_append_right (by omega)]
      simpa [h1] using ht
theorem els_of {w : World} {ts : List Tm} {v : Value} (h : LiesA w ts v) : ∃ (els : List (El w)) (a : Option Addr) (cap : Nat), v = .slice a els.length cap ∧ els.map (fun x => x.1.1) = ts ∧ (els = [] ∨ ∃ b off, a = some ⟨b, off, none⟩ ∧ LiesE w els b off) := by
  rcases h.len with ⟨rfl, a, cap, rfl⟩ | ⟨b, o, cap, rfl, hpos, hlc, hcap, hl⟩
  · exact ⟨[], a, cap, rfl, rfl, .inl rfl⟩
  · obtain ⟨els, hlen, hp⟩ := collectG (α := El w) (p := fun i x => ∃ hi : i < ts.length, x.1.1 = ts[i] ∧ w.cell? ⟨b, o + i * 4, none⟩ = some (.int .i64 x.1.1.kind) ∧ w.cell? ⟨b, o + i * 4 + 1, none⟩ = some (.int .i64 x.1.1.num) ∧ w.cell? ⟨b, o + i * 4 + 2, none⟩ = some (.string x.1.1.name) ∧ w.cell? ⟨b, o + i * 4 + 3, none⟩ = some (.slice x.1.2.1 x.1.1.args.length x.1.2.2)) ts.length (fun i hi => by
      obtain ⟨u, c0, c1, c2, c3, hu⟩ := hl.at i hi
      obtain ⟨ua, uc, rfl⟩ := hu.slice
      exact ⟨⟨(ts[i], ua, uc), hu⟩, hi, rfl, c0, c1, c2, c3⟩)
    refine ⟨els, _, cap, by rw [hlen], ?_, .inr ⟨b, o, rfl, fun i hi => (hp i hi).2.2⟩⟩
    refine List.ext_getElem (by simp [hlen]) fun i h1 h2 => ?_
    rw [List.getElem_map]
    exact (hp i (by simpa using h1)).2.1

theorem cnt_listT (T : Tm) : ∀ ts : List Tm, ts.length < cnt (listT ts T)
  | [] => by have := cnt_pos T; simp [listT]; omega
  | t :: ts => by
    have h := cnt_listT T ts
    have h2 := cnt_pos t
    simp only [listT, List.foldr_cons, consT, cnt, cntL, List.length_cons] at h ⊢
    omega

theorem atom_lies {w : World} {nm : ByteArray} (h : nm.size ≤ 9223372036854775807) : LiesT w (.mk 2 0 nm []) (.slice none 0 0) := by
  unfold LiesT; exact ⟨⟨by omega, by omega⟩, ⟨by omega, by omega⟩, h, .inl ⟨rfl, rfl⟩⟩
/-- A call that returns a term if it is valid, else the zero term. -/
def MadeV (t : Tm) (w : World) (e : Ending) (w' : World) : Prop := MadeEnd (if validB t = true then t else z0) w e w'
theorem MadeV.yes {t : Tm} {w w' : World} {e : Ending} (hv : validB t = true) (h : MadeEnd t w e w') : MadeV t w e w' := by unfold MadeV; rw [if_pos hv]; exact h
theorem MadeV.no {t : Tm} {w w' : World} {e : Ending} (hv : validB t = false) (h : e = .returned zv ∧ Below w.heap.size w w') : MadeV t w e w' := by
  unfold MadeV; rw [if_neg (by rw [hv]; simp)]
  exact ⟨.slice none 0 0, h.1, zero_own, h.2⟩
theorem Clone_v (t : Tm) (v : Value) (w : World) (h : LiesT w t v) : Calls Try.prog 73 #[tv t v] w (MadeV t w) := by
  rcases Bool.eq_false_or_eq_true (validB t) with hv | hv
  · exact (Clone_yes t v w h hv).mono fun e w' => MadeV.yes hv
  · exact (Clone_no t v w h hv).mono fun e w' => MadeV.no hv
theorem made_end1 {w w2 : World} {T : Tm} {y : Value} {a0 a1 a2 a3 : Value} (hb : Below w.heap.size w w2) (hy : OwnT (fun b => w.heap.size + 1 ≤ b ∧ b < w2.heap.size) w2 T y) (h : w2.heap[w.heap.size]? = some (.cells #[a0, a1, a2, a3] 24 (0, 0)))
    (w3 : World) (e : w3 = ((((w2.setCell ⟨w.heap.size, 0, none⟩ (.int .i64 T.kind)).setCell ⟨w.heap.size, 1, none⟩ (.int .i64 T.num)).setCell ⟨w.heap.size, 2, none⟩ (.string T.name)).setCell ⟨w.heap.size, 3, none⟩ y)) :
    MadeEnd T w (.returned (tv T y)) w3 := by
  obtain ⟨F1, F2, F3, F4⟩ := four h (.int .i64 T.kind) (.int .i64 T.num) (.string T.name) y
  rw [← e] at F1 F2 F3 F4
  exact ⟨y, rfl, hy.keep (fun b hb => F2 b (by omega)) (fun b hb _ => ⟨by omega, by omega⟩), F4 _ _ (by omega) hb⟩

set_option maxHeartbeats 1000000 in
theorem Atom_v (nm : ByteArray) (w : World) (hn : nm.size ≤ 9223372036854775807) : Calls Try.prog 91 #[.string nm] w (MadeV (.mk 2 0 nm []) w) := by
  obtain ⟨Q, hQ⟩ : ∃ Q, (if validB (.mk 2 0 nm []) = true then (.mk 2 0 nm []) else z0) = Q := ⟨_, rfl⟩
  unfold MadeV
  rw [hQ]
  have HQ := Lib.hid hQ
  clear hQ
  have HN := Lib.hid hn
  clear hn
  have BX : Hid (∀ o, Below w.heap.size w (w.alloc o)) := fun o => (Below.refl _ _).alloc (Nat.le_refl _) o
  have R1 : Hid (∀ o, (w.alloc o).heap[w.heap.size]? = some o) := fun o => heap_alloc_new w o
  go_enter Try.func91, Try.ntmps91
  go_wp2_with (first
    | (go_at_call 96; refine (atom_any _ _).mono ?_; rintro e w1 ⟨rfl, hb1⟩; have z1 : w.heap.size + 1 ≤ w1.heap.size := (by have := hb1.size; simp at this; omega); have K1 := Lib.hid ((hb1.block w.heap.size (by simp)).trans (R1.out _)); have B1 := Lib.hid ((BX.out _).trans (hb1.mono (by simp))); clear hb1)
    | (go_at_call 73; refine (Clone_v (.mk 2 0 nm []) _ _ (atom_lies HN.out)).mono ?_; rintro e w2 ⟨y, rfl, hy, hb2⟩; rw [HQ.out] at hy; rw [HQ.out]; obtain ⟨ya, yc, rfl⟩ := hy.slice; have K2 := Lib.hid ((hb2.block w.heap.size (by omega)).trans K1.out); have KB := Lib.hid (B1.out.trans (hb2.mono B1.out.size)); have KY := Lib.hid hy; have KS : Hid (w.heap.size + 1 ≤ w1.heap.size) := z1; have d0 : w2.cell? ⟨w.heap.size, 0, none⟩ = some (.int .i64 0) := (by rw [cell_of_row _ _ _ _ _ _ K2.out]; rfl); have d1 : w2.cell? ⟨w.heap.size, 1, none⟩ = some (.int .i64 0) := (by rw [cell_of_row _ _ _ _ _ _ K2.out]; rfl); have d2 : w2.cell? ⟨w.heap.size, 2, none⟩ = some (.string ⟨#[]⟩) := (by rw [cell_of_row _ _ _ _ _ _ K2.out]; rfl); have d3 : w2.cell? ⟨w.heap.size, 3, none⟩ = some (.slice none 0 0) := (by rw [cell_of_row _ _ _ _ _ _ K2.out]; rfl); have df0 := frozen_of_row _ _ 0 _ _ K2.out; have df1 := frozen_of_row _ _ 1 _ _ K2.out; have df2 := frozen_of_row _ _ 2 _ _ K2.out; have df3 := frozen_of_row _ _ 3 _ _ K2.out; clear hb2 hy))
  have FO := four K2.out (.int .i64 Q.kind) (.int .i64 Q.num) (.string Q.name) (.slice ya Q.args.length yc)
  have PE := made_end1 (T := Q) KB.out (KY.out.keep (fun _ _ => rfl) (fun b hb _ => by have := hb.1; have := KS.out; exact ⟨by omega, hb.2⟩)) K2.out _ rfl
  generalize ((((w2.setCell ⟨w.heap.size, 0, none⟩ (.int .i64 Q.kind)).setCell ⟨w.heap.size, 1, none⟩ (.int .i64 Q.num)).setCell ⟨w.heap.size, 2, none⟩ (.string Q.name)).setCell ⟨w.heap.size, 3, none⟩ (.slice ya Q.args.length yc)) = W3 at *
  have k0 : W3.cell? ⟨w.heap.size, 0, none⟩ = some (.int .i64 Q.kind) := by rw [cell_of_row _ _ _ _ _ _ FO.1]; rfl
  have k1 : W3.cell? ⟨w.heap.size, 1, none⟩ = some (.int .i64 Q.num) := by rw [cell_of_row _ _ _ _ _ _ FO.1]; rfl
  have k2 : W3.cell? ⟨w.heap.size, 2, none⟩ = some (.string Q.name) := by rw [cell_of_row _ _ _ _ _ _ FO.1]; rfl
  have k3 : W3.cell? ⟨w.heap.size, 3, none⟩ = some (.slice ya Q.args.length yc) := by rw [cell_of_row _ _ _ _ _ _ FO.1]; rfl
  exact bodyPost_ret (v := .agg #[.int .i64 Q.kind, .int .i64 Q.num, .string Q.name, .slice ya Q.args.length yc]) (by simp [results, Try.results91, go_sem, k0, k1, k2, k3]) rfl PE

theorem struct_lies {w : World} {nm : ByteArray} {ts : List Tm} {v : Value} (hn : nm.size ≤ 9223372036854775807) (h : LiesA w ts v) : LiesT w (.mk 3 0 nm ts) v := by
  unfold LiesA at h
  unfold LiesT at h ⊢
  exact ⟨h.1, h.2.1, hn, h.2.2.2⟩

set_option maxHeartbeats 1000000 in
theorem Struct_some (nm : ByteArray) (ts : List Tm) (a : Option Addr) (cap : Nat) (w : World) (hn : nm.size ≤ 9223372036854775807) (hl : LiesA w ts (.slice a ts.length cap)) (hz : ¬ ts = []) : Calls Try.prog 81 #[.string nm, .slice a ts.length cap] w (MadeV (.mk 3 0 nm ts) w) := by
  obtain ⟨Q, hQ⟩ : ∃ Q, (if validB (.mk 3 0 nm ts) = true then (.mk 3 0 nm ts) else z0) = Q := ⟨_, rfl⟩
  unfold MadeV
  rw [hQ]
  have HQ := Lib.hid hQ
  clear hQ
  have HN := Lib.hid hn
  have HL := Lib.hid hl
  have hz1 : ((ts.length : Int) == 0) = false := by have := List.length_pos_iff.2 hz; simp; omega
  clear hn hl hz
  have BX : Hid (∀ o, Below w.heap.size w (w.alloc o)) := fun o => (Below.refl _ _).alloc (Nat.le_refl _) o
  have R1 : Hid (∀ o, (w.alloc o).heap[w.heap.size]? = some o) := fun o => heap_alloc_new w o
  go_enter Try.func81, Try.ntmps81
  go_wp2_with (first
    | (go_at_call 92; refine (structure_any _ _ _ _ _).mono ?_; rintro e w1 ⟨rfl, hb1⟩; have z1 : w.heap.size + 1 ≤ w1.heap.size := (by have := hb1.size; simp at this; omega); have K1 := Lib.hid ((hb1.block w.heap.size (by simp)).trans (R1.out _)); have B1 := Lib.hid ((BX.out _).trans (hb1.mono (by simp))); clear hb1)
    | (go_at_call 73; refine (Clone_v (.mk 3 0 nm ts) _ _ (struct_lies HN.out (HL.out.below B1.out))).mono ?_; rintro e w2 ⟨y, rfl, hy, hb2⟩; rw [HQ.out] at hy; rw [HQ.out]; obtain ⟨ya, yc, rfl⟩ := hy.slice; have K2 := Lib.hid ((hb2.block w.heap.size (by omega)).trans K1.out); have KB := Lib.hid (B1.out.trans (hb2.mono B1.out.size)); have KY := Lib.hid hy; have KS : Hid (w.heap.size + 1 ≤ w1.heap.size) := z1; have d0 : w2.cell? ⟨w.heap.size, 0, none⟩ = some (.int .i64 0) := (by rw [cell_of_row _ _ _ _ _ _ K2.out]; rfl); have d1 : w2.cell? ⟨w.heap.size, 1, none⟩ = some (.int .i64 0) := (by rw [cell_of_row _ _ _ _ _ _ K2.out]; rfl); have d2 : w2.cell? ⟨w.heap.size, 2, none⟩ = some (.string ⟨#[]⟩) := (by rw [cell_of_row _ _ _ _ _ _ K2.out]; rfl); have d3 : w2.cell? ⟨w.heap.size, 3, none⟩ = some (.slice none 0 0) := (by rw [cell_of_row _ _ _ _ _ _ K2.out]; rfl); have df0 := frozen_of_row _ _ 0 _ _ K2.out; have df1 := frozen_of_row _ _ 1 _ _ K2.out; have df2 := frozen_of_row _ _ 2 _ _ K2.out; have df3 := frozen_of_row _ _ 3 _ _ K2.out; clear hb2 hy))
  have FO := four K2.out (.int .i64 Q.kind) (.int .i64 Q.num) (.string Q.name) (.slice ya Q.args.length yc)
  have PE := made_end1 (T := Q) KB.out (KY.out.keep (fun _ _ => rfl) (fun b hb _ => by have := hb.1; have := KS.out; exact ⟨by omega, hb.2⟩)) K2.out _ rfl
  generalize ((((w2.setCell ⟨w.heap.size, 0, none⟩ (.int .i64 Q.kind)).setCell ⟨w.heap.size, 1, none⟩ (.int .i64 Q.num)).setCell ⟨w.heap.size, 2, none⟩ (.string Q.name)).setCell ⟨w.heap.size, 3, none⟩ (.slice ya Q.args.length yc)) = W3 at *
  have k0 : W3.cell? ⟨w.heap.size, 0, none⟩ = some (.int .i64 Q.kind) := by rw [cell_of_row _ _ _ _ _ _ FO.1]; rfl
  have k1 : W3.cell? ⟨w.heap.size, 1, none⟩ = some (.int .i64 Q.num) := by rw [cell_of_row _ _ _ _ _ _ FO.1]; rfl
  have k2 : W3.cell? ⟨w.heap.size, 2, none⟩ = some (.string Q.name) := by rw [cell_of_row _ _ _ _ _ _ FO.1]; rfl
  have k3 : W3.cell? ⟨w.heap.size, 3, none⟩ = some (.slice ya Q.args.length yc) := by rw [cell_of_row _ _ _ _ _ _ FO.1]; rfl
  exact bodyPost_ret (v := .agg #[.int .i64 Q.kind, .int .i64 Q.num, .string Q.name, .slice ya Q.args.length yc]) (by simp [results, Try.results81, go_sem, k0, k1, k2, k3]) rfl PE

set_option maxHeartbeats 1000000 in
theorem Struct_none (nm : ByteArray) (a : Option Addr) (cap : Nat) (w : World) (hn : nm.size ≤ 9223372036854775807) : Calls Try.prog 81 #[.string nm, .slice a 0 cap] w (MadeV (.mk 2 0 nm []) w) := by
  obtain ⟨Q, hQ⟩ : ∃ Q, (if validB (.mk 2 0 nm []) = true then (.mk 2 0 nm []) else z0) = Q := ⟨_, rfl⟩
  unfold MadeV
  rw [hQ]
  have HQ := Lib.hid hQ
  clear hQ
  have HN := Lib.hid hn
  clear hn
  have BX : Hid (∀ o, Below w.heap.size w (w.alloc o)) := fun o => (Below.refl _ _).alloc (Nat.le_refl _) o
  have R1 : Hid (∀ o, (w.alloc o).heap[w.heap.size]? = some o) := fun o => heap_alloc_new w o
  go_enter Try.func81, Try.ntmps81
  go_wp2_with (first
    | (go_at_call 91; refine (Atom_v nm _ HN.out).mono ?_; rintro e w2 ⟨y, rfl, hy, hb2⟩; rw [HQ.out] at hy; rw [HQ.out]; obtain ⟨ya, yc, rfl⟩ := hy.slice; have K2 := Lib.hid ((hb2.block w.heap.size (by simp)).trans (R1.out _)); have KB := Lib.hid ((BX.out _).trans (hb2.mono (by simp))); have KY := Lib.hid hy; have KS : Hid (∀ o, w.heap.size + 1 ≤ (w.alloc o).heap.size) := fun o => (by simp); have d0 : w2.cell? ⟨w.heap.size, 0, none⟩ = some (.int .i64 0) := (by rw [cell_of_row _ _ _ _ _ _ K2.out]; rfl); have d1 : w2.cell? ⟨w.heap.size, 1, none⟩ = some (.int .i64 0) := (by rw [cell_of_row _ _ _ _ _ _ K2.out]; rfl); have d2 : w2.cell? ⟨w.heap.size, 2, none⟩ = some (.string ⟨#[]⟩) := (by rw [cell_of_row _ _ _ _ _ _ K2.out]; rfl); have d3 : w2.cell? ⟨w.heap.size, 3, none⟩ = some (.slice none 0 0) := (by rw [cell_of_row _ _ _ _ _ _ K2.out]; rfl); have df0 := frozen_of_row _ _ 0 _ _ K2.out; have df1 := frozen_of_row _ _ 1 _ _ K2.out; have df2 := frozen_of_row _ _ 2 _ _ K2.out; have df3 := frozen_of_row _ _ 3 _ _ K2.out; clear hb2 hy))
  have FO := four K2.out (.int .i64 Q.kind) (.int .i64 Q.num) (.string Q.name) (.slice ya Q.args.length yc)
  have PE := made_end1 (T := Q) KB.out (KY.out.keep (fun _ _ => rfl) (fun b hb _ => by have := hb.1; simp at this; exact ⟨by omega, hb.2⟩)) K2.out _ rfl
  generalize ((((w2.setCell ⟨w.heap.size, 0, none⟩ (.int .i64 Q.kind)).setCell ⟨w.heap.size, 1, none⟩ (.int .i64 Q.num)).setCell ⟨w.heap.size, 2, none⟩ (.string Q.name)).setCell ⟨w.heap.size, 3, none⟩ (.slice ya Q.args.length yc)) = W3 at *
  have k0 : W3.cell? ⟨w.heap.size, 0, none⟩ = some (.int .i64 Q.kind) := by rw [cell_of_row _ _ _ _ _ _ FO.1]; rfl
  have k1 : W3.cell? ⟨w.heap.size, 1, none⟩ = some (.int .i64 Q.num) := by rw [cell_of_row _ _ _ _ _ _ FO.1]; rfl
  have k2 : W3.cell? ⟨w.heap.size, 2, none⟩ = some (.string Q.name) := by rw [cell_of_row _ _ _ _ _ _ FO.1]; rfl
  have k3 : W3.cell? ⟨w.heap.size, 3, none⟩ = some (.slice ya Q.args.length yc) := by rw [cell_of_row _ _ _ _ _ _ FO.1]; rfl
  exact bodyPost_ret (v := .agg #[.int .i64 Q.kind, .int .i64 Q.num, .string Q.name, .slice ya Q.args.length yc]) (by simp [results, Try.results81, go_sem, k0, k1, k2, k3]) rfl PE

end Go.Proofs.Yteilodihjhdngaa
