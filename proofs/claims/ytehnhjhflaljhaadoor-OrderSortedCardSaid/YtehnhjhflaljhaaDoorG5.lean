/- Of no program: rows of terms that are rearranged in place: worlds alike but for one block; insertion sort of a list. -/
import Derived.Test.YtehnhjhflaljhaaDoorCA
import Derived.BigQuiet
import Derived.Deep.QuietTactic
namespace Go.Proofs.HT
open Go.RowKit

abbrev PV := Tm × Value

/-- All that lay in w lies unturned in w', but for block b. -/
structure Near (b : Nat) (w w' : World) : Prop where
  os : w'.os = w.os
  tape : w'.tape = w.tape
  output : w'.output = w.output
  size : w.heap.size ≤ w'.heap.size
  block : ∀ q, q < w.heap.size → q ≠ b → w'.heap[q]? = w.heap[q]?
theorem Near.refl (b : Nat) (w : World) : Near b w w := ⟨rfl, rfl, rfl, Nat.le_refl _, fun _ _ _ => rfl⟩
theorem Near.trans {b : Nat} {w w1 w2 : World} (h : Near b w w1) (k : Near b w1 w2) : Near b w w2 :=
  ⟨k.os.trans h.os, k.tape.trans h.tape, k.output.trans h.output, Nat.le_trans h.size k.size, fun q hq hb => (k.block q (Nat.lt_of_lt_of_le hq h.size) hb).trans (h.block q hq hb)⟩
theorem Near.of_below {b : Nat} {w w' : World} (h : Below w.heap.size w w') : Near b w w' := ⟨h.os, h.tape, h.output, h.size, fun q hq _ => h.block q hq⟩
theorem Near.setCell {b : Nat} {w w' : World} (h : Near b w w') (i : Nat) (u : Value) : Near b w (w'.setCell ⟨b, i, none⟩ u) :=
  ⟨h.os, h.tape, h.output, by simpa [World.setCell] using h.size, fun q hq hb => (Below.heap_setCell _ _ _ _ hb).trans (h.block q hq hb)⟩
theorem Near.drewN {b : Nat} {w w' : World} (h : Near b w w') (n : Nat) : Near b w (w'.drewN n) :=
  ⟨by simpa [World.drewN] using h.os, by simpa [World.drewN] using h.tape, by simpa [World.drewN] using h.output, by simpa [World.drewN] using h.size, fun q hq hb => by simpa [World.drewN] using h.block q hq hb⟩
theorem Near.below {b base : Nat} {w0 w w' : World} (h : Near b w w') (k : Below base w0 w) (hb : base ≤ b) (hs : base ≤ w.heap.size) : Below base w0 w' :=
  k.trans ⟨h.os, h.tape, h.output, h.size, fun q hq => h.block q (by omega) (by omega)⟩

/-- The row of terms in block b, and what lies behind it. -/
def RowAt (w : World) (b : Nat) (l : List PV) (pad : List Value) (ty : TypeId) : Prop := w.heap[b]? = some (.cells (flat l ++ pad).toArray ty (0, 0))
theorem RowAt.keep {w w' : World} {b : Nat} {l : List PV} {pad : List Value} {ty : TypeId} (h : RowAt w b l pad ty) (hb : Below w.heap.size w w') : RowAt w' b l pad ty := (hb.block b (Array.getElem?_eq_some_iff.1 h).1).trans h
theorem RowAt.drewN {w : World} {b : Nat} {l : List PV} {pad : List Value} {ty : TypeId} (h : RowAt w b l pad ty) (n : Nat) : RowAt (w.drewN n) b l pad ty := by simpa [RowAt, World.drewN] using h
theorem RowAt.drew {w : World} {b : Nat} {l : List PV} {pad : List Value} {ty : TypeId} (h : RowAt w b l pad ty) : RowAt w.drew b l pad ty := h
theorem Near.drew {b : Nat} {w w' : World} (h : Near b w w') : Near b w w'.drew := ⟨h.os, h.tape, h.output, h.size, h.block⟩
theorem flat_get : ∀ (l : List PV) (j : Nat) (h : j < l.length), (flat l)[j * 4]? = some (.int .i64 l[j].1.kind) ∧ (flat l)[j * 4 + 1]? = some (.int .i64 l[j].1.num) ∧ (flat l)[j * 4 + 2]? = some (.string l[j].1.name) ∧ (flat l)[j * 4 + 3]? = some l[j].2
  | p :: l, 0, _ => by simp [flat]
  | p :: l, j + 1, h => by
    have ih := flat_get l j (by simpa using h)
    rw [show (j + 1) * 4 = j * 4 + 4 by omega]
    simpa [flat] using ih
theorem RowAt.cells {w : World} {b : Nat} {l : List PV} {pad : List Value} {ty : TypeId} (h : RowAt w b l pad ty) (j : Nat) (hj : j < l.length) :
    w.cell? ⟨b, j * 4, none⟩ = some (.int .i64 l[j].1.kind) ∧ w.cell? ⟨b, j * 4 + 1, none⟩ = some (.int .i64 l[j].1.num) ∧ w.cell? ⟨b, j * 4 + 2, none⟩ = some (.string l[j].1.name) ∧ w.cell? ⟨b, j * 4 + 3, none⟩ = some l[j].2 := by
  have hg := flat_get l j hj
  have hl := flat_length l
  have e : ∀ k v, (flat l)[k]? = some v → w.cell? ⟨b, k, none⟩ = some v := fun k v hk => by
    rw [cell_of_row _ _ _ _ _ _ h]
    have hlt := (List.getElem?_eq_some_iff.1 hk).1
    simp [List.getElem?_append_left hlt, hk]
  exact ⟨e _ _ hg.1, e _ _ hg.2.1, e _ _ hg.2.2.1, e _ _ hg.2.2.2⟩
theorem flat_set : ∀ (l : List PV) (j : Nat) (p : PV), j < l.length → flat (l.set j p) = ((((flat l).set (j * 4) (.int .i64 p.1.kind)).set (j * 4 + 1) (.int .i64 p.1.num)).set (j * 4 + 2) (.string p.1.name)).set (j * 4 + 3) p.2
  | [], _, _, h => by simp at h
  | q :: l, 0, p, _ => by simp [flat]
  | q :: l, j + 1, p, h => by
    have ih := flat_set l j p (by simpa using h)
    rw [show (j + 1) * 4 = j * 4 + 4 by omega]
    simp [flat, ih]
/-- An element of the row stored. -/
theorem RowAt.set {w : World} {b : Nat} {l : List PV} {pad : List Value} {ty : TypeId} (h : RowAt w b l pad ty) (j : Nat) (hj : j < l.length) (p : PV) :
    RowAt ((((w.setCell ⟨b, j * 4, none⟩ (.int .i64 p.1.kind)).setCell ⟨b, j * 4 + 1, none⟩ (.int .i64 p.1.num)).setCell ⟨b, j * 4 + 2, none⟩ (.string p.1.name)).setCell ⟨b, j * 4 + 3, none⟩ p.2) b (l.set j p) pad ty := by
  have hl := flat_length l
  have e : ((((flat l ++ pad).toArray.setIfInBounds (j * 4) (.int .i64 p.1.kind)).setIfInBounds (j * 4 + 1) (.int .i64 p.1.num)).setIfInBounds (j * 4 + 2) (.string p.1.name)).setIfInBounds (j * 4 + 3) p.2 = (flat (l.set j p) ++ pad).toArray := by
    rw [flat_set l j p hj]
    simp only [List.setIfInBounds_toArray]
    rw [List.set_append_left _ _ (by omega), List.set_append_left _ _ (by simp; omega), List.set_append_left _ _ (by simp; omega), List.set_append_left _ _ (by simp; omega)]
  have h4 := heap_setCell_same _ _ (j * 4 + 3) _ _ p.2 (heap_setCell_same _ _ (j * 4 + 2) _ _ (.string p.1.name) (heap_setCell_same _ _ (j * 4 + 1) _ _ (.int .i64 p.1.num) (heap_setCell_same _ _ (j * 4) _ _ (.int .i64 p.1.kind) h)))
  rw [e] at h4
  exact h4
theorem RowAt.near {w : World} {b : Nat} (j : Nat) (p : PV) : Near b w ((((w.setCell ⟨b, j * 4, none⟩ (.int .i64 p.1.kind)).setCell ⟨b, j * 4 + 1, none⟩ (.int .i64 p.1.num)).setCell ⟨b, j * 4 + 2, none⟩ (.string p.1.name)).setCell ⟨b, j * 4 + 3, none⟩ p.2) :=
  ((((Near.refl b w).setCell _ _).setCell _ _).setCell _ _).setCell _ _

def dflt : PV := (.mk 0 0 ⟨#[]⟩ [], .slice none 0 0)
/-- Element j moves left until it isn't less than the one ahead of it. -/
def sink (cf : PV → PV → Int) (a : Nat) : Nat → List PV → List PV
  | 0, l => l
  | j + 1, l => if a < j + 1 ∧ cf (l.getD (j + 1) dflt) (l.getD j dflt) < 0 then sink cf a j ((l.set (j + 1) (l.getD j dflt)).set j (l.getD (j + 1) dflt)) else l
def isort (cf : PV → PV → Int) (a : Nat) : Nat → Nat → List PV → List PV
  | 0, _, l => l
  | m + 1, i, l => isort cf a m (i + 1) (sink cf a i l)
theorem sink_length (cf : PV → PV → Int) (a : Nat) : ∀ j l, (sink cf a j l).length = l.length
  | 0, _ => rfl
  | j + 1, l => by
    unfold sink
    split
    · rw [sink_length cf a j]; simp
    · rfl
theorem isort_length (cf : PV → PV → Int) (a : Nat) : ∀ m i l, (isort cf a m i l).length = l.length
  | 0, _, _ => rfl
  | m + 1, i, l => by rw [isort, isort_length cf a m, sink_length]
theorem swap_mem {l : List PV} {j : Nat} (hj : j + 1 < l.length) {p : PV} (h : p ∈ (l.set (j + 1) (l.getD j dflt)).set j (l.getD (j + 1) dflt)) : p ∈ l := by
  have e1 : l.getD j dflt = l[j] := by simp [List.getD, List.getElem?_eq_getElem (show j < l.length by omega)]
  have e2 : l.getD (j + 1) dflt = l[j + 1] := by simp [List.getD, List.getElem?_eq_getElem hj]
  rw [e1, e2] at h
  rcases List.mem_or_eq_of_mem_set h with h | rfl
  · rcases List.mem_or_eq_of_mem_set h with h | rfl
    · exact h
    · exact List.getElem_mem _
  · exact List.getElem_mem _

end Go.Proofs.HT
