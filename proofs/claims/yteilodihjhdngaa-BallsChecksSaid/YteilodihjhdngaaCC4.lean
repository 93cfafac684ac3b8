/- Stores of many cells. -/
import Derived.Test.YteilodihjhdngaaCC1
import Derived.Test.YteilodihjhdngaaCC2
import Derived.Test.YteilodihjhdngaaBZ
import Derived.Deep.DeepCutAuto
set_option linter.unusedVariables false
set_option linter.unusedSimpArgs false
namespace Go.Proofs.Yteilodihjhdngaa
open Go.RowKit Go.Proofs.HT

/-- A block's cells. -/
def RowA (w : World) (b : Nat) (cs : Array Value) (ty : TypeId) : Prop := w.heap[b]? = some (.cells cs ty (0, 0))
theorem RowA.below {w w' : World} {b : Nat} {cs : Array Value} {ty : TypeId} (h : RowA w b cs ty) (hb : Below w.heap.size w w') : RowA w' b cs ty := (hb.block b (Array.getElem?_eq_some_iff.1 h).1).trans h
theorem RowA.lt {w : World} {b : Nat} {cs : Array Value} {ty : TypeId} (h : RowA w b cs ty) : b < w.heap.size := (Array.getElem?_eq_some_iff.1 h).1
theorem RowA.cell {w : World} {b : Nat} {cs : Array Value} {ty : TypeId} (h : RowA w b cs ty) (j : Nat) : w.cell? ⟨b, j, none⟩ = cs[j]? := cell_of_row _ _ _ _ _ _ h
theorem RowA.froz {w : World} {b : Nat} {cs : Array Value} {ty : TypeId} (h : RowA w b cs ty) (j : Nat) : w.frozen? ⟨b, j, none⟩ = false := frozen_of_row _ _ j _ _ h
/-- A term whose blocks are new since. -/
def OwnA (lo : Nat) (w : World) (T : Tm) (v : Value) : Prop := OwnT (fun b => lo ≤ b ∧ b < w.heap.size) w T v
theorem OwnA.below {lo : Nat} {w w' : World} {T : Tm} {v : Value} (h : OwnA lo w T v) (hb : Below w.heap.size w w') : OwnA lo w' T v :=
  OwnT.keep (fun b hb2 => hb.block b hb2.2) (fun b hb2 _ => ⟨hb2.1, by have := hb.size; omega⟩) T v h
theorem OwnA.mk {lo : Nat} {w w' : World} {T : Tm} {v : Value} (h : OwnT (fun b => w.heap.size ≤ b ∧ b < w'.heap.size) w' T v) (hl : lo ≤ w.heap.size) : OwnA lo w' T v :=
  OwnT.keep (fun _ _ => rfl) (fun b hb2 _ => ⟨by have := hb2.1; omega, hb2.2⟩) T v h
/-- Many cells of one block, written in their order. -/
def stores (w : World) (c : Nat) : Nat → List Value → World
  | _, [] => w
  | i, x :: xs => stores (w.setCell ⟨c, i, none⟩ x) c (i + 1) xs
def writes (cs : Array Value) : Nat → List Value → Array Value
  | _, [] => cs
  | i, x :: xs => writes (cs.setIfInBounds i x) (i + 1) xs
theorem stores_row {c : Nat} {ty : TypeId} : ∀ (xs : List Value) (i : Nat) (w : World) (cs : Array Value), RowA w c cs ty → RowA (stores w c i xs) c (writes cs i xs) ty
  | [], _, _, _, h => h
  | x :: xs, i, _, _, h => stores_row xs (i + 1) _ _ (heap_setCell_same _ _ i _ _ x h)
theorem stores_other {c : Nat} : ∀ (xs : List Value) (i : Nat) (w : World), (∀ g, g ≠ c → (stores w c i xs).heap[g]? = w.heap[g]?) ∧ (stores w c i xs).heap.size = w.heap.size ∧ (∀ B W0, B ≤ c → Below B W0 w → Below B W0 (stores w c i xs))
  | [], _, _ => ⟨fun _ _ => rfl, rfl, fun _ _ _ h => h⟩
  | x :: xs, i, w => by
    obtain ⟨h1, h2, h3⟩ := stores_other (c := c) xs (i + 1) (w.setCell ⟨c, i, none⟩ x)
    refine ⟨fun g hg => (h1 g hg).trans (Below.heap_setCell _ _ _ _ hg), h2.trans (by simp [World.setCell]), fun B W0 hB hb => h3 B W0 hB (hb.setCell (p := ⟨c, i, none⟩) hB x)⟩
theorem OwnA.put {lo : Nat} {w w' : World} {T : Tm} {v : Value} {c : Nat} (h : OwnA lo w T v) (hc : c < lo) (h1 : ∀ g, g ≠ c → w'.heap[g]? = w.heap[g]?) (h2 : w'.heap.size = w.heap.size) : OwnA lo w' T v :=
  OwnT.keep (fun b hb2 => h1 b (by have := hb2.1; omega)) (fun b hb2 _ => ⟨hb2.1, by rw [h2]; exact hb2.2⟩) T v h
theorem RowA.other {w w' : World} {b : Nat} {cs : Array Value} {ty : TypeId} (h : RowA w b cs ty) (e : w'.heap[b]? = w.heap[b]?) : RowA w' b cs ty := e.trans h
theorem RowT.other {w w' : World} {b : Nat} {t : Tm} {v : Value} (h : RowT w b t v) (e : w'.heap[b]? = w.heap[b]?) : RowT w' b t v := e.trans h
theorem OwnA.lies {lo : Nat} {w : World} {T : Tm} {v : Value} (h : OwnA lo w T v) : LiesT w T v := OwnT.lies _ _ h

theorem store8_w (x0 x1 x2 x3 x4 x5 x6 x7 : Value) : writes #[.bool false, .bool false, .bool false, .bool false, .bool false, .bool false, .bool false, .bool false] 0 [x0, x1, x2, x3, x4, x5, x6, x7] = #[x0, x1, x2, x3, x4, x5, x6, x7] := by kernel_rfl
theorem store8 {w : World} {c : Nat} {ty : TypeId} (h : RowA w c #[.bool false, .bool false, .bool false, .bool false, .bool false, .bool false, .bool false, .bool false] ty) (x0 x1 x2 x3 x4 x5 x6 x7 : Value) :
    RowA ((((((((w.setCell ⟨c, 0, none⟩ x0).setCell ⟨c, 1, none⟩ x1).setCell ⟨c, 2, none⟩ x2).setCell ⟨c, 3, none⟩ x3).setCell ⟨c, 4, none⟩ x4).setCell ⟨c, 5, none⟩ x5).setCell ⟨c, 6, none⟩ x6).setCell ⟨c, 7, none⟩ x7) c #[x0, x1, x2, x3, x4, x5, x6, x7] ty ∧ (∀ g, g ≠ c → ((((((((w.setCell ⟨c, 0, none⟩ x0).setCell ⟨c, 1, none⟩ x1).setCell ⟨c, 2, none⟩ x2).setCell ⟨c, 3, none⟩ x3).setCell ⟨c, 4, none⟩ x4).setCell ⟨c, 5, none⟩ x5).setCell ⟨c, 6, none⟩ x6).setCell ⟨c, 7, none⟩ x7).heap[g]? = w.heap[g]?) ∧ ((((((((w.setCell ⟨c, 0, none⟩ x0).setCell ⟨c, 1, none⟩ x1).setCell ⟨c, 2, none⟩ x2).setCell ⟨c, 3, none⟩ x3).setCell ⟨c, 4, none⟩ x4).setCell ⟨c, 5, none⟩ x5).setCell ⟨c, 6, none⟩ x6).setCell ⟨c, 7, none⟩ x7).heap.size = w.heap.size ∧ (∀ B W0, B ≤ c → Below B W0 w → Below B W0 ((((((((w.setCell ⟨c, 0, none⟩ x0).setCell ⟨c, 1, none⟩ x1).setCell ⟨c, 2, none⟩ x2).setCell ⟨c, 3, none⟩ x3).setCell ⟨c, 4, none⟩ x4).setCell ⟨c, 5, none⟩ x5).setCell ⟨c, 6, none⟩ x6).setCell ⟨c, 7, none⟩ x7)) := by
  have h1 := stores_row [x0, x1, x2, x3, x4, x5, x6, x7] 0 w _ h
  rw [store8_w] at h1
  exact ⟨h1, stores_other [x0, x1, x2, x3, x4, x5, x6, x7] 0 w⟩
theorem store32_w (x0 x1 x2 x3 x4 x5 x6 x7 x8 x9 x10 x11 x12 x13 x14 x15 x16 x17 x18 x19 x20 x21 x22 x23 x24 x25 x26 x27 x28 x29 x30 x31 : Value) : writes #[.int .i64 0, .int .i64 0, .string ⟨#[]⟩, .slice none 0 0, .int .i64 0, .int .i64 0, .string ⟨#[]⟩, .slice none 0 0, .int .i64 0, .int .i64 0, .string ⟨#[]⟩, .slice none 0 0, .int .i64 0, .int .i64 0, .string ⟨#[]⟩, .slice none 0 0, .int .i64 0, .int .i64 0, .string ⟨#[]⟩, .slice none 0 0, .int .i64 0, .int .i64 0, .string ⟨#[]⟩, .slice none 0 0, .int .i64 0, .int .i64 0, .string ⟨#[]⟩, .slice none 0 0, .int .i64 0, .int .i64 0, .string ⟨#[]⟩, .slice none 0 0] 0 [x0, x1, x2, x3, x4, x5, x6, x7, x8, x9, x10, x11, x12, x13, x14, x15, x16, x17, x18, x19, x20, x21, x22, x23, x24, x25, x26, x27, x28, x29, x30, x31] = #[x0, x1, x2, x3, x4, x5, x6, x7, x8, x9, x10, x11, x12, x13, x14, x15, x16, x17, x18, x19, x20, x21, x22, x23, x24, x25, x26, x27, x28, x29, x30, x31] := by kernel_rfl
theorem store32 {w : World} {c : Nat} {ty : TypeId} (h : RowA w c #[.int .i64 0, .int .i64 0, .string ⟨#[]⟩, .slice none 0 0, .int .i64 0, .int .i64 0, .string ⟨#[]⟩, .slice none 0 0, .int .i64 0, .int .i64 0, .string ⟨#[]⟩, .slice none 0 0, .int .i64 0, .int .i64 0, .string ⟨#[]⟩, .slice none 0 0, .int .i64 0, .int .i64 0, .string ⟨#[]⟩, .slice none 0 0, .int .i64 0, .int .i64 0, .string ⟨#[]⟩, .slice none 0 0, .int .i64 0, .int .i64 0, .string ⟨#[]⟩, .slice none 0 0, .int .i64 0, .int .i64 0, .string ⟨#[]⟩, .slice none 0 0] ty) (x0 x1 x2 x3 x4 x5 x6 x7 x8 x9 x10 x11 x12 x13 x14 x15 x16 x17 x18 x19 x20 x21 x22 x23 x24 x25 x26 x27 x28 x29 x30 x31 : Value) :
    RowA ((((((((((((((((((((((((((((((((w.setCell ⟨c, 0, none⟩ x0).setCell ⟨c, 1, none⟩ x1).setCell ⟨c, 2, none⟩ x2).setCell ⟨c, 3, none⟩ x3).setCell ⟨c, 4, none⟩ x4).setCell ⟨c, 5, none⟩ x5).setCell ⟨c, 6, none⟩ x6).setCell ⟨c, 7, none⟩ x7).setCell ⟨c, 8, none⟩ x8).setCell ⟨c, 9, none⟩ x9).setCell ⟨c, 10, none⟩ x10).setCell ⟨c, 11, none⟩ x11).setCell ⟨c, 12, none⟩ x12).setCell ⟨c, 13, none⟩ x13).setCell ⟨c, 14, none⟩ x14).setCell ⟨c, 15, none⟩ x15).setCell ⟨c, 16, none⟩ x16).setCell ⟨c, 17, none⟩ x17).setCell ⟨c, 18, none⟩ x18).setCell ⟨c, 19, none⟩ x19).setCell ⟨c, 20, none⟩ x20).setCell ⟨c, 21, none⟩ x21).setCell ⟨c, 22, none⟩ x22).setCell ⟨c, 23, none⟩ x23).setCell ⟨c, 24, none⟩ x24).setCell ⟨c, 25, none⟩ x25).setCell ⟨c, 26, none⟩ x26).setCell ⟨c, 27, none⟩ x27).setCell ⟨c, 28, none⟩ x28).setCell ⟨c, 29, none⟩ x29).setCell ⟨c, 30, none⟩ x30).setCell ⟨c, 31, none⟩ x31) c #[x0, x1, x2, x3, x4, x5, x6, x7, x8, x9, x10, x11, x12, x13, x14, x15, x16, x17, x18, x19, x20, x21, x22, x23, x24, x25, x26, x27, x28, x29, x30, x31] ty ∧ (∀ g, g ≠ c → ((((((((((((((((((((((((((((((((w.setCell ⟨c, 0, none⟩ x0).setCell ⟨c, 1, none⟩ x1).setCell ⟨c, 2, none⟩ x2).setCell ⟨c, 3, none⟩ x3).setCell ⟨c, 4, none⟩ x4).setCell ⟨c, 5, none⟩ x5).setCell ⟨c, 6, none⟩ x6).setCell ⟨c, 7, none⟩ x7).setCell ⟨c, 8, none⟩ x8).setCell ⟨c, 9, none⟩ x9).setCell ⟨c, 10, none⟩ x10).setCell ⟨c, 11, none⟩ x11).setCell ⟨c, 12, none⟩ x12).setCell ⟨c, 13, none⟩ x13).setCell ⟨c, 14, none⟩ x14).setCell ⟨c, 15, none⟩ x15).setCell ⟨c, 16, none⟩ x16).setCell ⟨c, 17, none⟩ x17).setCell ⟨c, 18, none⟩ x18).setCell ⟨c, 19, none⟩ x19).setCell ⟨c, 20, none⟩ x20).setCell ⟨c, 21, none⟩ x21).setCell ⟨c, 22, none⟩ x22).setCell ⟨c, 23, none⟩ x23).setCell ⟨c, 24, none⟩ x24).setCell ⟨c, 25, none⟩ x25).setCell ⟨c, 26, none⟩ x26).setCell ⟨c, 27, none⟩ x27).setCell ⟨c, 28, none⟩ x28).setCell ⟨c, 29, none⟩ x29).setCell ⟨c, 30, none⟩ x30).setCell ⟨c, 31, none⟩ x31).heap[g]? = w.heap[g]?) ∧ ((((((((((((((((((((((((((((((((w.setCell ⟨c, 0, none⟩ x0).setCell ⟨c, 1, none⟩ x1).setCell ⟨c, 2, none⟩ x2).setCell ⟨c, 3, none⟩ x3).setCell ⟨c, 4, none⟩ x4).setCell ⟨c, 5, none⟩ x5).setCell ⟨c, 6, none⟩ x6).setCell ⟨c, 7, none⟩ x7).setCell ⟨c, 8, none⟩ x8).setCell ⟨c, 9, none⟩ x9).setCell ⟨c, 10, none⟩ x10).setCell ⟨c, 11, none⟩ x11).setCell ⟨c, 12, none⟩ x12).setCell ⟨c, 13, none⟩ x13).setCell ⟨c, 14, none⟩ x14).setCell ⟨c, 15, none⟩ x15).setCell ⟨c, 16, none⟩ x16).setCell ⟨c, 17, none⟩ x17).setCell ⟨c, 18, none⟩ x18).setCell ⟨c, 19, none⟩ x19).setCell ⟨c, 20, none⟩ x20).setCell ⟨c, 21, none⟩ x21).setCell ⟨c, 22, none⟩ x22).setCell ⟨c, 23, none⟩ x23).setCell ⟨c, 24, none⟩ x24).setCell ⟨c, 25, none⟩ x25).setCell ⟨c, 26, none⟩ x26).setCell ⟨c, 27, none⟩ x27).setCell ⟨c, 28, none⟩ x28).setCell ⟨c, 29, none⟩ x29).setCell ⟨c, 30, none⟩ x30).setCell ⟨c, 31, none⟩ x31).heap.size = w.heap.size ∧ (∀ B W0, B ≤ c → Below B W0 w → Below B W0 ((((((((((((((((((((((((((((((((w.setCell ⟨c, 0, none⟩ x0).setCell ⟨c, 1, none⟩ x1).setCell ⟨c, 2, none⟩ x2).setCell ⟨c, 3, none⟩ x3).setCell ⟨c, 4, none⟩ x4).setCell ⟨c, 5, none⟩ x5).setCell ⟨c, 6, none⟩ x6).setCell ⟨c, 7, none⟩ x7).setCell ⟨c, 8, none⟩ x8).setCell ⟨c, 9, none⟩ x9).setCell ⟨c, 10, none⟩ x10).setCell ⟨c, 11, none⟩ x11).setCell ⟨c, 12, none⟩ x12).setCell ⟨c, 13, none⟩ x13).setCell ⟨c, 14, none⟩ x14).setCell ⟨c, 15, none⟩ x15).setCell ⟨c, 16, none⟩ x16).setCell ⟨c, 17, none⟩ x17).setCell ⟨c, 18, none⟩ x18).setCell ⟨c, 19, none⟩ x19).setCell ⟨c, 20, none⟩ x20).setCell ⟨c, 21, none⟩ x21).setCell ⟨c, 22, none⟩ x22).setCell ⟨c, 23, none⟩ x23).setCell ⟨c, 24, none⟩ x24).setCell ⟨c, 25, none⟩ x25).setCell ⟨c, 26, none⟩ x26).setCell ⟨c, 27, none⟩ x27).setCell ⟨c, 28, none⟩ x28).setCell ⟨c, 29, none⟩ x29).setCell ⟨c, 30, none⟩ x30).setCell ⟨c, 31, none⟩ x31)) := by
  have h1 := stores_row [x0, x1, x2, x3, x4, x5, x6, x7, x8, x9, x10, x11, x12, x13, x14, x15, x16, x17, x18, x19, x20, x21, x22, x23, x24, x25, x26, x27, x28, x29, x30, x31] 0 w _ h
  rw [store32_w] at h1
  exact ⟨h1, stores_other [x0, x1, x2, x3, x4, x5, x6, x7, x8, x9, x10, x11, x12, x13, x14, x15, x16, x17, x18, x19, x20, x21, x22, x23, x24, x25, x26, x27, x28, x29, x30, x31] 0 w⟩
end Go.Proofs.Yteilodihjhdngaa
