/- A whole row stored, as one step. -/
import Derived.Test.YteilodihjhdngaaCC4
import Derived.Laws.CopyOwn
import Derived.Deep.DeepCutAuto
set_option linter.unusedVariables false
set_option linter.unusedSimpArgs false
namespace Go.Proofs.Yteilodihjhdngaa
open Go.RowKit Go.Proofs.HT

/-- Z is w but for the cells of the block b, which are cs. -/
structure StoreA (w Z : World) (b : Nat) (cs : Array Value) (ty : TypeId) : Prop where
  row : RowA Z b cs ty
  other : ∀ g, g ≠ b → Z.heap[g]? = w.heap[g]?
  size : Z.heap.size = w.heap.size
  below : ∀ B W0, B ≤ b → Below B W0 w → Below B W0 Z
theorem wpList_store_A {P : Program} {ops : Array Oper} {rest : List Oper} {o : Oper} {a : Act} {w : World} {Q : Exit → Act → World → Prop} (hgd : o.guard = none) (ty : TypeId) (x y : Operand) (ho : o.op = .store ty x y)
    (b : Nat) (cs old : Array Value) (t : TypeId) (hr : RowA w b old t) (hx : a.eval x = .pointer (some ⟨b, 0, none⟩)) (hy : a.eval y = .agg cs) (hi : (P.info? ty).map (·.size) = some cs.size)
    (hold : old.size = cs.size) (h1 : cs.all (·.oneCell') = true)
    (h : ∀ Z, StoreA w Z b cs t → wpList P ops Q rest (a.put o.dst undef) Z) : wpList P ops Q (o :: rest) a w :=
  wpList_store_row hgd ty x y ho b cs hx hy t old hr hi hold h1 (h _ ⟨setRow_heap _ _ _ _ _ _ hr, fun _ hg => setRow_other _ _ _ _ hg, setRow_size _ _ _, fun _ _ hB hb => below_setRow hb hB _⟩)
end Go.Proofs.Yteilodihjhdngaa
