/- The program's visitors that count a variable's occurrences and that collect the variables. -/
import Derived.Test.YtehnhjhflaljhaaDoorV1
import Derived.Test.YtehnhjhflaljhaaDoorW3
import Derived.Test.YtehnhjhflaljhaaDoorTm
namespace Go.Proofs.YtehnhjhflaljhaaDoor
open Go.RowKit Go.Proofs.HT

/-! A variable's occurrences. -/
def isV (v : Int) (t : Tm) : Bool := decide (t.kind = 0 ∧ t.num = v)
def occN (v : Int) (ns : List Tm) : Nat := (ns.filter (isV v)).length
theorem occN_snoc (v : Int) (ns : List Tm) (t : Tm) : occN v (ns ++ [t]) = occN v ns + if t.kind = 0 ∧ t.num = v then 1 else 0 := by
  unfold occN
  rw [List.filter_append, List.length_append]
  by_cases h : t.kind = 0 ∧ t.num = v
  · have h2 : isV v t = true := by simp [isV, h]
    simp [h2, h]
  · have h2 : isV v t = false := by simp [isV]; intro a b; exact h ⟨a, b⟩
    rw [if_neg h]
    simp [h2]
theorem occN_le (v : Int) (ns : List Tm) : occN v ns ≤ ns.length := List.length_filter_le _ _

def VR (v : Int) (vb ob : Nat) (ns : List Tm) (own : Nat → Prop) (w : World) : Prop :=
  (∀ g, own g ↔ g = vb ∨ g = ob) ∧ w.heap[vb]? = some (.cells #[.int .i64 v] 2 (0, 0)) ∧ w.heap[ob]? = some (.cells #[.int .i64 (occN v ns)] 3 (0, 0))
theorem VR_keep (v : Int) (vb ob : Nat) : VisKeep (VR v vb ob) := ⟨fun _ _ _ _ h k _ => ⟨h.1, by rw [k vb ((h.1 vb).2 (.inl rfl))]; exact h.2.1, by rw [k ob ((h.1 ob).2 (.inr rfl))]; exact h.2.2⟩,
  fun _ _ _ g h ho => by rcases (h.1 g).1 ho with rfl | rfl; exact (Array.getElem?_eq_some_iff.1 h.2.1).1; exact (Array.getElem?_eq_some_iff.1 h.2.2).1⟩

end Go.Proofs.YtehnhjhflaljhaaDoor
