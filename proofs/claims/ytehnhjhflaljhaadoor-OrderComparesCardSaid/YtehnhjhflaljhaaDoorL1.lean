/- slices.Backward over a slice of terms: its contract as an iterator. -/
import Derived.RangeFuncNested
import Derived.RangeFuncBound
import Derived.RangeFuncCalls
import Derived.RangeFuncLeaves
import Derived.Shelf.Abstract
import Derived.Shelf.RegionOpen
import Derived.WalkKit
import Derived.OwnWalkIn
import Derived.TacticsInMore
import Derived.LoopNIn
import Derived.LoopIn
import Derived.Test.YtehnhjhflaljhaaDoorI3
namespace Go.Proofs.YtehnhjhflaljhaaDoor
open Go.RowKit Go.Shelf Go.Proofs.HT
attribute [local go_sem] Oper.semAt_some

/-- An element: a term that lies in w, by its slice. -/
def El (w : World) : Type := { p : Tm × Option Addr × Nat // LiesT w p.1 (.slice p.2.1 p.1.args.length p.2.2) }
def El.tm {w : World} (x : El w) : Tm := x.1.1
def El.sl {w : World} (x : El w) : Value := .slice x.1.2.1 x.1.1.args.length x.1.2.2
def e0 (w : World) : El w := ⟨(z0, none, 0), by unfold z0 LiesT; exact ⟨⟨by omega, by omega⟩, ⟨by omega, by omega⟩, by simp [ByteArray.size], .inl ⟨rfl, rfl⟩⟩⟩
abbrev encT {w : World} (x : Int × El w) : Array Value := #[.int .i64 x.1, .agg #[.int .i64 x.2.1.1.kind, .int .i64 x.2.1.1.num, .string x.2.1.1.name, .slice x.2.1.2.1 x.2.1.1.args.length x.2.1.2.2]]

/-- What a round keeps: all blocks below n but block c. -/
def KpB (c n : Nat) (W W' : World) : Prop := W.heap.size ≤ W'.heap.size ∧ ∀ g, g < n → g ≠ c → W'.heap[g]? = W.heap[g]?
theorem KpB.refl (c n : Nat) (W : World) : KpB c n W W := ⟨Nat.le_refl _, fun _ _ _ => rfl⟩
theorem KpB.trans {c n : Nat} {A B C : World} (h : KpB c n A B) (k : KpB c n B C) : KpB c n A C := ⟨Nat.le_trans h.1 k.1, fun g hg hn => (k.2 g hg hn).trans (h.2 g hg hn)⟩
theorem KpB.cell {c n : Nat} {A B : World} (h : KpB c n A B) {b o : Nat} (hb : b < n) (hc : b ≠ c) : B.cell? ⟨b, o, none⟩ = A.cell? ⟨b, o, none⟩ := World.cell?_of_block (h.2 b hb hc)

/-- What has come when k rounds are over. -/
def come {w : World} (els : List (El w)) (k : Nat) : List (Int × El w) := (List.range k).map fun (j : Nat) => ((els.length : Int) - 1 - (j : Int), els.getD (els.length - 1 - j) (e0 w))
theorem come_succ {w : World} (els : List (El w)) (k : Nat) : come els (k + 1) = come els k ++ [((els.length : Int) - 1 - k, els.getD (els.length - 1 - k) (e0 w))] := by simp [come, List.range_succ]
theorem come_len {w : World} (els : List (El w)) (k : Nat) : (come els k).length = k := by simp [come]

/-- The elements lie in block b from cell o on. -/
def LiesE (W : World) {w : World} (els : List (El w)) (b o : Nat) : Prop := ∀ (i : Nat) (h : i < els.length), W.cell? ⟨b, o + i * 4, none⟩ = some (.int .i64 els[i].1.1.kind) ∧ W.cell? ⟨b, o + i * 4 + 1, none⟩ = some (.int .i64 els[i].1.1.num) ∧ W.cell? ⟨b, o + i * 4 + 2, none⟩ = some (.string els[i].1.1.name) ∧ W.cell? ⟨b, o + i * 4 + 3, none⟩ = some (.slice els[i].1.2.1 els[i].1.1.args.length els[i].1.2.2)

/-- The slice value sv holds the elements els in a block below n that is not c; or there are none. -/
def Els (c n : Nat) (W : World) {w : World} (sv : Value) (els : List (El w)) : Prop :=
  (els = [] ∧ ∃ a cap, sv = .slice a 0 cap) ∨ ∃ b off cap, sv = .slice (some ⟨b, off, none⟩) els.length cap ∧ els.length ≤ 9223372036854775807 ∧ b < n ∧ b ≠ c ∧ LiesE W els b off

end Go.Proofs.YtehnhjhflaljhaaDoor
