/- Replace's function, Canon's function. -/
import Derived.Test.YtehnhjhflaljhaaDoorS5
import Derived.Test.YtehnhjhflaljhaaDoorS2
namespace Go.Proofs.YtehnhjhflaljhaaDoor
open Go.RowKit Go.Proofs.HT

/-- A term is stored in the result's cell, the first block of the call. -/
theorem put_end1 {V : List Int → (Nat → Prop) → World → Prop} (hk : VisKeep V) {W w w2 : World} {own : Nat → Prop} {T : Tm} {xs : List Int} {y : Value} {a0 a1 a2 a3 : Value}
    (hV : V xs own w) (hB : Below W.heap.size W w) (hb : Below w.heap.size w w2) (hy : OwnT (fun b => w.heap.size + 1 ≤ b ∧ b < w2.heap.size) w2 T y) (h : w2.heap[w.heap.size]? = some (.cells #[a0, a1, a2, a3] 24 (0, 0)))
    (w3 : World) (e : w3 = ((((w2.setCell ⟨w.heap.size, 0, none⟩ (.int .i64 T.kind)).setCell ⟨w.heap.size, 1, none⟩ (.int .i64 T.num)).setCell ⟨w.heap.size, 2, none⟩ (.string T.name)).setCell ⟨w.heap.size, 3, none⟩ y)) :
    PutEnd V W own T xs w (.returned (tv T y)) w3 := by
  obtain ⟨F1, F2, F3, F4⟩ := four h (.int .i64 T.kind) (.int .i64 T.num) (.string T.name) y
  rw [← e] at F1 F2 F3 F4
  have hb3 := F4 _ _ (Nat.le_refl _) hb
  exact ⟨y, rfl, hy.keep (fun b hb => F2 b (by omega)) (fun b hb _ => ⟨by omega, by omega⟩), hk.keep _ _ _ _ hV (fun g hg => hb3.block g (hk.lt _ _ _ _ hV hg)) hb3.size, hb3.size, fun g hg _ => hb3.block g hg, hB.trans (hb3.mono hB.size)⟩

def V2 (x : Int) (t : Tm) (bv : Value) (vb bb : Nat) (_ : List Int) (own : Nat → Prop) (w : World) : Prop :=
  (∀ g, own g ↔ g = vb ∨ g = bb) ∧ w.heap[vb]? = some (.cells #[.int .i64 x] 2 (0, 0)) ∧ w.heap[bb]? = some (.cells #[.int .i64 t.kind, .int .i64 t.num, .string t.name, bv] 24 (0, 0))
theorem V2_keep (x : Int) (t : Tm) (bv : Value) (vb bb : Nat) : VisKeep (V2 x t bv vb bb) := ⟨fun _ _ _ _ h k _ => ⟨h.1, by rw [k vb ((h.1 vb).2 (.inl rfl))]; exact h.2.1, by rw [k bb ((h.1 bb).2 (.inr rfl))]; exact h.2.2⟩,
  fun _ _ _ g h ho => by rcases (h.1 g).1 ho with rfl | rfl; exact (Array.getElem?_eq_some_iff.1 h.2.1).1; exact (Array.getElem?_eq_some_iff.1 h.2.2).1⟩
def gR (x : Int) (t : Tm) (n : Int) : Tm := if n = x then t else vr n

end Go.Proofs.YtehnhjhflaljhaaDoor
