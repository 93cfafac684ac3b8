/- Words for the program's substitute. -/
import Derived.Test.YtehnhjhflaljhaaDoorV4
namespace Go.Proofs.YtehnhjhflaljhaaDoor
open Go.RowKit Go.Proofs.HT

def addv (xs : List Int) (n : Int) : List Int := if posF xs n 0 < 0 then xs ++ [n] else xs
theorem addv_pre (xs : List Int) (n : Int) : xs <+: addv xs n := by
  unfold addv; split
  · exact List.prefix_append _ _
  · exact List.prefix_refl _
theorem varsF_var (xs : List Int) (n : Int) (s : ByteArray) : varsF xs (.mk 0 n s []) = addv xs n := by simp [varsF, varsL, addv]
theorem varsF_not (xs : List Int) (k n : Int) (s : ByteArray) (ts : List Tm) (h : ¬ k = 0) : varsF xs (.mk k n s ts) = varsL xs ts := by simp [varsF, h]
theorem varsF_pre (t : Tm) : ∀ xs, xs <+: varsF xs t := by
  induction t using Tm.ind with
  | h k n s ts ih =>
    intro xs
    have key : ∀ (l : List Tm), (∀ t ∈ l, ∀ xs, xs <+: varsF xs t) → ∀ xs, xs <+: varsL xs l := by
      intro l
      induction l with
      | nil => intro _ xs; exact List.prefix_refl _
      | cons x l ih2 => intro h xs; rw [varsL]; exact (h x (by simp) xs).trans (ih2 (fun y hy => h y (by simp [hy])) _)
    rw [varsF]
    refine List.IsPrefix.trans ?_ (key ts ih _)
    split
    · exact List.prefix_append _ _
    · exact List.prefix_refl _
theorem varsL_pre (l : List Tm) : ∀ xs, xs <+: varsL xs l := by
  induction l with
  | nil => intro xs; exact List.prefix_refl _
  | cons x l ih => intro xs; rw [varsL]; exact (varsF_pre x xs).trans (ih _)
theorem varsL_drop (xs : List Int) (ts : List Tm) (j : Nat) : varsL (varsL xs (ts.take j)) (ts.drop j) = varsL xs ts := by
  rw [← varsL_append, List.take_append_drop]
theorem varsL_take_pre (xs : List Int) (ts : List Tm) (j : Nat) : varsL xs (ts.take j) <+: varsL xs ts := by
  rw [← varsL_drop xs ts j]; exact varsL_pre _ _

/-- A call that returns a term, the state moved on. (own: the blocks of the state.) -/
def PutEnd (V : List Int → (Nat → Prop) → World → Prop) (W : World) (own : Nat → Prop) (T : Tm) (xs : List Int) (w : World) (e : Ending) (w' : World) : Prop :=
  ∃ v, e = .returned (tv T v) ∧ OwnT (fun b => w.heap.size ≤ b ∧ b < w'.heap.size) w' T v ∧ V xs own w' ∧ w.heap.size ≤ w'.heap.size ∧ (∀ g, g < w.heap.size → ¬ own g → w'.heap[g]? = w.heap[g]?) ∧ Below W.heap.size W w'

theorem _root_.Go.Proofs.HT.OwnT.slice {S : Nat → Prop} {w : World} {t : Tm} {v : Value} (h : OwnT S w t v) : ∃ a cap, v = .slice a t.args.length cap := (OwnT.lies _ _ h).slice

def mk0 (n : Nat) : Array Value := madeCells #[.int .i64 0, .int .i64 0, .string ⟨#[]⟩, .slice none 0 0] (n * 4)
theorem mk0_size (n : Nat) : (mk0 n).size = n * 4 := size_madeCells _ _

/-- The end of substitute at a value: it is stored in the result's cell. -/
theorem put_end {V : List Int → (Nat → Prop) → World → Prop} (hk : VisKeep V) {W w w2 : World} {own : Nat → Prop} {T : Tm} {xs : List Int} {y : Value} {a0 a1 a2 a3 : Value}
    (hl : ∀ g, own g → g < w.heap.size) (hB : W.heap.size ≤ w.heap.size) (hz : w.heap.size + 2 ≤ w2.heap.size) (hy : OwnT (fun b => w.heap.size + 2 ≤ b ∧ b < w2.heap.size) w2 T y) (hV : V xs own w2)
    (hf : ∀ g, g < w.heap.size → ¬ own g → w2.heap[g]? = w.heap[g]?) (hb : Below W.heap.size W w2) (h : w2.heap[w.heap.size + 1]? = some (.cells #[a0, a1, a2, a3] 24 (0, 0)))
    (w3 : World) (e : w3 = ((((w2.setCell ⟨w.heap.size + 1, 0, none⟩ (.int .i64 T.kind)).setCell ⟨w.heap.size + 1, 1, none⟩ (.int .i64 T.num)).setCell ⟨w.heap.size + 1, 2, none⟩ (.string T.name)).setCell ⟨w.heap.size + 1, 3, none⟩ y)) :
    PutEnd V W own T xs w (.returned (tv T y)) w3 := by
  obtain ⟨F1, F2, F3, F4⟩ := four h (.int .i64 T.kind) (.int .i64 T.num) (.string T.name) y
  rw [← e] at F1 F2 F3 F4
  refine ⟨y, rfl, hy.keep (fun b hb => F2 b (by omega)) (fun b hb _ => ⟨by omega, by omega⟩) , hk.keep _ _ _ _ hV (fun g hg => F2 g (by have := hl g hg; omega)) (by omega), by omega, fun g hg hn => (F2 g (by omega)).trans (hf g hg hn), F4 _ _ (by omega) hb⟩

end Go.Proofs.YtehnhjhflaljhaaDoor
