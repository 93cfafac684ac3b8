/- The program's List. -/
import Derived.Test.YtehnhjhflaljhaaDoorL1
import Derived.Test.YtehnhjhflaljhaaDoorTm
namespace Go.Proofs.YtehnhjhflaljhaaDoor
open Go.RowKit Go.Shelf Go.Proofs.HT
attribute [local go_sem] Oper.semAt_some

def consT (x T : Tm) : Tm := .mk 3 0 ⟨#[46]⟩ [x, T]
def listT (ts : List Tm) (T : Tm) : Tm := ts.foldr consT T
def lp {w : World} (T : Tm) (pre : List (Int × El w)) : Tm := pre.foldl (fun T x => consT x.2.1.1 T) T
theorem lp_snoc {w : World} (T : Tm) (pre : List (Int × El w)) (x : Int × El w) : lp T (pre ++ [x]) = consT x.2.1.1 (lp T pre) := by simp [lp]
theorem lp_come {w : World} (T : Tm) (els : List (El w)) : ∀ k, k ≤ els.length → lp T (come els k) = listT ((els.drop (els.length - k)).map fun x => x.1.1) T
  | 0, _ => by simp [come, lp, listT]
  | k + 1, h => by
    rw [come_succ, lp_snoc, lp_come T els k (by omega)]
    have e : els.length - k = els.length - (k + 1) + 1 := by omega
    have hi : els.length - (k + 1) < els.length := by omega
    have e2 : els.length - 1 - k = els.length - (k + 1) := by omega
    rw [e, List.drop_eq_getElem_cons hi, List.map_cons]
    simp only [listT, List.foldr_cons]
    rw [e2]
    simp [List.getD, hi]
theorem lp_all {w : World} (T : Tm) (els : List (El w)) : lp T (come els els.length) = listT (els.map fun x => x.1.1) T := by rw [lp_come T els _ (Nat.le_refl _)]; simp

/-- Between two rounds. -/
def LI (w : World) (T : Tm) (pre : List (Int × El w)) (W : World) : Prop :=
  (∃ la lc, W.heap[w.heap.size + 1]? = some (.cells #[.int .i64 (lp T pre).kind, .int .i64 (lp T pre).num, .string (lp T pre).name, .slice la (lp T pre).args.length lc] 24 (0, 0)) ∧ LiesS (fun b => b ≠ w.heap.size + 1) W (lp T pre) (.slice la (lp T pre).args.length lc)) ∧ Below w.heap.size w W ∧ w.heap.size + 3 ≤ W.heap.size
theorem row_kept {W W' : World} {row : Option Nat} {g : Nat} {cs : Array Value} {ty : TypeId} (h : W.heap[g]? = some (.cells cs ty (0, 0))) (hg : W.grownBy W' row) (hr : ∀ r, row = some r → ∃ o : Obj, W.heap[r]? = some o ∧ o.isCells = false) : W'.heap[g]? = some (.cells cs ty (0, 0)) := by
  rw [hg.block g (Array.getElem?_eq_some_iff.1 h).1 (fun e => by
    obtain ⟨o, ho, hc⟩ := hr g e.symm
    rw [h] at ho; cases ho; cases hc)]
  exact h
theorem LI_own (w : World) (T : Tm) (B : Nat) (hB : w.heap.size ≤ B) : OwnFrom B (LI w T) := by
  rintro pre A W row ⟨⟨la, lc, h1, h2⟩, hb, hz⟩ hg hr
  have hr2 := fun r e => (hr r e).2
  exact ⟨⟨la, lc, row_kept h1 hg hr2, h2.keep (fun b o x _ h => cell_kept h hg hr2) (fun _ h _ => h)⟩, hb.grown hg hb.size (fun k e => by have := (hr k e).1; omega), Nat.le_trans hz hg.size⟩
theorem LI_alloc {w : World} {T : Tm} {pre : List (Int × El w)} {W : World} (h : LI w T pre W) (o : Obj) : LI w T pre (W.alloc o) := (LI_own w T w.heap.size (Nat.le_refl _)).alloc o h


end Go.Proofs.YtehnhjhflaljhaaDoor
