/- Arguments that are operators, and slices of operators: their cells. -/
import Derived.Test.YtkjkhhifkedflaaDoorOG
import Derived.Test.YtkjkhhifkedflaaDoorG
import Derived.Deep.Strs
import Derived.ChangeSame
import Derived.ChangeArms
import Derived.ProofKit
set_option linter.unusedVariables false
set_option linter.unusedSimpArgs false
namespace Go.Proofs.YtkjkhhifkedflaaDoor
open Go.ChangeShapes Go.WideShapes Go.Deep Go.RowKit Go.Proofs.HP

variable {H : Type} {enc : TypeId × Value → H}
set_option maxRecDepth 100000 in
theorem op_cells {w : World} {sp : Nat → Bool} {held : Bool} {fuel : Nat} {cs : List Value} {x : DataW H × List MemPlace} (h : DataW.trod enc Tryd.prog w 0 sp held fuel 26 cs = some x) : ∃ o : Opd, cs = [.string o.1, .int .i64 o.2.1, .int .i64 o.2.2] := by
  obtain ⟨y0, y1, y2, n, _, hl, h0, h1, h2⟩ := trod_struct3 Tryd.underlying26 h
  have hc : Tryd.prog.cellsOf 26 = 3 := by kernel_rfl
  have hc3 : Tryd.prog.cellsOf 3 = 1 := by kernel_rfl
  have hc9 : Tryd.prog.cellsOf 9 = 1 := by kernel_rfl
  rw [hc] at hl
  match cs, hl with
  | [a, b, c], _ =>
    simp only [hc3, hc9] at h0 h1 h2
    obtain ⟨i, e0, _, _⟩ := DataW.trod_string Tryd.underlying9 h0
    obtain ⟨j, e1, _, _⟩ := DataW.trod_int Tryd.underlying3 h1
    obtain ⟨k, e2, _, _⟩ := DataW.trod_int Tryd.underlying3 h2
    simp at e0 e1 e2
    exact ⟨(i, j, k), by rw [e0, e1, e2]⟩
set_option maxRecDepth 100000 in
theorem open_op {W : World} {r : Reach} {base : Nat} {v : Value} {d : DataW H} {p : List MemPlace} (hv : Value.okWide Tryd.prog W r base 26 v) (h : DataW.Trod enc Tryd.prog W 0 (fun _ => true) true 26 v d p) :
    ∃ o : Opd, v = .agg #[.string o.1, .int .i64 o.2.1, .int .i64 o.2.2] := by
  obtain ⟨cs, rfl, _⟩ := okWide_struct Tryd.underlying26 hv
  obtain ⟨fuel, hf⟩ := h
  obtain ⟨o, ho⟩ := op_cells hf
  exact ⟨o, by
    have : cs.toList = [.string o.1, .int .i64 o.2.1, .int .i64 o.2.2] := ho
    rw [← this]⟩
set_option maxRecDepth 100000 in
theorem open_ops {W : World} {r : Reach} {base : Nat} {v : Value} {d : DataW H} {p : List MemPlace} (hv : Value.okWide Tryd.prog W r base 23 v) (h : DataW.Trod enc Tryd.prog W 0 (fun _ => true) true 23 v d p) :
    ∃ (A : Option Addr) (cap : Nat) (l : List Opd), v = .slice A l.length cap ∧ l.length ≤ maxLen ∧ PRO W A l := by
  obtain ⟨A, n, cap, rfl⟩ := okWide_slice Tryd.underlying23 hv
  obtain ⟨fuel, hf⟩ := h
  have hc : Tryd.prog.cellsOf 26 = 3 := by kernel_rfl
  rcases open_slice Tryd.underlying23 hf with ⟨hcs, _⟩ | ⟨a, len, cap', m, k, D, Pl, hcs, _, hl, hm, hmm, _, hi⟩
  · simp [Value.cells] at hcs
    obtain ⟨rfl, rfl, rfl⟩ := hcs
    exact ⟨none, 0, [], rfl, Nat.zero_le _, fun i p h => by simp at h⟩
  · simp [Value.cells] at hcs
    obtain ⟨rfl, rfl, rfl⟩ := hcs
    simp only [if_true] at hmm
    subst hmm
    have hcell : ∀ i, i < n → ∃ q : Opd, W.cell? ((a.add (i * 3)).add 0) = some (.string q.1) ∧ W.cell? ((a.add (i * 3)).add 1) = some (.int .i64 q.2.1) ∧ W.cell? ((a.add (i * 3)).add 2) = some (.int .i64 q.2.2) := fun i hin => by
      obtain ⟨cs', h1, h2⟩ := hi i (by omega)
      rw [hc] at h1
      obtain ⟨q, rfl⟩ := op_cells h2
      obtain ⟨_, _, hat⟩ := World.cells?_some h1
      exact ⟨q, hat 0 (by omega), hat 1 (by omega), hat 2 (by omega)⟩
    let f : Nat → Opd := fun i => if h : i < n then (hcell i h).choose else (⟨#[]⟩, 0, 0)
    have hlen : ((List.range n).map f).length = n := by simp
    refine ⟨some a, _, (List.range n).map f, by rw [hlen], by rw [hlen]; exact Nat.le_trans hl hm, fun i p hp => ?_⟩
    have hin : i < n := by have := (List.getElem?_eq_some_iff.1 hp).1; simpa using this
    have hfp : f i = p := by simpa [hin] using hp
    have hq := (hcell i hin).choose_spec
    have hfe : f i = (hcell i hin).choose := by simp [f, hin]
    rw [← hfe, hfp] at hq
    have hspot : a.spot = none := by
      obtain ⟨q0, h0, _⟩ := hcell 0 (by omega)
      have := World.cell?_spot h0
      simpa [Addr.add] using this
    obtain ⟨b, o, s⟩ := a
    have hs : s = none := hspot
    subst hs
    rw [HG.add_at, HG.add_at, HG.add_at, HG.add_at] at hq
    exact ⟨b, o, rfl, hq.1, hq.2.1, hq.2.2⟩

end Go.Proofs.YtkjkhhifkedflaaDoor
