/- An argument that is a slice of pairs: its cells. -/
import Derived.Test.YtcjpbomdnjmfkaaDoorA3
import Derived.Test.YtcjpbomdnjmfkaaDoorG
import Derived.Deep.Slices
import Derived.ChangeSame
import Derived.ProofKit
namespace Go.Proofs.YtcjpbomdnjmfkaaDoor
open Go.ChangeShapes Go.WideShapes Go.Deep Go.RowKit

variable {H : Type} {enc : TypeId × Value → H}
theorem pair_cells {w : World} {sp : Nat → Bool} {held : Bool} {fuel : Nat} {cs : List Value} {x : DataW H × List MemPlace} (h : DataW.trod enc Tryd.prog w 0 sp held fuel 30 cs = some x) : ∃ p : Int × Int, cs = [.int .i64 p.1, .int .i64 p.2] := by
  obtain ⟨y0, y1, n, _, hl, h0, h1⟩ := trod_struct2 Tryd.underlying30 h
  have hc : Tryd.prog.cellsOf 30 = 2 := by kernel_rfl
  have hc3 : Tryd.prog.cellsOf 3 = 1 := by kernel_rfl
  rw [hc] at hl
  match cs, hl with
  | [a, b], _ =>
    simp only [hc3] at h0 h1
    obtain ⟨i, e0, _, _⟩ := DataW.trod_int Tryd.underlying3 h0
    obtain ⟨j, e1, _, _⟩ := DataW.trod_int Tryd.underlying3 h1
    simp at e0 e1
    exact ⟨(i, j), by rw [e0, e1]⟩

theorem open_pairs {W : World} {r : Reach} {base : Nat} {v : Value} {d : DataW H} {p : List MemPlace} (hv : Value.okWide Tryd.prog W r base 31 v) (h : DataW.Trod enc Tryd.prog W 0 (fun _ => true) true 31 v d p) :
    ∃ (A : Option Addr) (n cap : Nat) (ps : List (Int × Int)), v = .slice A n cap ∧ ps.length = n ∧ n ≤ maxLen ∧ PR W A ps := by
  obtain ⟨A, n, cap, rfl⟩ := okWide_slice Tryd.underlying31 hv
  obtain ⟨fuel, hf⟩ := h
  have hc : Tryd.prog.cellsOf 30 = 2 := by kernel_rfl
  rcases open_slice Tryd.underlying31 hf with ⟨hcs, _⟩ | ⟨a, len, cap', m, k, D, Pl, hcs, _, hl, hm, hmm, _, hi⟩
  · simp [Value.cells] at hcs
    obtain ⟨rfl, rfl, rfl⟩ := hcs
    exact ⟨none, 0, 0, [], rfl, rfl, Nat.zero_le _, fun i p h => by simp at h⟩
  · simp [Value.cells] at hcs
    obtain ⟨rfl, rfl, rfl⟩ := hcs
    simp only [if_true] at hmm
    subst hmm
    have hcell : ∀ i, i < n → ∃ q : Int × Int, W.cell? ((a.add (i * 2)).add 0) = some (.int .i64 q.1) ∧ W.cell? ((a.add (i * 2)).add 1) = some (.int .i64 q.2) := fun i hin => by
      obtain ⟨cs', h1, h2⟩ := hi i (by omega)
      rw [hc] at h1
      obtain ⟨q, rfl⟩ := pair_cells h2
      obtain ⟨_, _, hat⟩ := World.cells?_some h1
      exact ⟨q, hat 0 (by omega), hat 1 (by omega)⟩
    let f : Nat → Int × Int := fun i => if h : i < n then (hcell i h).choose else (0, 0)
    refine ⟨some a, n, _, (List.range n).map f, rfl, by simp, Nat.le_trans hl hm, fun i p hp => ?_⟩
    have hin : i < n := by have := (List.getElem?_eq_some_iff.1 hp).1; simpa using this
    have hfp : f i = p := by simpa [hin] using hp
    have hq := (hcell i hin).choose_spec
    have hfe : f i = (hcell i hin).choose := by simp [f, hin]
    rw [← hfe, hfp] at hq
    have hspot : a.spot = none := by
      obtain ⟨q0, h0, _⟩ := hcell 0 (by omega)
      have := World.cell?_spot h0
      simpa [Addr.add] using this
    obtain ⟨b, o, s⟩ := a
    have hs : s = none := hspot
    subst hs
    rw [HG.add_at, HG.add_at, HG.add_at] at hq
    exact ⟨b, o, rfl, hq.1, hq.2⟩

end Go.Proofs.YtcjpbomdnjmfkaaDoor
