/- slices.Backward over a slice of terms: its contract as an iterator. -/
import Derived.RangeFuncNested
import Derived.RangeFuncBound
import Derived.RangeFuncCalls
import Derived.RangeFuncLeaves
import Derived.Shelf.Abstract
import Derived.Shelf.RegionOpen
import Derived.WalkKit
import Derived.OwnWalkIn
import Derived.TacticsInMore
import Derived.LoopNIn
import Derived.LoopIn
import Derived.Test.YtdgflagafilobaaI3
namespace Go.Proofs.Ytdgflagafilobaa
open Go.RowKit Go.Shelf Go.Proofs.HT
attribute [local go_sem] Oper.semAt_some

/-- An element: a term that lies in w, by its slice. -/
def El (w : World) : Type := { p : Tm × Option Addr × Nat // LiesT w p.1 (.slice p.2.1 p.1.args.length p.2.2) }
def El.tm {w : World} (x : El w) : Tm := x.1.1
def El.sl {w : World} (x : El w) : Value := .slice x.1.2.1 x.1.1.args.length x.1.2.2
def e0 (w : World) : El w := ⟨(z0, none, 0), by unfold z0 LiesT; exact ⟨⟨by omega, by omega⟩, ⟨by omega, by omega⟩, by simp [ByteArray.size], .inl ⟨rfl, rfl⟩⟩⟩
abbrev encT {w : World} (x : Int × El w) : Array Value := #[.int .i64 x.1, .agg #[.int .i64 x.2.1.1.kind, .int .i64 x.2.1.1.num, .string x.2.1.1.name, .slice x.2.1.2.1 x.2.1.1.args.length x.2.1.2.2]]

/-- What a round keeps: all blocks below n but block c. -/
def KpB (c n : Nat) (W W' : World) : Prop := W.heap.size ≤ W'.heap.size ∧ ∀ g, g < n → g ≠ c → W'.heap[g]? = W.heap[g]?
theorem KpB.refl (c n : Nat) (W : World) : KpB c n W W := ⟨Nat.le_refl _, fun _ _ _ => rfl⟩
theorem KpB.trans {c n : Nat} {A B C : World} (h : KpB c n A B) (k : KpB c n B C) : KpB c n A C := ⟨Nat.le_trans h.1 k.1, fun g hg hn => (k.2 g hg hn).trans (h.2 g hg hn)⟩
theorem KpB.cell {c n : Nat} {A B : World} (h : KpB c n A B) {b o : Nat} (hb : b < n) (hc : b ≠ c) : B.cell? ⟨b, o, none⟩ = A.cell? ⟨b, o, none⟩ := World.cell?_of_block (h.2 b hb hc)

/-- What has come when k rounds are over. -/
def come {w : World} (els : List (El w)) (k : Nat) : List (Int × El w) := (List.range k).map fun (j : Nat) => ((els.length : Int) - 1 - (j : Int), els.getD (els.length - 1 - j) (e0 w))
theorem come_succ {w : World} (els : List (El w)) (k : Nat) : come els (k + 1) = come els k ++ [((els.length : Int) - 1 - k, els.getD (els.length - 1 - k) (e0 w))] := by simp [come, List.range_succ]
theorem come_len {w : World} (els : List (El w)) (k : Nat) : (come els k).length = k := by simp [come]

/-- The elements lie in block b from cell o on. -/
def LiesE (W : World) {w : World} (els : List (El w)) (b o : Nat) : Prop := ∀ (i : Nat) (h : i < els.length), W.cell? ⟨b, o + i * 4, none⟩ = some (.int .i64 els[i].1.1.kind) ∧ W.cell? ⟨b, o + i * 4 + 1, none⟩ = some (.int .i64 els[i].1.1.num) ∧ W.cell? ⟨b, o + i * 4 + 2, none⟩ = some (.string els[i].1.1.name) ∧ W.cell? ⟨b, o + i * 4 + 3, none⟩ = some (.slice els[i].1.2.1 els[i].1.1.args.length els[i].1.2.2)

set_option maxRecDepth 100000 in
set_option maxHeartbeats 2000000 in
theorem back1_in {w : World} (F : Fence) (n : Nat) (h7 : F.fn 75) (hro : F.round = none) (hn : 1 ≤ n) (l Bs c n₁ b off cap : Nat) (els : List (El w)) (hlen : els.length ≤ 9223372036854775807) (hb : b < n₁) (hbc : b ≠ c) (hBl : Bs < n₁) (hBc : Bs ≠ c) (J Jx : List (Int × El w) → World → Prop)
    (hY : ∀ pre x W, J pre W → pre.length < els.length → YieldAt F (n - 1) Try.prog l (encT x) W fun e W' =>
      (e = .returned (.bool true) ∧ J (pre ++ [x]) W' ∧ KpB c n₁ W W') ∨ (e = .returned (.bool false) ∧ Jx (pre ++ [x]) W'))
    (W : World) (hBs : W.cell? ⟨Bs, 0, none⟩ = some (.slice (some ⟨b, off, none⟩) els.length cap)) (hc : LiesE W els b off) (h0 : J [] W) :
    CallsIn F n Try.prog 75 #[.func (.yield l) #[] #[], .pointer (some ⟨Bs, 0, none⟩)] W fun e W' => (∃ v, e = .returned v) ∧
      ((∃ ys, ys = come els els.length ∧ J ys W') ∨ (∃ pre, (∃ k, k ≤ els.length ∧ pre = come els k) ∧ Jx pre W')) := by
  refine callsIn_of_wp Try.func75 rfl h7 ?_ hro
  simp only [Try.ntmps75, List.size_toArray, List.length_cons, List.length_nil, Nat.reduceAdd, Nat.reduceSub, Array.replicate_succ, Array.replicate_zero, List.push_toArray, List.append_toArray, List.nil_append, List.cons_append]
  have HC := Lib.hid hc
  clear hc
  gi_wp2
  gi_loopw [3] (fun i wr => ∃ (k : Nat) (q : Int), k ≤ els.length ∧ i = .int .i64 q ∧ q = (els.length : Int) - 1 - k ∧ J (come els k) wr ∧ KpB c n₁ W wr)
    (fun i _ => (intOf i + 1).toNat)
  case atStart => exact ⟨0, _, Nat.zero_le _, rfl, by omega, h0, KpB.refl _ _ _⟩
  case round =>
    obtain ⟨k, q, hk, rfl, hq, hJs, hnx⟩ := hrel
    have hb2 : wr.cell? ⟨Bs, 0, none⟩ = some (.slice (some ⟨b, off, none⟩) els.length cap) := (hnx.cell hBl hBc).trans hBs
    by_cases hlt : k < els.length
    · obtain ⟨i, rfl⟩ : ∃ i : Nat, q = i := ⟨q.toNat, by omega⟩
      have hi : i < els.length := by omega
      obtain ⟨fn, tmps, assign, body, hy, hR⟩ := hY _ ((els.length : Int) - 1 - k, els.getD (els.length - 1 - k) (e0 w)) wr hJs (by rw [come_len]; exact hlt)
      have ei : els.length - 1 - k = i := by omega
      have eg : els.getD i (e0 w) = els[i] := by simp [List.getD, hi]
      rw [← hq, ei, eg] at hy
      obtain ⟨c0, c1, c2, c3⟩ := HC.out i hi
      have d0 := (hnx.cell hb hbc).trans c0
      have d1 := (hnx.cell hb hbc).trans c1
      have d2 := (hnx.cell hb hbc).trans c2
      have d3 := (hnx.cell hb hbc).trans c3
      clear c0 c1 c2 c3 eg
      dsimp only [encT] at hy
      have HQ := Lib.hid hq
      have EI := Lib.hid ei
      clear hq ei
      gi_wp2
      refine hR.mono ?_
      rintro e W3 (⟨rfl, hJ3, hk3⟩ | ⟨rfl, hJx3⟩)
      · gi_wp2
        go_roundw
        case rel => exact ⟨k + 1, _, by omega, rfl, by have := HQ.out; omega, by rw [come_succ]; exact hJ3, hnx.trans hk3⟩
        case measure => first | (simp [intOf]; done) | (simp [intOf]; omega)
      · gi_wp2
        refine bodyPost_ret (results_none rfl _ _ _) rfl ?_
        exact ⟨⟨_, rfl⟩, .inr ⟨_, ⟨k + 1, by omega, (come_succ _ _).symm⟩, hJx3⟩⟩
    · obtain rfl : k = els.length := by omega
      have hneg : ¬ 0 ≤ q := by omega
      gi_wp2
      go_end0
      exact ⟨⟨_, rfl⟩, .inl hJs⟩

set_option maxRecDepth 100000 in
set_option maxHeartbeats 2000000 in
theorem back1_nil {w : World} (F : Fence) (n : Nat) (h7 : F.fn 75) (hro : F.round = none) (l Bs : Nat) (a : Option Addr) (cap : Nat) (J : List (Int × El w) → World → Prop)
    (W : World) (hBs : W.cell? ⟨Bs, 0, none⟩ = some (.slice a 0 cap)) (h0 : J [] W) :
    CallsIn F n Try.prog 75 #[.func (.yield l) #[] #[], .pointer (some ⟨Bs, 0, none⟩)] W fun e W' => (∃ v, e = .returned v) ∧ J [] W' := by
  refine callsIn_of_wp Try.func75 rfl h7 ?_ hro
  simp only [Try.ntmps75, List.size_toArray, List.length_cons, List.length_nil, Nat.reduceAdd, Nat.reduceSub, Array.replicate_succ, Array.replicate_zero, List.push_toArray, List.append_toArray, List.nil_append, List.cons_append]
  gi_wp2
  gi_loopw [3] (fun i wr => i = .int .i64 (-1) ∧ J [] wr) (fun _ _ => 0)
  case atStart => exact ⟨rfl, h0⟩
  case round =>
    obtain ⟨rfl, hJs⟩ := hrel
    gi_wp2
    go_end0
    exact ⟨⟨_, rfl⟩, hJs⟩

set_option maxHeartbeats 1000000 in
theorem back_in (F : Fence) (n : Nat) (h5 : F.fn 64) (hro : F.round = none) (a : Option Addr) (len cap : Nat) (w : World) :
    CallsIn F n Try.prog 64 #[.slice a len cap] w fun e w' => e = .returned (.func (.func 75) #[] #[.pointer (some ⟨w.heap.size, 0, none⟩)]) ∧ w' = w.alloc (.cells #[.slice a len cap] 22) := by
  refine callsIn_of_wp Try.func64 rfl h5 ?_ hro
  simp only [Try.ntmps64, List.size_toArray, List.length_cons, List.length_nil, Nat.reduceAdd, Nat.reduceSub, Array.replicate_succ, Array.replicate_zero, List.push_toArray, List.append_toArray, List.nil_append, List.cons_append]
  gi_wp2
  go_ret
  exact ⟨rfl, rfl⟩

/-- The slice value sv holds the elements els in a block below n that is not c; or there are none. -/
def Els (c n : Nat) (W : World) {w : World} (sv : Value) (els : List (El w)) : Prop :=
  (els = [] ∧ ∃ a cap, sv = .slice a 0 cap) ∨ ∃ b off cap, sv = .slice (some ⟨b, off, none⟩) els.length cap ∧ els.length ≤ 9223372036854775807 ∧ b < n ∧ b ≠ c ∧ LiesE W els b off

theorem back_stops {w0 : World} (F : Fence) (n : Nat) (h7 : F.fn 75) (hro : F.round = none) (hn : 1 ≤ n) (Bs c n₁ : Nat) (sv : Value) (els : List (El w0)) (w : World) (hBs : Bs < n₁) (hBc : Bs ≠ c) (hn₀ : n₁ ≤ w.heap.size)
    (hc : w.cell? ⟨Bs, 0, none⟩ = some sv) (hI : Els c n₁ w sv els) :
    SeqStopsK F n Try.prog 75 #[.pointer (some ⟨Bs, 0, none⟩)] (encT (w := w0)) (KpB c n₁) (fun ys => ys = come els els.length) (fun _ => True) els.length w := fun l J Jx W hW _ _ hY h0 => by
  have hc' := (hW.cell (p := ⟨Bs, 0, none⟩) (by simp; omega)).trans hc
  rcases hI with ⟨rfl, a, cap, rfl⟩ | ⟨b, off, cap, rfl, hlen, hb, hbc, hcs⟩
  · exact (back1_nil F n h7 hro l Bs a cap J W hc' h0).mono fun e W' ⟨he, hj⟩ => ⟨he, .inl ⟨_, rfl, hj⟩⟩
  · refine (back1_in F n h7 hro hn l Bs c n₁ b off cap els hlen hb hbc hBs hBc J Jx hY W hc' (fun i hi => ?_) h0).mono ?_
    · obtain ⟨d0, d1, d2, d3⟩ := hcs i hi
      have hbw : b < w.heap.size := by omega
      exact ⟨(hW.cell (p := ⟨b, off + i * 4, none⟩) hbw).trans d0, (hW.cell (p := ⟨b, off + i * 4 + 1, none⟩) hbw).trans d1, (hW.cell (p := ⟨b, off + i * 4 + 2, none⟩) hbw).trans d2, (hW.cell (p := ⟨b, off + i * 4 + 3, none⟩) hbw).trans d3⟩
    · rintro e W' ⟨he, ⟨ys, rfl, hj⟩ | ⟨pre, _, hj⟩⟩
      · exact ⟨he, .inl ⟨_, rfl, hj⟩⟩
      · exact ⟨he, .inr ⟨_, trivial, hj⟩⟩

end Go.Proofs.Ytdgflagafilobaa
