/- The program's visitors that count a variable's occurrences and that collect the variables. -/
import Derived.Test.YtdgflagafilobaaV1
import Derived.Test.YtdgflagafilobaaW3
import Derived.Test.YtdgflagafilobaaTm
namespace Go.Proofs.Ytdgflagafilobaa
open Go.RowKit Go.Proofs.HT

/-! A variable's occurrences. -/
def isV (v : Int) (t : Tm) : Bool := decide (t.kind = 0 ∧ t.num = v)
def occN (v : Int) (ns : List Tm) : Nat := (ns.filter (isV v)).length
theorem occN_snoc (v : Int) (ns : List Tm) (t : Tm) : occN v (ns ++ [t]) = occN v ns + if t.kind = 0 ∧ t.num = v then 1 else 0 := by
  unfold occN
  rw [List.filter_append, List.length_append]
  by_cases h : t.kind = 0 ∧ t.num = v
  · have h2 : isV v t = true := by simp [isV, h]
    simp [h2, h]
  · have h2 : isV v t = false := by simp [isV]; intro a b; exact h ⟨a, b⟩
    rw [if_neg h]
    simp [h2]
theorem occN_le (v : Int) (ns : List Tm) : occN v ns ≤ ns.length := List.length_filter_le _ _

def VR (v : Int) (vb ob : Nat) (ns : List Tm) (own : Nat → Prop) (w : World) : Prop :=
  (∀ g, own g ↔ g = vb ∨ g = ob) ∧ w.heap[vb]? = some (.cells #[.int .i64 v] 2 (0, 0)) ∧ w.heap[ob]? = some (.cells #[.int .i64 (occN v ns)] 3 (0, 0))
theorem VR_keep (v : Int) (vb ob : Nat) : VisKeep (VR v vb ob) := ⟨fun _ _ _ _ h k _ => ⟨h.1, by rw [k vb ((h.1 vb).2 (.inl rfl))]; exact h.2.1, by rw [k ob ((h.1 ob).2 (.inr rfl))]; exact h.2.2⟩,
  fun _ _ _ g h ho => by rcases (h.1 g).1 ho with rfl | rfl; exact (Array.getElem?_eq_some_iff.1 h.2.1).1; exact (Array.getElem?_eq_some_iff.1 h.2.2).1⟩

set_option maxHeartbeats 1000000 in
theorem repl_visit (x : Int) (vb ob : Nat) (hne : ¬ vb = ob) (W : World) (hg0 : W.heap.size ≤ ob) (ns : List Tm) (own : Nat → Prop) (t : Tm) (v : Value) (w : World) (hns : ns.length < 2001) (hV : VR x vb ob ns own w) (hb : Below W.heap.size W w) :
    Calls Try.prog 51 #[tv t v, .pointer (some ⟨vb, 0, none⟩), .pointer (some ⟨ob, 0, none⟩)] w (VisitEnd (VR x vb ob) W (ns ++ [t]) own w) := by
  obtain ⟨ho, hr1, hr2⟩ := hV
  have hlt1 := (Array.getElem?_eq_some_iff.1 hr1).1
  have hlt := (Array.getElem?_eq_some_iff.1 hr2).1
  have q0 : w.cell? ⟨vb, 0, none⟩ = some (.int .i64 x) := by rw [cell_of_row _ _ _ _ _ _ hr1]; rfl
  have q1 : w.cell? ⟨ob, 0, none⟩ = some (.int .i64 (occN x ns)) := by rw [cell_of_row _ _ _ _ _ _ hr2]; rfl
  have qf := frozen_of_row _ _ 0 _ _ hr2
  have HB := Lib.hid hb
  have HR1 := Lib.hid hr1
  have HR2 := Lib.hid hr2
  have HO := Lib.hid ho
  have HOC := Lib.hid (occN_snoc x ns t)
  have hbd := occN_le x ns
  clear hr1 hr2 ho hb
  by_cases hk : t.kind = 0
  · have hk1 : (t.kind == 0) = true := by simpa using hk
    by_cases hn : t.num = x
    · have hn1 : (t.num == x) = true := by simpa using hn
      have HE : Hid (occN x (ns ++ [t]) = occN x ns + 1) := by show _ = _; rw [HOC.out, if_pos ⟨hk, hn⟩]
      clear hk hn
      simp only [tv]
      go_enter Try.func51, Try.ntmps51
      go_wp2_with fail
      go_end0
      refine ⟨rfl, own, ⟨HO.out, ?_, ?_⟩, fun g h => .inl h, by simp [World.setCell], fun g hg hn => ?_, ?_⟩
      · rw [Below.heap_alloc _ _ _ (by simpa [World.setCell] using hlt1), Below.heap_setCell _ _ _ _ hne, HR1.out]
      · rw [Below.heap_alloc _ _ _ (by simpa [World.setCell] using hlt)]
        have h := heap_setCell_same w ob 0 _ _ (.int .i64 (occN x ns + 1)) HR2.out
        rw [HE.out]; simpa using h
      · rw [Below.heap_alloc _ _ _ (by simpa [World.setCell] using hg), Below.heap_setCell _ _ _ _ (fun e => hn ((HO.out g).2 (.inr e)))]
      · exact (HB.out.setCell (p := ⟨ob, 0, none⟩) hg0 _).alloc (by simpa [World.setCell] using HB.out.size) _
    · have hn1 : (t.num == x) = false := by simpa using hn
      have HE : Hid (occN x (ns ++ [t]) = occN x ns) := by show _ = _; rw [HOC.out, if_neg (fun h => hn h.2)]; rfl
      clear hk hn
      simp only [tv]
      go_enter Try.func51, Try.ntmps51
      go_wp2_with fail
      go_end0
      exact ⟨rfl, own, (VR_keep x vb ob).keep _ _ w _ ⟨HO.out, HR1.out, by rw [HE.out]; exact HR2.out⟩ (fun g hg => Below.heap_alloc _ _ _ (by rcases (HO.out g).1 hg with rfl | rfl <;> assumption)) (by simp), fun g h => .inl h, by simp, fun g hg _ => Below.heap_alloc _ _ _ hg, HB.out.alloc HB.out.size _⟩
  · have hk1 : (t.kind == 0) = false := by simpa using hk
    have HE : Hid (occN x (ns ++ [t]) = occN x ns) := by show _ = _; rw [HOC.out, if_neg (fun h => hk h.1)]; rfl
    simp only [tv]
    go_enter Try.func51, Try.ntmps51
    go_wp2_with fail
    go_end0
    exact ⟨rfl, own, (VR_keep x vb ob).keep _ _ w _ ⟨HO.out, HR1.out, by rw [HE.out]; exact HR2.out⟩ (fun g hg => Below.heap_alloc _ _ _ (by rcases (HO.out g).1 hg with rfl | rfl <;> assumption)) (by simp), fun g h => .inl h, by simp, fun g hg _ => Below.heap_alloc _ _ _ hg, HB.out.alloc HB.out.size _⟩

end Go.Proofs.Ytdgflagafilobaa
