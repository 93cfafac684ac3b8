/- The program's Size, Valid and the count of a variable's occurrences: visitors. -/
import Derived.Test.YtehnhjhflaljhaaDoorW1
import Derived.Test.YtehnhjhflaljhaaDoorW2
import Derived.Test.YtehnhjhflaljhaaDoorW4
namespace Go.Proofs.YtehnhjhflaljhaaDoor
open Go.RowKit Go.Proofs.HT

/-! Size. -/
def VS (_ : List Tm) (own : Nat → Prop) (_ : World) : Prop := ∀ g, ¬ own g
theorem VS_keep : VisKeep VS := ⟨fun _ _ _ _ h _ _ => h, fun _ _ _ g h ho => absurd ho (h g)⟩

/-! Valid. -/
def okN (t : Tm) : Bool := nodeB t.kind t.num t.name t.args.length
def okAll (ns : List Tm) : Bool := ns.all okN
def VV (g0 : Nat) (ns : List Tm) (own : Nat → Prop) (w : World) : Prop := (∀ g, own g ↔ g = g0) ∧ w.heap[g0]? = some (.cells #[.bool (okAll ns)] 4 (0, 0))
theorem VV_keep (g0 : Nat) : VisKeep (VV g0) := ⟨fun _ _ _ _ h k _ => ⟨h.1, by rw [k g0 ((h.1 g0).2 rfl)]; exact h.2⟩, fun _ _ _ g h ho => by rw [(h.1 g).1 ho]; exact (Array.getElem?_eq_some_iff.1 h.2).1⟩
theorem pre_ok (t : Tm) : (pre t).all okN = nodesB t := by
  induction t using Tm.ind with
  | h k n s ts ih =>
    rw [pre, nodesB, List.all_cons]
    congr 1
    have key : ∀ l : List Tm, (∀ t ∈ l, (pre t).all okN = nodesB t) → (preL l).all okN = nodesL l := by
      intro l
      induction l with
      | nil => intro _; rfl
      | cons x l ih2 => intro h; rw [preL, nodesL, List.all_append, h x (by simp), ih2 (fun y hy => h y (by simp [hy]))]
    exact key ts ih
theorem validB_of (t : Tm) : (okAll ((pre t).take 2001) && decide (cntM t 2001 ≤ 2000)) = validB t := by
  unfold validB okAll
  by_cases h : cnt t ≤ 2000
  · rw [List.take_of_length_le (by rw [pre_len]; omega), pre_ok]
    have h1 : decide (cntM t 2001 ≤ 2000) = true := decide_eq_true ((cntM_le t).2 h)
    rw [h1, decide_eq_true h]; simp
  · have h1 : decide (cntM t 2001 ≤ 2000) = false := decide_eq_false (fun e => h ((cntM_le t).1 e))
    rw [h1, decide_eq_false h]; simp

theorem isProper_any (t : Tm) (v : Value) (w : World) (h : LiesT w t v) : Calls Tryd.prog 58 #[tv t v] w fun e w' => e = .returned (.bool (okN t)) ∧ Below w.heap.size w w' := by
  obtain ⟨a, cap, rfl⟩ := h.slice
  exact isProper_raw _ _ _ a _ cap w

set_option maxHeartbeats 1000000 in
theorem valid_visit (g0 : Nat) (W : World) (hg0 : W.heap.size ≤ g0) (ns : List Tm) (own : Nat → Prop) (t : Tm) (v : Value) (w : World) (hV : VV g0 ns own w) (hl : LiesT W t v) (hb : Below W.heap.size W w) :
    Calls Tryd.prog 57 #[tv t v, .pointer (some ⟨g0, 0, none⟩)] w (VisitEnd (VV g0) W (ns ++ [t]) own w) := by
  have hr := hV.2
  have ho := hV.1
  have hlt := (Array.getElem?_eq_some_iff.1 hr).1
  have q0 : w.cell? ⟨g0, 0, none⟩ = some (.bool (okAll ns)) := by rw [cell_of_row _ _ _ _ _ _ hr]; rfl
  have qf := frozen_of_row _ _ 0 _ _ hr
  have HB := Lib.hid hb
  have HL := Lib.hid (hl.below hb)
  have HR := Lib.hid hr
  have HO := Lib.hid ho
  have L1 : Hid (∀ o, LiesT (w.alloc o) t v) := fun o => HL.out.below ((Below.refl _ _).alloc (Nat.le_refl _) o)
  have B1 : Hid (∀ o, Below W.heap.size W (w.alloc o)) := fun o => HB.out.alloc HB.out.size o
  have R1 : Hid (∀ o, (w.alloc o).heap[g0]? = w.heap[g0]?) := fun o => Below.heap_alloc _ _ _ hlt
  have E1 : Hid (okAll (ns ++ [t]) = (okAll ns && okN t)) := by show _ = _; simp [okAll]
  clear hV hr ho hl hb
  rcases Bool.eq_false_or_eq_true (okAll ns) with ht | ht
  · rw [ht] at q0 HR E1
    simp only [tv]
    go_enter Tryd.func57, Tryd.ntmps57
    go_wp2_with (go_at_call 58; refine (isProper_any t v _ (L1.out _)).mono ?_; rintro e w1 ⟨rfl, hb1⟩; have z1 := (show w.heap.size + 1 ≤ w1.heap.size by have := hb1.size; simp at this; omega); have r1 := Lib.hid ((hb1.block g0 (by simp; omega)).trans ((R1.out _).trans HR.out)); have B2 := Lib.hid (B1.out _ |>.trans (hb1.mono (by have := HB.out.size; simp; omega))); have k1 := Lib.hid hb1; have q1 : w1.cell? ⟨g0, 0, none⟩ = some (.bool true) := (by rw [cell_of_row _ _ _ _ _ _ r1.out]; rfl); have f1 := frozen_of_row _ _ 0 _ _ r1.out; clear hb1)
    go_end0
    refine ⟨rfl, own, ⟨HO.out, ?_⟩, fun g h => .inl h, by simp [World.setCell]; omega, fun g hg hn => ?_, B2.out.setCell (p := ⟨g0, 0, none⟩) hg0 _⟩
    · have h := heap_setCell_same w1 g0 0 _ _ (.bool (okN t)) r1.out
      rw [E1.out]; simpa using h
    · rw [Below.heap_setCell _ _ _ _ (fun e => hn ((HO.out g).2 e)), k1.out.block g (by simp; omega), Below.heap_alloc _ _ _ hg]
  · rw [ht] at q0 HR E1
    simp only [tv]
    go_enter Tryd.func57, Tryd.ntmps57
    go_wp2_with fail
    go_end0
    refine ⟨rfl, own, ⟨HO.out, ?_⟩, fun g h => .inl h, by simp [World.setCell], fun g hg hn => ?_, ?_⟩
    · rw [Below.heap_alloc _ _ _ (by simpa [World.setCell] using hlt)]
      have h := heap_setCell_same w g0 0 _ _ (.bool false) HR.out
      rw [E1.out]; simpa using h
    · rw [Below.heap_alloc _ _ _ (by simpa [World.setCell] using hg), Below.heap_setCell _ _ _ _ (fun e => hn ((HO.out g).2 e))]
    · exact (HB.out.setCell (p := ⟨g0, 0, none⟩) hg0 _).alloc (by simpa [World.setCell] using HB.out.size) _

set_option maxHeartbeats 1000000 in
theorem Valid_any (t : Tm) (v : Value) (w : World) (h : LiesT w t v) : Calls Tryd.prog 36 #[tv t v] w fun e w' => e = .returned (.bool (validB t)) ∧ Below w.heap.size w w' := by
  have HH := Lib.hid h
  have HB : Hid (∀ o1 o2, Below w.heap.size w ((w.alloc o1).alloc o2)) := fun o1 o2 => ((Below.refl w.heap.size w).alloc (Nat.le_refl _) _).alloc (by simp) _
  have HV : Hid (∀ o1, VV (w.heap.size + 1) [] (fun g => g = w.heap.size + 1) ((w.alloc o1).alloc (.cells #[.bool true] 4))) := fun o1 => ⟨fun _ => Iff.rfl, by have h := heap_alloc_new (w.alloc o1) (.cells #[.bool true] 4); show _ = some (Obj.cells #[.bool true] 4 (0, 0)); simpa using h⟩
  have HE := validB_of t
  have hB : ∃ B, okAll ((pre t).take 2001) = B := ⟨_, rfl⟩
  obtain ⟨B, hB⟩ := hB
  rw [hB] at HE
  have HE1 := Lib.hid HE
  have HBB := Lib.hid hB
  clear HE
  clear h hB
  simp only [tv]
  cases B
  all_goals
    go_enter Tryd.func36, Tryd.ntmps36
    go_wp2_with (go_at_call 56; refine (walk_valid (VV (w.heap.size + 1)) (VV_keep _) w (.pointer (some ⟨w.heap.size + 1, 0, none⟩)) (Lib.hid (fun ns own t v w' _ h1 h2 h3 => valid_visit _ w (by omega) ns own t v w' h1 h2 h3)) t v (fun g => g = w.heap.size + 1) _ HH.out (HV.out _) (HB.out _ _)).mono ?_; rintro e w1 ⟨rfl, own1, hV1, _, _, _, hb1⟩; have X := Lib.hid hb1; have q1 := (show w1.cell? ⟨w.heap.size + 1, 0, none⟩ = some (Value.bool _) from (cell_of_row _ _ _ _ _ _ hV1.2).trans (congrArg (fun b => some (Value.bool b)) HBB.out)); have f1 := frozen_of_row _ _ 0 _ _ hV1.2; clear hb1 hV1)
    first
      | exact bodyPost_ret (v := .bool false) (by simp [results, Tryd.results36, go_sem, q1]) rfl ⟨ret_bool (by rw [← HE1.out]; rfl), X.out.setCell (p := ⟨w.heap.size + 1, 0, none⟩) (by simp) _⟩
      | exact bodyPost_ret (v := .bool (decide (cntM t 2001 ≤ 2000))) (by simp [results, Tryd.results36, go_sem, q1]) rfl ⟨ret_bool (by rw [← HE1.out]; rfl), X.out.setCell (p := ⟨w.heap.size + 1, 0, none⟩) (by simp) _⟩

end Go.Proofs.YtehnhjhflaljhaaDoor
