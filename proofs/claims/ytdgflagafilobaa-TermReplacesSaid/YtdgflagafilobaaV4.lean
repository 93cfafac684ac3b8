/- The program's Vars. -/
import Derived.Test.YtdgflagafilobaaV3
import Derived.Carry
namespace Go.Proofs.Ytdgflagafilobaa
open Go.RowKit Go.Proofs.HT

/-- A list of numbers of the call's own. -/
def ListEnd (xs : List Int) (w : World) (e : Ending) (w' : World) : Prop := ∃ x, e = .returned x ∧ w'.ownsRow w.heap.size 2 1 x xs.length (nums xs) ∧ Below w.heap.size w w'
theorem owns_slice {w : World} {base : Nat} {e : TypeId} {size : Nat} {v : Value} {n : Nat} {xs : List Value} (h : w.ownsRow base e size v n xs) : ∃ a c, v = .slice a n c := by
  rcases h.2 with ⟨rfl, rfl⟩ | ⟨g, cap, cur, rfl, _⟩
  · exact ⟨_, _, rfl⟩
  · exact ⟨_, _, rfl⟩
theorem ownsRow_base {w : World} {base b : Nat} {e : TypeId} {size : Nat} {v : Value} {n : Nat} {xs : List Value} (h : w.ownsRow base e size v n xs) (hb : b ≤ base) : w.ownsRow b e size v n xs := by
  refine ⟨h.1, ?_⟩
  rcases h.2 with hn | ⟨g, cap, cur, hv, hbg, hg, rest⟩
  · exact .inl hn
  · exact .inr ⟨g, cap, cur, hv, by omega, hg, rest⟩

theorem vx_start (w w1 : World) (z1 : w.heap.size + 2 ≤ w1.heap.size) (h : w1.heap[w.heap.size + 1]? = some (.cells #[.slice none 0 0] 41 (0, 0))) :
    VX (w1.heap.size + 1) (w.heap.size + 1) w1.heap.size (w1.heap.size + 2) [] (fun g => g = w1.heap.size + 1 ∨ g = w.heap.size + 1 ∨ g = w1.heap.size) ((w1.alloc (.map #[] 0)).alloc (.cells #[.map (some w1.heap.size)] 59)) := by
  refine ⟨.slice none 0 0, fun g => ⟨fun h => by rcases h with h | h | h; exact .inl h; exact .inr (.inl h); exact .inr (.inr (.inl h)), fun h => by rcases h with h | h | h | h; exact .inl h; exact .inr (.inl h); exact .inr (.inr h); cases h⟩, ?_, ?_, ?_, World.ownsRow_nil _ _ _ _, by simp⟩
  · have h := heap_alloc_new (w1.alloc (.map #[] 0)) (.cells #[.map (some w1.heap.size)] 59)
    simpa using h
  · rw [Below.heap_alloc _ _ _ (by simp; omega), Below.heap_alloc _ _ _ (by omega), h]
  · exact (MapI.made w1).same (Below.heap_alloc _ _ _ (by simp))

set_option maxHeartbeats 1000000 in
theorem Vars_yes (t : Tm) (v : Value) (w : World) (h : LiesT w t v) (hval : validB t = true) : Calls Try.prog 31 #[tv t v] w (ListEnd (varsF [] t) w) := by
  have HH := Lib.hid h
  have hcnt : cnt t ≤ 2000 := by unfold validB at hval; simp at hval; exact hval.1
  have HE : Hid (vn ((pre t).take 2001) = varsF [] t) := by show _ = _; rw [List.take_of_length_le (by rw [pre_len]; omega), vn, pre_vars]
  have HB : Hid (∀ o1 o2, Below w.heap.size w ((w.alloc o1).alloc o2)) := fun o1 o2 => ((Below.refl w.heap.size w).alloc (Nat.le_refl _) _).alloc (by simp) _
  have HL : Hid (∀ o1 o2, LiesT ((w.alloc o1).alloc o2) t v) := fun o1 o2 => HH.out.below (HB.out o1 o2)
  have HR : Hid (∀ o1 o2, ((w.alloc o1).alloc o2).heap[w.heap.size]? = some o1 ∧ ((w.alloc o1).alloc o2).heap[w.heap.size + 1]? = some o2) := fun o1 o2 => ⟨by rw [Below.heap_alloc _ _ _ (by simp), heap_alloc_new], by have h := heap_alloc_new (w.alloc o1) o2; simpa using h⟩
  clear h hcnt
  have HVL := Lib.hid hval
  clear hval
  have hmm := @run_makeMap Try.prog
  simp only [tv]
  go_enter Try.func31, Try.ntmps31
  go_wp2_with (first
    | (go_at_call 29; refine (Valid_any t v _ (HL.out _ _)).mono ?_; rintro e w1 ⟨rfl, hb1⟩; have z1 : w.heap.size + 2 ≤ w1.heap.size := (by have := hb1.size; simp at this; omega); have z0 : w.heap.size < w1.heap.size := (by omega); have K0 := Lib.hid ((hb1.block w.heap.size (by simp; omega)).trans (HR.out _ _).1); have K1 := Lib.hid ((hb1.block (w.heap.size + 1) (by simp)).trans (HR.out _ _).2); have B1 := Lib.hid ((HB.out _ _).trans (hb1.mono (by simp; omega))); have hv1 := HVL.out; have p0 : w1.cell? ⟨w.heap.size, 0, none⟩ = some (.int .i64 t.kind) := (by rw [cell_of_row _ _ _ _ _ _ K0.out]; rfl); have p1 : w1.cell? ⟨w.heap.size, 1, none⟩ = some (.int .i64 t.num) := (by rw [cell_of_row _ _ _ _ _ _ K0.out]; rfl); have p2 : w1.cell? ⟨w.heap.size, 2, none⟩ = some (.string t.name) := (by rw [cell_of_row _ _ _ _ _ _ K0.out]; rfl); have p3 : w1.cell? ⟨w.heap.size, 3, none⟩ = some v := (by rw [cell_of_row _ _ _ _ _ _ K0.out]; rfl); have HW : Hid (Below w.heap.size w ((w1.alloc (.map #[] 0)).alloc (.cells #[.map (some w1.heap.size)] 59))) := (B1.out.alloc (by omega) _).alloc (by simp; omega) _; have HVX : Hid (VX (w1.heap.size + 1) (w.heap.size + 1) w1.heap.size (w1.heap.size + 2) [] (fun g => g = w1.heap.size + 1 ∨ g = w.heap.size + 1 ∨ g = w1.heap.size) ((w1.alloc (.map #[] 0)).alloc (.cells #[.map (some w1.heap.size)] 59))) := vx_start w w1 z1 K1.out; clear hb1)
    | (go_at_call 50; refine (walk_vars (VX (w1.heap.size + 1) (w.heap.size + 1) w1.heap.size (w1.heap.size + 2)) (VX_keep _ _ _ _) w (.pointer (some ⟨w1.heap.size + 1, 0, none⟩)) (.pointer (some ⟨w.heap.size + 1, 0, none⟩)) (Lib.hid (fun ns own t v w' h0 h1 _ h3 => vars_visit _ _ _ _ (by omega) (by omega) (by omega) (by omega) (by omega) (by omega) w (by omega) (by omega) ns own t v w' h0 h1 h3)) t v _ _ HH.out HVX.out HW.out).mono ?_; rintro e w2 ⟨rfl, own2, ⟨x, _, _, hr2, _, hrow, _⟩, _, _, _, hb2⟩; rw [HE.out] at hrow; obtain ⟨xa, xc, rfl⟩ := owns_slice hrow; have q1 : w2.cell? ⟨w.heap.size + 1, 0, none⟩ = some (.slice xa (varsF [] t).length xc) := (by rw [cell_of_row _ _ _ _ _ _ hr2]; rfl); have qf := frozen_of_row _ _ 0 _ _ hr2; have XR := Lib.hid hrow; have XB := Lib.hid hb2; clear hr2 hrow hb2))
  exact bodyPost_ret (v := .slice xa (varsF [] t).length xc) (by simp [results, Try.results31, go_sem, q1]) rfl ⟨_, rfl, ownsRow_base (ownsRow_setCell_below XR.out (by simp; omega) _) (by omega), XB.out.setCell (p := ⟨w.heap.size + 1, 0, none⟩) (by simp) _⟩

end Go.Proofs.Ytdgflagafilobaa
