/- The contracts of ops.compare, placeOf, mayFollow and of the two closures. -/
import Derived.Test.YtkjkhhifkedflaaDoorOC
import Derived.Sort.Grow
import Derived.Deep.Draws
set_option linter.unusedVariables false
set_option linter.unusedSimpArgs false
namespace Go.Proofs.YtkjkhhifkedflaaDoor
open Go.RowKit Go.Proofs.HP

/-- New blocks and draws, nothing else. -/
structure Gw (w w' : World) : Prop where
  b : Below w.heap.size w w'
  d : w.drawn ≤ w'.drawn
theorem Gw.refl (w : World) : Gw w w := ⟨Below.refl _ _, Nat.le_refl _⟩
theorem Gw.trans {a b c : World} (h : Gw a b) (k : Gw b c) : Gw a c := ⟨h.b.trans (k.b.mono h.b.size), Nat.le_trans h.d k.d⟩
theorem Gw.alloc {a b : World} (h : Gw a b) (o : Obj) : Gw a (b.alloc o) := ⟨h.b.alloc h.b.size o, h.d⟩
theorem Gw.drew {a b : World} (h : Gw a b) : Gw a b.drew := ⟨h.b.drew, Nat.le_succ_of_le h.d⟩
theorem Gw.grow {w w' : World} (h : Gw w w') : ∃ q os, w' = Go.Sort.grow (w.drewN q) os := by
  refine ⟨w'.drawn - w.drawn, w'.heap.extract w.heap.size w'.heap.size, ?_⟩
  have h1 := h.b.os
  have h2 := h.b.tape
  have h3 := h.b.output
  have h4 := h.d
  have h5 := h.b.size
  have h6 := h.b.block
  obtain ⟨hp, tp, dr, os, ou⟩ := w
  obtain ⟨hp2, tp2, dr2, os2, ou2⟩ := w'
  simp only [Go.Sort.grow, World.drewN] at *
  subst h1 h2 h3
  congr 1
  · apply Array.ext_getElem?
    intro k
    rw [Array.getElem?_append]
    split
    · rename_i hk; exact h6 k hk
    · rename_i hk
      rw [Array.getElem?_extract]
      by_cases hk2 : k < hp2.size
      · rw [if_pos (by omega)]; congr 1; omega
      · rw [if_neg (by omega), Array.getElem?_eq_none (by omega)]
  · omega

abbrev opV (o : Opd) : Value := .agg #[.string o.1, .int .i64 o.2.1, .int .i64 o.2.2]
abbrev plV (n : ByteArray) (c : Int) : Value := .agg #[.string n, .int .i64 c]
theorem cell_below {W W' : World} (h : Below W.heap.size W W') (a : Addr) (v : Value) (hc : W.cell? a = some v) : W'.cell? a = some v := by
  rw [h.cell (p := a) ?_]
  · exact hc
  · rcases Nat.lt_or_ge a.block W.heap.size with h' | h'
    · exact h'
    · unfold World.cell? at hc
      rw [Array.getElem?_eq_none h'] at hc
      cases hc

set_option maxHeartbeats 4000000 in
theorem compare_any (n : ByteArray) (c : Int) (m : ByteArray) (d : Int) (w : World) :
    Calls Tryd.prog 37 #[plV n c, plV m d] w fun e w' => e = .returned (.int .i64 (kc n c m d)) ∧ Gw w w' := by
  obtain ⟨qa, hqa⟩ : ∃ q, cmpB n.data.toList m.data.toList = q := ⟨_, rfl⟩
  obtain ⟨qb, hqb⟩ : ∃ q, HP.cmpI c d = q := ⟨_, rfl⟩
  obtain ⟨q, hq⟩ : ∃ q, orI qa qb = q := ⟨_, rfl⟩
  have HA : Hid (∀ w, Calls Tryd.prog 62 #[.string n, .string m] w fun e w' => e = .returned (.int .i64 qa) ∧ w = w') := fun w => by rw [← hqa]; exact compS_any _ _ _
  have HB : Hid (∀ w, Calls Tryd.prog 63 #[.int .i64 c, .int .i64 d] w fun e w' => e = .returned (.int .i64 qb) ∧ w = w') := fun w => by rw [← hqb]; exact compI_any _ _ _
  have HO : Hid (∀ g w, w.cell? ⟨g, 0, none⟩ = some (.int .i64 qa) → w.cell? ⟨g, 1, none⟩ = some (.int .i64 qb) → Calls Tryd.prog 61 #[.slice (some ⟨g, 0, none⟩) 2 2] w fun e w' => e = .returned (.int .i64 q) ∧ w = w') := fun g w h0 h1 => by rw [← hq]; exact or_two g qa qb w h0 h1
  have HQ : Hid (kc n c m d = q) := by show _ = _; rw [kc, hqa, hqb, hq]
  have HG : Hid (Gw w ((w.alloc (.cells #[.string n, .int .i64 c] 55)).alloc (.cells #[.string m, .int .i64 d] 55))) := Lib.hid (((Gw.refl w).alloc _).alloc _)
  clear hqa hqb hq
  go_enter Tryd.func37, Tryd.ntmps37
  go_wp2_with fail
  have x0 : ((w.alloc (.cells #[.string n, .int .i64 c] 55)).alloc (.cells #[.string m, .int .i64 d] 55)).cell? ⟨w.heap.size, 0, none⟩ = some (.string n) := by simp
  have x1 : ((w.alloc (.cells #[.string n, .int .i64 c] 55)).alloc (.cells #[.string m, .int .i64 d] 55)).cell? ⟨w.heap.size, 1, none⟩ = some (.int .i64 c) := by simp
  have y0 : ((w.alloc (.cells #[.string n, .int .i64 c] 55)).alloc (.cells #[.string m, .int .i64 d] 55)).cell? ⟨w.heap.size + 1, 0, none⟩ = some (.string m) := by simp
  have y1 : ((w.alloc (.cells #[.string n, .int .i64 c] 55)).alloc (.cells #[.string m, .int .i64 d] 55)).cell? ⟨w.heap.size + 1, 1, none⟩ = some (.int .i64 d) := by simp
  generalize ((w.alloc (.cells #[.string n, .int .i64 c] 55)).alloc (.cells #[.string m, .int .i64 d] 55)) = W0 at *
  have hS0 : Below W0.heap.size W0 W0.drew := (Below.refl _ _).drew
  have HS : Hid (∀ w', Below W0.heap.size W0 w' → (fun w' => Below W0.heap.size W0 w' ∧ w'.cell? ⟨w.heap.size, 0, none⟩ = some (.string n) ∧ w'.cell? ⟨w.heap.size, 1, none⟩ = some (.int .i64 c) ∧ w'.cell? ⟨w.heap.size + 1, 0, none⟩ = some (.string m) ∧ w'.cell? ⟨w.heap.size + 1, 1, none⟩ = some (.int .i64 d)) w') :=
    fun w' h => ⟨h, cell_below h _ _ x0, cell_below h _ _ x1, cell_below h _ _ y0, cell_below h _ _ y1⟩
  go_region_held3 (fun w' => Below W0.heap.size W0 w' ∧ w'.cell? ⟨w.heap.size, 0, none⟩ = some (.string n) ∧ w'.cell? ⟨w.heap.size, 1, none⟩ = some (.int .i64 c) ∧ w'.cell? ⟨w.heap.size + 1, 0, none⟩ = some (.string m) ∧ w'.cell? ⟨w.heap.size + 1, 1, none⟩ = some (.int .i64 d))
    (first | assumption | exact HS.out _ hS0 | exact HS.out _ (((Below.refl _ _).alloc (Nat.le_refl _) _).drew) | exact HS.out _ (Below.alloc ‹Below W0.heap.size W0 _› (Below.size ‹Below W0.heap.size W0 _›) _) | go_keep)
    (first
      | (go_at_call 62; refine (HA.out _).mono ?_; rintro e w1 ⟨rfl, rfl⟩)
      | (go_at_call 63; refine (HB.out _).mono ?_; rintro e w1 ⟨rfl, rfl⟩)
      | (go_at_call 61; refine (HO.out _ _ (by change World.cell? (World.alloc W0 _) _ = _; rw [cell_of_row _ _ _ _ _ _ (heap_alloc_new _ _)]; rfl) (by change World.cell? (World.alloc W0 _) _ = _; rw [cell_of_row _ _ _ _ _ _ (heap_alloc_new _ _)]; rfl)).mono ?_; rintro e w1 ⟨rfl, rfl⟩))
  go_wp2_with fail
  go_ret
  exact ⟨ret_int HQ.out.symm, (HG.out.alloc _).drew⟩

end Go.Proofs.YtkjkhhifkedflaaDoor
