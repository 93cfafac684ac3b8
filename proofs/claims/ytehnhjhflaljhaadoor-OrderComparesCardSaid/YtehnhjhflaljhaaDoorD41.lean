/- The law OrderCompares. -/
import Derived.Test.YtehnhjhflaljhaaDoorL9
namespace Go.Proofs.YtehnhjhflaljhaaDoor
open Go.RowKit Go.Proofs.HT

set_option maxHeartbeats 4000000 in
theorem compares_walk (t u : Tm) (v x : Value) (w : World) (h : LiesT w t v) (hx : LiesT w u x) (hp : Places w) : Calls Tryd.prog 3 #[tv t v, tv u x] w fun e w' => e = .returned (.bool true) ∧ Below w.heap.size w w' := by
  obtain ⟨q, hq⟩ : ∃ q, cmpV t u = q := ⟨_, rfl⟩
  have HC1 : Hid (∀ w, LiesT w t v → LiesT w u x → Places w → Calls Tryd.prog 12 #[tv t v, tv u x] w fun e w' => e = .returned (.int .i64 q) ∧ Below w.heap.size w w') := fun w h1 h2 h3 => by rw [← hq]; exact Cmp_any t u v x w h1 h2 h3
  have HC2 : Hid (∀ w, LiesT w t v → LiesT w u x → Calls Tryd.prog 13 #[tv t v, tv u x] w fun e w' => e = .returned (.int .i64 q) ∧ Below w.heap.size w w') := fun w h1 h2 => by rw [← hq]; exact cmp_any t u v x w h1 h2
  have HX := Lib.hid (fun o1 o2 => boxesC h hx o1 o2)
  have HH := Lib.hid h
  have HU := Lib.hid hx
  have HP := Lib.hid hp
  clear h hx hp hq
  simp only [tv]
  go_enter Tryd.func3, Tryd.ntmps3
  go_wp2_with fail
  have HXX := HX.out (.cells #[.int .i64 t.kind, .int .i64 t.num, .string t.name, v] 24) (.cells #[.int .i64 u.kind, .int .i64 u.num, .string u.name, x] 24)
  generalize ((w.alloc (.cells #[.int .i64 t.kind, .int .i64 t.num, .string t.name, v] 24)).alloc (.cells #[.int .i64 u.kind, .int .i64 u.num, .string u.name, x] 24)) = W0 at *
  have B0 := Lib.hid HXX.2.2.1
  have p0 : W0.cell? ⟨w.heap.size, 0, none⟩ = some (.int .i64 t.kind) := by rw [cell_of_row _ _ _ _ _ _ HXX.2.2.2.1]; rfl
  have p1 : W0.cell? ⟨w.heap.size, 1, none⟩ = some (.int .i64 t.num) := by rw [cell_of_row _ _ _ _ _ _ HXX.2.2.2.1]; rfl
  have p2 : W0.cell? ⟨w.heap.size, 2, none⟩ = some (.string t.name) := by rw [cell_of_row _ _ _ _ _ _ HXX.2.2.2.1]; rfl
  have p3 : W0.cell? ⟨w.heap.size, 3, none⟩ = some (v) := by rw [cell_of_row _ _ _ _ _ _ HXX.2.2.2.1]; rfl
  have q0 : W0.cell? ⟨w.heap.size + 1, 0, none⟩ = some (.int .i64 u.kind) := by rw [cell_of_row _ _ _ _ _ _ HXX.2.2.2.2]; rfl
  have q1 : W0.cell? ⟨w.heap.size + 1, 1, none⟩ = some (.int .i64 u.num) := by rw [cell_of_row _ _ _ _ _ _ HXX.2.2.2.2]; rfl
  have q2 : W0.cell? ⟨w.heap.size + 1, 2, none⟩ = some (.string u.name) := by rw [cell_of_row _ _ _ _ _ _ HXX.2.2.2.2]; rfl
  have q3 : W0.cell? ⟨w.heap.size + 1, 3, none⟩ = some (x) := by rw [cell_of_row _ _ _ _ _ _ HXX.2.2.2.2]; rfl
  have hS0 : Below W0.heap.size W0 W0.drew := (Below.refl _ _).drew
  have HS : Hid (∀ w', Below W0.heap.size W0 w' → (fun w' => Below W0.heap.size W0 w' ∧ w'.cell? ⟨w.heap.size, 0, none⟩ = some (.int .i64 t.kind) ∧ w'.cell? ⟨w.heap.size, 1, none⟩ = some (.int .i64 t.num) ∧ w'.cell? ⟨w.heap.size, 2, none⟩ = some (.string t.name) ∧ w'.cell? ⟨w.heap.size, 3, none⟩ = some (v) ∧ w'.cell? ⟨w.heap.size + 1, 0, none⟩ = some (.int .i64 u.kind) ∧ w'.cell? ⟨w.heap.size + 1, 1, none⟩ = some (.int .i64 u.num) ∧ w'.cell? ⟨w.heap.size + 1, 2, none⟩ = some (.string u.name) ∧ w'.cell? ⟨w.heap.size + 1, 3, none⟩ = some (x)) w') := fun w' h => ⟨h, cell_below h _ _ p0, cell_below h _ _ p1, cell_below h _ _ p2, cell_below h _ _ p3, cell_below h _ _ q0, cell_below h _ _ q1, cell_below h _ _ q2, cell_below h _ _ q3⟩
  clear HXX
  go_region_held3 (fun w' => Below W0.heap.size W0 w' ∧ w'.cell? ⟨w.heap.size, 0, none⟩ = some (.int .i64 t.kind) ∧ w'.cell? ⟨w.heap.size, 1, none⟩ = some (.int .i64 t.num) ∧ w'.cell? ⟨w.heap.size, 2, none⟩ = some (.string t.name) ∧ w'.cell? ⟨w.heap.size, 3, none⟩ = some (v) ∧ w'.cell? ⟨w.heap.size + 1, 0, none⟩ = some (.int .i64 u.kind) ∧ w'.cell? ⟨w.heap.size + 1, 1, none⟩ = some (.int .i64 u.num) ∧ w'.cell? ⟨w.heap.size + 1, 2, none⟩ = some (.string u.name) ∧ w'.cell? ⟨w.heap.size + 1, 3, none⟩ = some (x))
    (first | exact HS.out _ h5 | exact HS.out _ hS0 | assumption | go_keep)
    (first
      | (go_at_call 12; refine (HC1.out _ (HH.out.below (B0.out.trans (Below.mono (by assumption : Below W0.heap.size W0 _) B0.out.size))) (HU.out.below (B0.out.trans (Below.mono (by assumption : Below W0.heap.size W0 _) B0.out.size))) (HP.out.below (B0.out.trans (Below.mono (by assumption : Below W0.heap.size W0 _) B0.out.size)))).mono ?_; rintro e w3 ⟨rfl, hb3⟩; have h5 : Below W0.heap.size W0 w3 := Below.trans (by assumption : Below W0.heap.size W0 _) (hb3.mono (Below.size (by assumption : Below W0.heap.size W0 _))))
      | (go_at_call 13; refine (HC2.out _ (HH.out.below (B0.out.trans (Below.mono (by assumption : Below W0.heap.size W0 _) B0.out.size))) (HU.out.below (B0.out.trans (Below.mono (by assumption : Below W0.heap.size W0 _) B0.out.size)))).mono ?_; rintro e w4 ⟨rfl, hb4⟩; have h5 : Below W0.heap.size W0 w4 := Below.trans (by assumption : Below W0.heap.size W0 _) (hb4.mono (Below.size (by assumption : Below W0.heap.size W0 _))))
      | (go_at_call 14; refine (awake_any _ (HP.out.below (B0.out.trans (Below.mono (by assumption : Below W0.heap.size W0 _) B0.out.size)))).mono ?_; rintro e w6 ⟨rfl, hb6⟩; have h5 : Below W0.heap.size W0 w6 := Below.trans (by assumption : Below W0.heap.size W0 _) (hb6.mono (Below.size (by assumption : Below W0.heap.size W0 _)))))
  go_wp2_with fail
  go_ret
  exact ⟨rfl, B0.out.trans (Below.mono (by assumption : Below W0.heap.size W0 _) B0.out.size)⟩

end Go.Proofs.YtehnhjhflaljhaaDoor
