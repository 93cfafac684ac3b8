/- The specification's Variant. -/
import Derived.Test.YtdgflagafilobaaR11
namespace Go.Proofs.Ytdgflagafilobaa
open Go.RowKit Go.Proofs.HT

set_option maxHeartbeats 4000000 in
theorem variant_any (t u : Tm) (v x : Value) (w : World) (h : LiesT w t v) (hx : LiesT w u x) : Calls Try.prog 12 #[tv t v, tv u x] w fun e w' => e = .returned (.bool (variantV t u)) ∧ Below w.heap.size w w' := by
  rcases Bool.eq_false_or_eq_true (validB t) with ht | ht
  · rcases Bool.eq_false_or_eq_true (validB u) with hu | hu
    · have HE : Hid (sameB (canT t) (canT u) = variantV t u) := by show _ = _; simp [variantV, ht, hu]
      have HH := Lib.hid h
      have HX := Lib.hid hx
      have HT := Lib.hid ht
      have HU := Lib.hid hu
      clear hu
      have B0 : Hid (Below w.heap.size w ((w.alloc (.cells #[.int .i64 t.kind, .int .i64 t.num, .string t.name, v] 24)).alloc (.cells #[.int .i64 u.kind, .int .i64 u.num, .string u.name, x] 24))) := ((Below.refl w.heap.size w).alloc (Nat.le_refl _) _).alloc (by simp) _
      have r0 : ((w.alloc (.cells #[.int .i64 t.kind, .int .i64 t.num, .string t.name, v] 24)).alloc (.cells #[.int .i64 u.kind, .int .i64 u.num, .string u.name, x] 24)).heap[w.heap.size]? = some (.cells #[.int .i64 t.kind, .int .i64 t.num, .string t.name, v] 24 (0, 0)) := by rw [Below.heap_alloc _ _ _ (by simp), heap_alloc_new]
      have r1 : ((w.alloc (.cells #[.int .i64 t.kind, .int .i64 t.num, .string t.name, v] 24)).alloc (.cells #[.int .i64 u.kind, .int .i64 u.num, .string u.name, x] 24)).heap[w.heap.size + 1]? = some (.cells #[.int .i64 u.kind, .int .i64 u.num, .string u.name, x] 24 (0, 0)) := by have h := heap_alloc_new (w.alloc (.cells #[.int .i64 t.kind, .int .i64 t.num, .string t.name, v] 24)) (.cells #[.int .i64 u.kind, .int .i64 u.num, .string u.name, x] 24); simpa using h
      clear h hx ht
      simp only [tv]
      go_enter Try.func12, Try.ntmps12
      go_wp2_with fail
      generalize ((w.alloc (.cells #[.int .i64 t.kind, .int .i64 t.num, .string t.name, v] 24)).alloc (.cells #[.int .i64 u.kind, .int .i64 u.num, .string u.name, x] 24)) = W0 at *
      have p0 : W0.cell? ⟨w.heap.size, 0, none⟩ = some (.int .i64 t.kind) := (by rw [cell_of_row _ _ _ _ _ _ r0]; rfl)
      have p1 : W0.cell? ⟨w.heap.size, 1, none⟩ = some (.int .i64 t.num) := (by rw [cell_of_row _ _ _ _ _ _ r0]; rfl)
      have p2 : W0.cell? ⟨w.heap.size, 2, none⟩ = some (.string t.name) := (by rw [cell_of_row _ _ _ _ _ _ r0]; rfl)
      have p3 : W0.cell? ⟨w.heap.size, 3, none⟩ = some (v) := (by rw [cell_of_row _ _ _ _ _ _ r0]; rfl)
      have q0 : W0.cell? ⟨w.heap.size + 1, 0, none⟩ = some (.int .i64 u.kind) := (by rw [cell_of_row _ _ _ _ _ _ r1]; rfl)
      have q1 : W0.cell? ⟨w.heap.size + 1, 1, none⟩ = some (.int .i64 u.num) := (by rw [cell_of_row _ _ _ _ _ _ r1]; rfl)
      have q2 : W0.cell? ⟨w.heap.size + 1, 2, none⟩ = some (.string u.name) := (by rw [cell_of_row _ _ _ _ _ _ r1]; rfl)
      have q3 : W0.cell? ⟨w.heap.size + 1, 3, none⟩ = some (x) := (by rw [cell_of_row _ _ _ _ _ _ r1]; rfl)
      have hS0 : Below W0.heap.size W0 W0.drew := (Below.refl _ _).drew
      clear r0 r1
      go_region_held3 (fun w' => Below W0.heap.size W0 w' ∧ w'.cell? ⟨w.heap.size, 0, none⟩ = some (.int .i64 t.kind) ∧ w'.cell? ⟨w.heap.size, 1, none⟩ = some (.int .i64 t.num) ∧ w'.cell? ⟨w.heap.size, 2, none⟩ = some (.string t.name) ∧ w'.cell? ⟨w.heap.size, 3, none⟩ = some (v) ∧ w'.cell? ⟨w.heap.size + 1, 0, none⟩ = some (.int .i64 u.kind) ∧ w'.cell? ⟨w.heap.size + 1, 1, none⟩ = some (.int .i64 u.num) ∧ w'.cell? ⟨w.heap.size + 1, 2, none⟩ = some (.string u.name) ∧ w'.cell? ⟨w.heap.size + 1, 3, none⟩ = some (x))
        (first | exact ⟨h5, cell_below h5 _ _ p0, cell_below h5 _ _ p1, cell_below h5 _ _ p2, cell_below h5 _ _ p3, cell_below h5 _ _ q0, cell_below h5 _ _ q1, cell_below h5 _ _ q2, cell_below h5 _ _ q3⟩ | exact ⟨hS0, p0, p1, p2, p3, q0, q1, q2, q3⟩ | go_keep)
        (first
          | (go_at_call_of 34 (Value.agg #[.int .i64 t.kind, .int .i64 t.num, .string t.name, v]); refine (valid_is t v _ HT.out _ (HH.out.below (B0.out.trans (Below.mono (by assumption : Below W0.heap.size W0 _) B0.out.size)))).mono ?_; rintro e w1 ⟨rfl, hb1⟩; have h5 : Below W0.heap.size W0 w1 := Below.trans (by assumption : Below W0.heap.size W0 _) (hb1.mono (Below.size (by assumption : Below W0.heap.size W0 _))))
          | (go_at_call_of 34 (Value.agg #[.int .i64 u.kind, .int .i64 u.num, .string u.name, x]); refine (valid_is u x _ HU.out _ (HX.out.below (B0.out.trans (Below.mono (by assumption : Below W0.heap.size W0 _) B0.out.size)))).mono ?_; rintro e w2 ⟨rfl, hb2⟩; have h5 : Below W0.heap.size W0 w2 := Below.trans (by assumption : Below W0.heap.size W0 _) (hb2.mono (Below.size (by assumption : Below W0.heap.size W0 _))))
          | (go_at_call_of 39 (Value.agg #[.int .i64 t.kind, .int .i64 t.num, .string t.name, v]); refine (canon_yes t v _ (HH.out.below (B0.out.trans (Below.mono (by assumption : Below W0.heap.size W0 _) B0.out.size))) HT.out).mono ?_; rintro e w3 ⟨y1, rfl, hy1, hb3⟩; have HY1 := Lib.hid (OwnT.lies _ _ hy1); clear hy1; have h5 : Below W0.heap.size W0 w3 := Below.trans (by assumption : Below W0.heap.size W0 _) (hb3.mono (Below.size (by assumption : Below W0.heap.size W0 _))))
          | (go_at_call_of 39 (Value.agg #[.int .i64 u.kind, .int .i64 u.num, .string u.name, x]); refine (canon_yes u x _ (HX.out.below (B0.out.trans (Below.mono (by assumption : Below W0.heap.size W0 _) B0.out.size))) HU.out).mono ?_; rintro e w4 ⟨y2, rfl, hy2, hb4⟩; have HY2 := Lib.hid (OwnT.lies _ _ hy2); have HY3 := Lib.hid (HY1.out.below hb4); clear hy2; have h5 : Below W0.heap.size W0 w4 := Below.trans (by assumption : Below W0.heap.size W0 _) (hb4.mono (Below.size (by assumption : Below W0.heap.size W0 _))))
          | (go_at_call 38; refine (ident_any (canT t) (canT u) y1 y2 _ HY3.out HY2.out).mono ?_; rintro e w5 ⟨rfl, hb5⟩; have h5 : Below W0.heap.size W0 w5 := Below.trans (by assumption : Below W0.heap.size W0 _) (hb5.mono (Below.size (by assumption : Below W0.heap.size W0 _)))))
      go_wp2_with fail
      go_ret
      exact ⟨ret_bool HE.out, (B0.out.trans (Below.mono (by assumption : Below W0.heap.size W0 _) B0.out.size))⟩
    · have HE : Hid (false = variantV t u) := by show _ = _; simp [variantV, hu]
      have HH := Lib.hid h
      have HX := Lib.hid hx
      have HT := Lib.hid ht
      have HU := Lib.hid hu
      clear hu
      have B0 : Hid (Below w.heap.size w ((w.alloc (.cells #[.int .i64 t.kind, .int .i64 t.num, .string t.name, v] 24)).alloc (.cells #[.int .i64 u.kind, .int .i64 u.num, .string u.name, x] 24))) := ((Below.refl w.heap.size w).alloc (Nat.le_refl _) _).alloc (by simp) _
      have r0 : ((w.alloc (.cells #[.int .i64 t.kind, .int .i64 t.num, .string t.name, v] 24)).alloc (.cells #[.int .i64 u.kind, .int .i64 u.num, .string u.name, x] 24)).heap[w.heap.size]? = some (.cells #[.int .i64 t.kind, .int .i64 t.num, .string t.name, v] 24 (0, 0)) := by rw [Below.heap_alloc _ _ _ (by simp), heap_alloc_new]
      have r1 : ((w.alloc (.cells #[.int .i64 t.kind, .int .i64 t.num, .string t.name, v] 24)).alloc (.cells #[.int .i64 u.kind, .int .i64 u.num, .string u.name, x] 24)).heap[w.heap.size + 1]? = some (.cells #[.int .i64 u.kind, .int .i64 u.num, .string u.name, x] 24 (0, 0)) := by have h := heap_alloc_new (w.alloc (.cells #[.int .i64 t.kind, .int .i64 t.num, .string t.name, v] 24)) (.cells #[.int .i64 u.kind, .int .i64 u.num, .string u.name, x] 24); simpa using h
      clear h hx ht
      simp only [tv]
      go_enter Try.func12, Try.ntmps12
      go_wp2_with fail
      generalize ((w.alloc (.cells #[.int .i64 t.kind, .int .i64 t.num, .string t.name, v] 24)).alloc (.cells #[.int .i64 u.kind, .int .i64 u.num, .string u.name, x] 24)) = W0 at *
      have p0 : W0.cell? ⟨w.heap.size, 0, none⟩ = some (.int .i64 t.kind) := (by rw [cell_of_row _ _ _ _ _ _ r0]; rfl)
      have p1 : W0.cell? ⟨w.heap.size, 1, none⟩ = some (.int .i64 t.num) := (by rw [cell_of_row _ _ _ _ _ _ r0]; rfl)
      have p2 : W0.cell? ⟨w.heap.size, 2, none⟩ = some (.string t.name) := (by rw [cell_of_row _ _ _ _ _ _ r0]; rfl)
      have p3 : W0.cell? ⟨w.heap.size, 3, none⟩ = some (v) := (by rw [cell_of_row _ _ _ _ _ _ r0]; rfl)
      have q0 : W0.cell? ⟨w.heap.size + 1, 0, none⟩ = some (.int .i64 u.kind) := (by rw [cell_of_row _ _ _ _ _ _ r1]; rfl)
      have q1 : W0.cell? ⟨w.heap.size + 1, 1, none⟩ = some (.int .i64 u.num) := (by rw [cell_of_row _ _ _ _ _ _ r1]; rfl)
      have q2 : W0.cell? ⟨w.heap.size + 1, 2, none⟩ = some (.string u.name) := (by rw [cell_of_row _ _ _ _ _ _ r1]; rfl)
      have q3 : W0.cell? ⟨w.heap.size + 1, 3, none⟩ = some (x) := (by rw [cell_of_row _ _ _ _ _ _ r1]; rfl)
      have hS0 : Below W0.heap.size W0 W0.drew := (Below.refl _ _).drew
      clear r0 r1
      go_region_with (first
          | (go_at_call_of 34 (Value.agg #[.int .i64 t.kind, .int .i64 t.num, .string t.name, v]); refine (valid_is t v _ HT.out _ (HH.out.below (B0.out.trans (Below.mono (by assumption : Below W0.heap.size W0 _) B0.out.size)))).mono ?_; rintro e w1 ⟨rfl, hb1⟩; have h5 : Below W0.heap.size W0 w1 := Below.trans (by assumption : Below W0.heap.size W0 _) (hb1.mono (Below.size (by assumption : Below W0.heap.size W0 _))); have e0 := cell_below h5 _ _ q0; have e1 := cell_below h5 _ _ q1; have e2 := cell_below h5 _ _ q2; have e3 := cell_below h5 _ _ q3)
          | (go_at_call_of 34 (Value.agg #[.int .i64 u.kind, .int .i64 u.num, .string u.name, x]); refine (valid_is u x _ HU.out _ (HX.out.below (B0.out.trans (Below.mono (by assumption : Below W0.heap.size W0 _) B0.out.size)))).mono ?_; rintro e w2 ⟨rfl, hb2⟩; have h5 : Below W0.heap.size W0 w2 := Below.trans (by assumption : Below W0.heap.size W0 _) (hb2.mono (Below.size (by assumption : Below W0.heap.size W0 _)))))
      all_goals
        go_wp2_with fail
        go_ret
        exact ⟨ret_bool HE.out, (B0.out.trans (Below.mono (by assumption : Below W0.heap.size W0 _) B0.out.size))⟩
  · have HE : Hid (false = variantV t u) := by show _ = _; simp [variantV, ht]
    have HH := Lib.hid h
    have HX := Lib.hid hx
    have HT := Lib.hid ht
    have B0 : Hid (Below w.heap.size w ((w.alloc (.cells #[.int .i64 t.kind, .int .i64 t.num, .string t.name, v] 24)).alloc (.cells #[.int .i64 u.kind, .int .i64 u.num, .string u.name, x] 24))) := ((Below.refl w.heap.size w).alloc (Nat.le_refl _) _).alloc (by simp) _
    have r0 : ((w.alloc (.cells #[.int .i64 t.kind, .int .i64 t.num, .string t.name, v] 24)).alloc (.cells #[.int .i64 u.kind, .int .i64 u.num, .string u.name, x] 24)).heap[w.heap.size]? = some (.cells #[.int .i64 t.kind, .int .i64 t.num, .string t.name, v] 24 (0, 0)) := by rw [Below.heap_alloc _ _ _ (by simp), heap_alloc_new]
    have r1 : ((w.alloc (.cells #[.int .i64 t.kind, .int .i64 t.num, .string t.name, v] 24)).alloc (.cells #[.int .i64 u.kind, .int .i64 u.num, .string u.name, x] 24)).heap[w.heap.size + 1]? = some (.cells #[.int .i64 u.kind, .int .i64 u.num, .string u.name, x] 24 (0, 0)) := by have h := heap_alloc_new (w.alloc (.cells #[.int .i64 t.kind, .int .i64 t.num, .string t.name, v] 24)) (.cells #[.int .i64 u.kind, .int .i64 u.num, .string u.name, x] 24); simpa using h
    clear h hx ht
    simp only [tv]
    go_enter Try.func12, Try.ntmps12
    go_wp2_with fail
    generalize ((w.alloc (.cells #[.int .i64 t.kind, .int .i64 t.num, .string t.name, v] 24)).alloc (.cells #[.int .i64 u.kind, .int .i64 u.num, .string u.name, x] 24)) = W0 at *
    have p0 : W0.cell? ⟨w.heap.size, 0, none⟩ = some (.int .i64 t.kind) := (by rw [cell_of_row _ _ _ _ _ _ r0]; rfl)
    have p1 : W0.cell? ⟨w.heap.size, 1, none⟩ = some (.int .i64 t.num) := (by rw [cell_of_row _ _ _ _ _ _ r0]; rfl)
    have p2 : W0.cell? ⟨w.heap.size, 2, none⟩ = some (.string t.name) := (by rw [cell_of_row _ _ _ _ _ _ r0]; rfl)
    have p3 : W0.cell? ⟨w.heap.size, 3, none⟩ = some (v) := (by rw [cell_of_row _ _ _ _ _ _ r0]; rfl)
    have q0 : W0.cell? ⟨w.heap.size + 1, 0, none⟩ = some (.int .i64 u.kind) := (by rw [cell_of_row _ _ _ _ _ _ r1]; rfl)
    have q1 : W0.cell? ⟨w.heap.size + 1, 1, none⟩ = some (.int .i64 u.num) := (by rw [cell_of_row _ _ _ _ _ _ r1]; rfl)
    have q2 : W0.cell? ⟨w.heap.size + 1, 2, none⟩ = some (.string u.name) := (by rw [cell_of_row _ _ _ _ _ _ r1]; rfl)
    have q3 : W0.cell? ⟨w.heap.size + 1, 3, none⟩ = some (x) := (by rw [cell_of_row _ _ _ _ _ _ r1]; rfl)
    have hS0 : Below W0.heap.size W0 W0.drew := (Below.refl _ _).drew
    clear r0 r1
    go_region_with (first
        | (go_at_call_of 34 (Value.agg #[.int .i64 t.kind, .int .i64 t.num, .string t.name, v]); refine (valid_is t v _ HT.out _ (HH.out.below (B0.out.trans (Below.mono (by assumption : Below W0.heap.size W0 _) B0.out.size)))).mono ?_; rintro e w1 ⟨rfl, hb1⟩; have h5 : Below W0.heap.size W0 w1 := Below.trans (by assumption : Below W0.heap.size W0 _) (hb1.mono (Below.size (by assumption : Below W0.heap.size W0 _)))))
    all_goals
      go_wp2_with fail
      go_ret
      exact ⟨ret_bool HE.out, (B0.out.trans (Below.mono (by assumption : Below W0.heap.size W0 _) B0.out.size))⟩

end Go.Proofs.Ytdgflagafilobaa
