/- The program's Same and Variant. -/
import Derived.Test.YtdgflagafilobaaI2
import Derived.Deep.RegionHeld3
import Derived.Deep.DeepCutAuto
namespace Go.Proofs.Ytdgflagafilobaa
open Go.RowKit Go.Proofs.HT

set_option maxHeartbeats 1000000 in
theorem Same_any (t u : Tm) (v x : Value) (w : World) (h : LiesT w t v) (hx : LiesT w u x) : Calls Try.prog 9 #[tv t v, tv u x] w fun e w' => e = .returned (.bool (sameV t u)) ∧ Below w.heap.size w w' := by
  rcases Bool.eq_false_or_eq_true (validB t) with ht | ht
  · rcases Bool.eq_false_or_eq_true (validB u) with hu | hu
    · have HE : Hid (sameB t u = sameV t u) := by show _ = _; simp [sameV, ht, hu]
      have HU := Lib.hid hu
      have HH := Lib.hid h
      have HX := Lib.hid hx
      have HB : Hid (∀ o1 o2, Below w.heap.size w ((w.alloc o1).alloc o2)) := fun o1 o2 => ((Below.refl w.heap.size w).alloc (Nat.le_refl _) _).alloc (by simp) _
      have HL : Hid (∀ o1 o2, LiesT ((w.alloc o1).alloc o2) t v) := fun o1 o2 => HH.out.below (HB.out o1 o2)
      have HR : Hid (∀ o1 o2, ((w.alloc o1).alloc o2).heap[w.heap.size]? = some o1 ∧ ((w.alloc o1).alloc o2).heap[w.heap.size + 1]? = some o2) := fun o1 o2 => ⟨by rw [Below.heap_alloc _ _ _ (by simp), heap_alloc_new], by have h := heap_alloc_new (w.alloc o1) o2; simpa using h⟩
      have HT := Lib.hid ht
      clear h hx ht hu
      simp only [tv]
      go_enter Try.func9, Try.ntmps9
      go_wp2_with (first
        | (go_at_call_of 29 (Value.agg #[.int .i64 t.kind, .int .i64 t.num, .string t.name, v]); refine (Valid_any t v _ (HL.out _ _)).mono ?_; rintro e w1 ⟨rfl, hb1⟩; have z1 : w.heap.size + 2 ≤ w1.heap.size := (by have := hb1.size; simp at this; omega); have K0 := Lib.hid ((hb1.block w.heap.size (by simp <;> omega)).trans (HR.out _ _).1); have K1 := Lib.hid ((hb1.block (w.heap.size + 1) (by simp)).trans (HR.out _ _).2); have B1 := Lib.hid ((HB.out _ _).trans (hb1.mono (by simp <;> omega))); have ht1 := HT.out; have p0 : w1.cell? ⟨w.heap.size + 1, 0, none⟩ = some (.int .i64 u.kind) := (by rw [cell_of_row _ _ _ _ _ _ K1.out]; rfl); have p1 : w1.cell? ⟨w.heap.size + 1, 1, none⟩ = some (.int .i64 u.num) := (by rw [cell_of_row _ _ _ _ _ _ K1.out]; rfl); have p2 : w1.cell? ⟨w.heap.size + 1, 2, none⟩ = some (.string u.name) := (by rw [cell_of_row _ _ _ _ _ _ K1.out]; rfl); have p3 : w1.cell? ⟨w.heap.size + 1, 3, none⟩ = some (x) := (by rw [cell_of_row _ _ _ _ _ _ K1.out]; rfl); clear hb1)
        | (go_at_call_of 29 (Value.agg #[.int .i64 u.kind, .int .i64 u.num, .string u.name, x]); refine (Valid_any u x _ (HX.out.below B1.out)).mono ?_; rintro e w2 ⟨rfl, hb2⟩; have J0 := Lib.hid ((hb2.block w.heap.size (by omega)).trans K0.out); have J1 := Lib.hid ((hb2.block (w.heap.size + 1) (by omega)).trans K1.out); have B2 := Lib.hid (B1.out.trans (hb2.mono B1.out.size)); have hu1 := HU.out; have q0 : w2.cell? ⟨w.heap.size, 0, none⟩ = some (.int .i64 t.kind) := (by rw [cell_of_row _ _ _ _ _ _ J0.out]; rfl); have q1 : w2.cell? ⟨w.heap.size, 1, none⟩ = some (.int .i64 t.num) := (by rw [cell_of_row _ _ _ _ _ _ J0.out]; rfl); have q2 : w2.cell? ⟨w.heap.size, 2, none⟩ = some (.string t.name) := (by rw [cell_of_row _ _ _ _ _ _ J0.out]; rfl); have q3 : w2.cell? ⟨w.heap.size, 3, none⟩ = some (v) := (by rw [cell_of_row _ _ _ _ _ _ J0.out]; rfl); have r0 : w2.cell? ⟨w.heap.size + 1, 0, none⟩ = some (.int .i64 u.kind) := (by rw [cell_of_row _ _ _ _ _ _ J1.out]; rfl); have r1 : w2.cell? ⟨w.heap.size + 1, 1, none⟩ = some (.int .i64 u.num) := (by rw [cell_of_row _ _ _ _ _ _ J1.out]; rfl); have r2 : w2.cell? ⟨w.heap.size + 1, 2, none⟩ = some (.string u.name) := (by rw [cell_of_row _ _ _ _ _ _ J1.out]; rfl); have r3 : w2.cell? ⟨w.heap.size + 1, 3, none⟩ = some (x) := (by rw [cell_of_row _ _ _ _ _ _ J1.out]; rfl); clear hb2)
        | (go_at_call 37; refine (identP_any t u v x _ (HH.out.below B2.out) (HX.out.below B2.out)).mono ?_; rintro e w3 ⟨rfl, hb3⟩; have B3 := Lib.hid (B2.out.trans (hb3.mono B2.out.size)); clear hb3))
      go_ret
      exact ⟨ret_bool HE.out, B3.out⟩
    · have HE : Hid (false = sameV t u) := by show _ = _; simp [sameV, hu]
      have HU := Lib.hid hu
      have HH := Lib.hid h
      have HX := Lib.hid hx
      have HB : Hid (∀ o1 o2, Below w.heap.size w ((w.alloc o1).alloc o2)) := fun o1 o2 => ((Below.refl w.heap.size w).alloc (Nat.le_refl _) _).alloc (by simp) _
      have HL : Hid (∀ o1 o2, LiesT ((w.alloc o1).alloc o2) t v) := fun o1 o2 => HH.out.below (HB.out o1 o2)
      have HR : Hid (∀ o1 o2, ((w.alloc o1).alloc o2).heap[w.heap.size]? = some o1 ∧ ((w.alloc o1).alloc o2).heap[w.heap.size + 1]? = some o2) := fun o1 o2 => ⟨by rw [Below.heap_alloc _ _ _ (by simp), heap_alloc_new], by have h := heap_alloc_new (w.alloc o1) o2; simpa using h⟩
      have HT := Lib.hid ht
      clear h hx ht hu
      simp only [tv]
      go_enter Try.func9, Try.ntmps9
      go_wp2_with (first
        | (go_at_call_of 29 (Value.agg #[.int .i64 t.kind, .int .i64 t.num, .string t.name, v]); refine (Valid_any t v _ (HL.out _ _)).mono ?_; rintro e w1 ⟨rfl, hb1⟩; have z1 : w.heap.size + 2 ≤ w1.heap.size := (by have := hb1.size; simp at this; omega); have K0 := Lib.hid ((hb1.block w.heap.size (by simp <;> omega)).trans (HR.out _ _).1); have K1 := Lib.hid ((hb1.block (w.heap.size + 1) (by simp)).trans (HR.out _ _).2); have B1 := Lib.hid ((HB.out _ _).trans (hb1.mono (by simp <;> omega))); have ht1 := HT.out; have p0 : w1.cell? ⟨w.heap.size + 1, 0, none⟩ = some (.int .i64 u.kind) := (by rw [cell_of_row _ _ _ _ _ _ K1.out]; rfl); have p1 : w1.cell? ⟨w.heap.size + 1, 1, none⟩ = some (.int .i64 u.num) := (by rw [cell_of_row _ _ _ _ _ _ K1.out]; rfl); have p2 : w1.cell? ⟨w.heap.size + 1, 2, none⟩ = some (.string u.name) := (by rw [cell_of_row _ _ _ _ _ _ K1.out]; rfl); have p3 : w1.cell? ⟨w.heap.size + 1, 3, none⟩ = some (x) := (by rw [cell_of_row _ _ _ _ _ _ K1.out]; rfl); clear hb1)
        | (go_at_call_of 29 (Value.agg #[.int .i64 u.kind, .int .i64 u.num, .string u.name, x]); refine (Valid_any u x _ (HX.out.below B1.out)).mono ?_; rintro e w2 ⟨rfl, hb2⟩; have J0 := Lib.hid ((hb2.block w.heap.size (by omega)).trans K0.out); have J1 := Lib.hid ((hb2.block (w.heap.size + 1) (by omega)).trans K1.out); have B2 := Lib.hid (B1.out.trans (hb2.mono B1.out.size)); have hu1 := HU.out; have q0 : w2.cell? ⟨w.heap.size, 0, none⟩ = some (.int .i64 t.kind) := (by rw [cell_of_row _ _ _ _ _ _ J0.out]; rfl); have q1 : w2.cell? ⟨w.heap.size, 1, none⟩ = some (.int .i64 t.num) := (by rw [cell_of_row _ _ _ _ _ _ J0.out]; rfl); have q2 : w2.cell? ⟨w.heap.size, 2, none⟩ = some (.string t.name) := (by rw [cell_of_row _ _ _ _ _ _ J0.out]; rfl); have q3 : w2.cell? ⟨w.heap.size, 3, none⟩ = some (v) := (by rw [cell_of_row _ _ _ _ _ _ J0.out]; rfl); have r0 : w2.cell? ⟨w.heap.size + 1, 0, none⟩ = some (.int .i64 u.kind) := (by rw [cell_of_row _ _ _ _ _ _ J1.out]; rfl); have r1 : w2.cell? ⟨w.heap.size + 1, 1, none⟩ = some (.int .i64 u.num) := (by rw [cell_of_row _ _ _ _ _ _ J1.out]; rfl); have r2 : w2.cell? ⟨w.heap.size + 1, 2, none⟩ = some (.string u.name) := (by rw [cell_of_row _ _ _ _ _ _ J1.out]; rfl); have r3 : w2.cell? ⟨w.heap.size + 1, 3, none⟩ = some (x) := (by rw [cell_of_row _ _ _ _ _ _ J1.out]; rfl); clear hb2))
      go_ret
      exact ⟨ret_bool HE.out, B2.out⟩
  · have HE : Hid (false = sameV t u) := by show _ = _; simp [sameV, ht]
    have HH := Lib.hid h
    have HX := Lib.hid hx
    have HB : Hid (∀ o1 o2, Below w.heap.size w ((w.alloc o1).alloc o2)) := fun o1 o2 => ((Below.refl w.heap.size w).alloc (Nat.le_refl _) _).alloc (by simp) _
    have HL : Hid (∀ o1 o2, LiesT ((w.alloc o1).alloc o2) t v) := fun o1 o2 => HH.out.below (HB.out o1 o2)
    have HR : Hid (∀ o1 o2, ((w.alloc o1).alloc o2).heap[w.heap.size]? = some o1 ∧ ((w.alloc o1).alloc o2).heap[w.heap.size + 1]? = some o2) := fun o1 o2 => ⟨by rw [Below.heap_alloc _ _ _ (by simp), heap_alloc_new], by have h := heap_alloc_new (w.alloc o1) o2; simpa using h⟩
    have HT := Lib.hid ht
    clear h hx ht
    simp only [tv]
    go_enter Try.func9, Try.ntmps9
    go_wp2_with (first
      | (go_at_call_of 29 (Value.agg #[.int .i64 t.kind, .int .i64 t.num, .string t.name, v]); refine (Valid_any t v _ (HL.out _ _)).mono ?_; rintro e w1 ⟨rfl, hb1⟩; have z1 : w.heap.size + 2 ≤ w1.heap.size := (by have := hb1.size; simp at this; omega); have K0 := Lib.hid ((hb1.block w.heap.size (by simp <;> omega)).trans (HR.out _ _).1); have K1 := Lib.hid ((hb1.block (w.heap.size + 1) (by simp)).trans (HR.out _ _).2); have B1 := Lib.hid ((HB.out _ _).trans (hb1.mono (by simp <;> omega))); have ht1 := HT.out; have p0 : w1.cell? ⟨w.heap.size + 1, 0, none⟩ = some (.int .i64 u.kind) := (by rw [cell_of_row _ _ _ _ _ _ K1.out]; rfl); have p1 : w1.cell? ⟨w.heap.size + 1, 1, none⟩ = some (.int .i64 u.num) := (by rw [cell_of_row _ _ _ _ _ _ K1.out]; rfl); have p2 : w1.cell? ⟨w.heap.size + 1, 2, none⟩ = some (.string u.name) := (by rw [cell_of_row _ _ _ _ _ _ K1.out]; rfl); have p3 : w1.cell? ⟨w.heap.size + 1, 3, none⟩ = some (x) := (by rw [cell_of_row _ _ _ _ _ _ K1.out]; rfl); clear hb1))
    go_ret
    exact ⟨ret_bool HE.out, B1.out⟩

theorem Valid_is (t : Tm) (v : Value) (b : Bool) (hb : validB t = b) (w : World) (h : LiesT w t v) : Calls Try.prog 29 #[tv t v] w fun e w' => e = .returned (.bool b) ∧ Below w.heap.size w w' := by
  subst hb; exact Valid_any t v w h
def variantV (t u : Tm) : Bool := validB t && validB u && sameB (canT t) (canT u)

set_option maxHeartbeats 4000000 in
theorem Variant_any (t u : Tm) (v x : Value) (w : World) (h : LiesT w t v) (hx : LiesT w u x) : Calls Try.prog 11 #[tv t v, tv u x] w fun e w' => e = .returned (.bool (variantV t u)) ∧ Below w.heap.size w w' := by
  rcases Bool.eq_false_or_eq_true (validB t) with ht | ht
  · rcases Bool.eq_false_or_eq_true (validB u) with hu | hu
    · have HE : Hid (sameB (canT t) (canT u) = variantV t u) := by show _ = _; simp [variantV, ht, hu]
      have HH := Lib.hid h
      have HX := Lib.hid hx
      have HT := Lib.hid ht
      have HU := Lib.hid hu
      clear hu
      have B0 : Hid (Below w.heap.size w ((w.alloc (.cells #[.int .i64 t.kind, .int .i64 t.num, .string t.name, v] 24)).alloc (.cells #[.int .i64 u.kind, .int .i64 u.num, .string u.name, x] 24))) := ((Below.refl w.heap.size w).alloc (Nat.le_refl _) _).alloc (by simp) _
      have r0 : ((w.alloc (.cells #[.int .i64 t.kind, .int .i64 t.num, .string t.name, v] 24)).alloc (.cells #[.int .i64 u.kind, .int .i64 u.num, .string u.name, x] 24)).heap[w.heap.size]? = some (.cells #[.int .i64 t.kind, .int .i64 t.num, .string t.name, v] 24 (0, 0)) := by rw [Below.heap_alloc _ _ _ (by simp), heap_alloc_new]
      have r1 : ((w.alloc (.cells #[.int .i64 t.kind, .int .i64 t.num, .string t.name, v] 24)).alloc (.cells #[.int .i64 u.kind, .int .i64 u.num, .string u.name, x] 24)).heap[w.heap.size + 1]? = some (.cells #[.int .i64 u.kind, .int .i64 u.num, .string u.name, x] 24 (0, 0)) := by have h := heap_alloc_new (w.alloc (.cells #[.int .i64 t.kind, .int .i64 t.num, .string t.name, v] 24)) (.cells #[.int .i64 u.kind, .int .i64 u.num, .string u.name, x] 24); simpa using h
      clear h hx ht
      simp only [tv]
      go_enter Try.func11, Try.ntmps11
      go_wp2_with fail
      generalize ((w.alloc (.cells #[.int .i64 t.kind, .int .i64 t.num, .string t.name, v] 24)).alloc (.cells #[.int .i64 u.kind, .int .i64 u.num, .string u.name, x] 24)) = W0 at *
      have p0 : W0.cell? ⟨w.heap.size, 0, none⟩ = some (.int .i64 t.kind) := (by rw [cell_of_row _ _ _ _ _ _ r0]; rfl)
      have p1 : W0.cell? ⟨w.heap.size, 1, none⟩ = some (.int .i64 t.num) := (by rw [cell_of_row _ _ _ _ _ _ r0]; rfl)
      have p2 : W0.cell? ⟨w.heap.size, 2, none⟩ = some (.string t.name) := (by rw [cell_of_row _ _ _ _ _ _ r0]; rfl)
      have p3 : W0.cell? ⟨w.heap.size, 3, none⟩ = some (v) := (by rw [cell_of_row _ _ _ _ _ _ r0]; rfl)
      have q0 : W0.cell? ⟨w.heap.size + 1, 0, none⟩ = some (.int .i64 u.kind) := (by rw [cell_of_row _ _ _ _ _ _ r1]; rfl)
      have q1 : W0.cell? ⟨w.heap.size + 1, 1, none⟩ = some (.int .i64 u.num) := (by rw [cell_of_row _ _ _ _ _ _ r1]; rfl)
      have q2 : W0.cell? ⟨w.heap.size + 1, 2, none⟩ = some (.string u.name) := (by rw [cell_of_row _ _ _ _ _ _ r1]; rfl)
      have q3 : W0.cell? ⟨w.heap.size + 1, 3, none⟩ = some (x) := (by rw [cell_of_row _ _ _ _ _ _ r1]; rfl)
      have hS0 : Below W0.heap.size W0 W0.drew := (Below.refl _ _).drew
      clear r0 r1
      go_region_held3 (fun w' => Below W0.heap.size W0 w' ∧ w'.cell? ⟨w.heap.size, 0, none⟩ = some (.int .i64 t.kind) ∧ w'.cell? ⟨w.heap.size, 1, none⟩ = some (.int .i64 t.num) ∧ w'.cell? ⟨w.heap.size, 2, none⟩ = some (.string t.name) ∧ w'.cell? ⟨w.heap.size, 3, none⟩ = some (v) ∧ w'.cell? ⟨w.heap.size + 1, 0, none⟩ = some (.int .i64 u.kind) ∧ w'.cell? ⟨w.heap.size + 1, 1, none⟩ = some (.int .i64 u.num) ∧ w'.cell? ⟨w.heap.size + 1, 2, none⟩ = some (.string u.name) ∧ w'.cell? ⟨w.heap.size + 1, 3, none⟩ = some (x))
        (first | exact ⟨h5, cell_below h5 _ _ p0, cell_below h5 _ _ p1, cell_below h5 _ _ p2, cell_below h5 _ _ p3, cell_below h5 _ _ q0, cell_below h5 _ _ q1, cell_below h5 _ _ q2, cell_below h5 _ _ q3⟩ | exact ⟨hS0, p0, p1, p2, p3, q0, q1, q2, q3⟩ | go_keep)
        (first
          | (go_at_call_of 29 (Value.agg #[.int .i64 t.kind, .int .i64 t.num, .string t.name, v]); refine (Valid_is t v _ HT.out _ (HH.out.below (B0.out.trans (Below.mono (by assumption : Below W0.heap.size W0 _) B0.out.size)))).mono ?_; rintro e w1 ⟨rfl, hb1⟩; have h5 : Below W0.heap.size W0 w1 := Below.trans (by assumption : Below W0.heap.size W0 _) (hb1.mono (Below.size (by assumption : Below W0.heap.size W0 _))))
          | (go_at_call_of 29 (Value.agg #[.int .i64 u.kind, .int .i64 u.num, .string u.name, x]); refine (Valid_is u x _ HU.out _ (HX.out.below (B0.out.trans (Below.mono (by assumption : Below W0.heap.size W0 _) B0.out.size)))).mono ?_; rintro e w2 ⟨rfl, hb2⟩; have h5 : Below W0.heap.size W0 w2 := Below.trans (by assumption : Below W0.heap.size W0 _) (hb2.mono (Below.size (by assumption : Below W0.heap.size W0 _))))
          | (go_at_call_of 30 (Value.agg #[.int .i64 t.kind, .int .i64 t.num, .string t.name, v]); refine (Canon_yes t v _ (HH.out.below (B0.out.trans (Below.mono (by assumption : Below W0.heap.size W0 _) B0.out.size))) HT.out).mono ?_; rintro e w3 ⟨y1, rfl, hy1, hb3⟩; have HY1 := Lib.hid (OwnT.lies _ _ hy1); clear hy1; have h5 : Below W0.heap.size W0 w3 := Below.trans (by assumption : Below W0.heap.size W0 _) (hb3.mono (Below.size (by assumption : Below W0.heap.size W0 _))))
          | (go_at_call_of 30 (Value.agg #[.int .i64 u.kind, .int .i64 u.num, .string u.name, x]); refine (Canon_yes u x _ (HX.out.below (B0.out.trans (Below.mono (by assumption : Below W0.heap.size W0 _) B0.out.size))) HU.out).mono ?_; rintro e w4 ⟨y2, rfl, hy2, hb4⟩; have HY2 := Lib.hid (OwnT.lies _ _ hy2); have HY3 := Lib.hid (HY1.out.below hb4); clear hy2; have h5 : Below W0.heap.size W0 w4 := Below.trans (by assumption : Below W0.heap.size W0 _) (hb4.mono (Below.size (by assumption : Below W0.heap.size W0 _))))
          | (go_at_call 37; refine (identP_any (canT t) (canT u) y1 y2 _ HY3.out HY2.out).mono ?_; rintro e w5 ⟨rfl, hb5⟩; have h5 : Below W0.heap.size W0 w5 := Below.trans (by assumption : Below W0.heap.size W0 _) (hb5.mono (Below.size (by assumption : Below W0.heap.size W0 _)))))
      go_wp2_with fail
      go_ret
      exact ⟨ret_bool HE.out, (B0.out.trans (Below.mono (by assumption : Below W0.heap.size W0 _) B0.out.size))⟩
    · have HE : Hid (false = variantV t u) := by show _ = _; simp [variantV, hu]
      have HH := Lib.hid h
      have HX := Lib.hid hx
      have HT := Lib.hid ht
      have HU := Lib.hid hu
      clear hu
      have B0 : Hid (Below w.heap.size w ((w.alloc (.cells #[.int .i64 t.kind, .int .i64 t.num, .string t.name, v] 24)).alloc (.cells #[.int .i64 u.kind, .int .i64 u.num, .string u.name, x] 24))) := ((Below.refl w.heap.size w).alloc (Nat.le_refl _) _).alloc (by simp) _
      have r0 : ((w.alloc (.cells #[.int .i64 t.kind, .int .i64 t.num, .string t.name, v] 24)).alloc (.cells #[.int .i64 u.kind, .int .i64 u.num, .string u.name, x] 24)).heap[w.heap.size]? = some (.cells #[.int .i64 t.kind, .int .i64 t.num, .string t.name, v] 24 (0, 0)) := by rw [Below.heap_alloc _ _ _ (by simp), heap_alloc_new]
      have r1 : ((w.alloc (.cells #[.int .i64 t.kind, .int .i64 t.num, .string t.name, v] 24)).alloc (.cells #[.int .i64 u.kind, .int .i64 u.num, .string u.name, x] 24)).heap[w.heap.size + 1]? = some (.cells #[.int .i64 u.kind, .int .i64 u.num, .string u.name, x] 24 (0, 0)) := by have h := heap_alloc_new (w.alloc (.cells #[.int .i64 t.kind, .int .i64 t.num, .string t.name, v] 24)) (.cells #[.int .i64 u.kind, .int .i64 u.num, .string u.name, x] 24); simpa using h
      clear h hx ht
      simp only [tv]
      go_enter Try.func11, Try.ntmps11
      go_wp2_with fail
      generalize ((w.alloc (.cells #[.int .i64 t.kind, .int .i64 t.num, .string t.name, v] 24)).alloc (.cells #[.int .i64 u.kind, .int .i64 u.num, .string u.name, x] 24)) = W0 at *
      have p0 : W0.cell? ⟨w.heap.size, 0, none⟩ = some (.int .i64 t.kind) := (by rw [cell_of_row _ _ _ _ _ _ r0]; rfl)
      have p1 : W0.cell? ⟨w.heap.size, 1, none⟩ = some (.int .i64 t.num) := (by rw [cell_of_row _ _ _ _ _ _ r0]; rfl)
      have p2 : W0.cell? ⟨w.heap.size, 2, none⟩ = some (.string t.name) := (by rw [cell_of_row _ _ _ _ _ _ r0]; rfl)
      have p3 : W0.cell? ⟨w.heap.size, 3, none⟩ = some (v) := (by rw [cell_of_row _ _ _ _ _ _ r0]; rfl)
      have q0 : W0.cell? ⟨w.heap.size + 1, 0, none⟩ = some (.int .i64 u.kind) := (by rw [cell_of_row _ _ _ _ _ _ r1]; rfl)
      have q1 : W0.cell? ⟨w.heap.size + 1, 1, none⟩ = some (.int .i64 u.num) := (by rw [cell_of_row _ _ _ _ _ _ r1]; rfl)
      have q2 : W0.cell? ⟨w.heap.size + 1, 2, none⟩ = some (.string u.name) := (by rw [cell_of_row _ _ _ _ _ _ r1]; rfl)
      have q3 : W0.cell? ⟨w.heap.size + 1, 3, none⟩ = some (x) := (by rw [cell_of_row _ _ _ _ _ _ r1]; rfl)
      have hS0 : Below W0.heap.size W0 W0.drew := (Below.refl _ _).drew
      clear r0 r1
      go_region_with (first
          | (go_at_call_of 29 (Value.agg #[.int .i64 t.kind, .int .i64 t.num, .string t.name, v]); refine (Valid_is t v _ HT.out _ (HH.out.below (B0.out.trans (Below.mono (by assumption : Below W0.heap.size W0 _) B0.out.size)))).mono ?_; rintro e w1 ⟨rfl, hb1⟩; have h5 : Below W0.heap.size W0 w1 := Below.trans (by assumption : Below W0.heap.size W0 _) (hb1.mono (Below.size (by assumption : Below W0.heap.size W0 _))); have e0 := cell_below h5 _ _ q0; have e1 := cell_below h5 _ _ q1; have e2 := cell_below h5 _ _ q2; have e3 := cell_below h5 _ _ q3)
          | (go_at_call_of 29 (Value.agg #[.int .i64 u.kind, .int .i64 u.num, .string u.name, x]); refine (Valid_is u x _ HU.out _ (HX.out.below (B0.out.trans (Below.mono (by assumption : Below W0.heap.size W0 _) B0.out.size)))).mono ?_; rintro e w2 ⟨rfl, hb2⟩; have h5 : Below W0.heap.size W0 w2 := Below.trans (by assumption : Below W0.heap.size W0 _) (hb2.mono (Below.size (by assumption : Below W0.heap.size W0 _)))))
      all_goals
        go_wp2_with fail
        go_ret
        exact ⟨ret_bool HE.out, (B0.out.trans (Below.mono (by assumption : Below W0.heap.size W0 _) B0.out.size))⟩
  · have HE : Hid (false = variantV t u) := by show _ = _; simp [variantV, ht]
    have HH := Lib.hid h
    have HX := Lib.hid hx
    have HT := Lib.hid ht
    have B0 : Hid (Below w.heap.size w ((w.alloc (.cells #[.int .i64 t.kind, .int .i64 t.num, .string t.name, v] 24)).alloc (.cells #[.int .i64 u.kind, .int .i64 u.num, .string u.name, x] 24))) := ((Below.refl w.heap.size w).alloc (Nat.le_refl _) _).alloc (by simp) _
    have r0 : ((w.alloc (.cells #[.int .i64 t.kind, .int .i64 t.num, .string t.name, v] 24)).alloc (.cells #[.int .i64 u.kind, .int .i64 u.num, .string u.name, x] 24)).heap[w.heap.size]? = some (.cells #[.int .i64 t.kind, .int .i64 t.num, .string t.name, v] 24 (0, 0)) := by rw [Below.heap_alloc _ _ _ (by simp), heap_alloc_new]
    have r1 : ((w.alloc (.cells #[.int .i64 t.kind, .int .i64 t.num, .string t.name, v] 24)).alloc (.cells #[.int .i64 u.kind, .int .i64 u.num, .string u.name, x] 24)).heap[w.heap.size + 1]? = some (.cells #[.int .i64 u.kind, .int .i64 u.num, .string u.name, x] 24 (0, 0)) := by have h := heap_alloc_new (w.alloc (.cells #[.int .i64 t.kind, .int .i64 t.num, .string t.name, v] 24)) (.cells #[.int .i64 u.kind, .int .i64 u.num, .string u.name, x] 24); simpa using h
    clear h hx ht
    simp only [tv]
    go_enter Try.func11, Try.ntmps11
    go_wp2_with fail
    generalize ((w.alloc (.cells #[.int .i64 t.kind, .int .i64 t.num, .string t.name, v] 24)).alloc (.cells #[.int .i64 u.kind, .int .i64 u.num, .string u.name, x] 24)) = W0 at *
    have p0 : W0.cell? ⟨w.heap.size, 0, none⟩ = some (.int .i64 t.kind) := (by rw [cell_of_row _ _ _ _ _ _ r0]; rfl)
    have p1 : W0.cell? ⟨w.heap.size, 1, none⟩ = some (.int .i64 t.num) := (by rw [cell_of_row _ _ _ _ _ _ r0]; rfl)
    have p2 : W0.cell? ⟨w.heap.size, 2, none⟩ = some (.string t.name) := (by rw [cell_of_row _ _ _ _ _ _ r0]; rfl)
    have p3 : W0.cell? ⟨w.heap.size, 3, none⟩ = some (v) := (by rw [cell_of_row _ _ _ _ _ _ r0]; rfl)
    have q0 : W0.cell? ⟨w.heap.size + 1, 0, none⟩ = some (.int .i64 u.kind) := (by rw [cell_of_row _ _ _ _ _ _ r1]; rfl)
    have q1 : W0.cell? ⟨w.heap.size + 1, 1, none⟩ = some (.int .i64 u.num) := (by rw [cell_of_row _ _ _ _ _ _ r1]; rfl)
    have q2 : W0.cell? ⟨w.heap.size + 1, 2, none⟩ = some (.string u.name) := (by rw [cell_of_row _ _ _ _ _ _ r1]; rfl)
    have q3 : W0.cell? ⟨w.heap.size + 1, 3, none⟩ = some (x) := (by rw [cell_of_row _ _ _ _ _ _ r1]; rfl)
    have hS0 : Below W0.heap.size W0 W0.drew := (Below.refl _ _).drew
    clear r0 r1
    go_region_with (first
        | (go_at_call_of 29 (Value.agg #[.int .i64 t.kind, .int .i64 t.num, .string t.name, v]); refine (Valid_is t v _ HT.out _ (HH.out.below (B0.out.trans (Below.mono (by assumption : Below W0.heap.size W0 _) B0.out.size)))).mono ?_; rintro e w1 ⟨rfl, hb1⟩; have h5 : Below W0.heap.size W0 w1 := Below.trans (by assumption : Below W0.heap.size W0 _) (hb1.mono (Below.size (by assumption : Below W0.heap.size W0 _)))))
    all_goals
      go_wp2_with fail
      go_ret
      exact ⟨ret_bool HE.out, (B0.out.trans (Below.mono (by assumption : Below W0.heap.size W0 _) B0.out.size))⟩

end Go.Proofs.Ytdgflagafilobaa
