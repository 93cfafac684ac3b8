/- The specification's valid, Var, Int, Atom, Struct. -/
import Derived.Test.YtdgflagafilobaaR13
namespace Go.Proofs.Ytdgflagafilobaa
open Go.RowKit Go.Proofs.HT

set_option maxHeartbeats 2000000 in
theorem rvalid_any (t : Tm) (v : Value) (w : World) (h : LiesT w t v) : Calls Try.prog 57 #[tv t v] w (MadeV t w) := by
  obtain ⟨Q, hQ⟩ : ∃ Q, (if validB t = true then t else z0) = Q := ⟨_, rfl⟩
  have HX := Lib.hid (fun o1 o2 => boxes2 h o1 o2)
  have HC : Hid (∀ w1, LiesT w1 t v → Calls Try.prog 74 #[tv t v] w1 (MadeEnd Q w1)) := by show ∀ w1, _; intro w1 h1; have h2 := clone_any t v w1 h1; unfold MadeV at h2; rw [hQ] at h2; exact h2
  unfold MadeV
  rw [hQ]
  clear h hQ
  simp only [tv]
  go_enter Try.func57, Try.ntmps57
  go_wp2_with fail
  refine (HC.out _ (HX.out _ _).1).mono ?_
  rintro e w3 ⟨y, rfl, hy, hb3⟩
  obtain ⟨ya, yc, rfl⟩ := hy.slice
  have z3 : w.heap.size + 2 ≤ w3.heap.size := by have := hb3.size; simp at this; omega
  have K3 := Lib.hid ((hb3.block (w.heap.size + 1) (by simp)).trans (HX.out _ _).2.2.2)
  have B3 := Lib.hid ((HX.out _ _).2.1.trans (hb3.mono (by simp <;> omega)))
  have HY := Lib.hid hy
  clear hb3 hy
  have c0 : w3.cell? ⟨w.heap.size + 1, 0, none⟩ = some (.int .i64 0) := by rw [cell_of_row _ _ _ _ _ _ K3.out]; rfl
  have c1 : w3.cell? ⟨w.heap.size + 1, 1, none⟩ = some (.int .i64 0) := by rw [cell_of_row _ _ _ _ _ _ K3.out]; rfl
  have c2 : w3.cell? ⟨w.heap.size + 1, 2, none⟩ = some (.string ⟨#[]⟩) := by rw [cell_of_row _ _ _ _ _ _ K3.out]; rfl
  have c3 : w3.cell? ⟨w.heap.size + 1, 3, none⟩ = some (.slice none 0 0) := by rw [cell_of_row _ _ _ _ _ _ K3.out]; rfl
  have cf0 := frozen_of_row _ _ 0 _ _ K3.out
  have cf1 := frozen_of_row _ _ 1 _ _ K3.out
  have cf2 := frozen_of_row _ _ 2 _ _ K3.out
  have cf3 := frozen_of_row _ _ 3 _ _ K3.out
  go_wp2_with fail
  have FO := four K3.out (.int .i64 Q.kind) (.int .i64 Q.num) (.string Q.name) (.slice ya Q.args.length yc)
  have PE := made_end (T := Q) B3.out (HY.out.keep (fun _ _ => rfl) (fun b hb _ => ⟨by have := hb.1; simp at this; omega, hb.2⟩)) K3.out _ rfl
  generalize ((((w3.setCell ⟨w.heap.size + 1, 0, none⟩ (.int .i64 Q.kind)).setCell ⟨w.heap.size + 1, 1, none⟩ (.int .i64 Q.num)).setCell ⟨w.heap.size + 1, 2, none⟩ (.string Q.name)).setCell ⟨w.heap.size + 1, 3, none⟩ (.slice ya Q.args.length yc)) = W3 at *
  have k0 : W3.cell? ⟨w.heap.size + 1, 0, none⟩ = some (.int .i64 Q.kind) := by rw [cell_of_row _ _ _ _ _ _ FO.1]; rfl
  have k1 : W3.cell? ⟨w.heap.size + 1, 1, none⟩ = some (.int .i64 Q.num) := by rw [cell_of_row _ _ _ _ _ _ FO.1]; rfl
  have k2 : W3.cell? ⟨w.heap.size + 1, 2, none⟩ = some (.string Q.name) := by rw [cell_of_row _ _ _ _ _ _ FO.1]; rfl
  have k3 : W3.cell? ⟨w.heap.size + 1, 3, none⟩ = some (.slice ya Q.args.length yc) := by rw [cell_of_row _ _ _ _ _ _ FO.1]; rfl
  exact bodyPost_ret (v := tv Q (.slice ya Q.args.length yc)) (by simp [results, Try.results57, go_sem, k0, k1, k2, k3]) rfl PE

set_option maxHeartbeats 2000000 in
theorem rvar_any (n : Int) (w : World) (hi : I64 n) : Calls Try.prog 21 #[.int .i64 n] w (MadeV (vr n) w) := by
  obtain ⟨Q, hQ⟩ : ∃ Q, (if validB (vr n) = true then (vr n) else z0) = Q := ⟨_, rfl⟩
  unfold MadeV
  rw [hQ]
  have BX : Hid (∀ o, Below w.heap.size w (w.alloc o)) := fun o => (Below.refl _ _).alloc (Nat.le_refl _) o
  have R1 : Hid (∀ o, (w.alloc o).heap[w.heap.size]? = some o) := fun o => heap_alloc_new w o
  have HI := Lib.hid hi
  clear hi
  have HC : Hid (∀ w1, Below w.heap.size w w1 → Calls Try.prog 57 #[tv (vr n) (.slice none 0 0)] w1 (MadeEnd Q w1)) := by
    show ∀ w1, _
    intro w1 hb
    have h := rvalid_any (vr n) (.slice none 0 0) w1 (vr_lies HI.out)
    unfold MadeV at h
    rwa [hQ] at h
  clear hQ
  go_enter Try.func21, Try.ntmps21
  go_wp2_with fail
  refine (HC.out _ (BX.out _)).mono ?_
  clear HC
  rintro e w3 ⟨y, rfl, hy, hb3⟩
  obtain ⟨ya, yc, rfl⟩ := hy.slice
  have z3 : w.heap.size + 1 ≤ w3.heap.size := by have := hb3.size; simp at this; omega
  have K3 := Lib.hid ((hb3.block w.heap.size (by simp)).trans (R1.out _))
  have B3 := Lib.hid ((BX.out _).trans (hb3.mono (by simp)))
  have HY := Lib.hid hy
  clear hb3 hy
  have c0 : w3.cell? ⟨w.heap.size, 0, none⟩ = some (.int .i64 0) := by rw [cell_of_row _ _ _ _ _ _ K3.out]; rfl
  have c1 : w3.cell? ⟨w.heap.size, 1, none⟩ = some (.int .i64 0) := by rw [cell_of_row _ _ _ _ _ _ K3.out]; rfl
  have c2 : w3.cell? ⟨w.heap.size, 2, none⟩ = some (.string ⟨#[]⟩) := by rw [cell_of_row _ _ _ _ _ _ K3.out]; rfl
  have c3 : w3.cell? ⟨w.heap.size, 3, none⟩ = some (.slice none 0 0) := by rw [cell_of_row _ _ _ _ _ _ K3.out]; rfl
  have cf0 := frozen_of_row _ _ 0 _ _ K3.out
  have cf1 := frozen_of_row _ _ 1 _ _ K3.out
  have cf2 := frozen_of_row _ _ 2 _ _ K3.out
  have cf3 := frozen_of_row _ _ 3 _ _ K3.out
  go_wp2_with fail
  have FO := four K3.out (.int .i64 Q.kind) (.int .i64 Q.num) (.string Q.name) (.slice ya Q.args.length yc)
  have PE := made_end1 (T := Q) B3.out (HY.out.keep (fun _ _ => rfl) (fun b hb _ => ⟨by have := hb.1; simp at this; omega, hb.2⟩)) K3.out _ rfl
  generalize ((((w3.setCell ⟨w.heap.size, 0, none⟩ (.int .i64 Q.kind)).setCell ⟨w.heap.size, 1, none⟩ (.int .i64 Q.num)).setCell ⟨w.heap.size, 2, none⟩ (.string Q.name)).setCell ⟨w.heap.size, 3, none⟩ (.slice ya Q.args.length yc)) = W3 at *
  have k0 : W3.cell? ⟨w.heap.size, 0, none⟩ = some (.int .i64 Q.kind) := by rw [cell_of_row _ _ _ _ _ _ FO.1]; rfl
  have k1 : W3.cell? ⟨w.heap.size, 1, none⟩ = some (.int .i64 Q.num) := by rw [cell_of_row _ _ _ _ _ _ FO.1]; rfl
  have k2 : W3.cell? ⟨w.heap.size, 2, none⟩ = some (.string Q.name) := by rw [cell_of_row _ _ _ _ _ _ FO.1]; rfl
  have k3 : W3.cell? ⟨w.heap.size, 3, none⟩ = some (.slice ya Q.args.length yc) := by rw [cell_of_row _ _ _ _ _ _ FO.1]; rfl
  exact bodyPost_ret (v := tv Q (.slice ya Q.args.length yc)) (by simp [results, Try.results21, go_sem, k0, k1, k2, k3]) rfl PE

set_option maxHeartbeats 2000000 in
theorem ratom_any (nm : ByteArray) (w : World) (hi : nm.size ≤ 9223372036854775807) : Calls Try.prog 25 #[.string nm] w (MadeV (.mk 2 0 nm []) w) := by
  obtain ⟨Q, hQ⟩ : ∃ Q, (if validB (.mk 2 0 nm []) = true then (.mk 2 0 nm []) else z0) = Q := ⟨_, rfl⟩
  unfold MadeV
  rw [hQ]
  have BX : Hid (∀ o, Below w.heap.size w (w.alloc o)) := fun o => (Below.refl _ _).alloc (Nat.le_refl _) o
  have R1 : Hid (∀ o, (w.alloc o).heap[w.heap.size]? = some o) := fun o => heap_alloc_new w o
  have HI := Lib.hid hi
  clear hi
  have HC : Hid (∀ w1, Below w.heap.size w w1 → Calls Try.prog 57 #[tv (.mk 2 0 nm []) (.slice none 0 0)] w1 (MadeEnd Q w1)) := by
    show ∀ w1, _
    intro w1 hb
    have h := rvalid_any (.mk 2 0 nm []) (.slice none 0 0) w1 (atom_lies HI.out)
    unfold MadeV at h
    rwa [hQ] at h
  clear hQ
  go_enter Try.func25, Try.ntmps25
  go_wp2_with fail
  refine (HC.out _ (BX.out _)).mono ?_
  clear HC
  rintro e w3 ⟨y, rfl, hy, hb3⟩
  obtain ⟨ya, yc, rfl⟩ := hy.slice
  have z3 : w.heap.size + 1 ≤ w3.heap.size := by have := hb3.size; simp at this; omega
  have K3 := Lib.hid ((hb3.block w.heap.size (by simp)).trans (R1.out _))
  have B3 := Lib.hid ((BX.out _).trans (hb3.mono (by simp)))
  have HY := Lib.hid hy
  clear hb3 hy
  have c0 : w3.cell? ⟨w.heap.size, 0, none⟩ = some (.int .i64 0) := by rw [cell_of_row _ _ _ _ _ _ K3.out]; rfl
  have c1 : w3.cell? ⟨w.heap.size, 1, none⟩ = some (.int .i64 0) := by rw [cell_of_row _ _ _ _ _ _ K3.out]; rfl
  have c2 : w3.cell? ⟨w.heap.size, 2, none⟩ = some (.string ⟨#[]⟩) := by rw [cell_of_row _ _ _ _ _ _ K3.out]; rfl
  have c3 : w3.cell? ⟨w.heap.size, 3, none⟩ = some (.slice none 0 0) := by rw [cell_of_row _ _ _ _ _ _ K3.out]; rfl
  have cf0 := frozen_of_row _ _ 0 _ _ K3.out
  have cf1 := frozen_of_row _ _ 1 _ _ K3.out
  have cf2 := frozen_of_row _ _ 2 _ _ K3.out
  have cf3 := frozen_of_row _ _ 3 _ _ K3.out
  go_wp2_with fail
  have FO := four K3.out (.int .i64 Q.kind) (.int .i64 Q.num) (.string Q.name) (.slice ya Q.args.length yc)
  have PE := made_end1 (T := Q) B3.out (HY.out.keep (fun _ _ => rfl) (fun b hb _ => ⟨by have := hb.1; simp at this; omega, hb.2⟩)) K3.out _ rfl
  generalize ((((w3.setCell ⟨w.heap.size, 0, none⟩ (.int .i64 Q.kind)).setCell ⟨w.heap.size, 1, none⟩ (.int .i64 Q.num)).setCell ⟨w.heap.size, 2, none⟩ (.string Q.name)).setCell ⟨w.heap.size, 3, none⟩ (.slice ya Q.args.length yc)) = W3 at *
  have k0 : W3.cell? ⟨w.heap.size, 0, none⟩ = some (.int .i64 Q.kind) := by rw [cell_of_row _ _ _ _ _ _ FO.1]; rfl
  have k1 : W3.cell? ⟨w.heap.size, 1, none⟩ = some (.int .i64 Q.num) := by rw [cell_of_row _ _ _ _ _ _ FO.1]; rfl
  have k2 : W3.cell? ⟨w.heap.size, 2, none⟩ = some (.string Q.name) := by rw [cell_of_row _ _ _ _ _ _ FO.1]; rfl
  have k3 : W3.cell? ⟨w.heap.size, 3, none⟩ = some (.slice ya Q.args.length yc) := by rw [cell_of_row _ _ _ _ _ _ FO.1]; rfl
  exact bodyPost_ret (v := tv Q (.slice ya Q.args.length yc)) (by simp [results, Try.results25, go_sem, k0, k1, k2, k3]) rfl PE

set_option maxHeartbeats 2000000 in
theorem rstruct_none (nm : ByteArray) (a : Option Addr) (cap : Nat) (w : World) (hi : nm.size ≤ 9223372036854775807) : Calls Try.prog 26 #[.string nm, .slice a 0 cap] w (MadeV (.mk 2 0 nm []) w) := by
  obtain ⟨Q, hQ⟩ : ∃ Q, (if validB (.mk 2 0 nm []) = true then (.mk 2 0 nm []) else z0) = Q := ⟨_, rfl⟩
  unfold MadeV
  rw [hQ]
  have BX : Hid (∀ o, Below w.heap.size w (w.alloc o)) := fun o => (Below.refl _ _).alloc (Nat.le_refl _) o
  have R1 : Hid (∀ o, (w.alloc o).heap[w.heap.size]? = some o) := fun o => heap_alloc_new w o
  have HI := Lib.hid hi
  clear hi
  have HC : Hid (∀ w1, Below w.heap.size w w1 → Calls Try.prog 25 #[.string nm] w1 (MadeEnd Q w1)) := by
    show ∀ w1, _
    intro w1 hb
    have h := ratom_any nm w1 HI.out
    unfold MadeV at h
    rwa [hQ] at h
  clear hQ
  go_enter Try.func26, Try.ntmps26
  go_wp2_with fail
  refine (HC.out _ (BX.out _)).mono ?_
  clear HC
  rintro e w3 ⟨y, rfl, hy, hb3⟩
  obtain ⟨ya, yc, rfl⟩ := hy.slice
  have z3 : w.heap.size + 1 ≤ w3.heap.size := by have := hb3.size; simp at this; omega
  have K3 := Lib.hid ((hb3.block w.heap.size (by simp)).trans (R1.out _))
  have B3 := Lib.hid ((BX.out _).trans (hb3.mono (by simp)))
  have HY := Lib.hid hy
  clear hb3 hy
  have c0 : w3.cell? ⟨w.heap.size, 0, none⟩ = some (.int .i64 0) := by rw [cell_of_row _ _ _ _ _ _ K3.out]; rfl
  have c1 : w3.cell? ⟨w.heap.size, 1, none⟩ = some (.int .i64 0) := by rw [cell_of_row _ _ _ _ _ _ K3.out]; rfl
  have c2 : w3.cell? ⟨w.heap.size, 2, none⟩ = some (.string ⟨#[]⟩) := by rw [cell_of_row _ _ _ _ _ _ K3.out]; rfl
  have c3 : w3.cell? ⟨w.heap.size, 3, none⟩ = some (.slice none 0 0) := by rw [cell_of_row _ _ _ _ _ _ K3.out]; rfl
  have cf0 := frozen_of_row _ _ 0 _ _ K3.out
  have cf1 := frozen_of_row _ _ 1 _ _ K3.out
  have cf2 := frozen_of_row _ _ 2 _ _ K3.out
  have cf3 := frozen_of_row _ _ 3 _ _ K3.out
  go_wp2_with fail
  have FO := four K3.out (.int .i64 Q.kind) (.int .i64 Q.num) (.string Q.name) (.slice ya Q.args.length yc)
  have PE := made_end1 (T := Q) B3.out (HY.out.keep (fun _ _ => rfl) (fun b hb _ => ⟨by have := hb.1; simp at this; omega, hb.2⟩)) K3.out _ rfl
  generalize ((((w3.setCell ⟨w.heap.size, 0, none⟩ (.int .i64 Q.kind)).setCell ⟨w.heap.size, 1, none⟩ (.int .i64 Q.num)).setCell ⟨w.heap.size, 2, none⟩ (.string Q.name)).setCell ⟨w.heap.size, 3, none⟩ (.slice ya Q.args.length yc)) = W3 at *
  have k0 : W3.cell? ⟨w.heap.size, 0, none⟩ = some (.int .i64 Q.kind) := by rw [cell_of_row _ _ _ _ _ _ FO.1]; rfl
  have k1 : W3.cell? ⟨w.heap.size, 1, none⟩ = some (.int .i64 Q.num) := by rw [cell_of_row _ _ _ _ _ _ FO.1]; rfl
  have k2 : W3.cell? ⟨w.heap.size, 2, none⟩ = some (.string Q.name) := by rw [cell_of_row _ _ _ _ _ _ FO.1]; rfl
  have k3 : W3.cell? ⟨w.heap.size, 3, none⟩ = some (.slice ya Q.args.length yc) := by rw [cell_of_row _ _ _ _ _ _ FO.1]; rfl
  exact bodyPost_ret (v := tv Q (.slice ya Q.args.length yc)) (by simp [results, Try.results26, go_sem, k0, k1, k2, k3]) rfl PE

set_option maxHeartbeats 2000000 in
theorem rstruct_some (nm : ByteArray) (ts : List Tm) (a : Option Addr) (cap : Nat) (w : World) (hi : nm.size ≤ 9223372036854775807) (hl : LiesA w ts (.slice a ts.length cap)) (hz : ¬ ts = []) : Calls Try.prog 26 #[.string nm, .slice a ts.length cap] w (MadeV (.mk 3 0 nm ts) w) := by
  obtain ⟨Q, hQ⟩ : ∃ Q, (if validB (.mk 3 0 nm ts) = true then (.mk 3 0 nm ts) else z0) = Q := ⟨_, rfl⟩
  unfold MadeV
  rw [hQ]
  have BX : Hid (∀ o, Below w.heap.size w (w.alloc o)) := fun o => (Below.refl _ _).alloc (Nat.le_refl _) o
  have R1 : Hid (∀ o, (w.alloc o).heap[w.heap.size]? = some o) := fun o => heap_alloc_new w o
  have HI := Lib.hid hi
  have HLL := Lib.hid hl
  have hz1 : ((ts.length : Int) == 0) = false := by simpa using hz
  have hz2 : ¬ (ts.length : Int) = 0 := by simpa using hz
  clear hi hl hz
  have HC : Hid (∀ w1, Below w.heap.size w w1 → Calls Try.prog 57 #[tv (.mk 3 0 nm ts) (.slice a ts.length cap)] w1 (MadeEnd Q w1)) := by
    show ∀ w1, _
    intro w1 hb
    have h := rvalid_any (.mk 3 0 nm ts) (.slice a ts.length cap) w1 (struct_lies HI.out (LiesT.below HLL.out hb))
    unfold MadeV at h
    rwa [hQ] at h
  clear hQ
  go_enter Try.func26, Try.ntmps26
  go_wp2_with fail
  refine (HC.out _ (BX.out _)).mono ?_
  clear HC
  rintro e w3 ⟨y, rfl, hy, hb3⟩
  obtain ⟨ya, yc, rfl⟩ := hy.slice
  have z3 : w.heap.size + 1 ≤ w3.heap.size := by have := hb3.size; simp at this; omega
  have K3 := Lib.hid ((hb3.block w.heap.size (by simp)).trans (R1.out _))
  have B3 := Lib.hid ((BX.out _).trans (hb3.mono (by simp)))
  have HY := Lib.hid hy
  clear hb3 hy
  have c0 : w3.cell? ⟨w.heap.size, 0, none⟩ = some (.int .i64 0) := by rw [cell_of_row _ _ _ _ _ _ K3.out]; rfl
  have c1 : w3.cell? ⟨w.heap.size, 1, none⟩ = some (.int .i64 0) := by rw [cell_of_row _ _ _ _ _ _ K3.out]; rfl
  have c2 : w3.cell? ⟨w.heap.size, 2, none⟩ = some (.string ⟨#[]⟩) := by rw [cell_of_row _ _ _ _ _ _ K3.out]; rfl
  have c3 : w3.cell? ⟨w.heap.size, 3, none⟩ = some (.slice none 0 0) := by rw [cell_of_row _ _ _ _ _ _ K3.out]; rfl
  have cf0 := frozen_of_row _ _ 0 _ _ K3.out
  have cf1 := frozen_of_row _ _ 1 _ _ K3.out
  have cf2 := frozen_of_row _ _ 2 _ _ K3.out
  have cf3 := frozen_of_row _ _ 3 _ _ K3.out
  go_wp2_with fail
  have FO := four K3.out (.int .i64 Q.kind) (.int .i64 Q.num) (.string Q.name) (.slice ya Q.args.length yc)
  have PE := made_end1 (T := Q) B3.out (HY.out.keep (fun _ _ => rfl) (fun b hb _ => ⟨by have := hb.1; simp at this; omega, hb.2⟩)) K3.out _ rfl
  generalize ((((w3.setCell ⟨w.heap.size, 0, none⟩ (.int .i64 Q.kind)).setCell ⟨w.heap.size, 1, none⟩ (.int .i64 Q.num)).setCell ⟨w.heap.size, 2, none⟩ (.string Q.name)).setCell ⟨w.heap.size, 3, none⟩ (.slice ya Q.args.length yc)) = W3 at *
  have k0 : W3.cell? ⟨w.heap.size, 0, none⟩ = some (.int .i64 Q.kind) := by rw [cell_of_row _ _ _ _ _ _ FO.1]; rfl
  have k1 : W3.cell? ⟨w.heap.size, 1, none⟩ = some (.int .i64 Q.num) := by rw [cell_of_row _ _ _ _ _ _ FO.1]; rfl
  have k2 : W3.cell? ⟨w.heap.size, 2, none⟩ = some (.string Q.name) := by rw [cell_of_row _ _ _ _ _ _ FO.1]; rfl
  have k3 : W3.cell? ⟨w.heap.size, 3, none⟩ = some (.slice ya Q.args.length yc) := by rw [cell_of_row _ _ _ _ _ _ FO.1]; rfl
  exact bodyPost_ret (v := tv Q (.slice ya Q.args.length yc)) (by simp [results, Try.results26, go_sem, k0, k1, k2, k3]) rfl PE

theorem rint_any (n : Int) (w : World) : Calls Try.prog 23 #[.int .i64 n] w fun e w' => e = .returned (pv 1 n ⟨#[]⟩ (.slice none 0 0)) ∧ Below w.heap.size w w' := by
  have fr : ∀ o, Below w.heap.size w (w.alloc o) := fun o => (Below.refl _ _).alloc (Nat.le_refl _) _
  go_enter Try.func23, Try.ntmps23
  go_wp2_with fail
  exact bodyPost_ret (v := pv 1 n ⟨#[]⟩ (.slice none 0 0)) (by simp [results, Try.results23, go_sem]) rfl ⟨rfl, fr _⟩

end Go.Proofs.Ytdgflagafilobaa
