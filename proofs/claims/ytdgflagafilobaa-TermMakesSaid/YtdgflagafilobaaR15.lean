/- Indicator: the specification's, the program's. -/
import Derived.Test.YtdgflagafilobaaR14
namespace Go.Proofs.Ytdgflagafilobaa
open Go.RowKit Go.Proofs.HT

def indT (n : Int) (nm : ByteArray) : Tm := .mk 3 0 ⟨#[47]⟩ [.mk 2 0 nm [], .mk 1 n ⟨#[]⟩ []]
def indR (n : Int) (nm : ByteArray) : Tm := if 0 ≤ n ∧ n ≤ 8 then (if validB (indT n nm) = true then indT n nm else z0) else z0
theorem ind_lies {w : World} {n : Int} {nm : ByteArray} (hn : I64 n) (hs : nm.size ≤ 9223372036854775807) {g : Nat} (hg : w.heap.size = g) : LiesT (w.alloc (.cells (flat [((.mk 2 0 nm [] : Tm), (.slice none 0 0 : Value)), (.mk 1 n ⟨#[]⟩ [], .slice none 0 0)]).toArray 24)) (indT n nm) (.slice (some ⟨g, 0, none⟩) 2 2) := by
  have h := lies_new (ty := 24) hg [((.mk 2 0 nm [] : Tm), (.slice none 0 0 : Value)), (.mk 1 n ⟨#[]⟩ [], .slice none 0 0)] (by simp only [EnvT]; exact ⟨atom_lies hs, int_lies hn, trivial⟩) (by simp)
  exact struct_lies (by simp [ByteArray.size]) h

set_option maxHeartbeats 2000000 in
theorem rind_no (n : Int) (nm : ByteArray) (w : World) (hn : ¬ (0 ≤ n ∧ n ≤ 8)) : Calls Try.prog 28 #[.string nm, .int .i64 n] w (MadeEnd z0 w) := by
  have BX : Hid (∀ o, Below w.heap.size w (w.alloc o)) := fun o => (Below.refl _ _).alloc (Nat.le_refl _) o
  have R1 : Hid (∀ o, (w.alloc o).heap[w.heap.size]? = some o) := fun o => heap_alloc_new w o
  by_cases h0 : n < 0
  · have e0 : decide (n < 0) = true := by simpa using h0
    clear hn
    go_enter Try.func28, Try.ntmps28
    go_wp2_with fail
    exact bodyPost_ret (v := zv) (by simp [results, Try.results28, go_sem]) rfl ⟨.slice none 0 0, rfl, zero_own, BX.out _⟩
  · have e0 : decide (n < 0) = false := by simpa using h0
    have e1 : decide (8 < n) = true := by simp; omega
    clear hn
    go_enter Try.func28, Try.ntmps28
    go_wp2_with fail
    exact bodyPost_ret (v := zv) (by simp [results, Try.results28, go_sem]) rfl ⟨.slice none 0 0, rfl, zero_own, BX.out _⟩

set_option maxHeartbeats 2000000 in
theorem Ind_no (n : Int) (nm : ByteArray) (w : World) (hn : ¬ (0 ≤ n ∧ n ≤ 8)) : Calls Try.prog 27 #[.string nm, .int .i64 n] w (MadeEnd z0 w) := by
  have BX : Hid (∀ o, Below w.heap.size w (w.alloc o)) := fun o => (Below.refl _ _).alloc (Nat.le_refl _) o
  have R1 : Hid (∀ o, (w.alloc o).heap[w.heap.size]? = some o) := fun o => heap_alloc_new w o
  by_cases h0 : n < 0
  · have e0 : decide (n < 0) = true := by simpa using h0
    clear hn
    go_enter Try.func27, Try.ntmps27
    go_wp2_with fail
    exact bodyPost_ret (v := zv) (by simp [results, Try.results27, go_sem]) rfl ⟨.slice none 0 0, rfl, zero_own, BX.out _⟩
  · have e0 : decide (n < 0) = false := by simpa using h0
    have e1 : decide (8 < n) = true := by simp; omega
    clear hn
    go_enter Try.func27, Try.ntmps27
    go_wp2_with fail
    exact bodyPost_ret (v := zv) (by simp [results, Try.results27, go_sem]) rfl ⟨.slice none 0 0, rfl, zero_own, BX.out _⟩

set_option maxHeartbeats 2000000 in
theorem rind_yes (n : Int) (nm : ByteArray) (w : World) (h0 : 0 ≤ n) (h8 : n ≤ 8) (hi : nm.size ≤ 9223372036854775807) : Calls Try.prog 28 #[.string nm, .int .i64 n] w (MadeV (indT n nm) w) := by
  obtain ⟨Q, hQ⟩ : ∃ Q, (if validB (indT n nm) = true then indT n nm else z0) = Q := ⟨_, rfl⟩
  unfold MadeV
  rw [hQ]
  have BX : Hid (∀ o, Below w.heap.size w (w.alloc o)) := fun o => (Below.refl _ _).alloc (Nat.le_refl _) o
  have R1 : Hid (∀ o, (w.alloc o).heap[w.heap.size]? = some o) := fun o => heap_alloc_new w o
  have e0 : decide (n < 0) = false := by simp; omega
  have e1 : decide (8 < n) = false := by simp; omega
  have HC : Hid (∀ (w1 : World) (g : Nat), w1.heap.size = g → Calls Try.prog 57 #[tv (indT n nm) (.slice (some ⟨g, 0, none⟩) 2 2)] (w1.alloc (.cells (flat [((.mk 2 0 nm [] : Tm), (.slice none 0 0 : Value)), (.mk 1 n ⟨#[]⟩ [], .slice none 0 0)]).toArray 24)) (MadeEnd Q (w1.alloc (.cells (flat [((.mk 2 0 nm [] : Tm), (.slice none 0 0 : Value)), (.mk 1 n ⟨#[]⟩ [], .slice none 0 0)]).toArray 24)))) := by
    show ∀ (w1 : World) (g : Nat), _
    intro w1 g hg
    have h := rvalid_any (indT n nm) _ _ (ind_lies (n := n) (nm := nm) ⟨by omega, by omega⟩ hi hg)
    unfold MadeV at h
    rwa [hQ] at h
  clear hQ h0 h8 hi
  go_enter Try.func28, Try.ntmps28
  go_wp2_with fail
  refine (HC.out (w.alloc _) (w.heap.size + 1) (by simp)).mono ?_
  clear HC
  rintro e w3 ⟨y, rfl, hy, hb3⟩
  obtain ⟨ya, yc, rfl⟩ := hy.slice
  have z3 : w.heap.size + 2 ≤ w3.heap.size := by have := hb3.size; simp at this; omega
  have K3 := Lib.hid ((hb3.block w.heap.size (by simp <;> omega)).trans ((Below.heap_alloc _ _ _ (by simp)).trans (R1.out _)))
  have B3 := Lib.hid (((BX.out _).alloc (by simp) _).trans (hb3.mono (by simp <;> omega)))
  have HY := Lib.hid hy
  clear hb3 hy
  have c0 : w3.cell? ⟨w.heap.size, 0, none⟩ = some (.int .i64 0) := by rw [cell_of_row _ _ _ _ _ _ K3.out]; rfl
  have c1 : w3.cell? ⟨w.heap.size, 1, none⟩ = some (.int .i64 0) := by rw [cell_of_row _ _ _ _ _ _ K3.out]; rfl
  have c2 : w3.cell? ⟨w.heap.size, 2, none⟩ = some (.string ⟨#[]⟩) := by rw [cell_of_row _ _ _ _ _ _ K3.out]; rfl
  have c3 : w3.cell? ⟨w.heap.size, 3, none⟩ = some (.slice none 0 0) := by rw [cell_of_row _ _ _ _ _ _ K3.out]; rfl
  have cf0 := frozen_of_row _ _ 0 _ _ K3.out
  have cf1 := frozen_of_row _ _ 1 _ _ K3.out
  have cf2 := frozen_of_row _ _ 2 _ _ K3.out
  have cf3 := frozen_of_row _ _ 3 _ _ K3.out
  go_wp2_with fail
  have FO := four K3.out (.int .i64 Q.kind) (.int .i64 Q.num) (.string Q.name) (.slice ya Q.args.length yc)
  have PE := made_end1 (T := Q) B3.out (HY.out.keep (fun _ _ => rfl) (fun b hb _ => ⟨by have := hb.1; simp at this; omega, hb.2⟩)) K3.out _ rfl
  generalize ((((w3.setCell ⟨w.heap.size, 0, none⟩ (.int .i64 Q.kind)).setCell ⟨w.heap.size, 1, none⟩ (.int .i64 Q.num)).setCell ⟨w.heap.size, 2, none⟩ (.string Q.name)).setCell ⟨w.heap.size, 3, none⟩ (.slice ya Q.args.length yc)) = W3 at *
  have k0 : W3.cell? ⟨w.heap.size, 0, none⟩ = some (.int .i64 Q.kind) := by rw [cell_of_row _ _ _ _ _ _ FO.1]; rfl
  have k1 : W3.cell? ⟨w.heap.size, 1, none⟩ = some (.int .i64 Q.num) := by rw [cell_of_row _ _ _ _ _ _ FO.1]; rfl
  have k2 : W3.cell? ⟨w.heap.size, 2, none⟩ = some (.string Q.name) := by rw [cell_of_row _ _ _ _ _ _ FO.1]; rfl
  have k3 : W3.cell? ⟨w.heap.size, 3, none⟩ = some (.slice ya Q.args.length yc) := by rw [cell_of_row _ _ _ _ _ _ FO.1]; rfl
  exact bodyPost_ret (v := tv Q (.slice ya Q.args.length yc)) (by simp [results, Try.results28, go_sem, k0, k1, k2, k3]) rfl PE

set_option maxHeartbeats 2000000 in
theorem Ind_yes (n : Int) (nm : ByteArray) (w : World) (h0 : 0 ≤ n) (h8 : n ≤ 8) (hi : nm.size ≤ 9223372036854775807) : Calls Try.prog 27 #[.string nm, .int .i64 n] w (MadeV (indT n nm) w) := by
  obtain ⟨Q, hQ⟩ : ∃ Q, (if validB (indT n nm) = true then indT n nm else z0) = Q := ⟨_, rfl⟩
  unfold MadeV
  rw [hQ]
  have BX : Hid (∀ o, Below w.heap.size w (w.alloc o)) := fun o => (Below.refl _ _).alloc (Nat.le_refl _) o
  have R1 : Hid (∀ o, (w.alloc o).heap[w.heap.size]? = some o) := fun o => heap_alloc_new w o
  have e0 : decide (n < 0) = false := by simp; omega
  have e1 : decide (8 < n) = false := by simp; omega
  have HC : Hid (∀ (w1 : World) (g : Nat), w1.heap.size = g → Calls Try.prog 19 #[.string ⟨#[47]⟩, .slice (some ⟨g, 0, none⟩) 2 2] (w1.alloc (.cells (flat [((.mk 2 0 nm [] : Tm), (.slice none 0 0 : Value)), (.mk 1 n ⟨#[]⟩ [], .slice none 0 0)]).toArray 24)) (MadeEnd Q (w1.alloc (.cells (flat [((.mk 2 0 nm [] : Tm), (.slice none 0 0 : Value)), (.mk 1 n ⟨#[]⟩ [], .slice none 0 0)]).toArray 24)))) := by
    show ∀ (w1 : World) (g : Nat), _
    intro w1 g hg
    have hl := lies_new (ty := 24) hg [((.mk 2 0 nm [] : Tm), (.slice none 0 0 : Value)), (.mk 1 n ⟨#[]⟩ [], .slice none 0 0)] (by simp only [EnvT]; exact ⟨atom_lies hi, int_lies ⟨by omega, by omega⟩, trivial⟩) (by simp)
    have h := Struct_some ⟨#[47]⟩ [.mk 2 0 nm [], .mk 1 n ⟨#[]⟩ []] _ _ _ (by simp [ByteArray.size]) hl (by simp)
    have e : (Tm.mk 3 0 ⟨#[47]⟩ [.mk 2 0 nm [], .mk 1 n ⟨#[]⟩ []]) = indT n nm := rfl
    rw [e] at h
    unfold MadeV at h
    rwa [hQ] at h
  clear hQ h0 h8 hi
  go_enter Try.func27, Try.ntmps27
  go_wp2_with fail
  refine (atom_any nm _).mono ?_
  rintro e w1 ⟨rfl, hb1⟩
  have B1 := Lib.hid ((BX.out _).trans (hb1.mono (by simp)))
  have K1 := Lib.hid ((hb1.block w.heap.size (by simp)).trans (R1.out _))
  have z1 : w.heap.size + 1 ≤ w1.heap.size := by have := hb1.size; simp at this; omega
  clear hb1
  go_wp2_with fail
  refine (Int_any n _).mono ?_
  rintro e w2 ⟨rfl, hb2⟩
  have B2 := Lib.hid (B1.out.trans (hb2.mono B1.out.size))
  have K2 := Lib.hid ((hb2.block w.heap.size (by omega)).trans K1.out)
  have z2 : w.heap.size + 1 ≤ w2.heap.size := by have := hb2.size; omega
  clear hb2
  go_wp2_with fail
  refine (HC.out w2 w2.heap.size rfl).mono ?_
  clear HC
  rintro e w3 ⟨y, rfl, hy, hb3⟩
  obtain ⟨ya, yc, rfl⟩ := hy.slice
  have z3 : w2.heap.size + 1 ≤ w3.heap.size := by have := hb3.size; simp at this; omega
  have K3 := Lib.hid ((hb3.block w.heap.size (by simp <;> omega)).trans ((Below.heap_alloc _ _ _ (by omega)).trans K2.out))
  have B3 := Lib.hid ((B2.out.alloc (by omega) _).trans (hb3.mono (by simp <;> omega)))
  have HY := Lib.hid hy
  clear hb3 hy
  have c0 : w3.cell? ⟨w.heap.size, 0, none⟩ = some (.int .i64 0) := by rw [cell_of_row _ _ _ _ _ _ K3.out]; rfl
  have c1 : w3.cell? ⟨w.heap.size, 1, none⟩ = some (.int .i64 0) := by rw [cell_of_row _ _ _ _ _ _ K3.out]; rfl
  have c2 : w3.cell? ⟨w.heap.size, 2, none⟩ = some (.string ⟨#[]⟩) := by rw [cell_of_row _ _ _ _ _ _ K3.out]; rfl
  have c3 : w3.cell? ⟨w.heap.size, 3, none⟩ = some (.slice none 0 0) := by rw [cell_of_row _ _ _ _ _ _ K3.out]; rfl
  have cf0 := frozen_of_row _ _ 0 _ _ K3.out
  have cf1 := frozen_of_row _ _ 1 _ _ K3.out
  have cf2 := frozen_of_row _ _ 2 _ _ K3.out
  have cf3 := frozen_of_row _ _ 3 _ _ K3.out
  go_wp2_with fail
  have FO := four K3.out (.int .i64 Q.kind) (.int .i64 Q.num) (.string Q.name) (.slice ya Q.args.length yc)
  have PE := made_end1 (T := Q) B3.out (HY.out.keep (fun _ _ => rfl) (fun b hb _ => ⟨by have := hb.1; simp at this; omega, hb.2⟩)) K3.out _ rfl
  generalize ((((w3.setCell ⟨w.heap.size, 0, none⟩ (.int .i64 Q.kind)).setCell ⟨w.heap.size, 1, none⟩ (.int .i64 Q.num)).setCell ⟨w.heap.size, 2, none⟩ (.string Q.name)).setCell ⟨w.heap.size, 3, none⟩ (.slice ya Q.args.length yc)) = W3 at *
  have k0 : W3.cell? ⟨w.heap.size, 0, none⟩ = some (.int .i64 Q.kind) := by rw [cell_of_row _ _ _ _ _ _ FO.1]; rfl
  have k1 : W3.cell? ⟨w.heap.size, 1, none⟩ = some (.int .i64 Q.num) := by rw [cell_of_row _ _ _ _ _ _ FO.1]; rfl
  have k2 : W3.cell? ⟨w.heap.size, 2, none⟩ = some (.string Q.name) := by rw [cell_of_row _ _ _ _ _ _ FO.1]; rfl
  have k3 : W3.cell? ⟨w.heap.size, 3, none⟩ = some (.slice ya Q.args.length yc) := by rw [cell_of_row _ _ _ _ _ _ FO.1]; rfl
  exact bodyPost_ret (v := tv Q (.slice ya Q.args.length yc)) (by simp [results, Try.results27, go_sem, k0, k1, k2, k3]) rfl PE

end Go.Proofs.Ytdgflagafilobaa
