/- Replace's function, Canon's function. -/
import Derived.Test.YtdgflagafilobaaS5
import Derived.Test.YtdgflagafilobaaS2
namespace Go.Proofs.Ytdgflagafilobaa
open Go.RowKit Go.Proofs.HT

/-- A term is stored in the result's cell, the first block of the call. -/
theorem put_end1 {V : List Int → (Nat → Prop) → World → Prop} (hk : VisKeep V) {W w w2 : World} {own : Nat → Prop} {T : Tm} {xs : List Int} {y : Value} {a0 a1 a2 a3 : Value}
    (hV : V xs own w) (hB : Below W.heap.size W w) (hb : Below w.heap.size w w2) (hy : OwnT (fun b => w.heap.size + 1 ≤ b ∧ b < w2.heap.size) w2 T y) (h : w2.heap[w.heap.size]? = some (.cells #[a0, a1, a2, a3] 24 (0, 0)))
    (w3 : World) (e : w3 = ((((w2.setCell ⟨w.heap.size, 0, none⟩ (.int .i64 T.kind)).setCell ⟨w.heap.size, 1, none⟩ (.int .i64 T.num)).setCell ⟨w.heap.size, 2, none⟩ (.string T.name)).setCell ⟨w.heap.size, 3, none⟩ y)) :
    PutEnd V W own T xs w (.returned (tv T y)) w3 := by
  obtain ⟨F1, F2, F3, F4⟩ := four h (.int .i64 T.kind) (.int .i64 T.num) (.string T.name) y
  rw [← e] at F1 F2 F3 F4
  have hb3 := F4 _ _ (Nat.le_refl _) hb
  exact ⟨y, rfl, hy.keep (fun b hb => F2 b (by omega)) (fun b hb _ => ⟨by omega, by omega⟩), hk.keep _ _ _ _ hV (fun g hg => hb3.block g (hk.lt _ _ _ _ hV hg)) hb3.size, hb3.size, fun g hg _ => hb3.block g hg, hB.trans (hb3.mono hB.size)⟩

def V2 (x : Int) (t : Tm) (bv : Value) (vb bb : Nat) (_ : List Int) (own : Nat → Prop) (w : World) : Prop :=
  (∀ g, own g ↔ g = vb ∨ g = bb) ∧ w.heap[vb]? = some (.cells #[.int .i64 x] 2 (0, 0)) ∧ w.heap[bb]? = some (.cells #[.int .i64 t.kind, .int .i64 t.num, .string t.name, bv] 24 (0, 0))
theorem V2_keep (x : Int) (t : Tm) (bv : Value) (vb bb : Nat) : VisKeep (V2 x t bv vb bb) := ⟨fun _ _ _ _ h k _ => ⟨h.1, by rw [k vb ((h.1 vb).2 (.inl rfl))]; exact h.2.1, by rw [k bb ((h.1 bb).2 (.inr rfl))]; exact h.2.2⟩,
  fun _ _ _ g h ho => by rcases (h.1 g).1 ho with rfl | rfl; exact (Array.getElem?_eq_some_iff.1 h.2.1).1; exact (Array.getElem?_eq_some_iff.1 h.2.2).1⟩
def gR (x : Int) (t : Tm) (n : Int) : Tm := if n = x then t else vr n

set_option maxHeartbeats 1000000 in
theorem replace_put (x : Int) (t : Tm) (bv : Value) (vb bb : Nat) (W : World) (L : List Int) (own : Nat → Prop) (hl : LiesT W t bv) (hnod : nodesB t = true) :
    Hid (∀ xs n w, V2 x t bv vb bb xs own w → numB n = true → Below W.heap.size W w → addv xs n <+: L → Calls Try.prog 52 #[.int .i64 n, .pointer (some ⟨vb, 0, none⟩), .pointer (some ⟨bb, 0, none⟩)] w (PutEnd (V2 x t bv vb bb) W own (gR x t n) (addv xs n) w)) := by
  intro xs n w hV hn hb _
  have hi := numB_i64 hn
  have HN := Lib.hid hn
  have HV := Lib.hid hV
  have HB := Lib.hid hb
  have q0 : w.cell? ⟨vb, 0, none⟩ = some (.int .i64 x) := by rw [cell_of_row _ _ _ _ _ _ hV.2.1]; rfl
  have q1 : w.cell? ⟨bb, 0, none⟩ = some (.int .i64 t.kind) := by rw [cell_of_row _ _ _ _ _ _ hV.2.2]; rfl
  have q2 : w.cell? ⟨bb, 1, none⟩ = some (.int .i64 t.num) := by rw [cell_of_row _ _ _ _ _ _ hV.2.2]; rfl
  have q3 : w.cell? ⟨bb, 2, none⟩ = some (.string t.name) := by rw [cell_of_row _ _ _ _ _ _ hV.2.2]; rfl
  have q4 : w.cell? ⟨bb, 3, none⟩ = some bv := by rw [cell_of_row _ _ _ _ _ _ hV.2.2]; rfl
  have hvl : vb < w.heap.size := (Array.getElem?_eq_some_iff.1 hV.2.1).1
  have hbl : bb < w.heap.size := (Array.getElem?_eq_some_iff.1 hV.2.2).1
  have BX : Hid (∀ o, Below w.heap.size w (w.alloc o)) := fun o => (Below.refl _ _).alloc (Nat.le_refl _) o
  have BW : Hid (∀ o, Below W.heap.size W (w.alloc o)) := fun o => HB.out.alloc HB.out.size o
  have R1 : Hid (∀ o, (w.alloc o).heap[w.heap.size]? = some o) := fun o => heap_alloc_new w o
  have HL := Lib.hid hl
  have HNOD := Lib.hid hnod
  clear hV hb hn hl hnod
  by_cases he : n = x
  · have he1 : (n != x) = false := by simpa using he
    have he2 : (n == x) = true := by simpa using he
    have E0 : Hid (gR x t n = t) := by show _ = _; simp [gR, he]
    rw [E0.out]
    go_enter Try.func52, Try.ntmps52
    go_wp2_with (go_at_call 46; refine (copy_any W t bv _ HL.out (BW.out _) HNOD.out).mono ?_; rintro e w2 ⟨y, rfl, hy, hb2⟩; obtain ⟨ya, yc, rfl⟩ := hy.slice; have K1 := Lib.hid ((hb2.block w.heap.size (by simp)).trans (R1.out _)); have KB := Lib.hid ((BX.out _).trans (hb2.mono (by simp))); have KY := Lib.hid hy; have c0 : w2.cell? ⟨w.heap.size, 0, none⟩ = some (.int .i64 0) := (by rw [cell_of_row _ _ _ _ _ _ K1.out]; rfl); have c1 : w2.cell? ⟨w.heap.size, 1, none⟩ = some (.int .i64 0) := (by rw [cell_of_row _ _ _ _ _ _ K1.out]; rfl); have c2 : w2.cell? ⟨w.heap.size, 2, none⟩ = some (.string ⟨#[]⟩) := (by rw [cell_of_row _ _ _ _ _ _ K1.out]; rfl); have c3 : w2.cell? ⟨w.heap.size, 3, none⟩ = some (.slice none 0 0) := (by rw [cell_of_row _ _ _ _ _ _ K1.out]; rfl); have f0 := frozen_of_row _ _ 0 _ _ K1.out; have f1 := frozen_of_row _ _ 1 _ _ K1.out; have f2 := frozen_of_row _ _ 2 _ _ K1.out; have f3 := frozen_of_row _ _ 3 _ _ K1.out; clear hb2 hy)
    have FO := four K1.out (.int .i64 t.kind) (.int .i64 t.num) (.string t.name) (.slice ya t.args.length yc)
    have PE := put_end1 (V2_keep x t bv vb bb) (T := t) (xs := addv xs n) (⟨HV.out.1, HV.out.2⟩ : V2 x t bv vb bb (addv xs n) own w) HB.out KB.out (KY.out.keep (fun _ _ => rfl) (fun b hb _ => by have := hb.1; simp at this; exact ⟨by omega, hb.2⟩)) K1.out _ rfl
    generalize ((((w2.setCell ⟨w.heap.size, 0, none⟩ (.int .i64 t.kind)).setCell ⟨w.heap.size, 1, none⟩ (.int .i64 t.num)).setCell ⟨w.heap.size, 2, none⟩ (.string t.name)).setCell ⟨w.heap.size, 3, none⟩ (.slice ya t.args.length yc)) = W3 at *
    have k0 : W3.cell? ⟨w.heap.size, 0, none⟩ = some (.int .i64 t.kind) := by rw [cell_of_row _ _ _ _ _ _ FO.1]; rfl
    have k1 : W3.cell? ⟨w.heap.size, 1, none⟩ = some (.int .i64 t.num) := by rw [cell_of_row _ _ _ _ _ _ FO.1]; rfl
    have k2 : W3.cell? ⟨w.heap.size, 2, none⟩ = some (.string t.name) := by rw [cell_of_row _ _ _ _ _ _ FO.1]; rfl
    have k3 : W3.cell? ⟨w.heap.size, 3, none⟩ = some (.slice ya t.args.length yc) := by rw [cell_of_row _ _ _ _ _ _ FO.1]; rfl
    exact bodyPost_ret (v := tv t (.slice ya t.args.length yc)) (by simp [results, Try.results52, go_sem, k0, k1, k2, k3]) rfl PE
  · have he1 : (n != x) = true := by simpa using he
    have he2 : (n == x) = false := by simpa using he
    have E0 : Hid (gR x t n = vr n) := by show _ = _; simp [gR, he]
    rw [E0.out]
    go_enter Try.func52, Try.ntmps52
    go_wp2_with (go_at_call 20; refine (Var_yes _ _ HN.out).mono ?_; rintro e w2 ⟨rfl, hb2⟩; have K1 := Lib.hid ((hb2.block w.heap.size (by simp)).trans (R1.out _)); have KB := Lib.hid ((BX.out _).trans (hb2.mono (by simp))); have c0 : w2.cell? ⟨w.heap.size, 0, none⟩ = some (.int .i64 0) := (by rw [cell_of_row _ _ _ _ _ _ K1.out]; rfl); have c1 : w2.cell? ⟨w.heap.size, 1, none⟩ = some (.int .i64 0) := (by rw [cell_of_row _ _ _ _ _ _ K1.out]; rfl); have c2 : w2.cell? ⟨w.heap.size, 2, none⟩ = some (.string ⟨#[]⟩) := (by rw [cell_of_row _ _ _ _ _ _ K1.out]; rfl); have c3 : w2.cell? ⟨w.heap.size, 3, none⟩ = some (.slice none 0 0) := (by rw [cell_of_row _ _ _ _ _ _ K1.out]; rfl); have f0 := frozen_of_row _ _ 0 _ _ K1.out; have f1 := frozen_of_row _ _ 1 _ _ K1.out; have f2 := frozen_of_row _ _ 2 _ _ K1.out; have f3 := frozen_of_row _ _ 3 _ _ K1.out; clear hb2)
    have FO := four K1.out (.int .i64 0) (.int .i64 n) (.string ⟨#[]⟩) (.slice none 0 0)
    have PE := vr_end (V2_keep x t bv vb bb) (xs := addv xs n) (n := n) hi (⟨HV.out.1, HV.out.2⟩ : V2 x t bv vb bb (addv xs n) own w) HB.out (FO.2.2.2 _ _ (Nat.le_refl _) KB.out)
    generalize ((((w2.setCell ⟨w.heap.size, 0, none⟩ (.int .i64 0)).setCell ⟨w.heap.size, 1, none⟩ (.int .i64 n)).setCell ⟨w.heap.size, 2, none⟩ (.string ⟨#[]⟩)).setCell ⟨w.heap.size, 3, none⟩ (.slice none 0 0)) = W3 at *
    have k0 : W3.cell? ⟨w.heap.size, 0, none⟩ = some (.int .i64 0) := by rw [cell_of_row _ _ _ _ _ _ FO.1]; rfl
    have k1 : W3.cell? ⟨w.heap.size, 1, none⟩ = some (.int .i64 n) := by rw [cell_of_row _ _ _ _ _ _ FO.1]; rfl
    have k2 : W3.cell? ⟨w.heap.size, 2, none⟩ = some (.string ⟨#[]⟩) := by rw [cell_of_row _ _ _ _ _ _ FO.1]; rfl
    have k3 : W3.cell? ⟨w.heap.size, 3, none⟩ = some (.slice none 0 0) := by rw [cell_of_row _ _ _ _ _ _ FO.1]; rfl
    exact bodyPost_ret (v := pv 0 n ⟨#[]⟩ (.slice none 0 0)) (by simp [results, Try.results52, go_sem, k0, k1, k2, k3]) rfl PE

end Go.Proofs.Ytdgflagafilobaa
