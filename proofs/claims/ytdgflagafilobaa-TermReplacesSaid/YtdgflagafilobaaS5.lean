/- The functions that substitute is handed: Var, and those of Rename and Replace; Clone. -/
import Derived.Test.YtdgflagafilobaaS1
import Derived.Test.YtdgflagafilobaaS3
import Derived.Test.YtdgflagafilobaaS4
namespace Go.Proofs.Ytdgflagafilobaa
open Go.RowKit Go.Proofs.HT

def vr (n : Int) : Tm := .mk 0 n ⟨#[]⟩ []
theorem vr_own {S : Nat → Prop} {w : World} {n : Int} (h : I64 n) : OwnT S w (vr n) (.slice none 0 0) := by
  unfold vr OwnT
  exact ⟨⟨by omega, by omega⟩, h, by simp [ByteArray.size], .inl ⟨rfl, rfl⟩⟩
theorem numB_i64 {n : Int} (h : numB n = true) : I64 n := by have := numB_iff.1 h; exact ⟨by omega, by omega⟩
theorem vr_end {V : List Int → (Nat → Prop) → World → Prop} (hk : VisKeep V) {W w w' : World} {own : Nat → Prop} {xs : List Int} {n : Int} (hn : I64 n) (hV : V xs own w) (hB : Below W.heap.size W w) (hb : Below w.heap.size w w') :
    PutEnd V W own (vr n) xs w (.returned (pv 0 n ⟨#[]⟩ (.slice none 0 0))) w' :=
  ⟨.slice none 0 0, rfl, vr_own hn, hk.keep _ _ _ _ hV (fun g hg => hb.block g (hk.lt _ _ _ _ hV hg)) hb.size, hb.size, fun g hg _ => hb.block g hg, hB.trans (hb.mono hB.size)⟩
theorem mapT_vr (t : Tm) : nodesB t = true → mapT vr t = t := by
  induction t using Tm.ind with
  | h k n s ts ih =>
    intro h
    have hn := nodes_at h
    by_cases h0 : k = 0
    · subst h0
      obtain ⟨_, _, rfl, hl⟩ := node_var hn.1
      obtain rfl : ts = [] := List.length_eq_zero_iff.1 hl
      simp [mapT, vr]
    · have key : ∀ l : List Tm, (∀ t ∈ l, mapT vr t = t) → mapL vr l = l := by
        intro l
        induction l with
        | nil => intro _; rfl
        | cons x l ih2 => intro h; rw [mapL, h x (by simp), ih2 (fun y hy => h y (by simp [hy]))]
      rw [mapT, if_neg h0, key ts (fun t ht => by
        obtain ⟨i, hi, rfl⟩ := List.getElem_of_mem ht
        exact ih _ ht (hn.2 i hi))]

/-! Var. -/
def V0 (_ : List Int) (own : Nat → Prop) (_ : World) : Prop := ∀ g, ¬ own g
theorem V0_keep : VisKeep V0 := ⟨fun _ _ _ _ h _ _ => h, fun _ _ _ g h ho => absurd ho (h g)⟩
theorem var_put (W : World) (L : List Int) : Hid (∀ xs n w, V0 xs (fun _ => False) w → numB n = true → Below W.heap.size W w → addv xs n <+: L → Calls Try.prog 20 #[.int .i64 n] w (PutEnd V0 W (fun _ => False) (vr n) (addv xs n) w)) :=
  fun xs n w hV hn hb _ => (Var_yes n w hn).mono fun e w' h => by
    rw [h.1]; exact vr_end V0_keep (numB_i64 hn) (xs := addv xs n) hV hb h.2

/-- Substitute with Var: a copy. -/
theorem copy_any (W : World) (t : Tm) (v : Value) (w : World) (h : LiesT W t v) (hb : Below W.heap.size W w) (hn : nodesB t = true) :
    Calls Try.prog 46 #[tv t v, .func (.func 20) #[] #[]] w (MadeEnd t w) :=
  (subst_var V0 V0_keep W (fun _ => False) vr (varsF [] t) (var_put W _) t v [] w h (fun _ h => h) hb hn (List.prefix_refl _)).mono fun e w' ⟨y, he, hy, _, hz, hf, hb2⟩ => by
    rw [mapT_vr t hn] at he hy
    exact ⟨y, he, hy, ⟨hb2.os.trans hb.os.symm, hb2.tape.trans hb.tape.symm, hb2.output.trans hb.output.symm, hz, fun g hg => hf g hg (fun h => h)⟩⟩

/-! Rename's function. -/
def V1 (f : Int) (fb : Nat) (_ : List Int) (own : Nat → Prop) (w : World) : Prop := (∀ g, own g ↔ g = fb) ∧ w.heap[fb]? = some (.cells #[.int .i64 f] 2 (0, 0))
theorem V1_keep (f : Int) (fb : Nat) : VisKeep (V1 f fb) := ⟨fun _ _ _ _ h k _ => ⟨h.1, by rw [k fb ((h.1 fb).2 rfl)]; exact h.2⟩, fun _ _ _ g h ho => by rw [(h.1 g).1 ho]; exact (Array.getElem?_eq_some_iff.1 h.2).1⟩
theorem addv_mem (xs : List Int) (n : Int) : n ∈ addv xs n := by
  unfold addv
  by_cases h : posF xs n 0 < 0
  · rw [if_pos h]; simp
  · rw [if_neg h]
    rw [posF_iff] at h
    simp at h; exact h

theorem addv_step (xs : List Int) (n : Int) : addv xs n = xs ∨ addv xs n = xs ++ [n] := by unfold addv; split <;> simp

set_option maxHeartbeats 1000000 in
theorem rename_put (f : Int) (fb : Nat) (W : World) (L : List Int) (own : Nat → Prop) (hL : ∀ x ∈ L, numB (x + f) = true) (hf0 : 0 ≤ f) (hf1 : f ≤ 1099511627776) :
    Hid (∀ xs n w, V1 f fb xs own w → numB n = true → Below W.heap.size W w → addv xs n <+: L → Calls Try.prog 47 #[.int .i64 n, .pointer (some ⟨fb, 0, none⟩)] w (PutEnd (V1 f fb) W own (sh f n) (addv xs n) w)) := by
  intro xs n w hV hn hb hpre
  have hn2 := hL n (hpre.subset (addv_mem xs n))
  obtain ⟨n0, n1⟩ := numB_iff.1 hn
  have HV := Lib.hid hV
  have HB := Lib.hid hb
  have q0 : w.cell? ⟨fb, 0, none⟩ = some (.int .i64 f) := by rw [cell_of_row _ _ _ _ _ _ hV.2]; rfl
  have hfl : fb < w.heap.size := (Array.getElem?_eq_some_iff.1 hV.2).1
  have s1 : -9223372036854775808 ≤ n + f := by omega
  have s2 : n + f ≤ 9223372036854775807 := by omega
  have HN := Lib.hid hn2
  have BX : Hid (∀ o, Below w.heap.size w (w.alloc o)) := fun o => (Below.refl _ _).alloc (Nat.le_refl _) o
  have R1 : Hid (∀ o, (w.alloc o).heap[w.heap.size]? = some o) := fun o => heap_alloc_new w o
  clear hV hb hpre hn2 hn
  go_enter Try.func47, Try.ntmps47
  go_wp2_with (go_at_call 20; refine (Var_yes _ _ HN.out).mono ?_; rintro e w2 ⟨rfl, hb2⟩; have K1 := Lib.hid ((hb2.block w.heap.size (by simp)).trans (R1.out _)); have KB := Lib.hid ((BX.out _).trans (hb2.mono (by simp))); have c0 : w2.cell? ⟨w.heap.size, 0, none⟩ = some (.int .i64 0) := (by rw [cell_of_row _ _ _ _ _ _ K1.out]; rfl); have c1 : w2.cell? ⟨w.heap.size, 1, none⟩ = some (.int .i64 0) := (by rw [cell_of_row _ _ _ _ _ _ K1.out]; rfl); have c2 : w2.cell? ⟨w.heap.size, 2, none⟩ = some (.string ⟨#[]⟩) := (by rw [cell_of_row _ _ _ _ _ _ K1.out]; rfl); have c3 : w2.cell? ⟨w.heap.size, 3, none⟩ = some (.slice none 0 0) := (by rw [cell_of_row _ _ _ _ _ _ K1.out]; rfl); have f0 := frozen_of_row _ _ 0 _ _ K1.out; have f1 := frozen_of_row _ _ 1 _ _ K1.out; have f2 := frozen_of_row _ _ 2 _ _ K1.out; have f3 := frozen_of_row _ _ 3 _ _ K1.out; clear hb2)
  have FO := four K1.out (.int .i64 0) (.int .i64 (n + f)) (.string ⟨#[]⟩) (.slice none 0 0)
  have PE := vr_end (V1_keep f fb) (xs := addv xs n) (n := n + f) ⟨s1, s2⟩ (⟨HV.out.1, HV.out.2⟩ : V1 f fb (addv xs n) own w) HB.out (FO.2.2.2 _ _ (Nat.le_refl _) KB.out)
  generalize ((((w2.setCell ⟨w.heap.size, 0, none⟩ (.int .i64 0)).setCell ⟨w.heap.size, 1, none⟩ (.int .i64 (n + f))).setCell ⟨w.heap.size, 2, none⟩ (.string ⟨#[]⟩)).setCell ⟨w.heap.size, 3, none⟩ (.slice none 0 0)) = W3 at *
  have k0 : W3.cell? ⟨w.heap.size, 0, none⟩ = some (.int .i64 0) := by rw [cell_of_row _ _ _ _ _ _ FO.1]; rfl
  have k1 : W3.cell? ⟨w.heap.size, 1, none⟩ = some (.int .i64 (n + f)) := by rw [cell_of_row _ _ _ _ _ _ FO.1]; rfl
  have k2 : W3.cell? ⟨w.heap.size, 2, none⟩ = some (.string ⟨#[]⟩) := by rw [cell_of_row _ _ _ _ _ _ FO.1]; rfl
  have k3 : W3.cell? ⟨w.heap.size, 3, none⟩ = some (.slice none 0 0) := by rw [cell_of_row _ _ _ _ _ _ FO.1]; rfl
  exact bodyPost_ret (v := pv 0 (n + f) ⟨#[]⟩ (.slice none 0 0)) (by simp [results, Try.results47, go_sem, k0, k1, k2, k3]) rfl PE

end Go.Proofs.Ytdgflagafilobaa
