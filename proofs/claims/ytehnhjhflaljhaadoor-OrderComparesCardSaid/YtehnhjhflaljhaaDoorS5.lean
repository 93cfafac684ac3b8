/- The functions that substitute is handed: Var, and those of Rename and Replace; Clone. -/
import Derived.Test.YtehnhjhflaljhaaDoorS1
import Derived.Test.YtehnhjhflaljhaaDoorS3
import Derived.Test.YtehnhjhflaljhaaDoorS4
namespace Go.Proofs.YtehnhjhflaljhaaDoor
open Go.RowKit Go.Proofs.HT

def vr (n : Int) : Tm := .mk 0 n ⟨#[]⟩ []
theorem vr_own {S : Nat → Prop} {w : World} {n : Int} (h : I64 n) : OwnT S w (vr n) (.slice none 0 0) := by
  unfold vr OwnT
  exact ⟨⟨by omega, by omega⟩, h, by simp [ByteArray.size], .inl ⟨rfl, rfl⟩⟩
theorem numB_i64 {n : Int} (h : numB n = true) : I64 n := by have := numB_iff.1 h; exact ⟨by omega, by omega⟩
theorem vr_end {V : List Int → (Nat → Prop) → World → Prop} (hk : VisKeep V) {W w w' : World} {own : Nat → Prop} {xs : List Int} {n : Int} (hn : I64 n) (hV : V xs own w) (hB : Below W.heap.size W w) (hb : Below w.heap.size w w') :
    PutEnd V W own (vr n) xs w (.returned (pv 0 n ⟨#[]⟩ (.slice none 0 0))) w' :=
  ⟨.slice none 0 0, rfl, vr_own hn, hk.keep _ _ _ _ hV (fun g hg => hb.block g (hk.lt _ _ _ _ hV hg)) hb.size, hb.size, fun g hg _ => hb.block g hg, hB.trans (hb.mono hB.size)⟩
theorem mapT_vr (t : Tm) : nodesB t = true → mapT vr t = t := by
  induction t using Tm.ind with
  | h k n s ts ih =>
    intro h
    have hn := nodes_at h
    by_cases h0 : k = 0
    · subst h0
      obtain ⟨_, _, rfl, hl⟩ := node_var hn.1
      obtain rfl : ts = [] := List.length_eq_zero_iff.1 hl
      simp [mapT, vr]
    · have key : ∀ l : List Tm, (∀ t ∈ l, mapT vr t = t) → mapL vr l = l := by
        intro l
        induction l with
        | nil => intro _; rfl
        | cons x l ih2 => intro h; rw [mapL, h x (by simp), ih2 (fun y hy => h y (by simp [hy]))]
      rw [mapT, if_neg h0, key ts (fun t ht => by
        obtain ⟨i, hi, rfl⟩ := List.getElem_of_mem ht
        exact ih _ ht (hn.2 i hi))]

/-! Var. -/
def V0 (_ : List Int) (own : Nat → Prop) (_ : World) : Prop := ∀ g, ¬ own g
theorem V0_keep : VisKeep V0 := ⟨fun _ _ _ _ h _ _ => h, fun _ _ _ g h ho => absurd ho (h g)⟩
theorem var_put (W : World) (L : List Int) : Hid (∀ xs n w, V0 xs (fun _ => False) w → numB n = true → Below W.heap.size W w → addv xs n <+: L → Calls Tryd.prog 82 #[.int .i64 n] w (PutEnd V0 W (fun _ => False) (vr n) (addv xs n) w)) :=
  fun xs n w hV hn hb _ => (Var_yes n w hn).mono fun e w' h => by
    rw [h.1]; exact vr_end V0_keep (numB_i64 hn) (xs := addv xs n) hV hb h.2

/-- Substitute with Var: a copy. -/
theorem copy_any (W : World) (t : Tm) (v : Value) (w : World) (h : LiesT W t v) (hb : Below W.heap.size W w) (hn : nodesB t = true) :
    Calls Tryd.prog 81 #[tv t v, .func (.func 82) #[] #[]] w (MadeEnd t w) :=
  (subst_var V0 V0_keep W (fun _ => False) vr (varsF [] t) (var_put W _) t v [] w h (fun _ h => h) hb hn (List.prefix_refl _)).mono fun e w' ⟨y, he, hy, _, hz, hf, hb2⟩ => by
    rw [mapT_vr t hn] at he hy
    exact ⟨y, he, hy, ⟨hb2.os.trans hb.os.symm, hb2.tape.trans hb.tape.symm, hb2.output.trans hb.output.symm, hz, fun g hg => hf g hg (fun h => h)⟩⟩

/-! Rename's function. -/
def V1 (f : Int) (fb : Nat) (_ : List Int) (own : Nat → Prop) (w : World) : Prop := (∀ g, own g ↔ g = fb) ∧ w.heap[fb]? = some (.cells #[.int .i64 f] 2 (0, 0))
theorem V1_keep (f : Int) (fb : Nat) : VisKeep (V1 f fb) := ⟨fun _ _ _ _ h k _ => ⟨h.1, by rw [k fb ((h.1 fb).2 rfl)]; exact h.2⟩, fun _ _ _ g h ho => by rw [(h.1 g).1 ho]; exact (Array.getElem?_eq_some_iff.1 h.2).1⟩
theorem addv_mem (xs : List Int) (n : Int) : n ∈ addv xs n := by
  unfold addv
  by_cases h : posF xs n 0 < 0
  · rw [if_pos h]; simp
  · rw [if_neg h]
    rw [posF_iff] at h
    simp at h; exact h

theorem addv_step (xs : List Int) (n : Int) : addv xs n = xs ∨ addv xs n = xs ++ [n] := by unfold addv; split <;> simp

end Go.Proofs.YtehnhjhflaljhaaDoor
