/- Canon's function. -/
import Derived.Test.YtdgflagafilobaaS6
namespace Go.Proofs.Ytdgflagafilobaa
open Go.RowKit Go.Proofs.HT

/-- The entries of a numbering. -/
def idx : List Int → Nat → List (Int × Value)
  | [], _ => []
  | x :: xs, i => (x, .int .i64 i) :: idx xs (i + 1)
theorem idx_len : ∀ (xs : List Int) (i : Nat), (idx xs i).length = xs.length
  | [], _ => rfl
  | x :: xs, i => by simp [idx, idx_len xs]
theorem idx_snoc : ∀ (xs : List Int) (n : Int) (i : Nat), idx (xs ++ [n]) i = idx xs i ++ [(n, .int .i64 (i + xs.length : Nat))]
  | [], n, i => by simp [idx]
  | x :: xs, n, i => by simp [idx, idx_snoc xs n (i + 1)]; omega
theorem posF_cons (x : Int) (xs : List Int) (n : Int) (i : Nat) : posF (x :: xs) n i = if x = n then (i : Int) else posF xs n (i + 1) := by rw [posF]
theorem findI_idx : ∀ (xs : List Int) (n : Int) (i : Nat), findI n (idx xs i) = if posF xs n i < 0 then none else some (.int .i64 (posF xs n i))
  | [], n, i => by simp [idx, findI, posF]
  | x :: xs, n, i => by
    have h := findI_idx xs n (i + 1)
    rw [posF_cons]
    simp only [idx, findI]
    by_cases e : n = x
    · have e' : x = n := e.symm
      rw [if_pos e, if_pos e', if_neg (by omega)]
    · have e' : ¬ x = n := fun h => e h.symm
      rw [if_neg e, if_neg e', h]
theorem posF_pre : ∀ (xs ys : List Int) (n : Int) (i : Nat), ¬ posF xs n i < 0 → posF (xs ++ ys) n i = posF xs n i
  | [], ys, n, i, h => by simp [posF] at h
  | x :: xs, ys, n, i, h => by
    rw [posF_cons] at h
    rw [List.cons_append, posF_cons, posF_cons]
    by_cases e : x = n
    · rw [if_pos e, if_pos e]
    · rw [if_neg e] at h
      rw [if_neg e, if_neg e]; exact posF_pre xs ys n (i + 1) h
theorem posF_snoc : ∀ (xs : List Int) (n : Int) (i : Nat), posF xs n i < 0 → posF (xs ++ [n]) n i = i + xs.length
  | [], n, i, _ => by simp [posF]
  | x :: xs, n, i, h => by
    rw [posF_cons] at h
    rw [List.cons_append, posF_cons]
    by_cases e : x = n
    · rw [if_pos e] at h; omega
    · rw [if_neg e] at h
      rw [if_neg e, posF_snoc xs n (i + 1) h]; simp; omega
theorem posF_of_pre {xs L : List Int} {n : Int} (h : xs <+: L) (hn : n ∈ xs) : posF L n 0 = posF xs n 0 := by
  obtain ⟨ys, rfl⟩ := h
  refine posF_pre xs ys n 0 fun h => ?_
  exact (posF_iff xs n 0).1 h n hn rfl

def VC (pb gm : Nat) (xs : List Int) (own : Nat → Prop) (w : World) : Prop :=
  (∀ g, own g ↔ g = pb ∨ g = gm) ∧ w.heap[pb]? = some (.cells #[.map (some gm)] 57 (0, 0)) ∧ MapI w gm (idx xs 0)
theorem VC_keep (pb gm : Nat) : VisKeep (VC pb gm) := ⟨fun _ _ _ _ h k _ => ⟨h.1, by rw [k pb ((h.1 pb).2 (.inl rfl))]; exact h.2.1, h.2.2.same (k gm ((h.1 gm).2 (.inr rfl)))⟩,
  fun _ _ _ g h ho => by rcases (h.1 g).1 ho with rfl | rfl; exact (Array.getElem?_eq_some_iff.1 h.2.1).1; exact h.2.2.lt⟩
theorem underC : Try.prog.underlying 57 = some (.map 2 2) := by kernel_rfl
theorem zeroI (w : World) : (zeroValue 2).run Try.prog w = .ok (.int .i64 0) w := by kernel_rfl

set_option maxHeartbeats 1000000 in
theorem canon_put (pb gm : Nat) (hne : ¬ pb = gm) (W : World) (hgm : W.heap.size ≤ gm) (L : List Int) (own : Nat → Prop) (hL : L.length ≤ 2000) :
    Hid (∀ xs n w, VC pb gm xs own w → numB n = true → Below W.heap.size W w → addv xs n <+: L → Calls Try.prog 61 #[.int .i64 n, .pointer (some ⟨pb, 0, none⟩)] w (PutEnd (VC pb gm) W own (nb L n) (addv xs n) w)) := by
  intro xs n w hV hn hb hpre
  have hlen : (addv xs n).length ≤ 2000 := Nat.le_trans hpre.length_le hL
  have hpos := posF_of_pre hpre (addv_mem xs n)
  have HV := Lib.hid hV
  have HB := Lib.hid hb
  have q0 : w.cell? ⟨pb, 0, none⟩ = some (.map (some gm)) := by rw [cell_of_row _ _ _ _ _ _ hV.2.1]; rfl
  have hpl : pb < w.heap.size := (Array.getElem?_eq_some_iff.1 hV.2.1).1
  have hgl : gm < w.heap.size := hV.2.2.lt
  have M1 : Hid (∀ o, MapI (w.alloc o) gm (idx xs 0)) := fun o => hV.2.2.same (Below.heap_alloc _ _ _ hgl)
  have BW : Hid (∀ o, Below W.heap.size W (w.alloc o)) := fun o => HB.out.alloc HB.out.size o
  have R1 : Hid (∀ o, (w.alloc o).heap[w.heap.size]? = some o) := fun o => heap_alloc_new w o
  by_cases hp : posF xs n 0 < 0
  · have ha : addv xs n = xs ++ [n] := by unfold addv; rw [if_pos hp]
    rw [ha] at hlen hpos ⊢
    rw [posF_snoc xs n 0 hp] at hpos
    simp only [List.length_append, List.length_singleton] at hlen
    have hf : findI n (idx xs 0) = none := by rw [findI_idx, if_pos hp]
    have hlk : ∀ o, (Instr.lookup 57 (.map (some gm)) (.int .i64 n) true).run Try.prog (w.alloc o) = .ok (.tuple #[.int .i64 0, .bool false]) (w.alloc o) := fun o => by
      have h := ((M1.out o).look underC underI (zeroI (w.alloc o)) n).1
      rw [hf] at h; exact h
    have E0 : Hid (nb L n = .mk 0 (xs.length : Int) ⟨#[]⟩ []) := by show _ = _; rw [nb, hpos]; simp
    have HF := Lib.hid hf
    have hq : Hid (numB (xs.length : Int) = true) := numB_iff.2 ⟨by omega, by omega⟩
    rw [E0.out]
    clear hV hb hpre hpos ha hf hp hn hL
    go_enter Try.func61, Try.ntmps61
    go_wp2_with (first
      | (at_len; refine wpList_len_i64 rfl _ rfl underC rfl (M1.out _) xs.length (idx_len xs 0) ?_)
      | (at_mapUpdate; refine wpList_put_i64 rfl _ _ _ rfl underC underI rfl (M1.out _) n rfl (.int .i64 xs.length) rfl HF.out ?_; intro w2 hm2 hb2 hs2 hk2; have Z2 := Lib.hid hs2; have M2 := Lib.hid hm2; have K2 : Hid (∀ j, ¬ j = gm → j < w.heap.size → w2.heap[j]? = w.heap[j]?) := fun j hn hj => (hk2 j hn).trans (Below.heap_alloc _ _ _ hj); have K1 := Lib.hid ((hk2 w.heap.size (by omega)).trans (R1.out _)); have B2 := Lib.hid ((BW.out _).trans (hb2.mono hgm)); clear hm2 hb2 hs2 hk2)
      | (go_at_call 20; refine (Var_yes _ _ hq.out).mono ?_; rintro e w3 ⟨rfl, hb3⟩; have z2 : w2.heap.size = w.heap.size + 1 := (by rw [Z2.out]; simp); have K3 := Lib.hid ((hb3.block w.heap.size (by omega)).trans K1.out); have KB := Lib.hid hb3; have c0 : w3.cell? ⟨w.heap.size, 0, none⟩ = some (.int .i64 0) := (by rw [cell_of_row _ _ _ _ _ _ K3.out]; rfl); have c1 : w3.cell? ⟨w.heap.size, 1, none⟩ = some (.int .i64 0) := (by rw [cell_of_row _ _ _ _ _ _ K3.out]; rfl); have c2 : w3.cell? ⟨w.heap.size, 2, none⟩ = some (.string ⟨#[]⟩) := (by rw [cell_of_row _ _ _ _ _ _ K3.out]; rfl); have c3 : w3.cell? ⟨w.heap.size, 3, none⟩ = some (.slice none 0 0) := (by rw [cell_of_row _ _ _ _ _ _ K3.out]; rfl); have f0 := frozen_of_row _ _ 0 _ _ K3.out; have f1 := frozen_of_row _ _ 1 _ _ K3.out; have f2 := frozen_of_row _ _ 2 _ _ K3.out; have f3 := frozen_of_row _ _ 3 _ _ K3.out; have ZZ := Lib.hid z2; clear hb3 z2))
    have FO := four K3.out (.int .i64 0) (.int .i64 xs.length) (.string ⟨#[]⟩) (.slice none 0 0)
    have PE : PutEnd (VC pb gm) W own (.mk 0 (xs.length : Int) ⟨#[]⟩ []) (xs ++ [n]) w (.returned (pv 0 xs.length ⟨#[]⟩ (.slice none 0 0))) ((((w3.setCell ⟨w.heap.size, 0, none⟩ (.int .i64 0)).setCell ⟨w.heap.size, 1, none⟩ (.int .i64 xs.length)).setCell ⟨w.heap.size, 2, none⟩ (.string ⟨#[]⟩)).setCell ⟨w.heap.size, 3, none⟩ (.slice none 0 0)) := by
      have hz3 := KB.out.size
      have hz2 := ZZ.out
      have kp : ∀ g, g < w.heap.size → ¬ g = gm → ((((w3.setCell ⟨w.heap.size, 0, none⟩ (.int .i64 0)).setCell ⟨w.heap.size, 1, none⟩ (.int .i64 xs.length)).setCell ⟨w.heap.size, 2, none⟩ (.string ⟨#[]⟩)).setCell ⟨w.heap.size, 3, none⟩ (.slice none 0 0)).heap[g]? = w.heap[g]? := fun g hg hn =>
        (FO.2.1 g (by omega)).trans ((KB.out.block g (by omega)).trans (K2.out g hn hg))
      refine ⟨.slice none 0 0, rfl, vr_own (n := xs.length) ⟨by omega, by omega⟩, ⟨HV.out.1, (kp pb hpl hne).trans HV.out.2.1, ?_⟩, by rw [FO.2.2.1]; omega, fun g hg ho => kp g hg (fun e => ho ((HV.out.1 g).2 (.inr e))), FO.2.2.2 _ _ HB.out.size (B2.out.trans (KB.out.mono B2.out.size))⟩
      rw [idx_snoc]
      have h := M2.out.same ((FO.2.1 gm (by omega)).trans (KB.out.block gm (by omega)))
      simpa using h
    generalize ((((w3.setCell ⟨w.heap.size, 0, none⟩ (.int .i64 0)).setCell ⟨w.heap.size, 1, none⟩ (.int .i64 xs.length)).setCell ⟨w.heap.size, 2, none⟩ (.string ⟨#[]⟩)).setCell ⟨w.heap.size, 3, none⟩ (.slice none 0 0)) = W3 at *
    have k0 : W3.cell? ⟨w.heap.size, 0, none⟩ = some (.int .i64 0) := by rw [cell_of_row _ _ _ _ _ _ FO.1]; rfl
    have k1 : W3.cell? ⟨w.heap.size, 1, none⟩ = some (.int .i64 xs.length) := by rw [cell_of_row _ _ _ _ _ _ FO.1]; rfl
    have k2 : W3.cell? ⟨w.heap.size, 2, none⟩ = some (.string ⟨#[]⟩) := by rw [cell_of_row _ _ _ _ _ _ FO.1]; rfl
    have k3 : W3.cell? ⟨w.heap.size, 3, none⟩ = some (.slice none 0 0) := by rw [cell_of_row _ _ _ _ _ _ FO.1]; rfl
    exact bodyPost_ret (v := pv 0 xs.length ⟨#[]⟩ (.slice none 0 0)) (by simp [results, Try.results61, go_sem, k0, k1, k2, k3]) rfl PE
  · have ha : addv xs n = xs := by unfold addv; rw [if_neg hp]
    rw [ha] at hlen hpos ⊢
    have hbd := posF_bd xs n 0
    have hf : findI n (idx xs 0) = some (.int .i64 (posF xs n 0)) := by rw [findI_idx, if_neg hp]
    have hlk : ∀ o, (Instr.lookup 57 (.map (some gm)) (.int .i64 n) true).run Try.prog (w.alloc o) = .ok (.tuple #[.int .i64 (posF xs n 0), .bool true]) (w.alloc o) := fun o => by
      have h := ((M1.out o).look underC underI (zeroI (w.alloc o)) n).1
      rw [hf] at h; exact h
    have E0 : Hid (nb L n = .mk 0 (posF xs n 0) ⟨#[]⟩ []) := by show _ = _; rw [nb, hpos]
    have hq : Hid (numB (posF xs n 0) = true) := numB_iff.2 ⟨by omega, by omega⟩
    have hi : Hid (I64 (posF xs n 0)) := ⟨by omega, by omega⟩
    have BX : Hid (∀ o, Below w.heap.size w (w.alloc o)) := fun o => (Below.refl _ _).alloc (Nat.le_refl _) o
    rw [E0.out]
    clear hV hb hpre hpos ha hf hp hn hL hbd
    generalize posF xs n 0 = q at *
    go_enter Try.func61, Try.ntmps61
    go_wp2_with (go_at_call 20; refine (Var_yes _ _ hq.out).mono ?_; rintro e w3 ⟨rfl, hb3⟩; have K3 := Lib.hid ((hb3.block w.heap.size (by simp)).trans (R1.out _)); have KB := Lib.hid ((BX.out _).trans (hb3.mono (by simp))); have c0 : w3.cell? ⟨w.heap.size, 0, none⟩ = some (.int .i64 0) := (by rw [cell_of_row _ _ _ _ _ _ K3.out]; rfl); have c1 : w3.cell? ⟨w.heap.size, 1, none⟩ = some (.int .i64 0) := (by rw [cell_of_row _ _ _ _ _ _ K3.out]; rfl); have c2 : w3.cell? ⟨w.heap.size, 2, none⟩ = some (.string ⟨#[]⟩) := (by rw [cell_of_row _ _ _ _ _ _ K3.out]; rfl); have c3 : w3.cell? ⟨w.heap.size, 3, none⟩ = some (.slice none 0 0) := (by rw [cell_of_row _ _ _ _ _ _ K3.out]; rfl); have f0 := frozen_of_row _ _ 0 _ _ K3.out; have f1 := frozen_of_row _ _ 1 _ _ K3.out; have f2 := frozen_of_row _ _ 2 _ _ K3.out; have f3 := frozen_of_row _ _ 3 _ _ K3.out; clear hb3)
    have FO := four K3.out (.int .i64 0) (.int .i64 q) (.string ⟨#[]⟩) (.slice none 0 0)
    have PE := vr_end (VC_keep pb gm) (xs := xs) (n := q) hi.out HV.out HB.out (FO.2.2.2 _ _ (Nat.le_refl _) KB.out)
    generalize ((((w3.setCell ⟨w.heap.size, 0, none⟩ (.int .i64 0)).setCell ⟨w.heap.size, 1, none⟩ (.int .i64 q)).setCell ⟨w.heap.size, 2, none⟩ (.string ⟨#[]⟩)).setCell ⟨w.heap.size, 3, none⟩ (.slice none 0 0)) = W3 at *
    have k0 : W3.cell? ⟨w.heap.size, 0, none⟩ = some (.int .i64 0) := by rw [cell_of_row _ _ _ _ _ _ FO.1]; rfl
    have k1 : W3.cell? ⟨w.heap.size, 1, none⟩ = some (.int .i64 q) := by rw [cell_of_row _ _ _ _ _ _ FO.1]; rfl
    have k2 : W3.cell? ⟨w.heap.size, 2, none⟩ = some (.string ⟨#[]⟩) := by rw [cell_of_row _ _ _ _ _ _ FO.1]; rfl
    have k3 : W3.cell? ⟨w.heap.size, 3, none⟩ = some (.slice none 0 0) := by rw [cell_of_row _ _ _ _ _ _ FO.1]; rfl
    exact bodyPost_ret (v := pv 0 q ⟨#[]⟩ (.slice none 0 0)) (by simp [results, Try.results61, go_sem, k0, k1, k2, k3]) rfl PE

end Go.Proofs.Ytdgflagafilobaa
