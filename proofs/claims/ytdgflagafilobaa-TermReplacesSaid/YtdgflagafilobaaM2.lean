/- Mathematics of lists: what the elements of a list are; a list of its elements; sizes. -/
import Derived.Test.YtdgflagafilobaaL5
import Derived.Test.YtdgflagafilobaaS8
namespace Go.Proofs.Ytdgflagafilobaa
open Go.RowKit Go.Proofs.HT

theorem listT_append (a b : List Tm) (T : Tm) : listT (a ++ b) T = listT a (listT b T) := by simp [listT]
/-- The sizes of the elements, each with its pair. -/
def szL : List Tm → Nat
  | [] => 0
  | t :: ts => 1 + cnt t + szL ts
theorem szL_snoc (ts : List Tm) (t : Tm) : szL (ts ++ [t]) = szL ts + (1 + cnt t) := by
  induction ts with
  | nil => simp [szL]
  | cons x ts ih => simp [szL, ih]; omega
theorem cnt_list (T : Tm) : ∀ ts : List Tm, cnt (listT ts T) = szL ts + cnt T
  | [] => by simp [listT, szL]
  | t :: ts => by
    have h := cnt_list T ts
    have e : listT (t :: ts) T = .mk 3 0 ⟨#[46]⟩ [t, listT ts T] := rfl
    rw [e, cnt, cntL, cntL, cntL, h, szL]; omega
theorem nodes_cons {x T : Tm} (hx : nodesB x = true) (hT : nodesB T = true) : nodesB (consT x T) = true := by
  simp [consT, nodesB, nodesL, hx, hT, nodeB]; show (1 : Nat) ≤ 100; omega
theorem nodes_list (T : Tm) (hT : nodesB T = true) : ∀ ts : List Tm, (∀ t ∈ ts, nodesB t = true) → nodesB (listT ts T) = true
  | [], _ => hT
  | t :: ts, h => nodes_cons (h t (by simp)) (nodes_list T hT ts fun u hu => h u (by simp [hu]))
theorem valid_list (T : Tm) (ts : List Tm) (hT : validB T = true) (h : ∀ t ∈ ts, validB t = true) (hs : szL ts + cnt T ≤ 2000) : validB (listT ts T) = true := by
  have h1 := nodes_list T (validB_nodes hT).1 ts fun t ht => (validB_nodes (h t ht)).1
  have h2 := cnt_list T ts
  unfold validB
  rw [h1, h2]; simp [hs]
theorem pair_parts {n : Int} {x y : Tm} (h : nodesB (.mk 3 n dot [x, y]) = true) : n = 0 ∧ nodesB x = true ∧ nodesB y = true := by
  simp [nodesB, nodesL, nodeB] at h
  exact ⟨by omega, h.2.1, h.2.2⟩
/-- The list of the elements is the term again; the tail's nodes and size. -/
theorem elF_back : ∀ (m : Nat) (t : Tm), nodesB t = true → listT (elF m t).1 (elF m t).2 = t ∧ nodesB (elF m t).2 = true ∧ cnt (elF m t).2 ≤ cnt t
  | 0, t, h => by simp [elF, listT, h]
  | m + 1, t, h => by
    rcases Bool.eq_false_or_eq_true (isPairB t) with hp | hp
    · obtain ⟨n, x, y, rfl⟩ := pair_of hp
      obtain ⟨rfl, _, hy⟩ := pair_parts h
      obtain ⟨h1, h2, h3⟩ := elF_back m y hy
      rw [elF_pair]
      refine ⟨?_, h2, ?_⟩
      · show consT x (listT (elF m y).1 (elF m y).2) = _
        rw [h1]; rfl
      · show cnt (elF m y).2 ≤ _
        rw [cnt, cntL, cntL]; omega
    · have e : elF (m + 1) t = ([], t) := by rw [elF, if_neg (by rw [hp]; simp)]
      rw [e]; exact ⟨rfl, h, Nat.le_refl _⟩
theorem elems_back (t : Tm) (h : validB t = true) : listT (elemsT t).1 (elemsT t).2 = t := (elF_back _ t (validB_nodes h).1).1
theorem elems_valid (t : Tm) (h : validB t = true) : validB (elemsT t).2 = true := by
  have h1 := (elF_back (cnt t) t (validB_nodes h).1).2
  have h2 := (validB_nodes h).2
  show validB (elF (cnt t) t).2 = true
  unfold validB
  rw [h1.1]; simp; omega

end Go.Proofs.Ytdgflagafilobaa
