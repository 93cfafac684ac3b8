/- The program's visitor that collects the variables. -/
import Derived.Test.YtehnhjhflaljhaaDoorV2
namespace Go.Proofs.YtehnhjhflaljhaaDoor
open Go.RowKit Go.Proofs.HT

def nv (xs : List Int) (t : Tm) : List Int := if t.kind = 0 ∧ posF xs t.num 0 < 0 then xs ++ [t.num] else xs
def vn (ns : List Tm) : List Int := ns.foldl nv []
theorem vn_snoc (ns : List Tm) (t : Tm) : vn (ns ++ [t]) = nv (vn ns) t := by simp [vn]
theorem pre_vars (t : Tm) : ∀ xs, (pre t).foldl nv xs = varsF xs t := by
  induction t using Tm.ind with
  | h k n s ts ih =>
    intro xs
    rw [pre, varsF, List.foldl_cons]
    have key : ∀ (l : List Tm), (∀ t ∈ l, ∀ xs, (pre t).foldl nv xs = varsF xs t) → ∀ xs, (preL l).foldl nv xs = varsL xs l := by
      intro l
      induction l with
      | nil => intro _ xs; rfl
      | cons x l ih2 => intro h xs; rw [preL, varsL, List.foldl_append, h x (by simp), ih2 (fun y hy => h y (by simp [hy]))]
    exact key ts ih _
theorem nv_len (xs : List Int) (t : Tm) : (nv xs t).length ≤ xs.length + 1 := by unfold nv; split <;> simp
theorem vn_len (ns : List Tm) : (vn ns).length ≤ ns.length := by
  have key : ∀ (l : List Tm) (xs : List Int), (l.foldl nv xs).length ≤ xs.length + l.length := by
    intro l
    induction l with
    | nil => intro xs; simp
    | cons t l ih => intro xs; have := ih (nv xs t); have := nv_len xs t; simp only [List.foldl_cons, List.length_cons]; omega
  have h := key ns []
  simpa [vn] using h
theorem posF_iff : ∀ (xs : List Int) (n : Int) (i : Nat), posF xs n i < 0 ↔ ∀ x ∈ xs, ¬ x = n
  | [], n, i => by simp [posF]
  | x :: xs, n, i => by
    have h := posF_iff xs n (i + 1)
    unfold posF
    by_cases e : x = n
    · rw [if_pos e]; simp [e]
    · rw [if_neg e, h]; simp [e]

def mark (xs : List Int) : List (Int × Value) := xs.map fun x => (x, .bool true)
theorem findI_mark (xs : List Int) (n : Int) : (findI n (mark xs)).getD (.bool false) = .bool (decide (¬ posF xs n 0 < 0)) := by
  induction xs with
  | nil => simp [mark, findI, posF]
  | cons x xs ih =>
    have hp := posF_iff (x :: xs) n 0
    have hq := posF_iff xs n 0
    simp only [mark, List.map_cons, findI] at ih ⊢
    by_cases e : n = x
    · rw [if_pos e]
      have : ¬ posF (x :: xs) n 0 < 0 := by rw [hp]; simp [e]
      simp [this]
    · rw [if_neg e, ih]
      have : (posF (x :: xs) n 0 < 0) ↔ posF xs n 0 < 0 := by rw [hp, hq]; simp; intro _ h; exact e h.symm
      simp [this]
theorem findI_mark_none (xs : List Int) (n : Int) (h : posF xs n 0 < 0) : findI n (mark xs) = none := by
  refine findI_none fun p hp => ?_
  unfold mark at hp
  obtain ⟨x, hx, rfl⟩ := List.mem_map.1 hp
  exact fun e => (posF_iff xs n 0).1 h x hx e.symm

theorem ownsRow_at {w w' : World} {base : Nat} {e : TypeId} {size : Nat} {v : Value} {n : Nat} {xs : List Value} (h : w.ownsRow base e size v n xs) (hb : ∀ g, v.ownBlock = some g → w'.heap[g]? = w.heap[g]?) : w'.ownsRow base e size v n xs := by
  refine ⟨h.1, ?_⟩
  rcases h.2 with hn | ⟨g, cap, cur, hv, hbg, hg, rest⟩
  · exact .inl hn
  · exact .inr ⟨g, cap, cur, hv, hbg, by rw [hb g (by rw [hv]; rfl), hg], rest⟩
theorem underI : Tryd.prog.underlying 2 = some (.int .i64) := by kernel_rfl
theorem zeroB (w : World) : (zeroValue 4).run Tryd.prog w = .ok (.bool false) w := by kernel_rfl

end Go.Proofs.YtehnhjhflaljhaaDoor
