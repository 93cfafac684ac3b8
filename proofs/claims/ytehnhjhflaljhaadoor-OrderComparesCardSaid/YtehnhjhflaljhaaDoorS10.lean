/- The program's Rename. -/
import Derived.Test.YtehnhjhflaljhaaDoorS9
namespace Go.Proofs.YtehnhjhflaljhaaDoor
open Go.RowKit Go.Proofs.HT

theorem rows3 (w : World) (o1 o2 o3 : Obj) : (((w.alloc o1).alloc o2).alloc o3).heap[w.heap.size]? = some o1 ∧ (((w.alloc o1).alloc o2).alloc o3).heap[w.heap.size + 1]? = some o2 ∧ (((w.alloc o1).alloc o2).alloc o3).heap[w.heap.size + 1 + 1]? = some o3 := by
  refine ⟨?_, ?_, ?_⟩
  · rw [Below.heap_alloc _ _ _ (by simp <;> omega), Below.heap_alloc _ _ _ (by simp), heap_alloc_new]
  · rw [Below.heap_alloc _ _ _ (by simp)]
    have h := heap_alloc_new (w.alloc o1) o2; simpa using h
  · have h := heap_alloc_new ((w.alloc o1).alloc o2) o3; simpa using h

theorem varsF_num (t : Tm) : nodesB t = true → ∀ xs : List Int, (∀ x ∈ xs, numB x = true) → ∀ x ∈ varsF xs t, numB x = true := by
  induction t using Tm.ind with
  | h k n s ts ih =>
    intro h xs hxs
    have hn := nodes_at h
    have key : ∀ (l : List Tm), (∀ t ∈ l, ∀ xs : List Int, (∀ x ∈ xs, numB x = true) → ∀ x ∈ varsF xs t, numB x = true) → ∀ xs : List Int, (∀ x ∈ xs, numB x = true) → ∀ x ∈ varsL xs l, numB x = true := by
      intro l
      induction l with
      | nil => intro _ xs h; exact h
      | cons y l ih2 => intro h xs hxs; rw [varsL]; exact ih2 (fun z hz => h z (by simp [hz])) _ (h y (by simp) xs hxs)
    rw [varsF]
    refine key ts (fun t ht => by obtain ⟨i, hi, rfl⟩ := List.getElem_of_mem ht; exact ih _ ht (hn.2 i hi)) _ ?_
    split
    · rename_i hc
      intro x hx
      rw [List.mem_append, List.mem_singleton] at hx
      rcases hx with hx | rfl
      · exact hxs x hx
      · obtain ⟨rfl, _⟩ := hc
        have := node_var hn.1
        exact numB_iff.2 ⟨this.1, this.2.1⟩
    · exact hxs

/-- A term of the call's own and an error code. -/
def MadeE (t : Tm) (c : Int) (w : World) (e : Ending) (w' : World) : Prop := ∃ v, e = .returned (.tuple #[tv t v, .int .i64 c]) ∧ OwnT (fun b => w.heap.size ≤ b ∧ b < w'.heap.size) w' t v ∧ Below w.heap.size w w'
def z0 : Tm := .mk 0 0 ⟨#[]⟩ []
theorem zero_own {S : Nat → Prop} {w : World} : OwnT S w z0 (.slice none 0 0) := vr_own (n := 0) ⟨by omega, by omega⟩

theorem made_e {w w2 : World} {b c : Nat} {T : Tm} {y : Value} {n : Int} {a0 a1 a2 a3 : Value} (hc : w.heap.size ≤ b) (hcb : b < c) (hb : Below w.heap.size w w2) (hy : OwnT (fun b => c ≤ b ∧ b < w2.heap.size) w2 T y) (h : w2.heap[b]? = some (.cells #[a0, a1, a2, a3] 24 (0, 0)))
    (w3 : World) (e : w3 = ((((w2.setCell ⟨b, 0, none⟩ (.int .i64 T.kind)).setCell ⟨b, 1, none⟩ (.int .i64 T.num)).setCell ⟨b, 2, none⟩ (.string T.name)).setCell ⟨b, 3, none⟩ y)) :
    MadeE T n w (.returned (.tuple #[tv T y, .int .i64 n])) w3 := by
  obtain ⟨F1, F2, F3, F4⟩ := four h (.int .i64 T.kind) (.int .i64 T.num) (.string T.name) y
  rw [← e] at F1 F2 F3 F4
  exact ⟨y, rfl, hy.keep (fun b hb => F2 b (by omega)) (fun b hb _ => ⟨by omega, by omega⟩), F4 _ _ hc hb⟩

end Go.Proofs.YtehnhjhflaljhaaDoor
