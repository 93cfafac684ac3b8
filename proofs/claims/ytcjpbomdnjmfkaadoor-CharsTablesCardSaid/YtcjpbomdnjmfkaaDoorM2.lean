/- The table that lists anew what every character is converted to; rows of a function's own as tables. -/
import Derived.Test.YtcjpbomdnjmfkaaDoorM1
import Derived.Laws.AppendOwn
namespace Go.Proofs.YtcjpbomdnjmfkaaDoor
open Go.RowKit

def listF (f : Int → Int) (k : Nat) : List (Int × Int) := (List.range k).filterMap fun c : Nat => if f c = c then none else some ((c : Int), f c)
theorem listF_zero (f : Int → Int) : listF f 0 = [] := rfl
theorem listF_no {f : Int → Int} {k : Nat} (h : f k = k) : listF f (k + 1) = listF f k := by
  simp [listF, List.range_succ, List.filterMap_append, h]
theorem listF_yes {f : Int → Int} {k : Nat} (h : ¬ f k = k) : listF f (k + 1) = listF f k ++ [((k : Int), f k)] := by
  simp [listF, List.range_succ, List.filterMap_append, h]
theorem listF_len (f : Int → Int) (k : Nat) : (listF f k).length ≤ k := by
  have := List.length_filterMap_le (fun c : Nat => if f c = c then none else some ((c : Int), f c)) (List.range k)
  simpa [listF] using this
theorem mem_listF {f : Int → Int} {k : Nat} {c v : Int} : (c, v) ∈ listF f k ↔ ∃ n : Nat, n < k ∧ c = n ∧ f n = v ∧ ¬ v = c := by
  unfold listF
  rw [List.mem_filterMap]
  constructor
  · rintro ⟨n, hn, h⟩
    split at h
    · cases h
    · rename_i hne
      simp only [Option.some.injEq, Prod.mk.injEq] at h
      obtain ⟨rfl, rfl⟩ := h
      exact ⟨n, by simpa using hn, rfl, rfl, hne⟩
  · rintro ⟨n, hn, rfl, rfl, hne⟩
    exact ⟨n, by simpa using hn, by rw [if_neg hne]⟩
theorem listF_asc (f : Int → Int) (k : Nat) : (listF f k).Pairwise fun p q => p.1 < q.1 := by
  induction k with
  | zero => exact List.Pairwise.nil
  | succ k ih =>
    by_cases h : f k = k
    · rw [listF_no h]; exact ih
    · rw [listF_yes h, List.pairwise_append]
      refine ⟨ih, by simp, fun p hp q hq => ?_⟩
      obtain ⟨p1, p2⟩ := p
      obtain ⟨n, hn, e, _⟩ := mem_listF.1 hp
      simp only [List.mem_singleton] at hq
      subst hq
      simp only
      omega
theorem isC_range {c : Int} (h : isC c = true) : 0 ≤ c ∧ c ≤ 255 := by
  by_cases h0 : 0 ≤ c ∧ c ≤ 255
  · exact h0
  · rw [isC_no (by omega)] at h; cases h
/-- A valid table is listed anew by what it maps. -/
theorem listF_all {qs : List (Int × Int)} (h : VT qs) : listF (look qs) 256 = qs := by
  refine asc_ext (listF_asc _ _) h.asc fun p => ?_
  obtain ⟨c, v⟩ := p
  rw [mem_listF, mem_iff_look h]
  constructor
  · rintro ⟨n, _, rfl, e, hne⟩; exact ⟨e, hne⟩
  · rintro ⟨e, hne⟩
    have hg := h.good _ ((mem_iff_look h).2 ⟨e, hne⟩)
    simp only [goodP, Bool.and_eq_true] at hg
    have hr := isC_range hg.1.1
    exact ⟨c.toNat, by omega, by omega, by rw [show ((c.toNat : Nat) : Int) = c by omega]; exact e, hne⟩

/-- What a function owns stays its own where only new blocks come. -/
theorem row_below {w w' : World} {base : Nat} {v : Value} {n : Nat} {xs : List Value} (h : w.ownsRow base 30 2 v n xs) (hb : Below w.heap.size w w') : w'.ownsRow base 30 2 v n xs := by
  obtain ⟨h1, h2⟩ := h
  refine ⟨h1, ?_⟩
  rcases h2 with h2 | ⟨g, cap, cur, hv, hg, hh, r⟩
  · exact .inl h2
  · exact .inr ⟨g, cap, cur, hv, hg, by rw [hb.block g (lt_of_block hh)]; exact hh, r⟩
theorem pr_of_row {w : World} {base : Nat} {v : Value} {n : Nat} {xs : List Value} {ps : List (Int × Int)} (h : w.ownsRow base 30 2 v n xs) (hx : xs = flat ps) (hn : ps.length = n) : ∃ A cap, v = .slice A n cap ∧ PR w A ps := by
  obtain ⟨_, h2⟩ := h
  subst hx
  rcases h2 with ⟨rfl, rfl⟩ | ⟨g, cap, cur, rfl, hg, hh, hc, _, hs, ht⟩
  · refine ⟨none, 0, rfl, fun i p hp => ?_⟩
    have := (List.getElem?_eq_some_iff.1 hp).1
    omega
  · exact ⟨some ⟨g, 0, none⟩, cap, rfl, Owns.pr ⟨cur.toList, by simpa using hh, by simpa using hs, by omega, by rw [hn]; exact ht⟩⟩
theorem pair_new (w : World) (a b : Int) : ∀ (j : Nat) (u : Value), [Value.int .i64 a, .int .i64 b][j]? = some u → (w.alloc (.cells #[.int .i64 a, .int .i64 b] 30)).cell? ((⟨w.heap.size, 0, none⟩ : Addr).add j) = some u := by
  intro j u h
  rw [HG.add_at, Nat.zero_add, cell_of_row _ _ j #[.int .i64 a, .int .i64 b] 30 (0, 0) (heap_alloc_new w _)]
  simpa using h
theorem pair_one (a b : Int) : ∀ u ∈ [Value.int .i64 a, .int .i64 b], u.oneCell' = true := by
  intro u hu
  simp at hu
  rcases hu with rfl | rfl <;> rfl

end Go.Proofs.YtcjpbomdnjmfkaaDoor
