/- Arguments that are terms, or slices of terms: what they hold. -/
import Derived.Test.YteilodihjhdngaaIL
import Derived.Test.YteilodihjhdngaaRows
import Derived.Test.YteilodihjhdngaaG4
namespace Go.Proofs.Yteilodihjhdngaa
open Go.ChangeShapes Go.WideShapes Go.RowKit Go.Proofs.HT

theorem types : TermTypes Try.prog 24 22 3 2 9 :=
  ⟨⟨_, _, _, _, Try.underlying24, rfl, rfl, rfl, rfl, rfl, rfl, rfl, rfl⟩, Try.underlying22, Try.underlying3, Try.underlying2, Try.underlying9, by kernel_rfl, by kernel_rfl, by kernel_rfl, by kernel_rfl, by kernel_rfl⟩
variable {H : Type} {enc : TypeId × Value → H}
theorem LiesT.one' {w : World} {t : Tm} {v : Value} (h : LiesT w t v) : v.oneCell' = true := by
  obtain ⟨a, c, rfl⟩ := h.slice; rfl
theorem open_term {W : World} {r : Reach} {base : Nat} {v : Value} {d : DataW H} {p : List MemPlace} (hv : Value.okWide Try.prog W r base 24 v) (h : DataW.Trod enc Try.prog W 0 (fun _ => true) true 24 v d p) :
    ∃ (t : Tm) (x : Value), v = tv t x ∧ LiesT W t x := by
  obtain ⟨cs, rfl, hsz⟩ := okWide_struct Try.underlying24 hv
  obtain ⟨fuel, hf⟩ := h
  obtain ⟨t, x, hcs, hl⟩ := open_term_aux types fuel _ _ hf
  refine ⟨t, x, ?_, hl⟩
  have e : cs.toList = [.int .i64 t.kind, .int .i64 t.num, .string t.name, x] := hcs
  have e2 : cs = #[.int .i64 t.kind, .int .i64 t.num, .string t.name, x] := by
    rw [← Array.toList_inj]; exact e
  rw [e2]

theorem open_terms {W : World} {r : Reach} {base : Nat} {v : Value} {d : DataW H} {p : List MemPlace} (hv : Value.okWide Try.prog W r base 22 v) (h : DataW.Trod enc Try.prog W 0 (fun _ => true) true 22 v d p) :
    ∃ ts : List Tm, LiesA W ts v := by
  obtain ⟨a0, n0, c0, rfl⟩ := okWide_slice Try.underlying22 hv
  obtain ⟨fuel, hf⟩ := h
  have T := types
  have g3 : DataW.trod enc Try.prog W 0 (fun _ => true) true fuel 22 [.slice a0 n0 c0] = some (d, p) := hf
  rcases DataW.trod_slice T.hS g3 with ⟨q3, _⟩ | ⟨a, len, cap, elems, rest, n', hn, q3, _, hb, hlc, hcap, hel, hcells, _, _⟩
  · simp only [List.cons.injEq, and_true] at q3
    rw [q3]
    exact ⟨[], by unfold LiesA LiesT; exact ⟨⟨by omega, by omega⟩, ⟨by omega, by omega⟩, by simp [ByteArray.size], .inl ⟨rfl, rfl⟩⟩⟩
  · simp only [List.cons.injEq, and_true] at q3
    rw [q3]
    rw [T.cT] at hcells
    have hex : ∀ i, i < len → ∃ (t : Tm) (v : Value), W.cells? 0 (a.add (i * 4)) 4 = some [.int .i64 t.kind, .int .i64 t.num, .string t.name, v] ∧ LiesT W t v := by
      intro i hi
      have hc := hcells i hi
      rw [List.getElem?_eq_getElem (show i < elems.length by omega)] at hc
      obtain ⟨cs', h1, h2⟩ := Option.bind_eq_some_iff.1 hc
      obtain ⟨t, v, rfl, hv⟩ := open_term_aux T n' cs' _ h2
      exact ⟨t, v, h1, hv⟩
    obtain ⟨ts, hts, hp⟩ := collect (p := fun i t => ∃ v, W.cells? 0 (a.add (i * 4)) 4 = some [.int .i64 t.kind, .int .i64 t.num, .string t.name, v] ∧ LiesT W t v) len (fun i hi => by
      obtain ⟨t, v, h1, h2⟩ := hex i hi
      exact ⟨t, v, h1, h2⟩)
    refine ⟨ts, ?_⟩
    unfold LiesA
    simp only [LiesT]
    refine ⟨⟨by omega, by omega⟩, ⟨by omega, by omega⟩, by simp [ByteArray.size], .inr ⟨a, cap, by rw [hts], by omega, hcap, ?_, LiesL.of_at fun i hi => ?_⟩⟩
    · by_cases hz : ts = []
      · exact .inl hz
      · refine .inr ?_
        have hpos : 0 < ts.length := List.length_pos_iff.2 hz
        obtain ⟨v, h1, _⟩ := hp 0 hpos
        have h2 := (cells4 h1).1
        cases hs : a.spot with
        | none => rfl
        | some y =>
          exfalso
          simp [World.cell?, Addr.add, hs] at h2
          split at h2 <;> simp at h2
    · obtain ⟨v, h1, h2⟩ := hp i hi
      have h3 := cells4 h1
      have hspot : a.spot = none := by
        cases hs : a.spot with
        | none => rfl
        | some y =>
          exfalso
          have hpos : 0 < ts.length := by omega
          obtain ⟨v, h1, _⟩ := hp 0 hpos
          have h2 := (cells4 h1).1
          simp [World.cell?, Addr.add, hs] at h2
          split at h2 <;> simp at h2
      have ea : ∀ n, a.add n = ⟨a.block, a.off + n, none⟩ := fun n => by
        unfold Addr.add
        split
        · rename_i h0
          subst h0
          cases a
          simp at hspot
          simp [hspot]
        · rfl
      rw [ea] at h3
      simp only [Addr.add] at h3
      exact ⟨v, h3.1, h3.2.1, h3.2.2.1, h3.2.2.2, h2⟩

end Go.Proofs.Yteilodihjhdngaa
