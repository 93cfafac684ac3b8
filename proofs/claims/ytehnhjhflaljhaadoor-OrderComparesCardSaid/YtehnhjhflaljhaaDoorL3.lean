/- The program's List, for every slice of terms; Atom, Struct, Indicator. -/
import Derived.Test.YtehnhjhflaljhaaDoorL2
namespace Go.Proofs.YtehnhjhflaljhaaDoor
open Go.RowKit Go.Proofs.HT

/-- A slice of terms. -/
abbrev LiesA (w : World) (ts : List Tm) (v : Value) : Prop := LiesT w (.mk 3 0 ⟨#[]⟩ ts) v
theorem collectG {α : Type} {p : Nat → α → Prop} : ∀ n, (∀ i, i < n → ∃ t, p i t) → ∃ ts : List α, ts.length = n ∧ ∀ (i : Nat) (h : i < ts.length), p i ts[i]
  | 0, _ => ⟨[], rfl, fun i h => absurd h (by simp)⟩
  | n + 1, h => by
    obtain ⟨ts, h1, h2⟩ := collectG n fun i hi => h i (by omega)
    obtain ⟨t, ht⟩ := h n (by omega)
    refine ⟨ts ++ [t], by simp [h1], fun i hi => ?_⟩
    by_cases e : i < ts.length
    · rw [List.getElem_append_left e]; exact h2 i e
    · obtain rfl : i = n := by simp at hi; omega
      rw [List.getElem_append_right (by omega)]
      simpa [h1] using ht
theorem els_of {w : World} {ts : List Tm} {v : Value} (h : LiesA w ts v) : ∃ (els : List (El w)) (a : Option Addr) (cap : Nat), v = .slice a els.length cap ∧ els.map (fun x => x.1.1) = ts ∧ (els = [] ∨ ∃ b off, a = some ⟨b, off, none⟩ ∧ LiesE w els b off) := by
  rcases h.len with ⟨rfl, a, cap, rfl⟩ | ⟨b, o, cap, rfl, hpos, hlc, hcap, hl⟩
  · exact ⟨[], a, cap, rfl, rfl, .inl rfl⟩
  · obtain ⟨els, hlen, hp⟩ := collectG (α := El w) (p := fun i x => ∃ hi : i < ts.length, x.1.1 = ts[i] ∧ w.cell? ⟨b, o + i * 4, none⟩ = some (.int .i64 x.1.1.kind) ∧ w.cell? ⟨b, o + i * 4 + 1, none⟩ = some (.int .i64 x.1.1.num) ∧ w.cell? ⟨b, o + i * 4 + 2, none⟩ = some (.string x.1.1.name) ∧ w.cell? ⟨b, o + i * 4 + 3, none⟩ = some (.slice x.1.2.1 x.1.1.args.length x.1.2.2)) ts.length (fun i hi => by
      obtain ⟨u, c0, c1, c2, c3, hu⟩ := hl.at i hi
      obtain ⟨ua, uc, rfl⟩ := hu.slice
      exact ⟨⟨(ts[i], ua, uc), hu⟩, hi, rfl, c0, c1, c2, c3⟩)
    refine ⟨els, _, cap, by rw [hlen], ?_, .inr ⟨b, o, rfl, fun i hi => (hp i hi).2.2⟩⟩
    refine List.ext_getElem (by simp [hlen]) fun i h1 h2 => ?_
    rw [List.getElem_map]
    exact (hp i (by simpa using h1)).2.1

theorem cnt_listT (T : Tm) : ∀ ts : List Tm, ts.length < cnt (listT ts T)
  | [] => by have := cnt_pos T; simp [listT]; omega
  | t :: ts => by
    have h := cnt_listT T ts
    have h2 := cnt_pos t
    simp only [listT, List.foldr_cons, consT, cnt, cntL, List.length_cons] at h ⊢
    omega

theorem atom_lies {w : World} {nm : ByteArray} (h : nm.size ≤ 9223372036854775807) : LiesT w (.mk 2 0 nm []) (.slice none 0 0) := by
  unfold LiesT; exact ⟨⟨by omega, by omega⟩, ⟨by omega, by omega⟩, h, .inl ⟨rfl, rfl⟩⟩
/-- A call that returns a term if it is valid, else the zero term. -/
def MadeV (t : Tm) (w : World) (e : Ending) (w' : World) : Prop := MadeEnd (if validB t = true then t else z0) w e w'
theorem MadeV.yes {t : Tm} {w w' : World} {e : Ending} (hv : validB t = true) (h : MadeEnd t w e w') : MadeV t w e w' := by unfold MadeV; rw [if_pos hv]; exact h
theorem MadeV.no {t : Tm} {w w' : World} {e : Ending} (hv : validB t = false) (h : e = .returned zv ∧ Below w.heap.size w w') : MadeV t w e w' := by
  unfold MadeV; rw [if_neg (by rw [hv]; simp)]
  exact ⟨.slice none 0 0, h.1, zero_own, h.2⟩
theorem Clone_v (t : Tm) (v : Value) (w : World) (h : LiesT w t v) : Calls Tryd.prog 68 #[tv t v] w (MadeV t w) := by
  rcases Bool.eq_false_or_eq_true (validB t) with hv | hv
  · exact (Clone_yes t v w h hv).mono fun e w' => MadeV.yes hv
  · exact (Clone_no t v w h hv).mono fun e w' => MadeV.no hv
theorem made_end1 {w w2 : World} {T : Tm} {y : Value} {a0 a1 a2 a3 : Value} (hb : Below w.heap.size w w2) (hy : OwnT (fun b => w.heap.size + 1 ≤ b ∧ b < w2.heap.size) w2 T y) (h : w2.heap[w.heap.size]? = some (.cells #[a0, a1, a2, a3] 24 (0, 0)))
    (w3 : World) (e : w3 = ((((w2.setCell ⟨w.heap.size, 0, none⟩ (.int .i64 T.kind)).setCell ⟨w.heap.size, 1, none⟩ (.int .i64 T.num)).setCell ⟨w.heap.size, 2, none⟩ (.string T.name)).setCell ⟨w.heap.size, 3, none⟩ y)) :
    MadeEnd T w (.returned (tv T y)) w3 := by
  obtain ⟨F1, F2, F3, F4⟩ := four h (.int .i64 T.kind) (.int .i64 T.num) (.string T.name) y
  rw [← e] at F1 F2 F3 F4
  exact ⟨y, rfl, hy.keep (fun b hb => F2 b (by omega)) (fun b hb _ => ⟨by omega, by omega⟩), F4 _ _ (by omega) hb⟩

theorem struct_lies {w : World} {nm : ByteArray} {ts : List Tm} {v : Value} (hn : nm.size ≤ 9223372036854775807) (h : LiesA w ts v) : LiesT w (.mk 3 0 nm ts) v := by
  unfold LiesA at h
  unfold LiesT at h ⊢
  exact ⟨h.1, h.2.1, hn, h.2.2.2⟩

end Go.Proofs.YtehnhjhflaljhaaDoor
