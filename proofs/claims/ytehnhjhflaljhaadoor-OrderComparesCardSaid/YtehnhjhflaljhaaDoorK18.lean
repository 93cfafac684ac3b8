/- Lists of terms as the arguments of a term: how the examples' lists are kept; SameAll over them. -/
import Derived.Test.YtehnhjhflaljhaaDoorK17
import Derived.Test.YtehnhjhflaljhaaDoorQ0
namespace Go.Proofs.YtehnhjhflaljhaaDoor
open Go.RowKit Go.Proofs.HT

theorem env_mem {w : World} : ∀ {l : List PV}, EnvT w l → ∀ p ∈ l, LiesT w p.1 p.2
  | [], _, _, hp => by simp at hp
  | x :: l, h, p, hp => by
    rcases List.mem_cons.1 hp with rfl | hp
    · exact h.hd
    · exact env_mem h.tl p hp
theorem row_of_lies {w : World} (b : Nat) : ∀ (ts : List Tm) (o : Nat), LiesL w ts b o → ∃ l : List PV, l.map Prod.fst = ts ∧ RowIn w b o l ∧ ∀ p ∈ l, LiesT w p.1 p.2
  | [], o, _ => ⟨[], rfl, fun j u hj => by simp [flat] at hj, by simp⟩
  | t :: ts, o, h => by
    simp only [LiesL] at h
    obtain ⟨⟨v, h0, h1, h2, h3, hv⟩, hr⟩ := h
    obtain ⟨l, hl, hrow, hm⟩ := row_of_lies b ts (o + 4) hr
    refine ⟨(t, v) :: l, by simp [hl], fun j u hj => ?_, fun p hp => ?_⟩
    · match j, hj with
      | 0, hj => simp [flat] at hj; rw [← hj]; exact h0
      | 1, hj => simp [flat] at hj; rw [← hj]; exact h1
      | 2, hj => simp [flat] at hj; rw [← hj]; exact h2
      | 3, hj => simp [flat] at hj; rw [← hj]; exact h3
      | j + 4, hj =>
        have h4 := hrow j u (by simpa [flat] using hj)
        rw [show o + (j + 4) = o + 4 + j by omega]; exact h4
    · rcases List.mem_cons.1 hp with rfl | hp
      · exact hv
      · exact hm p hp
theorem list_of_copy {ts : List Tm} {c : Int} {w : World} {e : Ending} {w' : World} (h : CopyE ts c w e w') (hn : ts.length ≤ 1000000) : ∃ g, e = .returned (.tuple #[.slice (some ⟨g, 0, none⟩) ts.length ts.length, .int .i64 c]) ∧ LiesT w' (.mk 3 0 ⟨#[]⟩ ts) (.slice (some ⟨g, 0, none⟩) ts.length ts.length) ∧ Below w.heap.size w w' := by
  obtain ⟨g, l', rfl, h1, h2, h3, h4, h5, h6⟩ := h
  refine ⟨g, rfl, ?_, h6⟩
  unfold LiesT
  refine ⟨⟨by omega, by omega⟩, ⟨by omega, by omega⟩, by simp [ByteArray.size], .inr ⟨⟨g, 0, none⟩, ts.length, rfl, Nat.le_refl _, by omega, .inr rfl, ?_⟩⟩
  rw [← h1]
  exact LiesL.of_cells l' 0 (fun k u hk => RowAt.rowIn h4 k u hk) (fun p hp => OwnT.lies _ _ (h5 p hp))
def sallT (ts us : List Tm) : Bool := decide (ts.length = us.length) && (List.range ts.length).all fun k => sameV (ts.getD k dflt.1) (us.getD k dflt.1)
theorem sallT_eq (l m : List PV) : sallB l m = sallT (l.map Prod.fst) (m.map Prod.fst) := by
  unfold sallB sallT
  have e : ∀ (l : List PV) k, (l.map Prod.fst).getD k dflt.1 = (l.getD k dflt).1 := fun l k => by
    simp only [List.getD, List.getElem?_map]
    cases l[k]? <;> rfl
  simp only [List.length_map, e]
theorem sall_T (ts us : List Tm) (q : Bool) (hq : sallT ts us = q) (b b2 c c2 : Nat) (w : World) (hn : ts.length ≤ 1000000) (h : LiesT w (.mk 3 0 ⟨#[]⟩ ts) (.slice (some ⟨b, 0, none⟩) ts.length c)) (h2 : LiesT w (.mk 3 0 ⟨#[]⟩ us) (.slice (some ⟨b2, 0, none⟩) us.length c2)) :
    Calls Tryd.prog 22 #[.slice (some ⟨b, 0, none⟩) ts.length c, .slice (some ⟨b2, 0, none⟩) us.length c2] w fun e w' => e = .returned (.bool q) ∧ Below w.heap.size w w' := by
  have key : ∀ (ts : List Tm) (b c : Nat), LiesT w (.mk 3 0 ⟨#[]⟩ ts) (.slice (some ⟨b, 0, none⟩) ts.length c) → LiesL w ts b 0 ∧ ts.length ≤ c := fun ts b c h => by
    simp only [LiesT] at h
    rcases h.2.2.2 with ⟨_, h0⟩ | ⟨a, cap, e, h3, _, _, h4⟩
    · cases h0
    · cases e; exact ⟨h4, h3⟩
  obtain ⟨l, hl, hr, hm⟩ := row_of_lies b ts 0 (key ts b c h).1
  obtain ⟨l2, hl2, hr2, hm2⟩ := row_of_lies b2 us 0 (key us b2 c2 h2).1
  have e1 : l.length = ts.length := by rw [← hl, List.length_map]
  have e2 : l2.length = us.length := by rw [← hl2, List.length_map]
  have hs : sallB l l2 = q := by rw [sallT_eq, hl, hl2]; exact hq
  exact sall_is b 0 ts.length c b2 0 us.length c2 l l2 w q hs e1 e2 hn (key ts b c h).2 (key us b2 c2 h2).2 hr hr2 hm hm2

end Go.Proofs.YtehnhjhflaljhaaDoor
