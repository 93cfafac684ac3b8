/- Two slices of terms appended to none. -/
import Derived.Test.YteilodihjhdngaaB7
import Derived.Test.YteilodihjhdngaaBL
import Derived.Deep.AppendLies
set_option linter.unusedVariables false
set_option linter.unusedSimpArgs false
namespace Go.Proofs.Yteilodihjhdngaa
open Go.RowKit Go.Proofs.HT

theorem pv_of {w : World} : ∀ {L : List Tm} {b o : Nat}, LiesL w L b o → ∃ m : List PV, m.map Prod.fst = L ∧ (∀ p ∈ m, LiesT w p.1 p.2) ∧ ∀ (j : Nat) (u : Value), (flat m)[j]? = some u → w.cell? ⟨b, o + j, none⟩ = some u
  | [], _, _, _ => ⟨[], rfl, by simp, fun j u h => by simp [flat] at h⟩
  | t :: ts, b, o, h => by
    simp only [LiesL] at h
    obtain ⟨⟨v, c0, c1, c2, c3, hv⟩, hl⟩ := h
    obtain ⟨m, h1, h2, h3⟩ := pv_of hl
    refine ⟨(t, v) :: m, by simp [h1], fun p hp => ?_, fun j u hj => ?_⟩
    · rcases List.mem_cons.1 hp with rfl | hp
      · exact hv
      · exact h2 p hp
    · match j, hj with
      | 0, hj => simp [flat] at hj; subst hj; exact c0
      | 1, hj => simp [flat] at hj; subst hj; exact c1
      | 2, hj => simp [flat] at hj; subst hj; exact c2
      | 3, hj => simp [flat] at hj; subst hj; exact c3
      | j + 4, hj =>
        have h4 := h3 j u (by simpa [flat] using hj)
        rw [show o + (j + 4) = o + 4 + j by omega]
        exact h4
theorem one_of {w : World} : ∀ (l : List PV), (∀ p ∈ l, LiesT w p.1 p.2) → ∀ u ∈ flat l, u.oneCell' = true
  | [], _, u, hu => by simp [flat] at hu
  | p :: l, h, u, hu => by
    obtain ⟨a, c, e⟩ := (h p (by simp)).slice
    simp only [flat, List.mem_cons] at hu
    rcases hu with rfl | rfl | rfl | rfl | hu
    · rfl
    · rfl
    · rfl
    · rw [e]; rfl
    · exact one_of l (fun q hq => h q (by simp [hq])) u hu
theorem app_below {w w' : World} {base : Nat} {v : Value} {n : Nat} {xs : List Value} (h : w.ownsRow base 24 4 v n xs) (hg : w.grownBy w' v.ownBlock) (hb : base ≤ w.heap.size) : Below base w w' :=
  (Below.refl base w).grown hg hb (fun k hk => by
    rcases h.2 with h2 | ⟨g, cap, cur, e, h3, _⟩
    · rw [h2.1] at hk; simp [Value.ownBlock] at hk
    · rw [e] at hk; simp [Value.ownBlock] at hk; omega)
theorem app_none (w : World) (base : Nat) : w.ownsRow base 24 4 (.slice none 0 0) 0 (flat []) := ⟨rfl, .inl ⟨rfl, rfl⟩⟩
/-- A slice of terms that is not empty, appended to a row of the call's own. -/
theorem wp_appA {ops : Array Oper} {rest : List Oper} {o : Oper} {a : Act} {Q : Exit → Act → World → Prop} (hgd : o.guard = none) (s x : Operand) (ho : o.op = .call { callee := .builtin .append, args := #[s, x], argTypes := #[22, 22] }) (w : World)
    (base n : Nat) (v : Value) (l m : List PV) (hs : a.eval s = v) (hown : Hid (w.ownsRow base 24 4 v n (flat l))) (ad : Addr) (k c : Nat) (hx : a.eval x = .slice (some ad) k c) (hk : m.length = k) (hk0 : 0 < k)
    (hm : Hid (∀ j u, (flat m)[j]? = some u → w.cell? (ad.add j) = some u)) (h1 : Hid (∀ u ∈ flat m, u.oneCell' = true)) (hsz : n + k ≤ 1000000) (hbase : base ≤ w.heap.size)
    (h : ∀ g cap w', Hid (w'.ownsRow base 24 4 (.slice (some ⟨g, 0, none⟩) (n + k) cap) (n + k) (flat (l ++ m))) → Hid (Below base w w') → wpList Try.prog ops Q rest (a.put o.dst (.slice (some ⟨g, 0, none⟩) (n + k) cap)) w') : wpList Try.prog ops Q (o :: rest) a w := by
  obtain ⟨i0, hi0, hz0, hz1, hz2⟩ := info_parts info24
  refine wpList_append_lies w hgd s x 22 ho base 24 i0 _ 4 56 under22 hi0 hz0 hz1 hz2 rfl (by omega) v n (flat l) hs hown.out ad k c (flat m) hx (by rw [flat_length, hk]) hm.out h1.out hk0 (by simp only [maxLen]; omega) (by omega) hbase w.heap.size rfl ?_
  intro g cap w' h2 h3 h4 h5
  refine h g cap w' (Lib.hid ?_) (Lib.hid (app_below hown.out h3 hbase))
  rw [flat_append]; exact h2
/-- The same, appended to none. -/
theorem wp_appN {ops : Array Oper} {rest : List Oper} {o : Oper} {a : Act} {Q : Exit → Act → World → Prop} (hgd : o.guard = none) (s x : Operand) (ho : o.op = .call { callee := .builtin .append, args := #[s, x], argTypes := #[22, 22] }) (w : World)
    (base : Nat) (m : List PV) (hs : a.eval s = .slice none 0 0) (ad : Addr) (k c : Nat) (hx : a.eval x = .slice (some ad) k c) (hk : m.length = k) (hk0 : 0 < k)
    (hm : Hid (∀ j u, (flat m)[j]? = some u → w.cell? (ad.add j) = some u)) (h1 : Hid (∀ u ∈ flat m, u.oneCell' = true)) (hsz : k ≤ 1000000) (hbase : base ≤ w.heap.size)
    (h : ∀ g cap w', Hid (w'.ownsRow base 24 4 (.slice (some ⟨g, 0, none⟩) k cap) k (flat m)) → Hid (Below base w w') → wpList Try.prog ops Q rest (a.put o.dst (.slice (some ⟨g, 0, none⟩) k cap)) w') : wpList Try.prog ops Q (o :: rest) a w := by
  refine wp_appA hgd s x ho w base 0 _ [] m hs (Lib.hid (app_none w base)) ad k c hx hk hk0 hm h1 (by omega) hbase ?_
  intro g cap w' h2 h3
  have e : 0 + k = k := Nat.zero_add k
  rw [e, List.nil_append] at h2
  rw [e]
  exact h g cap w' h2 h3
end Go.Proofs.Yteilodihjhdngaa
