/- The contract of chars.Valid. -/
import Derived.Test.YtcjpbomdnjmfkaaDoorA2
import Derived.Deep.QuietTactic
import Derived.BigQuiet
namespace Go.Proofs.YtcjpbomdnjmfkaaDoor
open Go.RowKit

/-- The slice with first cell A reads as these pairs. -/
def PR (w : World) (A : Option Addr) (ps : List (Int × Int)) : Prop :=
  ∀ i p, ps[i]? = some p → ∃ b o, A = some ⟨b, o, none⟩ ∧ w.cell? ⟨b, o + i * 2, none⟩ = some (.int .i64 p.1) ∧ w.cell? ⟨b, o + i * 2 + 1, none⟩ = some (.int .i64 p.2)

theorem PR.below {w w' : World} {A : Option Addr} {ps : List (Int × Int)} (h : PR w A ps) (hb : Below w.heap.size w w') : PR w' A ps := fun i p hp => by
  obtain ⟨b, o, e, h1, h2⟩ := h i p hp
  exact ⟨b, o, e, cell_later hb h1, cell_later hb h2⟩

def goodP (p : Int × Int) : Bool := isC p.1 && isC p.2 && !(p.1 == p.2)
/-- The first k pairs are good and in order. -/
structure GT (ps : List (Int × Int)) (k : Nat) : Prop where
  good : ∀ i p, i < k → ps[i]? = some p → goodP p = true
  ord : ∀ i p q, i + 1 < k → ps[i]? = some p → ps[i + 1]? = some q → p.1 < q.1
noncomputable def vld (ps : List (Int × Int)) : Bool := @decide (GT ps ps.length) (Classical.propDecidable _)
theorem vld_true {ps : List (Int × Int)} (h : GT ps ps.length) : vld ps = true := by simp [vld, h]
theorem GT.of_vld {ps : List (Int × Int)} (h : vld ps = true) : GT ps ps.length := by simpa [vld] using h
theorem vld_bad {ps : List (Int × Int)} {k : Nat} {p : Int × Int} (h : ps[k]? = some p) (hg : goodP p = false) : vld ps = false := by
  simp only [vld, decide_eq_false_iff_not]
  intro hG
  have hk : k < ps.length := (List.getElem?_eq_some_iff.1 h).1
  have := hG.good k p hk h
  rw [hg] at this; cases this
theorem vld_ord {ps : List (Int × Int)} {k : Nat} {p q : Int × Int} (hk : 0 < k) (hq : ps[k - 1]? = some q) (hp : ps[k]? = some p) (ho : p.1 ≤ q.1) : vld ps = false := by
  simp only [vld, decide_eq_false_iff_not]
  intro hG
  obtain ⟨j, rfl⟩ : ∃ j, k = j + 1 := ⟨k - 1, by omega⟩
  have hl : j + 1 < ps.length := (List.getElem?_eq_some_iff.1 hp).1
  have := hG.ord j q p hl hq hp
  omega
theorem GT.next {ps : List (Int × Int)} {k : Nat} {p : Int × Int} (h : GT ps k) (hp : ps[k]? = some p) (hg : goodP p = true) (ho : ∀ q, 0 < k → ps[k - 1]? = some q → q.1 < p.1) : GT ps (k + 1) := by
  refine ⟨fun i x hi hx => ?_, fun i x y hi hx hy => ?_⟩
  · by_cases e : i = k
    · subst e; rw [hp] at hx; cases hx; exact hg
    · exact h.good i x (by omega) hx
  · by_cases e : i + 1 = k
    · subst e; rw [hp] at hy; cases hy; exact ho x (by omega) (by simpa using hx)
    · exact h.ord i x y (by omega) hx hy
theorem GT.zero (ps : List (Int × Int)) : GT ps 0 := ⟨fun _ _ h => by omega, fun _ _ _ h => by omega⟩
theorem goodP_of {p : Int × Int} (h1 : isC p.1 = true) (h2 : isC p.2 = true) (h3 : (p.1 == p.2) = false) : goodP p = true := by simp only [goodP, h1, h2, h3]; rfl
theorem badP1 {p : Int × Int} (h1 : isC p.1 = false) : goodP p = false := by simp only [goodP, h1]; rfl
theorem badP2 {p : Int × Int} (h1 : isC p.2 = false) : goodP p = false := by simp only [goodP, h1]; simp
theorem badP3 {p : Int × Int} (h1 : (p.1 == p.2) = true) : goodP p = false := by simp only [goodP, h1]; simp

set_option maxHeartbeats 400000 in
theorem valid_any (A : Option Addr) (n cap : Nat) (ps : List (Int × Int)) (w : World) (hn : ps.length = n) (hm : n ≤ 9223372036854775807) (hP : PR w A ps) :
    Calls Tryd.prog 22 #[.slice A n cap] w fun e w' => e = .returned (.bool (vld ps)) ∧ Below w.heap.size w w' := by
  have HP := Lib.hid hP
  have Hn := Lib.hid hn
  clear hP hn
  go_enter Tryd.func22, Tryd.ntmps22
  go_wp2
  go_loopw [7] (fun i wr => ∃ k : Nat, k ≤ n ∧ i = .int .i64 k ∧ Hid (GT ps k) ∧ Below w.heap.size w wr) (fun i _ => n - (intOf i).toNat)
  case atStart => exact ⟨0, by omega, rfl, GT.zero _, Below.refl _ _⟩
  case round =>
    obtain ⟨k, hk, rfl, hC, hb⟩ := hrel
    have hP1 := Lib.hid (HP.out.below (hb.mono (Nat.le_refl _)))
    by_cases hlt : k < n
    · obtain ⟨p, hp⟩ : ∃ p, ps[k]? = some p := ⟨_, List.getElem?_eq_getElem (by have := Hn.out; omega)⟩
      obtain ⟨b, o, rfl, hc1, hc2⟩ := hP1.out k p hp
      have Hp := Lib.hid hp
      clear hp
      go_wp2_with fail
      refine (isChar_any _ _).mono ?_
      rintro e w1 ⟨rfl, rfl⟩
      rcases Bool.eq_false_or_eq_true (isC p.1) with g1 | g1
      · go_wp2_with fail
        refine (isChar_any _ _).mono ?_
        rintro e w1 ⟨rfl, rfl⟩
        rcases Bool.eq_false_or_eq_true (isC p.2) with g2 | g2
        · rcases Bool.eq_false_or_eq_true (p.1 == p.2) with g3 | g3
          · go_wp2_with fail
            go_ret
            exact ⟨ret_bool (vld_bad Hp.out (badP3 g3)).symm, hb.alloc hb.size _⟩
          · by_cases h0 : 0 < k
            · obtain ⟨q, hq⟩ : ∃ q, ps[k - 1]? = some q := ⟨_, List.getElem?_eq_getElem (by have := Hn.out; omega)⟩
              obtain ⟨b', o', e', hd1, hd2⟩ := hP1.out (k - 1) q hq
              cases e'
              have hd3 : ∀ O, (wr.alloc O).cell? ⟨b, o + (k - 1) * 2, none⟩ = some (.int .i64 q.1) := fun O => cell_later ((Below.refl _ _).alloc (Nat.le_refl _) O) hd1
              have ho : GT ps k → (q.1 < p.1) → GT ps (k + 1) := fun hG hq2 => hG.next Hp.out (goodP_of g1 g2 g3) (fun q' _ hq' => by rw [hq] at hq'; cases hq'; exact hq2)
              have HO := Lib.hid ho
              have hx := fun h => vld_ord h0 hq Hp.out h
              have HX := Lib.hid hx
              clear hx ho hd1 hd2 hq
              have e1 : ((k : Int) - 1).toNat = k - 1 := by omega
              have e2 : (0 : Int) ≤ (k : Int) - 1 := by omega
              by_cases hlt2 : q.1 < p.1
              · go_wp2_with fail
                go_quiet (fail)
                go_wp2
                go_roundw
                case rel => exact ⟨k + 1, by omega, by go_num, HO.out hC.out hlt2, below_drewN (hb.alloc hb.size _) _⟩
                case measure => simp [intOf]; omega
              · go_wp2_with fail
                go_quiet (fail)
                go_wp2
                go_ret
                exact ⟨ret_bool (HX.out (by omega)).symm, below_drewN (hb.alloc hb.size _) _⟩
            · obtain rfl : k = 0 := by omega
              go_wp2_with fail
              go_quiet (fail)
              go_wp2
              go_roundw
              case rel => exact ⟨1, by omega, rfl, hC.out.next Hp.out (goodP_of g1 g2 g3) (fun _ h _ => absurd h (by omega)), below_drewN (hb.alloc hb.size _) _⟩
              case measure => simp [intOf]; omega
        · go_wp2_with fail
          go_ret
          exact ⟨ret_bool (vld_bad Hp.out (badP2 g2)).symm, hb.alloc hb.size _⟩
      · go_wp2_with fail
        go_ret
        exact ⟨ret_bool (vld_bad Hp.out (badP1 g1)).symm, hb.alloc hb.size _⟩
    · obtain rfl : k = n := by omega
      go_wp2
      go_ret
      exact ⟨ret_bool (vld_true (by rw [Hn.out]; exact hC.out)).symm, hb⟩

end Go.Proofs.YtcjpbomdnjmfkaaDoor
