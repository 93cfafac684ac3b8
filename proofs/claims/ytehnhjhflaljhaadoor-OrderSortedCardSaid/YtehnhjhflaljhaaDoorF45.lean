/- For every list of terms and every list of bytes the law OrderSorted returns true: of the first 40 elements, if they are valid, Stable has the same elements as often and does not decrease, Sort increases and has each of them once, both whatever their order, and each element has its index as its rank. Condition: the listed package-level variable holds what the text of the program lays (the card ties this to the text). -/
import Derived.Test.YtehnhjhflaljhaaDoorD45
import Derived.Test.YtehnhjhflaljhaaDoorL9
import Derived.Test.YtehnhjhflaljhaaDoorG7
import Derived.Test.YtehnhjhflaljhaaDoorCards
import Derived.Test.YtehnhjhflaljhaaDoorTie
import Derived.Test.YtehnhjhflaljhaaDoorO1
namespace Go.Proofs.YtehnhjhflaljhaaDoor.orderSorted
open Go.ChangeShapes Go.WideShapes Go.ChangeAt Go.RowKit Go.ChangeMaps Go.Proofs.HT

set_option maxRecDepth 100000 in
theorem lifted (os : Os) (started : os.Started) (H : Type) (enc : TypeId × Value → H) :
    ReturnsInHanded {} Tryd.checked os 8 .any (fun w args => (Rows.orderSortedSpec.pre enc Tryd.prog Tryd.f8 [] false w args ∧ laidMetH Tryd.prog laidL w) ∧ sizedMet enc Tryd.prog Tryd.f8 (OpenSpec.ofChange Rows.orderSortedSpec) false w args)
      (Rows.orderSortedSpec.post enc Tryd.prog Tryd.f8 false true false false) := by
  refine HGD.law_lifted (C := Tryd.checked) laidL own started (by kernel_rfl) Tryd.func8
    (ChangeSpec.witness_shaped (enc := enc) (C := Tryd.checked) (os := os) (X := fun w _ => laidMetH Tryd.prog laidL w) false (World.doorLaid Tryd.prog 109 os) #[.slice none 0 0, .slice none 0 0] 8 rfl (World.shaped_of_RefB (by kernel_rfl) (by kernel_rfl)) (by kernel_rfl) (by kernel_rfl) (by kernel_rfl) (door_met os _))
    (by kernel_rfl) (by kernel_rfl) rfl rfl Tryd.underlying4 ?_
  intro W base args ds p hval0 hA0 hL0
  have hL := of_laid hL0
  have hval : ∀ (j : Nat) t v, Tryd.f8.params[j]? = some t → args[j]? = some v → Value.okWide Tryd.prog W .any base t v := hval0
  have hA : DataW.TrodAll enc Tryd.prog W 0 (fun _ => true) true Tryd.f8.params.toList args.toList ds p := hA0
  rw [Tryd.params8] at hA hval
  clear hA0 hval0 hL0
  obtain ⟨v0, vs0, d0, ds0, p0, q0, hargs0, rfl, rfl, g0, r0⟩ := trodAll_cons hA
  obtain ⟨v1, vs1, d1, ds1, p1, q1, hargs1, rfl, rfl, g1, r1⟩ := trodAll_cons r0
  obtain ⟨rfl, rfl, rfl⟩ := trodAll_nil r1
  obtain rfl : args = #[v0, v1] := by cases args; simp_all
  obtain ⟨ts0, h0⟩ := open_terms (hval 0 22 v0 rfl rfl) g0
  have h1 := open_u8s (hval 1 43 v1 rfl rfl) g1
  exact ⟨rfl, sorted_walk ts0 v0 v1 W h0 h1 hL⟩

theorem over : Rows.orderSortedRow.holds Tryd.pinned (OpenSpec.ofChange Rows.orderSortedSpec) :=
  OpenClaim.holds_of_wide 8 Tryd.f8 rfl rfl rfl rfl rfl rfl rfl ⟨rfl, rfl, rfl, rfl, rfl⟩ rfl rfl rfl rfl rfl (by kernel_rfl) Tryd.func8 (by kernel_rfl)
    (of_decide_eq_true (by kernel_rfl)) (by unfold Func.isWrapper; first | (rw [if_pos (by decide +kernel)]; kernel_rfl) | (rw [if_neg (by decide +kernel)]; exact ⟨rfl, rfl⟩))
    (fun os started H enc _ => lifted os started H enc)

/-- The tied card. -/
theorem proved : Rows.OrderSortedCardSaid :=
  Claim7.holds_tied_plain_at .later [] [.data] true (true, "1dacf915ef98e9279c254028d76816a3070411b57c2c25501f61bcd6c85f2fed") false
    over (fun _ h => by cases h) (by kernel_rfl) (fun _ h => by cases h) orderSorted_row_tie rfl ⟨rfl, rfl⟩ (by kernel_rfl) rfl
    (fun f fn hf hfn => by
      obtain rfl : f = 8 := Option.some.inj ((show Tryd.prog.funcNamed "hornbeam/hornbeamlaw04.OrderSorted" = some 8 by kernel_rfl).symm.trans hf) |>.symm
      obtain rfl : fn = Tryd.f8 := (Option.some.inj (Tryd.func8.symm.trans hfn)).symm
      exact ⟨by kernel_rfl, fun j t ht => by
        rw [Tryd.params8] at ht
        have h3 : t = 22 ∨ t = 43 := by
          rcases j with _ | j
          · simp at ht; subst ht; simp
          rcases j with _ | j
          · simp at ht; subst ht; simp
          · simp at ht
        rcases h3 with rfl | rfl
        · exact (show Tryd.prog.wantsStandIn 22 = false by kernel_rfl)
        · exact (show Tryd.prog.wantsStandIn 43 = false by kernel_rfl)⟩)
    (by kernel_rfl)
#print axioms proved
end Go.Proofs.YtehnhjhflaljhaaDoor.orderSorted
