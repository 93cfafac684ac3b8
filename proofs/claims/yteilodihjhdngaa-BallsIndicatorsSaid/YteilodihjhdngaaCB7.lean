/- For every two terms, valid or not, the law BallsIndicators returns true: Indicator of a structure that is named / and has the two for arguments returns what chapter 6 specifies. No condition. -/
import Derived.Test.YteilodihjhdngaaCB6
import Derived.Test.YteilodihjhdngaaO1
import Derived.Test.YteilodihjhdngaaG4
namespace Go.Proofs.Yteilodihjhdngaa.ballsIndicators
open Go.ChangeShapes Go.WideShapes Go.ChangeAt Go.RowKit Go.Proofs.HT

set_option maxRecDepth 100000 in
theorem lifted (os : Os) (started : os.Started) (H : Type) (enc : TypeId × Value → H) :
    ReturnsInHanded {} Try.checked os 10 .any (Rows.ballsIndicatorsSpec.pre6 enc Try.prog Try.f10 Rows.ballsIndicatorsRow.domain false) (Rows.ballsIndicatorsSpec.post enc Try.prog Try.f10 false true false false) := by
  refine HG.law_plain (C := Try.checked) (by kernel_rfl) started (by kernel_rfl) Try.func10
    (ChangeSpec.witness6 (enc := enc) (C := Try.checked) false ⟨#[], #[.agg #[.int .i64 0, .int .i64 0, .string ⟨#[]⟩, .slice none 0 0], .agg #[.int .i64 0, .int .i64 0, .string ⟨#[]⟩, .slice none 0 0]], []⟩ 8 (by kernel_rfl) (by kernel_rfl) (by kernel_rfl) (by kernel_rfl))
    (by kernel_rfl) (by kernel_rfl) rfl rfl Try.underlying4 ?_
  intro W base args ds p hval0 hA0
  have hval : ∀ (j : Nat) t v, Try.f10.params[j]? = some t → args[j]? = some v → Value.okWide Try.prog W .any base t v := hval0
  have hA : DataW.TrodAll enc Try.prog W 0 (fun _ => true) true Try.f10.params.toList args.toList ds p := hA0
  rw [Try.params10] at hA hval
  clear hA0 hval0
  obtain ⟨v0, vs0, d0, ds0, p0, q0, hargs0, rfl, rfl, g0, r0⟩ := trodAll_cons hA
  obtain ⟨v1, vs1, d1, ds1, p1, q1, hargs1, rfl, rfl, g1, r1⟩ := trodAll_cons r0
  obtain ⟨rfl, rfl, rfl⟩ := trodAll_nil r1
  subst hargs1
  obtain rfl : args = #[v0, v1] := by cases args; simp_all
  obtain ⟨t0, x0, rfl, h0⟩ := open_term (hval 0 24 v0 rfl rfl) g0
  obtain ⟨t1, x1, rfl, h1⟩ := open_term (hval 1 24 v1 rfl rfl) g1
  exact ⟨rfl, indicators_walk t0 t1 x0 x1 W h0 h1⟩

/-- The statement. -/
theorem proved : Rows.BallsIndicatorsSaid :=
  OpenClaim.holds_of_wide 10 Try.f10 rfl rfl rfl rfl rfl rfl rfl ⟨rfl, rfl, rfl, rfl, rfl⟩ rfl rfl rfl rfl rfl (by kernel_rfl) Try.func10 (by kernel_rfl)
    (of_decide_eq_true (by kernel_rfl)) (by unfold Func.isWrapper; first | (rw [if_pos (by decide +kernel)]; kernel_rfl) | (rw [if_neg (by decide +kernel)]; exact ⟨rfl, rfl⟩))
    (fun os started H enc _ => lifted os started H enc)
#print axioms proved
end Go.Proofs.Yteilodihjhdngaa.ballsIndicators
