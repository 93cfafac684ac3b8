/- BallsLists: mathematics. -/
import Derived.Test.YteilodihjhdngaaCB6
import Derived.Test.YteilodihjhdngaaCC1
set_option linter.unusedVariables false
set_option linter.unusedSimpArgs false
namespace Go.Proofs.Yteilodihjhdngaa
open Go.RowKit Go.Proofs.HT

theorem list_parts : ∀ (ts : List Tm) (T : Tm), validB (listT ts T) = true → validB T = true ∧ ∀ u ∈ ts, validB u = true
  | [], T, h => ⟨h, by simp⟩
  | t :: ts, T, h => by
    have e : listT (t :: ts) T = .mk 3 0 ⟨#[46]⟩ [t, listT ts T] := rfl
    rw [e] at h
    have h0 := valid_arg h 0 (by simp [Tm.args])
    have h1 := valid_arg h 1 (by simp [Tm.args])
    have ih := list_parts ts T h1
    refine ⟨ih.1, fun u hu => ?_⟩
    rcases List.mem_cons.1 hu with rfl | hu
    · exact h0
    · exact ih.2 u hu
/-- What the list's check gives, by its tail. -/
structure ListF (ts : List Tm) (T t : Tm) : Prop where
  o : lsO t = isNil (elemsT T).2
  b : lsB t = if ((elemsT T).2.kind == 0) = true then instT else if isNil (elemsT T).2 = true then z0 else typeT ⟨#[108, 105, 115, 116]⟩ t
  l : lsL t = if isNil (elemsT T).2 = true then ts ++ (elemsT T).1 else []
theorem lists_f (ts : List Tm) (T : Tm) (hv : validB (listT ts T) = true) : ListF ts T (listT ts T) := by
  have e := elemsT_list ts T
  refine ⟨?_, ?_, ?_⟩
  · unfold lsO; rw [hv, e]; rfl
  · unfold lsB; rw [hv, e]; rfl
  · unfold lsL lsO; rw [hv, e]; rfl
theorem var_not {T : Tm} (h : T.kind = 0) : elemsT T = ([], T) ∧ isNil T = false := by
  refine ⟨elemsT_not T ?_, ?_⟩
  · unfold isPairB; rw [h]; rfl
  · unfold isNil; rw [h]; rfl
theorem nil_is {T : Tm} (hv : validB T = true) (h : isNil T = true) : T = nilT := by
  match T, hv, h with
  | .mk k n s ts, hv, h =>
    unfold isNil at h
    simp only [Tm.kind, Tm.name, Bool.and_eq_true, beq_iff_eq] at h
    obtain ⟨h1, h2⟩ := h
    subst h1
    simp only [validB, Bool.and_eq_true] at hv
    have hn := (nodes_at hv.2).1
    simp [nodeB] at hn
    have e : s = ⟨#[91, 93]⟩ := by apply ByteArray.ext; exact Array.toList_inj.1 h2
    subst e
    obtain ⟨h3, _, h4⟩ := hn
    subst h3
    subst h4
    rfl
theorem nil_not {T : Tm} (hv : validB T = true) (h : sameV T nilT = false) : isNil T = false := by
  cases hn : isNil T
  · rfl
  · rw [nil_is hv hn] at h; exact absurd h (by decide)
theorem nil_same {T : Tm} (h : sameV T nilT = true) : T = nilT := by
  unfold sameV at h
  simp only [Bool.and_eq_true] at h
  exact (sameB_iff _ _).1 h.2
theorem type_err {D : Tm} (h : validB D = true) : typeT ⟨#[108, 105, 115, 116]⟩ D = errT (.mk 3 0 ⟨#[116, 121, 112, 101, 95, 101, 114, 114, 111, 114]⟩ [atmT ⟨#[108, 105, 115, 116]⟩, culT D 1]) := by
  have e2 := with_err h ⟨#[116, 121, 112, 101, 95, 101, 114, 114, 111, 114]⟩ ⟨#[108, 105, 115, 116]⟩ (by decide) (by decide)
  have e3 : typeT ⟨#[108, 105, 115, 116]⟩ D = vz (errT (.mk 3 0 ⟨#[116, 121, 112, 101, 95, 101, 114, 114, 111, 114]⟩ [atmT ⟨#[108, 105, 115, 116]⟩, culT D 1])) := by unfold typeT withT; rw [if_pos h]; rfl
  rw [e3]; unfold vz; rw [if_pos e2]
/-- The instantiation error, made by the law itself. -/
theorem inst_x (w : World) : Calls Try.prog 56 #[pv 2 0 ⟨#[105, 110, 115, 116, 97, 110, 116, 105, 97, 116, 105, 111, 110, 95, 101, 114, 114, 111, 114]⟩ (.slice none 0 0)] w (LieE instT w) := by
  have h := error1_any (atmT ⟨#[105, 110, 115, 116, 97, 110, 116, 105, 97, 116, 105, 111, 110, 95, 101, 114, 114, 111, 114]⟩) (.slice none 0 0) w (atom_lies (by simp [ByteArray.size]))
  rw [← inst_err] at h
  exact h
theorem type_inst {D : Tm} (h : validB D = true) : sameV (typeT ⟨#[108, 105, 115, 116]⟩ D) instT = false := by
  cases hs : sameV (typeT ⟨#[108, 105, 115, 116]⟩ D) instT
  · rfl
  · unfold sameV at hs
    simp only [Bool.and_eq_true] at hs
    have e := (sameB_iff _ _).1 hs.2
    rw [type_err h, inst_err] at e
    unfold errT atmT at e
    injection e with e1 e2 e3 e4
    injection e4 with e5 e6
    injection e5 with e7 e8 e9 e10
    cases e7
end Go.Proofs.Yteilodihjhdngaa
