/- Facts for the law BallsChecks: a check of a valid term passes with the zero term, or does not with an error term. -/
import Derived.Test.YteilodihjhdngaaBXY
set_option linter.unusedVariables false
set_option linter.unusedSimpArgs false
namespace Go.Proofs.Yteilodihjhdngaa
open Go.RowKit Go.Proofs.HT

theorem isE_vz {F : Tm} (h : validB (errT F) = true) : isE (vz (errT F)) = true := by
  unfold vz; rw [if_pos h]; unfold isE; rw [h]; rfl
theorem isE_zero : isE z0 = false := by rfl
theorem isE_inst : isE instT = true := by rfl
theorem with_err {c : Tm} (h : validB c = true) (nm kd : ByteArray) (hn : nm.size ≤ 100) (hk : kd.size ≤ 100) : validB (errT (.mk 3 0 nm [atmT kd, culT c 1])) = true := by
  have hc : cnt (culT c 1) ≤ 1996 ∧ nodesB (culT c 1) = true := by
    have h2 := validB_nodes h
    unfold culT
    split
    · exact ⟨by decide, by rfl⟩
    · exact ⟨by omega, h2.1⟩
  unfold errT validB
  rw [Bool.and_eq_true]
  constructor
  · have h1 := hc.1
    apply decide_eq_true
    simp only [cnt, cntL, atmT, nilT]
    omega
  · have e1 : nodeB 3 0 nm 2 = true := by unfold nodeB; simp [hn]
    have e2 : nodeB 2 0 kd 0 = true := by unfold nodeB; simp [hk]
    have e3 : nodesB nilT = true := by rfl
    have e5 : nodeB 2 0 ⟨#[91, 93]⟩ 0 = true := by rfl
    have e4 : nodeB 3 0 ⟨#[101, 114, 114, 111, 114]⟩ 2 = true := by rfl
    simp only [nodesB, nodesL, List.length_cons, List.length_nil, hc.2, e3, atmT, Bool.and_true]
    simp [e1, e2, e4, e5]
theorem isE_with {c : Tm} (h : validB c = true) (nm kd : ByteArray) (hn : nm.size ≤ 100) (hk : kd.size ≤ 100) : isE (withT c nm [kd]) = true := by
  unfold withT; rw [if_pos h]
  exact isE_vz (with_err h nm kd hn hk)
theorem isE_type {c : Tm} (h : validB c = true) (kd : ByteArray) (hk : kd.size ≤ 100) : isE (typeT kd c) = true := isE_with h _ kd (by decide) hk

/-- What a check's error and its yes say of a term. -/
structure CheckF (t B : Tm) (q : Bool) : Prop where
  is : isE B = (validB t && !q)
  z : isE B = false → B = z0
  v : validB t = false → q = false
  i : validB t = true → (t.kind == 0) = true → B = instT
  n : (t.kind == 0) = true → q = false
  ok : validB B = true
theorem chk_f (t : Tm) (kd : ByteArray) (q : Bool) (hk : kd.size ≤ 100) : CheckF t (chkB t kd q) (chkO t q) := by
  cases hv : validB t
  · have e1 : chkB t kd q = z0 := by unfold chkB; rw [if_neg (by rw [hv]; simp)]
    have e2 : chkO t q = false := by unfold chkO; rw [hv]; rfl
    rw [e1, e2]
    exact ⟨by rw [isE_zero, hv]; rfl, fun _ => rfl, fun _ => rfl, (fun h => absurd h (by rw [hv]; simp)), fun _ => rfl, z0_valid⟩
  · cases h0 : (t.kind == 0)
    · have e2 : chkO t q = q := by unfold chkO; rw [hv]; simp [bne, h0]
      cases q
      · have e1 : chkB t kd false = typeT kd t := by unfold chkB; rw [if_pos hv, if_neg (by rw [h0]; simp), if_neg (by simp)]
        rw [e1, e2]
        exact ⟨by rw [isE_type hv kd hk, hv]; rfl, (fun h => by rw [isE_type hv kd hk] at h; simp at h), fun _ => rfl, (fun _ h => absurd h (by rw [h0]; simp)), fun _ => rfl, withT_valid _ _ _⟩
      · have e1 : chkB t kd true = z0 := by unfold chkB; rw [if_pos hv, if_neg (by rw [h0]; simp), if_pos rfl]
        rw [e1, e2]
        exact ⟨by rw [isE_zero, hv]; rfl, fun _ => rfl, (fun h => absurd h (by rw [hv]; simp)), (fun _ h => absurd h (by rw [h0]; simp)), (fun h => absurd h (by rw [h0]; simp)), z0_valid⟩
    · have e1 : chkB t kd q = instT := by unfold chkB; rw [if_pos hv, if_pos h0]
      have e2 : chkO t q = false := by unfold chkO; rw [hv]; simp [bne, h0]
      rw [e1, e2]
      exact ⟨by rw [isE_inst, hv]; rfl, (fun h => by rw [isE_inst] at h; simp at h), fun _ => rfl, fun _ _ => rfl, fun _ => rfl, inst_valid⟩
theorem chkO_v {t : Tm} {q : Bool} (h : chkO t q = true) : validB t = true ∧ (t.kind == 0) = false ∧ q = true := by
  unfold chkO at h
  simp only [Bool.and_eq_true, bne, Bool.not_eq_true'] at h
  exact ⟨h.1, h.2.1, h.2.2⟩
/-- Where a check passes but a further one need not. -/
theorem chk_more (t : Tm) (kd : ByteArray) (q : Bool) (hk : kd.size ≤ 100) (B : Tm) (r : Bool) (hB : B = if chkO t q = true then (if r = true then z0 else B) else chkB t kd q) (he : chkO t q = true → r = false → isE B = true ∧ validB B = true) : CheckF t B (chkO t q && r) := by
  cases hq : chkO t q
  · rw [hq, if_neg (by simp)] at hB
    have h := chk_f t kd q hk
    rw [← hB, hq] at h
    exact h
  · obtain ⟨hv, h0, -⟩ := chkO_v hq
    rw [hq, if_pos rfl] at hB
    cases r
    · obtain ⟨h1, h2⟩ := he hq rfl
      exact ⟨by rw [h1, hv]; rfl, (fun h => by rw [h1] at h; simp at h), fun _ => rfl, (fun _ h => absurd h (by rw [h0]; simp)), fun _ => rfl, h2⟩
    · rw [if_pos rfl] at hB
      subst hB
      exact ⟨by rw [isE_zero, hv]; rfl, fun _ => rfl, (fun h => absurd h (by rw [hv]; simp)), (fun _ h => absurd h (by rw [h0]; simp)), (fun h => absurd h (by rw [h0]; simp)), z0_valid⟩
theorem code_f (t : Tm) : CheckF t (codeB t) (codeO t) :=
  chk_more t ⟨#[105, 110, 116, 101, 103, 101, 114]⟩ (t.kind == 1) (by decide) (codeB t) (decide (0 ≤ t.num ∧ t.num ≤ 255))
    (by
      unfold codeB
      by_cases h : chkO t (t.kind == 1) = true
      · rw [if_pos h, if_pos h]
        by_cases h2 : 0 ≤ t.num ∧ t.num ≤ 255
        · rw [if_pos h2, if_pos (decide_eq_true h2)]
        · rw [if_neg h2, if_neg (by simpa using h2)]
      · rw [if_neg h, if_neg h])
    (fun h h2 => by
      have h3 : ¬ (0 ≤ t.num ∧ t.num ≤ 255) := of_decide_eq_false h2
      have e : codeB t = reprT ⟨#[99, 104, 97, 114, 97, 99, 116, 101, 114, 95, 99, 111, 100, 101]⟩ := by unfold codeB; rw [if_pos h, if_neg h3]
      rw [e]; exact ⟨by rfl, vz_valid _⟩)
theorem ar_err {D : Tm} (hD : validB D = true) (h0 : (D.kind == 0) = false) (h : arO D = false) : isE (arB D) = true := by
  unfold arO at h
  unfold arB
  by_cases h1 : chkO D (D.kind == 1) = true
  · rw [if_pos h1]
    rw [h1] at h
    have h2 : ¬ (0 ≤ D.num ∧ D.num ≤ 8) := by simpa using h
    by_cases h3 : D.num < 0
    · rw [if_pos h3]; exact isE_with hD _ _ (by decide) (by decide)
    · rw [if_neg h3, if_pos (by omega)]; rfl
  · rw [if_neg h1]
    have h4 := (chk_f D ⟨#[105, 110, 116, 101, 103, 101, 114]⟩ (D.kind == 1) (by decide)).is
    rw [h4, hD, Bool.eq_false_iff.2 h1]; rfl
theorem ar_zero {D : Tm} (h : arO D = true) : arB D = z0 := by
  unfold arO at h
  simp only [Bool.and_eq_true, decide_eq_true_eq] at h
  unfold arB
  rw [if_pos h.1, if_neg (by omega), if_neg (by omega)]
theorem in_parts {t : Tm} (h : inC t = true) : validB t = true ∧ validB (ag t 0) = true ∧ validB (ag t 1) = true := by
  obtain ⟨hv, -, hs⟩ := chkO_v h
  have h2 : t.args.length = 2 := isS_two hs
  refine ⟨hv, ?_, ?_⟩
  · have hl : 0 < t.args.length := by omega
    unfold ag
    rw [List.getD_eq_getElem?_getD, List.getElem?_eq_getElem hl]
    exact valid_arg hv 0 hl
  · have hl : 1 < t.args.length := by omega
    unfold ag
    rw [List.getD_eq_getElem?_getD, List.getElem?_eq_getElem hl]
    exact valid_arg hv 1 hl
theorem ind_f (t : Tm) : CheckF t (indB t) (indO t) := by
  have key := chk_more t ⟨#[112, 114, 101, 100, 105, 99, 97, 116, 101, 95, 105, 110, 100, 105, 99, 97, 116, 111, 114]⟩ (isS t ⟨#[47]⟩ 2) (by decide) (indB t) ((!inV t) && (chkO (ag t 0) ((ag t 0).kind == 2) && arO (ag t 1)))
    (by
      by_cases h : inC t = true
      · have h' : chkO t (isS t ⟨#[47]⟩ 2) = true := h
        rw [if_pos h']
        unfold indB
        rw [if_pos h]
        by_cases h2 : inV t = true
        · rw [if_pos h2, if_neg (by rw [h2]; simp)]
        · rw [if_neg h2]
          by_cases h3 : chkO (ag t 0) ((ag t 0).kind == 2) = true
          · rw [if_pos h3]
            by_cases h4 : arO (ag t 1) = true
            · rw [if_pos (by rw [h3, h4, Bool.eq_false_iff.2 h2]; rfl), ar_zero h4]
            · rw [if_neg (by rw [Bool.eq_false_iff.2 h4]; simp)]
          · rw [if_neg h3, if_neg (by rw [Bool.eq_false_iff.2 h3]; simp)]
      · have h' : ¬ chkO t (isS t ⟨#[47]⟩ 2) = true := h
        rw [if_neg h']
        unfold indB
        rw [if_neg h])
    (fun h h2 => by
      have h' : inC t = true := h
      obtain ⟨hv, hA, hD⟩ := in_parts h'
      refine ⟨?_, indB_valid t⟩
      unfold indB
      rw [if_pos h']
      by_cases h3 : inV t = true
      · rw [if_pos h3]; exact isE_inst
      · rw [if_neg h3]
        rw [Bool.eq_false_iff.2 h3] at h2
        have h5 : ((ag t 0).kind == 0) = false ∧ ((ag t 1).kind == 0) = false := by
          have := Bool.eq_false_iff.2 h3
          unfold inV at this
          simpa [Bool.or_eq_false_iff] using this
        by_cases h4 : chkO (ag t 0) ((ag t 0).kind == 2) = true
        · rw [if_pos h4]
          rw [h4] at h2
          exact ar_err hD h5.2 (by simpa using h2)
        · rw [if_neg h4]
          rw [(chk_f (ag t 0) ⟨#[97, 116, 111, 109]⟩ ((ag t 0).kind == 2) (by decide)).is, hA, Bool.eq_false_iff.2 h4]; rfl)
  exact key
theorem elems_var {t : Tm} (h : (t.kind == 0) = true) : (elemsT t).2 = t := by
  rw [elemsT_not]
  have h1 : t.kind = 0 := by simpa using h
  unfold isPairB
  simp [h1]
theorem nil_kind {u : Tm} (h : isNil u = true) : (u.kind == 0) = false := by
  unfold isNil at h
  simp only [Bool.and_eq_true, beq_iff_eq] at h
  simp [h.1]
theorem list_f (t : Tm) : CheckF t (lsB t) (lsO t) := by
  cases hv : validB t
  · have e1 : lsB t = z0 := by unfold lsB; rw [if_neg (by rw [hv]; simp)]
    have e2 : lsO t = false := by unfold lsO; rw [hv]; rfl
    rw [e1, e2]
    exact ⟨by rw [isE_zero, hv]; rfl, fun _ => rfl, fun _ => rfl, (fun h => absurd h (by rw [hv]; simp)), fun _ => rfl, z0_valid⟩
  · have e2 : lsO t = isNil (elemsT t).2 := by unfold lsO; rw [hv]; rfl
    cases hk : ((elemsT t).2.kind == 0)
    · cases hn : isNil (elemsT t).2
      · have e1 : lsB t = typeT ⟨#[108, 105, 115, 116]⟩ t := by unfold lsB; rw [if_pos hv, if_neg (by rw [hk]; simp), if_neg (by rw [hn]; simp)]
        rw [e1, e2, hn]
        exact ⟨by rw [isE_type hv _ (by decide), hv]; rfl, (fun h => by rw [isE_type hv _ (by decide)] at h; simp at h), fun _ => rfl, (fun _ h => absurd hk (by rw [elems_var h, h]; simp)), fun _ => rfl, withT_valid _ _ _⟩
      · have e1 : lsB t = z0 := by unfold lsB; rw [if_pos hv, if_neg (by rw [hk]; simp), if_pos hn]
        rw [e1, e2, hn]
        exact ⟨by rw [isE_zero, hv]; rfl, fun _ => rfl, (fun h => absurd h (by rw [hv]; simp)), (fun _ h => absurd hk (by rw [elems_var h, h]; simp)), (fun h => absurd hk (by rw [elems_var h, h]; simp)), z0_valid⟩
    · have e1 : lsB t = instT := by unfold lsB; rw [if_pos hv, if_pos hk]
      have e3 : isNil (elemsT t).2 = false := by
        cases hn : isNil (elemsT t).2
        · rfl
        · rw [nil_kind hn] at hk; simp at hk
      rw [e1, e2, e3]
      exact ⟨by rw [isE_inst, hv]; rfl, (fun h => by rw [isE_inst] at h; simp at h), fun _ => rfl, fun _ _ => rfl, fun _ => rfl, inst_valid⟩

/-- The eight errors and the eight answers of BallsChecks. -/
def ckB (t : Tm) : Nat → Tm
  | 0 => chkB t ⟨#[97, 116, 111, 109]⟩ (t.kind == 2)
  | 1 => chkB t ⟨#[105, 110, 116, 101, 103, 101, 114]⟩ (t.kind == 1)
  | 2 => chkB t ⟨#[99, 97, 108, 108, 97, 98, 108, 101]⟩ (t.kind != 1)
  | 3 => chkB t ⟨#[97, 116, 111, 109, 105, 99]⟩ (t.kind != 3)
  | 4 => lsB t
  | 5 => chkB t ⟨#[99, 104, 97, 114, 97, 99, 116, 101, 114]⟩ (chQ t)
  | 6 => codeB t
  | _ => indB t
def ckO (t : Tm) : Nat → Bool
  | 0 => chkO t (t.kind == 2)
  | 1 => chkO t (t.kind == 1)
  | 2 => chkO t (t.kind != 1)
  | 3 => chkO t (t.kind != 3)
  | 4 => lsO t
  | 5 => chkO t (chQ t)
  | 6 => codeO t
  | _ => indO t
theorem ck_f (t : Tm) : ∀ k, CheckF t (ckB t k) (ckO t k)
  | 0 => chk_f _ _ _ (by decide)
  | 1 => chk_f _ _ _ (by decide)
  | 2 => chk_f _ _ _ (by decide)
  | 3 => chk_f _ _ _ (by decide)
  | 4 => list_f t
  | 5 => chk_f _ _ _ (by decide)
  | 6 => code_f t
  | (_ + 7) => ind_f t
end Go.Proofs.Yteilodihjhdngaa
