/- BallsChecks: what the kinds of terms say of the eight checks. -/
import Derived.Test.YteilodihjhdngaaCC5
import Derived.Laws.BytesArg
import Derived.Deep.DeepCutAuto
set_option linter.unusedVariables false
set_option linter.unusedSimpArgs false
namespace Go.Proofs.Yteilodihjhdngaa
open Go.RowKit Go.Proofs.HT

theorem inst_err2 : errT (atmT ⟨#[105, 110, 115, 116, 97, 110, 116, 105, 97, 116, 105, 111, 110, 95, 101, 114, 114, 111, 114]⟩) = instT := by rfl
theorem byte_of (b : UInt8) : UInt8.ofNat b.toNat = b := by simp
theorem kind_of {t : Tm} (hv : validB t = true) : t.kind = 0 ∨ t.kind = 1 ∨ t.kind = 2 ∨ t.kind = 3 := by
  match t, hv with
  | .mk k n s ts, hv =>
    simp only [validB, Bool.and_eq_true] at hv
    have hn := (nodes_at hv.2).1
    unfold nodeB at hn
    simp only [Tm.kind]
    by_cases h0 : k = 0
    · omega
    · by_cases h1 : k = 1
      · omega
      · by_cases h2 : k = 2
        · omega
        · by_cases h3 : k = 3
          · omega
          · simp [h0, h1, h2, h3] at hn
theorem chkO_val {t : Tm} (hv : validB t = true) (h0 : t.kind ≠ 0) (q : Bool) : chkO t q = q := by
  unfold chkO
  have h : (t.kind != 0) = true := by simpa using h0
  rw [hv, h]; simp
theorem not_s {t : Tm} (h : t.kind ≠ 3) (nm : ByteArray) (n : Nat) : isS t nm n = false := by
  unfold isS
  have h2 : (t.kind == 3) = false := by simpa using h
  rw [h2]; rfl
theorem not_pair {t : Tm} (h : t.kind ≠ 3) : elemsT t = ([], t) := elemsT_not t (by unfold isPairB; simp [h])
theorem ls_none {t : Tm} (h : t.kind ≠ 3) : lsL t = [] := by unfold lsL; split; rw [not_pair h]; rfl
theorem ind_none {t : Tm} (h : t.kind ≠ 3) : indO t = false := by
  unfold indO inC chkO; rw [not_s h]; simp
theorem indN_none {t : Tm} (h : indO t = false) : indN t = 0 := by unfold indN; rw [h]; rfl
theorem lsL_none {t : Tm} (h : lsO t = false) : lsL t = [] := by unfold lsL; rw [h]; rfl
theorem one_byte {s : ByteArray} (h : s.size = 1) : ∃ b, s = ⟨#[b]⟩ := by
  cases s with
  | mk d =>
    have h1 : d.size = 1 := h
    obtain ⟨b, hb⟩ := Array.size_eq_one_iff.1 h1
    exact ⟨b, by rw [hb]⟩

/-- A string of one byte. -/
theorem conv_b (w : World) (o : Obj) (b : UInt8) : (convert 57 9 (.slice (some ⟨w.heap.size + 1, 0, none⟩) 1 1)).run Try.prog ((w.alloc o).alloc (.cells #[.int .u8 ((b.toNat : Int) % 256)] 5)) = .ok (.string ⟨#[b]⟩) ((w.alloc o).alloc (.cells #[.int .u8 ((b.toNat : Int) % 256)] 5)) := by
  have hb : (b.toNat : Int) % 256 = (b.toNat : Int) := by have := b.toNat_lt; omega
  have hsz : (w.alloc o).heap.size = w.heap.size + 1 := by simp
  have hn := heap_alloc_new (w.alloc o) (.cells #[.int .u8 ((b.toNat : Int) % 256)] 5)
  have h := run_convert_bytes_arg (P := Try.prog) ((w.alloc o).alloc (.cells #[.int .u8 ((b.toNat : Int) % 256)] 5)) 57 5 Try.underlying57 Try.underlying5 (w.heap.size + 1) 0 1 1 [(b.toNat : Int)] rfl (fun i hi => by
    obtain rfl : i = 0 := by omega
    rw [← hsz, cell_of_row _ _ _ _ _ _ hn, hb]; rfl) 9 Try.underlying9
  rw [h]
  simp [strOfNums]

/-- A valid term that is no variable: which checks it passes, and what they give. -/
theorem kind1 {t : Tm} (hv : validB t = true) (h : t.kind = 1) : ckO t 0 = false ∧ ckO t 1 = true ∧ ckO t 2 = false ∧ ckO t 3 = true ∧ ckO t 4 = false ∧ ckO t 5 = false ∧ ckO t 7 = false ∧ atomS t = ⟨#[]⟩ ∧ intN t = t.num ∧ lsL t = [] ∧ chN t = 0 ∧ indN t = 0 ∧
    ((ckO t 6 = true ∧ codeN t = t.num ∧ 0 ≤ t.num ∧ t.num ≤ 255) ∨ (ckO t 6 = false ∧ codeN t = 0 ∧ ¬ (0 ≤ t.num ∧ t.num ≤ 255))) := by
  have h0 : t.kind ≠ 0 := by omega
  have h3 : t.kind ≠ 3 := by omega
  have e : ∀ q, chkO t q = q := chkO_val hv h0
  refine ⟨?_, ?_, ?_, ?_, ?_, ?_, ?_, ?_, ?_, ls_none h3, ?_, indN_none (ind_none h3), ?_⟩
  · show chkO t _ = _; rw [e, h]; rfl
  · show chkO t _ = _; rw [e, h]; rfl
  · show chkO t _ = _; rw [e, h]; rfl
  · show chkO t _ = _; rw [e, h]; rfl
  · show lsO t = _; unfold lsO isNil; rw [not_pair h3, h]; simp
  · show chkO t _ = _; rw [e]; unfold chQ; rw [h]; rfl
  · exact ind_none h3
  · unfold atomS; rw [e, h]; rfl
  · unfold intN; rw [e, h]; rfl
  · unfold chN; rw [e]; unfold chQ; rw [h]; rfl
  · have hc : codeO t = decide (0 ≤ t.num ∧ t.num ≤ 255) := by unfold codeO; rw [e, h]; rfl
    by_cases hn : 0 ≤ t.num ∧ t.num ≤ 255
    · exact .inl ⟨by show codeO t = _; rw [hc]; simpa using hn, by unfold codeN; rw [hc, if_pos (by simpa using hn)], hn⟩
    · exact .inr ⟨by show codeO t = _; rw [hc]; simpa using hn, by unfold codeN; rw [hc, if_neg (by simpa using hn)], hn⟩
theorem kind2 {t : Tm} (hv : validB t = true) (h : t.kind = 2) : ckO t 0 = true ∧ ckO t 1 = false ∧ ckO t 2 = true ∧ ckO t 3 = true ∧ ckO t 6 = false ∧ ckO t 7 = false ∧ atomS t = t.name ∧ intN t = 0 ∧ lsL t = [] ∧ codeN t = 0 ∧ indN t = 0 ∧
    ((ckO t 5 = true ∧ ∃ b, t.name = ⟨#[b]⟩ ∧ chN t = b.toNat) ∨ (ckO t 5 = false ∧ chN t = 0 ∧ t.name.size ≠ 1)) := by
  have h0 : t.kind ≠ 0 := by omega
  have h3 : t.kind ≠ 3 := by omega
  have e : ∀ q, chkO t q = q := chkO_val hv h0
  refine ⟨?_, ?_, ?_, ?_, ?_, ?_, ?_, ?_, ls_none h3, ?_, indN_none (ind_none h3), ?_⟩
  · show chkO t _ = _; rw [e, h]; rfl
  · show chkO t _ = _; rw [e, h]; rfl
  · show chkO t _ = _; rw [e, h]; rfl
  · show chkO t _ = _; rw [e, h]; rfl
  · show codeO t = _; unfold codeO; rw [e, h]; rfl
  · exact ind_none h3
  · unfold atomS; rw [e, h]; rfl
  · unfold intN; rw [e, h]; rfl
  · unfold codeN codeO; rw [e, h]; rfl
  · by_cases hn : t.name.size = 1
    · obtain ⟨b, hb⟩ := one_byte hn
      have hq : chQ t = true := by unfold chQ; rw [h, hb]; rfl
      exact .inl ⟨by show chkO t _ = _; rw [e, hq], b, hb, by unfold chN; rw [e, hq, hb]; rfl⟩
    · have hq : chQ t = false := by unfold chQ; rw [h]; simp; exact hn
      exact .inr ⟨by show chkO t _ = _; rw [e, hq], by unfold chN; rw [e, hq]; rfl, hn⟩
theorem kind3 {t : Tm} (hv : validB t = true) (h : t.kind = 3) : ckO t 0 = false ∧ ckO t 1 = false ∧ ckO t 2 = true ∧ ckO t 3 = false ∧ ckO t 5 = false ∧ ckO t 6 = false ∧ atomS t = ⟨#[]⟩ ∧ intN t = 0 ∧ chN t = 0 ∧ codeN t = 0 ∧
    (ckO t 4 = false → lsL t = []) ∧ (ckO t 7 = false → indN t = 0) := by
  have h0 : t.kind ≠ 0 := by omega
  have e : ∀ q, chkO t q = q := chkO_val hv h0
  refine ⟨?_, ?_, ?_, ?_, ?_, ?_, ?_, ?_, ?_, ?_, fun hq => lsL_none hq, fun hq => indN_none hq⟩
  · show chkO t _ = _; rw [e, h]; rfl
  · show chkO t _ = _; rw [e, h]; rfl
  · show chkO t _ = _; rw [e, h]; rfl
  · show chkO t _ = _; rw [e, h]; rfl
  · show chkO t _ = _; rw [e]; unfold chQ; rw [h]; rfl
  · show codeO t = _; unfold codeO; rw [e, h]; rfl
  · unfold atomS; rw [e, h]; rfl
  · unfold intN; rw [e, h]; rfl
  · unfold chN; rw [e]; unfold chQ; rw [h]; rfl
  · unfold codeN codeO; rw [e, h]; rfl
theorem kind0 {t : Tm} (h : t.kind = 0) : atomS t = ⟨#[]⟩ ∧ intN t = 0 ∧ lsL t = [] ∧ chN t = 0 ∧ codeN t = 0 ∧ indN t = 0 := by
  have e : ∀ q, chkO t q = false := fun q => by unfold chkO; rw [h]; simp
  have h3 : t.kind ≠ 3 := by omega
  refine ⟨?_, ?_, ls_none h3, ?_, ?_, indN_none (ind_none h3)⟩
  · unfold atomS; rw [e]; rfl
  · unfold intN; rw [e]; rfl
  · unfold chN; rw [e]; rfl
  · unfold codeN codeO; rw [e]; rfl
end Go.Proofs.Yteilodihjhdngaa
