/- The law BallsChecks: its walk. -/
import Derived.Test.YteilodihjhdngaaCC6
import Derived.Deep.DeepCutAuto
set_option linter.unusedVariables false
set_option linter.unusedSimpArgs false
namespace Go.Proofs.Yteilodihjhdngaa
open Go.RowKit Go.Proofs.HT

set_option maxRecDepth 8000 in
set_option maxHeartbeats 64000000 in
theorem checks_k1 (t : Tm) (v : Value) (w : World) (h : LiesT w t v) (HVV : Hid (validB t = true)) (HKK : Hid (t.kind = 1)) : Calls Try.prog 8 #[tv t v] w fun e w' => e = .returned (.bool true) ∧ Below w.heap.size w w' := by
  obtain ⟨va, vc, rfl⟩ : ∃ a k, v = .slice a t.args.length k := h.slice
  obtain ⟨BT, hBT⟩ : ∃ f, ckB t = f := ⟨_, rfl⟩
  obtain ⟨QT, hQT⟩ : ∃ f, ckO t = f := ⟨_, rfl⟩
  have HF : Hid (∀ k, CheckF t (BT k) (QT k)) := Lib.hid (by rw [← hBT, ← hQT]; exact ck_f t)
  obtain ⟨AS, hAS⟩ : ∃ x, atomS t = x := ⟨_, rfl⟩
  obtain ⟨IN, hIN⟩ : ∃ x, intN t = x := ⟨_, rfl⟩
  obtain ⟨LL, hLL⟩ : ∃ x, lsL t = x := ⟨_, rfl⟩
  obtain ⟨CN, hCN⟩ : ∃ x, chN t = x := ⟨_, rfl⟩
  obtain ⟨DN, hDN⟩ : ∃ x, codeN t = x := ⟨_, rfl⟩
  obtain ⟨PS, hPS⟩ : ∃ x, indS t = x := ⟨_, rfl⟩
  obtain ⟨PN, hPN⟩ : ∃ x, indN t = x := ⟨_, rfl⟩
  have HD : Hid (ckB t = BT ∧ ckO t = QT ∧ atomS t = AS ∧ intN t = IN ∧ lsL t = LL ∧ chN t = CN ∧ codeN t = DN ∧ indS t = PS ∧ indN t = PN) := Lib.hid ⟨hBT, hQT, hAS, hIN, hLL, hCN, hDN, hPS, hPN⟩
  have HC0 : Hid (∀ w0, LiesT w0 t (.slice va t.args.length vc) → Calls Try.prog 35 #[tv t (.slice va t.args.length vc)] w0 (Chk1 (.string AS) (BT 0) (QT 0) w0)) := Lib.hid (fun w0 h => by rw [← hAS, ← hBT, ← hQT]; exact bAtom_any t _ w0 h)
  have HC1 : Hid (∀ w0, LiesT w0 t (.slice va t.args.length vc) → Calls Try.prog 37 #[tv t (.slice va t.args.length vc)] w0 (Chk1 (.int .i64 IN) (BT 1) (QT 1) w0)) := Lib.hid (fun w0 h => by rw [← hIN, ← hBT, ← hQT]; exact bInt_any t _ w0 h)
  have HC2 : Hid (∀ w0, LiesT w0 t (.slice va t.args.length vc) → Calls Try.prog 39 #[tv t (.slice va t.args.length vc)] w0 (Chk0 (BT 2) (QT 2) w0)) := Lib.hid (fun w0 h => by rw [← hBT, ← hQT]; exact Callable_any t _ w0 h)
  have HC3 : Hid (∀ w0, LiesT w0 t (.slice va t.args.length vc) → Calls Try.prog 41 #[tv t (.slice va t.args.length vc)] w0 (Chk0 (BT 3) (QT 3) w0)) := Lib.hid (fun w0 h => by rw [← hBT, ← hQT]; exact Atomic_any t _ w0 h)
  have HC4 : Hid (∀ w0, LiesT w0 t (.slice va t.args.length vc) → Calls Try.prog 43 #[tv t (.slice va t.args.length vc)] w0 (ChkLO LL (BT 4) (QT 4) w0)) := Lib.hid (fun w0 h => by rw [← hLL, ← hBT, ← hQT]; exact List_own t _ w0 h)
  have HC5 : Hid (∀ w0, LiesT w0 t (.slice va t.args.length vc) → Calls Try.prog 45 #[tv t (.slice va t.args.length vc)] w0 (Chk1 (.int .i64 CN) (BT 5) (QT 5) w0)) := Lib.hid (fun w0 h => by rw [← hCN, ← hBT, ← hQT]; exact Char_any t _ w0 h)
  have HC6 : Hid (∀ w0, LiesT w0 t (.slice va t.args.length vc) → Calls Try.prog 47 #[tv t (.slice va t.args.length vc)] w0 (Chk1 (.int .i64 DN) (BT 6) (QT 6) w0)) := Lib.hid (fun w0 h => by rw [← hDN, ← hBT, ← hQT]; exact Code_any t _ w0 h)
  have HC7 : Hid (∀ w0, LiesT w0 t (.slice va t.args.length vc) → Calls Try.prog 49 #[tv t (.slice va t.args.length vc)] w0 (Chk2 (.string PS) (.int .i64 PN) (BT 7) (QT 7) w0)) := Lib.hid (fun w0 h => by rw [← hPS, ← hPN, ← hBT, ← hQT]; exact Indicator_any t _ w0 h)
  clear hBT hQT hAS hIN hLL hCN hDN hPS hPN
  have LT := Lib.hid h
  have LT0 := Lib.hid h
  clear h
  obtain ⟨g, hg⟩ : ∃ g, w.heap.size = g := ⟨_, rfl⟩
  have GG : Hid (w.heap.size = g) := Lib.hid hg
  simp only [tv]
  go_enter Try.func8, Try.ntmps8
  go_wp2_with fail
  obtain ⟨X, hX⟩ : ∃ X, (((w.alloc (.cells #[.int .i64 t.kind, .int .i64 t.num, .string t.name, .slice va t.args.length vc] 24)).alloc (.cells #[.int .i64 0, .int .i64 0, .string ⟨#[]⟩, .slice none 0 0, .int .i64 0, .int .i64 0, .string ⟨#[]⟩, .slice none 0 0, .int .i64 0, .int .i64 0, .string ⟨#[]⟩, .slice none 0 0, .int .i64 0, .int .i64 0, .string ⟨#[]⟩, .slice none 0 0, .int .i64 0, .int .i64 0, .string ⟨#[]⟩, .slice none 0 0, .int .i64 0, .int .i64 0, .string ⟨#[]⟩, .slice none 0 0, .int .i64 0, .int .i64 0, .string ⟨#[]⟩, .slice none 0 0, .int .i64 0, .int .i64 0, .string ⟨#[]⟩, .slice none 0 0] 55)).alloc (.cells #[.bool false, .bool false, .bool false, .bool false, .bool false, .bool false, .bool false, .bool false] 56)) = X := ⟨_, rfl⟩
  have RT : Hid (RowT X g t (.slice va t.args.length vc)) := Lib.hid (by rw [← hX, ← hg]; exact ((RowT.new w t (.slice va t.args.length vc)).below (al0 _ _)).below (al0 _ _))
  have R3 : Hid (RowA X (g + 1) #[.int .i64 0, .int .i64 0, .string ⟨#[]⟩, .slice none 0 0, .int .i64 0, .int .i64 0, .string ⟨#[]⟩, .slice none 0 0, .int .i64 0, .int .i64 0, .string ⟨#[]⟩, .slice none 0 0, .int .i64 0, .int .i64 0, .string ⟨#[]⟩, .slice none 0 0, .int .i64 0, .int .i64 0, .string ⟨#[]⟩, .slice none 0 0, .int .i64 0, .int .i64 0, .string ⟨#[]⟩, .slice none 0 0, .int .i64 0, .int .i64 0, .string ⟨#[]⟩, .slice none 0 0, .int .i64 0, .int .i64 0, .string ⟨#[]⟩, .slice none 0 0] 55) := Lib.hid (by
    rw [← hX, show g + 1 = (w.alloc (.cells #[.int .i64 t.kind, .int .i64 t.num, .string t.name, .slice va t.args.length vc] 24)).heap.size by rw [← hg]; simp]
    exact RowA.below (heap_alloc_new _ _) (al0 _ _))
  have R4 : Hid (RowA X (g + 1 + 1) #[.bool false, .bool false, .bool false, .bool false, .bool false, .bool false, .bool false, .bool false] 56) := Lib.hid (by
    rw [← hX, show g + 1 + 1 = ((w.alloc (.cells #[.int .i64 t.kind, .int .i64 t.num, .string t.name, .slice va t.args.length vc] 24)).alloc (.cells #[.int .i64 0, .int .i64 0, .string ⟨#[]⟩, .slice none 0 0, .int .i64 0, .int .i64 0, .string ⟨#[]⟩, .slice none 0 0, .int .i64 0, .int .i64 0, .string ⟨#[]⟩, .slice none 0 0, .int .i64 0, .int .i64 0, .string ⟨#[]⟩, .slice none 0 0, .int .i64 0, .int .i64 0, .string ⟨#[]⟩, .slice none 0 0, .int .i64 0, .int .i64 0, .string ⟨#[]⟩, .slice none 0 0, .int .i64 0, .int .i64 0, .string ⟨#[]⟩, .slice none 0 0, .int .i64 0, .int .i64 0, .string ⟨#[]⟩, .slice none 0 0] 55)).heap.size by rw [← hg]; simp]
    exact heap_alloc_new _ _)
  have BB : Hid (Below w.heap.size w X) := Lib.hid (by rw [← hX]; exact (((Below.refl _ _).alloc (Nat.le_refl _) _).alloc (by simp) _).alloc (by simp; omega) _)
  have LT : Hid (LiesT X t (.slice va t.args.length vc)) := Lib.hid (LT.out.below BB.out)
  have XS : Hid (X.heap.size = g + 3) := Lib.hid (by rw [← hX, ← hg]; simp)
  try rw [hg]
  rw [hX]
  clear hX
  refine (HC0.out _ LT.out).mono ?_
  rintro e w1 ⟨y, rfl, hy, hb1⟩
  have RT := Lib.hid (RT.out.below hb1)
  have R3 := Lib.hid (R3.out.below hb1)
  have R4 := Lib.hid (R4.out.below hb1)
  have LT := Lib.hid (LT.out.below hb1)
  have BB := Lib.hid (BB.out.trans (hb1.mono BB.out.size))
  obtain ⟨a0, c0, rfl⟩ := hy.slice
  have O0 : Hid (OwnA X.heap.size w1 (BT 0) (.slice a0 (BT 0).args.length c0)) := Lib.hid (OwnA.mk hy (Nat.le_refl _))
  clear hy
  have BS : Hid (X.heap.size ≤ w1.heap.size) := Lib.hid (by have h2 := hb1.size; first | exact h2 | (have h1 := BS.out; simp at h2; omega))
  clear hb1
  have RT := Lib.hid (RT.out.below (al0 w1 (.cells #[.int .i64 (BT 0).kind, .int .i64 (BT 0).num, .string (BT 0).name, .slice a0 (BT 0).args.length c0] 24)))
  have R3 := Lib.hid (R3.out.below (al0 w1 (.cells #[.int .i64 (BT 0).kind, .int .i64 (BT 0).num, .string (BT 0).name, .slice a0 (BT 0).args.length c0] 24)))
  have R4 := Lib.hid (R4.out.below (al0 w1 (.cells #[.int .i64 (BT 0).kind, .int .i64 (BT 0).num, .string (BT 0).name, .slice a0 (BT 0).args.length c0] 24)))
  have LT := Lib.hid (LT.out.below (al0 w1 (.cells #[.int .i64 (BT 0).kind, .int .i64 (BT 0).num, .string (BT 0).name, .slice a0 (BT 0).args.length c0] 24)))
  have O0 := Lib.hid (O0.out.below (al0 w1 (.cells #[.int .i64 (BT 0).kind, .int .i64 (BT 0).num, .string (BT 0).name, .slice a0 (BT 0).args.length c0] 24)))
  have RR1 := Lib.hid (RowT.new w1 (BT 0) (.slice a0 (BT 0).args.length c0))
  have BB := Lib.hid (BB.out.alloc BB.out.size (.cells #[.int .i64 (BT 0).kind, .int .i64 (BT 0).num, .string (BT 0).name, .slice a0 (BT 0).args.length c0] 24))
  obtain ⟨xRT_0, xRT_1, xRT_2, xRT_3⟩ := RT.out.cells
  go_wp2_with fail
  refine (HC1.out _ LT.out).mono ?_
  rintro e w2 ⟨y, rfl, hy, hb2⟩
  clear xRT_0 xRT_1 xRT_2 xRT_3
  have RT := Lib.hid (RT.out.below hb2)
  have RR1 := Lib.hid (RR1.out.below hb2)
  have R3 := Lib.hid (R3.out.below hb2)
  have R4 := Lib.hid (R4.out.below hb2)
  have LT := Lib.hid (LT.out.below hb2)
  have O0 := Lib.hid (O0.out.below hb2)
  have BB := Lib.hid (BB.out.trans (hb2.mono BB.out.size))
  obtain ⟨a1, c1, rfl⟩ := hy.slice
  have O1 : Hid (OwnA X.heap.size w2 (BT 1) (.slice a1 (BT 1).args.length c1)) := Lib.hid (OwnA.mk hy (by first | exact Nat.le_refl _ | (have h1 := BS.out; simp; omega)))
  clear hy
  have BS : Hid (X.heap.size ≤ w2.heap.size) := Lib.hid (by have h2 := hb2.size; first | exact h2 | (have h1 := BS.out; simp at h2; omega))
  clear hb2
  have RT := Lib.hid (RT.out.below (al0 w2 (.cells #[.int .i64 (BT 1).kind, .int .i64 (BT 1).num, .string (BT 1).name, .slice a1 (BT 1).args.length c1] 24)))
  have RR1 := Lib.hid (RR1.out.below (al0 w2 (.cells #[.int .i64 (BT 1).kind, .int .i64 (BT 1).num, .string (BT 1).name, .slice a1 (BT 1).args.length c1] 24)))
  have R3 := Lib.hid (R3.out.below (al0 w2 (.cells #[.int .i64 (BT 1).kind, .int .i64 (BT 1).num, .string (BT 1).name, .slice a1 (BT 1).args.length c1] 24)))
  have R4 := Lib.hid (R4.out.below (al0 w2 (.cells #[.int .i64 (BT 1).kind, .int .i64 (BT 1).num, .string (BT 1).name, .slice a1 (BT 1).args.length c1] 24)))
  have LT := Lib.hid (LT.out.below (al0 w2 (.cells #[.int .i64 (BT 1).kind, .int .i64 (BT 1).num, .string (BT 1).name, .slice a1 (BT 1).args.length c1] 24)))
  have O0 := Lib.hid (O0.out.below (al0 w2 (.cells #[.int .i64 (BT 1).kind, .int .i64 (BT 1).num, .string (BT 1).name, .slice a1 (BT 1).args.length c1] 24)))
  have O1 := Lib.hid (O1.out.below (al0 w2 (.cells #[.int .i64 (BT 1).kind, .int .i64 (BT 1).num, .string (BT 1).name, .slice a1 (BT 1).args.length c1] 24)))
  have RR2 := Lib.hid (RowT.new w2 (BT 1) (.slice a1 (BT 1).args.length c1))
  have BB := Lib.hid (BB.out.alloc BB.out.size (.cells #[.int .i64 (BT 1).kind, .int .i64 (BT 1).num, .string (BT 1).name, .slice a1 (BT 1).args.length c1] 24))
  obtain ⟨xRT_0, xRT_1, xRT_2, xRT_3⟩ := RT.out.cells
  go_wp2_with fail
  refine (HC2.out _ LT.out).mono ?_
  rintro e w3 ⟨y, rfl, hy, hb3⟩
  clear xRT_0 xRT_1 xRT_2 xRT_3
  have RT := Lib.hid (RT.out.below hb3)
  have RR1 := Lib.hid (RR1.out.below hb3)
  have RR2 := Lib.hid (RR2.out.below hb3)
  have R3 := Lib.hid (R3.out.below hb3)
  have R4 := Lib.hid (R4.out.below hb3)
  have LT := Lib.hid (LT.out.below hb3)
  have O0 := Lib.hid (O0.out.below hb3)
  have O1 := Lib.hid (O1.out.below hb3)
  have BB := Lib.hid (BB.out.trans (hb3.mono BB.out.size))
  obtain ⟨a2, c2, rfl⟩ := hy.slice
  have O2 : Hid (OwnA X.heap.size w3 (BT 2) (.slice a2 (BT 2).args.length c2)) := Lib.hid (OwnA.mk hy (by first | exact Nat.le_refl _ | (have h1 := BS.out; simp; omega)))
  clear hy
  have BS : Hid (X.heap.size ≤ w3.heap.size) := Lib.hid (by have h2 := hb3.size; first | exact h2 | (have h1 := BS.out; simp at h2; omega))
  clear hb3
  have RT := Lib.hid (RT.out.below (al0 w3 (.cells #[.int .i64 (BT 2).kind, .int .i64 (BT 2).num, .string (BT 2).name, .slice a2 (BT 2).args.length c2] 24)))
  have RR1 := Lib.hid (RR1.out.below (al0 w3 (.cells #[.int .i64 (BT 2).kind, .int .i64 (BT 2).num, .string (BT 2).name, .slice a2 (BT 2).args.length c2] 24)))
  have RR2 := Lib.hid (RR2.out.below (al0 w3 (.cells #[.int .i64 (BT 2).kind, .int .i64 (BT 2).num, .string (BT 2).name, .slice a2 (BT 2).args.length c2] 24)))
  have R3 := Lib.hid (R3.out.below (al0 w3 (.cells #[.int .i64 (BT 2).kind, .int .i64 (BT 2).num, .string (BT 2).name, .slice a2 (BT 2).args.length c2] 24)))
  have R4 := Lib.hid (R4.out.below (al0 w3 (.cells #[.int .i64 (BT 2).kind, .int .i64 (BT 2).num, .string (BT 2).name, .slice a2 (BT 2).args.length c2] 24)))
  have LT := Lib.hid (LT.out.below (al0 w3 (.cells #[.int .i64 (BT 2).kind, .int .i64 (BT 2).num, .string (BT 2).name, .slice a2 (BT 2).args.length c2] 24)))
  have O0 := Lib.hid (O0.out.below (al0 w3 (.cells #[.int .i64 (BT 2).kind, .int .i64 (BT 2).num, .string (BT 2).name, .slice a2 (BT 2).args.length c2] 24)))
  have O1 := Lib.hid (O1.out.below (al0 w3 (.cells #[.int .i64 (BT 2).kind, .int .i64 (BT 2).num, .string (BT 2).name, .slice a2 (BT 2).args.length c2] 24)))
  have O2 := Lib.hid (O2.out.below (al0 w3 (.cells #[.int .i64 (BT 2).kind, .int .i64 (BT 2).num, .string (BT 2).name, .slice a2 (BT 2).args.length c2] 24)))
  have RR3 := Lib.hid (RowT.new w3 (BT 2) (.slice a2 (BT 2).args.length c2))
  have BB := Lib.hid (BB.out.alloc BB.out.size (.cells #[.int .i64 (BT 2).kind, .int .i64 (BT 2).num, .string (BT 2).name, .slice a2 (BT 2).args.length c2] 24))
  obtain ⟨xRT_0, xRT_1, xRT_2, xRT_3⟩ := RT.out.cells
  go_wp2_with fail
  refine (HC3.out _ LT.out).mono ?_
  rintro e w4 ⟨y, rfl, hy, hb4⟩
  clear xRT_0 xRT_1 xRT_2 xRT_3
  have RT := Lib.hid (RT.out.below hb4)
  have RR1 := Lib.hid (RR1.out.below hb4)
  have RR2 := Lib.hid (RR2.out.below hb4)
  have RR3 := Lib.hid (RR3.out.below hb4)
  have R3 := Lib.hid (R3.out.below hb4)
  have R4 := Lib.hid (R4.out.below hb4)
  have LT := Lib.hid (LT.out.below hb4)
  have O0 := Lib.hid (O0.out.below hb4)
  have O1 := Lib.hid (O1.out.below hb4)
  have O2 := Lib.hid (O2.out.below hb4)
  have BB := Lib.hid (BB.out.trans (hb4.mono BB.out.size))
  obtain ⟨a3, c3, rfl⟩ := hy.slice
  have O3 : Hid (OwnA X.heap.size w4 (BT 3) (.slice a3 (BT 3).args.length c3)) := Lib.hid (OwnA.mk hy (by first | exact Nat.le_refl _ | (have h1 := BS.out; simp; omega)))
  clear hy
  have BS : Hid (X.heap.size ≤ w4.heap.size) := Lib.hid (by have h2 := hb4.size; first | exact h2 | (have h1 := BS.out; simp at h2; omega))
  clear hb4
  have RT := Lib.hid (RT.out.below (al0 w4 (.cells #[.int .i64 (BT 3).kind, .int .i64 (BT 3).num, .string (BT 3).name, .slice a3 (BT 3).args.length c3] 24)))
  have RR1 := Lib.hid (RR1.out.below (al0 w4 (.cells #[.int .i64 (BT 3).kind, .int .i64 (BT 3).num, .string (BT 3).name, .slice a3 (BT 3).args.length c3] 24)))
  have RR2 := Lib.hid (RR2.out.below (al0 w4 (.cells #[.int .i64 (BT 3).kind, .int .i64 (BT 3).num, .string (BT 3).name, .slice a3 (BT 3).args.length c3] 24)))
  have RR3 := Lib.hid (RR3.out.below (al0 w4 (.cells #[.int .i64 (BT 3).kind, .int .i64 (BT 3).num, .string (BT 3).name, .slice a3 (BT 3).args.length c3] 24)))
  have R3 := Lib.hid (R3.out.below (al0 w4 (.cells #[.int .i64 (BT 3).kind, .int .i64 (BT 3).num, .string (BT 3).name, .slice a3 (BT 3).args.length c3] 24)))
  have R4 := Lib.hid (R4.out.below (al0 w4 (.cells #[.int .i64 (BT 3).kind, .int .i64 (BT 3).num, .string (BT 3).name, .slice a3 (BT 3).args.length c3] 24)))
  have LT := Lib.hid (LT.out.below (al0 w4 (.cells #[.int .i64 (BT 3).kind, .int .i64 (BT 3).num, .string (BT 3).name, .slice a3 (BT 3).args.length c3] 24)))
  have O0 := Lib.hid (O0.out.below (al0 w4 (.cells #[.int .i64 (BT 3).kind, .int .i64 (BT 3).num, .string (BT 3).name, .slice a3 (BT 3).args.length c3] 24)))
  have O1 := Lib.hid (O1.out.below (al0 w4 (.cells #[.int .i64 (BT 3).kind, .int .i64 (BT 3).num, .string (BT 3).name, .slice a3 (BT 3).args.length c3] 24)))
  have O2 := Lib.hid (O2.out.below (al0 w4 (.cells #[.int .i64 (BT 3).kind, .int .i64 (BT 3).num, .string (BT 3).name, .slice a3 (BT 3).args.length c3] 24)))
  have O3 := Lib.hid (O3.out.below (al0 w4 (.cells #[.int .i64 (BT 3).kind, .int .i64 (BT 3).num, .string (BT 3).name, .slice a3 (BT 3).args.length c3] 24)))
  have RR4 := Lib.hid (RowT.new w4 (BT 3) (.slice a3 (BT 3).args.length c3))
  have BB := Lib.hid (BB.out.alloc BB.out.size (.cells #[.int .i64 (BT 3).kind, .int .i64 (BT 3).num, .string (BT 3).name, .slice a3 (BT 3).args.length c3] 24))
  obtain ⟨xRT_0, xRT_1, xRT_2, xRT_3⟩ := RT.out.cells
  go_wp2_with fail
  refine (HC4.out _ LT.out).mono ?_
  rintro e w5 ⟨x, y, rfl, hlx, hy, hb5⟩
  clear xRT_0 xRT_1 xRT_2 xRT_3
  have RT := Lib.hid (RT.out.below hb5)
  have RR1 := Lib.hid (RR1.out.below hb5)
  have RR2 := Lib.hid (RR2.out.below hb5)
  have RR3 := Lib.hid (RR3.out.below hb5)
  have RR4 := Lib.hid (RR4.out.below hb5)
  have R3 := Lib.hid (R3.out.below hb5)
  have R4 := Lib.hid (R4.out.below hb5)
  have LT := Lib.hid (LT.out.below hb5)
  have O0 := Lib.hid (O0.out.below hb5)
  have O1 := Lib.hid (O1.out.below hb5)
  have O2 := Lib.hid (O2.out.below hb5)
  have O3 := Lib.hid (O3.out.below hb5)
  have BB := Lib.hid (BB.out.trans (hb5.mono BB.out.size))
  obtain ⟨a4, c4, rfl⟩ := hy.slice
  have O4 : Hid (OwnA X.heap.size w5 (BT 4) (.slice a4 (BT 4).args.length c4)) := Lib.hid (OwnA.mk hy (by first | exact Nat.le_refl _ | (have h1 := BS.out; simp; omega)))
  clear hy
  have BS : Hid (X.heap.size ≤ w5.heap.size) := Lib.hid (by have h2 := hb5.size; first | exact h2 | (have h1 := BS.out; simp at h2; omega))
  obtain ⟨la, lc, rfl⟩ : ∃ a c, x = .slice a LL.length c := hlx.slice
  clear hlx
  clear hb5
  have RT := Lib.hid (RT.out.below (al0 w5 (.cells #[.int .i64 (BT 4).kind, .int .i64 (BT 4).num, .string (BT 4).name, .slice a4 (BT 4).args.length c4] 24)))
  have RR1 := Lib.hid (RR1.out.below (al0 w5 (.cells #[.int .i64 (BT 4).kind, .int .i64 (BT 4).num, .string (BT 4).name, .slice a4 (BT 4).args.length c4] 24)))
  have RR2 := Lib.hid (RR2.out.below (al0 w5 (.cells #[.int .i64 (BT 4).kind, .int .i64 (BT 4).num, .string (BT 4).name, .slice a4 (BT 4).args.length c4] 24)))
  have RR3 := Lib.hid (RR3.out.below (al0 w5 (.cells #[.int .i64 (BT 4).kind, .int .i64 (BT 4).num, .string (BT 4).name, .slice a4 (BT 4).args.length c4] 24)))
  have RR4 := Lib.hid (RR4.out.below (al0 w5 (.cells #[.int .i64 (BT 4).kind, .int .i64 (BT 4).num, .string (BT 4).name, .slice a4 (BT 4).args.length c4] 24)))
  have R3 := Lib.hid (R3.out.below (al0 w5 (.cells #[.int .i64 (BT 4).kind, .int .i64 (BT 4).num, .string (BT 4).name, .slice a4 (BT 4).args.length c4] 24)))
  have R4 := Lib.hid (R4.out.below (al0 w5 (.cells #[.int .i64 (BT 4).kind, .int .i64 (BT 4).num, .string (BT 4).name, .slice a4 (BT 4).args.length c4] 24)))
  have LT := Lib.hid (LT.out.below (al0 w5 (.cells #[.int .i64 (BT 4).kind, .int .i64 (BT 4).num, .string (BT 4).name, .slice a4 (BT 4).args.length c4] 24)))
  have O0 := Lib.hid (O0.out.below (al0 w5 (.cells #[.int .i64 (BT 4).kind, .int .i64 (BT 4).num, .string (BT 4).name, .slice a4 (BT 4).args.length c4] 24)))
  have O1 := Lib.hid (O1.out.below (al0 w5 (.cells #[.int .i64 (BT 4).kind, .int .i64 (BT 4).num, .string (BT 4).name, .slice a4 (BT 4).args.length c4] 24)))
  have O2 := Lib.hid (O2.out.below (al0 w5 (.cells #[.int .i64 (BT 4).kind, .int .i64 (BT 4).num, .string (BT 4).name, .slice a4 (BT 4).args.length c4] 24)))
  have O3 := Lib.hid (O3.out.below (al0 w5 (.cells #[.int .i64 (BT 4).kind, .int .i64 (BT 4).num, .string (BT 4).name, .slice a4 (BT 4).args.length c4] 24)))
  have O4 := Lib.hid (O4.out.below (al0 w5 (.cells #[.int .i64 (BT 4).kind, .int .i64 (BT 4).num, .string (BT 4).name, .slice a4 (BT 4).args.length c4] 24)))
  have RR5 := Lib.hid (RowT.new w5 (BT 4) (.slice a4 (BT 4).args.length c4))
  have BB := Lib.hid (BB.out.alloc BB.out.size (.cells #[.int .i64 (BT 4).kind, .int .i64 (BT 4).num, .string (BT 4).name, .slice a4 (BT 4).args.length c4] 24))
  obtain ⟨xRT_0, xRT_1, xRT_2, xRT_3⟩ := RT.out.cells
  go_wp2_with fail
  refine (HC5.out _ LT.out).mono ?_
  rintro e w6 ⟨y, rfl, hy, hb6⟩
  clear xRT_0 xRT_1 xRT_2 xRT_3
  have RT := Lib.hid (RT.out.below hb6)
  have RR1 := Lib.hid (RR1.out.below hb6)
  have RR2 := Lib.hid (RR2.out.below hb6)
  have RR3 := Lib.hid (RR3.out.below hb6)
  have RR4 := Lib.hid (RR4.out.below hb6)
  have RR5 := Lib.hid (RR5.out.below hb6)
  have R3 := Lib.hid (R3.out.below hb6)
  have R4 := Lib.hid (R4.out.below hb6)
  have LT := Lib.hid (LT.out.below hb6)
  have O0 := Lib.hid (O0.out.below hb6)
  have O1 := Lib.hid (O1.out.below hb6)
  have O2 := Lib.hid (O2.out.below hb6)
  have O3 := Lib.hid (O3.out.below hb6)
  have O4 := Lib.hid (O4.out.below hb6)
  have BB := Lib.hid (BB.out.trans (hb6.mono BB.out.size))
  obtain ⟨a5, c5, rfl⟩ := hy.slice
  have O5 : Hid (OwnA X.heap.size w6 (BT 5) (.slice a5 (BT 5).args.length c5)) := Lib.hid (OwnA.mk hy (by first | exact Nat.le_refl _ | (have h1 := BS.out; simp; omega)))
  clear hy
  have BS : Hid (X.heap.size ≤ w6.heap.size) := Lib.hid (by have h2 := hb6.size; first | exact h2 | (have h1 := BS.out; simp at h2; omega))
  clear hb6
  have RT := Lib.hid (RT.out.below (al0 w6 (.cells #[.int .i64 (BT 5).kind, .int .i64 (BT 5).num, .string (BT 5).name, .slice a5 (BT 5).args.length c5] 24)))
  have RR1 := Lib.hid (RR1.out.below (al0 w6 (.cells #[.int .i64 (BT 5).kind, .int .i64 (BT 5).num, .string (BT 5).name, .slice a5 (BT 5).args.length c5] 24)))
  have RR2 := Lib.hid (RR2.out.below (al0 w6 (.cells #[.int .i64 (BT 5).kind, .int .i64 (BT 5).num, .string (BT 5).name, .slice a5 (BT 5).args.length c5] 24)))
  have RR3 := Lib.hid (RR3.out.below (al0 w6 (.cells #[.int .i64 (BT 5).kind, .int .i64 (BT 5).num, .string (BT 5).name, .slice a5 (BT 5).args.length c5] 24)))
  have RR4 := Lib.hid (RR4.out.below (al0 w6 (.cells #[.int .i64 (BT 5).kind, .int .i64 (BT 5).num, .string (BT 5).name, .slice a5 (BT 5).args.length c5] 24)))
  have RR5 := Lib.hid (RR5.out.below (al0 w6 (.cells #[.int .i64 (BT 5).kind, .int .i64 (BT 5).num, .string (BT 5).name, .slice a5 (BT 5).args.length c5] 24)))
  have R3 := Lib.hid (R3.out.below (al0 w6 (.cells #[.int .i64 (BT 5).kind, .int .i64 (BT 5).num, .string (BT 5).name, .slice a5 (BT 5).args.length c5] 24)))
  have R4 := Lib.hid (R4.out.below (al0 w6 (.cells #[.int .i64 (BT 5).kind, .int .i64 (BT 5).num, .string (BT 5).name, .slice a5 (BT 5).args.length c5] 24)))
  have LT := Lib.hid (LT.out.below (al0 w6 (.cells #[.int .i64 (BT 5).kind, .int .i64 (BT 5).num, .string (BT 5).name, .slice a5 (BT 5).args.length c5] 24)))
  have O0 := Lib.hid (O0.out.below (al0 w6 (.cells #[.int .i64 (BT 5).kind, .int .i64 (BT 5).num, .string (BT 5).name, .slice a5 (BT 5).args.length c5] 24)))
  have O1 := Lib.hid (O1.out.below (al0 w6 (.cells #[.int .i64 (BT 5).kind, .int .i64 (BT 5).num, .string (BT 5).name, .slice a5 (BT 5).args.length c5] 24)))
  have O2 := Lib.hid (O2.out.below (al0 w6 (.cells #[.int .i64 (BT 5).kind, .int .i64 (BT 5).num, .string (BT 5).name, .slice a5 (BT 5).args.length c5] 24)))
  have O3 := Lib.hid (O3.out.below (al0 w6 (.cells #[.int .i64 (BT 5).kind, .int .i64 (BT 5).num, .string (BT 5).name, .slice a5 (BT 5).args.length c5] 24)))
  have O4 := Lib.hid (O4.out.below (al0 w6 (.cells #[.int .i64 (BT 5).kind, .int .i64 (BT 5).num, .string (BT 5).name, .slice a5 (BT 5).args.length c5] 24)))
  have O5 := Lib.hid (O5.out.below (al0 w6 (.cells #[.int .i64 (BT 5).kind, .int .i64 (BT 5).num, .string (BT 5).name, .slice a5 (BT 5).args.length c5] 24)))
  have RR6 := Lib.hid (RowT.new w6 (BT 5) (.slice a5 (BT 5).args.length c5))
  have BB := Lib.hid (BB.out.alloc BB.out.size (.cells #[.int .i64 (BT 5).kind, .int .i64 (BT 5).num, .string (BT 5).name, .slice a5 (BT 5).args.length c5] 24))
  obtain ⟨xRT_0, xRT_1, xRT_2, xRT_3⟩ := RT.out.cells
  go_wp2_with fail
  refine (HC6.out _ LT.out).mono ?_
  rintro e w7 ⟨y, rfl, hy, hb7⟩
  clear xRT_0 xRT_1 xRT_2 xRT_3
  have RT := Lib.hid (RT.out.below hb7)
  have RR1 := Lib.hid (RR1.out.below hb7)
  have RR2 := Lib.hid (RR2.out.below hb7)
  have RR3 := Lib.hid (RR3.out.below hb7)
  have RR4 := Lib.hid (RR4.out.below hb7)
  have RR5 := Lib.hid (RR5.out.below hb7)
  have RR6 := Lib.hid (RR6.out.below hb7)
  have R3 := Lib.hid (R3.out.below hb7)
  have R4 := Lib.hid (R4.out.below hb7)
  have LT := Lib.hid (LT.out.below hb7)
  have O0 := Lib.hid (O0.out.below hb7)
  have O1 := Lib.hid (O1.out.below hb7)
  have O2 := Lib.hid (O2.out.below hb7)
  have O3 := Lib.hid (O3.out.below hb7)
  have O4 := Lib.hid (O4.out.below hb7)
  have O5 := Lib.hid (O5.out.below hb7)
  have BB := Lib.hid (BB.out.trans (hb7.mono BB.out.size))
  obtain ⟨a6, c6, rfl⟩ := hy.slice
  have O6 : Hid (OwnA X.heap.size w7 (BT 6) (.slice a6 (BT 6).args.length c6)) := Lib.hid (OwnA.mk hy (by first | exact Nat.le_refl _ | (have h1 := BS.out; simp; omega)))
  clear hy
  have BS : Hid (X.heap.size ≤ w7.heap.size) := Lib.hid (by have h2 := hb7.size; first | exact h2 | (have h1 := BS.out; simp at h2; omega))
  clear hb7
  have RT := Lib.hid (RT.out.below (al0 w7 (.cells #[.int .i64 (BT 6).kind, .int .i64 (BT 6).num, .string (BT 6).name, .slice a6 (BT 6).args.length c6] 24)))
  have RR1 := Lib.hid (RR1.out.below (al0 w7 (.cells #[.int .i64 (BT 6).kind, .int .i64 (BT 6).num, .string (BT 6).name, .slice a6 (BT 6).args.length c6] 24)))
  have RR2 := Lib.hid (RR2.out.below (al0 w7 (.cells #[.int .i64 (BT 6).kind, .int .i64 (BT 6).num, .string (BT 6).name, .slice a6 (BT 6).args.length c6] 24)))
  have RR3 := Lib.hid (RR3.out.below (al0 w7 (.cells #[.int .i64 (BT 6).kind, .int .i64 (BT 6).num, .string (BT 6).name, .slice a6 (BT 6).args.length c6] 24)))
  have RR4 := Lib.hid (RR4.out.below (al0 w7 (.cells #[.int .i64 (BT 6).kind, .int .i64 (BT 6).num, .string (BT 6).name, .slice a6 (BT 6).args.length c6] 24)))
  have RR5 := Lib.hid (RR5.out.below (al0 w7 (.cells #[.int .i64 (BT 6).kind, .int .i64 (BT 6).num, .string (BT 6).name, .slice a6 (BT 6).args.length c6] 24)))
  have RR6 := Lib.hid (RR6.out.below (al0 w7 (.cells #[.int .i64 (BT 6).kind, .int .i64 (BT 6).num, .string (BT 6).name, .slice a6 (BT 6).args.length c6] 24)))
  have R3 := Lib.hid (R3.out.below (al0 w7 (.cells #[.int .i64 (BT 6).kind, .int .i64 (BT 6).num, .string (BT 6).name, .slice a6 (BT 6).args.length c6] 24)))
  have R4 := Lib.hid (R4.out.below (al0 w7 (.cells #[.int .i64 (BT 6).kind, .int .i64 (BT 6).num, .string (BT 6).name, .slice a6 (BT 6).args.length c6] 24)))
  have LT := Lib.hid (LT.out.below (al0 w7 (.cells #[.int .i64 (BT 6).kind, .int .i64 (BT 6).num, .string (BT 6).name, .slice a6 (BT 6).args.length c6] 24)))
  have O0 := Lib.hid (O0.out.below (al0 w7 (.cells #[.int .i64 (BT 6).kind, .int .i64 (BT 6).num, .string (BT 6).name, .slice a6 (BT 6).args.length c6] 24)))
  have O1 := Lib.hid (O1.out.below (al0 w7 (.cells #[.int .i64 (BT 6).kind, .int .i64 (BT 6).num, .string (BT 6).name, .slice a6 (BT 6).args.length c6] 24)))
  have O2 := Lib.hid (O2.out.below (al0 w7 (.cells #[.int .i64 (BT 6).kind, .int .i64 (BT 6).num, .string (BT 6).name, .slice a6 (BT 6).args.length c6] 24)))
  have O3 := Lib.hid (O3.out.below (al0 w7 (.cells #[.int .i64 (BT 6).kind, .int .i64 (BT 6).num, .string (BT 6).name, .slice a6 (BT 6).args.length c6] 24)))
  have O4 := Lib.hid (O4.out.below (al0 w7 (.cells #[.int .i64 (BT 6).kind, .int .i64 (BT 6).num, .string (BT 6).name, .slice a6 (BT 6).args.length c6] 24)))
  have O5 := Lib.hid (O5.out.below (al0 w7 (.cells #[.int .i64 (BT 6).kind, .int .i64 (BT 6).num, .string (BT 6).name, .slice a6 (BT 6).args.length c6] 24)))
  have O6 := Lib.hid (O6.out.below (al0 w7 (.cells #[.int .i64 (BT 6).kind, .int .i64 (BT 6).num, .string (BT 6).name, .slice a6 (BT 6).args.length c6] 24)))
  have RR7 := Lib.hid (RowT.new w7 (BT 6) (.slice a6 (BT 6).args.length c6))
  have BB := Lib.hid (BB.out.alloc BB.out.size (.cells #[.int .i64 (BT 6).kind, .int .i64 (BT 6).num, .string (BT 6).name, .slice a6 (BT 6).args.length c6] 24))
  obtain ⟨xRT_0, xRT_1, xRT_2, xRT_3⟩ := RT.out.cells
  go_wp2_with fail
  refine (HC7.out _ LT.out).mono ?_
  rintro e w8 ⟨y, rfl, hy, hb8⟩
  clear xRT_0 xRT_1 xRT_2 xRT_3
  have RT := Lib.hid (RT.out.below hb8)
  have RR1 := Lib.hid (RR1.out.below hb8)
  have RR2 := Lib.hid (RR2.out.below hb8)
  have RR3 := Lib.hid (RR3.out.below hb8)
  have RR4 := Lib.hid (RR4.out.below hb8)
  have RR5 := Lib.hid (RR5.out.below hb8)
  have RR6 := Lib.hid (RR6.out.below hb8)
  have RR7 := Lib.hid (RR7.out.below hb8)
  have R3 := Lib.hid (R3.out.below hb8)
  have R4 := Lib.hid (R4.out.below hb8)
  have LT := Lib.hid (LT.out.below hb8)
  have O0 := Lib.hid (O0.out.below hb8)
  have O1 := Lib.hid (O1.out.below hb8)
  have O2 := Lib.hid (O2.out.below hb8)
  have O3 := Lib.hid (O3.out.below hb8)
  have O4 := Lib.hid (O4.out.below hb8)
  have O5 := Lib.hid (O5.out.below hb8)
  have O6 := Lib.hid (O6.out.below hb8)
  have BB := Lib.hid (BB.out.trans (hb8.mono BB.out.size))
  obtain ⟨a7, c7, rfl⟩ := hy.slice
  have O7 : Hid (OwnA X.heap.size w8 (BT 7) (.slice a7 (BT 7).args.length c7)) := Lib.hid (OwnA.mk hy (by first | exact Nat.le_refl _ | (have h1 := BS.out; simp; omega)))
  clear hy
  have BS : Hid (X.heap.size ≤ w8.heap.size) := Lib.hid (by have h2 := hb8.size; first | exact h2 | (have h1 := BS.out; simp at h2; omega))
  clear hb8
  have RT := Lib.hid (RT.out.below (al0 w8 (.cells #[.int .i64 (BT 7).kind, .int .i64 (BT 7).num, .string (BT 7).name, .slice a7 (BT 7).args.length c7] 24)))
  have RR1 := Lib.hid (RR1.out.below (al0 w8 (.cells #[.int .i64 (BT 7).kind, .int .i64 (BT 7).num, .string (BT 7).name, .slice a7 (BT 7).args.length c7] 24)))
  have RR2 := Lib.hid (RR2.out.below (al0 w8 (.cells #[.int .i64 (BT 7).kind, .int .i64 (BT 7).num, .string (BT 7).name, .slice a7 (BT 7).args.length c7] 24)))
  have RR3 := Lib.hid (RR3.out.below (al0 w8 (.cells #[.int .i64 (BT 7).kind, .int .i64 (BT 7).num, .string (BT 7).name, .slice a7 (BT 7).args.length c7] 24)))
  have RR4 := Lib.hid (RR4.out.below (al0 w8 (.cells #[.int .i64 (BT 7).kind, .int .i64 (BT 7).num, .string (BT 7).name, .slice a7 (BT 7).args.length c7] 24)))
  have RR5 := Lib.hid (RR5.out.below (al0 w8 (.cells #[.int .i64 (BT 7).kind, .int .i64 (BT 7).num, .string (BT 7).name, .slice a7 (BT 7).args.length c7] 24)))
  have RR6 := Lib.hid (RR6.out.below (al0 w8 (.cells #[.int .i64 (BT 7).kind, .int .i64 (BT 7).num, .string (BT 7).name, .slice a7 (BT 7).args.length c7] 24)))
  have RR7 := Lib.hid (RR7.out.below (al0 w8 (.cells #[.int .i64 (BT 7).kind, .int .i64 (BT 7).num, .string (BT 7).name, .slice a7 (BT 7).args.length c7] 24)))
  have R3 := Lib.hid (R3.out.below (al0 w8 (.cells #[.int .i64 (BT 7).kind, .int .i64 (BT 7).num, .string (BT 7).name, .slice a7 (BT 7).args.length c7] 24)))
  have R4 := Lib.hid (R4.out.below (al0 w8 (.cells #[.int .i64 (BT 7).kind, .int .i64 (BT 7).num, .string (BT 7).name, .slice a7 (BT 7).args.length c7] 24)))
  have LT := Lib.hid (LT.out.below (al0 w8 (.cells #[.int .i64 (BT 7).kind, .int .i64 (BT 7).num, .string (BT 7).name, .slice a7 (BT 7).args.length c7] 24)))
  have O0 := Lib.hid (O0.out.below (al0 w8 (.cells #[.int .i64 (BT 7).kind, .int .i64 (BT 7).num, .string (BT 7).name, .slice a7 (BT 7).args.length c7] 24)))
  have O1 := Lib.hid (O1.out.below (al0 w8 (.cells #[.int .i64 (BT 7).kind, .int .i64 (BT 7).num, .string (BT 7).name, .slice a7 (BT 7).args.length c7] 24)))
  have O2 := Lib.hid (O2.out.below (al0 w8 (.cells #[.int .i64 (BT 7).kind, .int .i64 (BT 7).num, .string (BT 7).name, .slice a7 (BT 7).args.length c7] 24)))
  have O3 := Lib.hid (O3.out.below (al0 w8 (.cells #[.int .i64 (BT 7).kind, .int .i64 (BT 7).num, .string (BT 7).name, .slice a7 (BT 7).args.length c7] 24)))
  have O4 := Lib.hid (O4.out.below (al0 w8 (.cells #[.int .i64 (BT 7).kind, .int .i64 (BT 7).num, .string (BT 7).name, .slice a7 (BT 7).args.length c7] 24)))
  have O5 := Lib.hid (O5.out.below (al0 w8 (.cells #[.int .i64 (BT 7).kind, .int .i64 (BT 7).num, .string (BT 7).name, .slice a7 (BT 7).args.length c7] 24)))
  have O6 := Lib.hid (O6.out.below (al0 w8 (.cells #[.int .i64 (BT 7).kind, .int .i64 (BT 7).num, .string (BT 7).name, .slice a7 (BT 7).args.length c7] 24)))
  have O7 := Lib.hid (O7.out.below (al0 w8 (.cells #[.int .i64 (BT 7).kind, .int .i64 (BT 7).num, .string (BT 7).name, .slice a7 (BT 7).args.length c7] 24)))
  have RR8 := Lib.hid (RowT.new w8 (BT 7) (.slice a7 (BT 7).args.length c7))
  have BB := Lib.hid (BB.out.alloc BB.out.size (.cells #[.int .i64 (BT 7).kind, .int .i64 (BT 7).num, .string (BT 7).name, .slice a7 (BT 7).args.length c7] 24))
  go_upto_region 11 with fail
  obtain ⟨xRR1_0, xRR1_1, xRR1_2, xRR1_3⟩ := RR1.out.cells
  obtain ⟨xRR2_0, xRR2_1, xRR2_2, xRR2_3⟩ := RR2.out.cells
  obtain ⟨xRR3_0, xRR3_1, xRR3_2, xRR3_3⟩ := RR3.out.cells
  obtain ⟨xRR4_0, xRR4_1, xRR4_2, xRR4_3⟩ := RR4.out.cells
  obtain ⟨xRR5_0, xRR5_1, xRR5_2, xRR5_3⟩ := RR5.out.cells
  obtain ⟨xRR6_0, xRR6_1, xRR6_2, xRR6_3⟩ := RR6.out.cells
  obtain ⟨xRR7_0, xRR7_1, xRR7_2, xRR7_3⟩ := RR7.out.cells
  obtain ⟨xRR8_0, xRR8_1, xRR8_2, xRR8_3⟩ := RR8.out.cells
  go_upto_region 12 with (refine wpList_store_A ?hgd _ _ _ rfl (g + 1) #[.int .i64 (BT 0).kind, .int .i64 (BT 0).num, .string (BT 0).name, .slice a0 (BT 0).args.length c0, .int .i64 (BT 1).kind, .int .i64 (BT 1).num, .string (BT 1).name, .slice a1 (BT 1).args.length c1, .int .i64 (BT 2).kind, .int .i64 (BT 2).num, .string (BT 2).name, .slice a2 (BT 2).args.length c2, .int .i64 (BT 3).kind, .int .i64 (BT 3).num, .string (BT 3).name, .slice a3 (BT 3).args.length c3, .int .i64 (BT 4).kind, .int .i64 (BT 4).num, .string (BT 4).name, .slice a4 (BT 4).args.length c4, .int .i64 (BT 5).kind, .int .i64 (BT 5).num, .string (BT 5).name, .slice a5 (BT 5).args.length c5, .int .i64 (BT 6).kind, .int .i64 (BT 6).num, .string (BT 6).name, .slice a6 (BT 6).args.length c6, .int .i64 (BT 7).kind, .int .i64 (BT 7).num, .string (BT 7).name, .slice a7 (BT 7).args.length c7] _ 55 R3.out ?hx ?hy ?hi ?hold ?h1 ?hh)
  case hgd => rfl
  case hx => rfl
  case hold => rfl
  case h1 => kernel_rfl
  case hy => rfl
  case hi => as_aux_lemma => kernel_rfl
  intro Z1 SO
  go_upto_region 12 with fail
  clear xRR1_0 xRR1_1 xRR1_2 xRR1_3 xRR2_0 xRR2_1 xRR2_2 xRR2_3 xRR3_0 xRR3_1 xRR3_2 xRR3_3 xRR4_0 xRR4_1 xRR4_2 xRR4_3 xRR5_0 xRR5_1 xRR5_2 xRR5_3 xRR6_0 xRR6_1 xRR6_2 xRR6_3 xRR7_0 xRR7_1 xRR7_2 xRR7_3 xRR8_0 xRR8_1 xRR8_2 xRR8_3
  have R3 := Lib.hid SO.row
  have BB := Lib.hid (SO.below _ _ (by have := GG.out; omega) BB.out)
  have LT : Hid (LiesT Z1 t (.slice va t.args.length vc)) := Lib.hid (LT0.out.below BB.out)
  have R4 := Lib.hid (R4.out.other (SO.other (g + 1 + 1) (by omega)))
  have RT := Lib.hid (RT.out.other (SO.other (g) (by omega)))
  have O0 := Lib.hid (O0.out.put (by have := XS.out; omega) SO.other SO.size)
  have O1 := Lib.hid (O1.out.put (by have := XS.out; omega) SO.other SO.size)
  have O2 := Lib.hid (O2.out.put (by have := XS.out; omega) SO.other SO.size)
  have O3 := Lib.hid (O3.out.put (by have := XS.out; omega) SO.other SO.size)
  have O4 := Lib.hid (O4.out.put (by have := XS.out; omega) SO.other SO.size)
  have O5 := Lib.hid (O5.out.put (by have := XS.out; omega) SO.other SO.size)
  have O6 := Lib.hid (O6.out.put (by have := XS.out; omega) SO.other SO.size)
  have O7 := Lib.hid (O7.out.put (by have := XS.out; omega) SO.other SO.size)
  clear SO
  clear RR1 RR2 RR3 RR4 RR5 RR6 RR7 RR8
  go_upto_region 13 with (refine wpList_store_A ?ygd _ _ _ rfl (g + 1 + 1) #[.bool (QT 0), .bool (QT 1), .bool (QT 2), .bool (QT 3), .bool (QT 4), .bool (QT 5), .bool (QT 6), .bool (QT 7)] _ 56 R4.out ?yx ?yy ?yi ?yold ?y1 ?yh)
  case ygd => rfl
  case yx => rfl
  case yold => rfl
  case y1 => kernel_rfl
  case yy => rfl
  case yi => as_aux_lemma => kernel_rfl
  intro Z2 SO
  go_upto_region 13 with fail
  have R4 := Lib.hid SO.row
  have BB := Lib.hid (SO.below _ _ (by have := GG.out; omega) BB.out)
  have LT : Hid (LiesT Z2 t (.slice va t.args.length vc)) := Lib.hid (LT0.out.below BB.out)
  have R3 := Lib.hid (R3.out.other (SO.other (g + 1) (by omega)))
  have RT := Lib.hid (RT.out.other (SO.other (g) (by omega)))
  have O0 := Lib.hid (O0.out.put (by have := XS.out; omega) SO.other SO.size)
  have O1 := Lib.hid (O1.out.put (by have := XS.out; omega) SO.other SO.size)
  have O2 := Lib.hid (O2.out.put (by have := XS.out; omega) SO.other SO.size)
  have O3 := Lib.hid (O3.out.put (by have := XS.out; omega) SO.other SO.size)
  have O4 := Lib.hid (O4.out.put (by have := XS.out; omega) SO.other SO.size)
  have O5 := Lib.hid (O5.out.put (by have := XS.out; omega) SO.other SO.size)
  have O6 := Lib.hid (O6.out.put (by have := XS.out; omega) SO.other SO.size)
  have O7 := Lib.hid (O7.out.put (by have := XS.out; omega) SO.other SO.size)
  clear SO
  have HA : Hid (∀ j, j < 8 → ∃ a k, (∀ w', Below Z2.heap.size Z2 w' → w'.cell? ⟨g + 1, j * 4, none⟩ = some (.int .i64 (BT j).kind) ∧ w'.cell? ⟨g + 1, j * 4 + 1, none⟩ = some (.int .i64 (BT j).num) ∧ w'.cell? ⟨g + 1, j * 4 + 2, none⟩ = some (.string (BT j).name) ∧ w'.cell? ⟨g + 1, j * 4 + 3, none⟩ = some (.slice a (BT j).args.length k)) ∧ (∀ w', Below Z2.heap.size Z2 w' → LiesT w' (BT j) (.slice a (BT j).args.length k))) := Lib.hid (by
    have hr : ∀ w', Below Z2.heap.size Z2 w' → ∀ i, w'.cell? ⟨g + 1, i, none⟩ = _ := fun w' hb i => (R3.out.below hb).cell i
    intro j hj
    match j, hj with
    | 0, _ => exact ⟨a0, c0, fun w' hb => ⟨hr w' hb 0, hr w' hb 1, hr w' hb 2, hr w' hb 3⟩, fun w' hb => (O0.out.below hb).lies⟩
    | 1, _ => exact ⟨a1, c1, fun w' hb => ⟨hr w' hb 4, hr w' hb 5, hr w' hb 6, hr w' hb 7⟩, fun w' hb => (O1.out.below hb).lies⟩
    | 2, _ => exact ⟨a2, c2, fun w' hb => ⟨hr w' hb 8, hr w' hb 9, hr w' hb 10, hr w' hb 11⟩, fun w' hb => (O2.out.below hb).lies⟩
    | 3, _ => exact ⟨a3, c3, fun w' hb => ⟨hr w' hb 12, hr w' hb 13, hr w' hb 14, hr w' hb 15⟩, fun w' hb => (O3.out.below hb).lies⟩
    | 4, _ => exact ⟨a4, c4, fun w' hb => ⟨hr w' hb 16, hr w' hb 17, hr w' hb 18, hr w' hb 19⟩, fun w' hb => (O4.out.below hb).lies⟩
    | 5, _ => exact ⟨a5, c5, fun w' hb => ⟨hr w' hb 20, hr w' hb 21, hr w' hb 22, hr w' hb 23⟩, fun w' hb => (O5.out.below hb).lies⟩
    | 6, _ => exact ⟨a6, c6, fun w' hb => ⟨hr w' hb 24, hr w' hb 25, hr w' hb 26, hr w' hb 27⟩, fun w' hb => (O6.out.below hb).lies⟩
    | 7, _ => exact ⟨a7, c7, fun w' hb => ⟨hr w' hb 28, hr w' hb 29, hr w' hb 30, hr w' hb 31⟩, fun w' hb => (O7.out.below hb).lies⟩)
  have HBQ : Hid (∀ j, j < 8 → ∀ w', Below Z2.heap.size Z2 w' → w'.cell? ⟨g + 1 + 1, j, none⟩ = some (.bool (QT j))) := Lib.hid (by
    intro j hj w' hb
    have hr := (R4.out.below hb).cell j
    match j, hj, hr with
    | 0, _, hr => exact hr
    | 1, _, hr => exact hr
    | 2, _, hr => exact hr
    | 3, _, hr => exact hr
    | 4, _, hr => exact hr
    | 5, _, hr => exact hr
    | 6, _, hr => exact hr
    | 7, _, hr => exact hr)
  have HRT : Hid (∀ w', Below Z2.heap.size Z2 w' → RowT w' g t (.slice va t.args.length vc)) := Lib.hid (fun w' hb => RT.out.below hb)
  have BZ2 := BB
  clear R3 R4 O0 O1 O2 O3 O4 O5 O6 O7
  have hv := HVV.out
  have HV := Lib.hid hv
  clear hv
  obtain ⟨p0, p1, p2, p3⟩ := (HRT.out _ (Below.refl _ _)).cells
  go_wp2_with fail
  refine (valid_is t _ true HV.out _ LT.out).mono ?_
  rintro e w9 ⟨rfl, hb9⟩
  have B9 := Lib.hid hb9
  clear hb9 p0 p1 p2 p3
  go_wp2_with fail
  go_loopw [29] (fun vi wr => ∃ j : Nat, j ≤ 8 ∧ vi = .int .i64 j ∧ Hid (Below Z2.heap.size Z2 wr)) (fun vi _ => 8 - (intOf vi).toNat)
  case atStart => exact ⟨0, by omega, rfl, B9⟩
  case round =>
    obtain ⟨j, hj, rfl, hb⟩ := hrel
    by_cases hlt : j < 8
    · cases hq : QT j
      · skip
        have his : isE (BT j) = true := by rw [(HF.out j).is, HV.out, hq]; rfl
        obtain ⟨a, k, hp, hl⟩ := HA.out j hlt
        have hbq := HBQ.out j hlt
        rw [hq] at hbq
        obtain ⟨B, hB⟩ : ∃ B, BT j = B := ⟨_, rfl⟩
        rw [hB] at his hp hl
        have HP := Lib.hid hp
        have HL := Lib.hid hl
        have HBJ := Lib.hid hbq
        have HCF : Hid (∀ w', Below Z2.heap.size Z2 w' → Calls Try.prog 32 #[tv B (.slice a B.args.length k)] w' (Chk0 (formT B) true w')) := Lib.hid (fun w' h => by have hh := Formal_any B _ w' (hl w' h); rw [his] at hh; exact hh)
        have HW := Lib.hid hb.out
        clear his hp hl hbq hq hB
        have lj0 : (0 : Int) ≤ (j : Int) := by omega
        have lj1 : (j : Int) < 8 := by omega
        obtain ⟨p0, p1, p2, p3⟩ := HP.out _ HW.out
        go_wp2_with fail
        refine (HCF.out _ HW.out).mono ?_
        rintro e w11 ⟨y, rfl, hy, hb11⟩
        obtain ⟨ya, yk, rfl⟩ := hy.slice
        have B11 : Hid (Below Z2.heap.size Z2 w11) := Lib.hid (HW.out.trans (hb11.mono HW.out.size))
        clear hy hb11 p0 p1 p2 p3
        go_upto_region 18 with fail
        have B12 := Lib.hid (B11.out.alloc B11.out.size (.cells #[.int .i64 (formT B).kind, .int .i64 (formT B).num, .string (formT B).name, .slice ya (formT B).args.length yk] 24))
        obtain ⟨p0, p1, p2, p3⟩ := HP.out _ B12.out
        have q0 := HBJ.out _ B12.out
        go_wp2_with fail
        have B13 := B12
        clear p0 p1 p2 p3 q0
        go_roundw
        case rel => exact ⟨j + 1, by omega, by go_num, B13⟩
        case measure => simp [intOf]; omega
      · skip
        have his : isE (BT j) = false := by rw [(HF.out j).is, HV.out, hq]; rfl
        have hz : BT j = z0 := (HF.out j).z his
        obtain ⟨a, k, hp, hl⟩ := HA.out j hlt
        have hbq := HBQ.out j hlt
        rw [hq] at hbq
        rw [hz] at his hp hl
        have HP := Lib.hid hp
        have HL := Lib.hid hl
        have HBJ := Lib.hid hbq
        have HCF : Hid (∀ w', Below Z2.heap.size Z2 w' → Calls Try.prog 32 #[tv z0 (.slice a z0.args.length k)] w' (Chk0 (formT z0) false w')) := Lib.hid (fun w' h => by have hh := Formal_any z0 _ w' (hl w' h); rw [his] at hh; exact hh)
        have HW := Lib.hid hb.out
        clear his hp hl hbq hq hz
        have lj0 : (0 : Int) ≤ (j : Int) := by omega
        have lj1 : (j : Int) < 8 := by omega
        obtain ⟨p0, p1, p2, p3⟩ := HP.out _ HW.out
        go_wp2_with fail
        refine (HCF.out _ HW.out).mono ?_
        rintro e w11 ⟨y, rfl, hy, hb11⟩
        obtain ⟨ya, yk, rfl⟩ := hy.slice
        have B11 : Hid (Below Z2.heap.size Z2 w11) := Lib.hid (HW.out.trans (hb11.mono HW.out.size))
        clear hy hb11 p0 p1 p2 p3
        go_upto_region 18 with fail
        have B12 := Lib.hid (B11.out.alloc B11.out.size (.cells #[.int .i64 (formT z0).kind, .int .i64 (formT z0).num, .string (formT z0).name, .slice ya (formT z0).args.length yk] 24))
        obtain ⟨p0, p1, p2, p3⟩ := HP.out _ B12.out
        have q0 := HBJ.out _ B12.out
        go_wp2_with fail
        refine (lsame_self z0 _ (.slice none 0 0) _ z0_valid (HL.out _ B12.out) (OwnT.lies (S := fun _ => True) _ _ zero_own)).mono ?_
        rintro e w12 ⟨rfl, hb12⟩
        have B13 : Hid (Below Z2.heap.size Z2 w12) := Lib.hid (B12.out.trans (hb12.mono B12.out.size))
        clear p0 p1 p2 p3 q0 hb12
        have q0 := HBJ.out _ B13.out
        go_wp2_with fail
        clear q0
        go_roundw
        case rel => exact ⟨j + 1, by omega, by go_num, B13⟩
        case measure => simp [intOf]; omega
    · obtain rfl : j = 8 := by omega
      clear HBQ
      have hk := HKK.out
      have HK := kind1 HV.out hk
      obtain ⟨h1, h2, h3, h4, h5, h6, h7, h8, h9⟩ := HD.out
      rw [h2, h3, h4, h5, h6, h7, h9] at HK
      clear h1 h2 h3 h4 h5 h6 h7 h8 h9
      obtain ⟨k0, k1, k2, k3, k4, k5, k7, rfl, rfl, rfl, rfl, rfl, k6⟩ := HK
      obtain ⟨n, hn⟩ : ∃ n, t.num = n := ⟨_, rfl⟩
      go_upto_region 20 with fail
      rw [k0, k1, k2, k3, k4, k5, k7, hn]
      rw [hn] at k6
      clear hn
      rcases k6 with ⟨k6, rfl, hlo, hhi⟩ | ⟨k6, rfl, hno⟩
      · rw [k6]
        have d1 : decide ((0 : Int) ≤ DN) = true := by simpa using hlo
        have d2 : decide (DN < (256 : Int)) = true := by simp; omega
        go_wp2_with fail
        refine (a_any _ _).mono ?_
        rintro e w31 ⟨rfl, hb31⟩
        have B31 := Lib.hid (hb.out.trans (hb31.mono hb.out.size))
        clear hb31
        go_wp2_with fail
        refine (error1_any (atmT ⟨#[105, 110, 115, 116, 97, 110, 116, 105, 97, 116, 105, 111, 110, 95, 101, 114, 114, 111, 114]⟩) _ _ (atom_lies (by simp [ByteArray.size]))).mono ?_
        rw [inst_err2]
        rintro e w32 ⟨yW, rfl, hyW, hb32⟩
        obtain ⟨aw, cw, rfl⟩ := hyW.slice
        have B32 := Lib.hid (B31.out.trans (hb32.mono B31.out.size))
        have HY := Lib.hid hyW
        clear hb32 hyW
        go_upto_region 25 with fail
        have B33 := Lib.hid (B32.out.alloc B32.out.size (.cells #[.int .i64 instT.kind, .int .i64 instT.num, .string instT.name, .slice aw instT.args.length cw] 24))
        obtain ⟨p0, p1, p2, p3⟩ := (HRT.out _ B33.out).cells
        rw [hk] at p0
        go_wp2_with fail
        refine (awake_any _).mono ?_
        rintro e w92 ⟨rfl, hb92⟩
        have BF := Lib.hid (B33.out.trans (hb92.mono B33.out.size))
        clear hb92
        go_wp2_with fail
        go_ret
        exact ⟨rfl, BZ2.out.trans (BF.out.mono BZ2.out.size)⟩
      · rw [k6]
        rcases Int.lt_or_le n 0 with hlo | hlo
        · have d1 : decide ((0 : Int) ≤ n) = false := by simp; omega
          go_wp2_with fail
          refine (a_any _ _).mono ?_
          rintro e w31 ⟨rfl, hb31⟩
          have B31 := Lib.hid (hb.out.trans (hb31.mono hb.out.size))
          clear hb31
          go_wp2_with fail
          refine (error1_any (atmT ⟨#[105, 110, 115, 116, 97, 110, 116, 105, 97, 116, 105, 111, 110, 95, 101, 114, 114, 111, 114]⟩) _ _ (atom_lies (by simp [ByteArray.size]))).mono ?_
          rw [inst_err2]
          rintro e w32 ⟨yW, rfl, hyW, hb32⟩
          obtain ⟨aw, cw, rfl⟩ := hyW.slice
          have B32 := Lib.hid (B31.out.trans (hb32.mono B31.out.size))
          have HY := Lib.hid hyW
          clear hb32 hyW
          go_upto_region 25 with fail
          have B33 := Lib.hid (B32.out.alloc B32.out.size (.cells #[.int .i64 instT.kind, .int .i64 instT.num, .string instT.name, .slice aw instT.args.length cw] 24))
          obtain ⟨p0, p1, p2, p3⟩ := (HRT.out _ B33.out).cells
          rw [hk] at p0
          go_wp2_with fail
          refine (awake_any _).mono ?_
          rintro e w92 ⟨rfl, hb92⟩
          have BF := Lib.hid (B33.out.trans (hb92.mono B33.out.size))
          clear hb92
          go_wp2_with fail
          go_ret
          exact ⟨rfl, BZ2.out.trans (BF.out.mono BZ2.out.size)⟩
        · have d1 : decide ((0 : Int) ≤ n) = true := by simp; omega
          have d2 : decide (n < (256 : Int)) = false := by simp; omega
          go_wp2_with fail
          refine (a_any _ _).mono ?_
          rintro e w31 ⟨rfl, hb31⟩
          have B31 := Lib.hid (hb.out.trans (hb31.mono hb.out.size))
          clear hb31
          go_wp2_with fail
          refine (error1_any (atmT ⟨#[105, 110, 115, 116, 97, 110, 116, 105, 97, 116, 105, 111, 110, 95, 101, 114, 114, 111, 114]⟩) _ _ (atom_lies (by simp [ByteArray.size]))).mono ?_
          rw [inst_err2]
          rintro e w32 ⟨yW, rfl, hyW, hb32⟩
          obtain ⟨aw, cw, rfl⟩ := hyW.slice
          have B32 := Lib.hid (B31.out.trans (hb32.mono B31.out.size))
          have HY := Lib.hid hyW
          clear hb32 hyW
          go_upto_region 25 with fail
          have B33 := Lib.hid (B32.out.alloc B32.out.size (.cells #[.int .i64 instT.kind, .int .i64 instT.num, .string instT.name, .slice aw instT.args.length cw] 24))
          obtain ⟨p0, p1, p2, p3⟩ := (HRT.out _ B33.out).cells
          rw [hk] at p0
          go_wp2_with fail
          refine (awake_any _).mono ?_
          rintro e w92 ⟨rfl, hb92⟩
          have BF := Lib.hid (B33.out.trans (hb92.mono B33.out.size))
          clear hb92
          go_wp2_with fail
          go_ret
          exact ⟨rfl, BZ2.out.trans (BF.out.mono BZ2.out.size)⟩
end Go.Proofs.Yteilodihjhdngaa
