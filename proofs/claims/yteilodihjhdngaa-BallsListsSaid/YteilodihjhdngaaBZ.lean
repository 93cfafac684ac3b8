/- The laws BallsKinds and BallsParts. -/
import Derived.Test.YteilodihjhdngaaBXY
import Derived.Test.YteilodihjhdngaaB7
set_option linter.unusedVariables false
set_option linter.unusedSimpArgs false
namespace Go.Proofs.Yteilodihjhdngaa
open Go.RowKit Go.Proofs.HT

theorem elF_fine : ∀ (m : Nat) (t : Tm), cnt t ≤ 2000 → nodesB t = true → (∀ u ∈ (elF m t).1, validB u = true) ∧ (elF m t).1.length ≤ cnt t
  | 0, t, _, _ => by simp [elF]
  | m + 1, t, hc, hn => by
    rcases Bool.eq_false_or_eq_true (isPairB t) with hp | hp
    · obtain ⟨k, x, y, rfl⟩ := pair_of hp
      have hy := nodes_at hn
      have h2 : cnt y ≤ 2000 ∧ cnt x ≤ 2000 := by simp [cnt, cntL] at hc; omega
      have ih := elF_fine m y h2.1 (hy.2 1 (by simp))
      rw [elF_pair]
      refine ⟨fun u hu => ?_, ?_⟩
      · rcases List.mem_cons.1 hu with rfl | hu
        · simp only [validB, Bool.and_eq_true, decide_eq_true_eq]
          exact ⟨h2.2, hy.2 0 (by simp)⟩
        · exact ih.1 u hu
      · have := cnt_pos x
        simp only [List.length_cons, cnt, cntL]
        have := ih.2
        omega
    · rw [elF_not _ _ hp]; simp
theorem lsL_fine (t : Tm) : (∀ u ∈ lsL t, validB u = true) ∧ (lsL t).length ≤ 1000000 := by
  unfold lsL
  split
  · rename_i h
    have hv : validB t = true := by simp only [lsO, Bool.and_eq_true] at h; exact h.1
    have hv2 := hv
    simp only [validB, Bool.and_eq_true, decide_eq_true_eq] at hv2
    have := elF_fine (cnt t) t hv2.1 hv2.2
    exact ⟨this.1, by have h := this.2; unfold elemsT; omega⟩
  · simp
set_option maxHeartbeats 16000000 in
theorem kinds_walk (t : Tm) (v : Value) (w : World) (h : LiesT w t v) : Calls Try.prog 5 #[tv t v] w fun e w' => e = .returned (.bool true) ∧ Below w.heap.size w w' := by
  obtain ⟨va, vc, rfl⟩ : ∃ a k, v = .slice a t.args.length k := h.slice
  obtain ⟨e0_0, he0_0⟩ : ∃ x, atomS t = x := ⟨_, rfl⟩
  obtain ⟨B0, hB0⟩ : ∃ x, chkB t ⟨#[97, 116, 111, 109]⟩ (t.kind == 2) = x := ⟨_, rfl⟩
  obtain ⟨o0, ho0⟩ : ∃ x, chkO t (t.kind == 2) = x := ⟨_, rfl⟩
  have HP0 : Hid (∀ w0, LiesT w0 t (.slice va t.args.length vc) → Calls Try.prog 35 #[tv t (.slice va t.args.length vc)] w0 (Chk1 (.string e0_0) B0 o0 w0)) := Lib.hid (fun w0 h => by rw [← he0_0, ← hB0, ← ho0]; exact bAtom_any t _ w0 h)
  have HQ0 : Hid (∀ w0, LiesT w0 t (.slice va t.args.length vc) → Calls Try.prog 36 #[tv t (.slice va t.args.length vc)] w0 (Chk1 (.string e0_0) B0 o0 w0)) := Lib.hid (fun w0 h => by rw [← he0_0, ← hB0, ← ho0]; exact rAtom_any t _ w0 h)
  have V0 : Hid (validB B0 = true) := Lib.hid (by rw [← hB0]; exact chkB_valid _ _ _)
  clear hB0 ho0 he0_0
  have o01 : (o0 == o0) = true := by cases o0 <;> rfl
  have o02 : (o0 != o0) = false := by cases o0 <;> rfl
  have qe0_0 : (e0_0.toList != e0_0.toList) = false := by simp
  have re0_0 : (e0_0.toList == e0_0.toList) = true := by simp
  obtain ⟨e1_0, he1_0⟩ : ∃ x, intN t = x := ⟨_, rfl⟩
  obtain ⟨B1, hB1⟩ : ∃ x, chkB t ⟨#[105, 110, 116, 101, 103, 101, 114]⟩ (t.kind == 1) = x := ⟨_, rfl⟩
  obtain ⟨o1, ho1⟩ : ∃ x, chkO t (t.kind == 1) = x := ⟨_, rfl⟩
  have HP1 : Hid (∀ w0, LiesT w0 t (.slice va t.args.length vc) → Calls Try.prog 37 #[tv t (.slice va t.args.length vc)] w0 (Chk1 (.int .i64 e1_0) B1 o1 w0)) := Lib.hid (fun w0 h => by rw [← he1_0, ← hB1, ← ho1]; exact bInt_any t _ w0 h)
  have HQ1 : Hid (∀ w0, LiesT w0 t (.slice va t.args.length vc) → Calls Try.prog 38 #[tv t (.slice va t.args.length vc)] w0 (Chk1 (.int .i64 e1_0) B1 o1 w0)) := Lib.hid (fun w0 h => by rw [← he1_0, ← hB1, ← ho1]; exact rInt_any t _ w0 h)
  have V1 : Hid (validB B1 = true) := Lib.hid (by rw [← hB1]; exact chkB_valid _ _ _)
  clear hB1 ho1 he1_0
  have o11 : (o1 == o1) = true := by cases o1 <;> rfl
  have o12 : (o1 != o1) = false := by cases o1 <;> rfl
  have qe1_0 : (e1_0 != e1_0) = false := by simp
  have re1_0 : (e1_0 == e1_0) = true := by simp
  obtain ⟨B2, hB2⟩ : ∃ x, chkB t ⟨#[99, 97, 108, 108, 97, 98, 108, 101]⟩ (t.kind != 1) = x := ⟨_, rfl⟩
  obtain ⟨o2, ho2⟩ : ∃ x, chkO t (t.kind != 1) = x := ⟨_, rfl⟩
  have HP2 : Hid (∀ w0, LiesT w0 t (.slice va t.args.length vc) → Calls Try.prog 39 #[tv t (.slice va t.args.length vc)] w0 (Chk0  B2 o2 w0)) := Lib.hid (fun w0 h => by rw [← hB2, ← ho2]; exact Callable_any t _ w0 h)
  have HQ2 : Hid (∀ w0, LiesT w0 t (.slice va t.args.length vc) → Calls Try.prog 40 #[tv t (.slice va t.args.length vc)] w0 (Chk0  B2 o2 w0)) := Lib.hid (fun w0 h => by rw [← hB2, ← ho2]; exact rCallable_any t _ w0 h)
  have V2 : Hid (validB B2 = true) := Lib.hid (by rw [← hB2]; exact chkB_valid _ _ _)
  clear hB2 ho2
  have o21 : (o2 == o2) = true := by cases o2 <;> rfl
  have o22 : (o2 != o2) = false := by cases o2 <;> rfl
  obtain ⟨B3, hB3⟩ : ∃ x, chkB t ⟨#[97, 116, 111, 109, 105, 99]⟩ (t.kind != 3) = x := ⟨_, rfl⟩
  obtain ⟨o3, ho3⟩ : ∃ x, chkO t (t.kind != 3) = x := ⟨_, rfl⟩
  have HP3 : Hid (∀ w0, LiesT w0 t (.slice va t.args.length vc) → Calls Try.prog 41 #[tv t (.slice va t.args.length vc)] w0 (Chk0  B3 o3 w0)) := Lib.hid (fun w0 h => by rw [← hB3, ← ho3]; exact Atomic_any t _ w0 h)
  have HQ3 : Hid (∀ w0, LiesT w0 t (.slice va t.args.length vc) → Calls Try.prog 42 #[tv t (.slice va t.args.length vc)] w0 (Chk0  B3 o3 w0)) := Lib.hid (fun w0 h => by rw [← hB3, ← ho3]; exact rAtomic_any t _ w0 h)
  have V3 : Hid (validB B3 = true) := Lib.hid (by rw [← hB3]; exact chkB_valid _ _ _)
  clear hB3 ho3
  have o31 : (o3 == o3) = true := by cases o3 <;> rfl
  have o32 : (o3 != o3) = false := by cases o3 <;> rfl
  have BB := Lib.hid (Below.refl w.heap.size w)
  have LL1 := Lib.hid (h)
  have LL1 := Lib.hid (LL1.out.below (al0 w (.cells #[.int .i64 t.kind, .int .i64 t.num, .string t.name, .slice va t.args.length vc] 24)))
  have RR2 := Lib.hid (RowT.new w t (.slice va t.args.length vc))
  have BB := Lib.hid (BB.out.alloc BB.out.size (.cells #[.int .i64 t.kind, .int .i64 t.num, .string t.name, .slice va t.args.length vc] 24))
  clear h
  simp only [tv]
  go_enter Try.func5, Try.ntmps5
  go_wp2_with fail
  refine (HP0.out _ LL1.out).mono ?_
  rintro e w1 ⟨y, rfl, hy, hb1⟩
  have RR2 := Lib.hid (RR2.out.below hb1)
  have LL1 := Lib.hid (LL1.out.below hb1)
  have BB := Lib.hid (BB.out.trans (hb1.mono BB.out.size))
  obtain ⟨aP0, cP0, rfl⟩ := hy.slice
  have LL3 := Lib.hid (OwnT.lies _ _ hy)
  clear hy
  clear hb1
  have RR2 := Lib.hid (RR2.out.below (al0 w1 (.cells #[.int .i64 B0.kind, .int .i64 B0.num, .string B0.name, .slice aP0 B0.args.length cP0] 24)))
  have LL1 := Lib.hid (LL1.out.below (al0 w1 (.cells #[.int .i64 B0.kind, .int .i64 B0.num, .string B0.name, .slice aP0 B0.args.length cP0] 24)))
  have LL3 := Lib.hid (LL3.out.below (al0 w1 (.cells #[.int .i64 B0.kind, .int .i64 B0.num, .string B0.name, .slice aP0 B0.args.length cP0] 24)))
  have RR4 := Lib.hid (RowT.new w1 B0 (.slice aP0 B0.args.length cP0))
  have BB := Lib.hid (BB.out.alloc BB.out.size (.cells #[.int .i64 B0.kind, .int .i64 B0.num, .string B0.name, .slice aP0 B0.args.length cP0] 24))
  obtain ⟨xRR2_0, xRR2_1, xRR2_2, xRR2_3⟩ := RR2.out.cells
  go_wp2_with fail
  refine (HQ0.out _ LL1.out).mono ?_
  rintro e w2 ⟨y, rfl, hy, hb2⟩
  clear xRR2_0 xRR2_1 xRR2_2 xRR2_3
  have RR2 := Lib.hid (RR2.out.below hb2)
  have RR4 := Lib.hid (RR4.out.below hb2)
  have LL1 := Lib.hid (LL1.out.below hb2)
  have LL3 := Lib.hid (LL3.out.below hb2)
  have BB := Lib.hid (BB.out.trans (hb2.mono BB.out.size))
  obtain ⟨aQ0, cQ0, rfl⟩ := hy.slice
  have LL5 := Lib.hid (OwnT.lies _ _ hy)
  clear hy
  clear hb2
  have RR2 := Lib.hid (RR2.out.below (al0 w2 (.cells #[.int .i64 B0.kind, .int .i64 B0.num, .string B0.name, .slice aQ0 B0.args.length cQ0] 24)))
  have RR4 := Lib.hid (RR4.out.below (al0 w2 (.cells #[.int .i64 B0.kind, .int .i64 B0.num, .string B0.name, .slice aQ0 B0.args.length cQ0] 24)))
  have LL1 := Lib.hid (LL1.out.below (al0 w2 (.cells #[.int .i64 B0.kind, .int .i64 B0.num, .string B0.name, .slice aQ0 B0.args.length cQ0] 24)))
  have LL3 := Lib.hid (LL3.out.below (al0 w2 (.cells #[.int .i64 B0.kind, .int .i64 B0.num, .string B0.name, .slice aQ0 B0.args.length cQ0] 24)))
  have LL5 := Lib.hid (LL5.out.below (al0 w2 (.cells #[.int .i64 B0.kind, .int .i64 B0.num, .string B0.name, .slice aQ0 B0.args.length cQ0] 24)))
  have RR6 := Lib.hid (RowT.new w2 B0 (.slice aQ0 B0.args.length cQ0))
  have BB := Lib.hid (BB.out.alloc BB.out.size (.cells #[.int .i64 B0.kind, .int .i64 B0.num, .string B0.name, .slice aQ0 B0.args.length cQ0] 24))
  obtain ⟨xRR4_0, xRR4_1, xRR4_2, xRR4_3⟩ := RR4.out.cells
  go_wp2_with fail
  refine (lsame_self B0 _ _ _ V0.out LL3.out LL5.out).mono ?_
  rintro e w3 ⟨rfl, hb3⟩
  clear xRR4_0 xRR4_1 xRR4_2 xRR4_3
  have RR2 := Lib.hid (RR2.out.below hb3)
  have RR4 := Lib.hid (RR4.out.below hb3)
  have RR6 := Lib.hid (RR6.out.below hb3)
  have LL1 := Lib.hid (LL1.out.below hb3)
  have LL3 := Lib.hid (LL3.out.below hb3)
  have LL5 := Lib.hid (LL5.out.below hb3)
  have BB := Lib.hid (BB.out.trans (hb3.mono BB.out.size))
  clear hb3
  clear LL3 LL5 RR4 RR6
  obtain ⟨xRR2_0, xRR2_1, xRR2_2, xRR2_3⟩ := RR2.out.cells
  go_wp2_with fail
  refine (HP1.out _ LL1.out).mono ?_
  rintro e w4 ⟨y, rfl, hy, hb4⟩
  clear xRR2_0 xRR2_1 xRR2_2 xRR2_3
  have RR2 := Lib.hid (RR2.out.below hb4)
  have LL1 := Lib.hid (LL1.out.below hb4)
  have BB := Lib.hid (BB.out.trans (hb4.mono BB.out.size))
  obtain ⟨aP1, cP1, rfl⟩ := hy.slice
  have LL7 := Lib.hid (OwnT.lies _ _ hy)
  clear hy
  clear hb4
  have RR2 := Lib.hid (RR2.out.below (al0 w4 (.cells #[.int .i64 B1.kind, .int .i64 B1.num, .string B1.name, .slice aP1 B1.args.length cP1] 24)))
  have LL1 := Lib.hid (LL1.out.below (al0 w4 (.cells #[.int .i64 B1.kind, .int .i64 B1.num, .string B1.name, .slice aP1 B1.args.length cP1] 24)))
  have LL7 := Lib.hid (LL7.out.below (al0 w4 (.cells #[.int .i64 B1.kind, .int .i64 B1.num, .string B1.name, .slice aP1 B1.args.length cP1] 24)))
  have RR8 := Lib.hid (RowT.new w4 B1 (.slice aP1 B1.args.length cP1))
  have BB := Lib.hid (BB.out.alloc BB.out.size (.cells #[.int .i64 B1.kind, .int .i64 B1.num, .string B1.name, .slice aP1 B1.args.length cP1] 24))
  obtain ⟨xRR2_0, xRR2_1, xRR2_2, xRR2_3⟩ := RR2.out.cells
  go_wp2_with fail
  refine (HQ1.out _ LL1.out).mono ?_
  rintro e w5 ⟨y, rfl, hy, hb5⟩
  clear xRR2_0 xRR2_1 xRR2_2 xRR2_3
  have RR2 := Lib.hid (RR2.out.below hb5)
  have RR8 := Lib.hid (RR8.out.below hb5)
  have LL1 := Lib.hid (LL1.out.below hb5)
  have LL7 := Lib.hid (LL7.out.below hb5)
  have BB := Lib.hid (BB.out.trans (hb5.mono BB.out.size))
  obtain ⟨aQ1, cQ1, rfl⟩ := hy.slice
  have LL9 := Lib.hid (OwnT.lies _ _ hy)
  clear hy
  clear hb5
  have RR2 := Lib.hid (RR2.out.below (al0 w5 (.cells #[.int .i64 B1.kind, .int .i64 B1.num, .string B1.name, .slice aQ1 B1.args.length cQ1] 24)))
  have RR8 := Lib.hid (RR8.out.below (al0 w5 (.cells #[.int .i64 B1.kind, .int .i64 B1.num, .string B1.name, .slice aQ1 B1.args.length cQ1] 24)))
  have LL1 := Lib.hid (LL1.out.below (al0 w5 (.cells #[.int .i64 B1.kind, .int .i64 B1.num, .string B1.name, .slice aQ1 B1.args.length cQ1] 24)))
  have LL7 := Lib.hid (LL7.out.below (al0 w5 (.cells #[.int .i64 B1.kind, .int .i64 B1.num, .string B1.name, .slice aQ1 B1.args.length cQ1] 24)))
  have LL9 := Lib.hid (LL9.out.below (al0 w5 (.cells #[.int .i64 B1.kind, .int .i64 B1.num, .string B1.name, .slice aQ1 B1.args.length cQ1] 24)))
  have RR10 := Lib.hid (RowT.new w5 B1 (.slice aQ1 B1.args.length cQ1))
  have BB := Lib.hid (BB.out.alloc BB.out.size (.cells #[.int .i64 B1.kind, .int .i64 B1.num, .string B1.name, .slice aQ1 B1.args.length cQ1] 24))
  obtain ⟨xRR8_0, xRR8_1, xRR8_2, xRR8_3⟩ := RR8.out.cells
  go_wp2_with fail
  refine (lsame_self B1 _ _ _ V1.out LL7.out LL9.out).mono ?_
  rintro e w6 ⟨rfl, hb6⟩
  clear xRR8_0 xRR8_1 xRR8_2 xRR8_3
  have RR2 := Lib.hid (RR2.out.below hb6)
  have RR8 := Lib.hid (RR8.out.below hb6)
  have RR10 := Lib.hid (RR10.out.below hb6)
  have LL1 := Lib.hid (LL1.out.below hb6)
  have LL7 := Lib.hid (LL7.out.below hb6)
  have LL9 := Lib.hid (LL9.out.below hb6)
  have BB := Lib.hid (BB.out.trans (hb6.mono BB.out.size))
  clear hb6
  clear LL7 LL9 RR8 RR10
  obtain ⟨xRR2_0, xRR2_1, xRR2_2, xRR2_3⟩ := RR2.out.cells
  go_wp2_with fail
  refine (HP2.out _ LL1.out).mono ?_
  rintro e w7 ⟨y, rfl, hy, hb7⟩
  clear xRR2_0 xRR2_1 xRR2_2 xRR2_3
  have RR2 := Lib.hid (RR2.out.below hb7)
  have LL1 := Lib.hid (LL1.out.below hb7)
  have BB := Lib.hid (BB.out.trans (hb7.mono BB.out.size))
  obtain ⟨aP2, cP2, rfl⟩ := hy.slice
  have LL11 := Lib.hid (OwnT.lies _ _ hy)
  clear hy
  clear hb7
  have RR2 := Lib.hid (RR2.out.below (al0 w7 (.cells #[.int .i64 B2.kind, .int .i64 B2.num, .string B2.name, .slice aP2 B2.args.length cP2] 24)))
  have LL1 := Lib.hid (LL1.out.below (al0 w7 (.cells #[.int .i64 B2.kind, .int .i64 B2.num, .string B2.name, .slice aP2 B2.args.length cP2] 24)))
  have LL11 := Lib.hid (LL11.out.below (al0 w7 (.cells #[.int .i64 B2.kind, .int .i64 B2.num, .string B2.name, .slice aP2 B2.args.length cP2] 24)))
  have RR12 := Lib.hid (RowT.new w7 B2 (.slice aP2 B2.args.length cP2))
  have BB := Lib.hid (BB.out.alloc BB.out.size (.cells #[.int .i64 B2.kind, .int .i64 B2.num, .string B2.name, .slice aP2 B2.args.length cP2] 24))
  obtain ⟨xRR2_0, xRR2_1, xRR2_2, xRR2_3⟩ := RR2.out.cells
  go_wp2_with fail
  refine (HQ2.out _ LL1.out).mono ?_
  rintro e w8 ⟨y, rfl, hy, hb8⟩
  clear xRR2_0 xRR2_1 xRR2_2 xRR2_3
  have RR2 := Lib.hid (RR2.out.below hb8)
  have RR12 := Lib.hid (RR12.out.below hb8)
  have LL1 := Lib.hid (LL1.out.below hb8)
  have LL11 := Lib.hid (LL11.out.below hb8)
  have BB := Lib.hid (BB.out.trans (hb8.mono BB.out.size))
  obtain ⟨aQ2, cQ2, rfl⟩ := hy.slice
  have LL13 := Lib.hid (OwnT.lies _ _ hy)
  clear hy
  clear hb8
  have RR2 := Lib.hid (RR2.out.below (al0 w8 (.cells #[.int .i64 B2.kind, .int .i64 B2.num, .string B2.name, .slice aQ2 B2.args.length cQ2] 24)))
  have RR12 := Lib.hid (RR12.out.below (al0 w8 (.cells #[.int .i64 B2.kind, .int .i64 B2.num, .string B2.name, .slice aQ2 B2.args.length cQ2] 24)))
  have LL1 := Lib.hid (LL1.out.below (al0 w8 (.cells #[.int .i64 B2.kind, .int .i64 B2.num, .string B2.name, .slice aQ2 B2.args.length cQ2] 24)))
  have LL11 := Lib.hid (LL11.out.below (al0 w8 (.cells #[.int .i64 B2.kind, .int .i64 B2.num, .string B2.name, .slice aQ2 B2.args.length cQ2] 24)))
  have LL13 := Lib.hid (LL13.out.below (al0 w8 (.cells #[.int .i64 B2.kind, .int .i64 B2.num, .string B2.name, .slice aQ2 B2.args.length cQ2] 24)))
  have RR14 := Lib.hid (RowT.new w8 B2 (.slice aQ2 B2.args.length cQ2))
  have BB := Lib.hid (BB.out.alloc BB.out.size (.cells #[.int .i64 B2.kind, .int .i64 B2.num, .string B2.name, .slice aQ2 B2.args.length cQ2] 24))
  obtain ⟨xRR12_0, xRR12_1, xRR12_2, xRR12_3⟩ := RR12.out.cells
  go_wp2_with fail
  refine (lsame_self B2 _ _ _ V2.out LL11.out LL13.out).mono ?_
  rintro e w9 ⟨rfl, hb9⟩
  clear xRR12_0 xRR12_1 xRR12_2 xRR12_3
  have RR2 := Lib.hid (RR2.out.below hb9)
  have RR12 := Lib.hid (RR12.out.below hb9)
  have RR14 := Lib.hid (RR14.out.below hb9)
  have LL1 := Lib.hid (LL1.out.below hb9)
  have LL11 := Lib.hid (LL11.out.below hb9)
  have LL13 := Lib.hid (LL13.out.below hb9)
  have BB := Lib.hid (BB.out.trans (hb9.mono BB.out.size))
  clear hb9
  clear LL11 LL13 RR12 RR14
  obtain ⟨xRR2_0, xRR2_1, xRR2_2, xRR2_3⟩ := RR2.out.cells
  go_wp2_with fail
  refine (HP3.out _ LL1.out).mono ?_
  rintro e w10 ⟨y, rfl, hy, hb10⟩
  clear xRR2_0 xRR2_1 xRR2_2 xRR2_3
  have RR2 := Lib.hid (RR2.out.below hb10)
  have LL1 := Lib.hid (LL1.out.below hb10)
  have BB := Lib.hid (BB.out.trans (hb10.mono BB.out.size))
  obtain ⟨aP3, cP3, rfl⟩ := hy.slice
  have LL15 := Lib.hid (OwnT.lies _ _ hy)
  clear hy
  clear hb10
  have RR2 := Lib.hid (RR2.out.below (al0 w10 (.cells #[.int .i64 B3.kind, .int .i64 B3.num, .string B3.name, .slice aP3 B3.args.length cP3] 24)))
  have LL1 := Lib.hid (LL1.out.below (al0 w10 (.cells #[.int .i64 B3.kind, .int .i64 B3.num, .string B3.name, .slice aP3 B3.args.length cP3] 24)))
  have LL15 := Lib.hid (LL15.out.below (al0 w10 (.cells #[.int .i64 B3.kind, .int .i64 B3.num, .string B3.name, .slice aP3 B3.args.length cP3] 24)))
  have RR16 := Lib.hid (RowT.new w10 B3 (.slice aP3 B3.args.length cP3))
  have BB := Lib.hid (BB.out.alloc BB.out.size (.cells #[.int .i64 B3.kind, .int .i64 B3.num, .string B3.name, .slice aP3 B3.args.length cP3] 24))
  obtain ⟨xRR2_0, xRR2_1, xRR2_2, xRR2_3⟩ := RR2.out.cells
  go_wp2_with fail
  refine (HQ3.out _ LL1.out).mono ?_
  rintro e w11 ⟨y, rfl, hy, hb11⟩
  clear xRR2_0 xRR2_1 xRR2_2 xRR2_3
  have RR2 := Lib.hid (RR2.out.below hb11)
  have RR16 := Lib.hid (RR16.out.below hb11)
  have LL1 := Lib.hid (LL1.out.below hb11)
  have LL15 := Lib.hid (LL15.out.below hb11)
  have BB := Lib.hid (BB.out.trans (hb11.mono BB.out.size))
  obtain ⟨aQ3, cQ3, rfl⟩ := hy.slice
  have LL17 := Lib.hid (OwnT.lies _ _ hy)
  clear hy
  clear hb11
  have RR2 := Lib.hid (RR2.out.below (al0 w11 (.cells #[.int .i64 B3.kind, .int .i64 B3.num, .string B3.name, .slice aQ3 B3.args.length cQ3] 24)))
  have RR16 := Lib.hid (RR16.out.below (al0 w11 (.cells #[.int .i64 B3.kind, .int .i64 B3.num, .string B3.name, .slice aQ3 B3.args.length cQ3] 24)))
  have LL1 := Lib.hid (LL1.out.below (al0 w11 (.cells #[.int .i64 B3.kind, .int .i64 B3.num, .string B3.name, .slice aQ3 B3.args.length cQ3] 24)))
  have LL15 := Lib.hid (LL15.out.below (al0 w11 (.cells #[.int .i64 B3.kind, .int .i64 B3.num, .string B3.name, .slice aQ3 B3.args.length cQ3] 24)))
  have LL17 := Lib.hid (LL17.out.below (al0 w11 (.cells #[.int .i64 B3.kind, .int .i64 B3.num, .string B3.name, .slice aQ3 B3.args.length cQ3] 24)))
  have RR18 := Lib.hid (RowT.new w11 B3 (.slice aQ3 B3.args.length cQ3))
  have BB := Lib.hid (BB.out.alloc BB.out.size (.cells #[.int .i64 B3.kind, .int .i64 B3.num, .string B3.name, .slice aQ3 B3.args.length cQ3] 24))
  obtain ⟨xRR16_0, xRR16_1, xRR16_2, xRR16_3⟩ := RR16.out.cells
  go_wp2_with fail
  refine (lsame_self B3 _ _ _ V3.out LL15.out LL17.out).mono ?_
  rintro e w12 ⟨rfl, hb12⟩
  clear xRR16_0 xRR16_1 xRR16_2 xRR16_3
  have RR2 := Lib.hid (RR2.out.below hb12)
  have RR16 := Lib.hid (RR16.out.below hb12)
  have RR18 := Lib.hid (RR18.out.below hb12)
  have LL1 := Lib.hid (LL1.out.below hb12)
  have LL15 := Lib.hid (LL15.out.below hb12)
  have LL17 := Lib.hid (LL17.out.below hb12)
  have BB := Lib.hid (BB.out.trans (hb12.mono BB.out.size))
  clear hb12
  clear LL15 LL17 RR16 RR18
  go_wp2_with fail
  refine (awake_any _).mono ?_
  rintro e w13 ⟨rfl, hb13⟩
  have RR2 := Lib.hid (RR2.out.below hb13)
  have LL1 := Lib.hid (LL1.out.below hb13)
  have BB := Lib.hid (BB.out.trans (hb13.mono BB.out.size))
  clear hb13
  go_wp2_with fail
  go_ret
  exact ⟨rfl, BB.out⟩
set_option maxHeartbeats 16000000 in
theorem parts_walk (t : Tm) (v : Value) (w : World) (h : LiesT w t v) : Calls Try.prog 6 #[tv t v] w fun e w' => e = .returned (.bool true) ∧ Below w.heap.size w w' := by
  obtain ⟨va, vc, rfl⟩ : ∃ a k, v = .slice a t.args.length k := h.slice
  obtain ⟨e0_0, he0_0⟩ : ∃ x, lsL t = x := ⟨_, rfl⟩
  obtain ⟨B0, hB0⟩ : ∃ x, lsB t = x := ⟨_, rfl⟩
  obtain ⟨o0, ho0⟩ : ∃ x, lsO t = x := ⟨_, rfl⟩
  have HP0 : Hid (∀ w0, LiesT w0 t (.slice va t.args.length vc) → Calls Try.prog 43 #[tv t (.slice va t.args.length vc)] w0 (ChkL e0_0 B0 o0 w0)) := Lib.hid (fun w0 h => by rw [← he0_0, ← hB0, ← ho0]; exact List_any t _ w0 h)
  have HQ0 : Hid (∀ w0, LiesT w0 t (.slice va t.args.length vc) → Calls Try.prog 44 #[tv t (.slice va t.args.length vc)] w0 (ChkL e0_0 B0 o0 w0)) := Lib.hid (fun w0 h => by rw [← he0_0, ← hB0, ← ho0]; exact rList_any t _ w0 h)
  have V0 : Hid (validB B0 = true) := Lib.hid (by rw [← hB0]; exact lsB_valid t)
  have VL0 : Hid ((∀ u ∈ e0_0, validB u = true) ∧ e0_0.length ≤ 1000000) := Lib.hid (by rw [← he0_0]; exact lsL_fine t)
  clear hB0 ho0 he0_0
  have o01 : (o0 == o0) = true := by cases o0 <;> rfl
  have o02 : (o0 != o0) = false := by cases o0 <;> rfl
  obtain ⟨e1_0, he1_0⟩ : ∃ x, chN t = x := ⟨_, rfl⟩
  obtain ⟨B1, hB1⟩ : ∃ x, chkB t ⟨#[99, 104, 97, 114, 97, 99, 116, 101, 114]⟩ (chQ t) = x := ⟨_, rfl⟩
  obtain ⟨o1, ho1⟩ : ∃ x, chkO t (chQ t) = x := ⟨_, rfl⟩
  have HP1 : Hid (∀ w0, LiesT w0 t (.slice va t.args.length vc) → Calls Try.prog 45 #[tv t (.slice va t.args.length vc)] w0 (Chk1 (.int .i64 e1_0) B1 o1 w0)) := Lib.hid (fun w0 h => by rw [← he1_0, ← hB1, ← ho1]; exact Char_any t _ w0 h)
  have HQ1 : Hid (∀ w0, LiesT w0 t (.slice va t.args.length vc) → Calls Try.prog 46 #[tv t (.slice va t.args.length vc)] w0 (Chk1 (.int .i64 e1_0) B1 o1 w0)) := Lib.hid (fun w0 h => by rw [← he1_0, ← hB1, ← ho1]; exact rChar_any t _ w0 h)
  have V1 : Hid (validB B1 = true) := Lib.hid (by rw [← hB1]; exact chkB_valid _ _ _)
  clear hB1 ho1 he1_0
  have o11 : (o1 == o1) = true := by cases o1 <;> rfl
  have o12 : (o1 != o1) = false := by cases o1 <;> rfl
  have qe1_0 : (e1_0 != e1_0) = false := by simp
  have re1_0 : (e1_0 == e1_0) = true := by simp
  obtain ⟨e2_0, he2_0⟩ : ∃ x, codeN t = x := ⟨_, rfl⟩
  obtain ⟨B2, hB2⟩ : ∃ x, codeB t = x := ⟨_, rfl⟩
  obtain ⟨o2, ho2⟩ : ∃ x, codeO t = x := ⟨_, rfl⟩
  have HP2 : Hid (∀ w0, LiesT w0 t (.slice va t.args.length vc) → Calls Try.prog 47 #[tv t (.slice va t.args.length vc)] w0 (Chk1 (.int .i64 e2_0) B2 o2 w0)) := Lib.hid (fun w0 h => by rw [← he2_0, ← hB2, ← ho2]; exact Code_any t _ w0 h)
  have HQ2 : Hid (∀ w0, LiesT w0 t (.slice va t.args.length vc) → Calls Try.prog 48 #[tv t (.slice va t.args.length vc)] w0 (Chk1 (.int .i64 e2_0) B2 o2 w0)) := Lib.hid (fun w0 h => by rw [← he2_0, ← hB2, ← ho2]; exact rCode_any t _ w0 h)
  have V2 : Hid (validB B2 = true) := Lib.hid (by rw [← hB2]; exact codeB_valid t)
  clear hB2 ho2 he2_0
  have o21 : (o2 == o2) = true := by cases o2 <;> rfl
  have o22 : (o2 != o2) = false := by cases o2 <;> rfl
  have qe2_0 : (e2_0 != e2_0) = false := by simp
  have re2_0 : (e2_0 == e2_0) = true := by simp
  obtain ⟨e3_0, he3_0⟩ : ∃ x, indS t = x := ⟨_, rfl⟩
  obtain ⟨e3_1, he3_1⟩ : ∃ x, indN t = x := ⟨_, rfl⟩
  obtain ⟨B3, hB3⟩ : ∃ x, indB t = x := ⟨_, rfl⟩
  obtain ⟨o3, ho3⟩ : ∃ x, indO t = x := ⟨_, rfl⟩
  have HP3 : Hid (∀ w0, LiesT w0 t (.slice va t.args.length vc) → Calls Try.prog 49 #[tv t (.slice va t.args.length vc)] w0 (Chk2 (.string e3_0) (.int .i64 e3_1) B3 o3 w0)) := Lib.hid (fun w0 h => by rw [← he3_0, ← he3_1, ← hB3, ← ho3]; exact Indicator_any t _ w0 h)
  have HQ3 : Hid (∀ w0, LiesT w0 t (.slice va t.args.length vc) → Calls Try.prog 50 #[tv t (.slice va t.args.length vc)] w0 (Chk2 (.string e3_0) (.int .i64 e3_1) B3 o3 w0)) := Lib.hid (fun w0 h => by rw [← he3_0, ← he3_1, ← hB3, ← ho3]; exact rIndicator_any t _ w0 h)
  have V3 : Hid (validB B3 = true) := Lib.hid (by rw [← hB3]; exact indB_valid t)
  clear hB3 ho3 he3_0 he3_1
  have o31 : (o3 == o3) = true := by cases o3 <;> rfl
  have o32 : (o3 != o3) = false := by cases o3 <;> rfl
  have qe3_0 : (e3_0.toList != e3_0.toList) = false := by simp
  have re3_0 : (e3_0.toList == e3_0.toList) = true := by simp
  have qe3_1 : (e3_1 != e3_1) = false := by simp
  have re3_1 : (e3_1 == e3_1) = true := by simp
  have BB := Lib.hid (Below.refl w.heap.size w)
  have LL1 := Lib.hid (h)
  have LL1 := Lib.hid (LL1.out.below (al0 w (.cells #[.int .i64 t.kind, .int .i64 t.num, .string t.name, .slice va t.args.length vc] 24)))
  have RR2 := Lib.hid (RowT.new w t (.slice va t.args.length vc))
  have BB := Lib.hid (BB.out.alloc BB.out.size (.cells #[.int .i64 t.kind, .int .i64 t.num, .string t.name, .slice va t.args.length vc] 24))
  clear h
  simp only [tv]
  go_enter Try.func6, Try.ntmps6
  go_wp2_with fail
  refine (HP0.out _ LL1.out).mono ?_
  rintro e w1 ⟨x, y, rfl, hx, hy, hb1⟩
  have RR2 := Lib.hid (RR2.out.below hb1)
  have LL1 := Lib.hid (LL1.out.below hb1)
  have BB := Lib.hid (BB.out.trans (hb1.mono BB.out.size))
  obtain ⟨aP0, cP0, rfl⟩ := hy.slice
  have LL3 := Lib.hid (hy)
  obtain ⟨xaP0, xcP0, rfl⟩ : ∃ a c, x = .slice a e0_0.length c := hx.slice
  have LL4 := Lib.hid hx
  clear hx
  clear hy
  clear hb1
  have RR2 := Lib.hid (RR2.out.below (al0 w1 (.cells #[.int .i64 B0.kind, .int .i64 B0.num, .string B0.name, .slice aP0 B0.args.length cP0] 24)))
  have LL1 := Lib.hid (LL1.out.below (al0 w1 (.cells #[.int .i64 B0.kind, .int .i64 B0.num, .string B0.name, .slice aP0 B0.args.length cP0] 24)))
  have LL3 := Lib.hid (LL3.out.below (al0 w1 (.cells #[.int .i64 B0.kind, .int .i64 B0.num, .string B0.name, .slice aP0 B0.args.length cP0] 24)))
  have LL4 := Lib.hid (LL4.out.below (al0 w1 (.cells #[.int .i64 B0.kind, .int .i64 B0.num, .string B0.name, .slice aP0 B0.args.length cP0] 24)))
  have RR5 := Lib.hid (RowT.new w1 B0 (.slice aP0 B0.args.length cP0))
  have BB := Lib.hid (BB.out.alloc BB.out.size (.cells #[.int .i64 B0.kind, .int .i64 B0.num, .string B0.name, .slice aP0 B0.args.length cP0] 24))
  obtain ⟨xRR2_0, xRR2_1, xRR2_2, xRR2_3⟩ := RR2.out.cells
  go_wp2_with fail
  refine (HQ0.out _ LL1.out).mono ?_
  rintro e w2 ⟨x, y, rfl, hx, hy, hb2⟩
  clear xRR2_0 xRR2_1 xRR2_2 xRR2_3
  have RR2 := Lib.hid (RR2.out.below hb2)
  have RR5 := Lib.hid (RR5.out.below hb2)
  have LL1 := Lib.hid (LL1.out.below hb2)
  have LL3 := Lib.hid (LL3.out.below hb2)
  have LL4 := Lib.hid (LL4.out.below hb2)
  have BB := Lib.hid (BB.out.trans (hb2.mono BB.out.size))
  obtain ⟨aQ0, cQ0, rfl⟩ := hy.slice
  have LL6 := Lib.hid (hy)
  obtain ⟨xaQ0, xcQ0, rfl⟩ : ∃ a c, x = .slice a e0_0.length c := hx.slice
  have LL7 := Lib.hid hx
  clear hx
  clear hy
  clear hb2
  have RR2 := Lib.hid (RR2.out.below (al0 w2 (.cells #[.int .i64 B0.kind, .int .i64 B0.num, .string B0.name, .slice aQ0 B0.args.length cQ0] 24)))
  have RR5 := Lib.hid (RR5.out.below (al0 w2 (.cells #[.int .i64 B0.kind, .int .i64 B0.num, .string B0.name, .slice aQ0 B0.args.length cQ0] 24)))
  have LL1 := Lib.hid (LL1.out.below (al0 w2 (.cells #[.int .i64 B0.kind, .int .i64 B0.num, .string B0.name, .slice aQ0 B0.args.length cQ0] 24)))
  have LL3 := Lib.hid (LL3.out.below (al0 w2 (.cells #[.int .i64 B0.kind, .int .i64 B0.num, .string B0.name, .slice aQ0 B0.args.length cQ0] 24)))
  have LL4 := Lib.hid (LL4.out.below (al0 w2 (.cells #[.int .i64 B0.kind, .int .i64 B0.num, .string B0.name, .slice aQ0 B0.args.length cQ0] 24)))
  have LL6 := Lib.hid (LL6.out.below (al0 w2 (.cells #[.int .i64 B0.kind, .int .i64 B0.num, .string B0.name, .slice aQ0 B0.args.length cQ0] 24)))
  have LL7 := Lib.hid (LL7.out.below (al0 w2 (.cells #[.int .i64 B0.kind, .int .i64 B0.num, .string B0.name, .slice aQ0 B0.args.length cQ0] 24)))
  have RR8 := Lib.hid (RowT.new w2 B0 (.slice aQ0 B0.args.length cQ0))
  have BB := Lib.hid (BB.out.alloc BB.out.size (.cells #[.int .i64 B0.kind, .int .i64 B0.num, .string B0.name, .slice aQ0 B0.args.length cQ0] 24))
  go_wp2_with fail
  refine (rsall_self e0_0 VL0.out.1 _ _ _ LL4.out LL7.out VL0.out.2).mono ?_
  rintro e w3 ⟨rfl, hb3⟩
  have RR2 := Lib.hid (RR2.out.below hb3)
  have RR5 := Lib.hid (RR5.out.below hb3)
  have RR8 := Lib.hid (RR8.out.below hb3)
  have LL1 := Lib.hid (LL1.out.below hb3)
  have LL3 := Lib.hid (LL3.out.below hb3)
  have LL4 := Lib.hid (LL4.out.below hb3)
  have LL6 := Lib.hid (LL6.out.below hb3)
  have LL7 := Lib.hid (LL7.out.below hb3)
  have BB := Lib.hid (BB.out.trans (hb3.mono BB.out.size))
  clear hb3
  obtain ⟨xRR5_0, xRR5_1, xRR5_2, xRR5_3⟩ := RR5.out.cells
  obtain ⟨xRR8_0, xRR8_1, xRR8_2, xRR8_3⟩ := RR8.out.cells
  go_wp2_with fail
  refine (lsame_self B0 _ _ _ V0.out LL3.out LL6.out).mono ?_
  rintro e w4 ⟨rfl, hb4⟩
  clear xRR5_0 xRR5_1 xRR5_2 xRR5_3 xRR8_0 xRR8_1 xRR8_2 xRR8_3
  have RR2 := Lib.hid (RR2.out.below hb4)
  have RR5 := Lib.hid (RR5.out.below hb4)
  have RR8 := Lib.hid (RR8.out.below hb4)
  have LL1 := Lib.hid (LL1.out.below hb4)
  have LL3 := Lib.hid (LL3.out.below hb4)
  have LL4 := Lib.hid (LL4.out.below hb4)
  have LL6 := Lib.hid (LL6.out.below hb4)
  have LL7 := Lib.hid (LL7.out.below hb4)
  have BB := Lib.hid (BB.out.trans (hb4.mono BB.out.size))
  clear hb4
  clear LL3 LL6 RR5 RR8 LL4 LL7
  obtain ⟨xRR2_0, xRR2_1, xRR2_2, xRR2_3⟩ := RR2.out.cells
  go_wp2_with fail
  refine (HP1.out _ LL1.out).mono ?_
  rintro e w5 ⟨y, rfl, hy, hb5⟩
  clear xRR2_0 xRR2_1 xRR2_2 xRR2_3
  have RR2 := Lib.hid (RR2.out.below hb5)
  have LL1 := Lib.hid (LL1.out.below hb5)
  have BB := Lib.hid (BB.out.trans (hb5.mono BB.out.size))
  obtain ⟨aP1, cP1, rfl⟩ := hy.slice
  have LL9 := Lib.hid (OwnT.lies _ _ hy)
  clear hy
  clear hb5
  have RR2 := Lib.hid (RR2.out.below (al0 w5 (.cells #[.int .i64 B1.kind, .int .i64 B1.num, .string B1.name, .slice aP1 B1.args.length cP1] 24)))
  have LL1 := Lib.hid (LL1.out.below (al0 w5 (.cells #[.int .i64 B1.kind, .int .i64 B1.num, .string B1.name, .slice aP1 B1.args.length cP1] 24)))
  have LL9 := Lib.hid (LL9.out.below (al0 w5 (.cells #[.int .i64 B1.kind, .int .i64 B1.num, .string B1.name, .slice aP1 B1.args.length cP1] 24)))
  have RR10 := Lib.hid (RowT.new w5 B1 (.slice aP1 B1.args.length cP1))
  have BB := Lib.hid (BB.out.alloc BB.out.size (.cells #[.int .i64 B1.kind, .int .i64 B1.num, .string B1.name, .slice aP1 B1.args.length cP1] 24))
  obtain ⟨xRR2_0, xRR2_1, xRR2_2, xRR2_3⟩ := RR2.out.cells
  go_wp2_with fail
  refine (HQ1.out _ LL1.out).mono ?_
  rintro e w6 ⟨y, rfl, hy, hb6⟩
  clear xRR2_0 xRR2_1 xRR2_2 xRR2_3
  have RR2 := Lib.hid (RR2.out.below hb6)
  have RR10 := Lib.hid (RR10.out.below hb6)
  have LL1 := Lib.hid (LL1.out.below hb6)
  have LL9 := Lib.hid (LL9.out.below hb6)
  have BB := Lib.hid (BB.out.trans (hb6.mono BB.out.size))
  obtain ⟨aQ1, cQ1, rfl⟩ := hy.slice
  have LL11 := Lib.hid (OwnT.lies _ _ hy)
  clear hy
  clear hb6
  have RR2 := Lib.hid (RR2.out.below (al0 w6 (.cells #[.int .i64 B1.kind, .int .i64 B1.num, .string B1.name, .slice aQ1 B1.args.length cQ1] 24)))
  have RR10 := Lib.hid (RR10.out.below (al0 w6 (.cells #[.int .i64 B1.kind, .int .i64 B1.num, .string B1.name, .slice aQ1 B1.args.length cQ1] 24)))
  have LL1 := Lib.hid (LL1.out.below (al0 w6 (.cells #[.int .i64 B1.kind, .int .i64 B1.num, .string B1.name, .slice aQ1 B1.args.length cQ1] 24)))
  have LL9 := Lib.hid (LL9.out.below (al0 w6 (.cells #[.int .i64 B1.kind, .int .i64 B1.num, .string B1.name, .slice aQ1 B1.args.length cQ1] 24)))
  have LL11 := Lib.hid (LL11.out.below (al0 w6 (.cells #[.int .i64 B1.kind, .int .i64 B1.num, .string B1.name, .slice aQ1 B1.args.length cQ1] 24)))
  have RR12 := Lib.hid (RowT.new w6 B1 (.slice aQ1 B1.args.length cQ1))
  have BB := Lib.hid (BB.out.alloc BB.out.size (.cells #[.int .i64 B1.kind, .int .i64 B1.num, .string B1.name, .slice aQ1 B1.args.length cQ1] 24))
  obtain ⟨xRR10_0, xRR10_1, xRR10_2, xRR10_3⟩ := RR10.out.cells
  go_wp2_with fail
  refine (lsame_self B1 _ _ _ V1.out LL9.out LL11.out).mono ?_
  rintro e w7 ⟨rfl, hb7⟩
  clear xRR10_0 xRR10_1 xRR10_2 xRR10_3
  have RR2 := Lib.hid (RR2.out.below hb7)
  have RR10 := Lib.hid (RR10.out.below hb7)
  have RR12 := Lib.hid (RR12.out.below hb7)
  have LL1 := Lib.hid (LL1.out.below hb7)
  have LL9 := Lib.hid (LL9.out.below hb7)
  have LL11 := Lib.hid (LL11.out.below hb7)
  have BB := Lib.hid (BB.out.trans (hb7.mono BB.out.size))
  clear hb7
  clear LL9 LL11 RR10 RR12
  obtain ⟨xRR2_0, xRR2_1, xRR2_2, xRR2_3⟩ := RR2.out.cells
  go_wp2_with fail
  refine (HP2.out _ LL1.out).mono ?_
  rintro e w8 ⟨y, rfl, hy, hb8⟩
  clear xRR2_0 xRR2_1 xRR2_2 xRR2_3
  have RR2 := Lib.hid (RR2.out.below hb8)
  have LL1 := Lib.hid (LL1.out.below hb8)
  have BB := Lib.hid (BB.out.trans (hb8.mono BB.out.size))
  obtain ⟨aP2, cP2, rfl⟩ := hy.slice
  have LL13 := Lib.hid (OwnT.lies _ _ hy)
  clear hy
  clear hb8
  have RR2 := Lib.hid (RR2.out.below (al0 w8 (.cells #[.int .i64 B2.kind, .int .i64 B2.num, .string B2.name, .slice aP2 B2.args.length cP2] 24)))
  have LL1 := Lib.hid (LL1.out.below (al0 w8 (.cells #[.int .i64 B2.kind, .int .i64 B2.num, .string B2.name, .slice aP2 B2.args.length cP2] 24)))
  have LL13 := Lib.hid (LL13.out.below (al0 w8 (.cells #[.int .i64 B2.kind, .int .i64 B2.num, .string B2.name, .slice aP2 B2.args.length cP2] 24)))
  have RR14 := Lib.hid (RowT.new w8 B2 (.slice aP2 B2.args.length cP2))
  have BB := Lib.hid (BB.out.alloc BB.out.size (.cells #[.int .i64 B2.kind, .int .i64 B2.num, .string B2.name, .slice aP2 B2.args.length cP2] 24))
  obtain ⟨xRR2_0, xRR2_1, xRR2_2, xRR2_3⟩ := RR2.out.cells
  go_wp2_with fail
  refine (HQ2.out _ LL1.out).mono ?_
  rintro e w9 ⟨y, rfl, hy, hb9⟩
  clear xRR2_0 xRR2_1 xRR2_2 xRR2_3
  have RR2 := Lib.hid (RR2.out.below hb9)
  have RR14 := Lib.hid (RR14.out.below hb9)
  have LL1 := Lib.hid (LL1.out.below hb9)
  have LL13 := Lib.hid (LL13.out.below hb9)
  have BB := Lib.hid (BB.out.trans (hb9.mono BB.out.size))
  obtain ⟨aQ2, cQ2, rfl⟩ := hy.slice
  have LL15 := Lib.hid (OwnT.lies _ _ hy)
  clear hy
  clear hb9
  have RR2 := Lib.hid (RR2.out.below (al0 w9 (.cells #[.int .i64 B2.kind, .int .i64 B2.num, .string B2.name, .slice aQ2 B2.args.length cQ2] 24)))
  have RR14 := Lib.hid (RR14.out.below (al0 w9 (.cells #[.int .i64 B2.kind, .int .i64 B2.num, .string B2.name, .slice aQ2 B2.args.length cQ2] 24)))
  have LL1 := Lib.hid (LL1.out.below (al0 w9 (.cells #[.int .i64 B2.kind, .int .i64 B2.num, .string B2.name, .slice aQ2 B2.args.length cQ2] 24)))
  have LL13 := Lib.hid (LL13.out.below (al0 w9 (.cells #[.int .i64 B2.kind, .int .i64 B2.num, .string B2.name, .slice aQ2 B2.args.length cQ2] 24)))
  have LL15 := Lib.hid (LL15.out.below (al0 w9 (.cells #[.int .i64 B2.kind, .int .i64 B2.num, .string B2.name, .slice aQ2 B2.args.length cQ2] 24)))
  have RR16 := Lib.hid (RowT.new w9 B2 (.slice aQ2 B2.args.length cQ2))
  have BB := Lib.hid (BB.out.alloc BB.out.size (.cells #[.int .i64 B2.kind, .int .i64 B2.num, .string B2.name, .slice aQ2 B2.args.length cQ2] 24))
  obtain ⟨xRR14_0, xRR14_1, xRR14_2, xRR14_3⟩ := RR14.out.cells
  go_wp2_with fail
  refine (lsame_self B2 _ _ _ V2.out LL13.out LL15.out).mono ?_
  rintro e w10 ⟨rfl, hb10⟩
  clear xRR14_0 xRR14_1 xRR14_2 xRR14_3
  have RR2 := Lib.hid (RR2.out.below hb10)
  have RR14 := Lib.hid (RR14.out.below hb10)
  have RR16 := Lib.hid (RR16.out.below hb10)
  have LL1 := Lib.hid (LL1.out.below hb10)
  have LL13 := Lib.hid (LL13.out.below hb10)
  have LL15 := Lib.hid (LL15.out.below hb10)
  have BB := Lib.hid (BB.out.trans (hb10.mono BB.out.size))
  clear hb10
  clear LL13 LL15 RR14 RR16
  obtain ⟨xRR2_0, xRR2_1, xRR2_2, xRR2_3⟩ := RR2.out.cells
  go_wp2_with fail
  refine (HP3.out _ LL1.out).mono ?_
  rintro e w11 ⟨y, rfl, hy, hb11⟩
  clear xRR2_0 xRR2_1 xRR2_2 xRR2_3
  have RR2 := Lib.hid (RR2.out.below hb11)
  have LL1 := Lib.hid (LL1.out.below hb11)
  have BB := Lib.hid (BB.out.trans (hb11.mono BB.out.size))
  obtain ⟨aP3, cP3, rfl⟩ := hy.slice
  have LL17 := Lib.hid (OwnT.lies _ _ hy)
  clear hy
  clear hb11
  have RR2 := Lib.hid (RR2.out.below (al0 w11 (.cells #[.int .i64 B3.kind, .int .i64 B3.num, .string B3.name, .slice aP3 B3.args.length cP3] 24)))
  have LL1 := Lib.hid (LL1.out.below (al0 w11 (.cells #[.int .i64 B3.kind, .int .i64 B3.num, .string B3.name, .slice aP3 B3.args.length cP3] 24)))
  have LL17 := Lib.hid (LL17.out.below (al0 w11 (.cells #[.int .i64 B3.kind, .int .i64 B3.num, .string B3.name, .slice aP3 B3.args.length cP3] 24)))
  have RR18 := Lib.hid (RowT.new w11 B3 (.slice aP3 B3.args.length cP3))
  have BB := Lib.hid (BB.out.alloc BB.out.size (.cells #[.int .i64 B3.kind, .int .i64 B3.num, .string B3.name, .slice aP3 B3.args.length cP3] 24))
  obtain ⟨xRR2_0, xRR2_1, xRR2_2, xRR2_3⟩ := RR2.out.cells
  go_wp2_with fail
  refine (HQ3.out _ LL1.out).mono ?_
  rintro e w12 ⟨y, rfl, hy, hb12⟩
  clear xRR2_0 xRR2_1 xRR2_2 xRR2_3
  have RR2 := Lib.hid (RR2.out.below hb12)
  have RR18 := Lib.hid (RR18.out.below hb12)
  have LL1 := Lib.hid (LL1.out.below hb12)
  have LL17 := Lib.hid (LL17.out.below hb12)
  have BB := Lib.hid (BB.out.trans (hb12.mono BB.out.size))
  obtain ⟨aQ3, cQ3, rfl⟩ := hy.slice
  have LL19 := Lib.hid (OwnT.lies _ _ hy)
  clear hy
  clear hb12
  have RR2 := Lib.hid (RR2.out.below (al0 w12 (.cells #[.int .i64 B3.kind, .int .i64 B3.num, .string B3.name, .slice aQ3 B3.args.length cQ3] 24)))
  have RR18 := Lib.hid (RR18.out.below (al0 w12 (.cells #[.int .i64 B3.kind, .int .i64 B3.num, .string B3.name, .slice aQ3 B3.args.length cQ3] 24)))
  have LL1 := Lib.hid (LL1.out.below (al0 w12 (.cells #[.int .i64 B3.kind, .int .i64 B3.num, .string B3.name, .slice aQ3 B3.args.length cQ3] 24)))
  have LL17 := Lib.hid (LL17.out.below (al0 w12 (.cells #[.int .i64 B3.kind, .int .i64 B3.num, .string B3.name, .slice aQ3 B3.args.length cQ3] 24)))
  have LL19 := Lib.hid (LL19.out.below (al0 w12 (.cells #[.int .i64 B3.kind, .int .i64 B3.num, .string B3.name, .slice aQ3 B3.args.length cQ3] 24)))
  have RR20 := Lib.hid (RowT.new w12 B3 (.slice aQ3 B3.args.length cQ3))
  have BB := Lib.hid (BB.out.alloc BB.out.size (.cells #[.int .i64 B3.kind, .int .i64 B3.num, .string B3.name, .slice aQ3 B3.args.length cQ3] 24))
  obtain ⟨xRR18_0, xRR18_1, xRR18_2, xRR18_3⟩ := RR18.out.cells
  go_wp2_with fail
  refine (lsame_self B3 _ _ _ V3.out LL17.out LL19.out).mono ?_
  rintro e w13 ⟨rfl, hb13⟩
  clear xRR18_0 xRR18_1 xRR18_2 xRR18_3
  have RR2 := Lib.hid (RR2.out.below hb13)
  have RR18 := Lib.hid (RR18.out.below hb13)
  have RR20 := Lib.hid (RR20.out.below hb13)
  have LL1 := Lib.hid (LL1.out.below hb13)
  have LL17 := Lib.hid (LL17.out.below hb13)
  have LL19 := Lib.hid (LL19.out.below hb13)
  have BB := Lib.hid (BB.out.trans (hb13.mono BB.out.size))
  clear hb13
  clear LL17 LL19 RR18 RR20
  go_wp2_with fail
  refine (awake_any _).mono ?_
  rintro e w14 ⟨rfl, hb14⟩
  have RR2 := Lib.hid (RR2.out.below hb14)
  have LL1 := Lib.hid (LL1.out.below hb14)
  have BB := Lib.hid (BB.out.trans (hb14.mono BB.out.size))
  clear hb14
  go_wp2_with fail
  go_ret
  exact ⟨rfl, BB.out⟩

end Go.Proofs.Yteilodihjhdngaa
