/- BallsLists: the empty list, the invalid whole. -/
import Derived.Test.YteilodihjhdngaaCD1
import Derived.Test.YteilodihjhdngaaCD2
import Derived.Test.YteilodihjhdngaaCD3
import Derived.Deep.DeepCutAuto
set_option linter.unusedVariables false
set_option linter.unusedSimpArgs false
namespace Go.Proofs.Yteilodihjhdngaa
open Go.RowKit Go.Proofs.HT

set_option maxRecDepth 8000 in
set_option maxHeartbeats 32000000 in
theorem lists_none (ts : List Tm) (T : Tm) (a v : Value) (w : World) (ha : LiesA w ts a) (hv : LiesT w T v) (h0 : ts.length = 0) : Calls Try.prog 9 #[a, tv T v] w fun e w' => e = .returned (.bool true) ∧ Below w.heap.size w w' := by
  obtain ⟨va, vc, rfl⟩ : ∃ a k, v = .slice a T.args.length k := hv.slice
  obtain ⟨aa, ac, rfl⟩ : ∃ x k, a = .slice x ts.length k := ha.slice
  obtain ⟨t, ht⟩ : ∃ t, (if validB (listT ts T) = true then listT ts T else z0) = t := ⟨_, rfl⟩
  have HR : Hid (∀ w0, LiesA w0 ts (.slice aa ts.length ac) → LiesT w0 T (.slice va T.args.length vc) → Calls Try.prog 57 #[.slice aa ts.length ac, tv T (.slice va T.args.length vc)] w0 (MadeEnd t w0)) := Lib.hid (fun w0 h1 h2 => by have h := rlist_any ts T _ _ w0 h1 h2; unfold MadeV at h; rw [ht] at h; exact h)
  clear ht
  have e0 : ((ts.length : Int) == 0) = true := by rw [h0]; rfl
  clear h0
  have BB := Lib.hid (Below.refl w.heap.size w)
  have LT := Lib.hid (hv)
  have LA := Lib.hid (ha)
  have LT := Lib.hid (LT.out.below (al0 w (.cells #[.int .i64 T.kind, .int .i64 T.num, .string T.name, .slice va T.args.length vc] 24)))
  have LA := Lib.hid (LA.out.below (al0 w (.cells #[.int .i64 T.kind, .int .i64 T.num, .string T.name, .slice va T.args.length vc] 24)))
  have RR1 := Lib.hid (RowT.new w T (.slice va T.args.length vc))
  have BB := Lib.hid (BB.out.alloc BB.out.size (.cells #[.int .i64 T.kind, .int .i64 T.num, .string T.name, .slice va T.args.length vc] 24))
  clear ha hv
  simp only [tv]
  go_enter Try.func9, Try.ntmps9
  obtain ⟨xRR1_0, xRR1_1, xRR1_2, xRR1_3⟩ := RR1.out.cells
  go_wp2_with fail
  refine (HR.out _ LA.out LT.out).mono ?_
  rintro e w1 ⟨y, rfl, hy, hb1⟩
  clear xRR1_0 xRR1_1 xRR1_2 xRR1_3
  have RR1 := Lib.hid (RR1.out.below hb1)
  have LT := Lib.hid (LT.out.below hb1)
  have LA := Lib.hid (LA.out.below hb1)
  have BB := Lib.hid (BB.out.trans (hb1.mono BB.out.size))
  obtain ⟨ya, yc, rfl⟩ := hy.slice
  have LQ := Lib.hid (OwnT.lies _ _ hy)
  clear hy
  clear hb1
  have RR1 := Lib.hid (RR1.out.below (al0 w1 (.cells #[.int .i64 t.kind, .int .i64 t.num, .string t.name, .slice ya t.args.length yc] 24)))
  have LT := Lib.hid (LT.out.below (al0 w1 (.cells #[.int .i64 t.kind, .int .i64 t.num, .string t.name, .slice ya t.args.length yc] 24)))
  have LA := Lib.hid (LA.out.below (al0 w1 (.cells #[.int .i64 t.kind, .int .i64 t.num, .string t.name, .slice ya t.args.length yc] 24)))
  have LQ := Lib.hid (LQ.out.below (al0 w1 (.cells #[.int .i64 t.kind, .int .i64 t.num, .string t.name, .slice ya t.args.length yc] 24)))
  have RR2 := Lib.hid (RowT.new w1 t (.slice ya t.args.length yc))
  have BB := Lib.hid (BB.out.alloc BB.out.size (.cells #[.int .i64 t.kind, .int .i64 t.num, .string t.name, .slice ya t.args.length yc] 24))
  obtain ⟨xRR2_0, xRR2_1, xRR2_2, xRR2_3⟩ := RR2.out.cells
  go_wp2_with fail
  refine (awake_any _).mono ?_
  rintro e w2 ⟨rfl, hb2⟩
  clear xRR2_0 xRR2_1 xRR2_2 xRR2_3
  have RR1 := Lib.hid (RR1.out.below hb2)
  have RR2 := Lib.hid (RR2.out.below hb2)
  have LT := Lib.hid (LT.out.below hb2)
  have LA := Lib.hid (LA.out.below hb2)
  have LQ := Lib.hid (LQ.out.below hb2)
  have BB := Lib.hid (BB.out.trans (hb2.mono BB.out.size))
  clear hb2
  go_wp2_with fail
  go_ret
  exact ⟨rfl, BB.out⟩
set_option maxRecDepth 8000 in
set_option maxHeartbeats 32000000 in
theorem lists_bad (ts : List Tm) (T : Tm) (a v : Value) (w : World) (ha : LiesA w ts a) (hv : LiesT w T v) (hne : ts.length ≠ 0) (hval : validB (listT ts T) = false) : Calls Try.prog 9 #[a, tv T v] w fun e w' => e = .returned (.bool true) ∧ Below w.heap.size w w' := by
  obtain ⟨va, vc, rfl⟩ : ∃ a k, v = .slice a T.args.length k := hv.slice
  obtain ⟨aa, ac, rfl⟩ : ∃ x k, a = .slice x ts.length k := ha.slice
  obtain ⟨t, ht⟩ : ∃ t, (if validB (listT ts T) = true then listT ts T else z0) = t := ⟨_, rfl⟩
  have HR : Hid (∀ w0, LiesA w0 ts (.slice aa ts.length ac) → LiesT w0 T (.slice va T.args.length vc) → Calls Try.prog 57 #[.slice aa ts.length ac, tv T (.slice va T.args.length vc)] w0 (MadeEnd t w0)) := Lib.hid (fun w0 h1 h2 => by have h := rlist_any ts T _ _ w0 h1 h2; unfold MadeV at h; rw [ht] at h; exact h)
  have e2 : ((t.args.length : Int) != 2) = true := by rw [← ht, hval]; rfl
  have e0 : ((ts.length : Int) == 0) = false := by
    have h : (ts.length : Int) ≠ 0 := by omega
    simpa using h
  clear ht hne hval
  have BB := Lib.hid (Below.refl w.heap.size w)
  have LT := Lib.hid (hv)
  have LA := Lib.hid (ha)
  have LT := Lib.hid (LT.out.below (al0 w (.cells #[.int .i64 T.kind, .int .i64 T.num, .string T.name, .slice va T.args.length vc] 24)))
  have LA := Lib.hid (LA.out.below (al0 w (.cells #[.int .i64 T.kind, .int .i64 T.num, .string T.name, .slice va T.args.length vc] 24)))
  have RR1 := Lib.hid (RowT.new w T (.slice va T.args.length vc))
  have BB := Lib.hid (BB.out.alloc BB.out.size (.cells #[.int .i64 T.kind, .int .i64 T.num, .string T.name, .slice va T.args.length vc] 24))
  clear ha hv
  simp only [tv]
  go_enter Try.func9, Try.ntmps9
  obtain ⟨xRR1_0, xRR1_1, xRR1_2, xRR1_3⟩ := RR1.out.cells
  go_wp2_with fail
  refine (HR.out _ LA.out LT.out).mono ?_
  rintro e w1 ⟨y, rfl, hy, hb1⟩
  clear xRR1_0 xRR1_1 xRR1_2 xRR1_3
  have RR1 := Lib.hid (RR1.out.below hb1)
  have LT := Lib.hid (LT.out.below hb1)
  have LA := Lib.hid (LA.out.below hb1)
  have BB := Lib.hid (BB.out.trans (hb1.mono BB.out.size))
  obtain ⟨ya, yc, rfl⟩ := hy.slice
  have LQ := Lib.hid (OwnT.lies _ _ hy)
  clear hy
  clear hb1
  have RR1 := Lib.hid (RR1.out.below (al0 w1 (.cells #[.int .i64 t.kind, .int .i64 t.num, .string t.name, .slice ya t.args.length yc] 24)))
  have LT := Lib.hid (LT.out.below (al0 w1 (.cells #[.int .i64 t.kind, .int .i64 t.num, .string t.name, .slice ya t.args.length yc] 24)))
  have LA := Lib.hid (LA.out.below (al0 w1 (.cells #[.int .i64 t.kind, .int .i64 t.num, .string t.name, .slice ya t.args.length yc] 24)))
  have LQ := Lib.hid (LQ.out.below (al0 w1 (.cells #[.int .i64 t.kind, .int .i64 t.num, .string t.name, .slice ya t.args.length yc] 24)))
  have RR2 := Lib.hid (RowT.new w1 t (.slice ya t.args.length yc))
  have BB := Lib.hid (BB.out.alloc BB.out.size (.cells #[.int .i64 t.kind, .int .i64 t.num, .string t.name, .slice ya t.args.length yc] 24))
  obtain ⟨xRR2_0, xRR2_1, xRR2_2, xRR2_3⟩ := RR2.out.cells
  go_wp2_with fail
  refine (awake_any _).mono ?_
  rintro e w2 ⟨rfl, hb2⟩
  clear xRR2_0 xRR2_1 xRR2_2 xRR2_3
  have RR1 := Lib.hid (RR1.out.below hb2)
  have RR2 := Lib.hid (RR2.out.below hb2)
  have LT := Lib.hid (LT.out.below hb2)
  have LA := Lib.hid (LA.out.below hb2)
  have LQ := Lib.hid (LQ.out.below hb2)
  have BB := Lib.hid (BB.out.trans (hb2.mono BB.out.size))
  clear hb2
  go_wp2_with fail
  go_ret
  exact ⟨rfl, BB.out⟩
end Go.Proofs.Yteilodihjhdngaa
