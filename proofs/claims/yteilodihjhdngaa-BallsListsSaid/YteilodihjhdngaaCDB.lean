/- BallsLists: the tail is anything else, the list is too large to be shown. -/
import Derived.Test.YteilodihjhdngaaCD1
import Derived.Test.YteilodihjhdngaaCD2
import Derived.Test.YteilodihjhdngaaCD3
import Derived.Deep.DeepCutAuto
set_option linter.unusedVariables false
set_option linter.unusedSimpArgs false
namespace Go.Proofs.Yteilodihjhdngaa
open Go.RowKit Go.Proofs.HT

set_option maxRecDepth 8000 in
set_option maxHeartbeats 32000000 in
theorem lists_big_a (ts : List Tm) (T : Tm) (a v : Value) (w : World) (ha : LiesA w ts a) (hv : LiesT w T v) (hne : ts ≠ []) (hval : validB (listT ts T) = true) (hp : isPairB T = false) (hs : sameV T nilT = false) (hk : T.kind ≠ 0) (e9 : (T.kind == 3) = false) (hbig : 2000 < 4 + cnt (listT ts T)) : Calls Try.prog 9 #[a, tv T v] w fun e w' => e = .returned (.bool true) ∧ Below w.heap.size w w' := by
  obtain ⟨va, vc, rfl⟩ : ∃ a k, v = .slice a T.args.length k := hv.slice
  obtain ⟨aa, ac, rfl⟩ : ∃ x k, a = .slice x ts.length k := ha.slice
  have HP := list_parts ts T hval
  have HF := lists_f ts T hval
  have h2 : (listT ts T).args.length = 2 := by
    cases ts with
    | nil => exact absurd rfl hne
    | cons t ts => rfl
  obtain ⟨t, ht⟩ : ∃ t, listT ts T = t := ⟨_, rfl⟩
  have HR : Hid (∀ w0, LiesA w0 ts (.slice aa ts.length ac) → LiesT w0 T (.slice va T.args.length vc) → Calls Try.prog 57 #[.slice aa ts.length ac, tv T (.slice va T.args.length vc)] w0 (MadeEnd t w0)) := Lib.hid (fun w0 h1 h2 => by have h := rlist_any ts T _ _ w0 h1 h2; unfold MadeV at h; rw [if_pos hval, ht] at h; exact h)
  have HCN : Hid (ts.length < cnt t) := Lib.hid (by rw [← ht]; exact cnt_listT T ts)
  rw [ht] at HF hval h2
  have HV := Lib.hid hval
  have HVT := Lib.hid HP.1
  have HVL := Lib.hid HP.2
  have hE := elemsT_not T hp
  have hI : isNil T = false := nil_not HP.1 hs
  have hO : lsO t = false := by rw [HF.o, hE]; exact hI
  have hL : lsL t = [] := by rw [HF.l, hE, if_neg (by rw [hI]; simp)]
  have hB : lsB t = errT (.mk 3 0 ⟨#[116, 121, 112, 101, 95, 101, 114, 114, 111, 114]⟩ [atmT ⟨#[108, 105, 115, 116]⟩, omitT]) := by
    rw [HF.b, hE, if_neg (by simpa using hk), if_neg (by rw [hI]; simp), type_err HV.out]
    unfold culT
    rw [if_pos (by rw [← ht]; omega)]
  have e5 : (T.kind == 0) = false := by simpa using hk
  have HS := Lib.hid hs
  obtain ⟨N, hN⟩ : ∃ N, cnt t = N := ⟨_, rfl⟩
  have hcv := cntM_valid HV.out
  rw [hN] at hcv
  have HSZ : Hid (∀ w0 x0, LiesT w0 t x0 → Calls Try.prog 54 #[tv t x0] w0 fun e w' => e = .returned (.int .i64 (N : Int)) ∧ Below w0.heap.size w0 w') := Lib.hid (fun w0 x0 h => by have h3 := size_any t x0 w0 h; rw [hcv.1] at h3; exact h3)
  have hN1 : N ≤ 2000 := hcv.2
  have hN2 : 2000 < N + 4 := by first | omega | (rw [← hN, ← ht]; omega)
  have d1 : decide ((2000 : Int) < (N : Int) + 4) = true := by simp; omega
  clear hE hI hs hp hk hcv hN
  have VB : Hid (validB (errT (.mk 3 0 ⟨#[116, 121, 112, 101, 95, 101, 114, 114, 111, 114]⟩ [atmT ⟨#[108, 105, 115, 116]⟩, omitT])) = true) := Lib.hid (by rw [← hB]; exact lsB_valid t)
  have HCL : Hid (∀ w0 x0, LiesT w0 t x0 → Calls Try.prog 43 #[tv t x0] w0 (ChkL ([]) (errT (.mk 3 0 ⟨#[116, 121, 112, 101, 95, 101, 114, 114, 111, 114]⟩ [atmT ⟨#[108, 105, 115, 116]⟩, omitT])) false w0)) := Lib.hid (fun w0 x0 h => by have h3 := List_any t x0 w0 h; rw [hL, hO, hB] at h3; exact h3)
  have e0 : ((ts.length : Int) == 0) = false := by have : 0 < ts.length := List.length_pos_iff.2 hne; simp; omega
  have e2 : ((t.args.length : Int) != 2) = false := by rw [h2]; rfl
  clear HP HF h2 ht hval hne hL hO hB
  have BB := Lib.hid (Below.refl w.heap.size w)
  have LT := Lib.hid (hv)
  have LA := Lib.hid (ha)
  have LT := Lib.hid (LT.out.below (al0 w (.cells #[.int .i64 T.kind, .int .i64 T.num, .string T.name, .slice va T.args.length vc] 24)))
  have LA := Lib.hid (LA.out.below (al0 w (.cells #[.int .i64 T.kind, .int .i64 T.num, .string T.name, .slice va T.args.length vc] 24)))
  have RR1 := Lib.hid (RowT.new w T (.slice va T.args.length vc))
  have BB := Lib.hid (BB.out.alloc BB.out.size (.cells #[.int .i64 T.kind, .int .i64 T.num, .string T.name, .slice va T.args.length vc] 24))
  clear ha hv
  simp only [tv]
  go_enter Try.func9, Try.ntmps9
  obtain ⟨xRR1_0, xRR1_1, xRR1_2, xRR1_3⟩ := RR1.out.cells
  go_wp2_with fail
  refine (HR.out _ LA.out LT.out).mono ?_
  rintro e w1 ⟨y, rfl, hy, hb1⟩
  clear xRR1_0 xRR1_1 xRR1_2 xRR1_3
  have RR1 := Lib.hid (RR1.out.below hb1)
  have LT := Lib.hid (LT.out.below hb1)
  have LA := Lib.hid (LA.out.below hb1)
  have BB := Lib.hid (BB.out.trans (hb1.mono BB.out.size))
  obtain ⟨ya, yc, rfl⟩ := hy.slice
  have LQ := Lib.hid (OwnT.lies _ _ hy)
  clear hy
  clear hb1
  have RR1 := Lib.hid (RR1.out.below (al0 w1 (.cells #[.int .i64 t.kind, .int .i64 t.num, .string t.name, .slice ya t.args.length yc] 24)))
  have LT := Lib.hid (LT.out.below (al0 w1 (.cells #[.int .i64 t.kind, .int .i64 t.num, .string t.name, .slice ya t.args.length yc] 24)))
  have LA := Lib.hid (LA.out.below (al0 w1 (.cells #[.int .i64 t.kind, .int .i64 t.num, .string t.name, .slice ya t.args.length yc] 24)))
  have LQ := Lib.hid (LQ.out.below (al0 w1 (.cells #[.int .i64 t.kind, .int .i64 t.num, .string t.name, .slice ya t.args.length yc] 24)))
  have RR2 := Lib.hid (RowT.new w1 t (.slice ya t.args.length yc))
  have BB := Lib.hid (BB.out.alloc BB.out.size (.cells #[.int .i64 t.kind, .int .i64 t.num, .string t.name, .slice ya t.args.length yc] 24))
  obtain ⟨xRR2_0, xRR2_1, xRR2_2, xRR2_3⟩ := RR2.out.cells
  go_wp2_with fail
  refine (HCL.out _ _ LQ.out).mono ?_
  rintro e w2 ⟨x, y2, rfl, hx, hy2, hb2⟩
  clear xRR2_0 xRR2_1 xRR2_2 xRR2_3
  have RR1 := Lib.hid (RR1.out.below hb2)
  have RR2 := Lib.hid (RR2.out.below hb2)
  have LT := Lib.hid (LT.out.below hb2)
  have LA := Lib.hid (LA.out.below hb2)
  have LQ := Lib.hid (LQ.out.below hb2)
  have BB := Lib.hid (BB.out.trans (hb2.mono BB.out.size))
  obtain ⟨xa, xc, rfl⟩ : ∃ a k, x = .slice a 0 k := hx.slice
  obtain ⟨bx, bc, rfl⟩ := hy2.slice
  have LX := Lib.hid (hx)
  have LB := Lib.hid (hy2)
  clear hx hy2
  clear hb2
  have RR1 := Lib.hid (RR1.out.below (al0 w2 (.cells #[.int .i64 (errT (.mk 3 0 ⟨#[116, 121, 112, 101, 95, 101, 114, 114, 111, 114]⟩ [atmT ⟨#[108, 105, 115, 116]⟩, omitT])).kind, .int .i64 (errT (.mk 3 0 ⟨#[116, 121, 112, 101, 95, 101, 114, 114, 111, 114]⟩ [atmT ⟨#[108, 105, 115, 116]⟩, omitT])).num, .string (errT (.mk 3 0 ⟨#[116, 121, 112, 101, 95, 101, 114, 114, 111, 114]⟩ [atmT ⟨#[108, 105, 115, 116]⟩, omitT])).name, .slice bx (errT (.mk 3 0 ⟨#[116, 121, 112, 101, 95, 101, 114, 114, 111, 114]⟩ [atmT ⟨#[108, 105, 115, 116]⟩, omitT])).args.length bc] 24)))
  have RR2 := Lib.hid (RR2.out.below (al0 w2 (.cells #[.int .i64 (errT (.mk 3 0 ⟨#[116, 121, 112, 101, 95, 101, 114, 114, 111, 114]⟩ [atmT ⟨#[108, 105, 115, 116]⟩, omitT])).kind, .int .i64 (errT (.mk 3 0 ⟨#[116, 121, 112, 101, 95, 101, 114, 114, 111, 114]⟩ [atmT ⟨#[108, 105, 115, 116]⟩, omitT])).num, .string (errT (.mk 3 0 ⟨#[116, 121, 112, 101, 95, 101, 114, 114, 111, 114]⟩ [atmT ⟨#[108, 105, 115, 116]⟩, omitT])).name, .slice bx (errT (.mk 3 0 ⟨#[116, 121, 112, 101, 95, 101, 114, 114, 111, 114]⟩ [atmT ⟨#[108, 105, 115, 116]⟩, omitT])).args.length bc] 24)))
  have LT := Lib.hid (LT.out.below (al0 w2 (.cells #[.int .i64 (errT (.mk 3 0 ⟨#[116, 121, 112, 101, 95, 101, 114, 114, 111, 114]⟩ [atmT ⟨#[108, 105, 115, 116]⟩, omitT])).kind, .int .i64 (errT (.mk 3 0 ⟨#[116, 121, 112, 101, 95, 101, 114, 114, 111, 114]⟩ [atmT ⟨#[108, 105, 115, 116]⟩, omitT])).num, .string (errT (.mk 3 0 ⟨#[116, 121, 112, 101, 95, 101, 114, 114, 111, 114]⟩ [atmT ⟨#[108, 105, 115, 116]⟩, omitT])).name, .slice bx (errT (.mk 3 0 ⟨#[116, 121, 112, 101, 95, 101, 114, 114, 111, 114]⟩ [atmT ⟨#[108, 105, 115, 116]⟩, omitT])).args.length bc] 24)))
  have LA := Lib.hid (LA.out.below (al0 w2 (.cells #[.int .i64 (errT (.mk 3 0 ⟨#[116, 121, 112, 101, 95, 101, 114, 114, 111, 114]⟩ [atmT ⟨#[108, 105, 115, 116]⟩, omitT])).kind, .int .i64 (errT (.mk 3 0 ⟨#[116, 121, 112, 101, 95, 101, 114, 114, 111, 114]⟩ [atmT ⟨#[108, 105, 115, 116]⟩, omitT])).num, .string (errT (.mk 3 0 ⟨#[116, 121, 112, 101, 95, 101, 114, 114, 111, 114]⟩ [atmT ⟨#[108, 105, 115, 116]⟩, omitT])).name, .slice bx (errT (.mk 3 0 ⟨#[116, 121, 112, 101, 95, 101, 114, 114, 111, 114]⟩ [atmT ⟨#[108, 105, 115, 116]⟩, omitT])).args.length bc] 24)))
  have LQ := Lib.hid (LQ.out.below (al0 w2 (.cells #[.int .i64 (errT (.mk 3 0 ⟨#[116, 121, 112, 101, 95, 101, 114, 114, 111, 114]⟩ [atmT ⟨#[108, 105, 115, 116]⟩, omitT])).kind, .int .i64 (errT (.mk 3 0 ⟨#[116, 121, 112, 101, 95, 101, 114, 114, 111, 114]⟩ [atmT ⟨#[108, 105, 115, 116]⟩, omitT])).num, .string (errT (.mk 3 0 ⟨#[116, 121, 112, 101, 95, 101, 114, 114, 111, 114]⟩ [atmT ⟨#[108, 105, 115, 116]⟩, omitT])).name, .slice bx (errT (.mk 3 0 ⟨#[116, 121, 112, 101, 95, 101, 114, 114, 111, 114]⟩ [atmT ⟨#[108, 105, 115, 116]⟩, omitT])).args.length bc] 24)))
  have LX := Lib.hid (LX.out.below (al0 w2 (.cells #[.int .i64 (errT (.mk 3 0 ⟨#[116, 121, 112, 101, 95, 101, 114, 114, 111, 114]⟩ [atmT ⟨#[108, 105, 115, 116]⟩, omitT])).kind, .int .i64 (errT (.mk 3 0 ⟨#[116, 121, 112, 101, 95, 101, 114, 114, 111, 114]⟩ [atmT ⟨#[108, 105, 115, 116]⟩, omitT])).num, .string (errT (.mk 3 0 ⟨#[116, 121, 112, 101, 95, 101, 114, 114, 111, 114]⟩ [atmT ⟨#[108, 105, 115, 116]⟩, omitT])).name, .slice bx (errT (.mk 3 0 ⟨#[116, 121, 112, 101, 95, 101, 114, 114, 111, 114]⟩ [atmT ⟨#[108, 105, 115, 116]⟩, omitT])).args.length bc] 24)))
  have LB := Lib.hid (LB.out.below (al0 w2 (.cells #[.int .i64 (errT (.mk 3 0 ⟨#[116, 121, 112, 101, 95, 101, 114, 114, 111, 114]⟩ [atmT ⟨#[108, 105, 115, 116]⟩, omitT])).kind, .int .i64 (errT (.mk 3 0 ⟨#[116, 121, 112, 101, 95, 101, 114, 114, 111, 114]⟩ [atmT ⟨#[108, 105, 115, 116]⟩, omitT])).num, .string (errT (.mk 3 0 ⟨#[116, 121, 112, 101, 95, 101, 114, 114, 111, 114]⟩ [atmT ⟨#[108, 105, 115, 116]⟩, omitT])).name, .slice bx (errT (.mk 3 0 ⟨#[116, 121, 112, 101, 95, 101, 114, 114, 111, 114]⟩ [atmT ⟨#[108, 105, 115, 116]⟩, omitT])).args.length bc] 24)))
  have RR3 := Lib.hid (RowT.new w2 (errT (.mk 3 0 ⟨#[116, 121, 112, 101, 95, 101, 114, 114, 111, 114]⟩ [atmT ⟨#[108, 105, 115, 116]⟩, omitT])) (.slice bx (errT (.mk 3 0 ⟨#[116, 121, 112, 101, 95, 101, 114, 114, 111, 114]⟩ [atmT ⟨#[108, 105, 115, 116]⟩, omitT])).args.length bc))
  have BB := Lib.hid (BB.out.alloc BB.out.size (.cells #[.int .i64 (errT (.mk 3 0 ⟨#[116, 121, 112, 101, 95, 101, 114, 114, 111, 114]⟩ [atmT ⟨#[108, 105, 115, 116]⟩, omitT])).kind, .int .i64 (errT (.mk 3 0 ⟨#[116, 121, 112, 101, 95, 101, 114, 114, 111, 114]⟩ [atmT ⟨#[108, 105, 115, 116]⟩, omitT])).num, .string (errT (.mk 3 0 ⟨#[116, 121, 112, 101, 95, 101, 114, 114, 111, 114]⟩ [atmT ⟨#[108, 105, 115, 116]⟩, omitT])).name, .slice bx (errT (.mk 3 0 ⟨#[116, 121, 112, 101, 95, 101, 114, 114, 111, 114]⟩ [atmT ⟨#[108, 105, 115, 116]⟩, omitT])).args.length bc] 24))
  go_upto_region 5 with fail
  obtain ⟨X, hX⟩ : ∃ X, (w2.alloc (.cells #[.int .i64 (errT (.mk 3 0 ⟨#[116, 121, 112, 101, 95, 101, 114, 114, 111, 114]⟩ [atmT ⟨#[108, 105, 115, 116]⟩, omitT])).kind, .int .i64 (errT (.mk 3 0 ⟨#[116, 121, 112, 101, 95, 101, 114, 114, 111, 114]⟩ [atmT ⟨#[108, 105, 115, 116]⟩, omitT])).num, .string (errT (.mk 3 0 ⟨#[116, 121, 112, 101, 95, 101, 114, 114, 111, 114]⟩ [atmT ⟨#[108, 105, 115, 116]⟩, omitT])).name, .slice bx (errT (.mk 3 0 ⟨#[116, 121, 112, 101, 95, 101, 114, 114, 111, 114]⟩ [atmT ⟨#[108, 105, 115, 116]⟩, omitT])).args.length bc] 24)) = X := ⟨_, rfl⟩
  rw [hX] at RR1 RR2 RR3 LT LA LQ LX LB BB ⊢
  clear hX
  obtain ⟨q0, q1, q2, q3⟩ := RR1.out.cells
  go_wp2_with fail
  have hS0 : Below X.heap.size X X.drew := (Below.refl _ _).drew
  have HSS : Hid (∀ w', Below X.heap.size X w' → (fun w' => w'.cell? ⟨w.heap.size, 0, none⟩ = some (.int .i64 T.kind) ∧ w'.cell? ⟨w.heap.size, 1, none⟩ = some (.int .i64 T.num) ∧ w'.cell? ⟨w.heap.size, 2, none⟩ = some (.string T.name) ∧ w'.cell? ⟨w.heap.size, 3, none⟩ = some (.slice va T.args.length vc)) w') := Lib.hid (fun w' h => (RR1.out.below h).cells)
  go_region_held3 (fun w' => w'.cell? ⟨w.heap.size, 0, none⟩ = some (.int .i64 T.kind) ∧ w'.cell? ⟨w.heap.size, 1, none⟩ = some (.int .i64 T.num) ∧ w'.cell? ⟨w.heap.size, 2, none⟩ = some (.string T.name) ∧ w'.cell? ⟨w.heap.size, 3, none⟩ = some (.slice va T.args.length vc))
    (first | exact HSS.out _ h8 | exact HSS.out _ h6 | exact HSS.out _ hS0 | go_keep)
    (first
      | (go_at_call 53; refine (a_any _ _).mono ?_; rintro e w6 ⟨rfl, hb6⟩; have h6 : Below X.heap.size X w6 := hS0.trans (hb6.mono hS0.size))
      | (go_at_call 34; refine (lsame_is T nilT false HS.out _ (.slice none 0 0) _ (LT.out.below h6) (atom_lies (by simp [ByteArray.size]))).mono ?_; rintro e w8 ⟨rfl, hb8⟩; have h8 : Below X.heap.size X w8 := h6.trans (hb8.mono h6.size)))
  clear q0 q1 q2 q3
  have RBL : Hid (w2.heap.size < w8.heap.size) := Lib.hid (by have h := RR3.out.lt; have h2 := h8.size; omega)
  have RR1 := Lib.hid (RR1.out.below h8)
  have LQ := Lib.hid (LQ.out.below h8)
  have LB := Lib.hid (LB.out.below h8)
  have RB := Lib.hid (RR3.out.below h8)
  have RQ := Lib.hid (RR2.out.below h8)
  have BB := Lib.hid (BB.out.trans (h8.mono BB.out.size))
  have LB8 := LB
  have RB8 := RB
  have BB8 := BB
  clear h6 h8 hb6 hb8 hS0 HSS LT LA LX
  obtain ⟨q0, q1, q2, q3⟩ := RR1.out.cells
  obtain ⟨r0, r1, r2, r3⟩ := RQ.out.cells
  go_upto_region 17 with fail
  have R12 := Lib.hid (RowT.new w8 t (.slice ya t.args.length yc))
  have S12 := Lib.hid (al0 w8 (.cells #[.int .i64 t.kind, .int .i64 t.num, .string t.name, .slice ya t.args.length yc] 24))
  obtain ⟨X2, hX2⟩ : ∃ X2, w8.alloc (.cells #[.int .i64 t.kind, .int .i64 t.num, .string t.name, .slice ya t.args.length yc] 24) = X2 := ⟨_, rfl⟩
  rw [hX2] at R12 S12 ⊢
  clear hX2 q0 q1 q2 q3 r0 r1 r2 r3
  have LQ := Lib.hid (LQ.out.below S12.out)
  have LB := Lib.hid (LB.out.below S12.out)
  have RB := Lib.hid (RB.out.below S12.out)
  have RQ := Lib.hid (RQ.out.below S12.out)
  have NE := Lib.hid (show w2.heap.size ≠ w8.heap.size from by have h := RB.out.lt; have h2 := RBL.out; omega)
  have BB := Lib.hid (BB.out.trans (S12.out.mono BB.out.size))
  have S8 := S12
  clear S12
  obtain ⟨r0, r1, r2, r3⟩ := RQ.out.cells
  go_wp2_with fail
  refine (HSZ.out _ _ LQ.out).mono ?_
  rintro e w11 ⟨rfl, hb11⟩
  have R12 := Lib.hid (R12.out.below hb11)
  have LQ := Lib.hid (LQ.out.below hb11)
  have LB := Lib.hid (LB.out.below hb11)
  have RB := Lib.hid (RB.out.below hb11)
  have BB := Lib.hid (BB.out.trans (hb11.mono BB.out.size))
  have S8 := Lib.hid (S8.out.trans (hb11.mono S8.out.size))
  clear hb11 r0 r1 r2 r3 RQ RR1
  go_wp2_with fail
  refine (a_any _ _).mono ?_
  rintro e w12 ⟨rfl, hb12⟩
  have R12 := Lib.hid (R12.out.below hb12)
  have S8 := Lib.hid (S8.out.trans (hb12.mono S8.out.size))
  clear hb12 RB LB BB
  obtain ⟨c0, c1, c2, c3⟩ := R12.out.cells
  obtain ⟨f0, f1, f2, f3⟩ := R12.out.froz
  go_upto_region 19 with fail
  clear c0 c1 c2 c3 f0 f1 f2 f3
  have F4 := four R12.out (.int .i64 2) (.int .i64 0) (.string ⟨#[46, 46, 46]⟩) (.slice none 0 0)
  have S9 := Lib.hid (F4.2.2.2 _ _ (Nat.le_refl _) S8.out)
  have R12 : Hid (RowT (((((w12.setCell ⟨w8.heap.size, 0, none⟩ (.int .i64 2)).setCell ⟨w8.heap.size, 1, none⟩ (.int .i64 0)).setCell ⟨w8.heap.size, 2, none⟩ (.string ⟨#[46, 46, 46]⟩)).setCell ⟨w8.heap.size, 3, none⟩ (.slice none 0 0))) w8.heap.size omitT (.slice none 0 0)) := Lib.hid F4.1
  clear F4 S8
  obtain ⟨w13, hw⟩ : ∃ w13, ((((w12.setCell ⟨w8.heap.size, 0, none⟩ (.int .i64 2)).setCell ⟨w8.heap.size, 1, none⟩ (.int .i64 0)).setCell ⟨w8.heap.size, 2, none⟩ (.string ⟨#[46, 46, 46]⟩)).setCell ⟨w8.heap.size, 3, none⟩ (.slice none 0 0)) = w13 := ⟨_, rfl⟩
  rw [hw] at R12 S9 ⊢
  clear hw
  have RB := Lib.hid (RB8.out.below S9.out)
  have LB := Lib.hid (LB8.out.below S9.out)
  have BB := Lib.hid (BB8.out.trans (S9.out.mono BB8.out.size))
  have LCU : Hid (LiesT w13 omitT (.slice none 0 0)) := Lib.hid (atom_lies (by simp [ByteArray.size]))
  obtain ⟨q0, q1, q2, q3⟩ := RB.out.cells
  obtain ⟨r0, r1, r2, r3⟩ := R12.out.cells
  have hS0 : Below w13.heap.size w13 w13.drew := (Below.refl _ _).drew
  have HSS : Hid (∀ w', Below w13.heap.size w13 w' → (fun w' => w'.cell? ⟨w2.heap.size, 0, none⟩ = some (.int .i64 (errT (.mk 3 0 ⟨#[116, 121, 112, 101, 95, 101, 114, 114, 111, 114]⟩ [atmT ⟨#[108, 105, 115, 116]⟩, omitT])).kind) ∧ w'.cell? ⟨w2.heap.size, 1, none⟩ = some (.int .i64 (errT (.mk 3 0 ⟨#[116, 121, 112, 101, 95, 101, 114, 114, 111, 114]⟩ [atmT ⟨#[108, 105, 115, 116]⟩, omitT])).num) ∧ w'.cell? ⟨w2.heap.size, 2, none⟩ = some (.string (errT (.mk 3 0 ⟨#[116, 121, 112, 101, 95, 101, 114, 114, 111, 114]⟩ [atmT ⟨#[108, 105, 115, 116]⟩, omitT])).name) ∧ w'.cell? ⟨w2.heap.size, 3, none⟩ = some (.slice bx (errT (.mk 3 0 ⟨#[116, 121, 112, 101, 95, 101, 114, 114, 111, 114]⟩ [atmT ⟨#[108, 105, 115, 116]⟩, omitT])).args.length bc) ∧ w'.cell? ⟨w8.heap.size, 0, none⟩ = some (.int .i64 omitT.kind) ∧ w'.cell? ⟨w8.heap.size, 1, none⟩ = some (.int .i64 omitT.num) ∧ w'.cell? ⟨w8.heap.size, 2, none⟩ = some (.string omitT.name) ∧ w'.cell? ⟨w8.heap.size, 3, none⟩ = some (.slice none 0 0)) w') := Lib.hid (fun w' h => by
    obtain ⟨q0, q1, q2, q3⟩ := (RB.out.below h).cells
    obtain ⟨r0, r1, r2, r3⟩ := (R12.out.below h).cells
    exact ⟨q0, q1, q2, q3, r0, r1, r2, r3⟩)
  go_region_held3 (fun w' => w'.cell? ⟨w2.heap.size, 0, none⟩ = some (.int .i64 (errT (.mk 3 0 ⟨#[116, 121, 112, 101, 95, 101, 114, 114, 111, 114]⟩ [atmT ⟨#[108, 105, 115, 116]⟩, omitT])).kind) ∧ w'.cell? ⟨w2.heap.size, 1, none⟩ = some (.int .i64 (errT (.mk 3 0 ⟨#[116, 121, 112, 101, 95, 101, 114, 114, 111, 114]⟩ [atmT ⟨#[108, 105, 115, 116]⟩, omitT])).num) ∧ w'.cell? ⟨w2.heap.size, 2, none⟩ = some (.string (errT (.mk 3 0 ⟨#[116, 121, 112, 101, 95, 101, 114, 114, 111, 114]⟩ [atmT ⟨#[108, 105, 115, 116]⟩, omitT])).name) ∧ w'.cell? ⟨w2.heap.size, 3, none⟩ = some (.slice bx (errT (.mk 3 0 ⟨#[116, 121, 112, 101, 95, 101, 114, 114, 111, 114]⟩ [atmT ⟨#[108, 105, 115, 116]⟩, omitT])).args.length bc) ∧ w'.cell? ⟨w8.heap.size, 0, none⟩ = some (.int .i64 omitT.kind) ∧ w'.cell? ⟨w8.heap.size, 1, none⟩ = some (.int .i64 omitT.num) ∧ w'.cell? ⟨w8.heap.size, 2, none⟩ = some (.string omitT.name) ∧ w'.cell? ⟨w8.heap.size, 3, none⟩ = some (.slice none 0 0))
    (first | exact HSS.out _ (by assumption) | exact HSS.out _ (h26.alloc h26.size _) | go_keep)
    (first
      | (go_at_call 53; refine (a_any _ _).mono ?_; rintro e w26 ⟨rfl, hb26⟩; have h26 : Below w13.heap.size w13 w26 := hS0.trans (hb26.mono hS0.size))
      | (go_at_call 58; refine (f_any _ _ _ _ _).mono ?_; rintro e w27 ⟨rfl, hb27⟩; have h27 : Below w13.heap.size w13 w27 := h26.trans ((al hb27).mono h26.size); have LT7 : Hid (LiesT w27 (.mk 3 0 ⟨#[116, 121, 112, 101, 95, 101, 114, 114, 111, 114]⟩ [atmT ⟨#[108, 105, 115, 116]⟩, omitT]) (.slice (some ⟨w26.heap.size, 0, none⟩) 2 2)) := Lib.hid ((struct_lies (nm := ⟨#[116, 121, 112, 101, 95, 101, 114, 114, 111, 114]⟩) (by simp [ByteArray.size]) (lies_new (w := w26) (g := w26.heap.size) (ty := 24) rfl [(atmT ⟨#[108, 105, 115, 116]⟩, .slice none 0 0), (omitT, .slice none 0 0)] (by simp only [EnvT]; exact ⟨atom_lies (by simp [ByteArray.size]), LCU.out.below h26, trivial⟩) (by simp))).below hb27))
      | (go_at_call 56; refine (error1_any (.mk 3 0 ⟨#[116, 121, 112, 101, 95, 101, 114, 114, 111, 114]⟩ [atmT ⟨#[108, 105, 115, 116]⟩, omitT]) _ _ LT7.out).mono ?_; rintro e w28 ⟨yW, rfl, hyW, hb28⟩; obtain ⟨aw, cw, rfl⟩ := hyW.slice; have LW := Lib.hid hyW; have h28 : Below w13.heap.size w13 w28 := h27.trans (hb28.mono h27.size))
      | (go_at_call 34; refine (lsame_self (errT (.mk 3 0 ⟨#[116, 121, 112, 101, 95, 101, 114, 114, 111, 114]⟩ [atmT ⟨#[108, 105, 115, 116]⟩, omitT])) _ _ _ VB.out (LB.out.below h28) LW.out).mono ?_; rintro e w8 ⟨rfl, hb8⟩; have h8 : Below w13.heap.size w13 w8 := h28.trans (hb8.mono h28.size))
      | (go_at_call 31; refine (awake_any _).mono ?_; rintro e w9 ⟨rfl, hb9⟩; have h9 : Below w13.heap.size w13 w9 := h8.trans (hb9.mono h8.size)))
  clear q0 q1 q2 q3 r0 r1 r2 r3
  go_wp2_with fail
  go_ret
  exact ⟨rfl, BB.out.trans (h9.mono BB.out.size)⟩
set_option maxRecDepth 8000 in
set_option maxHeartbeats 32000000 in
theorem lists_big_b (ts : List Tm) (T : Tm) (a v : Value) (w : World) (ha : LiesA w ts a) (hv : LiesT w T v) (hne : ts ≠ []) (hval : validB (listT ts T) = true) (hp : isPairB T = false) (hs : sameV T nilT = false) (hk : T.kind ≠ 0) (e9 : (T.kind == 3) = true) (e10 : (T.name.toList == [46]) = false) (hbig : 2000 < 4 + cnt (listT ts T)) : Calls Try.prog 9 #[a, tv T v] w fun e w' => e = .returned (.bool true) ∧ Below w.heap.size w w' := by
  obtain ⟨va, vc, rfl⟩ : ∃ a k, v = .slice a T.args.length k := hv.slice
  obtain ⟨aa, ac, rfl⟩ : ∃ x k, a = .slice x ts.length k := ha.slice
  have HP := list_parts ts T hval
  have HF := lists_f ts T hval
  have h2 : (listT ts T).args.length = 2 := by
    cases ts with
    | nil => exact absurd rfl hne
    | cons t ts => rfl
  obtain ⟨t, ht⟩ : ∃ t, listT ts T = t := ⟨_, rfl⟩
  have HR : Hid (∀ w0, LiesA w0 ts (.slice aa ts.length ac) → LiesT w0 T (.slice va T.args.length vc) → Calls Try.prog 57 #[.slice aa ts.length ac, tv T (.slice va T.args.length vc)] w0 (MadeEnd t w0)) := Lib.hid (fun w0 h1 h2 => by have h := rlist_any ts T _ _ w0 h1 h2; unfold MadeV at h; rw [if_pos hval, ht] at h; exact h)
  have HCN : Hid (ts.length < cnt t) := Lib.hid (by rw [← ht]; exact cnt_listT T ts)
  rw [ht] at HF hval h2
  have HV := Lib.hid hval
  have HVT := Lib.hid HP.1
  have HVL := Lib.hid HP.2
  have hE := elemsT_not T hp
  have hI : isNil T = false := nil_not HP.1 hs
  have hO : lsO t = false := by rw [HF.o, hE]; exact hI
  have hL : lsL t = [] := by rw [HF.l, hE, if_neg (by rw [hI]; simp)]
  have hB : lsB t = errT (.mk 3 0 ⟨#[116, 121, 112, 101, 95, 101, 114, 114, 111, 114]⟩ [atmT ⟨#[108, 105, 115, 116]⟩, omitT]) := by
    rw [HF.b, hE, if_neg (by simpa using hk), if_neg (by rw [hI]; simp), type_err HV.out]
    unfold culT
    rw [if_pos (by rw [← ht]; omega)]
  have e5 : (T.kind == 0) = false := by simpa using hk
  have HS := Lib.hid hs
  obtain ⟨N, hN⟩ : ∃ N, cnt t = N := ⟨_, rfl⟩
  have hcv := cntM_valid HV.out
  rw [hN] at hcv
  have HSZ : Hid (∀ w0 x0, LiesT w0 t x0 → Calls Try.prog 54 #[tv t x0] w0 fun e w' => e = .returned (.int .i64 (N : Int)) ∧ Below w0.heap.size w0 w') := Lib.hid (fun w0 x0 h => by have h3 := size_any t x0 w0 h; rw [hcv.1] at h3; exact h3)
  have hN1 : N ≤ 2000 := hcv.2
  have hN2 : 2000 < N + 4 := by first | omega | (rw [← hN, ← ht]; omega)
  have d1 : decide ((2000 : Int) < (N : Int) + 4) = true := by simp; omega
  clear hE hI hs hp hk hcv hN
  have VB : Hid (validB (errT (.mk 3 0 ⟨#[116, 121, 112, 101, 95, 101, 114, 114, 111, 114]⟩ [atmT ⟨#[108, 105, 115, 116]⟩, omitT])) = true) := Lib.hid (by rw [← hB]; exact lsB_valid t)
  have HCL : Hid (∀ w0 x0, LiesT w0 t x0 → Calls Try.prog 43 #[tv t x0] w0 (ChkL ([]) (errT (.mk 3 0 ⟨#[116, 121, 112, 101, 95, 101, 114, 114, 111, 114]⟩ [atmT ⟨#[108, 105, 115, 116]⟩, omitT])) false w0)) := Lib.hid (fun w0 x0 h => by have h3 := List_any t x0 w0 h; rw [hL, hO, hB] at h3; exact h3)
  have e0 : ((ts.length : Int) == 0) = false := by have : 0 < ts.length := List.length_pos_iff.2 hne; simp; omega
  have e2 : ((t.args.length : Int) != 2) = false := by rw [h2]; rfl
  clear HP HF h2 ht hval hne hL hO hB
  have BB := Lib.hid (Below.refl w.heap.size w)
  have LT := Lib.hid (hv)
  have LA := Lib.hid (ha)
  have LT := Lib.hid (LT.out.below (al0 w (.cells #[.int .i64 T.kind, .int .i64 T.num, .string T.name, .slice va T.args.length vc] 24)))
  have LA := Lib.hid (LA.out.below (al0 w (.cells #[.int .i64 T.kind, .int .i64 T.num, .string T.name, .slice va T.args.length vc] 24)))
  have RR1 := Lib.hid (RowT.new w T (.slice va T.args.length vc))
  have BB := Lib.hid (BB.out.alloc BB.out.size (.cells #[.int .i64 T.kind, .int .i64 T.num, .string T.name, .slice va T.args.length vc] 24))
  clear ha hv
  simp only [tv]
  go_enter Try.func9, Try.ntmps9
  obtain ⟨xRR1_0, xRR1_1, xRR1_2, xRR1_3⟩ := RR1.out.cells
  go_wp2_with fail
  refine (HR.out _ LA.out LT.out).mono ?_
  rintro e w1 ⟨y, rfl, hy, hb1⟩
  clear xRR1_0 xRR1_1 xRR1_2 xRR1_3
  have RR1 := Lib.hid (RR1.out.below hb1)
  have LT := Lib.hid (LT.out.below hb1)
  have LA := Lib.hid (LA.out.below hb1)
  have BB := Lib.hid (BB.out.trans (hb1.mono BB.out.size))
  obtain ⟨ya, yc, rfl⟩ := hy.slice
  have LQ := Lib.hid (OwnT.lies _ _ hy)
  clear hy
  clear hb1
  have RR1 := Lib.hid (RR1.out.below (al0 w1 (.cells #[.int .i64 t.kind, .int .i64 t.num, .string t.name, .slice ya t.args.length yc] 24)))
  have LT := Lib.hid (LT.out.below (al0 w1 (.cells #[.int .i64 t.kind, .int .i64 t.num, .string t.name, .slice ya t.args.length yc] 24)))
  have LA := Lib.hid (LA.out.below (al0 w1 (.cells #[.int .i64 t.kind, .int .i64 t.num, .string t.name, .slice ya t.args.length yc] 24)))
  have LQ := Lib.hid (LQ.out.below (al0 w1 (.cells #[.int .i64 t.kind, .int .i64 t.num, .string t.name, .slice ya t.args.length yc] 24)))
  have RR2 := Lib.hid (RowT.new w1 t (.slice ya t.args.length yc))
  have BB := Lib.hid (BB.out.alloc BB.out.size (.cells #[.int .i64 t.kind, .int .i64 t.num, .string t.name, .slice ya t.args.length yc] 24))
  obtain ⟨xRR2_0, xRR2_1, xRR2_2, xRR2_3⟩ := RR2.out.cells
  go_wp2_with fail
  refine (HCL.out _ _ LQ.out).mono ?_
  rintro e w2 ⟨x, y2, rfl, hx, hy2, hb2⟩
  clear xRR2_0 xRR2_1 xRR2_2 xRR2_3
  have RR1 := Lib.hid (RR1.out.below hb2)
  have RR2 := Lib.hid (RR2.out.below hb2)
  have LT := Lib.hid (LT.out.below hb2)
  have LA := Lib.hid (LA.out.below hb2)
  have LQ := Lib.hid (LQ.out.below hb2)
  have BB := Lib.hid (BB.out.trans (hb2.mono BB.out.size))
  obtain ⟨xa, xc, rfl⟩ : ∃ a k, x = .slice a 0 k := hx.slice
  obtain ⟨bx, bc, rfl⟩ := hy2.slice
  have LX := Lib.hid (hx)
  have LB := Lib.hid (hy2)
  clear hx hy2
  clear hb2
  have RR1 := Lib.hid (RR1.out.below (al0 w2 (.cells #[.int .i64 (errT (.mk 3 0 ⟨#[116, 121, 112, 101, 95, 101, 114, 114, 111, 114]⟩ [atmT ⟨#[108, 105, 115, 116]⟩, omitT])).kind, .int .i64 (errT (.mk 3 0 ⟨#[116, 121, 112, 101, 95, 101, 114, 114, 111, 114]⟩ [atmT ⟨#[108, 105, 115, 116]⟩, omitT])).num, .string (errT (.mk 3 0 ⟨#[116, 121, 112, 101, 95, 101, 114, 114, 111, 114]⟩ [atmT ⟨#[108, 105, 115, 116]⟩, omitT])).name, .slice bx (errT (.mk 3 0 ⟨#[116, 121, 112, 101, 95, 101, 114, 114, 111, 114]⟩ [atmT ⟨#[108, 105, 115, 116]⟩, omitT])).args.length bc] 24)))
  have RR2 := Lib.hid (RR2.out.below (al0 w2 (.cells #[.int .i64 (errT (.mk 3 0 ⟨#[116, 121, 112, 101, 95, 101, 114, 114, 111, 114]⟩ [atmT ⟨#[108, 105, 115, 116]⟩, omitT])).kind, .int .i64 (errT (.mk 3 0 ⟨#[116, 121, 112, 101, 95, 101, 114, 114, 111, 114]⟩ [atmT ⟨#[108, 105, 115, 116]⟩, omitT])).num, .string (errT (.mk 3 0 ⟨#[116, 121, 112, 101, 95, 101, 114, 114, 111, 114]⟩ [atmT ⟨#[108, 105, 115, 116]⟩, omitT])).name, .slice bx (errT (.mk 3 0 ⟨#[116, 121, 112, 101, 95, 101, 114, 114, 111, 114]⟩ [atmT ⟨#[108, 105, 115, 116]⟩, omitT])).args.length bc] 24)))
  have LT := Lib.hid (LT.out.below (al0 w2 (.cells #[.int .i64 (errT (.mk 3 0 ⟨#[116, 121, 112, 101, 95, 101, 114, 114, 111, 114]⟩ [atmT ⟨#[108, 105, 115, 116]⟩, omitT])).kind, .int .i64 (errT (.mk 3 0 ⟨#[116, 121, 112, 101, 95, 101, 114, 114, 111, 114]⟩ [atmT ⟨#[108, 105, 115, 116]⟩, omitT])).num, .string (errT (.mk 3 0 ⟨#[116, 121, 112, 101, 95, 101, 114, 114, 111, 114]⟩ [atmT ⟨#[108, 105, 115, 116]⟩, omitT])).name, .slice bx (errT (.mk 3 0 ⟨#[116, 121, 112, 101, 95, 101, 114, 114, 111, 114]⟩ [atmT ⟨#[108, 105, 115, 116]⟩, omitT])).args.length bc] 24)))
  have LA := Lib.hid (LA.out.below (al0 w2 (.cells #[.int .i64 (errT (.mk 3 0 ⟨#[116, 121, 112, 101, 95, 101, 114, 114, 111, 114]⟩ [atmT ⟨#[108, 105, 115, 116]⟩, omitT])).kind, .int .i64 (errT (.mk 3 0 ⟨#[116, 121, 112, 101, 95, 101, 114, 114, 111, 114]⟩ [atmT ⟨#[108, 105, 115, 116]⟩, omitT])).num, .string (errT (.mk 3 0 ⟨#[116, 121, 112, 101, 95, 101, 114, 114, 111, 114]⟩ [atmT ⟨#[108, 105, 115, 116]⟩, omitT])).name, .slice bx (errT (.mk 3 0 ⟨#[116, 121, 112, 101, 95, 101, 114, 114, 111, 114]⟩ [atmT ⟨#[108, 105, 115, 116]⟩, omitT])).args.length bc] 24)))
  have LQ := Lib.hid (LQ.out.below (al0 w2 (.cells #[.int .i64 (errT (.mk 3 0 ⟨#[116, 121, 112, 101, 95, 101, 114, 114, 111, 114]⟩ [atmT ⟨#[108, 105, 115, 116]⟩, omitT])).kind, .int .i64 (errT (.mk 3 0 ⟨#[116, 121, 112, 101, 95, 101, 114, 114, 111, 114]⟩ [atmT ⟨#[108, 105, 115, 116]⟩, omitT])).num, .string (errT (.mk 3 0 ⟨#[116, 121, 112, 101, 95, 101, 114, 114, 111, 114]⟩ [atmT ⟨#[108, 105, 115, 116]⟩, omitT])).name, .slice bx (errT (.mk 3 0 ⟨#[116, 121, 112, 101, 95, 101, 114, 114, 111, 114]⟩ [atmT ⟨#[108, 105, 115, 116]⟩, omitT])).args.length bc] 24)))
  have LX := Lib.hid (LX.out.below (al0 w2 (.cells #[.int .i64 (errT (.mk 3 0 ⟨#[116, 121, 112, 101, 95, 101, 114, 114, 111, 114]⟩ [atmT ⟨#[108, 105, 115, 116]⟩, omitT])).kind, .int .i64 (errT (.mk 3 0 ⟨#[116, 121, 112, 101, 95, 101, 114, 114, 111, 114]⟩ [atmT ⟨#[108, 105, 115, 116]⟩, omitT])).num, .string (errT (.mk 3 0 ⟨#[116, 121, 112, 101, 95, 101, 114, 114, 111, 114]⟩ [atmT ⟨#[108, 105, 115, 116]⟩, omitT])).name, .slice bx (errT (.mk 3 0 ⟨#[116, 121, 112, 101, 95, 101, 114, 114, 111, 114]⟩ [atmT ⟨#[108, 105, 115, 116]⟩, omitT])).args.length bc] 24)))
  have LB := Lib.hid (LB.out.below (al0 w2 (.cells #[.int .i64 (errT (.mk 3 0 ⟨#[116, 121, 112, 101, 95, 101, 114, 114, 111, 114]⟩ [atmT ⟨#[108, 105, 115, 116]⟩, omitT])).kind, .int .i64 (errT (.mk 3 0 ⟨#[116, 121, 112, 101, 95, 101, 114, 114, 111, 114]⟩ [atmT ⟨#[108, 105, 115, 116]⟩, omitT])).num, .string (errT (.mk 3 0 ⟨#[116, 121, 112, 101, 95, 101, 114, 114, 111, 114]⟩ [atmT ⟨#[108, 105, 115, 116]⟩, omitT])).name, .slice bx (errT (.mk 3 0 ⟨#[116, 121, 112, 101, 95, 101, 114, 114, 111, 114]⟩ [atmT ⟨#[108, 105, 115, 116]⟩, omitT])).args.length bc] 24)))
  have RR3 := Lib.hid (RowT.new w2 (errT (.mk 3 0 ⟨#[116, 121, 112, 101, 95, 101, 114, 114, 111, 114]⟩ [atmT ⟨#[108, 105, 115, 116]⟩, omitT])) (.slice bx (errT (.mk 3 0 ⟨#[116, 121, 112, 101, 95, 101, 114, 114, 111, 114]⟩ [atmT ⟨#[108, 105, 115, 116]⟩, omitT])).args.length bc))
  have BB := Lib.hid (BB.out.alloc BB.out.size (.cells #[.int .i64 (errT (.mk 3 0 ⟨#[116, 121, 112, 101, 95, 101, 114, 114, 111, 114]⟩ [atmT ⟨#[108, 105, 115, 116]⟩, omitT])).kind, .int .i64 (errT (.mk 3 0 ⟨#[116, 121, 112, 101, 95, 101, 114, 114, 111, 114]⟩ [atmT ⟨#[108, 105, 115, 116]⟩, omitT])).num, .string (errT (.mk 3 0 ⟨#[116, 121, 112, 101, 95, 101, 114, 114, 111, 114]⟩ [atmT ⟨#[108, 105, 115, 116]⟩, omitT])).name, .slice bx (errT (.mk 3 0 ⟨#[116, 121, 112, 101, 95, 101, 114, 114, 111, 114]⟩ [atmT ⟨#[108, 105, 115, 116]⟩, omitT])).args.length bc] 24))
  go_upto_region 5 with fail
  obtain ⟨X, hX⟩ : ∃ X, (w2.alloc (.cells #[.int .i64 (errT (.mk 3 0 ⟨#[116, 121, 112, 101, 95, 101, 114, 114, 111, 114]⟩ [atmT ⟨#[108, 105, 115, 116]⟩, omitT])).kind, .int .i64 (errT (.mk 3 0 ⟨#[116, 121, 112, 101, 95, 101, 114, 114, 111, 114]⟩ [atmT ⟨#[108, 105, 115, 116]⟩, omitT])).num, .string (errT (.mk 3 0 ⟨#[116, 121, 112, 101, 95, 101, 114, 114, 111, 114]⟩ [atmT ⟨#[108, 105, 115, 116]⟩, omitT])).name, .slice bx (errT (.mk 3 0 ⟨#[116, 121, 112, 101, 95, 101, 114, 114, 111, 114]⟩ [atmT ⟨#[108, 105, 115, 116]⟩, omitT])).args.length bc] 24)) = X := ⟨_, rfl⟩
  rw [hX] at RR1 RR2 RR3 LT LA LQ LX LB BB ⊢
  clear hX
  obtain ⟨q0, q1, q2, q3⟩ := RR1.out.cells
  go_wp2_with fail
  have hS0 : Below X.heap.size X X.drew := (Below.refl _ _).drew
  have HSS : Hid (∀ w', Below X.heap.size X w' → (fun w' => w'.cell? ⟨w.heap.size, 0, none⟩ = some (.int .i64 T.kind) ∧ w'.cell? ⟨w.heap.size, 1, none⟩ = some (.int .i64 T.num) ∧ w'.cell? ⟨w.heap.size, 2, none⟩ = some (.string T.name) ∧ w'.cell? ⟨w.heap.size, 3, none⟩ = some (.slice va T.args.length vc)) w') := Lib.hid (fun w' h => (RR1.out.below h).cells)
  go_region_held3 (fun w' => w'.cell? ⟨w.heap.size, 0, none⟩ = some (.int .i64 T.kind) ∧ w'.cell? ⟨w.heap.size, 1, none⟩ = some (.int .i64 T.num) ∧ w'.cell? ⟨w.heap.size, 2, none⟩ = some (.string T.name) ∧ w'.cell? ⟨w.heap.size, 3, none⟩ = some (.slice va T.args.length vc))
    (first | exact HSS.out _ h8 | exact HSS.out _ h6 | exact HSS.out _ hS0 | go_keep)
    (first
      | (go_at_call 53; refine (a_any _ _).mono ?_; rintro e w6 ⟨rfl, hb6⟩; have h6 : Below X.heap.size X w6 := hS0.trans (hb6.mono hS0.size))
      | (go_at_call 34; refine (lsame_is T nilT false HS.out _ (.slice none 0 0) _ (LT.out.below h6) (atom_lies (by simp [ByteArray.size]))).mono ?_; rintro e w8 ⟨rfl, hb8⟩; have h8 : Below X.heap.size X w8 := h6.trans (hb8.mono h6.size)))
  clear q0 q1 q2 q3
  have RBL : Hid (w2.heap.size < w8.heap.size) := Lib.hid (by have h := RR3.out.lt; have h2 := h8.size; omega)
  have RR1 := Lib.hid (RR1.out.below h8)
  have LQ := Lib.hid (LQ.out.below h8)
  have LB := Lib.hid (LB.out.below h8)
  have RB := Lib.hid (RR3.out.below h8)
  have RQ := Lib.hid (RR2.out.below h8)
  have BB := Lib.hid (BB.out.trans (h8.mono BB.out.size))
  have LB8 := LB
  have RB8 := RB
  have BB8 := BB
  clear h6 h8 hb6 hb8 hS0 HSS LT LA LX
  obtain ⟨q0, q1, q2, q3⟩ := RR1.out.cells
  obtain ⟨r0, r1, r2, r3⟩ := RQ.out.cells
  go_upto_region 17 with fail
  have R12 := Lib.hid (RowT.new w8 t (.slice ya t.args.length yc))
  have S12 := Lib.hid (al0 w8 (.cells #[.int .i64 t.kind, .int .i64 t.num, .string t.name, .slice ya t.args.length yc] 24))
  obtain ⟨X2, hX2⟩ : ∃ X2, w8.alloc (.cells #[.int .i64 t.kind, .int .i64 t.num, .string t.name, .slice ya t.args.length yc] 24) = X2 := ⟨_, rfl⟩
  rw [hX2] at R12 S12 ⊢
  clear hX2 q0 q1 q2 q3 r0 r1 r2 r3
  have LQ := Lib.hid (LQ.out.below S12.out)
  have LB := Lib.hid (LB.out.below S12.out)
  have RB := Lib.hid (RB.out.below S12.out)
  have RQ := Lib.hid (RQ.out.below S12.out)
  have NE := Lib.hid (show w2.heap.size ≠ w8.heap.size from by have h := RB.out.lt; have h2 := RBL.out; omega)
  have BB := Lib.hid (BB.out.trans (S12.out.mono BB.out.size))
  have S8 := S12
  clear S12
  obtain ⟨r0, r1, r2, r3⟩ := RQ.out.cells
  go_wp2_with fail
  refine (HSZ.out _ _ LQ.out).mono ?_
  rintro e w11 ⟨rfl, hb11⟩
  have R12 := Lib.hid (R12.out.below hb11)
  have LQ := Lib.hid (LQ.out.below hb11)
  have LB := Lib.hid (LB.out.below hb11)
  have RB := Lib.hid (RB.out.below hb11)
  have BB := Lib.hid (BB.out.trans (hb11.mono BB.out.size))
  have S8 := Lib.hid (S8.out.trans (hb11.mono S8.out.size))
  clear hb11 r0 r1 r2 r3 RQ RR1
  go_wp2_with fail
  refine (a_any _ _).mono ?_
  rintro e w12 ⟨rfl, hb12⟩
  have R12 := Lib.hid (R12.out.below hb12)
  have S8 := Lib.hid (S8.out.trans (hb12.mono S8.out.size))
  clear hb12 RB LB BB
  obtain ⟨c0, c1, c2, c3⟩ := R12.out.cells
  obtain ⟨f0, f1, f2, f3⟩ := R12.out.froz
  go_upto_region 19 with fail
  clear c0 c1 c2 c3 f0 f1 f2 f3
  have F4 := four R12.out (.int .i64 2) (.int .i64 0) (.string ⟨#[46, 46, 46]⟩) (.slice none 0 0)
  have S9 := Lib.hid (F4.2.2.2 _ _ (Nat.le_refl _) S8.out)
  have R12 : Hid (RowT (((((w12.setCell ⟨w8.heap.size, 0, none⟩ (.int .i64 2)).setCell ⟨w8.heap.size, 1, none⟩ (.int .i64 0)).setCell ⟨w8.heap.size, 2, none⟩ (.string ⟨#[46, 46, 46]⟩)).setCell ⟨w8.heap.size, 3, none⟩ (.slice none 0 0))) w8.heap.size omitT (.slice none 0 0)) := Lib.hid F4.1
  clear F4 S8
  obtain ⟨w13, hw⟩ : ∃ w13, ((((w12.setCell ⟨w8.heap.size, 0, none⟩ (.int .i64 2)).setCell ⟨w8.heap.size, 1, none⟩ (.int .i64 0)).setCell ⟨w8.heap.size, 2, none⟩ (.string ⟨#[46, 46, 46]⟩)).setCell ⟨w8.heap.size, 3, none⟩ (.slice none 0 0)) = w13 := ⟨_, rfl⟩
  rw [hw] at R12 S9 ⊢
  clear hw
  have RB := Lib.hid (RB8.out.below S9.out)
  have LB := Lib.hid (LB8.out.below S9.out)
  have BB := Lib.hid (BB8.out.trans (S9.out.mono BB8.out.size))
  have LCU : Hid (LiesT w13 omitT (.slice none 0 0)) := Lib.hid (atom_lies (by simp [ByteArray.size]))
  obtain ⟨q0, q1, q2, q3⟩ := RB.out.cells
  obtain ⟨r0, r1, r2, r3⟩ := R12.out.cells
  have hS0 : Below w13.heap.size w13 w13.drew := (Below.refl _ _).drew
  have HSS : Hid (∀ w', Below w13.heap.size w13 w' → (fun w' => w'.cell? ⟨w2.heap.size, 0, none⟩ = some (.int .i64 (errT (.mk 3 0 ⟨#[116, 121, 112, 101, 95, 101, 114, 114, 111, 114]⟩ [atmT ⟨#[108, 105, 115, 116]⟩, omitT])).kind) ∧ w'.cell? ⟨w2.heap.size, 1, none⟩ = some (.int .i64 (errT (.mk 3 0 ⟨#[116, 121, 112, 101, 95, 101, 114, 114, 111, 114]⟩ [atmT ⟨#[108, 105, 115, 116]⟩, omitT])).num) ∧ w'.cell? ⟨w2.heap.size, 2, none⟩ = some (.string (errT (.mk 3 0 ⟨#[116, 121, 112, 101, 95, 101, 114, 114, 111, 114]⟩ [atmT ⟨#[108, 105, 115, 116]⟩, omitT])).name) ∧ w'.cell? ⟨w2.heap.size, 3, none⟩ = some (.slice bx (errT (.mk 3 0 ⟨#[116, 121, 112, 101, 95, 101, 114, 114, 111, 114]⟩ [atmT ⟨#[108, 105, 115, 116]⟩, omitT])).args.length bc) ∧ w'.cell? ⟨w8.heap.size, 0, none⟩ = some (.int .i64 omitT.kind) ∧ w'.cell? ⟨w8.heap.size, 1, none⟩ = some (.int .i64 omitT.num) ∧ w'.cell? ⟨w8.heap.size, 2, none⟩ = some (.string omitT.name) ∧ w'.cell? ⟨w8.heap.size, 3, none⟩ = some (.slice none 0 0)) w') := Lib.hid (fun w' h => by
    obtain ⟨q0, q1, q2, q3⟩ := (RB.out.below h).cells
    obtain ⟨r0, r1, r2, r3⟩ := (R12.out.below h).cells
    exact ⟨q0, q1, q2, q3, r0, r1, r2, r3⟩)
  go_region_held3 (fun w' => w'.cell? ⟨w2.heap.size, 0, none⟩ = some (.int .i64 (errT (.mk 3 0 ⟨#[116, 121, 112, 101, 95, 101, 114, 114, 111, 114]⟩ [atmT ⟨#[108, 105, 115, 116]⟩, omitT])).kind) ∧ w'.cell? ⟨w2.heap.size, 1, none⟩ = some (.int .i64 (errT (.mk 3 0 ⟨#[116, 121, 112, 101, 95, 101, 114, 114, 111, 114]⟩ [atmT ⟨#[108, 105, 115, 116]⟩, omitT])).num) ∧ w'.cell? ⟨w2.heap.size, 2, none⟩ = some (.string (errT (.mk 3 0 ⟨#[116, 121, 112, 101, 95, 101, 114, 114, 111, 114]⟩ [atmT ⟨#[108, 105, 115, 116]⟩, omitT])).name) ∧ w'.cell? ⟨w2.heap.size, 3, none⟩ = some (.slice bx (errT (.mk 3 0 ⟨#[116, 121, 112, 101, 95, 101, 114, 114, 111, 114]⟩ [atmT ⟨#[108, 105, 115, 116]⟩, omitT])).args.length bc) ∧ w'.cell? ⟨w8.heap.size, 0, none⟩ = some (.int .i64 omitT.kind) ∧ w'.cell? ⟨w8.heap.size, 1, none⟩ = some (.int .i64 omitT.num) ∧ w'.cell? ⟨w8.heap.size, 2, none⟩ = some (.string omitT.name) ∧ w'.cell? ⟨w8.heap.size, 3, none⟩ = some (.slice none 0 0))
    (first | exact HSS.out _ (by assumption) | exact HSS.out _ (h26.alloc h26.size _) | go_keep)
    (first
      | (go_at_call 53; refine (a_any _ _).mono ?_; rintro e w26 ⟨rfl, hb26⟩; have h26 : Below w13.heap.size w13 w26 := hS0.trans (hb26.mono hS0.size))
      | (go_at_call 58; refine (f_any _ _ _ _ _).mono ?_; rintro e w27 ⟨rfl, hb27⟩; have h27 : Below w13.heap.size w13 w27 := h26.trans ((al hb27).mono h26.size); have LT7 : Hid (LiesT w27 (.mk 3 0 ⟨#[116, 121, 112, 101, 95, 101, 114, 114, 111, 114]⟩ [atmT ⟨#[108, 105, 115, 116]⟩, omitT]) (.slice (some ⟨w26.heap.size, 0, none⟩) 2 2)) := Lib.hid ((struct_lies (nm := ⟨#[116, 121, 112, 101, 95, 101, 114, 114, 111, 114]⟩) (by simp [ByteArray.size]) (lies_new (w := w26) (g := w26.heap.size) (ty := 24) rfl [(atmT ⟨#[108, 105, 115, 116]⟩, .slice none 0 0), (omitT, .slice none 0 0)] (by simp only [EnvT]; exact ⟨atom_lies (by simp [ByteArray.size]), LCU.out.below h26, trivial⟩) (by simp))).below hb27))
      | (go_at_call 56; refine (error1_any (.mk 3 0 ⟨#[116, 121, 112, 101, 95, 101, 114, 114, 111, 114]⟩ [atmT ⟨#[108, 105, 115, 116]⟩, omitT]) _ _ LT7.out).mono ?_; rintro e w28 ⟨yW, rfl, hyW, hb28⟩; obtain ⟨aw, cw, rfl⟩ := hyW.slice; have LW := Lib.hid hyW; have h28 : Below w13.heap.size w13 w28 := h27.trans (hb28.mono h27.size))
      | (go_at_call 34; refine (lsame_self (errT (.mk 3 0 ⟨#[116, 121, 112, 101, 95, 101, 114, 114, 111, 114]⟩ [atmT ⟨#[108, 105, 115, 116]⟩, omitT])) _ _ _ VB.out (LB.out.below h28) LW.out).mono ?_; rintro e w8 ⟨rfl, hb8⟩; have h8 : Below w13.heap.size w13 w8 := h28.trans (hb8.mono h28.size))
      | (go_at_call 31; refine (awake_any _).mono ?_; rintro e w9 ⟨rfl, hb9⟩; have h9 : Below w13.heap.size w13 w9 := h8.trans (hb9.mono h8.size)))
  clear q0 q1 q2 q3 r0 r1 r2 r3
  go_wp2_with fail
  go_ret
  exact ⟨rfl, BB.out.trans (h9.mono BB.out.size)⟩
set_option maxRecDepth 8000 in
set_option maxHeartbeats 32000000 in
theorem lists_big_c (ts : List Tm) (T : Tm) (a v : Value) (w : World) (ha : LiesA w ts a) (hv : LiesT w T v) (hne : ts ≠ []) (hval : validB (listT ts T) = true) (hp : isPairB T = false) (hs : sameV T nilT = false) (hk : T.kind ≠ 0) (e9 : (T.kind == 3) = true) (e10 : (T.name.toList == [46]) = true) (e11 : ((T.args.length : Int) == 2) = false) (hbig : 2000 < 4 + cnt (listT ts T)) : Calls Try.prog 9 #[a, tv T v] w fun e w' => e = .returned (.bool true) ∧ Below w.heap.size w w' := by
  obtain ⟨va, vc, rfl⟩ : ∃ a k, v = .slice a T.args.length k := hv.slice
  obtain ⟨aa, ac, rfl⟩ : ∃ x k, a = .slice x ts.length k := ha.slice
  have HP := list_parts ts T hval
  have HF := lists_f ts T hval
  have h2 : (listT ts T).args.length = 2 := by
    cases ts with
    | nil => exact absurd rfl hne
    | cons t ts => rfl
  obtain ⟨t, ht⟩ : ∃ t, listT ts T = t := ⟨_, rfl⟩
  have HR : Hid (∀ w0, LiesA w0 ts (.slice aa ts.length ac) → LiesT w0 T (.slice va T.args.length vc) → Calls Try.prog 57 #[.slice aa ts.length ac, tv T (.slice va T.args.length vc)] w0 (MadeEnd t w0)) := Lib.hid (fun w0 h1 h2 => by have h := rlist_any ts T _ _ w0 h1 h2; unfold MadeV at h; rw [if_pos hval, ht] at h; exact h)
  have HCN : Hid (ts.length < cnt t) := Lib.hid (by rw [← ht]; exact cnt_listT T ts)
  rw [ht] at HF hval h2
  have HV := Lib.hid hval
  have HVT := Lib.hid HP.1
  have HVL := Lib.hid HP.2
  have hE := elemsT_not T hp
  have hI : isNil T = false := nil_not HP.1 hs
  have hO : lsO t = false := by rw [HF.o, hE]; exact hI
  have hL : lsL t = [] := by rw [HF.l, hE, if_neg (by rw [hI]; simp)]
  have hB : lsB t = errT (.mk 3 0 ⟨#[116, 121, 112, 101, 95, 101, 114, 114, 111, 114]⟩ [atmT ⟨#[108, 105, 115, 116]⟩, omitT]) := by
    rw [HF.b, hE, if_neg (by simpa using hk), if_neg (by rw [hI]; simp), type_err HV.out]
    unfold culT
    rw [if_pos (by rw [← ht]; omega)]
  have e5 : (T.kind == 0) = false := by simpa using hk
  have HS := Lib.hid hs
  obtain ⟨N, hN⟩ : ∃ N, cnt t = N := ⟨_, rfl⟩
  have hcv := cntM_valid HV.out
  rw [hN] at hcv
  have HSZ : Hid (∀ w0 x0, LiesT w0 t x0 → Calls Try.prog 54 #[tv t x0] w0 fun e w' => e = .returned (.int .i64 (N : Int)) ∧ Below w0.heap.size w0 w') := Lib.hid (fun w0 x0 h => by have h3 := size_any t x0 w0 h; rw [hcv.1] at h3; exact h3)
  have hN1 : N ≤ 2000 := hcv.2
  have hN2 : 2000 < N + 4 := by first | omega | (rw [← hN, ← ht]; omega)
  have d1 : decide ((2000 : Int) < (N : Int) + 4) = true := by simp; omega
  clear hE hI hs hp hk hcv hN
  have VB : Hid (validB (errT (.mk 3 0 ⟨#[116, 121, 112, 101, 95, 101, 114, 114, 111, 114]⟩ [atmT ⟨#[108, 105, 115, 116]⟩, omitT])) = true) := Lib.hid (by rw [← hB]; exact lsB_valid t)
  have HCL : Hid (∀ w0 x0, LiesT w0 t x0 → Calls Try.prog 43 #[tv t x0] w0 (ChkL ([]) (errT (.mk 3 0 ⟨#[116, 121, 112, 101, 95, 101, 114, 114, 111, 114]⟩ [atmT ⟨#[108, 105, 115, 116]⟩, omitT])) false w0)) := Lib.hid (fun w0 x0 h => by have h3 := List_any t x0 w0 h; rw [hL, hO, hB] at h3; exact h3)
  have e0 : ((ts.length : Int) == 0) = false := by have : 0 < ts.length := List.length_pos_iff.2 hne; simp; omega
  have e2 : ((t.args.length : Int) != 2) = false := by rw [h2]; rfl
  clear HP HF h2 ht hval hne hL hO hB
  have BB := Lib.hid (Below.refl w.heap.size w)
  have LT := Lib.hid (hv)
  have LA := Lib.hid (ha)
  have LT := Lib.hid (LT.out.below (al0 w (.cells #[.int .i64 T.kind, .int .i64 T.num, .string T.name, .slice va T.args.length vc] 24)))
  have LA := Lib.hid (LA.out.below (al0 w (.cells #[.int .i64 T.kind, .int .i64 T.num, .string T.name, .slice va T.args.length vc] 24)))
  have RR1 := Lib.hid (RowT.new w T (.slice va T.args.length vc))
  have BB := Lib.hid (BB.out.alloc BB.out.size (.cells #[.int .i64 T.kind, .int .i64 T.num, .string T.name, .slice va T.args.length vc] 24))
  clear ha hv
  simp only [tv]
  go_enter Try.func9, Try.ntmps9
  obtain ⟨xRR1_0, xRR1_1, xRR1_2, xRR1_3⟩ := RR1.out.cells
  go_wp2_with fail
  refine (HR.out _ LA.out LT.out).mono ?_
  rintro e w1 ⟨y, rfl, hy, hb1⟩
  clear xRR1_0 xRR1_1 xRR1_2 xRR1_3
  have RR1 := Lib.hid (RR1.out.below hb1)
  have LT := Lib.hid (LT.out.below hb1)
  have LA := Lib.hid (LA.out.below hb1)
  have BB := Lib.hid (BB.out.trans (hb1.mono BB.out.size))
  obtain ⟨ya, yc, rfl⟩ := hy.slice
  have LQ := Lib.hid (OwnT.lies _ _ hy)
  clear hy
  clear hb1
  have RR1 := Lib.hid (RR1.out.below (al0 w1 (.cells #[.int .i64 t.kind, .int .i64 t.num, .string t.name, .slice ya t.args.length yc] 24)))
  have LT := Lib.hid (LT.out.below (al0 w1 (.cells #[.int .i64 t.kind, .int .i64 t.num, .string t.name, .slice ya t.args.length yc] 24)))
  have LA := Lib.hid (LA.out.below (al0 w1 (.cells #[.int .i64 t.kind, .int .i64 t.num, .string t.name, .slice ya t.args.length yc] 24)))
  have LQ := Lib.hid (LQ.out.below (al0 w1 (.cells #[.int .i64 t.kind, .int .i64 t.num, .string t.name, .slice ya t.args.length yc] 24)))
  have RR2 := Lib.hid (RowT.new w1 t (.slice ya t.args.length yc))
  have BB := Lib.hid (BB.out.alloc BB.out.size (.cells #[.int .i64 t.kind, .int .i64 t.num, .string t.name, .slice ya t.args.length yc] 24))
  obtain ⟨xRR2_0, xRR2_1, xRR2_2, xRR2_3⟩ := RR2.out.cells
  go_wp2_with fail
  refine (HCL.out _ _ LQ.out).mono ?_
  rintro e w2 ⟨x, y2, rfl, hx, hy2, hb2⟩
  clear xRR2_0 xRR2_1 xRR2_2 xRR2_3
  have RR1 := Lib.hid (RR1.out.below hb2)
  have RR2 := Lib.hid (RR2.out.below hb2)
  have LT := Lib.hid (LT.out.below hb2)
  have LA := Lib.hid (LA.out.below hb2)
  have LQ := Lib.hid (LQ.out.below hb2)
  have BB := Lib.hid (BB.out.trans (hb2.mono BB.out.size))
  obtain ⟨xa, xc, rfl⟩ : ∃ a k, x = .slice a 0 k := hx.slice
  obtain ⟨bx, bc, rfl⟩ := hy2.slice
  have LX := Lib.hid (hx)
  have LB := Lib.hid (hy2)
  clear hx hy2
  clear hb2
  have RR1 := Lib.hid (RR1.out.below (al0 w2 (.cells #[.int .i64 (errT (.mk 3 0 ⟨#[116, 121, 112, 101, 95, 101, 114, 114, 111, 114]⟩ [atmT ⟨#[108, 105, 115, 116]⟩, omitT])).kind, .int .i64 (errT (.mk 3 0 ⟨#[116, 121, 112, 101, 95, 101, 114, 114, 111, 114]⟩ [atmT ⟨#[108, 105, 115, 116]⟩, omitT])).num, .string (errT (.mk 3 0 ⟨#[116, 121, 112, 101, 95, 101, 114, 114, 111, 114]⟩ [atmT ⟨#[108, 105, 115, 116]⟩, omitT])).name, .slice bx (errT (.mk 3 0 ⟨#[116, 121, 112, 101, 95, 101, 114, 114, 111, 114]⟩ [atmT ⟨#[108, 105, 115, 116]⟩, omitT])).args.length bc] 24)))
  have RR2 := Lib.hid (RR2.out.below (al0 w2 (.cells #[.int .i64 (errT (.mk 3 0 ⟨#[116, 121, 112, 101, 95, 101, 114, 114, 111, 114]⟩ [atmT ⟨#[108, 105, 115, 116]⟩, omitT])).kind, .int .i64 (errT (.mk 3 0 ⟨#[116, 121, 112, 101, 95, 101, 114, 114, 111, 114]⟩ [atmT ⟨#[108, 105, 115, 116]⟩, omitT])).num, .string (errT (.mk 3 0 ⟨#[116, 121, 112, 101, 95, 101, 114, 114, 111, 114]⟩ [atmT ⟨#[108, 105, 115, 116]⟩, omitT])).name, .slice bx (errT (.mk 3 0 ⟨#[116, 121, 112, 101, 95, 101, 114, 114, 111, 114]⟩ [atmT ⟨#[108, 105, 115, 116]⟩, omitT])).args.length bc] 24)))
  have LT := Lib.hid (LT.out.below (al0 w2 (.cells #[.int .i64 (errT (.mk 3 0 ⟨#[116, 121, 112, 101, 95, 101, 114, 114, 111, 114]⟩ [atmT ⟨#[108, 105, 115, 116]⟩, omitT])).kind, .int .i64 (errT (.mk 3 0 ⟨#[116, 121, 112, 101, 95, 101, 114, 114, 111, 114]⟩ [atmT ⟨#[108, 105, 115, 116]⟩, omitT])).num, .string (errT (.mk 3 0 ⟨#[116, 121, 112, 101, 95, 101, 114, 114, 111, 114]⟩ [atmT ⟨#[108, 105, 115, 116]⟩, omitT])).name, .slice bx (errT (.mk 3 0 ⟨#[116, 121, 112, 101, 95, 101, 114, 114, 111, 114]⟩ [atmT ⟨#[108, 105, 115, 116]⟩, omitT])).args.length bc] 24)))
  have LA := Lib.hid (LA.out.below (al0 w2 (.cells #[.int .i64 (errT (.mk 3 0 ⟨#[116, 121, 112, 101, 95, 101, 114, 114, 111, 114]⟩ [atmT ⟨#[108, 105, 115, 116]⟩, omitT])).kind, .int .i64 (errT (.mk 3 0 ⟨#[116, 121, 112, 101, 95, 101, 114, 114, 111, 114]⟩ [atmT ⟨#[108, 105, 115, 116]⟩, omitT])).num, .string (errT (.mk 3 0 ⟨#[116, 121, 112, 101, 95, 101, 114, 114, 111, 114]⟩ [atmT ⟨#[108, 105, 115, 116]⟩, omitT])).name, .slice bx (errT (.mk 3 0 ⟨#[116, 121, 112, 101, 95, 101, 114, 114, 111, 114]⟩ [atmT ⟨#[108, 105, 115, 116]⟩, omitT])).args.length bc] 24)))
  have LQ := Lib.hid (LQ.out.below (al0 w2 (.cells #[.int .i64 (errT (.mk 3 0 ⟨#[116, 121, 112, 101, 95, 101, 114, 114, 111, 114]⟩ [atmT ⟨#[108, 105, 115, 116]⟩, omitT])).kind, .int .i64 (errT (.mk 3 0 ⟨#[116, 121, 112, 101, 95, 101, 114, 114, 111, 114]⟩ [atmT ⟨#[108, 105, 115, 116]⟩, omitT])).num, .string (errT (.mk 3 0 ⟨#[116, 121, 112, 101, 95, 101, 114, 114, 111, 114]⟩ [atmT ⟨#[108, 105, 115, 116]⟩, omitT])).name, .slice bx (errT (.mk 3 0 ⟨#[116, 121, 112, 101, 95, 101, 114, 114, 111, 114]⟩ [atmT ⟨#[108, 105, 115, 116]⟩, omitT])).args.length bc] 24)))
  have LX := Lib.hid (LX.out.below (al0 w2 (.cells #[.int .i64 (errT (.mk 3 0 ⟨#[116, 121, 112, 101, 95, 101, 114, 114, 111, 114]⟩ [atmT ⟨#[108, 105, 115, 116]⟩, omitT])).kind, .int .i64 (errT (.mk 3 0 ⟨#[116, 121, 112, 101, 95, 101, 114, 114, 111, 114]⟩ [atmT ⟨#[108, 105, 115, 116]⟩, omitT])).num, .string (errT (.mk 3 0 ⟨#[116, 121, 112, 101, 95, 101, 114, 114, 111, 114]⟩ [atmT ⟨#[108, 105, 115, 116]⟩, omitT])).name, .slice bx (errT (.mk 3 0 ⟨#[116, 121, 112, 101, 95, 101, 114, 114, 111, 114]⟩ [atmT ⟨#[108, 105, 115, 116]⟩, omitT])).args.length bc] 24)))
  have LB := Lib.hid (LB.out.below (al0 w2 (.cells #[.int .i64 (errT (.mk 3 0 ⟨#[116, 121, 112, 101, 95, 101, 114, 114, 111, 114]⟩ [atmT ⟨#[108, 105, 115, 116]⟩, omitT])).kind, .int .i64 (errT (.mk 3 0 ⟨#[116, 121, 112, 101, 95, 101, 114, 114, 111, 114]⟩ [atmT ⟨#[108, 105, 115, 116]⟩, omitT])).num, .string (errT (.mk 3 0 ⟨#[116, 121, 112, 101, 95, 101, 114, 114, 111, 114]⟩ [atmT ⟨#[108, 105, 115, 116]⟩, omitT])).name, .slice bx (errT (.mk 3 0 ⟨#[116, 121, 112, 101, 95, 101, 114, 114, 111, 114]⟩ [atmT ⟨#[108, 105, 115, 116]⟩, omitT])).args.length bc] 24)))
  have RR3 := Lib.hid (RowT.new w2 (errT (.mk 3 0 ⟨#[116, 121, 112, 101, 95, 101, 114, 114, 111, 114]⟩ [atmT ⟨#[108, 105, 115, 116]⟩, omitT])) (.slice bx (errT (.mk 3 0 ⟨#[116, 121, 112, 101, 95, 101, 114, 114, 111, 114]⟩ [atmT ⟨#[108, 105, 115, 116]⟩, omitT])).args.length bc))
  have BB := Lib.hid (BB.out.alloc BB.out.size (.cells #[.int .i64 (errT (.mk 3 0 ⟨#[116, 121, 112, 101, 95, 101, 114, 114, 111, 114]⟩ [atmT ⟨#[108, 105, 115, 116]⟩, omitT])).kind, .int .i64 (errT (.mk 3 0 ⟨#[116, 121, 112, 101, 95, 101, 114, 114, 111, 114]⟩ [atmT ⟨#[108, 105, 115, 116]⟩, omitT])).num, .string (errT (.mk 3 0 ⟨#[116, 121, 112, 101, 95, 101, 114, 114, 111, 114]⟩ [atmT ⟨#[108, 105, 115, 116]⟩, omitT])).name, .slice bx (errT (.mk 3 0 ⟨#[116, 121, 112, 101, 95, 101, 114, 114, 111, 114]⟩ [atmT ⟨#[108, 105, 115, 116]⟩, omitT])).args.length bc] 24))
  go_upto_region 5 with fail
  obtain ⟨X, hX⟩ : ∃ X, (w2.alloc (.cells #[.int .i64 (errT (.mk 3 0 ⟨#[116, 121, 112, 101, 95, 101, 114, 114, 111, 114]⟩ [atmT ⟨#[108, 105, 115, 116]⟩, omitT])).kind, .int .i64 (errT (.mk 3 0 ⟨#[116, 121, 112, 101, 95, 101, 114, 114, 111, 114]⟩ [atmT ⟨#[108, 105, 115, 116]⟩, omitT])).num, .string (errT (.mk 3 0 ⟨#[116, 121, 112, 101, 95, 101, 114, 114, 111, 114]⟩ [atmT ⟨#[108, 105, 115, 116]⟩, omitT])).name, .slice bx (errT (.mk 3 0 ⟨#[116, 121, 112, 101, 95, 101, 114, 114, 111, 114]⟩ [atmT ⟨#[108, 105, 115, 116]⟩, omitT])).args.length bc] 24)) = X := ⟨_, rfl⟩
  rw [hX] at RR1 RR2 RR3 LT LA LQ LX LB BB ⊢
  clear hX
  obtain ⟨q0, q1, q2, q3⟩ := RR1.out.cells
  go_wp2_with fail
  have hS0 : Below X.heap.size X X.drew := (Below.refl _ _).drew
  have HSS : Hid (∀ w', Below X.heap.size X w' → (fun w' => w'.cell? ⟨w.heap.size, 0, none⟩ = some (.int .i64 T.kind) ∧ w'.cell? ⟨w.heap.size, 1, none⟩ = some (.int .i64 T.num) ∧ w'.cell? ⟨w.heap.size, 2, none⟩ = some (.string T.name) ∧ w'.cell? ⟨w.heap.size, 3, none⟩ = some (.slice va T.args.length vc)) w') := Lib.hid (fun w' h => (RR1.out.below h).cells)
  go_region_held3 (fun w' => w'.cell? ⟨w.heap.size, 0, none⟩ = some (.int .i64 T.kind) ∧ w'.cell? ⟨w.heap.size, 1, none⟩ = some (.int .i64 T.num) ∧ w'.cell? ⟨w.heap.size, 2, none⟩ = some (.string T.name) ∧ w'.cell? ⟨w.heap.size, 3, none⟩ = some (.slice va T.args.length vc))
    (first | exact HSS.out _ h8 | exact HSS.out _ h6 | exact HSS.out _ hS0 | go_keep)
    (first
      | (go_at_call 53; refine (a_any _ _).mono ?_; rintro e w6 ⟨rfl, hb6⟩; have h6 : Below X.heap.size X w6 := hS0.trans (hb6.mono hS0.size))
      | (go_at_call 34; refine (lsame_is T nilT false HS.out _ (.slice none 0 0) _ (LT.out.below h6) (atom_lies (by simp [ByteArray.size]))).mono ?_; rintro e w8 ⟨rfl, hb8⟩; have h8 : Below X.heap.size X w8 := h6.trans (hb8.mono h6.size)))
  clear q0 q1 q2 q3
  have RBL : Hid (w2.heap.size < w8.heap.size) := Lib.hid (by have h := RR3.out.lt; have h2 := h8.size; omega)
  have RR1 := Lib.hid (RR1.out.below h8)
  have LQ := Lib.hid (LQ.out.below h8)
  have LB := Lib.hid (LB.out.below h8)
  have RB := Lib.hid (RR3.out.below h8)
  have RQ := Lib.hid (RR2.out.below h8)
  have BB := Lib.hid (BB.out.trans (h8.mono BB.out.size))
  have LB8 := LB
  have RB8 := RB
  have BB8 := BB
  clear h6 h8 hb6 hb8 hS0 HSS LT LA LX
  obtain ⟨q0, q1, q2, q3⟩ := RR1.out.cells
  obtain ⟨r0, r1, r2, r3⟩ := RQ.out.cells
  go_upto_region 17 with fail
  have R12 := Lib.hid (RowT.new w8 t (.slice ya t.args.length yc))
  have S12 := Lib.hid (al0 w8 (.cells #[.int .i64 t.kind, .int .i64 t.num, .string t.name, .slice ya t.args.length yc] 24))
  obtain ⟨X2, hX2⟩ : ∃ X2, w8.alloc (.cells #[.int .i64 t.kind, .int .i64 t.num, .string t.name, .slice ya t.args.length yc] 24) = X2 := ⟨_, rfl⟩
  rw [hX2] at R12 S12 ⊢
  clear hX2 q0 q1 q2 q3 r0 r1 r2 r3
  have LQ := Lib.hid (LQ.out.below S12.out)
  have LB := Lib.hid (LB.out.below S12.out)
  have RB := Lib.hid (RB.out.below S12.out)
  have RQ := Lib.hid (RQ.out.below S12.out)
  have NE := Lib.hid (show w2.heap.size ≠ w8.heap.size from by have h := RB.out.lt; have h2 := RBL.out; omega)
  have BB := Lib.hid (BB.out.trans (S12.out.mono BB.out.size))
  have S8 := S12
  clear S12
  obtain ⟨r0, r1, r2, r3⟩ := RQ.out.cells
  go_wp2_with fail
  refine (HSZ.out _ _ LQ.out).mono ?_
  rintro e w11 ⟨rfl, hb11⟩
  have R12 := Lib.hid (R12.out.below hb11)
  have LQ := Lib.hid (LQ.out.below hb11)
  have LB := Lib.hid (LB.out.below hb11)
  have RB := Lib.hid (RB.out.below hb11)
  have BB := Lib.hid (BB.out.trans (hb11.mono BB.out.size))
  have S8 := Lib.hid (S8.out.trans (hb11.mono S8.out.size))
  clear hb11 r0 r1 r2 r3 RQ RR1
  go_wp2_with fail
  refine (a_any _ _).mono ?_
  rintro e w12 ⟨rfl, hb12⟩
  have R12 := Lib.hid (R12.out.below hb12)
  have S8 := Lib.hid (S8.out.trans (hb12.mono S8.out.size))
  clear hb12 RB LB BB
  obtain ⟨c0, c1, c2, c3⟩ := R12.out.cells
  obtain ⟨f0, f1, f2, f3⟩ := R12.out.froz
  go_upto_region 19 with fail
  clear c0 c1 c2 c3 f0 f1 f2 f3
  have F4 := four R12.out (.int .i64 2) (.int .i64 0) (.string ⟨#[46, 46, 46]⟩) (.slice none 0 0)
  have S9 := Lib.hid (F4.2.2.2 _ _ (Nat.le_refl _) S8.out)
  have R12 : Hid (RowT (((((w12.setCell ⟨w8.heap.size, 0, none⟩ (.int .i64 2)).setCell ⟨w8.heap.size, 1, none⟩ (.int .i64 0)).setCell ⟨w8.heap.size, 2, none⟩ (.string ⟨#[46, 46, 46]⟩)).setCell ⟨w8.heap.size, 3, none⟩ (.slice none 0 0))) w8.heap.size omitT (.slice none 0 0)) := Lib.hid F4.1
  clear F4 S8
  obtain ⟨w13, hw⟩ : ∃ w13, ((((w12.setCell ⟨w8.heap.size, 0, none⟩ (.int .i64 2)).setCell ⟨w8.heap.size, 1, none⟩ (.int .i64 0)).setCell ⟨w8.heap.size, 2, none⟩ (.string ⟨#[46, 46, 46]⟩)).setCell ⟨w8.heap.size, 3, none⟩ (.slice none 0 0)) = w13 := ⟨_, rfl⟩
  rw [hw] at R12 S9 ⊢
  clear hw
  have RB := Lib.hid (RB8.out.below S9.out)
  have LB := Lib.hid (LB8.out.below S9.out)
  have BB := Lib.hid (BB8.out.trans (S9.out.mono BB8.out.size))
  have LCU : Hid (LiesT w13 omitT (.slice none 0 0)) := Lib.hid (atom_lies (by simp [ByteArray.size]))
  obtain ⟨q0, q1, q2, q3⟩ := RB.out.cells
  obtain ⟨r0, r1, r2, r3⟩ := R12.out.cells
  have hS0 : Below w13.heap.size w13 w13.drew := (Below.refl _ _).drew
  have HSS : Hid (∀ w', Below w13.heap.size w13 w' → (fun w' => w'.cell? ⟨w2.heap.size, 0, none⟩ = some (.int .i64 (errT (.mk 3 0 ⟨#[116, 121, 112, 101, 95, 101, 114, 114, 111, 114]⟩ [atmT ⟨#[108, 105, 115, 116]⟩, omitT])).kind) ∧ w'.cell? ⟨w2.heap.size, 1, none⟩ = some (.int .i64 (errT (.mk 3 0 ⟨#[116, 121, 112, 101, 95, 101, 114, 114, 111, 114]⟩ [atmT ⟨#[108, 105, 115, 116]⟩, omitT])).num) ∧ w'.cell? ⟨w2.heap.size, 2, none⟩ = some (.string (errT (.mk 3 0 ⟨#[116, 121, 112, 101, 95, 101, 114, 114, 111, 114]⟩ [atmT ⟨#[108, 105, 115, 116]⟩, omitT])).name) ∧ w'.cell? ⟨w2.heap.size, 3, none⟩ = some (.slice bx (errT (.mk 3 0 ⟨#[116, 121, 112, 101, 95, 101, 114, 114, 111, 114]⟩ [atmT ⟨#[108, 105, 115, 116]⟩, omitT])).args.length bc) ∧ w'.cell? ⟨w8.heap.size, 0, none⟩ = some (.int .i64 omitT.kind) ∧ w'.cell? ⟨w8.heap.size, 1, none⟩ = some (.int .i64 omitT.num) ∧ w'.cell? ⟨w8.heap.size, 2, none⟩ = some (.string omitT.name) ∧ w'.cell? ⟨w8.heap.size, 3, none⟩ = some (.slice none 0 0)) w') := Lib.hid (fun w' h => by
    obtain ⟨q0, q1, q2, q3⟩ := (RB.out.below h).cells
    obtain ⟨r0, r1, r2, r3⟩ := (R12.out.below h).cells
    exact ⟨q0, q1, q2, q3, r0, r1, r2, r3⟩)
  go_region_held3 (fun w' => w'.cell? ⟨w2.heap.size, 0, none⟩ = some (.int .i64 (errT (.mk 3 0 ⟨#[116, 121, 112, 101, 95, 101, 114, 114, 111, 114]⟩ [atmT ⟨#[108, 105, 115, 116]⟩, omitT])).kind) ∧ w'.cell? ⟨w2.heap.size, 1, none⟩ = some (.int .i64 (errT (.mk 3 0 ⟨#[116, 121, 112, 101, 95, 101, 114, 114, 111, 114]⟩ [atmT ⟨#[108, 105, 115, 116]⟩, omitT])).num) ∧ w'.cell? ⟨w2.heap.size, 2, none⟩ = some (.string (errT (.mk 3 0 ⟨#[116, 121, 112, 101, 95, 101, 114, 114, 111, 114]⟩ [atmT ⟨#[108, 105, 115, 116]⟩, omitT])).name) ∧ w'.cell? ⟨w2.heap.size, 3, none⟩ = some (.slice bx (errT (.mk 3 0 ⟨#[116, 121, 112, 101, 95, 101, 114, 114, 111, 114]⟩ [atmT ⟨#[108, 105, 115, 116]⟩, omitT])).args.length bc) ∧ w'.cell? ⟨w8.heap.size, 0, none⟩ = some (.int .i64 omitT.kind) ∧ w'.cell? ⟨w8.heap.size, 1, none⟩ = some (.int .i64 omitT.num) ∧ w'.cell? ⟨w8.heap.size, 2, none⟩ = some (.string omitT.name) ∧ w'.cell? ⟨w8.heap.size, 3, none⟩ = some (.slice none 0 0))
    (first | exact HSS.out _ (by assumption) | exact HSS.out _ (h26.alloc h26.size _) | go_keep)
    (first
      | (go_at_call 53; refine (a_any _ _).mono ?_; rintro e w26 ⟨rfl, hb26⟩; have h26 : Below w13.heap.size w13 w26 := hS0.trans (hb26.mono hS0.size))
      | (go_at_call 58; refine (f_any _ _ _ _ _).mono ?_; rintro e w27 ⟨rfl, hb27⟩; have h27 : Below w13.heap.size w13 w27 := h26.trans ((al hb27).mono h26.size); have LT7 : Hid (LiesT w27 (.mk 3 0 ⟨#[116, 121, 112, 101, 95, 101, 114, 114, 111, 114]⟩ [atmT ⟨#[108, 105, 115, 116]⟩, omitT]) (.slice (some ⟨w26.heap.size, 0, none⟩) 2 2)) := Lib.hid ((struct_lies (nm := ⟨#[116, 121, 112, 101, 95, 101, 114, 114, 111, 114]⟩) (by simp [ByteArray.size]) (lies_new (w := w26) (g := w26.heap.size) (ty := 24) rfl [(atmT ⟨#[108, 105, 115, 116]⟩, .slice none 0 0), (omitT, .slice none 0 0)] (by simp only [EnvT]; exact ⟨atom_lies (by simp [ByteArray.size]), LCU.out.below h26, trivial⟩) (by simp))).below hb27))
      | (go_at_call 56; refine (error1_any (.mk 3 0 ⟨#[116, 121, 112, 101, 95, 101, 114, 114, 111, 114]⟩ [atmT ⟨#[108, 105, 115, 116]⟩, omitT]) _ _ LT7.out).mono ?_; rintro e w28 ⟨yW, rfl, hyW, hb28⟩; obtain ⟨aw, cw, rfl⟩ := hyW.slice; have LW := Lib.hid hyW; have h28 : Below w13.heap.size w13 w28 := h27.trans (hb28.mono h27.size))
      | (go_at_call 34; refine (lsame_self (errT (.mk 3 0 ⟨#[116, 121, 112, 101, 95, 101, 114, 114, 111, 114]⟩ [atmT ⟨#[108, 105, 115, 116]⟩, omitT])) _ _ _ VB.out (LB.out.below h28) LW.out).mono ?_; rintro e w8 ⟨rfl, hb8⟩; have h8 : Below w13.heap.size w13 w8 := h28.trans (hb8.mono h28.size))
      | (go_at_call 31; refine (awake_any _).mono ?_; rintro e w9 ⟨rfl, hb9⟩; have h9 : Below w13.heap.size w13 w9 := h8.trans (hb9.mono h8.size)))
  clear q0 q1 q2 q3 r0 r1 r2 r3
  go_wp2_with fail
  go_ret
  exact ⟨rfl, BB.out.trans (h9.mono BB.out.size)⟩
end Go.Proofs.Yteilodihjhdngaa
