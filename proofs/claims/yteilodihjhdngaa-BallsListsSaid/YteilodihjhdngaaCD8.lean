/- BallsLists: the tail is a list that ends in a variable. -/
import Derived.Test.YteilodihjhdngaaCD1
import Derived.Test.YteilodihjhdngaaCD2
import Derived.Test.YteilodihjhdngaaCD3
import Derived.Deep.DeepCutAuto
set_option linter.unusedVariables false
set_option linter.unusedSimpArgs false
namespace Go.Proofs.Yteilodihjhdngaa
open Go.RowKit Go.Proofs.HT

set_option maxRecDepth 8000 in
set_option maxHeartbeats 32000000 in
theorem lists_open (ts : List Tm) (T : Tm) (a v : Value) (w : World) (ha : LiesA w ts a) (hv : LiesT w T v) (hne : ts ≠ []) (hval : validB (listT ts T) = true) (hp : isPairB T = true) (hq : isNil (elemsT T).2 = false) (hk0 : ((elemsT T).2.kind == 0) = true) : Calls Try.prog 9 #[a, tv T v] w fun e w' => e = .returned (.bool true) ∧ Below w.heap.size w w' := by
  obtain ⟨va, vc, rfl⟩ : ∃ a k, v = .slice a T.args.length k := hv.slice
  obtain ⟨aa, ac, rfl⟩ : ∃ x k, a = .slice x ts.length k := ha.slice
  have HP := list_parts ts T hval
  have HF := lists_f ts T hval
  have h2 : (listT ts T).args.length = 2 := by
    cases ts with
    | nil => exact absurd rfl hne
    | cons t ts => rfl
  obtain ⟨t, ht⟩ : ∃ t, listT ts T = t := ⟨_, rfl⟩
  have HR : Hid (∀ w0, LiesA w0 ts (.slice aa ts.length ac) → LiesT w0 T (.slice va T.args.length vc) → Calls Try.prog 57 #[.slice aa ts.length ac, tv T (.slice va T.args.length vc)] w0 (MadeEnd t w0)) := Lib.hid (fun w0 h1 h2 => by have h := rlist_any ts T _ _ w0 h1 h2; unfold MadeV at h; rw [if_pos hval, ht] at h; exact h)
  have HCN : Hid (ts.length < cnt t) := Lib.hid (by rw [← ht]; exact cnt_listT T ts)
  rw [ht] at HF hval h2
  have HV := Lib.hid hval
  have HVT := Lib.hid HP.1
  have HVL := Lib.hid HP.2
  obtain ⟨nm, px, py, hpT⟩ := pair_of hp
  have hk3 : T.kind = 3 := by rw [hpT]; rfl
  have hnm : T.name = ⟨#[46]⟩ := by rw [hpT]; rfl
  have hal : T.args.length = 2 := by rw [hpT]; rfl
  have e5 : (T.kind == 0) = false := by rw [hk3]; rfl
  have e9 : (T.kind == 3) = true := by rw [hk3]; rfl
  have e10 : (T.name.toList == [46]) = true := by rw [Lib.toList_data, hnm]; rfl
  have e11 : ((T.args.length : Int) == 2) = true := by rw [hal]; rfl
  have HS : Hid (sameV T nilT = false) := Lib.hid (by
    cases hs : sameV T nilT
    · rfl
    · rw [nil_same hs] at hk3; exact absurd hk3 (by decide))
  have hO : lsO t = false := by rw [HF.o]; exact hq
  have hL : lsL t = [] := by rw [HF.l, if_neg (by rw [hq]; simp)]
  have hB : lsB t = instT := by rw [HF.b, if_pos hk0]
  have hBT : lsB T = instT := by unfold lsB; rw [if_pos HP.1, if_pos hk0]
  have HCT : Hid (∀ w0 x0, LiesT w0 T x0 → Calls Try.prog 43 #[tv T x0] w0 (ChkL [] (instT) false w0)) := Lib.hid (fun w0 x0 h => by
    have h3 := List_any T x0 w0 h
    have q1 : lsO T = false := by unfold lsO; rw [HP.1, hq]; rfl
    have q2 : lsL T = [] := by unfold lsL; rw [q1]; rfl
    rw [q1, q2, hBT] at h3; exact h3)
  clear hk3 hnm hal hpT hk0 hq hp hBT
  have VB : Hid (validB (instT) = true) := Lib.hid (by rw [← hB]; exact lsB_valid t)
  have HCL : Hid (∀ w0 x0, LiesT w0 t x0 → Calls Try.prog 43 #[tv t x0] w0 (ChkL ([]) (instT) false w0)) := Lib.hid (fun w0 x0 h => by have h3 := List_any t x0 w0 h; rw [hL, hO, hB] at h3; exact h3)
  have HSB : Hid (sameV (instT) instT = true) := Lib.hid (sameV_self inst_valid)
  have HSC : Hid (sameV (instT) instT = true) := Lib.hid (sameV_self inst_valid)
  have e0 : ((ts.length : Int) == 0) = false := by have : 0 < ts.length := List.length_pos_iff.2 hne; simp; omega
  have e2 : ((t.args.length : Int) != 2) = false := by rw [h2]; rfl
  clear HP HF h2 ht hval hne hL hO hB
  have BB := Lib.hid (Below.refl w.heap.size w)
  have LT := Lib.hid (hv)
  have LA := Lib.hid (ha)
  have LT := Lib.hid (LT.out.below (al0 w (.cells #[.int .i64 T.kind, .int .i64 T.num, .string T.name, .slice va T.args.length vc] 24)))
  have LA := Lib.hid (LA.out.below (al0 w (.cells #[.int .i64 T.kind, .int .i64 T.num, .string T.name, .slice va T.args.length vc] 24)))
  have RR1 := Lib.hid (RowT.new w T (.slice va T.args.length vc))
  have BB := Lib.hid (BB.out.alloc BB.out.size (.cells #[.int .i64 T.kind, .int .i64 T.num, .string T.name, .slice va T.args.length vc] 24))
  clear ha hv
  simp only [tv]
  go_enter Try.func9, Try.ntmps9
  obtain ⟨xRR1_0, xRR1_1, xRR1_2, xRR1_3⟩ := RR1.out.cells
  go_wp2_with fail
  refine (HR.out _ LA.out LT.out).mono ?_
  rintro e w1 ⟨y, rfl, hy, hb1⟩
  clear xRR1_0 xRR1_1 xRR1_2 xRR1_3
  have RR1 := Lib.hid (RR1.out.below hb1)
  have LT := Lib.hid (LT.out.below hb1)
  have LA := Lib.hid (LA.out.below hb1)
  have BB := Lib.hid (BB.out.trans (hb1.mono BB.out.size))
  obtain ⟨ya, yc, rfl⟩ := hy.slice
  have LQ := Lib.hid (OwnT.lies _ _ hy)
  clear hy
  clear hb1
  have RR1 := Lib.hid (RR1.out.below (al0 w1 (.cells #[.int .i64 t.kind, .int .i64 t.num, .string t.name, .slice ya t.args.length yc] 24)))
  have LT := Lib.hid (LT.out.below (al0 w1 (.cells #[.int .i64 t.kind, .int .i64 t.num, .string t.name, .slice ya t.args.length yc] 24)))
  have LA := Lib.hid (LA.out.below (al0 w1 (.cells #[.int .i64 t.kind, .int .i64 t.num, .string t.name, .slice ya t.args.length yc] 24)))
  have LQ := Lib.hid (LQ.out.below (al0 w1 (.cells #[.int .i64 t.kind, .int .i64 t.num, .string t.name, .slice ya t.args.length yc] 24)))
  have RR2 := Lib.hid (RowT.new w1 t (.slice ya t.args.length yc))
  have BB := Lib.hid (BB.out.alloc BB.out.size (.cells #[.int .i64 t.kind, .int .i64 t.num, .string t.name, .slice ya t.args.length yc] 24))
  obtain ⟨xRR2_0, xRR2_1, xRR2_2, xRR2_3⟩ := RR2.out.cells
  go_wp2_with fail
  refine (HCL.out _ _ LQ.out).mono ?_
  rintro e w2 ⟨x, y2, rfl, hx, hy2, hb2⟩
  clear xRR2_0 xRR2_1 xRR2_2 xRR2_3
  have RR1 := Lib.hid (RR1.out.below hb2)
  have RR2 := Lib.hid (RR2.out.below hb2)
  have LT := Lib.hid (LT.out.below hb2)
  have LA := Lib.hid (LA.out.below hb2)
  have LQ := Lib.hid (LQ.out.below hb2)
  have BB := Lib.hid (BB.out.trans (hb2.mono BB.out.size))
  obtain ⟨xa, xc, rfl⟩ : ∃ a k, x = .slice a 0 k := hx.slice
  obtain ⟨bx, bc, rfl⟩ := hy2.slice
  have LX := Lib.hid (hx)
  have LB := Lib.hid (hy2)
  clear hx hy2
  clear hb2
  have RR1 := Lib.hid (RR1.out.below (al0 w2 (.cells #[.int .i64 (instT).kind, .int .i64 (instT).num, .string (instT).name, .slice bx (instT).args.length bc] 24)))
  have RR2 := Lib.hid (RR2.out.below (al0 w2 (.cells #[.int .i64 (instT).kind, .int .i64 (instT).num, .string (instT).name, .slice bx (instT).args.length bc] 24)))
  have LT := Lib.hid (LT.out.below (al0 w2 (.cells #[.int .i64 (instT).kind, .int .i64 (instT).num, .string (instT).name, .slice bx (instT).args.length bc] 24)))
  have LA := Lib.hid (LA.out.below (al0 w2 (.cells #[.int .i64 (instT).kind, .int .i64 (instT).num, .string (instT).name, .slice bx (instT).args.length bc] 24)))
  have LQ := Lib.hid (LQ.out.below (al0 w2 (.cells #[.int .i64 (instT).kind, .int .i64 (instT).num, .string (instT).name, .slice bx (instT).args.length bc] 24)))
  have LX := Lib.hid (LX.out.below (al0 w2 (.cells #[.int .i64 (instT).kind, .int .i64 (instT).num, .string (instT).name, .slice bx (instT).args.length bc] 24)))
  have LB := Lib.hid (LB.out.below (al0 w2 (.cells #[.int .i64 (instT).kind, .int .i64 (instT).num, .string (instT).name, .slice bx (instT).args.length bc] 24)))
  have RR3 := Lib.hid (RowT.new w2 (instT) (.slice bx (instT).args.length bc))
  have BB := Lib.hid (BB.out.alloc BB.out.size (.cells #[.int .i64 (instT).kind, .int .i64 (instT).num, .string (instT).name, .slice bx (instT).args.length bc] 24))
  go_upto_region 5 with fail
  obtain ⟨X, hX⟩ : ∃ X, (w2.alloc (.cells #[.int .i64 (instT).kind, .int .i64 (instT).num, .string (instT).name, .slice bx (instT).args.length bc] 24)) = X := ⟨_, rfl⟩
  rw [hX] at RR1 RR2 RR3 LT LA LQ LX LB BB ⊢
  clear hX
  obtain ⟨q0, q1, q2, q3⟩ := RR1.out.cells
  go_wp2_with fail
  have hS0 : Below X.heap.size X X.drew := (Below.refl _ _).drew
  have HSS : Hid (∀ w', Below X.heap.size X w' → (fun w' => w'.cell? ⟨w.heap.size, 0, none⟩ = some (.int .i64 T.kind) ∧ w'.cell? ⟨w.heap.size, 1, none⟩ = some (.int .i64 T.num) ∧ w'.cell? ⟨w.heap.size, 2, none⟩ = some (.string T.name) ∧ w'.cell? ⟨w.heap.size, 3, none⟩ = some (.slice va T.args.length vc)) w') := Lib.hid (fun w' h => (RR1.out.below h).cells)
  go_region_held3 (fun w' => w'.cell? ⟨w.heap.size, 0, none⟩ = some (.int .i64 T.kind) ∧ w'.cell? ⟨w.heap.size, 1, none⟩ = some (.int .i64 T.num) ∧ w'.cell? ⟨w.heap.size, 2, none⟩ = some (.string T.name) ∧ w'.cell? ⟨w.heap.size, 3, none⟩ = some (.slice va T.args.length vc))
    (first | exact HSS.out _ h8 | exact HSS.out _ h6 | exact HSS.out _ hS0 | go_keep)
    (first
      | (go_at_call 53; refine (a_any _ _).mono ?_; rintro e w6 ⟨rfl, hb6⟩; have h6 : Below X.heap.size X w6 := hS0.trans (hb6.mono hS0.size))
      | (go_at_call 34; refine (lsame_is T nilT false HS.out _ (.slice none 0 0) _ (LT.out.below h6) (atom_lies (by simp [ByteArray.size]))).mono ?_; rintro e w8 ⟨rfl, hb8⟩; have h8 : Below X.heap.size X w8 := h6.trans (hb8.mono h6.size)))
  clear q0 q1 q2 q3
  have RR1 := Lib.hid (RR1.out.below h8)
  have LT := Lib.hid (LT.out.below h8)
  have LA := Lib.hid (LA.out.below h8)
  have LX := Lib.hid (LX.out.below h8)
  have LB := Lib.hid (LB.out.below h8)
  have RB := Lib.hid (RR3.out.below h8)
  have BB := Lib.hid (BB.out.trans (h8.mono BB.out.size))
  clear h6 h8 hb6 hb8 hS0 HSS
  obtain ⟨q0, q1, q2, q3⟩ := RR1.out.cells
  go_wp2_with fail
  refine (HCT.out _ _ LT.out).mono ?_
  rintro e w10 ⟨x, y2, rfl, hx, hy2, hb10⟩
  obtain ⟨xb, xd, rfl⟩ : ∃ a k, x = .slice a 0 k := hx.slice
  obtain ⟨cx, cc, rfl⟩ := hy2.slice
  have h10 := Lib.hid hb10
  have LM := Lib.hid hx
  have LC := Lib.hid hy2
  clear hb10 hx hy2 q0 q1 q2 q3
  go_upto_region 14 with fail
  have RC := Lib.hid (RowT.new w10 (instT) (.slice cx (instT).args.length cc))
  have h10 := Lib.hid (h10.out.trans ((al0 w10 (.cells #[.int .i64 (instT).kind, .int .i64 (instT).num, .string (instT).name, .slice cx (instT).args.length cc] 24)).mono h10.out.size))
  have LC := Lib.hid (LC.out.below (al0 w10 (.cells #[.int .i64 (instT).kind, .int .i64 (instT).num, .string (instT).name, .slice cx (instT).args.length cc] 24)))
  obtain ⟨X2, hX2⟩ : ∃ X2, (w10.alloc (.cells #[.int .i64 (instT).kind, .int .i64 (instT).num, .string (instT).name, .slice cx (instT).args.length cc] 24)) = X2 := ⟨_, rfl⟩
  rw [hX2] at RC h10 LC ⊢
  clear hX2
  have RB := Lib.hid (RB.out.below h10.out)
  have LB := Lib.hid (LB.out.below h10.out)
  have BB := Lib.hid (BB.out.trans (h10.out.mono BB.out.size))
  clear RR1 LT LA LX LM h10
  obtain ⟨q0, q1, q2, q3⟩ := RB.out.cells
  obtain ⟨r0, r1, r2, r3⟩ := RC.out.cells
  go_wp2_with fail
  have hS0 : Below X2.heap.size X2 X2.drew := (Below.refl _ _).drew
  have HSS : Hid (∀ w', Below X2.heap.size X2 w' → (fun w' => w'.cell? ⟨w2.heap.size, 0, none⟩ = some (.int .i64 (instT).kind) ∧ w'.cell? ⟨w2.heap.size, 1, none⟩ = some (.int .i64 (instT).num) ∧ w'.cell? ⟨w2.heap.size, 2, none⟩ = some (.string (instT).name) ∧ w'.cell? ⟨w2.heap.size, 3, none⟩ = some (.slice bx (instT).args.length bc) ∧ w'.cell? ⟨w10.heap.size, 0, none⟩ = some (.int .i64 (instT).kind) ∧ w'.cell? ⟨w10.heap.size, 1, none⟩ = some (.int .i64 (instT).num) ∧ w'.cell? ⟨w10.heap.size, 2, none⟩ = some (.string (instT).name) ∧ w'.cell? ⟨w10.heap.size, 3, none⟩ = some (.slice cx (instT).args.length cc)) w') := Lib.hid (fun w' h => by
    obtain ⟨q0, q1, q2, q3⟩ := (RB.out.below h).cells
    obtain ⟨r0, r1, r2, r3⟩ := (RC.out.below h).cells
    exact ⟨q0, q1, q2, q3, r0, r1, r2, r3⟩)
  go_region_held3 (fun w' => w'.cell? ⟨w2.heap.size, 0, none⟩ = some (.int .i64 (instT).kind) ∧ w'.cell? ⟨w2.heap.size, 1, none⟩ = some (.int .i64 (instT).num) ∧ w'.cell? ⟨w2.heap.size, 2, none⟩ = some (.string (instT).name) ∧ w'.cell? ⟨w2.heap.size, 3, none⟩ = some (.slice bx (instT).args.length bc) ∧ w'.cell? ⟨w10.heap.size, 0, none⟩ = some (.int .i64 (instT).kind) ∧ w'.cell? ⟨w10.heap.size, 1, none⟩ = some (.int .i64 (instT).num) ∧ w'.cell? ⟨w10.heap.size, 2, none⟩ = some (.string (instT).name) ∧ w'.cell? ⟨w10.heap.size, 3, none⟩ = some (.slice cx (instT).args.length cc))
    (first | exact HSS.out _ (by assumption) | go_keep)
    (first
      | (go_at_call 53; refine (a_any _ _).mono ?_; rintro e w6 ⟨rfl, hb6⟩; have h6 : Below X2.heap.size X2 w6 := Below.trans (by assumption : Below X2.heap.size X2 _) (hb6.mono (Below.size (by assumption : Below X2.heap.size X2 _))))
      | (go_at_call 56; refine (inst_x _).mono ?_; rintro e w7 ⟨yW, rfl, hyW, hb7⟩; obtain ⟨aw, cw, rfl⟩ := hyW.slice; have LW := Lib.hid hyW; have h7 : Below X2.heap.size X2 w7 := Below.trans (by assumption : Below X2.heap.size X2 _) (hb7.mono (Below.size (by assumption : Below X2.heap.size X2 _))))
      | (go_at_call 34; refine (lsame_is (instT) instT true HSB.out _ _ _ (LB.out.below (by assumption : Below X2.heap.size X2 _)) LW.out).mono ?_; rintro e w8 ⟨rfl, hb8⟩; have h8 : Below X2.heap.size X2 w8 := Below.trans (by assumption : Below X2.heap.size X2 _) (hb8.mono (Below.size (by assumption : Below X2.heap.size X2 _))))
      | (go_at_call 34; refine (lsame_is (instT) instT true HSC.out _ _ _ (LC.out.below (by assumption : Below X2.heap.size X2 _)) LW.out).mono ?_; rintro e w8 ⟨rfl, hb8⟩; have h8 : Below X2.heap.size X2 w8 := Below.trans (by assumption : Below X2.heap.size X2 _) (hb8.mono (Below.size (by assumption : Below X2.heap.size X2 _))))
      | (go_at_call 31; refine (awake_any _).mono ?_; rintro e w9 ⟨rfl, hb9⟩; have h9 : Below X2.heap.size X2 w9 := Below.trans (by assumption : Below X2.heap.size X2 _) (hb9.mono (Below.size (by assumption : Below X2.heap.size X2 _)))))
  clear q0 q1 q2 q3 r0 r1 r2 r3
  go_wp2_with fail
  go_ret
  exact ⟨rfl, BB.out.trans (h9.mono BB.out.size)⟩
end Go.Proofs.Yteilodihjhdngaa
