/- BallsLists: the tail is a list that ends. -/
import Derived.Test.YteilodihjhdngaaCD1
import Derived.Test.YteilodihjhdngaaCD2
import Derived.Test.YteilodihjhdngaaCD3
import Derived.Deep.DeepCutAuto
set_option linter.unusedVariables false
set_option linter.unusedSimpArgs false
namespace Go.Proofs.Yteilodihjhdngaa
open Go.RowKit Go.Proofs.HT

set_option maxRecDepth 8000 in
set_option maxHeartbeats 32000000 in
theorem lists_more (ts : List Tm) (T : Tm) (a v : Value) (w : World) (ha : LiesA w ts a) (hv : LiesT w T v) (hne : ts ≠ []) (hval : validB (listT ts T) = true) (hp : isPairB T = true) (hq : isNil (elemsT T).2 = true) : Calls Try.prog 9 #[a, tv T v] w fun e w' => e = .returned (.bool true) ∧ Below w.heap.size w w' := by
  obtain ⟨va, vc, rfl⟩ : ∃ a k, v = .slice a T.args.length k := hv.slice
  obtain ⟨aa, ac, rfl⟩ : ∃ x k, a = .slice x ts.length k := ha.slice
  have HP := list_parts ts T hval
  have HF := lists_f ts T hval
  have h2 : (listT ts T).args.length = 2 := by
    cases ts with
    | nil => exact absurd rfl hne
    | cons t ts => rfl
  obtain ⟨t, ht⟩ : ∃ t, listT ts T = t := ⟨_, rfl⟩
  have HR : Hid (∀ w0, LiesA w0 ts (.slice aa ts.length ac) → LiesT w0 T (.slice va T.args.length vc) → Calls Try.prog 57 #[.slice aa ts.length ac, tv T (.slice va T.args.length vc)] w0 (MadeEnd t w0)) := Lib.hid (fun w0 h1 h2 => by have h := rlist_any ts T _ _ w0 h1 h2; unfold MadeV at h; rw [if_pos hval, ht] at h; exact h)
  have HCN : Hid (ts.length < cnt t) := Lib.hid (by rw [← ht]; exact cnt_listT T ts)
  rw [ht] at HF hval h2
  have HV := Lib.hid hval
  have HVT := Lib.hid HP.1
  have HVL := Lib.hid HP.2
  obtain ⟨nm, px, py, hpT⟩ := pair_of hp
  have hk3 : T.kind = 3 := by rw [hpT]; rfl
  have hnm : T.name = ⟨#[46]⟩ := by rw [hpT]; rfl
  have hal : T.args.length = 2 := by rw [hpT]; rfl
  have e5 : (T.kind == 0) = false := by rw [hk3]; rfl
  have e9 : (T.kind == 3) = true := by rw [hk3]; rfl
  have e10 : (T.name.toList == [46]) = true := by rw [Lib.toList_data, hnm]; rfl
  have e11 : ((T.args.length : Int) == 2) = true := by rw [hal]; rfl
  have HS : Hid (sameV T nilT = false) := Lib.hid (by
    cases hs : sameV T nilT
    · rfl
    · rw [nil_same hs] at hk3; exact absurd hk3 (by decide))
  have hk0 := nil_kind hq
  obtain ⟨M, hM⟩ : ∃ M, (elemsT T).1 = M := ⟨_, rfl⟩
  obtain ⟨K, hK⟩ : ∃ K, ts ++ M = K := ⟨_, rfl⟩
  have hO : lsO t = true := by rw [HF.o]; exact hq
  have hL : lsL t = K := by rw [HF.l, if_pos hq, hM]; exact hK
  have hB : lsB t = z0 := by rw [HF.b, if_neg (by rw [hk0]; simp), if_pos hq]
  have HCT : Hid (∀ w0 x0, LiesT w0 T x0 → Calls Try.prog 43 #[tv T x0] w0 (ChkL M z0 true w0)) := Lib.hid (fun w0 x0 h => by
    have h3 := List_any T x0 w0 h
    have q1 : lsO T = true := by unfold lsO; rw [HP.1, hq]; rfl
    have q2 : lsL T = M := by unfold lsL; rw [q1]; exact hM
    have q3 : lsB T = z0 := by unfold lsB; rw [if_pos HP.1, if_neg (by rw [hk0]; simp), if_pos hq]
    rw [q1, q2, q3] at h3; exact h3)
  have HKF : Hid ((∀ u ∈ K, validB u = true) ∧ K.length ≤ 1000000) := Lib.hid (by have h := lsL_fine t; rw [hL] at h; exact h)
  have HKM := Lib.hid hK
  have HM0 : Hid (0 < M.length) := Lib.hid (by rw [← hM, hpT, elemsT_pair]; simp)
  have HN0 : Hid (0 < ts.length) := Lib.hid (List.length_pos_iff.2 hne)
  clear hk3 hnm hal hpT hk0 hM hK hq hp
  have VB : Hid (validB (z0) = true) := Lib.hid (by rw [← hB]; exact lsB_valid t)
  have HCL : Hid (∀ w0 x0, LiesT w0 t x0 → Calls Try.prog 43 #[tv t x0] w0 (ChkL (K) (z0) true w0)) := Lib.hid (fun w0 x0 h => by have h3 := List_any t x0 w0 h; rw [hL, hO, hB] at h3; exact h3)
  have e0 : ((ts.length : Int) == 0) = false := by have : 0 < ts.length := List.length_pos_iff.2 hne; simp; omega
  have e2 : ((t.args.length : Int) != 2) = false := by rw [h2]; rfl
  clear HP HF h2 ht hval hne hL hO hB
  have BB := Lib.hid (Below.refl w.heap.size w)
  have LT := Lib.hid (hv)
  have LA := Lib.hid (ha)
  have LT := Lib.hid (LT.out.below (al0 w (.cells #[.int .i64 T.kind, .int .i64 T.num, .string T.name, .slice va T.args.length vc] 24)))
  have LA := Lib.hid (LA.out.below (al0 w (.cells #[.int .i64 T.kind, .int .i64 T.num, .string T.name, .slice va T.args.length vc] 24)))
  have RR1 := Lib.hid (RowT.new w T (.slice va T.args.length vc))
  have BB := Lib.hid (BB.out.alloc BB.out.size (.cells #[.int .i64 T.kind, .int .i64 T.num, .string T.name, .slice va T.args.length vc] 24))
  clear ha hv
  simp only [tv]
  go_enter Try.func9, Try.ntmps9
  obtain ⟨xRR1_0, xRR1_1, xRR1_2, xRR1_3⟩ := RR1.out.cells
  go_wp2_with fail
  refine (HR.out _ LA.out LT.out).mono ?_
  rintro e w1 ⟨y, rfl, hy, hb1⟩
  clear xRR1_0 xRR1_1 xRR1_2 xRR1_3
  have RR1 := Lib.hid (RR1.out.below hb1)
  have LT := Lib.hid (LT.out.below hb1)
  have LA := Lib.hid (LA.out.below hb1)
  have BB := Lib.hid (BB.out.trans (hb1.mono BB.out.size))
  obtain ⟨ya, yc, rfl⟩ := hy.slice
  have LQ := Lib.hid (OwnT.lies _ _ hy)
  clear hy
  clear hb1
  have RR1 := Lib.hid (RR1.out.below (al0 w1 (.cells #[.int .i64 t.kind, .int .i64 t.num, .string t.name, .slice ya t.args.length yc] 24)))
  have LT := Lib.hid (LT.out.below (al0 w1 (.cells #[.int .i64 t.kind, .int .i64 t.num, .string t.name, .slice ya t.args.length yc] 24)))
  have LA := Lib.hid (LA.out.below (al0 w1 (.cells #[.int .i64 t.kind, .int .i64 t.num, .string t.name, .slice ya t.args.length yc] 24)))
  have LQ := Lib.hid (LQ.out.below (al0 w1 (.cells #[.int .i64 t.kind, .int .i64 t.num, .string t.name, .slice ya t.args.length yc] 24)))
  have RR2 := Lib.hid (RowT.new w1 t (.slice ya t.args.length yc))
  have BB := Lib.hid (BB.out.alloc BB.out.size (.cells #[.int .i64 t.kind, .int .i64 t.num, .string t.name, .slice ya t.args.length yc] 24))
  obtain ⟨xRR2_0, xRR2_1, xRR2_2, xRR2_3⟩ := RR2.out.cells
  go_wp2_with fail
  refine (HCL.out _ _ LQ.out).mono ?_
  rintro e w2 ⟨x, y2, rfl, hx, hy2, hb2⟩
  clear xRR2_0 xRR2_1 xRR2_2 xRR2_3
  have RR1 := Lib.hid (RR1.out.below hb2)
  have RR2 := Lib.hid (RR2.out.below hb2)
  have LT := Lib.hid (LT.out.below hb2)
  have LA := Lib.hid (LA.out.below hb2)
  have LQ := Lib.hid (LQ.out.below hb2)
  have BB := Lib.hid (BB.out.trans (hb2.mono BB.out.size))
  obtain ⟨xa, xc, rfl⟩ : ∃ a k, x = .slice a K.length k := hx.slice
  obtain ⟨bx, bc, rfl⟩ := hy2.slice
  have LX := Lib.hid (hx)
  have LB := Lib.hid (hy2)
  clear hx hy2
  clear hb2
  have RR1 := Lib.hid (RR1.out.below (al0 w2 (.cells #[.int .i64 (z0).kind, .int .i64 (z0).num, .string (z0).name, .slice bx (z0).args.length bc] 24)))
  have RR2 := Lib.hid (RR2.out.below (al0 w2 (.cells #[.int .i64 (z0).kind, .int .i64 (z0).num, .string (z0).name, .slice bx (z0).args.length bc] 24)))
  have LT := Lib.hid (LT.out.below (al0 w2 (.cells #[.int .i64 (z0).kind, .int .i64 (z0).num, .string (z0).name, .slice bx (z0).args.length bc] 24)))
  have LA := Lib.hid (LA.out.below (al0 w2 (.cells #[.int .i64 (z0).kind, .int .i64 (z0).num, .string (z0).name, .slice bx (z0).args.length bc] 24)))
  have LQ := Lib.hid (LQ.out.below (al0 w2 (.cells #[.int .i64 (z0).kind, .int .i64 (z0).num, .string (z0).name, .slice bx (z0).args.length bc] 24)))
  have LX := Lib.hid (LX.out.below (al0 w2 (.cells #[.int .i64 (z0).kind, .int .i64 (z0).num, .string (z0).name, .slice bx (z0).args.length bc] 24)))
  have LB := Lib.hid (LB.out.below (al0 w2 (.cells #[.int .i64 (z0).kind, .int .i64 (z0).num, .string (z0).name, .slice bx (z0).args.length bc] 24)))
  have RR3 := Lib.hid (RowT.new w2 (z0) (.slice bx (z0).args.length bc))
  have BB := Lib.hid (BB.out.alloc BB.out.size (.cells #[.int .i64 (z0).kind, .int .i64 (z0).num, .string (z0).name, .slice bx (z0).args.length bc] 24))
  go_upto_region 5 with fail
  obtain ⟨X, hX⟩ : ∃ X, (w2.alloc (.cells #[.int .i64 (z0).kind, .int .i64 (z0).num, .string (z0).name, .slice bx (z0).args.length bc] 24)) = X := ⟨_, rfl⟩
  rw [hX] at RR1 RR2 RR3 LT LA LQ LX LB BB ⊢
  clear hX
  obtain ⟨q0, q1, q2, q3⟩ := RR1.out.cells
  go_wp2_with fail
  have hS0 : Below X.heap.size X X.drew := (Below.refl _ _).drew
  have HSS : Hid (∀ w', Below X.heap.size X w' → (fun w' => w'.cell? ⟨w.heap.size, 0, none⟩ = some (.int .i64 T.kind) ∧ w'.cell? ⟨w.heap.size, 1, none⟩ = some (.int .i64 T.num) ∧ w'.cell? ⟨w.heap.size, 2, none⟩ = some (.string T.name) ∧ w'.cell? ⟨w.heap.size, 3, none⟩ = some (.slice va T.args.length vc)) w') := Lib.hid (fun w' h => (RR1.out.below h).cells)
  go_region_held3 (fun w' => w'.cell? ⟨w.heap.size, 0, none⟩ = some (.int .i64 T.kind) ∧ w'.cell? ⟨w.heap.size, 1, none⟩ = some (.int .i64 T.num) ∧ w'.cell? ⟨w.heap.size, 2, none⟩ = some (.string T.name) ∧ w'.cell? ⟨w.heap.size, 3, none⟩ = some (.slice va T.args.length vc))
    (first | exact HSS.out _ h8 | exact HSS.out _ h6 | exact HSS.out _ hS0 | go_keep)
    (first
      | (go_at_call 53; refine (a_any _ _).mono ?_; rintro e w6 ⟨rfl, hb6⟩; have h6 : Below X.heap.size X w6 := hS0.trans (hb6.mono hS0.size))
      | (go_at_call 34; refine (lsame_is T nilT false HS.out _ (.slice none 0 0) _ (LT.out.below h6) (atom_lies (by simp [ByteArray.size]))).mono ?_; rintro e w8 ⟨rfl, hb8⟩; have h8 : Below X.heap.size X w8 := h6.trans (hb8.mono h6.size)))
  clear q0 q1 q2 q3
  have RR1 := Lib.hid (RR1.out.below h8)
  have LT := Lib.hid (LT.out.below h8)
  have LA := Lib.hid (LA.out.below h8)
  have LX := Lib.hid (LX.out.below h8)
  have LB := Lib.hid (LB.out.below h8)
  have RB := Lib.hid (RR3.out.below h8)
  have BB := Lib.hid (BB.out.trans (h8.mono BB.out.size))
  clear h6 h8 hb6 hb8 hS0 HSS
  obtain ⟨q0, q1, q2, q3⟩ := RR1.out.cells
  go_wp2_with fail
  refine (HCT.out _ _ LT.out).mono ?_
  rintro e w10 ⟨x, y2, rfl, hx, hy2, hb10⟩
  obtain ⟨xb, xd, rfl⟩ : ∃ a k, x = .slice a M.length k := hx.slice
  obtain ⟨cx, cc, rfl⟩ := hy2.slice
  have h10 := Lib.hid hb10
  have LM := Lib.hid hx
  have LC := Lib.hid hy2
  clear hb10 hx hy2 q0 q1 q2 q3
  go_upto_region 14 with fail
  obtain ⟨X2, hX2⟩ : ∃ X2, (w10.alloc (.cells #[.int .i64 z0.kind, .int .i64 z0.num, .string z0.name, .slice cx (z0).args.length cc] 24)) = X2 := ⟨_, rfl⟩
  have hs2 : Below w10.heap.size w10 X2 := by rw [← hX2]; exact al0 _ _
  rw [hX2]
  clear hX2
  have B2 := Lib.hid (h10.out.trans (hs2.mono h10.out.size))
  have LA := Lib.hid (LA.out.below B2.out)
  have LX := Lib.hid (LX.out.below B2.out)
  have LM := Lib.hid (LM.out.below hs2)
  have BB := Lib.hid (BB.out.trans (B2.out.mono BB.out.size))
  obtain ⟨a1, k1, e1, f1⟩ := liesA_row LA.out
  obtain ⟨b1, o1, rfl, -, g1⟩ := f1 HN0.out
  obtain ⟨rfl, -, rfl⟩ := Value.slice.inj e1
  obtain ⟨a2, k2, e3, f2⟩ := liesA_row LM.out
  obtain ⟨b2, o2, rfl, -, g2⟩ := f2 HM0.out
  obtain ⟨rfl, -, rfl⟩ := Value.slice.inj e3
  obtain ⟨m1, i1, i2, i3⟩ := pv_of g1
  obtain ⟨m2, j1, j2, j3⟩ := pv_of g2
  have HO0 := Lib.hid (app_none X2 X2.heap.size)
  have HM1 : Hid (∀ (j : Nat) (u : Value), (flat m1)[j]? = some u → X2.cell? ((⟨b1, o1, none⟩ : Addr).add j) = some u) := Lib.hid (fun j u h => by
    have e : (⟨b1, o1, none⟩ : Addr).add j = ⟨b1, o1 + j, none⟩ := by unfold Addr.add; split <;> simp_all
    rw [e]; exact i3 j u h)
  have HV1 := Lib.hid (one_of m1 i2)
  have HV2 := Lib.hid (one_of m2 j2)
  have l1 : m1.length = ts.length := by rw [← i1]; simp
  have l2 : m2.length = M.length := by rw [← j1]; simp
  have lk : ts.length + M.length ≤ 1000000 := by have h := HKF.out.2; rw [← HKM.out] at h; simpa using h
  have I2 := Lib.hid i2
  have J2 := Lib.hid j2
  have J3 := Lib.hid j3
  have HI1 := Lib.hid i1
  have HJ1 := Lib.hid j1
  have n0 := HN0.out
  have n1 := HM0.out
  clear e1 e3 f1 f2 g1 g2 i1 i2 i3 j1 j2 j3 hs2
  have HM2F : Hid (∀ w', Below X2.heap.size X2 w' → ∀ (j : Nat) (u : Value), (flat m2)[j]? = some u → w'.cell? ((⟨b2, o2, none⟩ : Addr).add j) = some u) := Lib.hid (fun w' hb j u h => by
    have e : (⟨b2, o2, none⟩ : Addr).add j = ⟨b2, o2 + j, none⟩ := by unfold Addr.add; split <;> simp_all
    rw [e]; exact cell_below hb _ _ (J3.out j u h))
  go_wp2_with (first
    | (at_builtin; refine wp_appN rfl _ _ rfl X2 X2.heap.size m1 rfl ⟨b1, o1, none⟩ ts.length ac rfl l1 n0 HM1 HV1 (by omega) (Nat.le_refl _) ?_; intro ga ca w11 hown1 hb11; have HM2 := Lib.hid (HM2F.out w11 hb11.out); have hz11 := hb11.out.size)
    | (at_builtin; refine wp_appA rfl _ _ rfl w11 X2.heap.size ts.length (.slice (some ⟨ga, 0, none⟩) ts.length ca) m1 m2 rfl hown1 ⟨b2, o2, none⟩ M.length xd rfl l2 n1 HM2 HV2 (by omega) hz11 ?_; intro gb cb w12 hown2 hb12))
  have hb13 : Below X2.heap.size X2 w12 := hb11.out.trans hb12.out
  have LAP : LiesA w12 K (.slice (some ⟨gb, 0, none⟩) (ts.length + M.length) cb) := by
    have h := own_lies0 hown2.out (by simp; omega) (fun p hp => by
      rcases List.mem_append.1 hp with hp | hp
      · exact (I2.out p hp).below hb13
      · exact (J2.out p hp).below hb13)
    rw [List.map_append, HI1.out, HJ1.out, HKM.out] at h
    exact h
  refine (rsall_self K HKF.out.1 _ _ _ (LX.out.below hb13) LAP HKF.out.2).mono ?_
  rintro e w11 ⟨rfl, hb11⟩
  have h8 : Below X.heap.size X X := Below.refl _ _
  have BB := Lib.hid (BB.out.trans (hb13.mono BB.out.size))
  have h11 := hb11
  go_wp2_with fail
  refine (awake_any _).mono ?_
  rintro e w15 ⟨rfl, hb15⟩
  have h15 := h11.trans (hb15.mono h11.size)
  go_wp2_with fail
  go_ret
  exact ⟨rfl, BB.out.trans (h15.mono BB.out.size)⟩
end Go.Proofs.Yteilodihjhdngaa
