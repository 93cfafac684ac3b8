/- What the functions return is valid; the law BallsFormal. -/
import Derived.Test.YteilodihjhdngaaBW
set_option linter.unusedVariables false
set_option linter.unusedSimpArgs false
namespace Go.Proofs.Yteilodihjhdngaa
open Go.RowKit Go.Proofs.HT

theorem z0_valid : validB z0 = true := by rfl
theorem vz_valid (t : Tm) : validB (vz t) = true := by
  unfold vz; split
  · assumption
  · rfl
theorem withT_valid (c : Tm) (nm : ByteArray) (ws : List ByteArray) : validB (withT c nm ws) = true := by
  unfold withT; split
  · exact vz_valid _
  · rfl
theorem inst_valid : validB instT = true := vz_valid _
theorem chkB_valid (t : Tm) (kd : ByteArray) (q : Bool) : validB (chkB t kd q) = true := by
  unfold chkB; split
  · split
    · exact inst_valid
    · split
      · rfl
      · exact withT_valid _ _ _
  · rfl
theorem codeB_valid (t : Tm) : validB (codeB t) = true := by
  unfold codeB; split
  · split
    · rfl
    · exact vz_valid _
  · exact chkB_valid _ _ _
theorem arB_valid (t : Tm) : validB (arB t) = true := by
  unfold arB; split
  · split
    · exact withT_valid _ _ _
    · split
      · exact vz_valid _
      · rfl
  · exact chkB_valid _ _ _
theorem indB_valid (t : Tm) : validB (indB t) = true := by
  unfold indB; split
  · split
    · exact inst_valid
    · split
      · exact arB_valid _
      · exact chkB_valid _ _ _
  · exact chkB_valid _ _ _
theorem lsB_valid (t : Tm) : validB (lsB t) = true := by
  unfold lsB; split
  · split
    · exact inst_valid
    · split
      · rfl
      · exact withT_valid _ _ _
  · rfl
theorem formT_valid (t : Tm) : validB (formT t) = true := by
  unfold formT; split
  · rename_i h
    have h1 : validB t = true := by simp only [isE, Bool.and_eq_true] at h; exact h.1
    have h2 : t.args.length = 2 := isS_two (by simp only [isE, Bool.and_eq_true] at h; exact h.2)
    have hl : 0 < t.args.length := by omega
    rw [List.getD_eq_getElem?_getD, List.getElem?_eq_getElem hl]
    exact valid_arg h1 0 hl
  · rfl
theorem sameV_self {t : Tm} (h : validB t = true) : sameV t t = true := by
  unfold sameV; rw [h, (sameB_iff t t).2 rfl]; rfl
theorem lsame_self (t : Tm) (v x : Value) (w : World) (hv : validB t = true) (h : LiesT w t v) (hx : LiesT w t x) : Calls Try.prog 34 #[tv t v, tv t x] w fun e w' => e = .returned (.bool true) ∧ Below w.heap.size w w' := lsame_is t t true (sameV_self hv) v x w h hx

set_option maxHeartbeats 8000000 in
theorem formal_walk (t : Tm) (v : Value) (w : World) (h : LiesT w t v) : Calls Try.prog 4 #[tv t v] w fun e w' => e = .returned (.bool true) ∧ Below w.heap.size w w' := by
  obtain ⟨va, vc, rfl⟩ : ∃ a k, v = .slice a t.args.length k := h.slice
  obtain ⟨B, hB⟩ : ∃ B, formT t = B := ⟨_, rfl⟩
  obtain ⟨o, ho⟩ : ∃ o, isE t = o := ⟨_, rfl⟩
  have HC1 : Hid (∀ w0, LiesT w0 t (.slice va t.args.length vc) → Calls Try.prog 32 #[tv t (.slice va t.args.length vc)] w0 (Chk0 B o w0)) := Lib.hid (fun w0 h => by rw [← hB, ← ho]; exact Formal_any t _ w0 h)
  have HC2 : Hid (∀ w0, LiesT w0 t (.slice va t.args.length vc) → Calls Try.prog 33 #[tv t (.slice va t.args.length vc)] w0 (ChkF B o w0)) := Lib.hid (fun w0 h => by rw [← hB, ← ho]; exact rFormal_any t _ w0 h)
  have HBV : Hid (validB B = true) := Lib.hid (by rw [← hB]; exact formT_valid t)
  clear hB ho
  have o1 : (o == o) = true := by cases o <;> rfl
  have o2 : (o != o) = false := by cases o <;> rfl
  have BB := Lib.hid (Below.refl w.heap.size w)
  have LL1 := Lib.hid (h)
  have LL1 := Lib.hid (LL1.out.below (al0 w (.cells #[.int .i64 t.kind, .int .i64 t.num, .string t.name, .slice va t.args.length vc] 24)))
  have RR2 := Lib.hid (RowT.new w t (.slice va t.args.length vc))
  have BB := Lib.hid (BB.out.alloc BB.out.size (.cells #[.int .i64 t.kind, .int .i64 t.num, .string t.name, .slice va t.args.length vc] 24))
  clear h
  simp only [tv]
  go_enter Try.func4, Try.ntmps4
  go_wp2_with fail
  refine (HC1.out _ LL1.out).mono ?_
  rintro e w1 ⟨y1, rfl, hy1, hb1⟩
  have RR2 := Lib.hid (RR2.out.below hb1)
  have LL1 := Lib.hid (LL1.out.below hb1)
  have BB := Lib.hid (BB.out.trans (hb1.mono BB.out.size))
  obtain ⟨a1, c1, rfl⟩ := hy1.slice
  have LL3 := Lib.hid (OwnT.lies _ _ hy1)
  clear hy1
  clear hb1
  have RR2 := Lib.hid (RR2.out.below (al0 w1 (.cells #[.int .i64 B.kind, .int .i64 B.num, .string B.name, .slice a1 B.args.length c1] 24)))
  have LL1 := Lib.hid (LL1.out.below (al0 w1 (.cells #[.int .i64 B.kind, .int .i64 B.num, .string B.name, .slice a1 B.args.length c1] 24)))
  have LL3 := Lib.hid (LL3.out.below (al0 w1 (.cells #[.int .i64 B.kind, .int .i64 B.num, .string B.name, .slice a1 B.args.length c1] 24)))
  have RR4 := Lib.hid (RowT.new w1 B (.slice a1 B.args.length c1))
  have BB := Lib.hid (BB.out.alloc BB.out.size (.cells #[.int .i64 B.kind, .int .i64 B.num, .string B.name, .slice a1 B.args.length c1] 24))
  obtain ⟨xRR2_0, xRR2_1, xRR2_2, xRR2_3⟩ := RR2.out.cells
  go_wp2_with fail
  refine (HC2.out _ LL1.out).mono ?_
  rintro e w2 ⟨y2, rfl, hy2, hb2⟩
  clear xRR2_0 xRR2_1 xRR2_2 xRR2_3
  have RR2 := Lib.hid (RR2.out.below hb2)
  have RR4 := Lib.hid (RR4.out.below hb2)
  have LL1 := Lib.hid (LL1.out.below hb2)
  have LL3 := Lib.hid (LL3.out.below hb2)
  have BB := Lib.hid (BB.out.trans (hb2.mono BB.out.size))
  obtain ⟨a2, c2, rfl⟩ := hy2.slice
  have LL5 := Lib.hid (hy2)
  clear hy2
  clear hb2
  have RR2 := Lib.hid (RR2.out.below (al0 w2 (.cells #[.int .i64 B.kind, .int .i64 B.num, .string B.name, .slice a2 B.args.length c2] 24)))
  have RR4 := Lib.hid (RR4.out.below (al0 w2 (.cells #[.int .i64 B.kind, .int .i64 B.num, .string B.name, .slice a2 B.args.length c2] 24)))
  have LL1 := Lib.hid (LL1.out.below (al0 w2 (.cells #[.int .i64 B.kind, .int .i64 B.num, .string B.name, .slice a2 B.args.length c2] 24)))
  have LL3 := Lib.hid (LL3.out.below (al0 w2 (.cells #[.int .i64 B.kind, .int .i64 B.num, .string B.name, .slice a2 B.args.length c2] 24)))
  have LL5 := Lib.hid (LL5.out.below (al0 w2 (.cells #[.int .i64 B.kind, .int .i64 B.num, .string B.name, .slice a2 B.args.length c2] 24)))
  have RR6 := Lib.hid (RowT.new w2 B (.slice a2 B.args.length c2))
  have BB := Lib.hid (BB.out.alloc BB.out.size (.cells #[.int .i64 B.kind, .int .i64 B.num, .string B.name, .slice a2 B.args.length c2] 24))
  obtain ⟨xRR4_0, xRR4_1, xRR4_2, xRR4_3⟩ := RR4.out.cells
  go_wp2_with fail
  refine (lsame_self B _ _ _ HBV.out LL3.out LL5.out).mono ?_
  rintro e w3 ⟨rfl, hb3⟩
  clear xRR4_0 xRR4_1 xRR4_2 xRR4_3
  have RR2 := Lib.hid (RR2.out.below hb3)
  have RR4 := Lib.hid (RR4.out.below hb3)
  have RR6 := Lib.hid (RR6.out.below hb3)
  have LL1 := Lib.hid (LL1.out.below hb3)
  have LL3 := Lib.hid (LL3.out.below hb3)
  have LL5 := Lib.hid (LL5.out.below hb3)
  have BB := Lib.hid (BB.out.trans (hb3.mono BB.out.size))
  clear hb3
  go_wp2_with fail
  refine (awake_any _).mono ?_
  rintro e w4 ⟨rfl, hb4⟩
  have RR2 := Lib.hid (RR2.out.below hb4)
  have RR4 := Lib.hid (RR4.out.below hb4)
  have RR6 := Lib.hid (RR6.out.below hb4)
  have LL1 := Lib.hid (LL1.out.below hb4)
  have LL3 := Lib.hid (LL3.out.below hb4)
  have LL5 := Lib.hid (LL5.out.below hb4)
  have BB := Lib.hid (BB.out.trans (hb4.mono BB.out.size))
  clear hb4
  go_wp2_with fail
  go_ret
  exact ⟨rfl, BB.out⟩

end Go.Proofs.Yteilodihjhdngaa

/- The specification's SameAll of two slices that hold the same terms. -/
namespace Go.Proofs.Yteilodihjhdngaa
open Go.RowKit Go.Proofs.HT

/-- A slice of terms: where its elements lie. -/
theorem liesA_row {w : World} {L : List Tm} {v : Value} (h : LiesA w L v) : ∃ a cap, v = .slice a L.length cap ∧ (0 < L.length → ∃ b o, a = some ⟨b, o, none⟩ ∧ L.length ≤ cap ∧ LiesL w L b o) := by
  rcases h.len with ⟨rfl, a, cap, rfl⟩ | ⟨b, o, cap, rfl, hpos, hlc, _, hl⟩
  · exact ⟨a, cap, rfl, fun h => by simp at h⟩
  · exact ⟨_, cap, rfl, fun _ => ⟨b, o, rfl, hlc, hl⟩⟩
set_option maxHeartbeats 8000000 in
theorem rsall_self (L : List Tm) (hv : ∀ t ∈ L, validB t = true) (x y : Value) (w : World) (hx : LiesA w L x) (hy : LiesA w L y) (hn : L.length ≤ 1000000) :
    Calls Try.prog 30 #[x, y] w fun e w' => e = .returned (.bool true) ∧ Below w.heap.size w w' := by
  obtain ⟨xa, xc, rfl, hxr⟩ := liesA_row hx
  obtain ⟨ya, yc, rfl, hyr⟩ := liesA_row hy
  obtain ⟨n, hln⟩ : ∃ n, L.length = n := ⟨_, rfl⟩
  have HLN := Lib.hid hln
  have HX := Lib.hid hxr
  have HY := Lib.hid hyr
  have HV := Lib.hid hv
  rw [hln] at hn ⊢
  have e0 : ((n : Int) != (n : Int)) = false := by simp
  clear hx hy hxr hyr hv hln
  go_enter Try.func30, Try.ntmps30
  go_wp2_with fail
  go_loopw [5] (fun vi wr => ∃ j : Nat, j ≤ n ∧ vi = .int .i64 j ∧ Hid (Below w.heap.size w wr)) (fun vi _ => n - (intOf vi).toNat)
  case atStart => exact ⟨0, by omega, rfl, Lib.hid (Below.refl _ _)⟩
  case round =>
    obtain ⟨j, hj, rfl, hb⟩ := hrel
    by_cases hlt : j < n
    · have hjl : j < L.length := by have := HLN.out; omega
      obtain ⟨b1, o1, ha1, hc1, hl1⟩ := HX.out (by omega)
      obtain ⟨b2, o2, ha2, hc2, hl2⟩ := HY.out (by omega)
      subst ha1
      subst ha2
      obtain ⟨v1, p0, p1, p2, p3, hv1⟩ := hl1.at j hjl
      obtain ⟨v2, q0, q1, q2, q3, hv2⟩ := hl2.at j hjl
      have hval := HV.out _ (List.getElem_mem hjl)
      obtain ⟨t, ht⟩ : ∃ t, L[j] = t := ⟨_, rfl⟩
      rw [ht] at p0
      rw [ht] at p1
      rw [ht] at p2
      rw [ht] at q0 q1 q2
      rw [ht] at hv1 hv2
      rw [ht] at hval
      obtain ⟨a1, k1, rfl⟩ := hv1.slice
      obtain ⟨a2, k2, rfl⟩ := hv2.slice
      have p0 := cell_below hb.out _ _ p0
      have p1 := cell_below hb.out _ _ p1
      have p2 := cell_below hb.out _ _ p2
      have p3 := cell_below hb.out _ _ p3
      have q0 := cell_below hb.out _ _ q0
      have q1 := cell_below hb.out _ _ q1
      have q2 := cell_below hb.out _ _ q2
      have q3 := cell_below hb.out _ _ q3
      have HC : Hid (∀ w', Below w.heap.size w w' → Calls Try.prog 70 #[tv t (.slice a1 t.args.length k1), tv t (.slice a2 t.args.length k2)] w' fun e w'' => e = .returned (.bool true) ∧ Below w'.heap.size w' w'') := Lib.hid (fun w' hb => by have h := same_any t t _ _ w' (hv1.below hb) (hv2.below hb); rw [sameV_self hval] at h; exact h)
      have lj0 : (0 : Int) ≤ (j : Int) := by omega
      have lj1 : (j : Int) < (n : Int) := by omega
      clear hv1 hv2 hval ht hl1 hl2 hc1 hc2 hjl
      have hS0 : Below wr.heap.size wr wr.drew := (Below.refl _ _).drew
      have HS : Hid (∀ w', Below wr.heap.size wr w' → (fun w' => Below wr.heap.size wr w' ∧ w'.cell? ⟨b1, o1 + j * 4, none⟩ = some (.int .i64 t.kind) ∧ w'.cell? ⟨b1, o1 + j * 4 + 1, none⟩ = some (.int .i64 t.num) ∧ w'.cell? ⟨b1, o1 + j * 4 + 2, none⟩ = some (.string t.name) ∧ w'.cell? ⟨b1, o1 + j * 4 + 3, none⟩ = some (.slice a1 t.args.length k1) ∧ w'.cell? ⟨b2, o2 + j * 4, none⟩ = some (.int .i64 t.kind) ∧ w'.cell? ⟨b2, o2 + j * 4 + 1, none⟩ = some (.int .i64 t.num) ∧ w'.cell? ⟨b2, o2 + j * 4 + 2, none⟩ = some (.string t.name) ∧ w'.cell? ⟨b2, o2 + j * 4 + 3, none⟩ = some (.slice a2 t.args.length k2)) w') := Lib.hid (fun w' h => ⟨h, cell_below h _ _ p0, cell_below h _ _ p1, cell_below h _ _ p2, cell_below h _ _ p3, cell_below h _ _ q0, cell_below h _ _ q1, cell_below h _ _ q2, cell_below h _ _ q3⟩)
      have HBH := Lib.hid hb.out
      go_wp2_with fail
      go_region_held3 (fun w' => Below wr.heap.size wr w' ∧ w'.cell? ⟨b1, o1 + j * 4, none⟩ = some (.int .i64 t.kind) ∧ w'.cell? ⟨b1, o1 + j * 4 + 1, none⟩ = some (.int .i64 t.num) ∧ w'.cell? ⟨b1, o1 + j * 4 + 2, none⟩ = some (.string t.name) ∧ w'.cell? ⟨b1, o1 + j * 4 + 3, none⟩ = some (.slice a1 t.args.length k1) ∧ w'.cell? ⟨b2, o2 + j * 4, none⟩ = some (.int .i64 t.kind) ∧ w'.cell? ⟨b2, o2 + j * 4 + 1, none⟩ = some (.int .i64 t.num) ∧ w'.cell? ⟨b2, o2 + j * 4 + 2, none⟩ = some (.string t.name) ∧ w'.cell? ⟨b2, o2 + j * 4 + 3, none⟩ = some (.slice a2 t.args.length k2))
        (first | exact HS.out _ h5 | exact HS.out _ hS0 | go_keep)
        (first | (go_at_call 70; ((with_reducible refine (HC.out _ (HBH.out.trans (hS0.mono HBH.out.size))).mono ?_); rintro e w1 ⟨rfl, hb1⟩; have h5 : Below wr.heap.size wr w1 := hS0.trans (hb1.mono hS0.size))))
      have B1 := Lib.hid (hb.out.trans (h5.mono hb.out.size))
      clear p0 p1 p2 p3 q0 q1 q2 q3 hb1 h5 hS0 HS
      go_wp2_with fail
      go_roundw
      case rel => exact ⟨j + 1, by omega, by go_num, B1⟩
      case measure => simp [intOf]; omega
    · obtain rfl : j = n := by omega
      go_wp2_with fail
      go_ret
      exact ⟨rfl, hb.out⟩

end Go.Proofs.Yteilodihjhdngaa
