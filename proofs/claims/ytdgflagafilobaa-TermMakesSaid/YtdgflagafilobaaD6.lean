/- The law TermMakes. -/
import Derived.Test.YtdgflagafilobaaR15
namespace Go.Proofs.Ytdgflagafilobaa
open Go.RowKit Go.Proofs.HT

/-- A term, or the zero Term if it is not valid. -/
def okT (t : Tm) : Tm := if validB t = true then t else z0
theorem okT_valid (t : Tm) : validB (okT t) = true := by
  unfold okT
  by_cases h : validB t = true
  · rw [if_pos h]; exact h
  · rw [if_neg h]; exact z0_valid
theorem Var_v (n : Int) (w : World) (hi : I64 n) : Calls Try.prog 20 #[.int .i64 n] w (MadeEnd (okT (vr n)) w) := by
  unfold okT
  rcases Bool.eq_false_or_eq_true (numB n) with h | h
  · have hv : validB (vr n) = true := by have := numB_iff.1 h; simp [validB, vr, cnt, cntL, nodesB, nodesL, nodeB, ByteArray.size]; omega
    rw [if_pos hv]
    exact (Var_yes n w h).mono fun e w' ⟨he, hb⟩ => ⟨_, he, vr_own hi, hb⟩
  · have hv : ¬ validB (vr n) = true := by have := numB_not.1 h; simp [validB, vr, cnt, cntL, nodesB, nodesL, nodeB, ByteArray.size]; omega
    rw [if_neg hv]
    exact (Var_no n w h).mono fun e w' ⟨he, hb⟩ => ⟨_, he, zero_own, hb⟩
def strT (nm : ByteArray) (ts : List Tm) : Tm := if ts = [] then .mk 2 0 nm [] else .mk 3 0 nm ts
theorem Struct_v (nm : ByteArray) (ts : List Tm) (a : Option Addr) (cap : Nat) (w : World) (hn : nm.size ≤ 9223372036854775807) (hl : LiesA w ts (.slice a ts.length cap)) : Calls Try.prog 19 #[.string nm, .slice a ts.length cap] w (MadeEnd (okT (strT nm ts)) w) := by
  by_cases hz : ts = []
  · subst hz
    exact Struct_none nm a cap w hn
  · have e : strT nm ts = .mk 3 0 nm ts := by unfold strT; rw [if_neg hz]
    rw [e]; exact Struct_some nm ts a cap w hn hl hz
theorem rstruct_v (nm : ByteArray) (ts : List Tm) (a : Option Addr) (cap : Nat) (w : World) (hn : nm.size ≤ 9223372036854775807) (hl : LiesA w ts (.slice a ts.length cap)) : Calls Try.prog 26 #[.string nm, .slice a ts.length cap] w (MadeEnd (okT (strT nm ts)) w) := by
  by_cases hz : ts = []
  · subst hz
    exact rstruct_none nm a cap w hn
  · have e : strT nm ts = .mk 3 0 nm ts := by unfold strT; rw [if_neg hz]
    rw [e]; exact rstruct_some nm ts a cap w hn hl hz
theorem ind_both (n : Int) (nm : ByteArray) (w : World) (hi : nm.size ≤ 9223372036854775807) : Calls Try.prog 27 #[.string nm, .int .i64 n] w (MadeEnd (indR n nm) w) ∧ Calls Try.prog 28 #[.string nm, .int .i64 n] w (MadeEnd (indR n nm) w) := by
  unfold indR
  by_cases h : 0 ≤ n ∧ n ≤ 8
  · rw [if_pos h]; exact ⟨Ind_yes n nm w h.1 h.2 hi, rind_yes n nm w h.1 h.2 hi⟩
  · rw [if_neg h]; exact ⟨Ind_no n nm w h, rind_no n nm w h⟩
theorem indR_valid (n : Int) (nm : ByteArray) : validB (indR n nm) = true := by
  unfold indR
  by_cases h : 0 ≤ n ∧ n ≤ 8
  · rw [if_pos h]; exact okT_valid _
  · rw [if_neg h]; exact z0_valid

set_option maxHeartbeats 8000000 in
theorem makes_walk (HA : Awake) (n : Int) (nm : ByteArray) (ts : List Tm) (lv : Value) (w : World) (hi : I64 n) (hn : nm.size ≤ 9223372036854775807) (hl : LiesA w ts lv) : Calls Try.prog 6 #[.int .i64 n, .string nm, lv] w fun e w' => e = .returned (.bool true) ∧ Below w.heap.size w w' := by
  have HA := Lib.hid HA
  obtain ⟨la, lc, rfl, _, _⟩ := row_read hl
  have E0 := Lib.hid ((Env.start w).pushT hl)
  have HI := Lib.hid hi
  have HN := Lib.hid hn
  obtain ⟨QV, hqv⟩ : ∃ Q, okT (vr n) = Q := ⟨_, rfl⟩
  obtain ⟨QA, hqa⟩ : ∃ Q, okT (.mk 2 0 nm []) = Q := ⟨_, rfl⟩
  obtain ⟨QS, hqs⟩ : ∃ Q, okT (strT nm ts) = Q := ⟨_, rfl⟩
  obtain ⟨QI, hqi⟩ : ∃ Q, indR n nm = Q := ⟨_, rfl⟩
  have GV := Lib.hid (hqv ▸ same_self _ (okT_valid (vr n)))
  have GA := Lib.hid (hqa ▸ same_self _ (okT_valid (.mk 2 0 nm [])))
  have GS := Lib.hid (hqs ▸ same_self _ (okT_valid (strT nm ts)))
  have GI := Lib.hid (hqi ▸ same_self _ (indR_valid n nm))
  have C1 : Hid (∀ w, Calls Try.prog 20 #[.int .i64 n] w (MadeEnd QV w)) := by show ∀ w, _; rw [← hqv]; exact fun w => Var_v n w hi
  have C2 : Hid (∀ w, Calls Try.prog 21 #[.int .i64 n] w (MadeEnd QV w)) := by show ∀ w, _; rw [← hqv]; exact fun w => rvar_any n w hi
  have C3 : Hid (∀ w, Calls Try.prog 24 #[.string nm] w (MadeEnd QA w)) := by show ∀ w, _; rw [← hqa]; exact fun w => Atom_v nm w hn
  have C4 : Hid (∀ w, Calls Try.prog 25 #[.string nm] w (MadeEnd QA w)) := by show ∀ w, _; rw [← hqa]; exact fun w => ratom_any nm w hn
  have C5 : Hid (∀ w, LiesA w ts (.slice la ts.length lc) → Calls Try.prog 19 #[.string nm, .slice la ts.length lc] w (MadeEnd QS w)) := by show ∀ w, _; rw [← hqs]; exact fun w h => Struct_v nm ts la lc w hn h
  have C6 : Hid (∀ w, LiesA w ts (.slice la ts.length lc) → Calls Try.prog 26 #[.string nm, .slice la ts.length lc] w (MadeEnd QS w)) := by show ∀ w, _; rw [← hqs]; exact fun w h => rstruct_v nm ts la lc w hn h
  have C7 : Hid (∀ w, Calls Try.prog 27 #[.string nm, .int .i64 n] w (MadeEnd QI w)) := by show ∀ w, _; rw [← hqi]; exact fun w => (ind_both n nm w hn).1
  have C8 : Hid (∀ w, Calls Try.prog 28 #[.string nm, .int .i64 n] w (MadeEnd QI w)) := by show ∀ w, _; rw [← hqi]; exact fun w => (ind_both n nm w hn).2
  have GN : Hid (sameV (.mk 1 n ⟨#[]⟩ []) (.mk 1 n ⟨#[]⟩ []) = true) := same_self _ (by simp [validB, cnt, cntL, nodesB, nodesL, nodeB, ByteArray.size])
  clear hi hn hl hqv hqa hqs hqi
  go_enter Try.func6, Try.ntmps6
  go_wp2_with fail
  refine (C5.out _ E0.out.t.hd).mono ?_
  rintro e w1 ⟨y, rfl, hy, hb1⟩
  have hly := OwnT.lies _ _ hy
  obtain ⟨ya, yc, rfl⟩ := hly.slice
  have E1 := Lib.hid (((E0.out.step hb1).pushT hly).box (g := w1.heap.size) rfl (.int .i64 QS.kind) (.int .i64 QS.num) (.string QS.name) (.slice ya QS.args.length yc) 24)
  clear hb1 hy hly E0
  go_wp2_with fail
  generalize (w1.alloc (.cells #[.int .i64 QS.kind, .int .i64 QS.num, .string QS.name, .slice ya QS.args.length yc] 24)) = W0 at *
  have p0 := E1.out.c.hd
  have p1 := E1.out.c.tl.hd
  have p2 := E1.out.c.tl.tl.hd
  have p3 := E1.out.c.tl.tl.tl.hd
  have HQ := Lib.hid E1.out.t.hd
  have HL := Lib.hid E1.out.t.tl.hd
  have BW := Lib.hid E1.out.b
  clear E1
  have h1 : Below W0.heap.size W0 W0.drew := (Below.refl _ _).drew
  go_region_held3 (fun w' => Below W0.heap.size W0 w' ∧ w'.cell? ⟨w1.heap.size, 0, none⟩ = some (.int .i64 QS.kind) ∧ w'.cell? ⟨w1.heap.size, 1, none⟩ = some (.int .i64 QS.num) ∧ w'.cell? ⟨w1.heap.size, 2, none⟩ = some (.string QS.name) ∧ w'.cell? ⟨w1.heap.size, 3, none⟩ = some (.slice ya QS.args.length yc))
    (first | exact ⟨(by assumption), cell_below (by assumption : Below W0.heap.size W0 _) _ _ p0, cell_below (by assumption : Below W0.heap.size W0 _) _ _ p1, cell_below (by assumption : Below W0.heap.size W0 _) _ _ p2, cell_below (by assumption : Below W0.heap.size W0 _) _ _ p3⟩ | go_keep)
    (first
      | (go_at_call 20; refine (C1.out _).mono ?_; rintro e w10 ⟨x1, rfl, hy, hb⟩; have H1 := Lib.hid (OwnT.lies _ _ hy); clear hy; have h5 : Below W0.heap.size W0 w10 := Below.trans (by assumption : Below W0.heap.size W0 _) (hb.mono (Below.size (by assumption : Below W0.heap.size W0 _))); clear hb)
      | (go_at_call 21; refine (C2.out _).mono ?_; rintro e w11 ⟨x2, rfl, hy, hb⟩; have H2 := Lib.hid (OwnT.lies _ _ hy); have H3 := Lib.hid (H1.out.below hb); clear hy H1; have h5 : Below W0.heap.size W0 w11 := Below.trans (by assumption : Below W0.heap.size W0 _) (hb.mono (Below.size (by assumption : Below W0.heap.size W0 _))); clear hb)
      | (go_at_call_of 16 (tv QV x1); refine (lsame_is QV QV true GV.out _ _ _ H3.out H2.out).mono ?_; rintro e w12 ⟨rfl, hb⟩; clear H2 H3; have h5 : Below W0.heap.size W0 w12 := Below.trans (by assumption : Below W0.heap.size W0 _) (hb.mono (Below.size (by assumption : Below W0.heap.size W0 _))); clear hb)
      | (go_at_call 22; refine (Int_any n _).mono ?_; rintro e w20 ⟨rfl, hb⟩; have h5 : Below W0.heap.size W0 w20 := Below.trans (by assumption : Below W0.heap.size W0 _) (hb.mono (Below.size (by assumption : Below W0.heap.size W0 _))); clear hb)
      | (go_at_call 23; refine (rint_any n _).mono ?_; rintro e w21 ⟨rfl, hb⟩; have h5 : Below W0.heap.size W0 w21 := Below.trans (by assumption : Below W0.heap.size W0 _) (hb.mono (Below.size (by assumption : Below W0.heap.size W0 _))); clear hb)
      | (go_at_call_of 16 (pv 1 n ⟨#[]⟩ (.slice none 0 0)); refine (lsame_is (.mk 1 n ⟨#[]⟩ []) (.mk 1 n ⟨#[]⟩ []) true GN.out _ _ _ (int_lies HI.out) (int_lies HI.out)).mono ?_; rintro e w22 ⟨rfl, hb⟩; have h5 : Below W0.heap.size W0 w22 := Below.trans (by assumption : Below W0.heap.size W0 _) (hb.mono (Below.size (by assumption : Below W0.heap.size W0 _))); clear hb)
      | (go_at_call 24; refine (C3.out _).mono ?_; rintro e w30 ⟨z1, rfl, hy, hb⟩; have J1 := Lib.hid (OwnT.lies _ _ hy); clear hy; have h5 : Below W0.heap.size W0 w30 := Below.trans (by assumption : Below W0.heap.size W0 _) (hb.mono (Below.size (by assumption : Below W0.heap.size W0 _))); clear hb)
      | (go_at_call 25; refine (C4.out _).mono ?_; rintro e w31 ⟨z2, rfl, hy, hb⟩; have J2 := Lib.hid (OwnT.lies _ _ hy); have J3 := Lib.hid (J1.out.below hb); clear hy J1; have h5 : Below W0.heap.size W0 w31 := Below.trans (by assumption : Below W0.heap.size W0 _) (hb.mono (Below.size (by assumption : Below W0.heap.size W0 _))); clear hb)
      | (go_at_call_of 16 (tv QA z1); refine (lsame_is QA QA true GA.out _ _ _ J3.out J2.out).mono ?_; rintro e w32 ⟨rfl, hb⟩; clear J2 J3; have h5 : Below W0.heap.size W0 w32 := Below.trans (by assumption : Below W0.heap.size W0 _) (hb.mono (Below.size (by assumption : Below W0.heap.size W0 _))); clear hb)
      | (go_at_call 26; refine (C6.out _ (LiesT.below HL.out (by assumption : Below W0.heap.size W0 _))).mono ?_; rintro e w40 ⟨z4, rfl, hy, hb⟩; have L1 := Lib.hid (OwnT.lies _ _ hy); clear hy; have h5 : Below W0.heap.size W0 w40 := Below.trans (by assumption : Below W0.heap.size W0 _) (hb.mono (Below.size (by assumption : Below W0.heap.size W0 _))); clear hb)
      | (go_at_call 16; refine (lsame_is QS QS true GS.out _ _ _ (HQ.out.below (by assumption : Below W0.heap.size W0 _)) L1.out).mono ?_; rintro e w41 ⟨rfl, hb⟩; have h5 : Below W0.heap.size W0 w41 := Below.trans (by assumption : Below W0.heap.size W0 _) (hb.mono (Below.size (by assumption : Below W0.heap.size W0 _))); clear hb))
  have BB := Lib.hid (BW.out.trans (Below.mono h5 BW.out.size))
  go_wp2_with fail
  refine (C7.out _).mono ?_
  rintro e w50 ⟨x5, rfl, hy, hb⟩
  have M1 := Lib.hid (OwnT.lies _ _ hy)
  have B1 := Lib.hid (BB.out.trans (hb.mono BB.out.size))
  clear hy hb
  go_wp2_with fail
  refine (C8.out _).mono ?_
  rintro e w51 ⟨x6, rfl, hy, hb⟩
  have M2 := Lib.hid (OwnT.lies _ _ hy)
  have M3 := Lib.hid (M1.out.below hb)
  have B2 := Lib.hid (B1.out.trans (hb.mono B1.out.size))
  clear hy hb
  go_wp2_with fail
  refine (lsame_is QI QI true GI.out _ _ _ M3.out M2.out).mono ?_
  rintro e w52 ⟨rfl, hb⟩
  have B3 := Lib.hid (B2.out.trans (hb.mono B2.out.size))
  clear hb
  go_wp2_with fail
  refine (HA.out _).mono ?_
  rintro e wa ⟨rfl, hba⟩
  go_wp2_with fail
  go_ret
  exact ⟨rfl, B3.out.trans (hba.mono B3.out.size)⟩

end Go.Proofs.Ytdgflagafilobaa
