/- The law BallsMake. -/
import Derived.Test.YteilodihjhdngaaBZ
import Derived.Deep.DeepCutAuto
set_option linter.unusedVariables false
set_option linter.unusedSimpArgs false
namespace Go.Proofs.Yteilodihjhdngaa
open Go.RowKit Go.Proofs.HT

def synT (n : Int) : Tm := if n < 0 then z0 else vz (errT (.mk 3 0 ⟨#[115, 121, 110, 116, 97, 120, 95, 101, 114, 114, 111, 114]⟩ [.mk 1 n ⟨#[]⟩ []]))
theorem synT_valid (n : Int) : validB (synT n) = true := by
  unfold synT; split
  · rfl
  · exact vz_valid _
theorem Syntax_all (n : Int) (w : World) (hi : I64 n) : Calls Try.prog 20 #[.int .i64 n] w (MadeEnd (synT n) w) := by
  unfold synT
  by_cases h : n < 0
  · rw [if_pos h]; exact Syntax_neg n w h
  · rw [if_neg h]; exact Syntax_pos n w (by omega) (by have := hi.2; omega)
theorem rSyntax_all (n : Int) (w : World) (hi : I64 n) : Calls Try.prog 29 #[.int .i64 n] w (MadeEnd (synT n) w) := by
  unfold synT
  by_cases h : n < 0
  · rw [if_pos h]; exact rSyntax_neg n w h
  · rw [if_neg h]; exact rSyntax_pos n w (by omega) (by have := hi.2; omega)

set_option maxRecDepth 100000 in
set_option maxHeartbeats 32000000 in
theorem make_walk (kd ac : ByteArray) (t : Tm) (v : Value) (n : Int) (w : World) (hk : kd.size ≤ 9223372036854775807) (ha : ac.size ≤ 9223372036854775807) (h : LiesT w t v) (hi : I64 n) : Calls Try.prog 3 #[.string kd, .string ac, tv t v, .int .i64 n] w fun e w' => e = .returned (.bool true) ∧ Below w.heap.size w w' := by
  obtain ⟨va, vc, rfl⟩ : ∃ a k, v = .slice a t.args.length k := h.slice
  obtain ⟨q0, hq0⟩ : ∃ x, instT = x := ⟨_, rfl⟩
  have HP0 : Hid (∀ w0, Below w.heap.size w w0 → Calls Try.prog 12 #[] w0 (MadeEnd q0 w0)) := Lib.hid (fun w0 hb => by rw [← hq0]; exact Inst_any w0)
  have HQ0 : Hid (∀ w0, Below w.heap.size w w0 → Calls Try.prog 21 #[] w0 (MadeEnd q0 w0)) := Lib.hid (fun w0 hb => by rw [← hq0]; exact rInst_any w0)
  have V0 : Hid (validB q0 = true) := Lib.hid (by rw [← hq0]; exact inst_valid)
  clear hq0
  obtain ⟨q1, hq1⟩ : ∃ x, withT t ⟨#[117, 110, 105, 110, 115, 116, 97, 110, 116, 105, 97, 116, 105, 111, 110, 95, 101, 114, 114, 111, 114]⟩ [] = x := ⟨_, rfl⟩
  have HP1 : Hid (∀ w0, Below w.heap.size w w0 → Calls Try.prog 13 #[tv t (.slice va t.args.length vc)] w0 (MadeEnd q1 w0)) := Lib.hid (fun w0 hb => by rw [← hq1]; exact Uninst_any t _ w0 (h.below hb))
  have HQ1 : Hid (∀ w0, Below w.heap.size w w0 → Calls Try.prog 22 #[tv t (.slice va t.args.length vc)] w0 (MadeEnd q1 w0)) := Lib.hid (fun w0 hb => by rw [← hq1]; exact rUninst_any t _ w0 (h.below hb))
  have V1 : Hid (validB q1 = true) := Lib.hid (by rw [← hq1]; exact withT_valid _ _ _)
  clear hq1
  obtain ⟨q2, hq2⟩ : ∃ x, withT t ⟨#[116, 121, 112, 101, 95, 101, 114, 114, 111, 114]⟩ [kd] = x := ⟨_, rfl⟩
  have HP2 : Hid (∀ w0, Below w.heap.size w w0 → Calls Try.prog 14 #[.string kd, tv t (.slice va t.args.length vc)] w0 (MadeEnd q2 w0)) := Lib.hid (fun w0 hb => by rw [← hq2]; exact Type_any t _ kd w0 (h.below hb) hk)
  have HQ2 : Hid (∀ w0, Below w.heap.size w w0 → Calls Try.prog 23 #[.string kd, tv t (.slice va t.args.length vc)] w0 (MadeEnd q2 w0)) := Lib.hid (fun w0 hb => by rw [← hq2]; exact rType_any t _ kd w0 (h.below hb) hk)
  have V2 : Hid (validB q2 = true) := Lib.hid (by rw [← hq2]; exact withT_valid _ _ _)
  clear hq2
  obtain ⟨q3, hq3⟩ : ∃ x, withT t ⟨#[100, 111, 109, 97, 105, 110, 95, 101, 114, 114, 111, 114]⟩ [kd] = x := ⟨_, rfl⟩
  have HP3 : Hid (∀ w0, Below w.heap.size w w0 → Calls Try.prog 15 #[.string kd, tv t (.slice va t.args.length vc)] w0 (MadeEnd q3 w0)) := Lib.hid (fun w0 hb => by rw [← hq3]; exact Domain_any t _ kd w0 (h.below hb) hk)
  have HQ3 : Hid (∀ w0, Below w.heap.size w w0 → Calls Try.prog 24 #[.string kd, tv t (.slice va t.args.length vc)] w0 (MadeEnd q3 w0)) := Lib.hid (fun w0 hb => by rw [← hq3]; exact rDomain_any t _ kd w0 (h.below hb) hk)
  have V3 : Hid (validB q3 = true) := Lib.hid (by rw [← hq3]; exact withT_valid _ _ _)
  clear hq3
  obtain ⟨q4, hq4⟩ : ∃ x, withT t ⟨#[101, 120, 105, 115, 116, 101, 110, 99, 101, 95, 101, 114, 114, 111, 114]⟩ [kd] = x := ⟨_, rfl⟩
  have HP4 : Hid (∀ w0, Below w.heap.size w w0 → Calls Try.prog 16 #[.string kd, tv t (.slice va t.args.length vc)] w0 (MadeEnd q4 w0)) := Lib.hid (fun w0 hb => by rw [← hq4]; exact Existence_any t _ kd w0 (h.below hb) hk)
  have HQ4 : Hid (∀ w0, Below w.heap.size w w0 → Calls Try.prog 25 #[.string kd, tv t (.slice va t.args.length vc)] w0 (MadeEnd q4 w0)) := Lib.hid (fun w0 hb => by rw [← hq4]; exact rExistence_any t _ kd w0 (h.below hb) hk)
  have V4 : Hid (validB q4 = true) := Lib.hid (by rw [← hq4]; exact withT_valid _ _ _)
  clear hq4
  obtain ⟨q5, hq5⟩ : ∃ x, withT t ⟨#[112, 101, 114, 109, 105, 115, 115, 105, 111, 110, 95, 101, 114, 114, 111, 114]⟩ [ac, kd] = x := ⟨_, rfl⟩
  have HP5 : Hid (∀ w0, Below w.heap.size w w0 → Calls Try.prog 17 #[.string ac, .string kd, tv t (.slice va t.args.length vc)] w0 (MadeEnd q5 w0)) := Lib.hid (fun w0 hb => by rw [← hq5]; exact Permission_any t _ ac kd w0 (h.below hb) ha hk)
  have HQ5 : Hid (∀ w0, Below w.heap.size w w0 → Calls Try.prog 26 #[.string ac, .string kd, tv t (.slice va t.args.length vc)] w0 (MadeEnd q5 w0)) := Lib.hid (fun w0 hb => by rw [← hq5]; exact rPermission_any t _ ac kd w0 (h.below hb) ha hk)
  have V5 : Hid (validB q5 = true) := Lib.hid (by rw [← hq5]; exact withT_valid _ _ _)
  clear hq5
  obtain ⟨q6, hq6⟩ : ∃ x, vz (errT (.mk 3 0 ⟨#[114, 101, 112, 114, 101, 115, 101, 110, 116, 97, 116, 105, 111, 110, 95, 101, 114, 114, 111, 114]⟩ [atmT kd])) = x := ⟨_, rfl⟩
  have HP6 : Hid (∀ w0, Below w.heap.size w w0 → Calls Try.prog 18 #[.string kd] w0 (MadeEnd q6 w0)) := Lib.hid (fun w0 hb => by rw [← hq6]; exact Representation_any kd w0 hk)
  have HQ6 : Hid (∀ w0, Below w.heap.size w w0 → Calls Try.prog 27 #[.string kd] w0 (MadeEnd q6 w0)) := Lib.hid (fun w0 hb => by rw [← hq6]; exact rRepresentation_any kd w0 hk)
  have V6 : Hid (validB q6 = true) := Lib.hid (by rw [← hq6]; exact vz_valid _)
  clear hq6
  obtain ⟨q7, hq7⟩ : ∃ x, vz (errT (.mk 3 0 ⟨#[101, 118, 97, 108, 117, 97, 116, 105, 111, 110, 95, 101, 114, 114, 111, 114]⟩ [atmT ac])) = x := ⟨_, rfl⟩
  have HP7 : Hid (∀ w0, Below w.heap.size w w0 → Calls Try.prog 19 #[.string ac] w0 (MadeEnd q7 w0)) := Lib.hid (fun w0 hb => by rw [← hq7]; exact Evaluation_any ac w0 ha)
  have HQ7 : Hid (∀ w0, Below w.heap.size w w0 → Calls Try.prog 28 #[.string ac] w0 (MadeEnd q7 w0)) := Lib.hid (fun w0 hb => by rw [← hq7]; exact rEvaluation_any ac w0 ha)
  have V7 : Hid (validB q7 = true) := Lib.hid (by rw [← hq7]; exact vz_valid _)
  clear hq7
  obtain ⟨q8, hq8⟩ : ∃ x, synT n = x := ⟨_, rfl⟩
  have HP8 : Hid (∀ w0, Below w.heap.size w w0 → Calls Try.prog 20 #[.int .i64 n] w0 (MadeEnd q8 w0)) := Lib.hid (fun w0 hb => by rw [← hq8]; exact Syntax_all n w0 hi)
  have HQ8 : Hid (∀ w0, Below w.heap.size w w0 → Calls Try.prog 29 #[.int .i64 n] w0 (MadeEnd q8 w0)) := Lib.hid (fun w0 hb => by rw [← hq8]; exact rSyntax_all n w0 hi)
  have V8 : Hid (validB q8 = true) := Lib.hid (by rw [← hq8]; exact synT_valid _)
  clear hq8
  have R0 := Lib.hid (RowT.new w t (.slice va t.args.length vc))
  have B0 := Lib.hid (al0 w (.cells #[.int .i64 t.kind, .int .i64 t.num, .string t.name, .slice va t.args.length vc] 24))
  clear h hk ha hi
  simp only [tv]
  go_enter Try.func3, Try.ntmps3
  go_wp2_with fail
  obtain ⟨W, hW⟩ : ∃ W, (w.alloc (.cells #[.int .i64 t.kind, .int .i64 t.num, .string t.name, .slice va t.args.length vc] 24)) = W := ⟨_, rfl⟩
  rw [hW] at R0 B0 ⊢
  clear hW
  have hS0 : Below W.heap.size W W.drew := (Below.refl _ _).drew
  have HSS : Hid (∀ w', Below W.heap.size W w' → (fun w' => Below W.heap.size W w' ∧ w'.cell? ⟨w.heap.size, 0, none⟩ = some (.int .i64 t.kind) ∧ w'.cell? ⟨w.heap.size, 1, none⟩ = some (.int .i64 t.num) ∧ w'.cell? ⟨w.heap.size, 2, none⟩ = some (.string t.name) ∧ w'.cell? ⟨w.heap.size, 3, none⟩ = some (.slice va t.args.length vc)) w') := Lib.hid (fun w' h => ⟨h, (R0.out.below h).cells⟩)
  obtain ⟨p0, p1, p2, p3⟩ := R0.out.cells
  have h5 := hS0
  go_region_held3 (fun w' => Below W.heap.size W w' ∧ w'.cell? ⟨w.heap.size, 0, none⟩ = some (.int .i64 t.kind) ∧ w'.cell? ⟨w.heap.size, 1, none⟩ = some (.int .i64 t.num) ∧ w'.cell? ⟨w.heap.size, 2, none⟩ = some (.string t.name) ∧ w'.cell? ⟨w.heap.size, 3, none⟩ = some (.slice va t.args.length vc))
    (first | exact HSS.out _ h5 | exact HSS.out _ (h5.alloc h5.size _) | exact HSS.out _ hS0 | go_keep)
    (first
      | (go_at_call 12; ((with_reducible refine (HP0.out _ (B0.out.trans (h5.mono B0.out.size))).mono ?_); rintro e u0 ⟨y, rfl, hy, hb⟩; obtain ⟨aP0, cP0, rfl⟩ := hy.slice; have LP0 := Lib.hid (OwnT.lies _ _ hy); have GP0 : Hid (Below W.heap.size W u0) := Lib.hid (h5.trans (hb.mono h5.size)); have h5 := GP0.out; clear hy hb))
      | (go_at_call 13; ((with_reducible refine (HP1.out _ (B0.out.trans (h5.mono B0.out.size))).mono ?_); rintro e u1 ⟨y, rfl, hy, hb⟩; obtain ⟨aP1, cP1, rfl⟩ := hy.slice; have LP0 := Lib.hid (LP0.out.below hb); have LP1 := Lib.hid (OwnT.lies _ _ hy); have GP1 : Hid (Below W.heap.size W u1) := Lib.hid (h5.trans (hb.mono h5.size)); have h5 := GP1.out; clear hy hb))
      | (go_at_call 14; ((with_reducible refine (HP2.out _ (B0.out.trans (h5.mono B0.out.size))).mono ?_); rintro e u2 ⟨y, rfl, hy, hb⟩; obtain ⟨aP2, cP2, rfl⟩ := hy.slice; have LP0 := Lib.hid (LP0.out.below hb); have LP1 := Lib.hid (LP1.out.below hb); have LP2 := Lib.hid (OwnT.lies _ _ hy); have GP2 : Hid (Below W.heap.size W u2) := Lib.hid (h5.trans (hb.mono h5.size)); have h5 := GP2.out; clear hy hb))
      | (go_at_call 15; ((with_reducible refine (HP3.out _ (B0.out.trans (h5.mono B0.out.size))).mono ?_); rintro e u3 ⟨y, rfl, hy, hb⟩; obtain ⟨aP3, cP3, rfl⟩ := hy.slice; have LP0 := Lib.hid (LP0.out.below hb); have LP1 := Lib.hid (LP1.out.below hb); have LP2 := Lib.hid (LP2.out.below hb); have LP3 := Lib.hid (OwnT.lies _ _ hy); have GP3 : Hid (Below W.heap.size W u3) := Lib.hid (h5.trans (hb.mono h5.size)); have h5 := GP3.out; clear hy hb))
      | (go_at_call 16; ((with_reducible refine (HP4.out _ (B0.out.trans (h5.mono B0.out.size))).mono ?_); rintro e u4 ⟨y, rfl, hy, hb⟩; obtain ⟨aP4, cP4, rfl⟩ := hy.slice; have LP0 := Lib.hid (LP0.out.below hb); have LP1 := Lib.hid (LP1.out.below hb); have LP2 := Lib.hid (LP2.out.below hb); have LP3 := Lib.hid (LP3.out.below hb); have LP4 := Lib.hid (OwnT.lies _ _ hy); have GP4 : Hid (Below W.heap.size W u4) := Lib.hid (h5.trans (hb.mono h5.size)); have h5 := GP4.out; clear hy hb))
      | (go_at_call 17; ((with_reducible refine (HP5.out _ (B0.out.trans (h5.mono B0.out.size))).mono ?_); rintro e u5 ⟨y, rfl, hy, hb⟩; obtain ⟨aP5, cP5, rfl⟩ := hy.slice; have LP0 := Lib.hid (LP0.out.below hb); have LP1 := Lib.hid (LP1.out.below hb); have LP2 := Lib.hid (LP2.out.below hb); have LP3 := Lib.hid (LP3.out.below hb); have LP4 := Lib.hid (LP4.out.below hb); have LP5 := Lib.hid (OwnT.lies _ _ hy); have GP5 : Hid (Below W.heap.size W u5) := Lib.hid (h5.trans (hb.mono h5.size)); have h5 := GP5.out; clear hy hb))
      | (go_at_call 18; ((with_reducible refine (HP6.out _ (B0.out.trans (h5.mono B0.out.size))).mono ?_); rintro e u6 ⟨y, rfl, hy, hb⟩; obtain ⟨aP6, cP6, rfl⟩ := hy.slice; have LP0 := Lib.hid (LP0.out.below hb); have LP1 := Lib.hid (LP1.out.below hb); have LP2 := Lib.hid (LP2.out.below hb); have LP3 := Lib.hid (LP3.out.below hb); have LP4 := Lib.hid (LP4.out.below hb); have LP5 := Lib.hid (LP5.out.below hb); have LP6 := Lib.hid (OwnT.lies _ _ hy); have GP6 : Hid (Below W.heap.size W u6) := Lib.hid (h5.trans (hb.mono h5.size)); have h5 := GP6.out; clear hy hb))
      | (go_at_call 19; ((with_reducible refine (HP7.out _ (B0.out.trans (h5.mono B0.out.size))).mono ?_); rintro e u7 ⟨y, rfl, hy, hb⟩; obtain ⟨aP7, cP7, rfl⟩ := hy.slice; have LP0 := Lib.hid (LP0.out.below hb); have LP1 := Lib.hid (LP1.out.below hb); have LP2 := Lib.hid (LP2.out.below hb); have LP3 := Lib.hid (LP3.out.below hb); have LP4 := Lib.hid (LP4.out.below hb); have LP5 := Lib.hid (LP5.out.below hb); have LP6 := Lib.hid (LP6.out.below hb); have LP7 := Lib.hid (OwnT.lies _ _ hy); have GP7 : Hid (Below W.heap.size W u7) := Lib.hid (h5.trans (hb.mono h5.size)); have h5 := GP7.out; clear hy hb))
      | (go_at_call 20; ((with_reducible refine (HP8.out _ (B0.out.trans (h5.mono B0.out.size))).mono ?_); rintro e u8 ⟨y, rfl, hy, hb⟩; obtain ⟨aP8, cP8, rfl⟩ := hy.slice; have LP0 := Lib.hid (LP0.out.below hb); have LP1 := Lib.hid (LP1.out.below hb); have LP2 := Lib.hid (LP2.out.below hb); have LP3 := Lib.hid (LP3.out.below hb); have LP4 := Lib.hid (LP4.out.below hb); have LP5 := Lib.hid (LP5.out.below hb); have LP6 := Lib.hid (LP6.out.below hb); have LP7 := Lib.hid (LP7.out.below hb); have LP8 := Lib.hid (OwnT.lies _ _ hy); have GP8 : Hid (Below W.heap.size W u8) := Lib.hid (h5.trans (hb.mono h5.size)); have h5 := GP8.out; clear hy hb)))

  go_wp2_with fail
  have LM : Hid (LiesA (u8.alloc (.cells #[.int .i64 q0.kind, .int .i64 q0.num, .string q0.name, .slice aP0 q0.args.length cP0, .int .i64 q1.kind, .int .i64 q1.num, .string q1.name, .slice aP1 q1.args.length cP1, .int .i64 q2.kind, .int .i64 q2.num, .string q2.name, .slice aP2 q2.args.length cP2, .int .i64 q3.kind, .int .i64 q3.num, .string q3.name, .slice aP3 q3.args.length cP3, .int .i64 q4.kind, .int .i64 q4.num, .string q4.name, .slice aP4 q4.args.length cP4, .int .i64 q5.kind, .int .i64 q5.num, .string q5.name, .slice aP5 q5.args.length cP5, .int .i64 q6.kind, .int .i64 q6.num, .string q6.name, .slice aP6 q6.args.length cP6, .int .i64 q7.kind, .int .i64 q7.num, .string q7.name, .slice aP7 q7.args.length cP7, .int .i64 q8.kind, .int .i64 q8.num, .string q8.name, .slice aP8 q8.args.length cP8] 24)) [q0, q1, q2, q3, q4, q5, q6, q7, q8] (.slice (some ⟨u8.heap.size, 0, none⟩) 9 9)) := Lib.hid (by
    have h := lies_new (w := u8) (g := u8.heap.size) (ty := 24) rfl [(q0, .slice aP0 q0.args.length cP0), (q1, .slice aP1 q1.args.length cP1), (q2, .slice aP2 q2.args.length cP2), (q3, .slice aP3 q3.args.length cP3), (q4, .slice aP4 q4.args.length cP4), (q5, .slice aP5 q5.args.length cP5), (q6, .slice aP6 q6.args.length cP6), (q7, .slice aP7 q7.args.length cP7), (q8, .slice aP8 q8.args.length cP8)] (by simp only [EnvT]; exact ⟨LP0.out, ⟨LP1.out, ⟨LP2.out, ⟨LP3.out, ⟨LP4.out, ⟨LP5.out, ⟨LP6.out, ⟨LP7.out, ⟨LP8.out, trivial⟩⟩⟩⟩⟩⟩⟩⟩⟩) (by simp)
    exact h)
  have R0 := Lib.hid (R0.out.below (h5.alloc h5.size (.cells #[.int .i64 q0.kind, .int .i64 q0.num, .string q0.name, .slice aP0 q0.args.length cP0, .int .i64 q1.kind, .int .i64 q1.num, .string q1.name, .slice aP1 q1.args.length cP1, .int .i64 q2.kind, .int .i64 q2.num, .string q2.name, .slice aP2 q2.args.length cP2, .int .i64 q3.kind, .int .i64 q3.num, .string q3.name, .slice aP3 q3.args.length cP3, .int .i64 q4.kind, .int .i64 q4.num, .string q4.name, .slice aP4 q4.args.length cP4, .int .i64 q5.kind, .int .i64 q5.num, .string q5.name, .slice aP5 q5.args.length cP5, .int .i64 q6.kind, .int .i64 q6.num, .string q6.name, .slice aP6 q6.args.length cP6, .int .i64 q7.kind, .int .i64 q7.num, .string q7.name, .slice aP7 q7.args.length cP7, .int .i64 q8.kind, .int .i64 q8.num, .string q8.name, .slice aP8 q8.args.length cP8] 24)))
  have B0 := Lib.hid (B0.out.trans ((h5.alloc h5.size (.cells #[.int .i64 q0.kind, .int .i64 q0.num, .string q0.name, .slice aP0 q0.args.length cP0, .int .i64 q1.kind, .int .i64 q1.num, .string q1.name, .slice aP1 q1.args.length cP1, .int .i64 q2.kind, .int .i64 q2.num, .string q2.name, .slice aP2 q2.args.length cP2, .int .i64 q3.kind, .int .i64 q3.num, .string q3.name, .slice aP3 q3.args.length cP3, .int .i64 q4.kind, .int .i64 q4.num, .string q4.name, .slice aP4 q4.args.length cP4, .int .i64 q5.kind, .int .i64 q5.num, .string q5.name, .slice aP5 q5.args.length cP5, .int .i64 q6.kind, .int .i64 q6.num, .string q6.name, .slice aP6 q6.args.length cP6, .int .i64 q7.kind, .int .i64 q7.num, .string q7.name, .slice aP7 q7.args.length cP7, .int .i64 q8.kind, .int .i64 q8.num, .string q8.name, .slice aP8 q8.args.length cP8] 24)).mono B0.out.size))
  clear p0 p1 p2 p3 h5 hS0 HSS LP0 LP1 LP2 LP3 LP4 LP5 LP6 LP7 LP8 GP0 GP1 GP2 GP3 GP4 GP5 GP6 GP7 GP8
  obtain ⟨gP, hg⟩ : ∃ g, u8.heap.size = g := ⟨_, rfl⟩
  rw [hg] at LM ⊢
  obtain ⟨X0, hW⟩ : ∃ W, u8.alloc (.cells #[.int .i64 q0.kind, .int .i64 q0.num, .string q0.name, .slice aP0 q0.args.length cP0, .int .i64 q1.kind, .int .i64 q1.num, .string q1.name, .slice aP1 q1.args.length cP1, .int .i64 q2.kind, .int .i64 q2.num, .string q2.name, .slice aP2 q2.args.length cP2, .int .i64 q3.kind, .int .i64 q3.num, .string q3.name, .slice aP3 q3.args.length cP3, .int .i64 q4.kind, .int .i64 q4.num, .string q4.name, .slice aP4 q4.args.length cP4, .int .i64 q5.kind, .int .i64 q5.num, .string q5.name, .slice aP5 q5.args.length cP5, .int .i64 q6.kind, .int .i64 q6.num, .string q6.name, .slice aP6 q6.args.length cP6, .int .i64 q7.kind, .int .i64 q7.num, .string q7.name, .slice aP7 q7.args.length cP7, .int .i64 q8.kind, .int .i64 q8.num, .string q8.name, .slice aP8 q8.args.length cP8] 24) = W := ⟨_, rfl⟩
  rw [hW] at LM R0 B0 ⊢
  clear hg hW

  have hS0 : Below X0.heap.size X0 X0.drew := (Below.refl _ _).drew
  have HSS : Hid (∀ w', Below X0.heap.size X0 w' → (fun w' => Below X0.heap.size X0 w' ∧ w'.cell? ⟨w.heap.size, 0, none⟩ = some (.int .i64 t.kind) ∧ w'.cell? ⟨w.heap.size, 1, none⟩ = some (.int .i64 t.num) ∧ w'.cell? ⟨w.heap.size, 2, none⟩ = some (.string t.name) ∧ w'.cell? ⟨w.heap.size, 3, none⟩ = some (.slice va t.args.length vc)) w') := Lib.hid (fun w' h => ⟨h, (R0.out.below h).cells⟩)
  obtain ⟨p0, p1, p2, p3⟩ := R0.out.cells
  have h5 := hS0
  go_region_held3 (fun w' => Below X0.heap.size X0 w' ∧ w'.cell? ⟨w.heap.size, 0, none⟩ = some (.int .i64 t.kind) ∧ w'.cell? ⟨w.heap.size, 1, none⟩ = some (.int .i64 t.num) ∧ w'.cell? ⟨w.heap.size, 2, none⟩ = some (.string t.name) ∧ w'.cell? ⟨w.heap.size, 3, none⟩ = some (.slice va t.args.length vc))
    (first | exact HSS.out _ h5 | exact HSS.out _ (h5.alloc h5.size _) | exact HSS.out _ hS0 | go_keep)
    (first
      | (go_at_call 21; ((with_reducible refine (HQ0.out _ (B0.out.trans (h5.mono B0.out.size))).mono ?_); rintro e v0 ⟨y, rfl, hy, hb⟩; obtain ⟨aQ0, cQ0, rfl⟩ := hy.slice; have LQ0 := Lib.hid (OwnT.lies _ _ hy); have GQ0 : Hid (Below X0.heap.size X0 v0) := Lib.hid (h5.trans (hb.mono h5.size)); have h5 := GQ0.out; clear hy hb))
      | (go_at_call 22; ((with_reducible refine (HQ1.out _ (B0.out.trans (h5.mono B0.out.size))).mono ?_); rintro e v1 ⟨y, rfl, hy, hb⟩; obtain ⟨aQ1, cQ1, rfl⟩ := hy.slice; have LQ0 := Lib.hid (LQ0.out.below hb); have LQ1 := Lib.hid (OwnT.lies _ _ hy); have GQ1 : Hid (Below X0.heap.size X0 v1) := Lib.hid (h5.trans (hb.mono h5.size)); have h5 := GQ1.out; clear hy hb))
      | (go_at_call 23; ((with_reducible refine (HQ2.out _ (B0.out.trans (h5.mono B0.out.size))).mono ?_); rintro e v2 ⟨y, rfl, hy, hb⟩; obtain ⟨aQ2, cQ2, rfl⟩ := hy.slice; have LQ0 := Lib.hid (LQ0.out.below hb); have LQ1 := Lib.hid (LQ1.out.below hb); have LQ2 := Lib.hid (OwnT.lies _ _ hy); have GQ2 : Hid (Below X0.heap.size X0 v2) := Lib.hid (h5.trans (hb.mono h5.size)); have h5 := GQ2.out; clear hy hb))
      | (go_at_call 24; ((with_reducible refine (HQ3.out _ (B0.out.trans (h5.mono B0.out.size))).mono ?_); rintro e v3 ⟨y, rfl, hy, hb⟩; obtain ⟨aQ3, cQ3, rfl⟩ := hy.slice; have LQ0 := Lib.hid (LQ0.out.below hb); have LQ1 := Lib.hid (LQ1.out.below hb); have LQ2 := Lib.hid (LQ2.out.below hb); have LQ3 := Lib.hid (OwnT.lies _ _ hy); have GQ3 : Hid (Below X0.heap.size X0 v3) := Lib.hid (h5.trans (hb.mono h5.size)); have h5 := GQ3.out; clear hy hb))
      | (go_at_call 25; ((with_reducible refine (HQ4.out _ (B0.out.trans (h5.mono B0.out.size))).mono ?_); rintro e v4 ⟨y, rfl, hy, hb⟩; obtain ⟨aQ4, cQ4, rfl⟩ := hy.slice; have LQ0 := Lib.hid (LQ0.out.below hb); have LQ1 := Lib.hid (LQ1.out.below hb); have LQ2 := Lib.hid (LQ2.out.below hb); have LQ3 := Lib.hid (LQ3.out.below hb); have LQ4 := Lib.hid (OwnT.lies _ _ hy); have GQ4 : Hid (Below X0.heap.size X0 v4) := Lib.hid (h5.trans (hb.mono h5.size)); have h5 := GQ4.out; clear hy hb))
      | (go_at_call 26; ((with_reducible refine (HQ5.out _ (B0.out.trans (h5.mono B0.out.size))).mono ?_); rintro e v5 ⟨y, rfl, hy, hb⟩; obtain ⟨aQ5, cQ5, rfl⟩ := hy.slice; have LQ0 := Lib.hid (LQ0.out.below hb); have LQ1 := Lib.hid (LQ1.out.below hb); have LQ2 := Lib.hid (LQ2.out.below hb); have LQ3 := Lib.hid (LQ3.out.below hb); have LQ4 := Lib.hid (LQ4.out.below hb); have LQ5 := Lib.hid (OwnT.lies _ _ hy); have GQ5 : Hid (Below X0.heap.size X0 v5) := Lib.hid (h5.trans (hb.mono h5.size)); have h5 := GQ5.out; clear hy hb))
      | (go_at_call 27; ((with_reducible refine (HQ6.out _ (B0.out.trans (h5.mono B0.out.size))).mono ?_); rintro e v6 ⟨y, rfl, hy, hb⟩; obtain ⟨aQ6, cQ6, rfl⟩ := hy.slice; have LQ0 := Lib.hid (LQ0.out.below hb); have LQ1 := Lib.hid (LQ1.out.below hb); have LQ2 := Lib.hid (LQ2.out.below hb); have LQ3 := Lib.hid (LQ3.out.below hb); have LQ4 := Lib.hid (LQ4.out.below hb); have LQ5 := Lib.hid (LQ5.out.below hb); have LQ6 := Lib.hid (OwnT.lies _ _ hy); have GQ6 : Hid (Below X0.heap.size X0 v6) := Lib.hid (h5.trans (hb.mono h5.size)); have h5 := GQ6.out; clear hy hb))
      | (go_at_call 28; ((with_reducible refine (HQ7.out _ (B0.out.trans (h5.mono B0.out.size))).mono ?_); rintro e v7 ⟨y, rfl, hy, hb⟩; obtain ⟨aQ7, cQ7, rfl⟩ := hy.slice; have LQ0 := Lib.hid (LQ0.out.below hb); have LQ1 := Lib.hid (LQ1.out.below hb); have LQ2 := Lib.hid (LQ2.out.below hb); have LQ3 := Lib.hid (LQ3.out.below hb); have LQ4 := Lib.hid (LQ4.out.below hb); have LQ5 := Lib.hid (LQ5.out.below hb); have LQ6 := Lib.hid (LQ6.out.below hb); have LQ7 := Lib.hid (OwnT.lies _ _ hy); have GQ7 : Hid (Below X0.heap.size X0 v7) := Lib.hid (h5.trans (hb.mono h5.size)); have h5 := GQ7.out; clear hy hb))
      | (go_at_call 29; ((with_reducible refine (HQ8.out _ (B0.out.trans (h5.mono B0.out.size))).mono ?_); rintro e v8 ⟨y, rfl, hy, hb⟩; obtain ⟨aQ8, cQ8, rfl⟩ := hy.slice; have LQ0 := Lib.hid (LQ0.out.below hb); have LQ1 := Lib.hid (LQ1.out.below hb); have LQ2 := Lib.hid (LQ2.out.below hb); have LQ3 := Lib.hid (LQ3.out.below hb); have LQ4 := Lib.hid (LQ4.out.below hb); have LQ5 := Lib.hid (LQ5.out.below hb); have LQ6 := Lib.hid (LQ6.out.below hb); have LQ7 := Lib.hid (LQ7.out.below hb); have LQ8 := Lib.hid (OwnT.lies _ _ hy); have GQ8 : Hid (Below X0.heap.size X0 v8) := Lib.hid (h5.trans (hb.mono h5.size)); have h5 := GQ8.out; clear hy hb)))

  go_wp2_with fail
  have LM2 := Lib.hid (LM.out.below (h5.alloc h5.size (.cells #[.int .i64 q0.kind, .int .i64 q0.num, .string q0.name, .slice aQ0 q0.args.length cQ0, .int .i64 q1.kind, .int .i64 q1.num, .string q1.name, .slice aQ1 q1.args.length cQ1, .int .i64 q2.kind, .int .i64 q2.num, .string q2.name, .slice aQ2 q2.args.length cQ2, .int .i64 q3.kind, .int .i64 q3.num, .string q3.name, .slice aQ3 q3.args.length cQ3, .int .i64 q4.kind, .int .i64 q4.num, .string q4.name, .slice aQ4 q4.args.length cQ4, .int .i64 q5.kind, .int .i64 q5.num, .string q5.name, .slice aQ5 q5.args.length cQ5, .int .i64 q6.kind, .int .i64 q6.num, .string q6.name, .slice aQ6 q6.args.length cQ6, .int .i64 q7.kind, .int .i64 q7.num, .string q7.name, .slice aQ7 q7.args.length cQ7, .int .i64 q8.kind, .int .i64 q8.num, .string q8.name, .slice aQ8 q8.args.length cQ8] 24)))
  have LN : Hid (LiesA (v8.alloc (.cells #[.int .i64 q0.kind, .int .i64 q0.num, .string q0.name, .slice aQ0 q0.args.length cQ0, .int .i64 q1.kind, .int .i64 q1.num, .string q1.name, .slice aQ1 q1.args.length cQ1, .int .i64 q2.kind, .int .i64 q2.num, .string q2.name, .slice aQ2 q2.args.length cQ2, .int .i64 q3.kind, .int .i64 q3.num, .string q3.name, .slice aQ3 q3.args.length cQ3, .int .i64 q4.kind, .int .i64 q4.num, .string q4.name, .slice aQ4 q4.args.length cQ4, .int .i64 q5.kind, .int .i64 q5.num, .string q5.name, .slice aQ5 q5.args.length cQ5, .int .i64 q6.kind, .int .i64 q6.num, .string q6.name, .slice aQ6 q6.args.length cQ6, .int .i64 q7.kind, .int .i64 q7.num, .string q7.name, .slice aQ7 q7.args.length cQ7, .int .i64 q8.kind, .int .i64 q8.num, .string q8.name, .slice aQ8 q8.args.length cQ8] 24)) [q0, q1, q2, q3, q4, q5, q6, q7, q8] (.slice (some ⟨v8.heap.size, 0, none⟩) 9 9)) := Lib.hid (by
    have h := lies_new (w := v8) (g := v8.heap.size) (ty := 24) rfl [(q0, .slice aQ0 q0.args.length cQ0), (q1, .slice aQ1 q1.args.length cQ1), (q2, .slice aQ2 q2.args.length cQ2), (q3, .slice aQ3 q3.args.length cQ3), (q4, .slice aQ4 q4.args.length cQ4), (q5, .slice aQ5 q5.args.length cQ5), (q6, .slice aQ6 q6.args.length cQ6), (q7, .slice aQ7 q7.args.length cQ7), (q8, .slice aQ8 q8.args.length cQ8)] (by simp only [EnvT]; exact ⟨LQ0.out, ⟨LQ1.out, ⟨LQ2.out, ⟨LQ3.out, ⟨LQ4.out, ⟨LQ5.out, ⟨LQ6.out, ⟨LQ7.out, ⟨LQ8.out, trivial⟩⟩⟩⟩⟩⟩⟩⟩⟩) (by simp)
    exact h)
  have R0 := Lib.hid (R0.out.below (h5.alloc h5.size (.cells #[.int .i64 q0.kind, .int .i64 q0.num, .string q0.name, .slice aQ0 q0.args.length cQ0, .int .i64 q1.kind, .int .i64 q1.num, .string q1.name, .slice aQ1 q1.args.length cQ1, .int .i64 q2.kind, .int .i64 q2.num, .string q2.name, .slice aQ2 q2.args.length cQ2, .int .i64 q3.kind, .int .i64 q3.num, .string q3.name, .slice aQ3 q3.args.length cQ3, .int .i64 q4.kind, .int .i64 q4.num, .string q4.name, .slice aQ4 q4.args.length cQ4, .int .i64 q5.kind, .int .i64 q5.num, .string q5.name, .slice aQ5 q5.args.length cQ5, .int .i64 q6.kind, .int .i64 q6.num, .string q6.name, .slice aQ6 q6.args.length cQ6, .int .i64 q7.kind, .int .i64 q7.num, .string q7.name, .slice aQ7 q7.args.length cQ7, .int .i64 q8.kind, .int .i64 q8.num, .string q8.name, .slice aQ8 q8.args.length cQ8] 24)))
  have B0 := Lib.hid (B0.out.trans ((h5.alloc h5.size (.cells #[.int .i64 q0.kind, .int .i64 q0.num, .string q0.name, .slice aQ0 q0.args.length cQ0, .int .i64 q1.kind, .int .i64 q1.num, .string q1.name, .slice aQ1 q1.args.length cQ1, .int .i64 q2.kind, .int .i64 q2.num, .string q2.name, .slice aQ2 q2.args.length cQ2, .int .i64 q3.kind, .int .i64 q3.num, .string q3.name, .slice aQ3 q3.args.length cQ3, .int .i64 q4.kind, .int .i64 q4.num, .string q4.name, .slice aQ4 q4.args.length cQ4, .int .i64 q5.kind, .int .i64 q5.num, .string q5.name, .slice aQ5 q5.args.length cQ5, .int .i64 q6.kind, .int .i64 q6.num, .string q6.name, .slice aQ6 q6.args.length cQ6, .int .i64 q7.kind, .int .i64 q7.num, .string q7.name, .slice aQ7 q7.args.length cQ7, .int .i64 q8.kind, .int .i64 q8.num, .string q8.name, .slice aQ8 q8.args.length cQ8] 24)).mono B0.out.size))
  clear p0 p1 p2 p3 h5 hS0 HSS LQ0 LQ1 LQ2 LQ3 LQ4 LQ5 LQ6 LQ7 LQ8 GQ0 GQ1 GQ2 GQ3 GQ4 GQ5 GQ6 GQ7 GQ8
  obtain ⟨gQ, hg⟩ : ∃ g, v8.heap.size = g := ⟨_, rfl⟩
  rw [hg] at LN ⊢
  obtain ⟨Y0, hW⟩ : ∃ W, v8.alloc (.cells #[.int .i64 q0.kind, .int .i64 q0.num, .string q0.name, .slice aQ0 q0.args.length cQ0, .int .i64 q1.kind, .int .i64 q1.num, .string q1.name, .slice aQ1 q1.args.length cQ1, .int .i64 q2.kind, .int .i64 q2.num, .string q2.name, .slice aQ2 q2.args.length cQ2, .int .i64 q3.kind, .int .i64 q3.num, .string q3.name, .slice aQ3 q3.args.length cQ3, .int .i64 q4.kind, .int .i64 q4.num, .string q4.name, .slice aQ4 q4.args.length cQ4, .int .i64 q5.kind, .int .i64 q5.num, .string q5.name, .slice aQ5 q5.args.length cQ5, .int .i64 q6.kind, .int .i64 q6.num, .string q6.name, .slice aQ6 q6.args.length cQ6, .int .i64 q7.kind, .int .i64 q7.num, .string q7.name, .slice aQ7 q7.args.length cQ7, .int .i64 q8.kind, .int .i64 q8.num, .string q8.name, .slice aQ8 q8.args.length cQ8] 24) = W := ⟨_, rfl⟩
  rw [hW] at LN LM2 R0 B0 ⊢
  clear hg hW

  have HV9 : Hid (∀ u ∈ [q0, q1, q2, q3, q4, q5, q6, q7, q8], validB u = true) := Lib.hid (fun u hu => by
    simp only [List.mem_cons, List.mem_nil_iff, or_false] at hu
    rcases hu with rfl | rfl | rfl | rfl | rfl | rfl | rfl | rfl | rfl
    · exact V0.out
    · exact V1.out
    · exact V2.out
    · exact V3.out
    · exact V4.out
    · exact V5.out
    · exact V6.out
    · exact V7.out
    · exact V8.out)
  refine (rsall_self [q0, q1, q2, q3, q4, q5, q6, q7, q8] HV9.out _ _ _ LM2.out LN.out (by simp)).mono ?_
  rintro e w20 ⟨rfl, hb20⟩
  have B20 := Lib.hid (B0.out.trans (hb20.mono B0.out.size))
  go_wp2_with fail
  refine (awake_any _).mono ?_
  rintro e w21 ⟨rfl, hb21⟩
  go_wp2_with fail
  go_ret
  exact ⟨rfl, B20.out.trans (hb21.mono B20.out.size)⟩

end Go.Proofs.Yteilodihjhdngaa
