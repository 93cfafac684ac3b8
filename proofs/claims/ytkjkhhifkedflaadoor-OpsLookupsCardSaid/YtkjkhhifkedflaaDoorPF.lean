/- The walk of OpsLookups. -/
import Derived.Test.YtkjkhhifkedflaaDoorPA
import Derived.Test.YtkjkhhifkedflaaDoorPC
set_option linter.unusedVariables false
set_option linter.unusedSimpArgs false
namespace Go.Proofs.YtkjkhhifkedflaaDoor
open Go.RowKit Go.Proofs.HP Go.BigFrame

set_option maxHeartbeats 8000000 in
theorem opsLookups_any (A : Option Addr) (cap : Nat) (l : List Opd) (s : ByteArray) (w : World) (hm : l.length ≤ 9223372036854775807) (hP : PRO w A l) (hL : Laid w) : Calls Tryd.prog 5 #[.slice A l.length cap, .string s] w (AwEnd w) := by
  have mixed : Tryd.prog.follows .mixedOrders = true := by kernel_rfl
  obtain ⟨n, hn⟩ : ∃ n, l.length = n := ⟨_, rfl⟩
  have HP := Lib.hid hP
  have HL := Lib.hid hL
  have Hn := Lib.hid hn
  rw [hn] at hm ⊢
  clear hP hL hn
  by_cases h3 : 300 < n
  · go_enter Tryd.func5, Tryd.ntmps5
    go_wp2_with fail
    refine (awake_any _ HL.out).mono ?_
    rintro e w5 ⟨rfl, g5⟩
    go_wp2_with fail
    go_ret
    exact ⟨rfl, g5⟩
  · obtain ⟨⟨s1, t1, p1⟩, e1⟩ : ∃ o, lkO l s 1 = o := ⟨_, rfl⟩
    obtain ⟨⟨s2, t2, p2⟩, e2⟩ : ∃ o, lkO l s 2 = o := ⟨_, rfl⟩
    obtain ⟨⟨s3, t3, p3⟩, e3⟩ : ∃ o, lkO l s 3 = o := ⟨_, rfl⟩
    obtain ⟨b1, d1⟩ : ∃ o, lkB l s 1 = o := ⟨_, rfl⟩
    obtain ⟨b2, d2⟩ : ∃ o, lkB l s 2 = o := ⟨_, rfl⟩
    obtain ⟨b3, d3⟩ : ∃ o, lkB l s 3 = o := ⟨_, rfl⟩
    obtain ⟨v, hv⟩ : ∃ v, vld l = v := ⟨_, rfl⟩
    obtain ⟨u, hu⟩ : ∃ u, isB l s = u := ⟨_, rfl⟩
    have H1 : Hid (∀ A cap w, PRO w A l → KLaid w → Calls Tryd.prog 17 #[.slice A n cap, .string s] w (LkEnd (s1, t1, p1) b1 w)) := fun A cap w h1 h2 => by rw [← e1, ← d1]; exact prefix_any A n cap l s w Hn.out (by omega) h1 h2
    have F1 : Hid (∀ A cap w, PRO w A l → Calls Tryd.prog 25 #[.slice A n cap, .int .i64 1, .string s] w (LkEnd (s1, t1, p1) b1 w)) := fun A cap w h1 => by rw [← e1, ← d1]; exact rfind_any A n cap l s 1 w Hn.out (by omega) h1
    have H2 : Hid (∀ A cap w, PRO w A l → KLaid w → Calls Tryd.prog 16 #[.slice A n cap, .string s] w (LkEnd (s2, t2, p2) b2 w)) := fun A cap w h1 h2 => by rw [← e2, ← d2]; exact infix_any A n cap l s w Hn.out (by omega) h1 h2
    have F2 : Hid (∀ A cap w, PRO w A l → Calls Tryd.prog 25 #[.slice A n cap, .int .i64 2, .string s] w (LkEnd (s2, t2, p2) b2 w)) := fun A cap w h1 => by rw [← e2, ← d2]; exact rfind_any A n cap l s 2 w Hn.out (by omega) h1
    have H3 : Hid (∀ A cap w, PRO w A l → KLaid w → Calls Tryd.prog 13 #[.slice A n cap, .string s] w (LkEnd (s3, t3, p3) b3 w)) := fun A cap w h1 h2 => by rw [← e3, ← d3]; exact postfix_any A n cap l s w Hn.out (by omega) h1 h2
    have F3 : Hid (∀ A cap w, PRO w A l → Calls Tryd.prog 25 #[.slice A n cap, .int .i64 3, .string s] w (LkEnd (s3, t3, p3) b3 w)) := fun A cap w h1 => by rw [← e3, ← d3]; exact rfind_any A n cap l s 3 w Hn.out (by omega) h1
    have V1 : Hid (∀ A cap w, PRO w A l → KLaid w → Calls Tryd.prog 23 #[.slice A n cap] w (BEnd v w)) := fun A cap w h1 h2 => by rw [← hv]; exact valid_any A n cap l w Hn.out (by omega) h1 h2
    have V2 : Hid (∀ A cap w, PRO w A l → Calls Tryd.prog 26 #[.slice A n cap] w (BEnd v w)) := fun A cap w h1 => by rw [← hv]; exact rvalid_any A n cap l w Hn.out (by omega) h1
    have I1 : Hid (∀ A cap w, PRO w A l → KLaid w → Calls Tryd.prog 20 #[.slice A n cap, .string s] w (BEnd u w)) := fun A cap w h1 h2 => by rw [← hu]; exact is_any A n cap l s w Hn.out (by omega) h1 h2
    have I2 : Hid (∀ A cap w, PRO w A l → Calls Tryd.prog 27 #[.slice A n cap, .string s] w fun e w' => e = .returned (.bool u) ∧ Below w.heap.size w w') := fun A cap w h1 => by rw [← hu]; exact ris_any A n cap l s w Hn.out (by omega) h1
    have S1 : Hid (∀ A B cap cap2 w, PRO w A l → PRO w B l → Calls Tryd.prog 21 #[.slice A n cap, .slice B n cap2] w (BEnd true w)) := fun A B cap cap2 w h1 h2 => by
      have C := same_any A B n n cap cap2 l l w Hn.out Hn.out (by omega) h1 h2
      rwa [decide_eq_true rfl] at C
    have H0 := Lib.hid (clone_any A n cap l w Hn.out (by omega) HP.out)
    have k1 : (b1 == b1) = true := beq_self_eq_true _
    have k2 : (b2 == b2) = true := beq_self_eq_true _
    have k3 : (b3 == b3) = true := beq_self_eq_true _
    have k4 : (v == v) = true := beq_self_eq_true _
    have k5 : (u == u) = true := beq_self_eq_true _
    clear e1 e2 e3 d1 d2 d3 hv hu
    go_enter Tryd.func5, Tryd.ntmps5
    go_wp2_with fail
    refine (H0.out).mono ?_
    rintro e w1 ⟨A1, c1, rfl, p0, b0⟩
    rw [Hn.out]
    have BB := Lib.hid b0
    have PP := Lib.hid p0
    clear p0 b0 H0
    go_wp2_with fail
    refine (H1.out _ _ _ PP.out (HL.out.below BB.out).kl).mono ?_
    rintro e w2 ⟨rfl, g⟩
    have gg := Lib.hid (g.alloc g.size (.cells #[.string s1, .int .i64 t1, .int .i64 p1] 26))
    have BN := Lib.hid ((BB.out.trans (g.mono BB.out.size)).alloc (Nat.le_trans BB.out.size g.size) (.cells #[.string s1, .int .i64 t1, .int .i64 p1] 26))
    have PN := Lib.hid (PP.out.below gg.out)
    have X2 := Lib.hid (RowO.new w2 (s1, t1, p1))
    clear g gg BB PP H1 
    have BB := BN
    have PP := PN
    clear BN PN 
    go_wp2_with fail
    refine (H2.out _ _ _ PP.out (HL.out.below BB.out).kl).mono ?_
    rintro e w3 ⟨rfl, g⟩
    have gg := Lib.hid (g.alloc g.size (.cells #[.string s2, .int .i64 t2, .int .i64 p2] 26))
    have BN := Lib.hid ((BB.out.trans (g.mono BB.out.size)).alloc (Nat.le_trans BB.out.size g.size) (.cells #[.string s2, .int .i64 t2, .int .i64 p2] 26))
    have PN := Lib.hid (PP.out.below gg.out)
    have NX2 := Lib.hid (X2.out.below gg.out)
    have X3 := Lib.hid (RowO.new w3 (s2, t2, p2))
    clear g gg BB PP H2 X2
    have BB := BN
    have PP := PN
    have X2 := NX2
    clear BN PN NX2
    go_wp2_with fail
    refine (H3.out _ _ _ PP.out (HL.out.below BB.out).kl).mono ?_
    rintro e w4 ⟨rfl, g⟩
    have gg := Lib.hid (g.alloc g.size (.cells #[.string s3, .int .i64 t3, .int .i64 p3] 26))
    have BN := Lib.hid ((BB.out.trans (g.mono BB.out.size)).alloc (Nat.le_trans BB.out.size g.size) (.cells #[.string s3, .int .i64 t3, .int .i64 p3] 26))
    have PN := Lib.hid (PP.out.below gg.out)
    have NX2 := Lib.hid (X2.out.below gg.out)
    have NX3 := Lib.hid (X3.out.below gg.out)
    have X4 := Lib.hid (RowO.new w4 (s3, t3, p3))
    clear g gg BB PP H3 X2 X3
    have BB := BN
    have PP := PN
    have X2 := NX2
    have X3 := NX3
    clear BN PN NX2 NX3
    go_wp2_with fail
    refine (F1.out _ _ _ (HP.out.below BB.out)).mono ?_
    rintro e w5 ⟨rfl, g⟩
    have gg := Lib.hid (g.alloc g.size (.cells #[.string s1, .int .i64 t1, .int .i64 p1] 26))
    have BN := Lib.hid ((BB.out.trans (g.mono BB.out.size)).alloc (Nat.le_trans BB.out.size g.size) (.cells #[.string s1, .int .i64 t1, .int .i64 p1] 26))
    have PN := Lib.hid (PP.out.below gg.out)
    have NX2 := Lib.hid (X2.out.below gg.out)
    have NX3 := Lib.hid (X3.out.below gg.out)
    have NX4 := Lib.hid (X4.out.below gg.out)
    have X5 := Lib.hid (RowO.new w5 (s1, t1, p1))
    clear g gg BB PP F1 X2 X3 X4
    have BB := BN
    have PP := PN
    have X2 := NX2
    have X3 := NX3
    have X4 := NX4
    clear BN PN NX2 NX3 NX4
    go_wp2_with fail
    refine (F2.out _ _ _ (HP.out.below BB.out)).mono ?_
    rintro e w6 ⟨rfl, g⟩
    have gg := Lib.hid (g.alloc g.size (.cells #[.string s2, .int .i64 t2, .int .i64 p2] 26))
    have BN := Lib.hid ((BB.out.trans (g.mono BB.out.size)).alloc (Nat.le_trans BB.out.size g.size) (.cells #[.string s2, .int .i64 t2, .int .i64 p2] 26))
    have PN := Lib.hid (PP.out.below gg.out)
    have NX2 := Lib.hid (X2.out.below gg.out)
    have NX3 := Lib.hid (X3.out.below gg.out)
    have NX4 := Lib.hid (X4.out.below gg.out)
    have NX5 := Lib.hid (X5.out.below gg.out)
    have X6 := Lib.hid (RowO.new w6 (s2, t2, p2))
    clear g gg BB PP F2 X2 X3 X4 X5
    have BB := BN
    have PP := PN
    have X2 := NX2
    have X3 := NX3
    have X4 := NX4
    have X5 := NX5
    clear BN PN NX2 NX3 NX4 NX5
    go_wp2_with fail
    refine (F3.out _ _ _ (HP.out.below BB.out)).mono ?_
    rintro e w7 ⟨rfl, g⟩
    have gg := Lib.hid (g.alloc g.size (.cells #[.string s3, .int .i64 t3, .int .i64 p3] 26))
    have BN := Lib.hid ((BB.out.trans (g.mono BB.out.size)).alloc (Nat.le_trans BB.out.size g.size) (.cells #[.string s3, .int .i64 t3, .int .i64 p3] 26))
    have PN := Lib.hid (PP.out.below gg.out)
    have NX2 := Lib.hid (X2.out.below gg.out)
    have NX3 := Lib.hid (X3.out.below gg.out)
    have NX4 := Lib.hid (X4.out.below gg.out)
    have NX5 := Lib.hid (X5.out.below gg.out)
    have NX6 := Lib.hid (X6.out.below gg.out)
    have X7 := Lib.hid (RowO.new w7 (s3, t3, p3))
    clear g gg BB PP F3 X2 X3 X4 X5 X6
    have BB := BN
    have PP := PN
    have X2 := NX2
    have X3 := NX3
    have X4 := NX4
    have X5 := NX5
    have X6 := NX6
    clear BN PN NX2 NX3 NX4 NX5 NX6
    go_wp2_with fail
    refine (V1.out _ _ _ PP.out (HL.out.below BB.out).kl).mono ?_
    rintro e w8 ⟨rfl, g⟩
    have BN := Lib.hid (BB.out.trans (g.b.mono BB.out.size))
    have PN := Lib.hid (PP.out.below g.b)
    have NX2 := Lib.hid (X2.out.below g.b)
    have NX3 := Lib.hid (X3.out.below g.b)
    have NX4 := Lib.hid (X4.out.below g.b)
    have NX5 := Lib.hid (X5.out.below g.b)
    have NX6 := Lib.hid (X6.out.below g.b)
    have NX7 := Lib.hid (X7.out.below g.b)
    clear g BB PP V1 X2 X3 X4 X5 X6 X7
    have BB := BN
    have PP := PN
    have X2 := NX2
    have X3 := NX3
    have X4 := NX4
    have X5 := NX5
    have X6 := NX6
    have X7 := NX7
    clear BN PN NX2 NX3 NX4 NX5 NX6 NX7
    go_wp2_with fail
    refine (V2.out _ _ _ (HP.out.below BB.out)).mono ?_
    rintro e w9 ⟨rfl, g⟩
    have BN := Lib.hid (BB.out.trans (g.b.mono BB.out.size))
    have PN := Lib.hid (PP.out.below g.b)
    have NX2 := Lib.hid (X2.out.below g.b)
    have NX3 := Lib.hid (X3.out.below g.b)
    have NX4 := Lib.hid (X4.out.below g.b)
    have NX5 := Lib.hid (X5.out.below g.b)
    have NX6 := Lib.hid (X6.out.below g.b)
    have NX7 := Lib.hid (X7.out.below g.b)
    clear g BB PP V2 X2 X3 X4 X5 X6 X7
    have BB := BN
    have PP := PN
    have X2 := NX2
    have X3 := NX3
    have X4 := NX4
    have X5 := NX5
    have X6 := NX6
    have X7 := NX7
    clear BN PN NX2 NX3 NX4 NX5 NX6 NX7
    go_wp2_with fail
    refine (I1.out _ _ _ PP.out (HL.out.below BB.out).kl).mono ?_
    rintro e w10 ⟨rfl, g⟩
    have BN := Lib.hid (BB.out.trans (g.b.mono BB.out.size))
    have PN := Lib.hid (PP.out.below g.b)
    have NX2 := Lib.hid (X2.out.below g.b)
    have NX3 := Lib.hid (X3.out.below g.b)
    have NX4 := Lib.hid (X4.out.below g.b)
    have NX5 := Lib.hid (X5.out.below g.b)
    have NX6 := Lib.hid (X6.out.below g.b)
    have NX7 := Lib.hid (X7.out.below g.b)
    clear g BB PP I1 X2 X3 X4 X5 X6 X7
    have BB := BN
    have PP := PN
    have X2 := NX2
    have X3 := NX3
    have X4 := NX4
    have X5 := NX5
    have X6 := NX6
    have X7 := NX7
    clear BN PN NX2 NX3 NX4 NX5 NX6 NX7
    go_wp2_with fail
    refine (I2.out _ _ _ (HP.out.below BB.out)).mono ?_
    rintro e w11 ⟨rfl, g⟩
    have BN := Lib.hid (BB.out.trans (g.mono BB.out.size))
    have PN := Lib.hid (PP.out.below g)
    have NX2 := Lib.hid (X2.out.below g)
    have NX3 := Lib.hid (X3.out.below g)
    have NX4 := Lib.hid (X4.out.below g)
    have NX5 := Lib.hid (X5.out.below g)
    have NX6 := Lib.hid (X6.out.below g)
    have NX7 := Lib.hid (X7.out.below g)
    clear g BB PP I2 X2 X3 X4 X5 X6 X7
    have BB := BN
    have PP := PN
    have X2 := NX2
    have X3 := NX3
    have X4 := NX4
    have X5 := NX5
    have X6 := NX6
    have X7 := NX7
    clear BN PN NX2 NX3 NX4 NX5 NX6 NX7
    obtain ⟨x0, y0, z0⟩ := X2.out.cells
    simp only at x0 y0 z0
    obtain ⟨x1, y1, z1⟩ := X3.out.cells
    simp only at x1 y1 z1
    obtain ⟨x2, y2, z2⟩ := X4.out.cells
    simp only at x2 y2 z2
    obtain ⟨x3, y3, z3⟩ := X5.out.cells
    simp only at x3 y3 z3
    obtain ⟨x4, y4, z4⟩ := X6.out.cells
    simp only at x4 y4 z4
    obtain ⟨x5, y5, z5⟩ := X7.out.cells
    simp only at x5 y5 z5
    have u1 := eql_op s1 t1 p1 s1 t1 p1
    rw [show sameO s1 t1 p1 s1 t1 p1 = true by rw [sameO_iff]; exact decide_eq_true rfl] at u1
    have u2 := eql_op s2 t2 p2 s2 t2 p2
    rw [show sameO s2 t2 p2 s2 t2 p2 = true by rw [sameO_iff]; exact decide_eq_true rfl] at u2
    have u3 := eql_op s3 t3 p3 s3 t3 p3
    rw [show sameO s3 t3 p3 s3 t3 p3 = true by rw [sameO_iff]; exact decide_eq_true rfl] at u3
    have ug := guard_op
    go_wp2_with fail
    refine (S1.out _ _ _ _ _ PP.out (HP.out.below BB.out)).mono ?_
    rintro e wl ⟨rfl, g⟩
    have BN := Lib.hid (BB.out.trans (g.b.mono BB.out.size))
    clear g
    go_wp2_with fail
    refine (awake_any _ (HL.out.below BN.out)).mono ?_
    rintro e wm ⟨rfl, g6⟩
    have B6 := Lib.hid (BN.out.trans (g6.mono BN.out.size))
    clear g6
    go_wp2_with fail
    go_ret
    exact ⟨rfl, B6.out⟩
end Go.Proofs.YtkjkhhifkedflaaDoor
