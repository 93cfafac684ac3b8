/- The walk of OpsExamples. -/
import Derived.Test.YtkjkhhifkedflaaDoorPC
set_option linter.unusedVariables false
set_option linter.unusedSimpArgs false
namespace Go.Proofs.YtkjkhhifkedflaaDoor
open Go.RowKit Go.Proofs.HP Go.BigFrame

def exA : List Opd := setR D0 700 1 ⟨#[105, 110]⟩
def exB : List Opd := setR D0 0 3 ⟨#[43]⟩
theorem exA_len : exA.length = 42 := by decide +kernel
theorem exB_len : exB.length = 40 := by decide +kernel
theorem ex_nil : ([] : List Opd).length = 0 := rfl
theorem ex_post_v : lkO D0 ⟨#[45]⟩ 3 = (⟨#[]⟩, 0, 0) ∧ lkB D0 ⟨#[45]⟩ 3 = false := by decide +kernel
theorem ex_post (A : Option Addr) (cap : Nat) (w : World) (hP : PRO w A D0) (hL : KLaid w) :
    Calls Tryd.prog 13 #[.slice A 41 cap, .string ⟨#[45]⟩] w fun e w' => e = .returned (.tuple #[.agg #[.string ⟨#[]⟩, .int .i64 0, .int .i64 0], .bool false]) ∧ Below w.heap.size w w' := by
  have h := postfix_any A 41 cap D0 ⟨#[45]⟩ w D0_len (by omega) hP hL
  rw [ex_post_v.1, ex_post_v.2] at h
  exact h
theorem ex_in1_v : lkO exA ⟨#[105, 110]⟩ 2 = (⟨#[105, 110]⟩, 1, 700) ∧ lkB exA ⟨#[105, 110]⟩ 2 = true := by decide +kernel
theorem ex_in1 (A : Option Addr) (cap : Nat) (w : World) (hP : PRO w A exA) (hL : KLaid w) :
    Calls Tryd.prog 16 #[.slice A 42 cap, .string ⟨#[105, 110]⟩] w fun e w' => e = .returned (.tuple #[.agg #[.string ⟨#[105, 110]⟩, .int .i64 1, .int .i64 700], .bool true]) ∧ Below w.heap.size w w' := by
  have h := infix_any A 42 cap exA ⟨#[105, 110]⟩ w exA_len (by omega) hP hL
  rw [ex_in1_v.1, ex_in1_v.2] at h
  exact h
theorem ex_in2_v : lkO exB ⟨#[43]⟩ 2 = (⟨#[]⟩, 0, 0) ∧ lkB exB ⟨#[43]⟩ 2 = false := by decide +kernel
theorem ex_in2 (A : Option Addr) (cap : Nat) (w : World) (hP : PRO w A exB) (hL : KLaid w) :
    Calls Tryd.prog 16 #[.slice A 40 cap, .string ⟨#[43]⟩] w fun e w' => e = .returned (.tuple #[.agg #[.string ⟨#[]⟩, .int .i64 0, .int .i64 0], .bool false]) ∧ Below w.heap.size w w' := by
  have h := infix_any A 40 cap exB ⟨#[43]⟩ w exB_len (by omega) hP hL
  rw [ex_in2_v.1, ex_in2_v.2] at h
  exact h
theorem ex_pre2_v : lkO exB ⟨#[43]⟩ 1 = (⟨#[43]⟩, 4, 200) ∧ lkB exB ⟨#[43]⟩ 1 = true := by decide +kernel
theorem ex_pre2 (A : Option Addr) (cap : Nat) (w : World) (hP : PRO w A exB) (hL : KLaid w) :
    Calls Tryd.prog 17 #[.slice A 40 cap, .string ⟨#[43]⟩] w fun e w' => e = .returned (.tuple #[.agg #[.string ⟨#[43]⟩, .int .i64 4, .int .i64 200], .bool true]) ∧ Below w.heap.size w w' := by
  have h := prefix_any A 40 cap exB ⟨#[43]⟩ w exB_len (by omega) hP hL
  rw [ex_pre2_v.1, ex_pre2_v.2] at h
  exact h
theorem ex_s1_v : setE D0 700 1 ⟨#[105, 110]⟩ = 0 ∧ setR D0 700 1 ⟨#[105, 110]⟩ = exA := by exact ⟨by decide +kernel, rfl⟩
theorem ex_s1 (A : Option Addr) (cap : Nat) (w : World) (hP : PRO w A D0) (hL : KLaid w) :
    Calls Tryd.prog 15 #[.slice A 41 cap, .int .i64 700, .int .i64 1, .string ⟨#[105, 110]⟩] w fun e w' => ∃ A2 cap2, e = .returned (.tuple #[.slice A2 42 cap2, .int .i64 0]) ∧ PRO w' A2 exA ∧ Below w.heap.size w w' := by
  have h := set_any A 41 cap D0 700 1 ⟨#[105, 110]⟩ w D0_len (by omega) hP hL
  unfold SetEnd at h
  rw [ex_s1_v.1, ex_s1_v.2, exA_len] at h
  exact h
theorem ex_s2_v : setE D0 0 3 ⟨#[43]⟩ = 0 ∧ setR D0 0 3 ⟨#[43]⟩ = exB := by exact ⟨by decide +kernel, rfl⟩
theorem ex_s2 (A : Option Addr) (cap : Nat) (w : World) (hP : PRO w A D0) (hL : KLaid w) :
    Calls Tryd.prog 15 #[.slice A 41 cap, .int .i64 0, .int .i64 3, .string ⟨#[43]⟩] w fun e w' => ∃ A2 cap2, e = .returned (.tuple #[.slice A2 40 cap2, .int .i64 0]) ∧ PRO w' A2 exB ∧ Below w.heap.size w w' := by
  have h := set_any A 41 cap D0 0 3 ⟨#[43]⟩ w D0_len (by omega) hP hL
  unfold SetEnd at h
  rw [ex_s2_v.1, ex_s2_v.2, exB_len] at h
  exact h
theorem ex_s3_v : setE D0 200 6 ⟨#[105, 115]⟩ = 5 ∧ setR D0 200 6 ⟨#[105, 115]⟩ = [] := by decide +kernel
theorem ex_s3 (A : Option Addr) (cap : Nat) (w : World) (hP : PRO w A D0) (hL : KLaid w) :
    Calls Tryd.prog 15 #[.slice A 41 cap, .int .i64 200, .int .i64 6, .string ⟨#[105, 115]⟩] w fun e w' => ∃ A2 cap2, e = .returned (.tuple #[.slice A2 0 cap2, .int .i64 5]) ∧ PRO w' A2 [] ∧ Below w.heap.size w w' := by
  have h := set_any A 41 cap D0 200 6 ⟨#[105, 115]⟩ w D0_len (by omega) hP hL
  unfold SetEnd at h
  rw [ex_s3_v.1, ex_s3_v.2, ex_nil] at h
  exact h
theorem ex_s4_v : setE D0 900 2 ⟨#[124]⟩ = 5 ∧ setR D0 900 2 ⟨#[124]⟩ = [] := by decide +kernel
theorem ex_s4 (A : Option Addr) (cap : Nat) (w : World) (hP : PRO w A D0) (hL : KLaid w) :
    Calls Tryd.prog 15 #[.slice A 41 cap, .int .i64 900, .int .i64 2, .string ⟨#[124]⟩] w fun e w' => ∃ A2 cap2, e = .returned (.tuple #[.slice A2 0 cap2, .int .i64 5]) ∧ PRO w' A2 [] ∧ Below w.heap.size w w' := by
  have h := set_any A 41 cap D0 900 2 ⟨#[124]⟩ w D0_len (by omega) hP hL
  unfold SetEnd at h
  rw [ex_s4_v.1, ex_s4_v.2, ex_nil] at h
  exact h
theorem ex_s5_v : setE D0 200 4 ⟨#[91, 93]⟩ = 5 ∧ setR D0 200 4 ⟨#[91, 93]⟩ = [] := by decide +kernel
theorem ex_s5 (A : Option Addr) (cap : Nat) (w : World) (hP : PRO w A D0) (hL : KLaid w) :
    Calls Tryd.prog 15 #[.slice A 41 cap, .int .i64 200, .int .i64 4, .string ⟨#[91, 93]⟩] w fun e w' => ∃ A2 cap2, e = .returned (.tuple #[.slice A2 0 cap2, .int .i64 5]) ∧ PRO w' A2 [] ∧ Below w.heap.size w w' := by
  have h := set_any A 41 cap D0 200 4 ⟨#[91, 93]⟩ w D0_len (by omega) hP hL
  unfold SetEnd at h
  rw [ex_s5_v.1, ex_s5_v.2, ex_nil] at h
  exact h
theorem ex_s6_v : setE D0 1201 4 ⟨#[97]⟩ = 1 ∧ setR D0 1201 4 ⟨#[97]⟩ = [] := by decide +kernel
theorem ex_s6 (A : Option Addr) (cap : Nat) (w : World) (hP : PRO w A D0) (hL : KLaid w) :
    Calls Tryd.prog 15 #[.slice A 41 cap, .int .i64 1201, .int .i64 4, .string ⟨#[97]⟩] w fun e w' => ∃ A2 cap2, e = .returned (.tuple #[.slice A2 0 cap2, .int .i64 1]) ∧ PRO w' A2 [] ∧ Below w.heap.size w w' := by
  have h := set_any A 41 cap D0 1201 4 ⟨#[97]⟩ w D0_len (by omega) hP hL
  unfold SetEnd at h
  rw [ex_s6_v.1, ex_s6_v.2, ex_nil] at h
  exact h
theorem ex_sd_v : sdL (⟨#[92, 43]⟩, 4, 900) = 0 ∧ sdR (⟨#[92, 43]⟩, 4, 900) = 900 := by decide +kernel
theorem ex_sd (w : World) (hL : KLaid w) : Calls Tryd.prog 14 #[.agg #[.string ⟨#[92, 43]⟩, .int .i64 4, .int .i64 900]] w fun e w' => e = .returned (.tuple #[.int .i64 0, .int .i64 900]) ∧ Below w.heap.size w w' := by
  have h := sides_any (⟨#[92, 43]⟩, 4, 900) w hL
  unfold SdEnd at h
  rw [ex_sd_v.1, ex_sd_v.2] at h
  exact h.mono fun _ _ h => ⟨h.1, h.2.b⟩
theorem ex_tn_v : (if isT 3 then kN 3 else ⟨#[]⟩) = ⟨#[121, 102, 120]⟩ ∧ isT 3 = true := by decide +kernel
theorem ex_tn (w : World) (hL : KLaid w) : Calls Tryd.prog 18 #[.int .i64 3] w fun e w' => e = .returned (.tuple #[.string ⟨#[121, 102, 120]⟩, .bool true]) ∧ w = w' := by
  have h := typeName_any 3 w hL
  rw [ex_tn_v.1, ex_tn_v.2] at h
  exact h.mono fun _ _ h => ⟨h.1, h.2.symm⟩
theorem ex_to_v : tyV ⟨#[120, 102]⟩ = 6 ∧ tyB ⟨#[120, 102]⟩ = true := by decide +kernel
theorem ex_to (w : World) (hL : KLaid w) : Calls Tryd.prog 19 #[.string ⟨#[120, 102]⟩] w fun e w' => e = .returned (.tuple #[.int .i64 6, .bool true]) ∧ w = w' := by
  have h := typeOf_any ⟨#[120, 102]⟩ w hL
  rw [ex_to_v.1, ex_to_v.2] at h
  exact h.mono fun _ _ h => ⟨h.1, h.2.symm⟩
theorem ex_is_v : isB D0 ⟨#[102, 111, 111]⟩ = false := by decide +kernel
theorem ex_is (A : Option Addr) (cap : Nat) (w : World) (hP : PRO w A D0) (hL : KLaid w) : Calls Tryd.prog 20 #[.slice A 41 cap, .string ⟨#[102, 111, 111]⟩] w (BEnd false w) := by
  have h := is_any A 41 cap D0 ⟨#[102, 111, 111]⟩ w D0_len (by omega) hP hL
  rwa [ex_is_v] at h
theorem ex_str : ((⟨#[121, 102, 120]⟩ : ByteArray).toList == (⟨#[121, 102, 120]⟩ : ByteArray).toList) = true := beq_self_eq_true _
set_option maxRecDepth 100000 in
set_option maxHeartbeats 8000000 in
theorem opsExamples_any (w : World) (hL : Laid w) : Calls Tryd.prog 3 #[] w (AwEnd w) := by
  have H0 := Lib.hid (awake_any w hL)
  have HL := Lib.hid hL
  clear hL
  go_enter Tryd.func3, Tryd.ntmps3
  go_wp2_with fail
  refine (H0.out).mono ?_
  rintro e w1 ⟨rfl, g⟩
  have BB := Lib.hid g
  clear g H0
  go_wp2_with fail
  refine (default_any _ (HL.out.below BB.out)).mono ?_
  rintro e w2 ⟨g0, c0, rfl, p0, g⟩
  have BN := Lib.hid (BB.out.trans (g.mono BB.out.size))
  clear BB
  have BB := BN
  clear BN
  have P0 := Lib.hid p0
  clear p0 g
  go_wp2_with fail
  refine (ex_post _ _ _ P0.out (HL.out.below BB.out).kl).mono ?_
  rintro e w3 ⟨rfl, g⟩
  have BN := Lib.hid ((BB.out.trans (g.mono BB.out.size)).alloc (Nat.le_trans BB.out.size g.size) (.cells #[.string ⟨#[]⟩, .int .i64 0, .int .i64 0] 26))
  clear BB
  have BB := BN
  clear BN
  have gg := Lib.hid (g.alloc g.size (.cells #[.string ⟨#[]⟩, .int .i64 0, .int .i64 0] 26))
  have NP0 := Lib.hid (P0.out.below gg.out)
  clear P0
  have P0 := NP0
  clear NP0
  have X3 := Lib.hid (RowO.new w3 (⟨#[]⟩, 0, 0))
  clear g gg
  go_wp2_with fail
  refine (ex_sd _ (HL.out.below BB.out).kl).mono ?_
  rintro e ws ⟨rfl, g⟩
  have BN := Lib.hid (BB.out.trans (g.mono BB.out.size))
  clear BB
  have BB := BN
  clear BN
  have NP0 := Lib.hid (P0.out.below g)
  have NX3 := Lib.hid (X3.out.below g)
  clear P0 X3
  have P0 := NP0
  have X3 := NX3
  clear NP0 NX3
  clear g
  go_wp2_with fail
  refine (ex_s1 _ _ _ P0.out (HL.out.below BB.out).kl).mono ?_
  rintro e w4 ⟨A4, c4, rfl, p0, g⟩
  have BN := Lib.hid (BB.out.trans (g.mono BB.out.size))
  clear BB
  have BB := BN
  clear BN
  have NP0 := Lib.hid (P0.out.below g)
  have NX3 := Lib.hid (X3.out.below g)
  clear P0 X3
  have P0 := NP0
  have X3 := NX3
  clear NP0 NX3
  have P4 := Lib.hid p0
  clear g p0
  go_wp2_with fail
  refine (ex_in1 _ _ _ P4.out (HL.out.below BB.out).kl).mono ?_
  rintro e w5 ⟨rfl, g⟩
  have BN := Lib.hid ((BB.out.trans (g.mono BB.out.size)).alloc (Nat.le_trans BB.out.size g.size) (.cells #[.string ⟨#[105, 110]⟩, .int .i64 1, .int .i64 700] 26))
  clear BB
  have BB := BN
  clear BN
  have gg := Lib.hid (g.alloc g.size (.cells #[.string ⟨#[105, 110]⟩, .int .i64 1, .int .i64 700] 26))
  have NP0 := Lib.hid (P0.out.below gg.out)
  have NP4 := Lib.hid (P4.out.below gg.out)
  have NX3 := Lib.hid (X3.out.below gg.out)
  clear P0 P4 X3
  have P0 := NP0
  have P4 := NP4
  have X3 := NX3
  clear NP0 NP4 NX3
  have X5 := Lib.hid (RowO.new w5 (⟨#[105, 110]⟩, 1, 700))
  clear g gg
  clear P4
  go_wp2_with fail
  refine (ex_s2 _ _ _ P0.out (HL.out.below BB.out).kl).mono ?_
  rintro e w6 ⟨A6, c6, rfl, p0, g⟩
  have BN := Lib.hid (BB.out.trans (g.mono BB.out.size))
  clear BB
  have BB := BN
  clear BN
  have NP0 := Lib.hid (P0.out.below g)
  have NX3 := Lib.hid (X3.out.below g)
  have NX5 := Lib.hid (X5.out.below g)
  clear P0 X3 X5
  have P0 := NP0
  have X3 := NX3
  have X5 := NX5
  clear NP0 NX3 NX5
  have P6 := Lib.hid p0
  clear g p0
  go_wp2_with fail
  refine (ex_in2 _ _ _ P6.out (HL.out.below BB.out).kl).mono ?_
  rintro e w7 ⟨rfl, g⟩
  have BN := Lib.hid ((BB.out.trans (g.mono BB.out.size)).alloc (Nat.le_trans BB.out.size g.size) (.cells #[.string ⟨#[]⟩, .int .i64 0, .int .i64 0] 26))
  clear BB
  have BB := BN
  clear BN
  have gg := Lib.hid (g.alloc g.size (.cells #[.string ⟨#[]⟩, .int .i64 0, .int .i64 0] 26))
  have NP0 := Lib.hid (P0.out.below gg.out)
  have NP6 := Lib.hid (P6.out.below gg.out)
  have NX3 := Lib.hid (X3.out.below gg.out)
  have NX5 := Lib.hid (X5.out.below gg.out)
  clear P0 P6 X3 X5
  have P0 := NP0
  have P6 := NP6
  have X3 := NX3
  have X5 := NX5
  clear NP0 NP6 NX3 NX5
  have X7 := Lib.hid (RowO.new w7 (⟨#[]⟩, 0, 0))
  clear g gg
  go_wp2_with fail
  refine (ex_pre2 _ _ _ P6.out (HL.out.below BB.out).kl).mono ?_
  rintro e w8 ⟨rfl, g⟩
  have BN := Lib.hid ((BB.out.trans (g.mono BB.out.size)).alloc (Nat.le_trans BB.out.size g.size) (.cells #[.string ⟨#[43]⟩, .int .i64 4, .int .i64 200] 26))
  clear BB
  have BB := BN
  clear BN
  have gg := Lib.hid (g.alloc g.size (.cells #[.string ⟨#[43]⟩, .int .i64 4, .int .i64 200] 26))
  have NP0 := Lib.hid (P0.out.below gg.out)
  have NP6 := Lib.hid (P6.out.below gg.out)
  have NX3 := Lib.hid (X3.out.below gg.out)
  have NX5 := Lib.hid (X5.out.below gg.out)
  have NX7 := Lib.hid (X7.out.below gg.out)
  clear P0 P6 X3 X5 X7
  have P0 := NP0
  have P6 := NP6
  have X3 := NX3
  have X5 := NX5
  have X7 := NX7
  clear NP0 NP6 NX3 NX5 NX7
  have X8 := Lib.hid (RowO.new w8 (⟨#[43]⟩, 4, 200))
  clear g gg
  clear P6
  go_wp2_with fail
  refine (ex_s3 _ _ _ P0.out (HL.out.below BB.out).kl).mono ?_
  rintro e w9 ⟨A9, c9, rfl, p0, g⟩
  have BN := Lib.hid (BB.out.trans (g.mono BB.out.size))
  clear BB
  have BB := BN
  clear BN
  have NP0 := Lib.hid (P0.out.below g)
  have NX3 := Lib.hid (X3.out.below g)
  have NX5 := Lib.hid (X5.out.below g)
  have NX7 := Lib.hid (X7.out.below g)
  have NX8 := Lib.hid (X8.out.below g)
  clear P0 X3 X5 X7 X8
  have P0 := NP0
  have X3 := NX3
  have X5 := NX5
  have X7 := NX7
  have X8 := NX8
  clear NP0 NX3 NX5 NX7 NX8
  clear g p0
  go_wp2_with fail
  refine (ex_s4 _ _ _ P0.out (HL.out.below BB.out).kl).mono ?_
  rintro e w10 ⟨A10, c10, rfl, p0, g⟩
  have BN := Lib.hid (BB.out.trans (g.mono BB.out.size))
  clear BB
  have BB := BN
  clear BN
  have NP0 := Lib.hid (P0.out.below g)
  have NX3 := Lib.hid (X3.out.below g)
  have NX5 := Lib.hid (X5.out.below g)
  have NX7 := Lib.hid (X7.out.below g)
  have NX8 := Lib.hid (X8.out.below g)
  clear P0 X3 X5 X7 X8
  have P0 := NP0
  have X3 := NX3
  have X5 := NX5
  have X7 := NX7
  have X8 := NX8
  clear NP0 NX3 NX5 NX7 NX8
  clear g p0
  go_wp2_with fail
  refine (ex_s5 _ _ _ P0.out (HL.out.below BB.out).kl).mono ?_
  rintro e w11 ⟨A11, c11, rfl, p0, g⟩
  have BN := Lib.hid (BB.out.trans (g.mono BB.out.size))
  clear BB
  have BB := BN
  clear BN
  have NP0 := Lib.hid (P0.out.below g)
  have NX3 := Lib.hid (X3.out.below g)
  have NX5 := Lib.hid (X5.out.below g)
  have NX7 := Lib.hid (X7.out.below g)
  have NX8 := Lib.hid (X8.out.below g)
  clear P0 X3 X5 X7 X8
  have P0 := NP0
  have X3 := NX3
  have X5 := NX5
  have X7 := NX7
  have X8 := NX8
  clear NP0 NX3 NX5 NX7 NX8
  clear g p0
  go_wp2_with fail
  refine (ex_s6 _ _ _ P0.out (HL.out.below BB.out).kl).mono ?_
  rintro e w12 ⟨A12, c12, rfl, p0, g⟩
  have BN := Lib.hid (BB.out.trans (g.mono BB.out.size))
  clear BB
  have BB := BN
  clear BN
  have NP0 := Lib.hid (P0.out.below g)
  have NX3 := Lib.hid (X3.out.below g)
  have NX5 := Lib.hid (X5.out.below g)
  have NX7 := Lib.hid (X7.out.below g)
  have NX8 := Lib.hid (X8.out.below g)
  clear P0 X3 X5 X7 X8
  have P0 := NP0
  have X3 := NX3
  have X5 := NX5
  have X7 := NX7
  have X8 := NX8
  clear NP0 NX3 NX5 NX7 NX8
  clear g p0
  go_wp2_with fail
  refine (ex_tn _ (HL.out.below BB.out).kl).mono ?_
  rintro e wt ⟨rfl, rfl⟩
  go_wp2_with fail
  refine (ex_to _ (HL.out.below BB.out).kl).mono ?_
  rintro e wt ⟨rfl, rfl⟩
  go_wp2_with fail
  refine (ex_is _ _ _ P0.out (HL.out.below BB.out).kl).mono ?_
  rintro e wi ⟨rfl, g⟩
  have BN := Lib.hid (BB.out.trans (g.b.mono BB.out.size))
  clear BB
  have BB := BN
  clear BN
  have NP0 := Lib.hid (P0.out.below g.b)
  have NX3 := Lib.hid (X3.out.below g.b)
  have NX5 := Lib.hid (X5.out.below g.b)
  have NX7 := Lib.hid (X7.out.below g.b)
  have NX8 := Lib.hid (X8.out.below g.b)
  clear P0 X3 X5 X7 X8
  have P0 := NP0
  have X3 := NX3
  have X5 := NX5
  have X7 := NX7
  have X8 := NX8
  clear NP0 NX3 NX5 NX7 NX8
  clear g P0
  obtain ⟨x0, y0, z0⟩ := X3.out.cells
  simp only at x0 y0 z0
  obtain ⟨x1, y1, z1⟩ := X5.out.cells
  simp only at x1 y1 z1
  obtain ⟨x2, y2, z2⟩ := X7.out.cells
  simp only at x2 y2 z2
  obtain ⟨x3, y3, z3⟩ := X8.out.cells
  simp only at x3 y3 z3
  have u0 := eql_op ⟨#[105, 110]⟩ 1 700 ⟨#[105, 110]⟩ 1 700
  rw [show sameO ⟨#[105, 110]⟩ 1 700 ⟨#[105, 110]⟩ 1 700 = true by rw [sameO_iff]; exact decide_eq_true rfl] at u0
  have u1 := eql_op ⟨#[43]⟩ 4 200 ⟨#[43]⟩ 4 200
  rw [show sameO ⟨#[43]⟩ 4 200 ⟨#[43]⟩ 4 200 = true by rw [sameO_iff]; exact decide_eq_true rfl] at u1
  have ug := guard_op
  have us := ex_str
  go_wp2_with fail
  go_ret
  exact ⟨rfl, BB.out⟩
end Go.Proofs.YtkjkhhifkedflaaDoor
