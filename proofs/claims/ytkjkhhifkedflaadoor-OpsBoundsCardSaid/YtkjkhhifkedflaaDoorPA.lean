/- The contract of the law's awake: the chapter's examples hold. -/
import Derived.Test.YtkjkhhifkedflaaDoorOZ
set_option linter.unusedVariables false
set_option linter.unusedSimpArgs false
namespace Go.Proofs.YtkjkhhifkedflaaDoor
open Go.RowKit Go.Proofs.HP Go.BigFrame

theorem d0_in : lkO D0 ⟨#[45]⟩ 2 = (⟨#[45]⟩, 3, 500) ∧ lkB D0 ⟨#[45]⟩ 2 = true := by decide +kernel
theorem d0_pre : lkO D0 ⟨#[45]⟩ 1 = (⟨#[45]⟩, 4, 200) ∧ lkB D0 ⟨#[45]⟩ 1 = true := by decide +kernel
theorem d0_sd : sdL (⟨#[44]⟩, 2, 1000) = 999 ∧ sdR (⟨#[44]⟩, 2, 1000) = 1000 := by decide +kernel
theorem d0_set : setE D0 700 1 ⟨#[105, 110]⟩ = 0 ∧ (setR D0 700 1 ⟨#[105, 110]⟩).length = 42 := by decide +kernel
theorem aw_in (A : Option Addr) (cap : Nat) (w : World) (hP : PRO w A D0) (hL : KLaid w) :
    Calls Tryd.prog 16 #[.slice A 41 cap, .string ⟨#[45]⟩] w fun e w' => e = .returned (.tuple #[.agg #[.string ⟨#[45]⟩, .int .i64 3, .int .i64 500], .bool true]) ∧ Below w.heap.size w w' := by
  have h := infix_any A 41 cap D0 ⟨#[45]⟩ w D0_len (by omega) hP hL
  rw [d0_in.1, d0_in.2] at h
  exact h
theorem aw_pre (A : Option Addr) (cap : Nat) (w : World) (hP : PRO w A D0) (hL : KLaid w) :
    Calls Tryd.prog 17 #[.slice A 41 cap, .string ⟨#[45]⟩] w fun e w' => e = .returned (.tuple #[.agg #[.string ⟨#[45]⟩, .int .i64 4, .int .i64 200], .bool true]) ∧ Below w.heap.size w w' := by
  have h := prefix_any A 41 cap D0 ⟨#[45]⟩ w D0_len (by omega) hP hL
  rw [d0_pre.1, d0_pre.2] at h
  exact h
theorem aw_sd (w : World) (hL : KLaid w) : Calls Tryd.prog 14 #[.agg #[.string ⟨#[44]⟩, .int .i64 2, .int .i64 1000]] w fun e w' => e = .returned (.tuple #[.int .i64 999, .int .i64 1000]) ∧ Below w.heap.size w w' := by
  have h := sides_any (⟨#[44]⟩, 2, 1000) w hL
  unfold SdEnd at h
  rw [d0_sd.1, d0_sd.2] at h
  exact h.mono fun _ _ h => ⟨h.1, h.2.b⟩
theorem aw_set (A : Option Addr) (cap : Nat) (w : World) (hP : PRO w A D0) (hL : KLaid w) :
    Calls Tryd.prog 15 #[.slice A 41 cap, .int .i64 700, .int .i64 1, .string ⟨#[105, 110]⟩] w fun e w' => ∃ A2 cap2, e = .returned (.tuple #[.slice A2 42 cap2, .int .i64 0]) ∧ Below w.heap.size w w' := by
  have h := set_any A 41 cap D0 700 1 ⟨#[105, 110]⟩ w D0_len (by omega) hP hL
  unfold SetEnd at h
  rw [d0_set.1, d0_set.2] at h
  exact h.mono fun _ _ ⟨A2, c2, h1, _, h3⟩ => ⟨A2, c2, h1, h3⟩
def AwEnd (w : World) (e : Ending) (w' : World) : Prop := e = .returned (.bool true) ∧ Below w.heap.size w w'
set_option maxHeartbeats 4000000 in
theorem awake_any (w : World) (hL : Laid w) : Calls Tryd.prog 11 #[] w (AwEnd w) := by
  have mixed : Tryd.prog.follows .mixedOrders = true := by kernel_rfl
  have H0 := Lib.hid (default_any w hL)
  have HL := Lib.hid hL
  clear hL
  go_enter Tryd.func11, Tryd.ntmps11
  go_wp2_with fail
  refine (H0.out).mono ?_
  rintro e w1 ⟨g, cap, rfl, p1, b1⟩
  have B1 := Lib.hid b1
  have P1 := Lib.hid p1
  clear p1 b1 H0
  go_wp2_with fail
  refine (aw_in _ cap _ P1.out (HL.out.below B1.out).kl).mono ?_
  rintro e w2 ⟨rfl, g2⟩
  have B2 := Lib.hid ((B1.out.trans (g2.mono B1.out.size)).alloc (Nat.le_trans B1.out.size g2.size) (.cells #[.string ⟨#[45]⟩, .int .i64 3, .int .i64 500] 26))
  have P2 := Lib.hid (P1.out.below (g2.alloc g2.size (.cells #[.string ⟨#[45]⟩, .int .i64 3, .int .i64 500] 26)))
  have R2 := Lib.hid (RowO.new w2 (⟨#[45]⟩, 3, 500))
  clear g2 B1 P1
  go_wp2_with fail
  refine (aw_pre _ cap _ P2.out (HL.out.below B2.out).kl).mono ?_
  rintro e w3 ⟨rfl, g3⟩
  have B3 := Lib.hid ((B2.out.trans (g3.mono B2.out.size)).alloc (Nat.le_trans B2.out.size g3.size) (.cells #[.string ⟨#[45]⟩, .int .i64 4, .int .i64 200] 26))
  have P3 := Lib.hid (P2.out.below (g3.alloc g3.size (.cells #[.string ⟨#[45]⟩, .int .i64 4, .int .i64 200] 26)))
  have R23 := Lib.hid (R2.out.below (g3.alloc g3.size (.cells #[.string ⟨#[45]⟩, .int .i64 4, .int .i64 200] 26)))
  have R3 := Lib.hid (RowO.new w3 (⟨#[45]⟩, 4, 200))
  clear g3 B2 P2 R2
  go_wp2_with fail
  refine (aw_sd _ (HL.out.below B3.out).kl).mono ?_
  rintro e w4 ⟨rfl, g4⟩
  have B4 := Lib.hid (B3.out.trans (g4.mono B3.out.size))
  have P4 := Lib.hid (P3.out.below g4)
  have R24 := Lib.hid (R23.out.below g4)
  have R34 := Lib.hid (R3.out.below g4)
  clear g4 B3 P3 R23 R3
  go_wp2_with fail
  refine (aw_set _ cap _ P4.out (HL.out.below B4.out).kl).mono ?_
  rintro e w5 ⟨A2, cap2, rfl, g5⟩
  have B5 := Lib.hid (B4.out.trans (g5.mono B4.out.size))
  obtain ⟨x0, x1, x2⟩ := (R24.out.below g5).cells
  obtain ⟨y0, y1, y2⟩ := (R34.out.below g5).cells
  clear g5 B4 P4 R24 R34
  go_wp2_with fail
  go_ret
  exact ⟨rfl, B5.out⟩
end Go.Proofs.YtkjkhhifkedflaaDoor
