/- The law TermRenames. -/
import Derived.Test.YtdgflagafilobaaR10
import Derived.Test.YtdgflagafilobaaRC
namespace Go.Proofs.Ytdgflagafilobaa
open Go.RowKit Go.Proofs.HT

theorem rename_any (t : Tm) (v : Value) (f : Int) (w : World) (h : LiesT w t v) : Calls Try.prog 15 #[tv t v, .int .i64 f] w (MadeE (renR t f).1 (renR t f).2 w) := by
  rcases Bool.eq_false_or_eq_true (validB t) with hv | hv
  · rcases Bool.eq_false_or_eq_true (numB f) with hf | hf
    · rcases Bool.eq_false_or_eq_true (decide (0 ≤ badF f (varsF [] t) 0)) with hb | hb
      · have e : renR t f = (z0, 2) := by unfold renR; rw [if_pos ⟨hv, hf⟩, if_pos hb]
        rw [e]; exact rename_over t v f w h hv hf hb
      · have e : renR t f = (mapT (sh f) t, 0) := by unfold renR; rw [if_pos ⟨hv, hf⟩, if_neg (by rw [hb]; simp)]
        rw [e]; exact rename_fine t v f w h hv hf hb
    · have e : renR t f = (z0, 1) := by unfold renR; rw [if_neg (by rw [hf]; simp)]
      rw [e]
      by_cases h0 : f < 0
      · exact rename_low t v f w h hv h0
      · exact rename_high t v f w h hv (by have := numB_not.1 hf; omega)
  · have e : renR t f = (z0, 1) := by unfold renR; rw [if_neg (by rw [hv]; simp)]
    rw [e]; exact rename_bad t v f w h hv
theorem z0_valid : validB z0 = true := by rfl
theorem renR_valid (t : Tm) (f : Int) : validB (renR t f).1 = true := by
  unfold renR
  by_cases h : validB t = true ∧ numB f = true
  · rw [if_pos h]
    by_cases hb : decide (0 ≤ badF f (varsF [] t) 0) = true
    · rw [if_pos hb]; exact z0_valid
    · rw [if_neg hb]
      refine shift_valid t f h.1 fun x hx => ?_
      have h1 := badF_iff f (varsF [] t) 0
      simp only [decide_eq_true_eq] at hb
      rcases Bool.eq_false_or_eq_true (numB (x + f)) with h | h
      · exact h
      · exact absurd (h1.2 (fun h2 => by rw [h2 x hx] at h; cases h)) hb
  · rw [if_neg h]; exact z0_valid
set_option maxHeartbeats 1000000 in
/-- The law's own comparison. -/
theorem lsame_is (t u : Tm) (b : Bool) (hs : sameV t u = b) (v x : Value) (w : World) (h : LiesT w t v) (hx : LiesT w u x) : Calls Try.prog 16 #[tv t v, tv u x] w fun e w' => e = .returned (.bool b) ∧ Below w.heap.size w w' := by
  have E0 := Lib.hid ((((Env.start w).pushT h).pushT hx).box rfl (.int .i64 t.kind) (.int .i64 t.num) (.string t.name) v 24)
  have E1 := Lib.hid (E0.out.box rfl (.int .i64 u.kind) (.int .i64 u.num) (.string u.name) x 24)
  have HS := Lib.hid hs
  clear h hx hs
  simp only [tv]
  go_enter Try.func16, Try.ntmps16
  go_wp2_with fail
  have hh := same_any t u v x _ E1.out.t.tl.hd E1.out.t.hd
  rw [HS.out] at hh
  refine hh.mono ?_
  rintro e w1 ⟨rfl, hb1⟩
  have B1 := Lib.hid (E1.out.step hb1).b
  clear hb1
  go_wp2_with fail
  go_ret
  exact ⟨rfl, B1.out⟩

set_option maxHeartbeats 2000000 in
theorem renames_walk (HA : Awake) (t : Tm) (v : Value) (f : Int) (w : World) (h : LiesT w t v) : Calls Try.prog 4 #[tv t v, .int .i64 f] w fun e w' => e = .returned (.bool true) ∧ Below w.heap.size w w' := by
  have HA := Lib.hid HA
  have E0 := Lib.hid (((Env.start w).pushT h).box rfl (.int .i64 t.kind) (.int .i64 t.num) (.string t.name) v 24)
  obtain ⟨R, c, hR⟩ : ∃ R c, renR t f = (R, c) := ⟨_, _, rfl⟩
  have HV : Hid (validB R = true) := by have h1 := renR_valid t f; rw [hR] at h1; exact h1
  have P1 : Hid (∀ w, LiesT w t v → Calls Try.prog 14 #[tv t v, .int .i64 f] w (MadeE R c w)) := by have h1 := Rename_any t v f; rw [hR] at h1; exact h1
  have P2 : Hid (∀ w, LiesT w t v → Calls Try.prog 15 #[tv t v, .int .i64 f] w (MadeE R c w)) := by have h1 := rename_any t v f; rw [hR] at h1; exact h1
  clear h hR
  simp only [tv]
  go_enter Try.func4, Try.ntmps4
  go_wp2_with fail
  refine (P1.out _ E0.out.t.hd).mono ?_
  rintro e w1 ⟨y, rfl, hy, hb1⟩
  have hly := OwnT.lies _ _ hy
  obtain ⟨ya, yc, rfl⟩ := hly.slice
  have E1 := Lib.hid ((E0.out.step hb1).pushT hly)
  have E2 := Lib.hid (E1.out.box (g := w1.heap.size) rfl (.int .i64 R.kind) (.int .i64 R.num) (.string R.name) (.slice ya R.args.length yc) 24)
  have t0 := E1.out.c.hd
  have t1 := E1.out.c.tl.hd
  have t2 := E1.out.c.tl.tl.hd
  have t3 := E1.out.c.tl.tl.tl.hd
  have zb := World.block_lt_of_cell? _ _ t0
  clear hb1 hy hly E0 E1
  go_wp2_with fail
  refine (P2.out _ E2.out.t.tl.hd).mono ?_
  rintro e w2 ⟨x, rfl, hx, hb2⟩
  have hlx := OwnT.lies _ _ hx
  obtain ⟨xa, xc, rfl⟩ := hlx.slice
  have E3 := Lib.hid ((E2.out.step hb2).pushT hlx)
  have E4 := Lib.hid (E3.out.box (g := w2.heap.size) rfl (.int .i64 R.kind) (.int .i64 R.num) (.string R.name) (.slice xa R.args.length xc) 24)
  clear hb2 hx hlx E2 t0 t1 t2 t3 zb
  have q0 := E3.out.c.hd
  have q1 := E3.out.c.tl.hd
  have q2 := E3.out.c.tl.tl.hd
  have q3 := E3.out.c.tl.tl.tl.hd
  have zb := World.block_lt_of_cell? _ _ q0
  have HS := Lib.hid (same_self R HV.out)
  go_wp2_with fail
  refine (lsame_is R R true HS.out _ _ _ E4.out.t.tl.hd E4.out.t.hd).mono ?_
  rintro e w3 ⟨rfl, hb3⟩
  have BB := Lib.hid (E4.out.step hb3).b
  clear hb3 E4 E3 q0 q1 q2 q3 zb
  go_wp2_with fail
  refine (HA.out _).mono ?_
  rintro e wa ⟨rfl, hba⟩
  go_wp2_with fail
  go_ret
  exact ⟨rfl, BB.out.trans (hba.mono BB.out.size)⟩

end Go.Proofs.Ytdgflagafilobaa
