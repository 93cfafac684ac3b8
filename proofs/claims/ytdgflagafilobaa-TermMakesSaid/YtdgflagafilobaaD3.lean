/- The law TermAlike. -/
import Derived.Test.YtdgflagafilobaaR12
namespace Go.Proofs.Ytdgflagafilobaa
open Go.RowKit Go.Proofs.HT

set_option maxHeartbeats 4000000 in
theorem alike_walk (HA : Awake) (t u : Tm) (v x : Value) (w : World) (h : LiesT w t v) (hx : LiesT w u x) : Calls Try.prog 3 #[tv t v, tv u x] w fun e w' => e = .returned (.bool true) ∧ Below w.heap.size w w' := by
  have HA := Lib.hid HA
  have E0 := Lib.hid ((((Env.start w).pushT h).pushT hx).box (g := w.heap.size) rfl (.int .i64 t.kind) (.int .i64 t.num) (.string t.name) v 24)
  have E1 := Lib.hid (E0.out.box (g := w.heap.size + 1) (by simp) (.int .i64 u.kind) (.int .i64 u.num) (.string u.name) x 24)
  obtain ⟨s, hs⟩ : ∃ s, sameV t u = s := ⟨_, rfl⟩
  obtain ⟨b, hb⟩ : ∃ b, variantV t u = b := ⟨_, rfl⟩
  have HS := Lib.hid hs
  have HV := Lib.hid hb
  have HSR : Hid (∀ w, LiesT w t v → LiesT w u x → Calls Try.prog 10 #[tv t v, tv u x] w fun e w' => e = .returned (.bool s) ∧ Below w.heap.size w w') := by show ∀ w, _; rw [← hs]; exact same_any t u v x
  have HVR : Hid (∀ w, LiesT w t v → LiesT w u x → Calls Try.prog 12 #[tv t v, tv u x] w fun e w' => e = .returned (.bool b) ∧ Below w.heap.size w w') := by show ∀ w, _; rw [← hb]; exact variant_any t u v x
  clear h hx hs hb E0
  simp only [tv]
  cases s <;> cases b
  all_goals
    go_enter Try.func3, Try.ntmps3
    go_wp2_with fail
    generalize ((w.alloc (.cells #[.int .i64 t.kind, .int .i64 t.num, .string t.name, v] 24)).alloc (.cells #[.int .i64 u.kind, .int .i64 u.num, .string u.name, x] 24)) = W0 at *
    have q0 := E1.out.c.hd
    have q1 := E1.out.c.tl.hd
    have q2 := E1.out.c.tl.tl.hd
    have q3 := E1.out.c.tl.tl.tl.hd
    have p0 := E1.out.c.tl.tl.tl.tl.hd
    have p1 := E1.out.c.tl.tl.tl.tl.tl.hd
    have p2 := E1.out.c.tl.tl.tl.tl.tl.tl.hd
    have p3 := E1.out.c.tl.tl.tl.tl.tl.tl.tl.hd
    have HU := Lib.hid E1.out.t.hd
    have HT := Lib.hid E1.out.t.tl.hd
    have BW := Lib.hid E1.out.b
    clear E1
    have h1 : Below W0.heap.size W0 W0.drew := (Below.refl _ _).drew
    go_region_held3 (fun w' => Below W0.heap.size W0 w' ∧ w'.cell? ⟨w.heap.size, 0, none⟩ = some (.int .i64 t.kind) ∧ w'.cell? ⟨w.heap.size, 1, none⟩ = some (.int .i64 t.num) ∧ w'.cell? ⟨w.heap.size, 2, none⟩ = some (.string t.name) ∧ w'.cell? ⟨w.heap.size, 3, none⟩ = some (v) ∧ w'.cell? ⟨w.heap.size + 1, 0, none⟩ = some (.int .i64 u.kind) ∧ w'.cell? ⟨w.heap.size + 1, 1, none⟩ = some (.int .i64 u.num) ∧ w'.cell? ⟨w.heap.size + 1, 2, none⟩ = some (.string u.name) ∧ w'.cell? ⟨w.heap.size + 1, 3, none⟩ = some (x))
      (first | exact ⟨(by assumption), cell_below (by assumption : Below W0.heap.size W0 _) _ _ p0, cell_below (by assumption : Below W0.heap.size W0 _) _ _ p1, cell_below (by assumption : Below W0.heap.size W0 _) _ _ p2, cell_below (by assumption : Below W0.heap.size W0 _) _ _ p3, cell_below (by assumption : Below W0.heap.size W0 _) _ _ q0, cell_below (by assumption : Below W0.heap.size W0 _) _ _ q1, cell_below (by assumption : Below W0.heap.size W0 _) _ _ q2, cell_below (by assumption : Below W0.heap.size W0 _) _ _ q3⟩ | go_keep)
      (first
        | (go_at_call 9; refine (Same_is t u _ HS.out _ _ _ (HT.out.below (by assumption : Below W0.heap.size W0 _)) (HU.out.below (by assumption : Below W0.heap.size W0 _))).mono ?_; rintro e w1 ⟨rfl, hb⟩; have h5 : Below W0.heap.size W0 w1 := Below.trans (by assumption : Below W0.heap.size W0 _) (hb.mono (Below.size (by assumption : Below W0.heap.size W0 _))); clear hb)
        | (go_at_call 10; refine (HSR.out _ (HT.out.below (by assumption : Below W0.heap.size W0 _)) (HU.out.below (by assumption : Below W0.heap.size W0 _))).mono ?_; rintro e w2 ⟨rfl, hb⟩; have h5 : Below W0.heap.size W0 w2 := Below.trans (by assumption : Below W0.heap.size W0 _) (hb.mono (Below.size (by assumption : Below W0.heap.size W0 _))); clear hb)
        | (go_at_call 11; refine (Variant_is t u _ HV.out _ _ _ (HT.out.below (by assumption : Below W0.heap.size W0 _)) (HU.out.below (by assumption : Below W0.heap.size W0 _))).mono ?_; rintro e w3 ⟨rfl, hb⟩; have h5 : Below W0.heap.size W0 w3 := Below.trans (by assumption : Below W0.heap.size W0 _) (hb.mono (Below.size (by assumption : Below W0.heap.size W0 _))); clear hb)
        | (go_at_call 12; refine (HVR.out _ (HT.out.below (by assumption : Below W0.heap.size W0 _)) (HU.out.below (by assumption : Below W0.heap.size W0 _))).mono ?_; rintro e w4 ⟨rfl, hb⟩; have h5 : Below W0.heap.size W0 w4 := Below.trans (by assumption : Below W0.heap.size W0 _) (hb.mono (Below.size (by assumption : Below W0.heap.size W0 _))); clear hb)
        | (go_at_call 13; refine (HA.out _).mono ?_; rintro e w5 ⟨rfl, hb⟩; have h5 : Below W0.heap.size W0 w5 := Below.trans (by assumption : Below W0.heap.size W0 _) (hb.mono (Below.size (by assumption : Below W0.heap.size W0 _))); clear hb))
    go_wp2_with fail
    go_ret
    exact ⟨rfl, BW.out.trans (Below.mono h5 BW.out.size)⟩

end Go.Proofs.Ytdgflagafilobaa
