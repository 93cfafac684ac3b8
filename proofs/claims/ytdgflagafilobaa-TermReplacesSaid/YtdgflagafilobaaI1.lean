/- The program's identical, with slices.EqualFunc; Same. -/
import Derived.Test.YtdgflagafilobaaS11
import Derived.Test.YtdgflagafilobaaRC
namespace Go.Proofs.Ytdgflagafilobaa
open Go.RowKit Go.Proofs.HT

/-- Are two lists of the same length and identical, one by one? -/
def eqL (ts us : List Tm) : Bool := decide (ts.length = us.length) && sameL ts us
theorem eqL_not {ts us : List Tm} (h : ¬ ts.length = us.length) : eqL ts us = false := by simp [eqL, h]

set_option maxHeartbeats 2000000 in
theorem eqf_any (ts us : List Tm) (v x : Value) (k n k' n' : Int) (s s' : ByteArray) (w : World) (hv : LiesT w (.mk k n s ts) v) (hx : LiesT w (.mk k' n' s' us) x)
    (HI : Hid (∀ (i : Nat) (hi : i < ts.length) (u : Tm) (v x : Value) (w : World), LiesT w ts[i] v → LiesT w u x → Calls Try.prog 37 #[tv ts[i] v, tv u x] w fun e w' => e = .returned (.bool (sameB ts[i] u)) ∧ Below w.heap.size w w')) :
    Calls Try.prog 68 #[v, x, .func (.func 37) #[] #[]] w fun e w' => e = .returned (.bool (eqL ts us)) ∧ Below w.heap.size w w' := by
  by_cases hlen : ts.length = us.length
  · rcases hv.len with ⟨rfl, a, c, rfl⟩ | ⟨b, o, c, rfl, hpos, hlc, hcap, hl⟩
    · obtain ⟨a', c', rfl⟩ := hx.slice
      simp only [Tm.args] at hlen ⊢
      rw [← hlen]
      have H : Hid (true = eqL [] us) := by show _ = _; simp [eqL, sameL]; simpa using hlen
      clear hv hx HI
      go_enter Try.func68, Try.ntmps68
      go_wp2_with fail
      refine wp_loop_rounds 1 ?_
      rw [rounds_succ]
      go_wp2_with fail
      go_ret
      exact ⟨ret_bool H.out, Below.refl _ _⟩
    · rcases hx.len with ⟨rfl, _⟩ | ⟨b', o', c', rfl, _, hlc', hcap', hl'⟩
      · exact absurd hlen (fun h => by rw [h] at hpos; simp at hpos)
      · have HL := Lib.hid hl
        have HL' := Lib.hid hl'
        have HLEN := Lib.hid hlen
        have H0 : Hid (sameL (ts.drop 0) (us.drop 0) = eqL ts us) := by show _ = _; simp [eqL, hlen]
        rw [← hlen] at hlc' ⊢
        clear hv hx hl hl' hlen
        go_enter Try.func68, Try.ntmps68
        go_wp2_with fail
        go_loopw [17] (fun i wr => ∃ j : Nat, j ≤ ts.length ∧ i = .int .i64 j ∧ Hid (sameL (ts.drop j) (us.drop j) = eqL ts us) ∧ Hid (Below w.heap.size w wr)) (fun i _ => ts.length - (intOf i).toNat)
        case atStart => exact ⟨0, by omega, rfl, H0, Below.refl _ _⟩
        case round =>
          obtain ⟨j, hj, rfl, hr, hb⟩ := hrel
          by_cases hlt : j < ts.length
          · have hlt' : j < us.length := by rw [← HLEN.out]; exact hlt
            obtain ⟨y, c0, c1, c2, c3, hy⟩ := HL.out.at j hlt
            obtain ⟨z, e0, e1, e2, e3, hz⟩ := HL'.out.at j hlt'
            obtain ⟨ya, yc, rfl⟩ := hy.slice
            obtain ⟨za, zc, rfl⟩ := hz.slice
            have d0 := cell_below hb.out _ _ c0
            have d1 := cell_below hb.out _ _ c1
            have d2 := cell_below hb.out _ _ c2
            have d3 := cell_below hb.out _ _ c3
            have f0 := cell_below hb.out _ _ e0
            have f1 := cell_below hb.out _ _ e1
            have f2 := cell_below hb.out _ _ e2
            have f3 := cell_below hb.out _ _ e3
            have bl := World.block_lt_of_cell? wr _ d0
            have bl' := World.block_lt_of_cell? wr _ f0
            have B2 : Hid (∀ o1 o2, Below w.heap.size w ((wr.alloc o1).alloc o2)) := fun o1 o2 => (hb.out.alloc hb.out.size _).alloc (by have := hb.out.size; simp; omega) _
            have HY := Lib.hid (fun w' (h : Below w.heap.size w w') => hy.below h)
            have HZ := Lib.hid (fun w' (h : Below w.heap.size w w') => hz.below h)
            have ei : (j : Int) < (us.length : Int) := by omega
            clear hy hz c0 c1 c2 c3 e0 e1 e2 e3
            have hs := sameL_drop ts us j hlt hlt'
            by_cases hq : sameB ts[j] us[j] = true
            · have H : Hid (sameL (ts.drop (j + 1)) (us.drop (j + 1)) = eqL ts us) := by show _ = _; rw [← hr.out, hs, hq]; rfl
              clear hs
              go_wp2_with (go_at_call 37; refine (HI.out j hlt us[j] _ _ _ (HY.out _ (B2.out _ _)) (HZ.out _ (B2.out _ _))).mono ?_; rintro e w3 ⟨rfl, hb3⟩; have KB := Lib.hid ((B2.out _ _).trans (hb3.mono (B2.out _ _).size)); clear hb3)
              go_roundw
              case rel => exact ⟨j + 1, by omega, by go_num, H, KB⟩
              case measure => simp [intOf]; omega
            · have hq : sameB ts[j] us[j] = false := by simpa using hq
              have H : Hid (false = eqL ts us) := by show _ = _; rw [← hr.out, hs, hq]; rfl
              clear hs
              go_wp2_with (go_at_call 37; refine (HI.out j hlt us[j] _ _ _ (HY.out _ (B2.out _ _)) (HZ.out _ (B2.out _ _))).mono ?_; rintro e w3 ⟨rfl, hb3⟩; have KB := Lib.hid ((B2.out _ _).trans (hb3.mono (B2.out _ _).size)); clear hb3)
              go_ret
              exact ⟨ret_bool H.out, KB.out⟩
          · have e : j = ts.length := by omega
            have H : Hid (true = eqL ts us) := by show _ = _; rw [← hr.out, e, List.drop_length]; rfl
            go_wp2_with fail
            go_ret
            exact ⟨ret_bool H.out, hb.out⟩
  · obtain ⟨a, c, rfl⟩ := hv.slice
    obtain ⟨a', c', rfl⟩ := hx.slice
    have H : Hid (false = eqL ts us) := (eqL_not hlen).symm
    have hne : ((ts.length : Int) != (us.length : Int)) = true := by simp; omega
    simp only [Tm.args]
    clear hv hx HI
    go_enter Try.func68, Try.ntmps68
    go_wp2_with fail
    go_ret
    exact ⟨ret_bool H.out, Below.refl _ _⟩

end Go.Proofs.Ytdgflagafilobaa
