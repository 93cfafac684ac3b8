/- The contract of the specification's Occurrences. -/
import Derived.Test.YtdgflagafilobaaRC
import Derived.Test.YtdgflagafilobaaS11
namespace Go.Proofs.Ytdgflagafilobaa
open Go.RowKit Go.Proofs.HT

theorem occN_append (x : Int) (l m : List Tm) : occN x (l ++ m) = occN x l + occN x m := by simp [occN]
theorem occT_mk (x k n : Int) (s : ByteArray) (ts : List Tm) : occT x (.mk k n s ts) = (if k = 0 ∧ n = x then 1 else 0) + occN x (preL ts) := by
  unfold occT
  rw [pre, show (Tm.mk k n s ts :: preL ts) = [Tm.mk k n s ts] ++ preL ts from rfl, occN_append]
  congr 1
  by_cases h : k = 0 ∧ n = x <;> simp [occN, isV, Tm.kind, Tm.num, h]
theorem occL_step (x : Int) (ts : List Tm) (j : Nat) (hj : j < ts.length) : occN x (preL (ts.take (j + 1))) = occN x (preL (ts.take j)) + occT x ts[j] := by
  rw [preL_take_succ ts j hj, occN_append]; rfl
theorem occT_le (x : Int) (t : Tm) : occT x t ≤ cnt t := by have := occN_le x (pre t); rw [pre_len] at this; exact this
theorem occL_le (x : Int) (ts : List Tm) (j : Nat) : occN x (preL (ts.take j)) ≤ cntL ts := by
  have := occN_le x (preL (ts.take j)); rw [preL_length] at this; have := cntL_take_le ts j; omega

set_option maxHeartbeats 2000000 in
theorem occ_any (x : Int) (t : Tm) : ∀ (v : Value) (w : World), LiesT w t v → cnt t ≤ 1000000 →
    Calls Try.prog 53 #[tv t v, .int .i64 x] w fun e w' => e = .returned (.int .i64 (occT x t)) ∧ Below w.heap.size w w' := by
  induction t using Tm.ind with
  | h k n s ts ih =>
    intro v w hv hcnt
    have hct : 1 + cntL ts ≤ 1000000 := by simpa [cnt] using hcnt
    rcases hv.len with ⟨rfl, a, cap, rfl⟩ | ⟨b, o, cap, rfl, hpos, hlc, hcap, hl⟩
    · by_cases hk : k = 0
      · by_cases hn : n = x
        · subst hk; subst hn
          have H : Hid ((1 : Int) = occT n (.mk 0 n s [])) := by show _ = _; rw [occT_mk]; simp [preL, occN]
          simp only [tv, Tm.kind, Tm.num, Tm.name]
          clear hv ih hct hcnt
          go_enter Try.func53, Try.ntmps53
          go_wp2_with fail
          refine wp_loop_rounds 1 ?_
          rw [rounds_succ]
          go_wp2_with fail
          go_ret
          exact ⟨ret_int H.out, (Below.refl _ _).alloc (Nat.le_refl _) _⟩
        · have hnb : (n == x) = false := by simpa using hn
          subst hk
          have H : Hid ((0 : Int) = occT x (.mk 0 n s [])) := by show _ = _; rw [occT_mk]; simp [preL, occN, hn]
          simp only [tv, Tm.kind, Tm.num, Tm.name]
          clear hv ih hct hcnt
          clear hn
          go_enter Try.func53, Try.ntmps53
          go_wp2_with fail
          refine wp_loop_rounds 1 ?_
          rw [rounds_succ]
          go_wp2_with fail
          go_ret
          exact ⟨ret_int H.out, (Below.refl _ _).alloc (Nat.le_refl _) _⟩
      · have hkb : (k == 0) = false := by simpa using hk
        have H : Hid ((0 : Int) = occT x (.mk k n s [])) := by show _ = _; rw [occT_mk]; simp [preL, occN, hk]
        simp only [tv, Tm.kind, Tm.num, Tm.name]
        clear hv ih hct hcnt
        clear hk
        go_enter Try.func53, Try.ntmps53
        go_wp2_with fail
        refine wp_loop_rounds 1 ?_
        rw [rounds_succ]
        go_wp2_with fail
        go_ret
        exact ⟨ret_int H.out, (Below.refl _ _).alloc (Nat.le_refl _) _⟩
    · by_cases hk : k = 0
      · by_cases hn : n = x
        · subst hk; subst hn
          have HQ : Hid (∀ j : Nat, j = ts.length → ((1 : Int) + occN n (preL (ts.take j)) = occT n (.mk 0 n s ts))) := by
            intro j hj; rw [hj, List.take_of_length_le (Nat.le_refl _), occT_mk]; simp
          have HI : Hid (∀ i (hi : i < ts.length) (v : Value) (w : World), LiesT w ts[i] v → Calls Try.prog 53 #[tv ts[i] v, .int .i64 n] w fun e w' => e = .returned (.int .i64 (occT n ts[i])) ∧ Below w.heap.size w w') := fun i hi v w h => ih _ (List.getElem_mem hi) v w h ((cnt_bounds hcnt).2 i hi)
          have HL := Lib.hid hl
          have hcl := Lib.hid hct
          have hln := (cnt_bounds hcnt).1
          simp only [tv, Tm.kind, Tm.num, Tm.name]
          clear hv ih hl hct hcnt
          go_enter Try.func53, Try.ntmps53
          go_wp2_with fail
          go_loopw [5, 6] (fun z i wr => ∃ (j : Nat) (q : Int), j ≤ ts.length ∧ i = .int .i64 j ∧ z = .int .i64 q ∧ Hid (q = (1 : Int) + occN n (preL (ts.take j))) ∧ 0 ≤ q ∧ q ≤ 1000000 ∧ Below w.heap.size w wr ∧ wr.cell? ⟨w.heap.size, 3, none⟩ = some (.slice (some ⟨b, o, none⟩) ts.length cap)) (fun _ i _ => ts.length - (intOf i).toNat)
          case atStart => exact ⟨0, 1, by omega, rfl, rfl, by show _ = _; simp [preL, occN], by omega, by omega, (Below.refl _ _).alloc (Nat.le_refl _) _, by go_simp⟩
          case round =>
            obtain ⟨j, q, hj, rfl, rfl, hq, q0, q1, hb, hc⟩ := hrel
            by_cases hlt : j < ts.length
            · obtain ⟨u, c0, c1, c2, c3, hu⟩ := HL.out.at j hlt
              have d0 := cell_below hb _ _ c0
              have d1 := cell_below hb _ _ c1
              have d2 := cell_below hb _ _ c2
              have d3 := cell_below hb _ _ c3
              have HU := Lib.hid (hu.below hb)
              clear hu c0 c1 c2 c3
              have HB := Lib.hid hb
              have st := occL_step n ts j hlt
              have bd := occL_le n ts (j + 1)
              have hcl2 := hcl.out
              have hqo := hq.out
              have BD : Hid (0 ≤ q + (occT n ts[j] : Int) ∧ q + (occT n ts[j] : Int) ≤ 1000000 ∧ q + (occT n ts[j] : Int) = (1 : Int) + occN n (preL (ts.take (j + 1)))) := by show _ ∧ _ ∧ _; omega
              have s1 : -9223372036854775808 ≤ q + (occT n ts[j] : Int) := by omega
              have s2 : q + (occT n ts[j] : Int) ≤ 9223372036854775807 := by have := BD.out; omega
              clear st bd hcl2 hqo hb
              go_wp2_with (go_at_call 53; refine (HI.out j hlt u _ HU.out).mono ?_; rintro e w1 ⟨rfl, hb1⟩)
              go_roundw
              case rel => exact ⟨j + 1, _, by omega, by go_num, rfl, BD.out.2.2, BD.out.1, BD.out.2.1, HB.out.trans (hb1.mono HB.out.size), cell_below hb1 _ _ hc⟩
              case measure => simp [intOf]; omega
            · have e : j = ts.length := by omega
              have H : Hid (q = occT n (.mk 0 n s ts)) := by show _ = _; rw [hq.out]; exact HQ.out j e
              have HB := Lib.hid hb
              clear hb
              go_wp2_with fail
              go_ret
              exact ⟨ret_int H.out, HB.out⟩
        · have hnb : (n == x) = false := by simpa using hn
          subst hk
          have HQ : Hid (∀ j : Nat, j = ts.length → ((0 : Int) + occN x (preL (ts.take j)) = occT x (.mk 0 n s ts))) := by
            intro j hj; rw [hj, List.take_of_length_le (Nat.le_refl _), occT_mk]; simp [hn]
          have HI : Hid (∀ i (hi : i < ts.length) (v : Value) (w : World), LiesT w ts[i] v → Calls Try.prog 53 #[tv ts[i] v, .int .i64 x] w fun e w' => e = .returned (.int .i64 (occT x ts[i])) ∧ Below w.heap.size w w') := fun i hi v w h => ih _ (List.getElem_mem hi) v w h ((cnt_bounds hcnt).2 i hi)
          have HL := Lib.hid hl
          have hcl := Lib.hid hct
          have hln := (cnt_bounds hcnt).1
          simp only [tv, Tm.kind, Tm.num, Tm.name]
          clear hv ih hl hct hcnt
          clear hn
          go_enter Try.func53, Try.ntmps53
          go_wp2_with fail
          go_loopw [5, 6] (fun z i wr => ∃ (j : Nat) (q : Int), j ≤ ts.length ∧ i = .int .i64 j ∧ z = .int .i64 q ∧ Hid (q = (0 : Int) + occN x (preL (ts.take j))) ∧ 0 ≤ q ∧ q ≤ 1000000 ∧ Below w.heap.size w wr ∧ wr.cell? ⟨w.heap.size, 3, none⟩ = some (.slice (some ⟨b, o, none⟩) ts.length cap)) (fun _ i _ => ts.length - (intOf i).toNat)
          case atStart => exact ⟨0, 0, by omega, rfl, rfl, by show _ = _; simp [preL, occN], by omega, by omega, (Below.refl _ _).alloc (Nat.le_refl _) _, by go_simp⟩
          case round =>
            obtain ⟨j, q, hj, rfl, rfl, hq, q0, q1, hb, hc⟩ := hrel
            by_cases hlt : j < ts.length
            · obtain ⟨u, c0, c1, c2, c3, hu⟩ := HL.out.at j hlt
              have d0 := cell_below hb _ _ c0
              have d1 := cell_below hb _ _ c1
              have d2 := cell_below hb _ _ c2
              have d3 := cell_below hb _ _ c3
              have HU := Lib.hid (hu.below hb)
              clear hu c0 c1 c2 c3
              have HB := Lib.hid hb
              have st := occL_step x ts j hlt
              have bd := occL_le x ts (j + 1)
              have hcl2 := hcl.out
              have hqo := hq.out
              have BD : Hid (0 ≤ q + (occT x ts[j] : Int) ∧ q + (occT x ts[j] : Int) ≤ 1000000 ∧ q + (occT x ts[j] : Int) = (0 : Int) + occN x (preL (ts.take (j + 1)))) := by show _ ∧ _ ∧ _; omega
              have s1 : -9223372036854775808 ≤ q + (occT x ts[j] : Int) := by omega
              have s2 : q + (occT x ts[j] : Int) ≤ 9223372036854775807 := by have := BD.out; omega
              clear st bd hcl2 hqo hb
              go_wp2_with (go_at_call 53; refine (HI.out j hlt u _ HU.out).mono ?_; rintro e w1 ⟨rfl, hb1⟩)
              go_roundw
              case rel => exact ⟨j + 1, _, by omega, by go_num, rfl, BD.out.2.2, BD.out.1, BD.out.2.1, HB.out.trans (hb1.mono HB.out.size), cell_below hb1 _ _ hc⟩
              case measure => simp [intOf]; omega
            · have e : j = ts.length := by omega
              have H : Hid (q = occT x (.mk 0 n s ts)) := by show _ = _; rw [hq.out]; exact HQ.out j e
              have HB := Lib.hid hb
              clear hb
              go_wp2_with fail
              go_ret
              exact ⟨ret_int H.out, HB.out⟩
      · have hkb : (k == 0) = false := by simpa using hk
        have HQ : Hid (∀ j : Nat, j = ts.length → ((0 : Int) + occN x (preL (ts.take j)) = occT x (.mk k n s ts))) := by
          intro j hj; rw [hj, List.take_of_length_le (Nat.le_refl _), occT_mk]; simp [hk]
        have HI : Hid (∀ i (hi : i < ts.length) (v : Value) (w : World), LiesT w ts[i] v → Calls Try.prog 53 #[tv ts[i] v, .int .i64 x] w fun e w' => e = .returned (.int .i64 (occT x ts[i])) ∧ Below w.heap.size w w') := fun i hi v w h => ih _ (List.getElem_mem hi) v w h ((cnt_bounds hcnt).2 i hi)
        have HL := Lib.hid hl
        have hcl := Lib.hid hct
        have hln := (cnt_bounds hcnt).1
        simp only [tv, Tm.kind, Tm.num, Tm.name]
        clear hv ih hl hct hcnt
        clear hk
        go_enter Try.func53, Try.ntmps53
        go_wp2_with fail
        go_loopw [5, 6] (fun z i wr => ∃ (j : Nat) (q : Int), j ≤ ts.length ∧ i = .int .i64 j ∧ z = .int .i64 q ∧ Hid (q = (0 : Int) + occN x (preL (ts.take j))) ∧ 0 ≤ q ∧ q ≤ 1000000 ∧ Below w.heap.size w wr ∧ wr.cell? ⟨w.heap.size, 3, none⟩ = some (.slice (some ⟨b, o, none⟩) ts.length cap)) (fun _ i _ => ts.length - (intOf i).toNat)
        case atStart => exact ⟨0, 0, by omega, rfl, rfl, by show _ = _; simp [preL, occN], by omega, by omega, (Below.refl _ _).alloc (Nat.le_refl _) _, by go_simp⟩
        case round =>
          obtain ⟨j, q, hj, rfl, rfl, hq, q0, q1, hb, hc⟩ := hrel
          by_cases hlt : j < ts.length
          · obtain ⟨u, c0, c1, c2, c3, hu⟩ := HL.out.at j hlt
            have d0 := cell_below hb _ _ c0
            have d1 := cell_below hb _ _ c1
            have d2 := cell_below hb _ _ c2
            have d3 := cell_below hb _ _ c3
            have HU := Lib.hid (hu.below hb)
            clear hu c0 c1 c2 c3
            have HB := Lib.hid hb
            have st := occL_step x ts j hlt
            have bd := occL_le x ts (j + 1)
            have hcl2 := hcl.out
            have hqo := hq.out
            have BD : Hid (0 ≤ q + (occT x ts[j] : Int) ∧ q + (occT x ts[j] : Int) ≤ 1000000 ∧ q + (occT x ts[j] : Int) = (0 : Int) + occN x (preL (ts.take (j + 1)))) := by show _ ∧ _ ∧ _; omega
            have s1 : -9223372036854775808 ≤ q + (occT x ts[j] : Int) := by omega
            have s2 : q + (occT x ts[j] : Int) ≤ 9223372036854775807 := by have := BD.out; omega
            clear st bd hcl2 hqo hb
            go_wp2_with (go_at_call 53; refine (HI.out j hlt u _ HU.out).mono ?_; rintro e w1 ⟨rfl, hb1⟩)
            go_roundw
            case rel => exact ⟨j + 1, _, by omega, by go_num, rfl, BD.out.2.2, BD.out.1, BD.out.2.1, HB.out.trans (hb1.mono HB.out.size), cell_below hb1 _ _ hc⟩
            case measure => simp [intOf]; omega
          · have e : j = ts.length := by omega
            have H : Hid (q = occT x (.mk k n s ts)) := by show _ = _; rw [hq.out]; exact HQ.out j e
            have HB := Lib.hid hb
            clear hb
            go_wp2_with fail
            go_ret
            exact ⟨ret_int H.out, HB.out⟩

end Go.Proofs.Ytdgflagafilobaa
