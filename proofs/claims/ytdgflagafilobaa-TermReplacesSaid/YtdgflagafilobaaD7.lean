/- The law TermCanonical. -/
import Derived.Test.YtdgflagafilobaaA0
import Derived.Test.YtdgflagafilobaaM1
import Derived.Test.YtdgflagafilobaaO1
import Derived.Deep.RegionHeld3
import Derived.Deep.DeepCutAuto
import Derived.BigQuiet
namespace Go.Proofs.Ytdgflagafilobaa
open Go.RowKit Go.Proofs.HT

/-- What the examples promise. -/
def Awake : Prop := ∀ w : World, Calls Try.prog 13 #[] w fun e w' => e = .returned (.bool true) ∧ Below w.heap.size w w'
/-- A list of numbers as the walk reads it. -/
theorem list_read {w : World} {base : Nat} {x : Value} {xs : List Int} (h : w.ownsRow base 2 1 x xs.length (nums xs)) :
    ∃ a c, x = .slice a xs.length c ∧ ∀ (i : Nat) (hi : i < xs.length), ∃ g, a = some ⟨g, 0, none⟩ ∧ w.cell? ⟨g, i, none⟩ = some (.int .i64 xs[i]) := by
  obtain ⟨a, c, rfl⟩ := owns_slice h
  refine ⟨a, c, rfl, fun i hi => ?_⟩
  rcases h.2 with ⟨_, h0⟩ | ⟨g, cap, cur, he, _, hg, _⟩
  · rw [h0] at hi; omega
  · simp only [Value.slice.injEq] at he
    obtain ⟨rfl, _, rfl⟩ := he
    refine ⟨g, rfl, ?_⟩
    rw [h.cellAt i (by simpa using hi)]
    simp [nums, hi]

set_option maxHeartbeats 1000000 in
theorem canonical_no (HA : Awake) (t : Tm) (v : Value) (f : Int) (w : World) (h : LiesT w t v) (hval : validB t = false) : Calls Try.prog 7 #[tv t v, .int .i64 f] w fun e w' => e = .returned (.bool true) ∧ Below w.heap.size w w' := by
  have E0 := Lib.hid (((Env.start w).pushT h).box rfl (.int .i64 t.kind) (.int .i64 t.num) (.string t.name) v 24)
  have HA := Lib.hid HA
  have HV := Lib.hid hval
  clear h hval
  simp only [tv]
  go_enter Try.func7, Try.ntmps7
  go_wp2_with fail
  refine (Valid_is t v _ HV.out _ E0.out.t.hd).mono ?_
  rintro e w1 ⟨rfl, hb1⟩
  have B1 := Lib.hid (E0.out.step hb1).b
  clear hb1 E0
  go_wp2_with fail
  refine (HA.out _).mono ?_
  rintro e w2 ⟨rfl, hb2⟩
  have B2 := Lib.hid (B1.out.trans (hb2.mono B1.out.size))
  clear hb2
  go_wp2_with fail
  go_ret
  exact ⟨rfl, B2.out⟩

/-- What Rename promises of a valid term, in one. -/
def RenEnd (t : Tm) (f : Int) (w : World) (e : Ending) (w' : World) : Prop := ∃ (T : Tm) (a : Option Addr) (n k : Nat) (c : Int), e = .returned (.tuple #[tv T (.slice a n k), .int .i64 c]) ∧ LiesT w' T (.slice a n k) ∧ Below w.heap.size w w' ∧ (c = 0 → T = mapT (sh f) t ∧ ∀ x ∈ varsF [] t, numB (x + f) = true)
theorem RenEnd.of {t : Tm} {f : Int} {w w' : World} {e : Ending} {T : Tm} {c : Int} (h : MadeE T c w e w') (hc : c = 0 → T = mapT (sh f) t ∧ ∀ x ∈ varsF [] t, numB (x + f) = true) : RenEnd t f w e w' := by
  obtain ⟨v, rfl, ho, hb⟩ := h
  have hl := OwnT.lies _ _ ho
  obtain ⟨a, k, rfl⟩ := hl.slice
  exact ⟨T, a, _, k, c, rfl, hl, hb, hc⟩
theorem Rename_v (t : Tm) (v : Value) (f : Int) (w : World) (h : LiesT w t v) (hval : validB t = true) : Calls Try.prog 14 #[tv t v, .int .i64 f] w (RenEnd t f w) := by
  rcases Bool.eq_false_or_eq_true (numB f) with hf | hf
  · rcases Bool.eq_false_or_eq_true (decide (0 ≤ badF f (varsF [] t) 0)) with hb | hb
    · exact (Rename_long t v f w h hval hf hb).mono fun _ _ h => RenEnd.of h (fun h => by cases h)
    · refine (Rename_yes t v f w h hval hf hb).mono fun _ _ h => RenEnd.of h (fun _ => ⟨rfl, fun x hx => ?_⟩)
      have h1 := badF_iff f (varsF [] t) 0
      simp only [decide_eq_false_iff_not] at hb
      rcases Bool.eq_false_or_eq_true (numB (x + f)) with h | h
      · exact h
      · exact absurd (h1.2 (fun h2 => by rw [h2 x hx] at h; cases h)) hb
  · exact (Rename_number t v f w h hval hf).mono fun _ _ h => RenEnd.of h (fun h => by cases h)
theorem sameB_refl (t : Tm) : sameB t t = true := (sameB_iff t t).2 rfl
theorem variant_can (t : Tm) (h : validB t = true) : variantV (canT t) t = true := by
  have hn := (validB_nodes h).1
  simp [variantV, h, canT_valid t h, canT_can t hn, sameB_refl]
theorem variant_sh (t : Tm) (f : Int) (h : validB t = true) (hf : ∀ x ∈ varsF [] t, numB (x + f) = true) : variantV (mapT (sh f) t) t = true := by
  have hn := (validB_nodes h).1
  simp [variantV, h, shift_valid t f h hf, canT_shift t f hn, sameB_refl]
theorem same_self (t : Tm) (h : validB t = true) : sameV t t = true := by simp [sameV, h, sameB_refl]

set_option maxHeartbeats 4000000 in
theorem canonical_yes (HA : Awake) (t : Tm) (v : Value) (f : Int) (w : World) (h : LiesT w t v) (hval : validB t = true) : Calls Try.prog 7 #[tv t v, .int .i64 f] w fun e w' => e = .returned (.bool true) ∧ Below w.heap.size w w' := by
  have E0 := Lib.hid (((Env.start w).pushT h).box rfl (.int .i64 t.kind) (.int .i64 t.num) (.string t.name) v 24)
  have HA := Lib.hid HA
  have HV := Lib.hid hval
  have HC := Lib.hid (canT_valid t hval)
  have HN := Lib.hid (validB_nodes hval).1
  have HS : Hid ((varsF [] (canT t)).length ≤ 2000) := by
    have h1 := vars_can_len t HN.out
    have h2 := varsF_len t []
    have h3 := (validB_nodes hval).2
    show _ ≤ _
    simp at h2; omega
  clear h hval
  simp only [tv]
  go_enter Try.func7, Try.ntmps7
  go_wp2_with fail
  refine (Valid_is t v _ HV.out _ E0.out.t.hd).mono ?_
  rintro e w1 ⟨rfl, hb1⟩
  have E1 := Lib.hid (E0.out.step hb1)
  clear hb1 E0
  have a0 := E1.out.c.hd
  have a1 := E1.out.c.tl.hd
  have a2 := E1.out.c.tl.tl.hd
  have a3 := E1.out.c.tl.tl.tl.hd
  go_wp2_with fail
  refine (Canon_yes t v _ E1.out.t.hd HV.out).mono ?_
  rintro e w2 ⟨y, rfl, hy, hb2⟩
  have hly := OwnT.lies _ _ hy
  obtain ⟨ya, yc, rfl⟩ := hly.slice
  have E2 := Lib.hid (((E1.out.step hb2).pushT hly).box rfl (.int .i64 (canT t).kind) (.int .i64 (canT t).num) (.string (canT t).name) (.slice ya (canT t).args.length yc) 24)
  clear hb2 hy hly E1 a0 a1 a2 a3
  obtain ⟨C, hC⟩ : ∃ C, C = canT t := ⟨_, rfl⟩
  go_wp2_with fail
  refine (Vars_yes (canT t) _ _ E2.out.t.hd HC.out).mono ?_
  rintro e w3 ⟨x, rfl, hrow, hb3⟩
  obtain ⟨a, c, rfl, hx⟩ := list_read hrow
  have HX := Lib.hid hx
  have E3 := Lib.hid (E2.out.step hb3)
  clear hrow hx hb3 E2
  obtain ⟨xs, hxs⟩ : ∃ xs, xs = varsF [] (canT t) := ⟨_, rfl⟩
  have HG : Hid (∀ (i : Nat) (h : i < xs.length), xs[i] = i) := by rw [hxs]; exact fun i h => vars_can_get t HN.out i h
  have HQ := Lib.hid hxs
  rw [← hxs] at HX HS ⊢
  clear hxs
  have hs := HS.out
  go_wp2_with fail
  go_loopw [7] (fun i wr => ∃ j : Nat, j ≤ xs.length ∧ i = .int .i64 j ∧ wr = w3) (fun i _ => xs.length - (intOf i).toNat)
  case atStart => exact ⟨0, by omega, rfl, rfl⟩
  case round =>
    obtain ⟨j, hj, rfl, rfl⟩ := hrel
    by_cases hlt : j < xs.length
    · obtain ⟨g, rfl, hc⟩ := HX.out j hlt
      rw [HG.out j hlt] at hc
      go_wp2_with fail
      go_roundw
      case rel => exact ⟨j + 1, by omega, by go_num, by first | rfl | trivial⟩
      case measure => simp [intOf]; omega
    · obtain rfl : j = xs.length := by omega
      clear hj hlt
      have b0 := E3.out.c.hd
      have b1 := E3.out.c.tl.hd
      have b2 := E3.out.c.tl.tl.hd
      have b3 := E3.out.c.tl.tl.tl.hd
      have a0 := E3.out.c.tl.tl.tl.tl.hd
      have a1 := E3.out.c.tl.tl.tl.tl.tl.hd
      have a2 := E3.out.c.tl.tl.tl.tl.tl.tl.hd
      have a3 := E3.out.c.tl.tl.tl.tl.tl.tl.tl.hd
      -- TAIL
      go_wp2_with fail
      refine (Rename_v t v f _ E3.out.t.tl.hd HV.out).mono ?_
      rintro e w4 ⟨T, ra, rn, rk, code, rfl, hlr, hb4, hcode⟩
      have E4 := Lib.hid (((E3.out.step hb4).pushT hlr).box rfl (.int .i64 T.kind) (.int .i64 T.num) (.string T.name) (.slice ra rn rk) 24)
      have HK := Lib.hid hcode
      clear hb4 hlr hcode E3 a0 a1 a2 a3 b0 b1 b2 b3
      go_wp2_with fail
      generalize (w4.alloc (.cells #[.int .i64 T.kind, .int .i64 T.num, .string T.name, .slice ra rn rk] 24)) = W0 at *
      have d0 := E4.out.c.hd
      have d1 := E4.out.c.tl.hd
      have d2 := E4.out.c.tl.tl.hd
      have d3 := E4.out.c.tl.tl.tl.hd
      have b0 := E4.out.c.tl.tl.tl.tl.hd
      have b1 := E4.out.c.tl.tl.tl.tl.tl.hd
      have b2 := E4.out.c.tl.tl.tl.tl.tl.tl.hd
      have b3 := E4.out.c.tl.tl.tl.tl.tl.tl.tl.hd
      have a0 := E4.out.c.tl.tl.tl.tl.tl.tl.tl.tl.hd
      have a1 := E4.out.c.tl.tl.tl.tl.tl.tl.tl.tl.tl.hd
      have a2 := E4.out.c.tl.tl.tl.tl.tl.tl.tl.tl.tl.tl.hd
      have a3 := E4.out.c.tl.tl.tl.tl.tl.tl.tl.tl.tl.tl.tl.hd
      have HRL := Lib.hid E4.out.t.hd
      have HCL := Lib.hid E4.out.t.tl.hd
      have HT := Lib.hid E4.out.t.tl.tl.hd
      have BW := Lib.hid E4.out.b
      clear E4
      have h0 : Below W0.heap.size W0 W0 := Below.refl _ _
      have hq : Hid (∀ n, Below W0.heap.size W0 (W0.drewN n).drew) := fun n => (below_drewN (Below.refl _ _) n).drew
      have h1 : Below W0.heap.size W0 W0.drew := h0.drew
      obtain ⟨S, hS⟩ : ∃ S, cntM t 2001 = S := ⟨_, rfl⟩
      have HS2 := Lib.hid hS
      have HS1 : Hid (cntM (canT t) 2001 = S) := by show _ = _; rw [← hS]; unfold cntM; rw [cnt_can t HN.out]
      have HVC := Lib.hid (variant_can t HV.out)
      have HSS := Lib.hid (same_self (canT t) HC.out)
      have HQL : Hid (xs.length = (varsF [] t).length) := by show _ = _; rw [HQ.out, vars_can_len t HN.out]
      clear hS HX HG
      by_cases hc : code = 0
      · obtain ⟨hT, hX⟩ := HK.out hc
        have HVR : Hid (variantV T t = true) := by show _ = _; rw [hT]; exact variant_sh t f HV.out hX
        have HRV : Hid (validB T = true) := by show _ = _; rw [hT]; exact shift_valid t f HV.out hX
        have HSR : Hid (sameV (canT T) (canT t) = true) := by show _ = _; rw [hT, canT_shift t f HN.out]; exact HSS.out
        clear hT hX HK
        subst hc
        go_region_held3 (fun w' => Below W0.heap.size W0 w' ∧ w'.cell? ⟨w.heap.size, 0, none⟩ = some (.int .i64 t.kind) ∧ w'.cell? ⟨w.heap.size, 1, none⟩ = some (.int .i64 t.num) ∧ w'.cell? ⟨w.heap.size, 2, none⟩ = some (.string t.name) ∧ w'.cell? ⟨w.heap.size, 3, none⟩ = some (v) ∧ w'.cell? ⟨w2.heap.size, 0, none⟩ = some (.int .i64 (canT t).kind) ∧ w'.cell? ⟨w2.heap.size, 1, none⟩ = some (.int .i64 (canT t).num) ∧ w'.cell? ⟨w2.heap.size, 2, none⟩ = some (.string (canT t).name) ∧ w'.cell? ⟨w2.heap.size, 3, none⟩ = some (.slice ya (canT t).args.length yc) ∧ w'.cell? ⟨w4.heap.size, 0, none⟩ = some (.int .i64 T.kind) ∧ w'.cell? ⟨w4.heap.size, 1, none⟩ = some (.int .i64 T.num) ∧ w'.cell? ⟨w4.heap.size, 2, none⟩ = some (.string T.name) ∧ w'.cell? ⟨w4.heap.size, 3, none⟩ = some (.slice ra rn rk))
          (first | exact ⟨(by assumption), cell_below (by assumption : Below W0.heap.size W0 _) _ _ a0, cell_below (by assumption : Below W0.heap.size W0 _) _ _ a1, cell_below (by assumption : Below W0.heap.size W0 _) _ _ a2, cell_below (by assumption : Below W0.heap.size W0 _) _ _ a3, cell_below (by assumption : Below W0.heap.size W0 _) _ _ b0, cell_below (by assumption : Below W0.heap.size W0 _) _ _ b1, cell_below (by assumption : Below W0.heap.size W0 _) _ _ b2, cell_below (by assumption : Below W0.heap.size W0 _) _ _ b3, cell_below (by assumption : Below W0.heap.size W0 _) _ _ d0, cell_below (by assumption : Below W0.heap.size W0 _) _ _ d1, cell_below (by assumption : Below W0.heap.size W0 _) _ _ d2, cell_below (by assumption : Below W0.heap.size W0 _) _ _ d3⟩ | exact ⟨Below.drew (by assumption), cell_below (Below.drew (by assumption : Below W0.heap.size W0 _)) _ _ a0, cell_below (Below.drew (by assumption : Below W0.heap.size W0 _)) _ _ a1, cell_below (Below.drew (by assumption : Below W0.heap.size W0 _)) _ _ a2, cell_below (Below.drew (by assumption : Below W0.heap.size W0 _)) _ _ a3, cell_below (Below.drew (by assumption : Below W0.heap.size W0 _)) _ _ b0, cell_below (Below.drew (by assumption : Below W0.heap.size W0 _)) _ _ b1, cell_below (Below.drew (by assumption : Below W0.heap.size W0 _)) _ _ b2, cell_below (Below.drew (by assumption : Below W0.heap.size W0 _)) _ _ b3, cell_below (Below.drew (by assumption : Below W0.heap.size W0 _)) _ _ d0, cell_below (Below.drew (by assumption : Below W0.heap.size W0 _)) _ _ d1, cell_below (Below.drew (by assumption : Below W0.heap.size W0 _)) _ _ d2, cell_below (Below.drew (by assumption : Below W0.heap.size W0 _)) _ _ d3⟩ | go_keep)
          (first
            | (go_at_call_of 11 (Value.agg #[.int .i64 T.kind, .int .i64 T.num, .string T.name, (.slice ra rn rk)]); refine (Variant_is T t true HVR.out _ v _ (HRL.out.below (by assumption : Below W0.heap.size W0 _)) (HT.out.below (by assumption : Below W0.heap.size W0 _))).mono ?_; rintro e w7 ⟨rfl, hb⟩; have h5 : Below W0.heap.size W0 w7 := Below.trans (by assumption : Below W0.heap.size W0 _) (hb.mono (Below.size (by assumption : Below W0.heap.size W0 _))); clear hb)
            | (go_at_call_of 30 (Value.agg #[.int .i64 T.kind, .int .i64 T.num, .string T.name, (.slice ra rn rk)]); refine (Canon_yes T _ _ (HRL.out.below (by assumption : Below W0.heap.size W0 _)) HRV.out).mono ?_; rintro e w8 ⟨y, rfl, hy, hb⟩; have HY := Lib.hid (OwnT.lies _ _ hy); clear hy; have h5 : Below W0.heap.size W0 w8 := Below.trans (by assumption : Below W0.heap.size W0 _) (hb.mono (Below.size (by assumption : Below W0.heap.size W0 _))); clear hb)
            | (go_at_call 9; refine (Same_is (canT T) (canT t) true HSR.out _ _ _ HY.out (HCL.out.below (by assumption : Below W0.heap.size W0 _))).mono ?_; rintro e w9 ⟨rfl, hb⟩; have h5 : Below W0.heap.size W0 w9 := Below.trans (by assumption : Below W0.heap.size W0 _) (hb.mono (Below.size (by assumption : Below W0.heap.size W0 _))); clear hb))
        go_wp2_with fail
        have h6 : Below W0.heap.size W0 w9.drew := h5.drew
        go_region_held3 (fun w' => Below W0.heap.size W0 w' ∧ w'.cell? ⟨w.heap.size, 0, none⟩ = some (.int .i64 t.kind) ∧ w'.cell? ⟨w.heap.size, 1, none⟩ = some (.int .i64 t.num) ∧ w'.cell? ⟨w.heap.size, 2, none⟩ = some (.string t.name) ∧ w'.cell? ⟨w.heap.size, 3, none⟩ = some (v) ∧ w'.cell? ⟨w2.heap.size, 0, none⟩ = some (.int .i64 (canT t).kind) ∧ w'.cell? ⟨w2.heap.size, 1, none⟩ = some (.int .i64 (canT t).num) ∧ w'.cell? ⟨w2.heap.size, 2, none⟩ = some (.string (canT t).name) ∧ w'.cell? ⟨w2.heap.size, 3, none⟩ = some (.slice ya (canT t).args.length yc) ∧ w'.cell? ⟨w4.heap.size, 0, none⟩ = some (.int .i64 T.kind) ∧ w'.cell? ⟨w4.heap.size, 1, none⟩ = some (.int .i64 T.num) ∧ w'.cell? ⟨w4.heap.size, 2, none⟩ = some (.string T.name) ∧ w'.cell? ⟨w4.heap.size, 3, none⟩ = some (.slice ra rn rk))
          (first | exact ⟨(by assumption), cell_below (by assumption : Below W0.heap.size W0 _) _ _ a0, cell_below (by assumption : Below W0.heap.size W0 _) _ _ a1, cell_below (by assumption : Below W0.heap.size W0 _) _ _ a2, cell_below (by assumption : Below W0.heap.size W0 _) _ _ a3, cell_below (by assumption : Below W0.heap.size W0 _) _ _ b0, cell_below (by assumption : Below W0.heap.size W0 _) _ _ b1, cell_below (by assumption : Below W0.heap.size W0 _) _ _ b2, cell_below (by assumption : Below W0.heap.size W0 _) _ _ b3, cell_below (by assumption : Below W0.heap.size W0 _) _ _ d0, cell_below (by assumption : Below W0.heap.size W0 _) _ _ d1, cell_below (by assumption : Below W0.heap.size W0 _) _ _ d2, cell_below (by assumption : Below W0.heap.size W0 _) _ _ d3⟩ | exact ⟨Below.drew (by assumption), cell_below (Below.drew (by assumption : Below W0.heap.size W0 _)) _ _ a0, cell_below (Below.drew (by assumption : Below W0.heap.size W0 _)) _ _ a1, cell_below (Below.drew (by assumption : Below W0.heap.size W0 _)) _ _ a2, cell_below (Below.drew (by assumption : Below W0.heap.size W0 _)) _ _ a3, cell_below (Below.drew (by assumption : Below W0.heap.size W0 _)) _ _ b0, cell_below (Below.drew (by assumption : Below W0.heap.size W0 _)) _ _ b1, cell_below (Below.drew (by assumption : Below W0.heap.size W0 _)) _ _ b2, cell_below (Below.drew (by assumption : Below W0.heap.size W0 _)) _ _ b3, cell_below (Below.drew (by assumption : Below W0.heap.size W0 _)) _ _ d0, cell_below (Below.drew (by assumption : Below W0.heap.size W0 _)) _ _ d1, cell_below (Below.drew (by assumption : Below W0.heap.size W0 _)) _ _ d2, cell_below (Below.drew (by assumption : Below W0.heap.size W0 _)) _ _ d3⟩ | go_keep)
          (first
            | (go_at_call_of 31 (Value.agg #[.int .i64 t.kind, .int .i64 t.num, .string t.name, v]); refine (Vars_yes t v _ (HT.out.below (by assumption : Below W0.heap.size W0 _)) HV.out).mono ?_; rintro e w10 ⟨x, rfl, hrow, hb⟩; obtain ⟨la, lc, rfl, hx⟩ := list_read hrow; clear hx hrow; rw [← HQL.out]; have h5 : Below W0.heap.size W0 w10 := Below.trans (by assumption : Below W0.heap.size W0 _) (hb.mono (Below.size (by assumption : Below W0.heap.size W0 _))); clear hb)
            | (go_at_call_of 32 (Value.agg #[.int .i64 (canT t).kind, .int .i64 (canT t).num, .string (canT t).name, (.slice ya (canT t).args.length yc)]); refine (Size_is (canT t) S HS1.out _ _ (HCL.out.below (by assumption : Below W0.heap.size W0 _))).mono ?_; rintro e w11 ⟨rfl, hb⟩; have h5 : Below W0.heap.size W0 w11 := Below.trans (by assumption : Below W0.heap.size W0 _) (hb.mono (Below.size (by assumption : Below W0.heap.size W0 _))); clear hb)
            | (go_at_call_of 32 (Value.agg #[.int .i64 t.kind, .int .i64 t.num, .string t.name, v]); refine (Size_is t S HS2.out _ _ (HT.out.below (by assumption : Below W0.heap.size W0 _))).mono ?_; rintro e w12 ⟨rfl, hb⟩; have h5 : Below W0.heap.size W0 w12 := Below.trans (by assumption : Below W0.heap.size W0 _) (hb.mono (Below.size (by assumption : Below W0.heap.size W0 _))); clear hb)
            | (go_at_call_of 11 (Value.agg #[.int .i64 (canT t).kind, .int .i64 (canT t).num, .string (canT t).name, (.slice ya (canT t).args.length yc)]); refine (Variant_is (canT t) t true HVC.out _ v _ (HCL.out.below (by assumption : Below W0.heap.size W0 _)) (HT.out.below (by assumption : Below W0.heap.size W0 _))).mono ?_; rintro e w13 ⟨rfl, hb⟩; have h5 : Below W0.heap.size W0 w13 := Below.trans (by assumption : Below W0.heap.size W0 _) (hb.mono (Below.size (by assumption : Below W0.heap.size W0 _))); clear hb)
            | (go_at_call_of 30 (Value.agg #[.int .i64 (canT t).kind, .int .i64 (canT t).num, .string (canT t).name, (.slice ya (canT t).args.length yc)]); refine (Canon_yes (canT t) _ _ (HCL.out.below (by assumption : Below W0.heap.size W0 _)) HC.out).mono ?_; rintro e w14 ⟨y3, rfl, hy3, hb⟩; rw [canT_can t HN.out] at hy3 ⊢; have HY3 := Lib.hid (OwnT.lies _ _ hy3); clear hy3; have h5 : Below W0.heap.size W0 w14 := Below.trans (by assumption : Below W0.heap.size W0 _) (hb.mono (Below.size (by assumption : Below W0.heap.size W0 _))); clear hb)
            | (go_at_call 9; refine (Same_is (canT t) (canT t) true HSS.out _ _ _ HY3.out (HCL.out.below (by assumption : Below W0.heap.size W0 _))).mono ?_; rintro e w15 ⟨rfl, hb⟩; have h5 : Below W0.heap.size W0 w15 := Below.trans (by assumption : Below W0.heap.size W0 _) (hb.mono (Below.size (by assumption : Below W0.heap.size W0 _))); clear hb)
            | (go_at_call 13; refine (HA.out _).mono ?_; rintro e w16 ⟨rfl, hb⟩; have h5 : Below W0.heap.size W0 w16 := Below.trans (by assumption : Below W0.heap.size W0 _) (hb.mono (Below.size (by assumption : Below W0.heap.size W0 _))); clear hb))
        go_wp2_with fail
        go_ret
        exact ⟨rfl, BW.out.trans (Below.mono (by assumption : Below W0.heap.size W0 _) BW.out.size)⟩
      · have ed : decide (code = 0) = false := by simpa using hc
        have ec : (code == 0) = false := by simpa using hc
        clear hc HK
        go_quiet (fail)
        all_goals
          go_wp2_with fail
          first | (rename_i nq; have h6 := hq.out nq) | (rename_i nq _; have h6 := hq.out nq) | (rename_i nq _ _; have h6 := hq.out nq) | (rename_i nq _ _ _; have h6 := hq.out nq) | (rename_i nq _ _ _ _; have h6 := hq.out nq) | (rename_i nq _ _ _ _ _; have h6 := hq.out nq)
          go_region_held3 (fun w' => Below W0.heap.size W0 w' ∧ w'.cell? ⟨w.heap.size, 0, none⟩ = some (.int .i64 t.kind) ∧ w'.cell? ⟨w.heap.size, 1, none⟩ = some (.int .i64 t.num) ∧ w'.cell? ⟨w.heap.size, 2, none⟩ = some (.string t.name) ∧ w'.cell? ⟨w.heap.size, 3, none⟩ = some (v) ∧ w'.cell? ⟨w2.heap.size, 0, none⟩ = some (.int .i64 (canT t).kind) ∧ w'.cell? ⟨w2.heap.size, 1, none⟩ = some (.int .i64 (canT t).num) ∧ w'.cell? ⟨w2.heap.size, 2, none⟩ = some (.string (canT t).name) ∧ w'.cell? ⟨w2.heap.size, 3, none⟩ = some (.slice ya (canT t).args.length yc) ∧ w'.cell? ⟨w4.heap.size, 0, none⟩ = some (.int .i64 T.kind) ∧ w'.cell? ⟨w4.heap.size, 1, none⟩ = some (.int .i64 T.num) ∧ w'.cell? ⟨w4.heap.size, 2, none⟩ = some (.string T.name) ∧ w'.cell? ⟨w4.heap.size, 3, none⟩ = some (.slice ra rn rk))
            (first | exact ⟨(by assumption), cell_below (by assumption : Below W0.heap.size W0 _) _ _ a0, cell_below (by assumption : Below W0.heap.size W0 _) _ _ a1, cell_below (by assumption : Below W0.heap.size W0 _) _ _ a2, cell_below (by assumption : Below W0.heap.size W0 _) _ _ a3, cell_below (by assumption : Below W0.heap.size W0 _) _ _ b0, cell_below (by assumption : Below W0.heap.size W0 _) _ _ b1, cell_below (by assumption : Below W0.heap.size W0 _) _ _ b2, cell_below (by assumption : Below W0.heap.size W0 _) _ _ b3, cell_below (by assumption : Below W0.heap.size W0 _) _ _ d0, cell_below (by assumption : Below W0.heap.size W0 _) _ _ d1, cell_below (by assumption : Below W0.heap.size W0 _) _ _ d2, cell_below (by assumption : Below W0.heap.size W0 _) _ _ d3⟩ | exact ⟨Below.drew (by assumption), cell_below (Below.drew (by assumption : Below W0.heap.size W0 _)) _ _ a0, cell_below (Below.drew (by assumption : Below W0.heap.size W0 _)) _ _ a1, cell_below (Below.drew (by assumption : Below W0.heap.size W0 _)) _ _ a2, cell_below (Below.drew (by assumption : Below W0.heap.size W0 _)) _ _ a3, cell_below (Below.drew (by assumption : Below W0.heap.size W0 _)) _ _ b0, cell_below (Below.drew (by assumption : Below W0.heap.size W0 _)) _ _ b1, cell_below (Below.drew (by assumption : Below W0.heap.size W0 _)) _ _ b2, cell_below (Below.drew (by assumption : Below W0.heap.size W0 _)) _ _ b3, cell_below (Below.drew (by assumption : Below W0.heap.size W0 _)) _ _ d0, cell_below (Below.drew (by assumption : Below W0.heap.size W0 _)) _ _ d1, cell_below (Below.drew (by assumption : Below W0.heap.size W0 _)) _ _ d2, cell_below (Below.drew (by assumption : Below W0.heap.size W0 _)) _ _ d3⟩ | go_keep)
            (first
              | (go_at_call_of 31 (Value.agg #[.int .i64 t.kind, .int .i64 t.num, .string t.name, v]); refine (Vars_yes t v _ (HT.out.below (by assumption : Below W0.heap.size W0 _)) HV.out).mono ?_; rintro e w10 ⟨x, rfl, hrow, hb⟩; obtain ⟨la, lc, rfl, hx⟩ := list_read hrow; clear hx hrow; rw [← HQL.out]; have h5 : Below W0.heap.size W0 w10 := Below.trans (by assumption : Below W0.heap.size W0 _) (hb.mono (Below.size (by assumption : Below W0.heap.size W0 _))); clear hb)
              | (go_at_call_of 32 (Value.agg #[.int .i64 (canT t).kind, .int .i64 (canT t).num, .string (canT t).name, (.slice ya (canT t).args.length yc)]); refine (Size_is (canT t) S HS1.out _ _ (HCL.out.below (by assumption : Below W0.heap.size W0 _))).mono ?_; rintro e w11 ⟨rfl, hb⟩; have h5 : Below W0.heap.size W0 w11 := Below.trans (by assumption : Below W0.heap.size W0 _) (hb.mono (Below.size (by assumption : Below W0.heap.size W0 _))); clear hb)
              | (go_at_call_of 32 (Value.agg #[.int .i64 t.kind, .int .i64 t.num, .string t.name, v]); refine (Size_is t S HS2.out _ _ (HT.out.below (by assumption : Below W0.heap.size W0 _))).mono ?_; rintro e w12 ⟨rfl, hb⟩; have h5 : Below W0.heap.size W0 w12 := Below.trans (by assumption : Below W0.heap.size W0 _) (hb.mono (Below.size (by assumption : Below W0.heap.size W0 _))); clear hb)
              | (go_at_call_of 11 (Value.agg #[.int .i64 (canT t).kind, .int .i64 (canT t).num, .string (canT t).name, (.slice ya (canT t).args.length yc)]); refine (Variant_is (canT t) t true HVC.out _ v _ (HCL.out.below (by assumption : Below W0.heap.size W0 _)) (HT.out.below (by assumption : Below W0.heap.size W0 _))).mono ?_; rintro e w13 ⟨rfl, hb⟩; have h5 : Below W0.heap.size W0 w13 := Below.trans (by assumption : Below W0.heap.size W0 _) (hb.mono (Below.size (by assumption : Below W0.heap.size W0 _))); clear hb)
              | (go_at_call_of 30 (Value.agg #[.int .i64 (canT t).kind, .int .i64 (canT t).num, .string (canT t).name, (.slice ya (canT t).args.length yc)]); refine (Canon_yes (canT t) _ _ (HCL.out.below (by assumption : Below W0.heap.size W0 _)) HC.out).mono ?_; rintro e w14 ⟨y3, rfl, hy3, hb⟩; rw [canT_can t HN.out] at hy3 ⊢; have HY3 := Lib.hid (OwnT.lies _ _ hy3); clear hy3; have h5 : Below W0.heap.size W0 w14 := Below.trans (by assumption : Below W0.heap.size W0 _) (hb.mono (Below.size (by assumption : Below W0.heap.size W0 _))); clear hb)
              | (go_at_call 9; refine (Same_is (canT t) (canT t) true HSS.out _ _ _ HY3.out (HCL.out.below (by assumption : Below W0.heap.size W0 _))).mono ?_; rintro e w15 ⟨rfl, hb⟩; have h5 : Below W0.heap.size W0 w15 := Below.trans (by assumption : Below W0.heap.size W0 _) (hb.mono (Below.size (by assumption : Below W0.heap.size W0 _))); clear hb)
              | (go_at_call 13; refine (HA.out _).mono ?_; rintro e w16 ⟨rfl, hb⟩; have h5 : Below W0.heap.size W0 w16 := Below.trans (by assumption : Below W0.heap.size W0 _) (hb.mono (Below.size (by assumption : Below W0.heap.size W0 _))); clear hb))
          go_wp2_with fail
          go_ret
          exact ⟨rfl, BW.out.trans (Below.mono (by assumption : Below W0.heap.size W0 _) BW.out.size)⟩

end Go.Proofs.Ytdgflagafilobaa
