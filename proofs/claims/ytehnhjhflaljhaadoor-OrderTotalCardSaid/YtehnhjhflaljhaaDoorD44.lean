/- The law OrderTotal. -/
import Derived.Test.YtehnhjhflaljhaaDoorL9
import Derived.Test.YtehnhjhflaljhaaDoorC7
namespace Go.Proofs.YtehnhjhflaljhaaDoor
open Go.RowKit Go.Proofs.HT

theorem cmpV_neg (t u : Tm) : cmpV u t = -cmpV t u := by
  unfold cmpV
  by_cases h1 : validB t = true <;> by_cases h2 : validB u = true <;> simp [h1, h2, cT_neg t u]
theorem cmpV_bd (t u : Tm) : cmpV t u = -1 ∨ cmpV t u = 0 ∨ cmpV t u = 1 := by
  unfold cmpV
  split
  · exact cT_bd t u
  · simp
theorem same_cmp (t u : Tm) (h : validB t = true) (h2 : validB u = true) : sameV t u = (cmpV t u == 0) := by
  rw [cmpV, if_pos ⟨h, h2⟩, sameV, h, h2, Bool.true_and, Bool.true_and, Bool.eq_iff_iff, sameB_iff, beq_iff_eq]
  constructor
  · rintro rfl; exact cT_self t
  · exact cT_eq t u
theorem cmpV_le (t u s : Tm) (h : validB t = true) (h2 : validB u = true) (h3 : validB s = true) (h4 : cmpV t u ≤ 0) (h5 : cmpV u s ≤ 0) : cmpV t s ≤ 0 := by
  rw [cmpV, if_pos ⟨h, h2⟩] at h4
  rw [cmpV, if_pos ⟨h2, h3⟩] at h5
  rw [cmpV, if_pos ⟨h, h3⟩]
  exact cT_le h4 h5

set_option maxHeartbeats 2000000 in
theorem lvalid_any (b off n cap : Nat) (l : List PV) (w : World) (hn : l.length = n) (hn2 : n ≤ 1000000) (_hcap : n ≤ cap) (hrow : RowIn w b off l) (hl : ∀ p ∈ l, LiesT w p.1 p.2) :
    Calls Tryd.prog 23 #[.slice (some ⟨b, off, none⟩) n cap] w fun e w' => e = .returned (.bool (l.all fun p => validB p.1)) ∧ Below w.heap.size w w' := by
  obtain ⟨R, hR⟩ : ∃ R, (l.all fun p => validB p.1) = R := ⟨_, rfl⟩
  rw [hR]
  have HRR := Lib.hid hR
  have HN := Lib.hid hn
  have HL := Lib.hid hl
  have HR := Lib.hid hrow
  clear hR hn hl hrow
  go_enter Tryd.func23, Tryd.ntmps23
  go_wp2_with fail
  go_loopw [3] (fun i wr => ∃ j : Nat, j ≤ n ∧ i = .int .i64 j ∧ Hid (Below w.heap.size w wr) ∧ Hid (∀ k (h : k < l.length), k < j → validB l[k].1 = true)) (fun i _ => n - (intOf i).toNat)
  case atStart => exact ⟨0, by omega, rfl, Lib.hid (Below.refl _ _), Lib.hid (fun _ _ h => by omega)⟩
  case round =>
    obtain ⟨j, hj, rfl, hb, hz⟩ := hrel
    by_cases hlt : j < n
    · have hjl : j < l.length := by have := HN.out; omega
      obtain ⟨d0, d1, d2, d3⟩ := (HR.out.below hb.out).at j hjl
      have hF := valid_any l[j].1 l[j].2 wr ((HL.out _ (List.getElem_mem hjl)).below hb.out)
      obtain ⟨q, hq⟩ : ∃ q, validB l[j].1 = q := ⟨_, rfl⟩
      rw [hq] at hF
      have HFF := Lib.hid hF
      have HQ := Lib.hid hq
      clear hF hq
      cases q
      · have HE : Hid (R = false) := by
          show _ = _
          rw [← HRR.out, ← Bool.not_eq_true, List.all_eq_true]
          intro h; have := h l[j] (List.getElem_mem hjl); rw [HQ.out] at this; cases this
        go_wp2_with (first | (go_at_call 31; refine HFF.out.mono ?_; rintro e w1 ⟨rfl, hb1⟩))
        go_ret
        exact ⟨ret_bool HE.out.symm, hb.out.trans (hb1.mono hb.out.size)⟩
      · go_wp2_with (first | (go_at_call 31; refine HFF.out.mono ?_; rintro e w1 ⟨rfl, hb1⟩))
        go_roundw
        case rel =>
          refine ⟨j + 1, by omega, by go_num, Lib.hid (hb.out.trans (hb1.mono hb.out.size)), Lib.hid (fun k h h2 => ?_)⟩
          by_cases e : k = j
          · subst e; exact HQ.out
          · exact hz.out k h (by omega)
        case measure => simp [intOf]; omega
    · have HE : Hid (R = true) := by
        show _ = _
        rw [← HRR.out, List.all_eq_true]
        intro p hp
        obtain ⟨k, hk, rfl⟩ := List.mem_iff_getElem.1 hp
        exact hz.out k hk (by have := HN.out; omega)
      go_wp2_with fail
      go_ret
      exact ⟨ret_bool HE.out.symm, hb.out⟩

set_option maxRecDepth 20000 in
set_option maxHeartbeats 1000000 in
theorem total_walk (t u s : Tm) (v x y : Value) (w : World) (h : LiesT w t v) (hx : LiesT w u x) (hy : LiesT w s y) (hp : Places w) : Calls Tryd.prog 6 #[tv t v, tv u x, tv s y] w fun e w' => e = .returned (.bool true) ∧ Below w.heap.size w w' := by
  obtain ⟨ta, tc, rfl⟩ : ∃ a c, v = .slice a t.args.length c := h.slice
  obtain ⟨ua, uc, rfl⟩ : ∃ a c, x = .slice a u.args.length c := hx.slice
  obtain ⟨sa, sc, rfl⟩ : ∃ a c, y = .slice a s.args.length c := hy.slice
  obtain ⟨q1, hQ1⟩ : ∃ q, cmpV t u = q := ⟨_, rfl⟩
  obtain ⟨q2, hQ2⟩ : ∃ q, cmpV u t = q := ⟨_, rfl⟩
  obtain ⟨q3, hQ3⟩ : ∃ q, cmpV u s = q := ⟨_, rfl⟩
  obtain ⟨q4, hQ4⟩ : ∃ q, cmpV t s = q := ⟨_, rfl⟩
  have hN2 : q2 = -q1 := by rw [← hQ2, cmpV_neg, hQ1]
  have hbd := cmpV_bd t u
  rw [hQ1] at hbd
  have Q1 : Hid (∀ w1, Below w.heap.size w w1 → Calls Tryd.prog 12 #[tv t (.slice ta t.args.length tc), tv u (.slice ua u.args.length uc)] w1 fun e w' => e = .returned (.int .i64 q1) ∧ Below w1.heap.size w1 w') := fun w1 hb => by rw [← hQ1]; exact Cmp_any t u _ _ w1 (h.below hb) (hx.below hb) (hp.below hb)
  have Q2 : Hid (∀ w1, Below w.heap.size w w1 → Calls Tryd.prog 12 #[tv u (.slice ua u.args.length uc), tv t (.slice ta t.args.length tc)] w1 fun e w' => e = .returned (.int .i64 q2) ∧ Below w1.heap.size w1 w') := fun w1 hb => by rw [← hQ2]; exact Cmp_any u t _ _ w1 (hx.below hb) (h.below hb) (hp.below hb)
  have Q3 : Hid (∀ w1, Below w.heap.size w w1 → Calls Tryd.prog 12 #[tv u (.slice ua u.args.length uc), tv s (.slice sa s.args.length sc)] w1 fun e w' => e = .returned (.int .i64 q3) ∧ Below w1.heap.size w1 w') := fun w1 hb => by rw [← hQ3]; exact Cmp_any u s _ _ w1 (hx.below hb) (hy.below hb) (hp.below hb)
  have Q4 : Hid (∀ w1, Below w.heap.size w w1 → Calls Tryd.prog 12 #[tv t (.slice ta t.args.length tc), tv s (.slice sa s.args.length sc)] w1 fun e w' => e = .returned (.int .i64 q4) ∧ Below w1.heap.size w1 w') := fun w1 hb => by rw [← hQ4]; exact Cmp_any t s _ _ w1 (h.below hb) (hy.below hb) (hp.below hb)
  have HSM : Hid (∀ w1, Below w.heap.size w w1 → Calls Tryd.prog 28 #[tv t (.slice ta t.args.length tc), tv u (.slice ua u.args.length uc)] w1 fun e w' => e = .returned (.bool (sameV t u)) ∧ Below w1.heap.size w1 w') := fun w1 hb => same_any t u _ _ w1 (h.below hb) (hx.below hb)
  have HAW : Hid (∀ w1, Below w.heap.size w w1 → Calls Tryd.prog 14 #[] w1 fun e w' => e = .returned (.bool true) ∧ Below w1.heap.size w1 w') := fun w1 hb => awake_any w1 (hp.below hb)
  have HLV : Hid (∀ w1, Below w.heap.size w w1 → Calls Tryd.prog 23 #[.slice (some ⟨w1.heap.size, 0, none⟩) 3 3] (w1.alloc (.cells #[.int .i64 t.kind, .int .i64 t.num, .string t.name, .slice ta t.args.length tc, .int .i64 u.kind, .int .i64 u.num, .string u.name, .slice ua u.args.length uc, .int .i64 s.kind, .int .i64 s.num, .string s.name, .slice sa s.args.length sc] 24)) fun e w' => e = .returned (.bool (validB t && (validB u && (validB s && true)))) ∧ Below w1.heap.size w1 w') := fun w1 hb => by
    have hb2 : Below w1.heap.size w1 (w1.alloc (.cells #[.int .i64 t.kind, .int .i64 t.num, .string t.name, .slice ta t.args.length tc, .int .i64 u.kind, .int .i64 u.num, .string u.name, .slice ua u.args.length uc, .int .i64 s.kind, .int .i64 s.num, .string s.name, .slice sa s.args.length sc] 24)) := (Below.refl _ _).alloc (Nat.le_refl _) _
    refine (lvalid_any w1.heap.size 0 3 3 [(t, .slice ta t.args.length tc), (u, .slice ua u.args.length uc), (s, .slice sa s.args.length sc)] _ rfl (by omega) (by omega) (row_new _ _ _ rfl) (env_mem (by simp only [EnvT]; exact ⟨(h.below hb).below hb2, (hx.below hb).below hb2, (hy.below hb).below hb2, trivial⟩))).mono ?_
    rintro e w' ⟨h1, h2⟩
    exact ⟨h1, hb2.trans (h2.mono hb2.size)⟩
  have HBD : Hid (q1 = -1 ∨ q1 = 0 ∨ q1 = 1) := hbd
  have E0 := Lib.hid ((((Env.start w).box rfl (.int .i64 t.kind) (.int .i64 t.num) (.string t.name) (.slice ta t.args.length tc) 24).box (g := w.heap.size + 1) (by simp) (.int .i64 u.kind) (.int .i64 u.num) (.string u.name) (.slice ua u.args.length uc) 24).box (g := w.heap.size + 1 + 1) (by simp) (.int .i64 s.kind) (.int .i64 s.num) (.string s.name) (.slice sa s.args.length sc) 24)
  have HV3 : Hid (validB t = true → validB u = true → sameV t u = (q1 == 0)) := fun a b => by rw [← hQ1]; exact same_cmp t u a b
  have HV4 : Hid (validB t = true → validB u = true → validB s = true → q1 ≤ 0 → q3 ≤ 0 → q4 ≤ 0) := fun a b c d e => by rw [← hQ4]; exact cmpV_le t u s a b c (by rw [hQ1]; exact d) (by rw [hQ3]; exact e)
  have n0 : IntKind.i64.wrap (-q2) = q1 := by rw [show -q2 = q1 by omega]; exact IntWalk.i64_in _ (by omega)
  have n1 : (q1 != IntKind.i64.wrap (-q2)) = false := by rw [n0]; simp
  have n4 : (q1 == IntKind.i64.wrap (-q2)) = true := by rw [n0]; simp
  clear h hx hy hp hQ1 hQ2 hQ3 hQ4 hbd hN2 n0
  simp only [tv]
  go_enter Tryd.func6, Tryd.ntmps6
  go_wp2_with fail
  have B0 := Lib.hid (Env.b E0.out)
  have EC := E0.out.c
  clear E0
  generalize (((w.alloc (.cells #[.int .i64 t.kind, .int .i64 t.num, .string t.name, .slice ta t.args.length tc] 24)).alloc (.cells #[.int .i64 u.kind, .int .i64 u.num, .string u.name, .slice ua u.args.length uc] 24)).alloc (.cells #[.int .i64 s.kind, .int .i64 s.num, .string s.name, .slice sa s.args.length sc] 24)) = W0 at *
  have cs0 := EC.hd
  have cs1 := EC.tl.hd
  have cs2 := EC.tl.tl.hd
  have cs3 := EC.tl.tl.tl.hd
  have cu0 := EC.tl.tl.tl.tl.hd
  have cu1 := EC.tl.tl.tl.tl.tl.hd
  have cu2 := EC.tl.tl.tl.tl.tl.tl.hd
  have cu3 := EC.tl.tl.tl.tl.tl.tl.tl.hd
  have ct0 := EC.tl.tl.tl.tl.tl.tl.tl.tl.hd
  have ct1 := EC.tl.tl.tl.tl.tl.tl.tl.tl.tl.hd
  have ct2 := EC.tl.tl.tl.tl.tl.tl.tl.tl.tl.tl.hd
  have ct3 := EC.tl.tl.tl.tl.tl.tl.tl.tl.tl.tl.tl.hd
  clear EC
  have hS0 : Below W0.heap.size W0 W0.drew := (Below.refl _ _).drew
  have HS : Hid (∀ w', Below W0.heap.size W0 w' → (fun w' => Below W0.heap.size W0 w' ∧ w'.cell? ⟨w.heap.size, 0, none⟩ = some (.int .i64 t.kind) ∧ w'.cell? ⟨w.heap.size, 1, none⟩ = some (.int .i64 t.num) ∧ w'.cell? ⟨w.heap.size, 2, none⟩ = some (.string t.name) ∧ w'.cell? ⟨w.heap.size, 3, none⟩ = some (.slice ta t.args.length tc) ∧ w'.cell? ⟨w.heap.size + 1, 0, none⟩ = some (.int .i64 u.kind) ∧ w'.cell? ⟨w.heap.size + 1, 1, none⟩ = some (.int .i64 u.num) ∧ w'.cell? ⟨w.heap.size + 1, 2, none⟩ = some (.string u.name) ∧ w'.cell? ⟨w.heap.size + 1, 3, none⟩ = some (.slice ua u.args.length uc) ∧ w'.cell? ⟨w.heap.size + 1 + 1, 0, none⟩ = some (.int .i64 s.kind) ∧ w'.cell? ⟨w.heap.size + 1 + 1, 1, none⟩ = some (.int .i64 s.num) ∧ w'.cell? ⟨w.heap.size + 1 + 1, 2, none⟩ = some (.string s.name) ∧ w'.cell? ⟨w.heap.size + 1 + 1, 3, none⟩ = some (.slice sa s.args.length sc)) w') := fun w' h => ⟨h, cell_below h _ _ ct0, cell_below h _ _ ct1, cell_below h _ _ ct2, cell_below h _ _ ct3, cell_below h _ _ cu0, cell_below h _ _ cu1, cell_below h _ _ cu2, cell_below h _ _ cu3, cell_below h _ _ cs0, cell_below h _ _ cs1, cell_below h _ _ cs2, cell_below h _ _ cs3⟩
  go_region_held3 (fun w' => Below W0.heap.size W0 w' ∧ w'.cell? ⟨w.heap.size, 0, none⟩ = some (.int .i64 t.kind) ∧ w'.cell? ⟨w.heap.size, 1, none⟩ = some (.int .i64 t.num) ∧ w'.cell? ⟨w.heap.size, 2, none⟩ = some (.string t.name) ∧ w'.cell? ⟨w.heap.size, 3, none⟩ = some (.slice ta t.args.length tc) ∧ w'.cell? ⟨w.heap.size + 1, 0, none⟩ = some (.int .i64 u.kind) ∧ w'.cell? ⟨w.heap.size + 1, 1, none⟩ = some (.int .i64 u.num) ∧ w'.cell? ⟨w.heap.size + 1, 2, none⟩ = some (.string u.name) ∧ w'.cell? ⟨w.heap.size + 1, 3, none⟩ = some (.slice ua u.args.length uc) ∧ w'.cell? ⟨w.heap.size + 1 + 1, 0, none⟩ = some (.int .i64 s.kind) ∧ w'.cell? ⟨w.heap.size + 1 + 1, 1, none⟩ = some (.int .i64 s.num) ∧ w'.cell? ⟨w.heap.size + 1 + 1, 2, none⟩ = some (.string s.name) ∧ w'.cell? ⟨w.heap.size + 1 + 1, 3, none⟩ = some (.slice sa s.args.length sc))
    (first | exact HS.out _ h5 | exact HS.out _ hS0 | assumption)
    (first
      | (go_at_call 12; ((with_reducible refine (Q1.out _ (B0.out.trans (Below.mono (by assumption : Below W0.heap.size W0 _) B0.out.size))).mono ?_); rintro e w3 ⟨rfl, hb3⟩; have h5 : Below W0.heap.size W0 w3 := Below.trans (by assumption : Below W0.heap.size W0 _) (hb3.mono (Below.size (by assumption : Below W0.heap.size W0 _)))))
      | (go_at_call 12; ((with_reducible refine (Q2.out _ (B0.out.trans (Below.mono (by assumption : Below W0.heap.size W0 _) B0.out.size))).mono ?_); rintro e w4 ⟨rfl, hb4⟩; have h5 : Below W0.heap.size W0 w4 := Below.trans (by assumption : Below W0.heap.size W0 _) (hb4.mono (Below.size (by assumption : Below W0.heap.size W0 _))))))
  have B4 := Lib.hid (B0.out.trans (h5.mono B0.out.size))
  have dt0 := cell_below h5 _ _ ct0
  have dt1 := cell_below h5 _ _ ct1
  have dt2 := cell_below h5 _ _ ct2
  have dt3 := cell_below h5 _ _ ct3
  have du0 := cell_below h5 _ _ cu0
  have du1 := cell_below h5 _ _ cu1
  have du2 := cell_below h5 _ _ cu2
  have du3 := cell_below h5 _ _ cu3
  have ds0 := cell_below h5 _ _ cs0
  have ds1 := cell_below h5 _ _ cs1
  have ds2 := cell_below h5 _ _ cs2
  have ds3 := cell_below h5 _ _ cs3
  clear ct0 ct1 ct2 ct3 cu0 cu1 cu2 cu3 cs0 cs1 cs2 cs3
  clear h5 hS0 HS
  obtain ⟨z, hz⟩ : ∃ z, (validB t && (validB u && (validB s && true))) = z := ⟨_, rfl⟩
  rw [hz] at HLV
  have HZ := Lib.hid hz
  clear hz
  cases z
  · go_wp2_with (first
      | (go_at_call 23; refine (HLV.out _ B4.out).mono ?_; rintro e w5 ⟨rfl, hb5⟩)
      | (go_at_call 14; refine (HAW.out _ (B4.out.trans (hb5.mono B4.out.size))).mono ?_; rintro e w6 ⟨rfl, hb6⟩))
    go_ret
    have h8 := B4.out.trans (hb5.mono B4.out.size)
    exact ⟨rfl, h8.trans (hb6.mono h8.size)⟩
  · have hv := HZ.out
    simp only [Bool.and_eq_true, and_true] at hv
    have hsm := HV3.out hv.1 hv.2.1
    have HLE := Lib.hid (HV4.out hv.1 hv.2.1 hv.2.2)
    rw [hsm] at HSM
    clear hsm hv HV3 HV4
    go_wp2_with fail
    refine (HLV.out _ B4.out).mono ?_
    rintro e w5 ⟨rfl, hb5⟩
    have B5 := Lib.hid (B4.out.trans (hb5.mono B4.out.size))
    have ct0 := cell_below hb5 _ _ dt0
    have ct1 := cell_below hb5 _ _ dt1
    have ct2 := cell_below hb5 _ _ dt2
    have ct3 := cell_below hb5 _ _ dt3
    have cu0 := cell_below hb5 _ _ du0
    have cu1 := cell_below hb5 _ _ du1
    have cu2 := cell_below hb5 _ _ du2
    have cu3 := cell_below hb5 _ _ du3
    have cs0 := cell_below hb5 _ _ ds0
    have cs1 := cell_below hb5 _ _ ds1
    have cs2 := cell_below hb5 _ _ ds2
    have cs3 := cell_below hb5 _ _ ds3
    clear dt0 dt1 dt2 dt3 du0 du1 du2 du3 ds0 ds1 ds2 ds3
    clear hb5
    go_wp2_with fail
    have hS0 : Below w5.heap.size w5 w5.drew := (Below.refl _ _).drew
    have HS : Hid (∀ w', Below w5.heap.size w5 w' → (fun w' => Below w5.heap.size w5 w' ∧ w'.cell? ⟨w.heap.size, 0, none⟩ = some (.int .i64 t.kind) ∧ w'.cell? ⟨w.heap.size, 1, none⟩ = some (.int .i64 t.num) ∧ w'.cell? ⟨w.heap.size, 2, none⟩ = some (.string t.name) ∧ w'.cell? ⟨w.heap.size, 3, none⟩ = some (.slice ta t.args.length tc) ∧ w'.cell? ⟨w.heap.size + 1, 0, none⟩ = some (.int .i64 u.kind) ∧ w'.cell? ⟨w.heap.size + 1, 1, none⟩ = some (.int .i64 u.num) ∧ w'.cell? ⟨w.heap.size + 1, 2, none⟩ = some (.string u.name) ∧ w'.cell? ⟨w.heap.size + 1, 3, none⟩ = some (.slice ua u.args.length uc)) w') := fun w' h => ⟨h, cell_below h _ _ ct0, cell_below h _ _ ct1, cell_below h _ _ ct2, cell_below h _ _ ct3, cell_below h _ _ cu0, cell_below h _ _ cu1, cell_below h _ _ cu2, cell_below h _ _ cu3⟩
    go_region_held3 (fun w' => Below w5.heap.size w5 w' ∧ w'.cell? ⟨w.heap.size, 0, none⟩ = some (.int .i64 t.kind) ∧ w'.cell? ⟨w.heap.size, 1, none⟩ = some (.int .i64 t.num) ∧ w'.cell? ⟨w.heap.size, 2, none⟩ = some (.string t.name) ∧ w'.cell? ⟨w.heap.size, 3, none⟩ = some (.slice ta t.args.length tc) ∧ w'.cell? ⟨w.heap.size + 1, 0, none⟩ = some (.int .i64 u.kind) ∧ w'.cell? ⟨w.heap.size + 1, 1, none⟩ = some (.int .i64 u.num) ∧ w'.cell? ⟨w.heap.size + 1, 2, none⟩ = some (.string u.name) ∧ w'.cell? ⟨w.heap.size + 1, 3, none⟩ = some (.slice ua u.args.length uc))
      (first | exact HS.out _ h5 | exact HS.out _ hS0 | assumption)
      (first
        | (go_at_call 12; ((with_reducible refine (Q1.out _ (B5.out.trans (Below.mono (by assumption : Below w5.heap.size w5 _) B5.out.size))).mono ?_); rintro e w7 ⟨rfl, hb7⟩; have h5 : Below w5.heap.size w5 w7 := Below.trans (by assumption : Below w5.heap.size w5 _) (hb7.mono (Below.size (by assumption : Below w5.heap.size w5 _)))))
        | (go_at_call 28; ((with_reducible refine (HSM.out _ (B5.out.trans (Below.mono (by assumption : Below w5.heap.size w5 _) B5.out.size))).mono ?_); rintro e w8 ⟨rfl, hb8⟩; have h5 : Below w5.heap.size w5 w8 := Below.trans (by assumption : Below w5.heap.size w5 _) (hb8.mono (Below.size (by assumption : Below w5.heap.size w5 _))))))
    have B8 := Lib.hid (B5.out.trans (h5.mono B5.out.size))
    have dt0 := cell_below h5 _ _ ct0
    have dt1 := cell_below h5 _ _ ct1
    have dt2 := cell_below h5 _ _ ct2
    have dt3 := cell_below h5 _ _ ct3
    have du0 := cell_below h5 _ _ cu0
    have du1 := cell_below h5 _ _ cu1
    have du2 := cell_below h5 _ _ cu2
    have du3 := cell_below h5 _ _ cu3
    have ds0 := cell_below h5 _ _ cs0
    have ds1 := cell_below h5 _ _ cs1
    have ds2 := cell_below h5 _ _ cs2
    have ds3 := cell_below h5 _ _ cs3
    clear ct0 ct1 ct2 ct3 cu0 cu1 cu2 cu3 cs0 cs1 cs2 cs3
    clear h5 hS0 HS
    by_cases g1 : q1 ≤ 0
    · have e1 : decide (q1 ≤ 0) = true := by simpa using g1
      by_cases g3 : q3 ≤ 0
      · have e3 : decide (q3 ≤ 0) = true := by simpa using g3
        have g4 := HLE.out g1 g3
        have e4 : decide (0 < q4) = false := by simp; omega
        go_wp2_with fail
        refine (Q1.out _ B8.out).mono ?_
        rintro e w9 ⟨rfl, hb9⟩
        have B9 := Lib.hid (B8.out.trans (hb9.mono B8.out.size))
        have e9t0 := cell_below hb9 _ _ dt0
        have e9t1 := cell_below hb9 _ _ dt1
        have e9t2 := cell_below hb9 _ _ dt2
        have e9t3 := cell_below hb9 _ _ dt3
        have e9u0 := cell_below hb9 _ _ du0
        have e9u1 := cell_below hb9 _ _ du1
        have e9u2 := cell_below hb9 _ _ du2
        have e9u3 := cell_below hb9 _ _ du3
        have e9s0 := cell_below hb9 _ _ ds0
        have e9s1 := cell_below hb9 _ _ ds1
        have e9s2 := cell_below hb9 _ _ ds2
        have e9s3 := cell_below hb9 _ _ ds3
        clear dt0 dt1 dt2 dt3 du0 du1 du2 du3 ds0 ds1 ds2 ds3
        clear hb9
        go_wp2_with fail
        refine (Q3.out _ B9.out).mono ?_
        rintro e w10 ⟨rfl, hb10⟩
        have B10 := Lib.hid (B9.out.trans (hb10.mono B9.out.size))
        have e10t0 := cell_below hb10 _ _ e9t0
        have e10t1 := cell_below hb10 _ _ e9t1
        have e10t2 := cell_below hb10 _ _ e9t2
        have e10t3 := cell_below hb10 _ _ e9t3
        have e10u0 := cell_below hb10 _ _ e9u0
        have e10u1 := cell_below hb10 _ _ e9u1
        have e10u2 := cell_below hb10 _ _ e9u2
        have e10u3 := cell_below hb10 _ _ e9u3
        have e10s0 := cell_below hb10 _ _ e9s0
        have e10s1 := cell_below hb10 _ _ e9s1
        have e10s2 := cell_below hb10 _ _ e9s2
        have e10s3 := cell_below hb10 _ _ e9s3
        clear e9t0 e9t1 e9t2 e9t3 e9u0 e9u1 e9u2 e9u3 e9s0 e9s1 e9s2 e9s3
        clear hb10
        go_wp2_with fail
        refine (Q4.out _ B10.out).mono ?_
        rintro e w11 ⟨rfl, hb11⟩
        have B11 := Lib.hid (B10.out.trans (hb11.mono B10.out.size))
        have e11t0 := cell_below hb11 _ _ e10t0
        have e11t1 := cell_below hb11 _ _ e10t1
        have e11t2 := cell_below hb11 _ _ e10t2
        have e11t3 := cell_below hb11 _ _ e10t3
        have e11u0 := cell_below hb11 _ _ e10u0
        have e11u1 := cell_below hb11 _ _ e10u1
        have e11u2 := cell_below hb11 _ _ e10u2
        have e11u3 := cell_below hb11 _ _ e10u3
        have e11s0 := cell_below hb11 _ _ e10s0
        have e11s1 := cell_below hb11 _ _ e10s1
        have e11s2 := cell_below hb11 _ _ e10s2
        have e11s3 := cell_below hb11 _ _ e10s3
        clear e10t0 e10t1 e10t2 e10t3 e10u0 e10u1 e10u2 e10u3 e10s0 e10s1 e10s2 e10s3
        clear hb11
        go_wp2_with fail
        refine (HAW.out _ B11.out).mono ?_
        rintro e w12 ⟨rfl, hb12⟩
        go_wp2_with fail
        go_ret
        exact ⟨rfl, B11.out.trans (hb12.mono B11.out.size)⟩
      · have e3 : decide (q3 ≤ 0) = false := by simpa using g3
        go_wp2_with fail
        refine (Q1.out _ B8.out).mono ?_
        rintro e w9 ⟨rfl, hb9⟩
        have B9 := Lib.hid (B8.out.trans (hb9.mono B8.out.size))
        have e9t0 := cell_below hb9 _ _ dt0
        have e9t1 := cell_below hb9 _ _ dt1
        have e9t2 := cell_below hb9 _ _ dt2
        have e9t3 := cell_below hb9 _ _ dt3
        have e9u0 := cell_below hb9 _ _ du0
        have e9u1 := cell_below hb9 _ _ du1
        have e9u2 := cell_below hb9 _ _ du2
        have e9u3 := cell_below hb9 _ _ du3
        have e9s0 := cell_below hb9 _ _ ds0
        have e9s1 := cell_below hb9 _ _ ds1
        have e9s2 := cell_below hb9 _ _ ds2
        have e9s3 := cell_below hb9 _ _ ds3
        clear dt0 dt1 dt2 dt3 du0 du1 du2 du3 ds0 ds1 ds2 ds3
        clear hb9
        go_wp2_with fail
        refine (Q3.out _ B9.out).mono ?_
        rintro e w10 ⟨rfl, hb10⟩
        have B10 := Lib.hid (B9.out.trans (hb10.mono B9.out.size))
        have e10t0 := cell_below hb10 _ _ e9t0
        have e10t1 := cell_below hb10 _ _ e9t1
        have e10t2 := cell_below hb10 _ _ e9t2
        have e10t3 := cell_below hb10 _ _ e9t3
        have e10u0 := cell_below hb10 _ _ e9u0
        have e10u1 := cell_below hb10 _ _ e9u1
        have e10u2 := cell_below hb10 _ _ e9u2
        have e10u3 := cell_below hb10 _ _ e9u3
        have e10s0 := cell_below hb10 _ _ e9s0
        have e10s1 := cell_below hb10 _ _ e9s1
        have e10s2 := cell_below hb10 _ _ e9s2
        have e10s3 := cell_below hb10 _ _ e9s3
        clear e9t0 e9t1 e9t2 e9t3 e9u0 e9u1 e9u2 e9u3 e9s0 e9s1 e9s2 e9s3
        clear hb10
        go_wp2_with fail
        refine (HAW.out _ B10.out).mono ?_
        rintro e w11 ⟨rfl, hb11⟩
        go_wp2_with fail
        go_ret
        exact ⟨rfl, B10.out.trans (hb11.mono B10.out.size)⟩
    · have e1 : decide (q1 ≤ 0) = false := by simpa using g1
      go_wp2_with fail
      refine (Q1.out _ B8.out).mono ?_
      rintro e w9 ⟨rfl, hb9⟩
      have B9 := Lib.hid (B8.out.trans (hb9.mono B8.out.size))
      have e9t0 := cell_below hb9 _ _ dt0
      have e9t1 := cell_below hb9 _ _ dt1
      have e9t2 := cell_below hb9 _ _ dt2
      have e9t3 := cell_below hb9 _ _ dt3
      have e9u0 := cell_below hb9 _ _ du0
      have e9u1 := cell_below hb9 _ _ du1
      have e9u2 := cell_below hb9 _ _ du2
      have e9u3 := cell_below hb9 _ _ du3
      have e9s0 := cell_below hb9 _ _ ds0
      have e9s1 := cell_below hb9 _ _ ds1
      have e9s2 := cell_below hb9 _ _ ds2
      have e9s3 := cell_below hb9 _ _ ds3
      clear dt0 dt1 dt2 dt3 du0 du1 du2 du3 ds0 ds1 ds2 ds3
      clear hb9
      go_wp2_with fail
      refine (HAW.out _ B9.out).mono ?_
      rintro e w10 ⟨rfl, hb10⟩
      go_wp2_with fail
      go_ret
      exact ⟨rfl, B9.out.trans (hb10.mono B9.out.size)⟩

end Go.Proofs.YtehnhjhflaljhaaDoor
