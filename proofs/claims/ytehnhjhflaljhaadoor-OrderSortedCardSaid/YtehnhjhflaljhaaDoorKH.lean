/- The specification's Sort and Rank. -/
import Derived.Test.YtehnhjhflaljhaaDoorKG
namespace Go.Proofs.YtehnhjhflaljhaaDoor
open Go.RowKit Go.Proofs.HT

theorem cptN_len (eq : PV → PV → Bool) (l : List PV) : ∀ i, (cptN eq l i).length ≤ i
  | 0 => by simp [cptN]
  | 1 => by simp [cptN]; omega
  | i + 2 => by
    have ih := cptN_len eq l (i + 1)
    rw [cptN]
    split
    · omega
    · simp; omega
theorem own_keep {w w' : World} {base n size : Nat} {e : TypeId} {v : Value} {xs : List Value} (h : w.ownsRow base e size v n xs) (hb : Below w.heap.size w w') : w'.ownsRow base e size v n xs := by
  refine ⟨h.1, ?_⟩
  rcases h.2 with hn | ⟨g, cap, cur, rfl, hbg, hgg, rest⟩
  · exact .inl hn
  · exact .inr ⟨g, cap, cur, rfl, hbg, (hb.block g (Array.getElem?_eq_some_iff.1 hgg).1).trans hgg, rest⟩
theorem cptN_pos (eq : PV → PV → Bool) (l : List PV) (h : 0 < l.length) : ∀ i, 0 < i → 0 < (cptN eq l i).length
  | 1, _ => by simp [cptN]; omega
  | i + 2, _ => by
    have ih := cptN_pos eq l h (i + 1) (by omega)
    rw [cptN]
    split
    · exact ih
    · simp
theorem cptN_one (eq : PV → PV → Bool) (l : List PV) (h : 0 < l.length) : cptN eq l 1 = [l.getD 0 dflt] := by
  rw [getD_at l 0 h]
  cases l with
  | nil => simp at h
  | cons a l => simp [cptN]

set_option maxHeartbeats 8000000 in
theorem rsort_of (_b _off n _cap : Nat) (arg : Value) (R : List PV) (w : World) (hn : R.length = n) (hn0 : 0 < n) (hn2 : n ≤ 1000)
    (HST : Hid (Calls Tryd.prog 20 #[arg] w (ResO R 0 w))) (HLR : Hid (∀ p ∈ R, LiesT w p.1 p.2 ∧ nodesB p.1 = true)) :
    Calls Tryd.prog 19 #[arg] w (ResO (cptN eqP R n) 0 w) := by
  have HN := Lib.hid hn
  clear hn
  go_enter Tryd.func19, Tryd.ntmps19
  go_wp2_with fail
  refine HST.out.mono ?_
  rintro e w1 ⟨v1, rfl, hv, hb1⟩
  obtain ⟨g, cap1, pad, rfl, hcap, hg, hrow⟩ : ∃ g cap1 pad, v1 = .slice (some ⟨g, 0, none⟩) n cap1 ∧ n ≤ cap1 ∧ w.heap.size ≤ g ∧ RowAt w1 g R pad 24 := by
    rcases hv with ⟨h, _⟩ | ⟨_, g, cap1, pad, h1, h2, h3, h4⟩
    · have := HN.out; rw [h] at this; simp at this; omega
    · rw [HN.out] at h1 h2; exact ⟨g, cap1, pad, h1, h2, h3, h4⟩
  have HR : Hid (RowIn w1 g 0 R) := Lib.hid (RowAt.rowIn hrow)
  have HB1 := Lib.hid hb1
  have HL : Hid (∀ p ∈ R, LiesT w1 p.1 p.2 ∧ nodesB p.1 = true) := fun p hp => ⟨(HLR.out p hp).1.below hb1, (HLR.out p hp).2⟩
  clear hv hg hrow hb1
  go_wp2_with fail
  go_loopw [6, 7] (fun vq vi wr => ∃ (j m : Nat) (vo : Value), vo = vq ∧ j ≤ n ∧ m ≤ j ∧ (0 < j → 0 < m) ∧ vi = .int .i64 j ∧ Hid (wr.ownsRow w1.heap.size 24 4 vo m (flat (cptN eqP R j))) ∧ Hid ((cptN eqP R j).length = m) ∧ Hid (m = 0 → vo = .slice none 0 0) ∧ Hid (Below w1.heap.size w1 wr)) (fun _ vi _ => n - (intOf vi).toNat)
  case atStart => exact ⟨0, 0, _, rfl, by omega, by omega, by omega, rfl, Lib.hid (own_none _ _), Lib.hid rfl, Lib.hid (fun _ => rfl), Lib.hid (Below.refl _ _)⟩
  case round =>
    obtain ⟨j, m, vo, rfl, hj, hmj, hm0, rfl, hown, hlen, hz, hb⟩ := hrel
    by_cases hlt : j < n
    · by_cases hj0 : 0 < j
      · obtain ⟨y, hy⟩ : ∃ y : Nat, y = j - 1 := ⟨_, rfl⟩
        have hY : (j : Int) - 1 = (y : Int) := by omega
        have hyn : y < n := by omega
        have HY := Lib.hid hy
        clear hy
        have hkp : y < R.length := by have := HN.out; omega
        have cp := (HR.out.below hb.out).at y hkp
        have mp := HL.out _ (List.getElem_mem hkp)
        have gp := getD_at R y hkp
        obtain ⟨ep, hep⟩ : ∃ q, R[y] = q := ⟨_, rfl⟩
        rw [hep] at cp mp gp
        obtain ⟨tp, vp⟩ := ep
        obtain ⟨pa, pc, ev⟩ := mp.1.slice
        obtain rfl : vp = .slice pa tp.args.length pc := ev
        obtain ⟨p0, p1, p2, p3⟩ := cp
        have HGp := Lib.hid gp
        have HMp := Lib.hid mp
        clear gp hep mp hkp
        have hkq : j < R.length := by have := HN.out; omega
        have cq := (HR.out.below hb.out).at j hkq
        have mq := HL.out _ (List.getElem_mem hkq)
        have gq := getD_at R j hkq
        obtain ⟨eq, heq⟩ : ∃ q, R[j] = q := ⟨_, rfl⟩
        rw [heq] at cq mq gq
        obtain ⟨tq, vq⟩ := eq
        obtain ⟨qa, qc, ev⟩ := mq.1.slice
        obtain rfl : vq = .slice qa tq.args.length qc := ev
        obtain ⟨q0, q1, q2, q3⟩ := cq
        have HGq := Lib.hid gq
        have HMq := Lib.hid mq
        clear gq heq mq hkq
        simp only [Nat.zero_add] at p0 p1 p2 p3 q0 q1 q2 q3
        obtain ⟨z, hz0⟩ : ∃ z, cT tp tq = z := ⟨_, rfl⟩
        have HCC : Hid (∀ w', Below wr.heap.size wr w' → Calls Tryd.prog 38 #[tv tp (.slice pa tp.args.length pc), tv tq (.slice qa tq.args.length qc)] w' fun e w'' => e = .returned (.int .i64 z) ∧ Below w'.heap.size w' w'') := fun w' h => by
          rw [← hz0]
          have hb3 := hb.out.trans (h.mono hb.out.size)
          exact compR_any _ _ _ _ _ (HMp.out.1.below hb3) (HMq.out.1.below hb3) HMp.out.2 HMq.out.2
        have HEQ : Hid (eqP (R.getD j dflt) (R.getD (j - 1) dflt) = (z == 0)) := by
          show _ = _
          have hyj : R.getD (j - 1) dflt = (tp, .slice pa tp.args.length pc) := by rw [← HY.out]; exact HGp.out
          rw [HGq.out, hyj, ← hz0]
          show (cT tq tp == 0) = (cT tp tq == 0)
          rw [cT_neg tp tq, Bool.eq_iff_iff, beq_iff_eq, beq_iff_eq]; omega
        clear hz0
        have wy := sub_bits y (by omega)
        have ly0 : (0 : Int) ≤ (y : Int) := by omega
        have ly1 : (y : Int) < (n : Int) := by omega
        have lj0 : (0 : Int) ≤ (j : Int) := by omega
        have lj1 : (j : Int) < (n : Int) := by omega
        have dj : ((j : Int) == 0) = false := by simp; omega
        have dj2 : (j == 0) = false := by simp; omega
        have hS0 : Below wr.heap.size wr wr.drew := (Below.refl _ _).drew
        have HS : Hid (∀ w', Below wr.heap.size wr w' → (fun w' => Below wr.heap.size wr w' ∧ w'.cell? ⟨g, y * 4, none⟩ = some (.int .i64 tp.kind) ∧ w'.cell? ⟨g, y * 4 + 1, none⟩ = some (.int .i64 tp.num) ∧ w'.cell? ⟨g, y * 4 + 2, none⟩ = some (.string tp.name) ∧ w'.cell? ⟨g, y * 4 + 3, none⟩ = some (.slice pa tp.args.length pc) ∧ w'.cell? ⟨g, j * 4, none⟩ = some (.int .i64 tq.kind) ∧ w'.cell? ⟨g, j * 4 + 1, none⟩ = some (.int .i64 tq.num) ∧ w'.cell? ⟨g, j * 4 + 2, none⟩ = some (.string tq.name) ∧ w'.cell? ⟨g, j * 4 + 3, none⟩ = some (.slice qa tq.args.length qc)) w') := fun w' h => ⟨h, cell_below h _ _ p0, cell_below h _ _ p1, cell_below h _ _ p2, cell_below h _ _ p3, cell_below h _ _ q0, cell_below h _ _ q1, cell_below h _ _ q2, cell_below h _ _ q3⟩
        rcases zero_cases z with rfl | ⟨z1, z2⟩
        · go_wp2_with fail
          go_region_held3 (fun w' => Below wr.heap.size wr w' ∧ w'.cell? ⟨g, y * 4, none⟩ = some (.int .i64 tp.kind) ∧ w'.cell? ⟨g, y * 4 + 1, none⟩ = some (.int .i64 tp.num) ∧ w'.cell? ⟨g, y * 4 + 2, none⟩ = some (.string tp.name) ∧ w'.cell? ⟨g, y * 4 + 3, none⟩ = some (.slice pa tp.args.length pc) ∧ w'.cell? ⟨g, j * 4, none⟩ = some (.int .i64 tq.kind) ∧ w'.cell? ⟨g, j * 4 + 1, none⟩ = some (.int .i64 tq.num) ∧ w'.cell? ⟨g, j * 4 + 2, none⟩ = some (.string tq.name) ∧ w'.cell? ⟨g, j * 4 + 3, none⟩ = some (.slice qa tq.args.length qc))
            (first | exact HS.out _ h5 | exact HS.out _ hS0 | assumption | go_keep)
            (first
              | (go_at_call 38; ((with_reducible refine (HCC.out _ (by assumption : Below wr.heap.size wr _)).mono ?_); rintro e w4 ⟨rfl, hb4⟩; have h5 : Below wr.heap.size wr w4 := Below.trans (by assumption : Below wr.heap.size wr _) (hb4.mono (Below.size (by assumption : Below wr.heap.size wr _))))))
          have H5 := Lib.hid h5
          clear p0 p1 p2 p3 q0 q1 q2 q3 h5 hS0 HS
          have HSM : Hid (cptN eqP R (j + 1) = cptN eqP R j) := Lib.hid (cptN_same (by omega) (by rw [HEQ.out]; rfl))
          clear wy hY dj dj2
          go_wp2_with fail
          go_roundw
          case rel => exact ⟨j + 1, m, vo, rfl, by omega, by omega, fun _ => hm0 hj0, by go_num, Lib.hid (by rw [HSM.out]; exact own_keep hown.out H5.out), Lib.hid (by rw [HSM.out]; exact hlen.out), hz, Lib.hid (hb.out.trans (H5.out.mono hb.out.size))⟩
          case measure => simp [intOf]; omega
        · go_wp2_with fail
          go_region_held3 (fun w' => Below wr.heap.size wr w' ∧ w'.cell? ⟨g, y * 4, none⟩ = some (.int .i64 tp.kind) ∧ w'.cell? ⟨g, y * 4 + 1, none⟩ = some (.int .i64 tp.num) ∧ w'.cell? ⟨g, y * 4 + 2, none⟩ = some (.string tp.name) ∧ w'.cell? ⟨g, y * 4 + 3, none⟩ = some (.slice pa tp.args.length pc) ∧ w'.cell? ⟨g, j * 4, none⟩ = some (.int .i64 tq.kind) ∧ w'.cell? ⟨g, j * 4 + 1, none⟩ = some (.int .i64 tq.num) ∧ w'.cell? ⟨g, j * 4 + 2, none⟩ = some (.string tq.name) ∧ w'.cell? ⟨g, j * 4 + 3, none⟩ = some (.slice qa tq.args.length qc))
            (first | exact HS.out _ h5 | exact HS.out _ hS0 | assumption | go_keep)
            (first
              | (go_at_call 38; ((with_reducible refine (HCC.out _ (by assumption : Below wr.heap.size wr _)).mono ?_); rintro e w4 ⟨rfl, hb4⟩; have h5 : Below wr.heap.size wr w4 := Below.trans (by assumption : Below wr.heap.size wr _) (hb4.mono (Below.size (by assumption : Below wr.heap.size wr _))))))
          have H5 := Lib.hid h5
          have r0 := cell_below h5 _ _ q0
          have r1 := cell_below h5 _ _ q1
          have r2 := cell_below h5 _ _ q2
          have r3 := cell_below h5 _ _ q3
          clear p0 p1 p2 p3 q0 q1 q2 q3 h5 hS0 HS
          have HWB := Lib.hid (hb.out.trans (H5.out.mono hb.out.size))
          have HOW := Lib.hid (own_keep hown.out H5.out)
          have HNX : Hid (cptN eqP R (j + 1) = cptN eqP R j ++ [(tq, (.slice qa tq.args.length qc : Value))]) := Lib.hid (by rw [cptN_next (by omega) (by rw [HEQ.out]; exact z1), HGq.out])
          clear wy hY dj dj2
          have HW1 : Hid (Below w1.heap.size w1 (w4.alloc (.cells #[.int .i64 tq.kind, .int .i64 tq.num, .string tq.name, .slice qa tq.args.length qc] 24))) := Lib.hid (HWB.out.alloc HWB.out.size _)
          have HO1 : Hid ((w4.alloc (.cells #[.int .i64 tq.kind, .int .i64 tq.num, .string tq.name, .slice qa tq.args.length qc] 24)).ownsRow w1.heap.size 24 4 vo m (flat (cptN eqP R j))) := Lib.hid (HOW.out.alloc _)
          have HRN : Hid (∀ k u, (flat [(tq, (.slice qa tq.args.length qc : Value))])[k]? = some u → (w4.alloc (.cells #[.int .i64 tq.kind, .int .i64 tq.num, .string tq.name, .slice qa tq.args.length qc] 24)).cell? (Addr.add ⟨w4.heap.size, 0, none⟩ k) = some u) := fun k u hq => by
            rw [Addr.add_lit]; exact row_new (w := w4) #[.int .i64 tq.kind, .int .i64 tq.num, .string tq.name, .slice qa tq.args.length qc] [(tq, (.slice qa tq.args.length qc : Value))] 24 rfl k u hq
          have HV1 : Hid (∀ q ∈ [(tq, (.slice qa tq.args.length qc : Value))], ∃ a c, q.2 = .slice a q.1.args.length c) := fun q hq => by obtain rfl := List.mem_singleton.1 hq; exact ⟨_, _, rfl⟩
          go_wp2_with (at_builtin; refine wp_app rfl _ _ rfl _ w1.heap.size m vo (cptN eqP R j) [(tq, (.slice qa tq.args.length qc : Value))] rfl HO1 ⟨w4.heap.size, 0, none⟩ 1 1 rfl rfl HRN HV1 (by omega) HW1.out.size ?_; intro v2 w2 hown2 hb2 hz2)
          go_roundw
          case rel => exact ⟨j + 1, m + 1, v2, rfl, by omega, by omega, by omega, by go_num, Lib.hid (by rw [HNX.out]; exact hown2.out), Lib.hid (by rw [HNX.out, List.length_append, hlen.out]; rfl), Lib.hid (fun h => by omega), Lib.hid (HW1.out.trans hb2.out)⟩
          case measure => simp [intOf]; omega
      · obtain rfl : j = 0 := by omega
        obtain rfl : m = 0 := by omega
        have hkq : 0 < R.length := by have := HN.out; omega
        have cq := (HR.out.below hb.out).at 0 hkq
        have mq := HL.out _ (List.getElem_mem hkq)
        have gq := getD_at R 0 hkq
        obtain ⟨eq, heq⟩ : ∃ q, R[0] = q := ⟨_, rfl⟩
        rw [heq] at cq mq gq
        obtain ⟨tq, vq⟩ := eq
        obtain ⟨qa, qc, ev⟩ := mq.1.slice
        obtain rfl : vq = .slice qa tq.args.length qc := ev
        obtain ⟨q0, q1, q2, q3⟩ := cq
        have HGq := Lib.hid gq
        have HMq := Lib.hid mq
        clear gq heq mq hkq
        simp only [Nat.zero_add, Nat.zero_mul] at q0 q1 q2 q3
        have dj : (((0 : Nat) : Int) == 0) = true := by simp
        have lj1 : (0 : Int) < (n : Int) := by omega
        have HNX : Hid (cptN eqP R (0 + 1) = cptN eqP R 0 ++ [(tq, (.slice qa tq.args.length qc : Value))]) := Lib.hid (by rw [cptN_one eqP R (by have := HN.out; omega), HGq.out]; rfl)
        have HVZ : Hid (vo = .slice none 0 0) := Lib.hid (hz.out rfl)
        obtain rfl := HVZ.out
        have HW1 : ∀ q, Hid (Below w1.heap.size w1 ((wr.drewN q).alloc (.cells #[.int .i64 tq.kind, .int .i64 tq.num, .string tq.name, .slice qa tq.args.length qc] 24))) := fun q => Lib.hid ((below_drewN hb.out q).alloc (by have := hb.out.size; simpa [World.drewN] using this) _)
        have HO1 : ∀ q, Hid (((wr.drewN q).alloc (.cells #[.int .i64 tq.kind, .int .i64 tq.num, .string tq.name, .slice qa tq.args.length qc] 24)).ownsRow w1.heap.size 24 4 (.slice none 0 0) 0 (flat [])) := fun q => Lib.hid (own_none _ _)
        have HRN : ∀ q, Hid (∀ k u, (flat [(tq, (.slice qa tq.args.length qc : Value))])[k]? = some u → ((wr.drewN q).alloc (.cells #[.int .i64 tq.kind, .int .i64 tq.num, .string tq.name, .slice qa tq.args.length qc] 24)).cell? (Addr.add ⟨wr.heap.size, 0, none⟩ k) = some u) := fun q k u hq => by rw [Addr.add_lit]; exact row_new (w := wr.drewN q) #[.int .i64 tq.kind, .int .i64 tq.num, .string tq.name, .slice qa tq.args.length qc] [(tq, (.slice qa tq.args.length qc : Value))] 24 rfl k u hq
        have HV1 : Hid (∀ q ∈ [(tq, (.slice qa tq.args.length qc : Value))], ∃ a c, q.2 = .slice a q.1.args.length c) := fun q hq => by obtain rfl := List.mem_singleton.1 hq; exact ⟨_, _, rfl⟩
        clear hown hj0
        go_wp2_with fail
        go_quiet (fail)
        go_wp2_with (at_builtin; refine wp_app rfl _ _ rfl _ w1.heap.size 0 (.slice none 0 0) [] [(tq, (.slice qa tq.args.length qc : Value))] rfl (HO1 _) ⟨wr.heap.size, 0, none⟩ 1 1 rfl rfl (HRN _) HV1 (by omega) (HW1 _).out.size ?_; intro v2 w2 hown2 hb2 hz2; have HB2 := Lib.hid ((HW1 _).out.trans hb2.out))
        go_roundw
        case rel => exact ⟨0 + 1, 0 + 1, v2, rfl, by omega, by omega, by omega, by go_num, Lib.hid (by rw [HNX.out]; exact hown2.out), Lib.hid (by rw [HNX.out, List.length_append]; rfl), Lib.hid (fun h => by omega), HB2⟩
        case measure => simp [intOf]; omega
    · have HE : Hid (j = n) := by show _ = _; omega
      go_wp2_with fail
      go_ret2
      exact ⟨vo, rfl, (by have h := OwnV.of_own hown.out hlen.out hz.out; rw [HE.out] at h; exact h.mono HB1.out.size), HB1.out.trans (hb.out.mono HB1.out.size)⟩

end Go.Proofs.YtehnhjhflaljhaaDoor

/- The specification's Sort of any row; Rank. -/
namespace Go.Proofs.YtehnhjhflaljhaaDoor
open Go.RowKit Go.Proofs.HT

theorem rsort_none (arg : Value) (c : Int) (w : World) (HST : Hid (Calls Tryd.prog 20 #[arg] w (NoneE c w))) : Calls Tryd.prog 19 #[arg] w (NoneE c w) := by
  go_enter Tryd.func19, Tryd.ntmps19
  go_wp2_with fail
  refine HST.out.mono ?_
  rintro e w1 ⟨rfl, hb1⟩
  have HB1 := Lib.hid hb1
  clear hb1
  go_wp2_with fail
  refine wp_loop_rounds 1 ?_
  rw [rounds_succ]
  go_wp2_with fail
  go_ret2
  exact ⟨rfl, HB1.out⟩
theorem rsort_bad (v : Value) (l : List PV) (w : World) (h : RowV w v l) (hn2 : l.length ≤ 1000000) (hl : ∀ p ∈ l, LiesT w p.1 p.2) (hv : (l.all fun p => validB p.1) = false) : Calls Tryd.prog 19 #[v] w (NoneE 1 w) :=
  rsort_none v 1 w (Lib.hid (rstable_bad v l w h hn2 hl hv))
theorem rsort_v (v : Value) (l : List PV) (w : World) (h : RowV w v l) (hn2 : l.length ≤ 1000) (hl : ∀ p ∈ l, LiesT w p.1 p.2) (hv : (l.all fun p => validB p.1) = true) : Calls Tryd.prog 19 #[v] w (ResO (cptN eqP (stL (cfP false) l) l.length) 0 w) := by
  by_cases h0 : l = []
  · subst h0
    obtain rfl : v = .slice none 0 0 := by
      rcases h with h | ⟨h, _⟩
      · exact h.2
      · simp at h
    refine (rsort_none _ 0 w (Lib.hid ((rstable_nil w).mono ?_))).mono ?_
    · rintro e w' ⟨v', rfl, h1, h2⟩
      rcases h1 with h1 | ⟨h1, _⟩
      · rw [h1.2]; exact ⟨rfl, h2⟩
      · simp at h1
    · rintro e w' ⟨rfl, h2⟩
      exact ⟨_, rfl, .inl ⟨rfl, rfl⟩, h2⟩
  · have hpos : 0 < l.length := List.length_pos_iff.2 h0
    exact rsort_of 0 0 l.length 0 v (stL (cfP false) l) w (st_length l) hpos hn2 (Lib.hid (rstable_v v l w h hn2 hl hv)) (Lib.hid (fun p hp => ⟨hl p (st_mem.1 hp), val_nodes (List.all_eq_true.1 hv p (st_mem.1 hp))⟩))

set_option maxRecDepth 4000 in
set_option maxHeartbeats 8000000 in
theorem rrank_bad1 (b off n cap : Nat) (l : List PV) (t : Tm) (v : Value) (w : World) (_hn : l.length = n) (_hn2 : n ≤ 1000000) (_hcap : n ≤ cap) (_hrow : RowIn w b off l) (_hl : ∀ p ∈ l, LiesT w p.1 p.2) (ht : LiesT w t v) (hv : validB t = false) :
    Calls Tryd.prog 27 #[.slice (some ⟨b, off, none⟩) n cap, tv t v] w (RankNo w) := by
  obtain ⟨va, vc, rfl⟩ : ∃ a c, v = .slice a t.args.length c := ht.slice
  have HV : Hid (∀ w1, Below w.heap.size w w1 → Calls Tryd.prog 31 #[tv t (.slice va t.args.length vc)] w1 fun e w' => e = .returned (.bool false) ∧ Below w1.heap.size w1 w') := fun w1 hb => by
    have h := valid_any t _ w1 (ht.below hb)
    rw [hv] at h; exact h
  have HB0 : Hid (Below w.heap.size w (w.alloc (.cells #[.int .i64 t.kind, .int .i64 t.num, .string t.name, .slice va t.args.length vc] 24))) := (Below.refl _ _).alloc (Nat.le_refl _) _
  have HX0 : Hid (BoxIn (w.alloc (.cells #[.int .i64 t.kind, .int .i64 t.num, .string t.name, .slice va t.args.length vc] 24)) w.heap.size t va vc) := Lib.hid ⟨by rw [cell_of_row _ _ _ _ _ _ (heap_alloc_new _ _)]; rfl, by rw [cell_of_row _ _ _ _ _ _ (heap_alloc_new _ _)]; rfl, by rw [cell_of_row _ _ _ _ _ _ (heap_alloc_new _ _)]; rfl, by rw [cell_of_row _ _ _ _ _ _ (heap_alloc_new _ _)]; rfl⟩
  have HZ0 : Hid (w.heap.size < (w.alloc (.cells #[.int .i64 t.kind, .int .i64 t.num, .string t.name, .slice va t.args.length vc] 24)).heap.size) := Lib.hid (by simp)
  clear _hn _hrow _hl ht hv
  simp only [tv]
  go_enter Tryd.func27, Tryd.ntmps27
  go_wp2_with fail
  refine (HV.out _ HB0.out).mono ?_
  rintro e w1 ⟨rfl, hb1⟩
  go_wp2_with fail
  go_ret2
  exact ⟨rfl, HB0.out.trans (hb1.mono HB0.out.size)⟩

set_option maxRecDepth 4000 in
set_option maxHeartbeats 8000000 in
theorem rrank_bad2 (b off n cap : Nat) (l : List PV) (t : Tm) (v : Value) (w : World) (hn : l.length = n) (hn2 : n ≤ 1000000) (hcap : n ≤ cap) (hrow : RowIn w b off l) (hl : ∀ p ∈ l, LiesT w p.1 p.2) (ht : LiesT w t v) (hv : validB t = true) (ha : (l.all fun p => validB p.1) = false) :
    Calls Tryd.prog 27 #[.slice (some ⟨b, off, none⟩) n cap, tv t v] w (RankNo w) := by
  obtain ⟨va, vc, rfl⟩ : ∃ a c, v = .slice a t.args.length c := ht.slice
  have HV : Hid (∀ w1, Below w.heap.size w w1 → Calls Tryd.prog 31 #[tv t (.slice va t.args.length vc)] w1 fun e w' => e = .returned (.bool true) ∧ Below w1.heap.size w1 w') := fun w1 hb => by
    have h := valid_any t _ w1 (ht.below hb)
    rw [hv] at h; exact h
  have HA : Hid (∀ w1, Below w.heap.size w w1 → Calls Tryd.prog 47 #[.slice (some ⟨b, off, none⟩) n cap] w1 fun e w' => e = .returned (.bool false) ∧ Below w1.heap.size w1 w') := fun w1 hb => by
    have h := rvalid_row b off n cap l w1 hn hn2 hcap (hrow.below hb) (fun p hp => (hl p hp).below hb)
    rw [ha] at h; exact h
  have HB0 : Hid (Below w.heap.size w (w.alloc (.cells #[.int .i64 t.kind, .int .i64 t.num, .string t.name, .slice va t.args.length vc] 24))) := (Below.refl _ _).alloc (Nat.le_refl _) _
  have HX0 : Hid (BoxIn (w.alloc (.cells #[.int .i64 t.kind, .int .i64 t.num, .string t.name, .slice va t.args.length vc] 24)) w.heap.size t va vc) := Lib.hid ⟨by rw [cell_of_row _ _ _ _ _ _ (heap_alloc_new _ _)]; rfl, by rw [cell_of_row _ _ _ _ _ _ (heap_alloc_new _ _)]; rfl, by rw [cell_of_row _ _ _ _ _ _ (heap_alloc_new _ _)]; rfl, by rw [cell_of_row _ _ _ _ _ _ (heap_alloc_new _ _)]; rfl⟩
  have HZ0 : Hid (w.heap.size < (w.alloc (.cells #[.int .i64 t.kind, .int .i64 t.num, .string t.name, .slice va t.args.length vc] 24)).heap.size) := Lib.hid (by simp)
  clear hn hrow hl ht hv ha
  simp only [tv]
  go_enter Tryd.func27, Tryd.ntmps27
  go_wp2_with fail
  refine (HV.out _ HB0.out).mono ?_
  rintro e w1 ⟨rfl, hb1⟩
  have HB1 := Lib.hid (HB0.out.trans (hb1.mono HB0.out.size))
  clear hb1
  go_wp2_with fail
  refine (HA.out _ HB1.out).mono ?_
  rintro e w2 ⟨rfl, hb2⟩
  go_wp2_with fail
  go_ret2
  exact ⟨rfl, HB1.out.trans (hb2.mono HB1.out.size)⟩

/-- What the specification's Rank says of valid terms. -/
def RankR (l : List PV) (t : Tm) (w : World) (e : Ending) (w' : World) : Prop := (incB l = false ∧ RankNo w e w') ∨ (incB l = true ∧ BsEnd l t w e w')
set_option maxRecDepth 4000 in
set_option maxHeartbeats 8000000 in
theorem rrank_yes (b off n cap : Nat) (l : List PV) (t : Tm) (v : Value) (w : World) (hn : l.length = n) (hn2 : n ≤ 1000000) (hcap : n ≤ cap) (hrow : RowIn w b off l) (hl : ∀ p ∈ l, LiesT w p.1 p.2) (ht : LiesT w t v) (hv : validB t = true) (ha : (l.all fun p => validB p.1) = true) :
    Calls Tryd.prog 27 #[.slice (some ⟨b, off, none⟩) n cap, tv t v] w (RankR l t w) := by
  obtain ⟨va, vc, rfl⟩ : ∃ a c, v = .slice a t.args.length c := ht.slice
  have HV : Hid (∀ w1, Below w.heap.size w w1 → Calls Tryd.prog 31 #[tv t (.slice va t.args.length vc)] w1 fun e w' => e = .returned (.bool true) ∧ Below w1.heap.size w1 w') := fun w1 hb => by
    have h := valid_any t _ w1 (ht.below hb)
    rw [hv] at h; exact h
  have HA : Hid (∀ w1, Below w.heap.size w w1 → Calls Tryd.prog 47 #[.slice (some ⟨b, off, none⟩) n cap] w1 fun e w' => e = .returned (.bool true) ∧ Below w1.heap.size w1 w') := fun w1 hb => by
    have h := rvalid_row b off n cap l w1 hn hn2 hcap (hrow.below hb) (fun p hp => (hl p hp).below hb)
    rw [ha] at h; exact h
  have HN := Lib.hid hn
  have HR := Lib.hid hrow
  have HT := Lib.hid ht
  have HTN := Lib.hid (val_nodes hv)
  have HL : Hid (∀ p ∈ l, LiesT w p.1 p.2 ∧ nodesB p.1 = true) := fun p hp => ⟨hl p hp, val_nodes (List.all_eq_true.1 ha p hp)⟩
  have HB0 : Hid (Below w.heap.size w (w.alloc (.cells #[.int .i64 t.kind, .int .i64 t.num, .string t.name, .slice va t.args.length vc] 24))) := (Below.refl _ _).alloc (Nat.le_refl _) _
  have HX0 : Hid (BoxIn (w.alloc (.cells #[.int .i64 t.kind, .int .i64 t.num, .string t.name, .slice va t.args.length vc] 24)) w.heap.size t va vc) := Lib.hid ⟨by rw [cell_of_row _ _ _ _ _ _ (heap_alloc_new _ _)]; rfl, by rw [cell_of_row _ _ _ _ _ _ (heap_alloc_new _ _)]; rfl, by rw [cell_of_row _ _ _ _ _ _ (heap_alloc_new _ _)]; rfl, by rw [cell_of_row _ _ _ _ _ _ (heap_alloc_new _ _)]; rfl⟩
  have HZ0 : Hid (w.heap.size < (w.alloc (.cells #[.int .i64 t.kind, .int .i64 t.num, .string t.name, .slice va t.args.length vc] 24)).heap.size) := Lib.hid (by simp)
  clear hn hrow hl ht hv ha
  simp only [tv]
  go_enter Tryd.func27, Tryd.ntmps27
  go_wp2_with fail
  refine (HV.out _ HB0.out).mono ?_
  rintro e w1 ⟨rfl, hb1⟩
  have HX1 := Lib.hid (HX0.out.below hb1)
  have HB1 := Lib.hid (HB0.out.trans (hb1.mono HB0.out.size))
  have HZ1 : Hid (w.heap.size < w1.heap.size) := Lib.hid (by have := hb1.size; have := HZ0.out; omega)
  clear hb1 HX0 HB0 HZ0
  go_wp2_with fail
  refine (HA.out _ HB1.out).mono ?_
  rintro e w2 ⟨rfl, hb2⟩
  have HX2 := Lib.hid (HX1.out.below hb2)
  have HB2 := Lib.hid (HB1.out.trans (hb2.mono HB1.out.size))
  clear hb2 HX1 HB1 HZ1
  go_wp2_with fail
  go_loopw [6] (fun i wr => ∃ j : Nat, i = .int .i64 ((j : Int) + 1) ∧ (j = 0 ∨ j + 1 ≤ n) ∧ Hid (Below w.heap.size w wr) ∧ Hid (BoxIn wr w.heap.size t va vc) ∧ Hid (∀ k, k < j → cT (l.getD k dflt).1 (l.getD (k + 1) dflt).1 < 0)) (fun i _ => n - (intOf i).toNat)
  case atStart => exact ⟨0, rfl, .inl rfl, HB2, HX2, Lib.hid (fun _ h => by omega)⟩
  case round =>
    obtain ⟨k, rfl, hj, hb, hbx, hz⟩ := hrel
    have v0 : (0 : Int) ≤ (k : Int) + 1 := by omega
    by_cases hlt : k + 1 < n
    · have d1 : decide ((k : Int) + 1 < (n : Int)) = true := by simp; omega
      obtain ⟨y, hy⟩ : ∃ y : Nat, y = k + 1 := ⟨_, rfl⟩
      have hyn : y < n := by omega
      have hkn : k < n := by omega
      have hY : (k : Int) + 1 = (y : Int) := by omega
      have hY1 : (y : Int) - 1 = (k : Int) := by omega
      have HY := Lib.hid hy
      have hkp : k < l.length := by have := HN.out; omega
      have cp := (HR.out.below hb.out).at k hkp
      have mp := HL.out _ (List.getElem_mem hkp)
      have gp := getD_at l k hkp
      obtain ⟨ep, hep⟩ : ∃ q, l[k] = q := ⟨_, rfl⟩
      rw [hep] at cp mp gp
      obtain ⟨tp, vp⟩ := ep
      obtain ⟨pa, pc, ev⟩ := mp.1.slice
      obtain rfl : vp = .slice pa tp.args.length pc := ev
      obtain ⟨p0, p1, p2, p3⟩ := cp
      have HGp := Lib.hid gp
      have HMp := Lib.hid mp
      clear gp hep mp hkp
      have hkq : y < l.length := by have := HN.out; omega
      have cq := (HR.out.below hb.out).at y hkq
      have mq := HL.out _ (List.getElem_mem hkq)
      have gq := getD_at l y hkq
      obtain ⟨eq, heq⟩ : ∃ q, l[y] = q := ⟨_, rfl⟩
      rw [heq] at cq mq gq
      obtain ⟨tq, vq⟩ := eq
      obtain ⟨qa, qc, ev⟩ := mq.1.slice
      obtain rfl : vq = .slice qa tq.args.length qc := ev
      obtain ⟨q0, q1, q2, q3⟩ := cq
      have HGq := Lib.hid gq
      have HMq := Lib.hid mq
      clear gq heq mq hkq
      obtain ⟨z, hz0⟩ : ∃ z, cT tp tq = z := ⟨_, rfl⟩
      have HCC : Hid (∀ w', Below wr.heap.size wr w' → Calls Tryd.prog 38 #[tv tp (.slice pa tp.args.length pc), tv tq (.slice qa tq.args.length qc)] w' fun e w'' => e = .returned (.int .i64 z) ∧ Below w'.heap.size w' w'') := fun w' h => by
        rw [← hz0]
        have hb3 := hb.out.trans (h.mono hb.out.size)
        exact compR_any _ _ _ _ _ (HMp.out.1.below hb3) (HMq.out.1.below hb3) HMp.out.2 HMq.out.2
      have HG : Hid (cT (l.getD k dflt).1 (l.getD (k + 1) dflt).1 = z) := by
        show _ = _
        have e := HGq.out
        rw [hy] at e
        rw [HGp.out, e]; exact hz0
      have wy := sub_bits y (by omega)
      have wk := sub_bits k (by omega)
      have lk0 : (0 : Int) ≤ (k : Int) := by omega
      have lk1 : (k : Int) < (n : Int) := by omega
      have ly0 : (0 : Int) ≤ (y : Int) := by omega
      have ly1 : (y : Int) < (n : Int) := by omega
      have d1y : decide ((y : Int) < (n : Int)) = true := by simp; omega
      clear hz0 v0 d1 hy
      have hS0 : Below wr.heap.size wr wr.drew := (Below.refl _ _).drew
      have HS : Hid (∀ w', Below wr.heap.size wr w' → (fun w' => Below wr.heap.size wr w' ∧ w'.cell? ⟨b, off + k * 4, none⟩ = some (.int .i64 tp.kind) ∧ w'.cell? ⟨b, off + k * 4 + 1, none⟩ = some (.int .i64 tp.num) ∧ w'.cell? ⟨b, off + k * 4 + 2, none⟩ = some (.string tp.name) ∧ w'.cell? ⟨b, off + k * 4 + 3, none⟩ = some (.slice pa tp.args.length pc) ∧ w'.cell? ⟨b, off + y * 4, none⟩ = some (.int .i64 tq.kind) ∧ w'.cell? ⟨b, off + y * 4 + 1, none⟩ = some (.int .i64 tq.num) ∧ w'.cell? ⟨b, off + y * 4 + 2, none⟩ = some (.string tq.name) ∧ w'.cell? ⟨b, off + y * 4 + 3, none⟩ = some (.slice qa tq.args.length qc)) w') := fun w' h => ⟨h, cell_below h _ _ p0, cell_below h _ _ p1, cell_below h _ _ p2, cell_below h _ _ p3, cell_below h _ _ q0, cell_below h _ _ q1, cell_below h _ _ q2, cell_below h _ _ q3⟩
      by_cases hzn : z < 0
      · have e1 : decide (0 ≤ z) = false := by simp; omega
        have e2 : ¬ 0 ≤ z := by omega
        go_wp2_with fail
        go_region_held3 (fun w' => Below wr.heap.size wr w' ∧ w'.cell? ⟨b, off + k * 4, none⟩ = some (.int .i64 tp.kind) ∧ w'.cell? ⟨b, off + k * 4 + 1, none⟩ = some (.int .i64 tp.num) ∧ w'.cell? ⟨b, off + k * 4 + 2, none⟩ = some (.string tp.name) ∧ w'.cell? ⟨b, off + k * 4 + 3, none⟩ = some (.slice pa tp.args.length pc) ∧ w'.cell? ⟨b, off + y * 4, none⟩ = some (.int .i64 tq.kind) ∧ w'.cell? ⟨b, off + y * 4 + 1, none⟩ = some (.int .i64 tq.num) ∧ w'.cell? ⟨b, off + y * 4 + 2, none⟩ = some (.string tq.name) ∧ w'.cell? ⟨b, off + y * 4 + 3, none⟩ = some (.slice qa tq.args.length qc))
          (first | exact HS.out _ h5 | exact HS.out _ hS0 | assumption | go_keep)
          (first
            | (go_at_call 38; ((with_reducible refine (HCC.out _ (by assumption : Below wr.heap.size wr _)).mono ?_); rintro e w4 ⟨rfl, hb4⟩; have h5 : Below wr.heap.size wr w4 := Below.trans (by assumption : Below wr.heap.size wr _) (hb4.mono (Below.size (by assumption : Below wr.heap.size wr _))))))
        have H5 := Lib.hid h5
        clear p0 p1 p2 p3 q0 q1 q2 q3 h5 hS0 HS
        clear hY1 wy wk d1y
        go_wp2_with fail
        go_roundw
        case rel =>
          refine ⟨k + 1, by have := HY.out; go_num, .inr (by have := HY.out; omega), Lib.hid (hb.out.trans (H5.out.mono hb.out.size)), Lib.hid (hbx.out.below H5.out), Lib.hid (fun q hq => ?_)⟩
          by_cases e : q = k
          · subst e; rw [HG.out]; exact hzn
          · exact hz.out q (by omega)
        case measure => have := HY.out; simp [intOf]; omega
      · have e1 : decide (0 ≤ z) = true := by simp; omega
        have e2 : 0 ≤ z := by omega
        go_wp2_with fail
        go_region_held3 (fun w' => Below wr.heap.size wr w' ∧ w'.cell? ⟨b, off + k * 4, none⟩ = some (.int .i64 tp.kind) ∧ w'.cell? ⟨b, off + k * 4 + 1, none⟩ = some (.int .i64 tp.num) ∧ w'.cell? ⟨b, off + k * 4 + 2, none⟩ = some (.string tp.name) ∧ w'.cell? ⟨b, off + k * 4 + 3, none⟩ = some (.slice pa tp.args.length pc) ∧ w'.cell? ⟨b, off + y * 4, none⟩ = some (.int .i64 tq.kind) ∧ w'.cell? ⟨b, off + y * 4 + 1, none⟩ = some (.int .i64 tq.num) ∧ w'.cell? ⟨b, off + y * 4 + 2, none⟩ = some (.string tq.name) ∧ w'.cell? ⟨b, off + y * 4 + 3, none⟩ = some (.slice qa tq.args.length qc))
          (first | exact HS.out _ h5 | exact HS.out _ hS0 | assumption | go_keep)
          (first
            | (go_at_call 38; ((with_reducible refine (HCC.out _ (by assumption : Below wr.heap.size wr _)).mono ?_); rintro e w4 ⟨rfl, hb4⟩; have h5 : Below wr.heap.size wr w4 := Below.trans (by assumption : Below wr.heap.size wr _) (hb4.mono (Below.size (by assumption : Below wr.heap.size wr _))))))
        have H5 := Lib.hid h5
        clear p0 p1 p2 p3 q0 q1 q2 q3 h5 hS0 HS
        go_wp2_with fail
        go_ret2
        refine .inl ⟨?_, rfl, hb.out.trans (H5.out.mono hb.out.size)⟩
        rw [← Bool.not_eq_true, incB_iff]
        intro h
        have := h k (by have := HN.out; have := HY.out; omega)
        rw [HG.out] at this; omega
    · have d1 : decide ((k : Int) + 1 < (n : Int)) = false := by simp; omega
      have b1 : ¬ (k : Int) + 1 < (n : Int) := by omega
      have HI : Hid (incB l = true) := Lib.hid ((incB_iff l).2 (fun q hq => hz.out q (by have := HN.out; omega)))
      have HBQ := hb
      have HXQ := hbx
      go_wp2_with fail
      clear hb hbx hz hj v0 hlt d1 b1
      go_loopw [7] (fun i wr => ∃ j : Nat, j ≤ n ∧ i = .int .i64 j ∧ Hid (Below w.heap.size w wr) ∧ Hid (BoxIn wr w.heap.size t va vc) ∧ Hid (∀ k, k < j → cT (l.getD k dflt).1 t < 0)) (fun i _ => n - (intOf i).toNat)
      case atStart => exact ⟨0, by omega, rfl, HBQ, HXQ, Lib.hid (fun _ h => by omega)⟩
      case round =>
        obtain ⟨j, hj, rfl, hb, hbx, hz⟩ := hrel
        by_cases hlt : j < n
        · have hjn : j < n := hlt
          have hkp : j < l.length := by have := HN.out; omega
          have cp := (HR.out.below hb.out).at j hkp
          have mp := HL.out _ (List.getElem_mem hkp)
          have gp := getD_at l j hkp
          obtain ⟨ep, hep⟩ : ∃ q, l[j] = q := ⟨_, rfl⟩
          rw [hep] at cp mp gp
          obtain ⟨tp, vp⟩ := ep
          obtain ⟨pa, pc, ev⟩ := mp.1.slice
          obtain rfl : vp = .slice pa tp.args.length pc := ev
          obtain ⟨p0, p1, p2, p3⟩ := cp
          have HGp := Lib.hid gp
          have HMp := Lib.hid mp
          clear gp hep mp hkp
          obtain ⟨q0, q1, q2, q3⟩ := hbx.out
          obtain ⟨z, hz0⟩ : ∃ z, cT tp t = z := ⟨_, rfl⟩
          have HCC : Hid (∀ w', Below wr.heap.size wr w' → Calls Tryd.prog 38 #[tv tp (.slice pa tp.args.length pc), tv t (.slice va t.args.length vc)] w' fun e w'' => e = .returned (.int .i64 z) ∧ Below w'.heap.size w' w'') := fun w' h => by
            rw [← hz0]
            have hb3 := hb.out.trans (h.mono hb.out.size)
            exact compR_any _ _ _ _ _ (HMp.out.1.below hb3) (HT.out.below hb3) HMp.out.2 HTN.out
          have HG : Hid (cT (l.getD j dflt).1 t = z) := by
            show _ = _
            rw [HGp.out]; exact hz0
          have lj0 : (0 : Int) ≤ (j : Int) := by omega
          have lj1 : (j : Int) < (n : Int) := by omega
          have d1 : decide ((j : Int) < (n : Int)) = true := by simp; omega
          clear hz0
          have hS0 : Below wr.heap.size wr wr.drew := (Below.refl _ _).drew
          have HS : Hid (∀ w', Below wr.heap.size wr w' → (fun w' => Below wr.heap.size wr w' ∧ w'.cell? ⟨b, off + j * 4, none⟩ = some (.int .i64 tp.kind) ∧ w'.cell? ⟨b, off + j * 4 + 1, none⟩ = some (.int .i64 tp.num) ∧ w'.cell? ⟨b, off + j * 4 + 2, none⟩ = some (.string tp.name) ∧ w'.cell? ⟨b, off + j * 4 + 3, none⟩ = some (.slice pa tp.args.length pc) ∧ w'.cell? ⟨w.heap.size, 0, none⟩ = some (.int .i64 t.kind) ∧ w'.cell? ⟨w.heap.size, 1, none⟩ = some (.int .i64 t.num) ∧ w'.cell? ⟨w.heap.size, 2, none⟩ = some (.string t.name) ∧ w'.cell? ⟨w.heap.size, 3, none⟩ = some (.slice va t.args.length vc)) w') := fun w' h => ⟨h, cell_below h _ _ p0, cell_below h _ _ p1, cell_below h _ _ p2, cell_below h _ _ p3, cell_below h _ _ q0, cell_below h _ _ q1, cell_below h _ _ q2, cell_below h _ _ q3⟩
          by_cases hzn : z < 0
          · have e1 : decide (z < 0) = true := by simpa using hzn
            go_wp2_with fail
            go_region_held3 (fun w' => Below wr.heap.size wr w' ∧ w'.cell? ⟨b, off + j * 4, none⟩ = some (.int .i64 tp.kind) ∧ w'.cell? ⟨b, off + j * 4 + 1, none⟩ = some (.int .i64 tp.num) ∧ w'.cell? ⟨b, off + j * 4 + 2, none⟩ = some (.string tp.name) ∧ w'.cell? ⟨b, off + j * 4 + 3, none⟩ = some (.slice pa tp.args.length pc) ∧ w'.cell? ⟨w.heap.size, 0, none⟩ = some (.int .i64 t.kind) ∧ w'.cell? ⟨w.heap.size, 1, none⟩ = some (.int .i64 t.num) ∧ w'.cell? ⟨w.heap.size, 2, none⟩ = some (.string t.name) ∧ w'.cell? ⟨w.heap.size, 3, none⟩ = some (.slice va t.args.length vc))
              (first | exact HS.out _ h5 | exact HS.out _ hS0 | assumption | go_keep)
              (first
                | (go_at_call 38; ((with_reducible refine (HCC.out _ (by assumption : Below wr.heap.size wr _)).mono ?_); rintro e w4 ⟨rfl, hb4⟩; have h5 : Below wr.heap.size wr w4 := Below.trans (by assumption : Below wr.heap.size wr _) (hb4.mono (Below.size (by assumption : Below wr.heap.size wr _))))))
            have H5 := Lib.hid h5
            clear p0 p1 p2 p3 q0 q1 q2 q3 h5 hS0 HS
            go_wp2_with fail
            go_roundw
            case rel =>
              refine ⟨j + 1, by omega, by go_num, Lib.hid (hb.out.trans (H5.out.mono hb.out.size)), Lib.hid (hbx.out.below H5.out), Lib.hid (fun q hq => ?_)⟩
              by_cases e : q = j
              · subst e; rw [HG.out]; exact hzn
              · exact hz.out q (by omega)
            case measure => simp [intOf]; omega
          · have e1 : decide (z < 0) = false := by simpa using hzn
            go_wp2_with fail
            go_region_held3 (fun w' => Below wr.heap.size wr w' ∧ w'.cell? ⟨b, off + j * 4, none⟩ = some (.int .i64 tp.kind) ∧ w'.cell? ⟨b, off + j * 4 + 1, none⟩ = some (.int .i64 tp.num) ∧ w'.cell? ⟨b, off + j * 4 + 2, none⟩ = some (.string tp.name) ∧ w'.cell? ⟨b, off + j * 4 + 3, none⟩ = some (.slice pa tp.args.length pc) ∧ w'.cell? ⟨w.heap.size, 0, none⟩ = some (.int .i64 t.kind) ∧ w'.cell? ⟨w.heap.size, 1, none⟩ = some (.int .i64 t.num) ∧ w'.cell? ⟨w.heap.size, 2, none⟩ = some (.string t.name) ∧ w'.cell? ⟨w.heap.size, 3, none⟩ = some (.slice va t.args.length vc))
              (first | exact HS.out _ h5 | exact HS.out _ hS0 | assumption | go_keep)
              (first
                | (go_at_call 38; ((with_reducible refine (HCC.out _ (by assumption : Below wr.heap.size wr _)).mono ?_); rintro e w4 ⟨rfl, hb4⟩; have h5 : Below wr.heap.size wr w4 := Below.trans (by assumption : Below wr.heap.size wr _) (hb4.mono (Below.size (by assumption : Below wr.heap.size wr _))))))
            have H5 := Lib.hid h5
            have r0 := cell_below h5 _ _ p0
            have s0 := cell_below h5 _ _ q0
            have r1 := cell_below h5 _ _ p1
            have s1 := cell_below h5 _ _ q1
            have r2 := cell_below h5 _ _ p2
            have s2 := cell_below h5 _ _ q2
            have r3 := cell_below h5 _ _ p3
            have s3 := cell_below h5 _ _ q3
            clear p0 p1 p2 p3 q0 q1 q2 q3 h5 hS0 HS
            have HCD : Hid (∀ w', Below w4.heap.size w4 w' → Calls Tryd.prog 38 #[tv tp (.slice pa tp.args.length pc), tv t (.slice va t.args.length vc)] w' fun e w'' => e = .returned (.int .i64 z) ∧ Below w'.heap.size w' w'') := fun w' h => HCC.out w' (H5.out.trans (h.mono H5.out.size))
            have HBB := Lib.hid (hb.out.trans (H5.out.mono hb.out.size))
            clear e1
            go_wp2_with fail
            have hS1 : Below w4.heap.size w4 w4.drew := (Below.refl _ _).drew
            have HS1 : Hid (∀ w', Below w4.heap.size w4 w' → (fun w' => Below w4.heap.size w4 w' ∧ w'.cell? ⟨b, off + j * 4, none⟩ = some (.int .i64 tp.kind) ∧ w'.cell? ⟨b, off + j * 4 + 1, none⟩ = some (.int .i64 tp.num) ∧ w'.cell? ⟨b, off + j * 4 + 2, none⟩ = some (.string tp.name) ∧ w'.cell? ⟨b, off + j * 4 + 3, none⟩ = some (.slice pa tp.args.length pc) ∧ w'.cell? ⟨w.heap.size, 0, none⟩ = some (.int .i64 t.kind) ∧ w'.cell? ⟨w.heap.size, 1, none⟩ = some (.int .i64 t.num) ∧ w'.cell? ⟨w.heap.size, 2, none⟩ = some (.string t.name) ∧ w'.cell? ⟨w.heap.size, 3, none⟩ = some (.slice va t.args.length vc)) w') := fun w' h => ⟨h, cell_below h _ _ r0, cell_below h _ _ r1, cell_below h _ _ r2, cell_below h _ _ r3, cell_below h _ _ s0, cell_below h _ _ s1, cell_below h _ _ s2, cell_below h _ _ s3⟩
            obtain ⟨q, hq⟩ : ∃ q, (z == 0) = q := ⟨_, rfl⟩
            have HQ := Lib.hid hq
            go_wp2_with fail
            go_region_held3 (fun w' => Below w4.heap.size w4 w' ∧ w'.cell? ⟨b, off + j * 4, none⟩ = some (.int .i64 tp.kind) ∧ w'.cell? ⟨b, off + j * 4 + 1, none⟩ = some (.int .i64 tp.num) ∧ w'.cell? ⟨b, off + j * 4 + 2, none⟩ = some (.string tp.name) ∧ w'.cell? ⟨b, off + j * 4 + 3, none⟩ = some (.slice pa tp.args.length pc) ∧ w'.cell? ⟨w.heap.size, 0, none⟩ = some (.int .i64 t.kind) ∧ w'.cell? ⟨w.heap.size, 1, none⟩ = some (.int .i64 t.num) ∧ w'.cell? ⟨w.heap.size, 2, none⟩ = some (.string t.name) ∧ w'.cell? ⟨w.heap.size, 3, none⟩ = some (.slice va t.args.length vc))
              (first | exact HS1.out _ h6 | exact HS1.out _ hS1 | assumption | go_keep)
              (first
                | (go_at_call 38; ((with_reducible refine (HCD.out _ (by assumption : Below w4.heap.size w4 _)).mono ?_); rintro e w5 ⟨rfl, hb6⟩; have h6 : Below w4.heap.size w4 w5 := Below.trans (by assumption : Below w4.heap.size w4 _) (hb6.mono (Below.size (by assumption : Below w4.heap.size w4 _))))))
            have H6 := Lib.hid h6
            clear r0 r1 r2 r3 s0 s1 s2 s3 h6 hS1 HS1
            go_wp2_with fail
            go_ret2
            refine .inr ⟨HI.out, j, q, ?_, ⟨by have := HN.out; omega, hz.out, fun k h1 h2 => ?_, ?_⟩, HBB.out.trans (H6.out.mono HBB.out.size)⟩
            · rfl
            · have h3 := inc_le l HI.out j k h1 h2
              by_cases h4 : cT (l.getD k dflt).1 t < 0
              · have h5 := cT_lt h3 h4
                rw [HG.out] at h5; omega
              · omega
            · rw [HG.out, ← HQ.out, Bool.eq_iff_iff]; simp; intro _; have := HN.out; omega
        · have d1 : decide ((j : Int) < (n : Int)) = false := by simp; omega
          have d2 : decide (j < n) = false := by simp; omega
          have d3 : ¬ (j : Int) < (n : Int) := by omega
          have HE : Hid (j = n) := by show _ = _; omega
          go_wp2_with fail
          go_quiet (fail)
          go_wp2_with fail
          go_quiet (fail)
          go_wp2_with fail
          go_ret2
          exact .inr ⟨HI.out, j, false, rfl, ⟨by have := HN.out; omega, hz.out, fun k h1 h2 => by have := HN.out; have := HE.out; omega, by have := HN.out; have := HE.out; simp; omega⟩, below_drewN (below_drewN hb.out _) _⟩

end Go.Proofs.YtehnhjhflaljhaaDoor

/- Sort, Stable, Keys and Rank of the program, of at most 40 terms. -/
namespace Go.Proofs.YtehnhjhflaljhaaDoor
open Go.RowKit Go.Proofs.HT

theorem idx_nil (c : Nat) (w : World) : Calls Tryd.prog 80 #[.slice none 0 0, .func (.func 67) #[] #[.pointer (some ⟨c, 0, none⟩)]] w fun e w' => e = .returned (.int .i64 (-1)) ∧ w = w' := by
  go_enter Tryd.func80, Tryd.ntmps80
  go_wp2_with fail
  refine wp_loop_rounds 1 ?_
  rw [rounds_succ]
  go_wp2_with fail
  go_ret
  exact ⟨rfl, rfl⟩
theorem cont_nil (c : Nat) (w : World) : Calls Tryd.prog 66 #[.slice none 0 0, .func (.func 67) #[] #[.pointer (some ⟨c, 0, none⟩)]] w fun e w' => e = .returned (.bool false) ∧ w = w' := by
  go_enter Tryd.func66, Tryd.ntmps66
  go_wp2_with (first | (go_at_call 80; refine (idx_nil _ _).mono ?_; rintro e w1 ⟨rfl, rfl⟩))
  go_ret
  exact ⟨rfl, rfl⟩
theorem all_nil (f : Nat) (w : World) : Calls Tryd.prog 39 #[.slice none 0 0, .func (.func f) #[] #[]] w fun e w' => e = .returned (.bool true) ∧ Below w.heap.size w w' := by
  have HB0 : Hid (Below w.heap.size w (w.alloc (.cells #[.func (.func f) #[] #[]] 41))) := (Below.refl _ _).alloc (Nat.le_refl _) _
  go_enter Tryd.func39, Tryd.ntmps39
  go_wp2_with (first | (go_at_call 66; refine (cont_nil _ _).mono ?_; rintro e w1 ⟨rfl, rfl⟩))
  go_ret
  exact ⟨rfl, HB0.out⟩
theorem ins_nil (cc : Value) (w : World) : Calls Tryd.prog 85 #[.slice none 0 0, .int .i64 0, .int .i64 0, cc] w fun e w' => e = .returned (.tuple #[]) ∧ w = w' := by
  go_enter Tryd.func85, Tryd.ntmps85
  go_wp2_with fail
  refine wp_loop_rounds 1 ?_
  rw [rounds_succ]
  go_wp2_with fail
  go_end0
  exact ⟨rfl, rfl⟩
theorem stable_nil (c : Nat) (w : World) : Calls Tryd.prog 70 #[.slice none 0 0, .func (.func 71) #[] #[.pointer (some ⟨c, 0, none⟩)]] w fun e w' => e = .returned (.tuple #[]) ∧ w = w' := by
  have h2 : Calls Tryd.prog 83 #[.slice none 0 0, .int .i64 0, .func (.func 71) #[] #[.pointer (some ⟨c, 0, none⟩)]] w fun e w' => e = .returned (.tuple #[]) ∧ w = w' := by
    go_enter Tryd.func83, Tryd.ntmps83
    go_wp2_with fail
    refine wp_loop_rounds 1 ?_
    rw [rounds_succ]
    go_wp2_with (first | (go_at_call 85; refine (ins_nil _ _).mono ?_; rintro e w1 ⟨rfl, rfl⟩))
    refine wp_loop_rounds 1 ?_
    rw [rounds_succ]
    go_wp2_with fail
    go_end0
    exact ⟨rfl, rfl⟩
  have H2 := Lib.hid h2
  clear h2
  go_enter Tryd.func70, Tryd.ntmps70
  go_wp2_with (first | (go_at_call 83; refine H2.out.mono ?_; rintro e w1 ⟨rfl, rfl⟩))
  go_end0
  exact ⟨rfl, rfl⟩
theorem sorted_nil (f : Nat) (w : World) : Calls Tryd.prog 42 #[.slice none 0 0, .func (.func f) #[] #[]] w fun e w' => e = .returned (.slice none 0 0) ∧ Below w.heap.size w w' := by
  have HB0 : Hid (Below w.heap.size w (w.alloc (.cells #[.func (.func f) #[] #[]] 34))) := (Below.refl _ _).alloc (Nat.le_refl _) _
  go_enter Tryd.func42, Tryd.ntmps42
  go_wp2_with (first
    | (go_at_call 69; refine (clonerow_nil _ _ _).mono ?_; rintro e w1 ⟨rfl, rfl⟩)
    | (go_at_call 70; refine (stable_nil _ _).mono ?_; rintro e w1 ⟨rfl, rfl⟩))
  go_ret
  exact ⟨rfl, HB0.out⟩
theorem copies_nil (w : World) : Calls Tryd.prog 40 #[.slice none 0 0] w (CopyEnd [] w) := copies_any none 0 0 [] w rfl (by omega) (Nat.le_refl _) (Lib.hid (fun h => by omega)) (by simp)
theorem compact_short (a : Option Addr) (n cap : Nat) (hn : n < 2) (w : World) : Calls Tryd.prog 41 #[.slice a n cap, .func (.func 44) #[] #[]] w fun e w' => e = .returned (.slice a n cap) ∧ w = w' := by
  have d0 : decide ((n : Int) < 2) = true := by simp; omega
  have d1 : (n : Int) < 2 := by omega
  go_enter Tryd.func41, Tryd.ntmps41
  go_wp2_with fail
  go_ret
  exact ⟨rfl, rfl⟩
theorem Stable_nil (w : World) : Calls Tryd.prog 17 #[.slice none 0 0] w (CopyE [] 0 w) := by
  go_enter Tryd.func17, Tryd.ntmps17
  go_wp2_with fail
  refine (all_nil _ _).mono ?_
  rintro e w1 ⟨rfl, hb1⟩
  have B1 := Lib.hid hb1
  clear hb1
  go_wp2_with fail
  refine (sorted_nil _ _).mono ?_
  rintro e w2 ⟨rfl, hb2⟩
  have B2 := Lib.hid (B1.out.trans (hb2.mono B1.out.size))
  clear hb2
  go_wp2_with fail
  refine (copies_nil _).mono ?_
  intro e w4 hC4
  obtain ⟨g4, rfl, hE⟩ := CopyE.of B2.out hC4
  have HE := Lib.hid hE
  clear hE hC4
  go_wp2_with fail
  go_ret2
  exact HE.out
theorem Keys_nil (w : World) : Calls Tryd.prog 18 #[.slice none 0 0] w (CopyE [] 0 w) := by
  go_enter Tryd.func18, Tryd.ntmps18
  go_wp2_with fail
  refine (all_nil _ _).mono ?_
  rintro e w1 ⟨rfl, hb1⟩
  have B1 := Lib.hid hb1
  clear hb1
  go_wp2_with fail
  refine (all_nil _ _).mono ?_
  rintro e w2 ⟨rfl, hb2⟩
  have B2 := Lib.hid (B1.out.trans (hb2.mono B1.out.size))
  clear hb2
  go_wp2_with fail
  refine (sorted_nil _ _).mono ?_
  rintro e w3 ⟨rfl, hb3⟩
  have B3 := Lib.hid (B2.out.trans (hb3.mono B2.out.size))
  clear hb3
  go_wp2_with fail
  refine (copies_nil _).mono ?_
  intro e w4 hC4
  obtain ⟨g4, rfl, hE⟩ := CopyE.of B3.out hC4
  have HE := Lib.hid hE
  clear hE hC4
  go_wp2_with fail
  go_ret2
  exact HE.out
theorem Sort_nil (w : World) : Calls Tryd.prog 16 #[.slice none 0 0] w (CopyE [] 0 w) := by
  go_enter Tryd.func16, Tryd.ntmps16
  go_wp2_with fail
  refine (all_nil _ _).mono ?_
  rintro e w1 ⟨rfl, hb1⟩
  have B1 := Lib.hid hb1
  clear hb1
  go_wp2_with fail
  refine (sorted_nil _ _).mono ?_
  rintro e w2 ⟨rfl, hb2⟩
  have B2 := Lib.hid (B1.out.trans (hb2.mono B1.out.size))
  clear hb2
  go_wp2_with fail
  refine (compact_short none 0 0 (by omega) _).mono ?_
  rintro e w3 ⟨rfl, rfl⟩
  go_wp2_with fail
  refine (copies_nil _).mono ?_
  intro e w4 hC4
  obtain ⟨g4, rfl, hE⟩ := CopyE.of B2.out hC4
  have HE := Lib.hid hE
  clear hE hC4
  go_wp2_with fail
  go_ret2
  exact HE.out

set_option maxHeartbeats 4000000 in
theorem sorted_w40 (b off n cap : Nat) (l : List PV) (w : World) (hn : l.length = n) (hn2 : n ≤ 40) (hrow : RowIn w b off l) (hl : ∀ p ∈ l, LiesT w p.1 p.2 ∧ nodesB p.1 = true) (hp : Places w) :
    Calls Tryd.prog 42 #[.slice (some ⟨b, off, none⟩) n cap, .func (.func 43) #[] #[]] w (RowEnd (stL (cfP false) l) w) := by
  have HV : Hid (∀ p ∈ l, ∃ a c, p.2 = .slice a p.1.args.length c) := fun p hp => (hl p hp).1.slice
  have HR := Lib.hid hrow
  have HL := Lib.hid hl
  have HP := Lib.hid hp
  have HN := Lib.hid hn
  clear hrow hl hp hn
  go_enter Tryd.func42, Tryd.ntmps42
  go_wp2_with fail
  have HB0 : Below w.heap.size w (w.alloc (.cells #[.func (.func 43) #[] #[]] 34)) := (Below.refl _ _).alloc (Nat.le_refl _) _
  refine (clonerow_any b off n cap l _ HN.out (by omega) (HR.out.below HB0) HV.out).mono ?_
  rintro e w2 ⟨v2, rfl, hown, hne, hb2⟩
  obtain ⟨g, cap2, pad, rfl, hc2, hg, hrw⟩ := row_of_own hown hne HN.out
  have hg1 : w.heap.size + 1 ≤ g := by simpa using hg
  have B2 := Lib.hid (HB0.trans (hb2.mono HB0.size))
  have HC0 : Hid (w2.cell? ⟨w.heap.size, 0, none⟩ = some (.func (.func 43) #[] #[])) := cell_below hb2 _ _ (by rw [cell_of_row _ _ _ _ _ _ (heap_alloc_new _ _)]; rfl)
  have Z2 : w.heap.size + 1 ≤ w2.heap.size := by have := hb2.size; simpa using this
  have HS := stable_40 g w.heap.size n cap2 (cfP false) (cfP_ord false) l pad w2 hrw HN.out hc2 hn2 HV (Lib.hid (fun p hp q hq w' hnr => by
    have hb3 : Below w.heap.size w w' := hnr.below B2.out (by omega) B2.out.size
    obtain ⟨lp, np⟩ := HL.out p hp
    obtain ⟨lq, nq⟩ := HL.out q hq
    have hcc : w'.cell? ⟨w.heap.size, 0, none⟩ = some (.func (.func 43) #[] #[]) := by
      rw [World.cell?_of_block (hnr.block w.heap.size (by omega) (by omega))]; exact HC0.out
    exact s1_whole p.1 q.1 p.2 q.2 w.heap.size w' (lp.below hb3) (lq.below hb3) (HP.out.below hb3) hcc np nq))
  have HST := Lib.hid HS
  clear HS hrw hown hne hb2 HB0
  go_wp2_with (first | (go_at_call 70; refine HST.out.mono ?_; rintro e w3 ⟨rfl, hr3, hn3⟩))
  go_ret
  exact ⟨g, cap2, pad, by rw [st_length, HN.out]; rfl, by rw [st_length, HN.out]; exact hc2, by omega, hr3, hn3.below B2.out (by omega) B2.out.size⟩

set_option maxHeartbeats 4000000 in
theorem sorted_k40 (b off n cap : Nat) (l : List PV) (w : World) (hn : l.length = n) (hn2 : n ≤ 40) (hrow : RowIn w b off l) (hl : ∀ p ∈ l, LiesT w p.1 p.2 ∧ nodesB p.1 = true) (hp : Places w) (hk : ∀ p ∈ l, pairT p.1 = true) :
    Calls Tryd.prog 42 #[.slice (some ⟨b, off, none⟩) n cap, .func (.func 46) #[] #[]] w (RowEnd (stL (cfP true) l) w) := by
  have HV : Hid (∀ p ∈ l, ∃ a c, p.2 = .slice a p.1.args.length c) := fun p hp => (hl p hp).1.slice
  have HR := Lib.hid hrow
  have HL := Lib.hid hl
  have HP := Lib.hid hp
  have HN := Lib.hid hn
  have HK := Lib.hid hk
  clear hrow hl hp hn
  go_enter Tryd.func42, Tryd.ntmps42
  go_wp2_with fail
  have HB0 : Below w.heap.size w (w.alloc (.cells #[.func (.func 46) #[] #[]] 34)) := (Below.refl _ _).alloc (Nat.le_refl _) _
  refine (clonerow_any b off n cap l _ HN.out (by omega) (HR.out.below HB0) HV.out).mono ?_
  rintro e w2 ⟨v2, rfl, hown, hne, hb2⟩
  obtain ⟨g, cap2, pad, rfl, hc2, hg, hrw⟩ := row_of_own hown hne HN.out
  have hg1 : w.heap.size + 1 ≤ g := by simpa using hg
  have B2 := Lib.hid (HB0.trans (hb2.mono HB0.size))
  have HC0 : Hid (w2.cell? ⟨w.heap.size, 0, none⟩ = some (.func (.func 46) #[] #[])) := cell_below hb2 _ _ (by rw [cell_of_row _ _ _ _ _ _ (heap_alloc_new _ _)]; rfl)
  have Z2 : w.heap.size + 1 ≤ w2.heap.size := by have := hb2.size; simpa using this
  have HS := stable_40 g w.heap.size n cap2 (cfP true) (cfP_ord true) l pad w2 hrw HN.out hc2 hn2 HV (Lib.hid (fun p hp q hq w' hnr => by
    have hb3 : Below w.heap.size w w' := hnr.below B2.out (by omega) B2.out.size
    obtain ⟨lp, np⟩ := HL.out p hp
    obtain ⟨lq, nq⟩ := HL.out q hq
    have hcc : w'.cell? ⟨w.heap.size, 0, none⟩ = some (.func (.func 46) #[] #[]) := by
      rw [World.cell?_of_block (hnr.block w.heap.size (by omega) (by omega))]; exact HC0.out
    exact s1_key p.1 q.1 p.2 q.2 w.heap.size w' (lp.below hb3) (lq.below hb3) (HP.out.below hb3) hcc np nq (HK.out p hp) (HK.out q hq)))
  have HST := Lib.hid HS
  clear HS hrw hown hne hb2 HB0
  go_wp2_with (first | (go_at_call 70; refine HST.out.mono ?_; rintro e w3 ⟨rfl, hr3, hn3⟩))
  go_ret
  exact ⟨g, cap2, pad, by rw [st_length, HN.out]; rfl, by rw [st_length, HN.out]; exact hc2, by omega, hr3, hn3.below B2.out (by omega) B2.out.size⟩

set_option maxHeartbeats 4000000 in
theorem Sort_one (b off n cap : Nat) (l : List PV) (w : World) (hn : l.length = n) (hn2 : n ≤ 1000000) (hcap : n ≤ cap) (hrow : RowIn w b off l) (hl : ∀ p ∈ l, LiesT w p.1 p.2) (hp : Places w) (hv : (l.all fun p => validB p.1) = true) (R : List PV) (hR : R.length = n) (hmem : ∀ p ∈ R, p ∈ l) (hn0 : n = 1)
    (HS : Hid (∀ w1, Below w.heap.size w w1 → Calls Tryd.prog 42 #[.slice (some ⟨b, off, none⟩) n cap, .func (.func 43) #[] #[]] w1 (RowEnd R w1))) :
    Calls Tryd.prog 16 #[.slice (some ⟨b, off, none⟩) n cap] w (CopyE ((cptN eqP R n).map Prod.fst) 0 w) := by
  have A1 := Lib.hid (all_valid b off n cap l w hn hn2 hcap hrow hl)
  rw [hv] at A1
  have HL : Hid (∀ p ∈ R, LiesT w p.1 p.2 ∧ validB p.1 = true) := fun p hp => And.intro (hl p (hmem p hp)) (List.all_eq_true.1 hv p (hmem p hp))
  have HRL := Lib.hid hR
  have HN1 := Lib.hid hn0
  have HP := Lib.hid hp
  clear hrow hl hn hv hmem hR hp hn0
  go_enter Tryd.func16, Tryd.ntmps16
  go_wp2_with fail
  refine A1.out.mono ?_
  rintro e w1 ⟨rfl, hb1⟩
  have B2 := Lib.hid hb1
  clear hb1
  go_wp2_with fail
  refine (HS.out w1 B2.out).mono ?_
  rintro e w3 ⟨g, cap3, pad, rfl, hc3, hg3, hr3, hb3⟩
  rw [HRL.out] at hc3
  rw [HRL.out]
  have B3 := Lib.hid (B2.out.trans (hb3.mono B2.out.size))
  have HC : Hid (Calls Tryd.prog 41 #[.slice (some ⟨g, 0, none⟩) n cap3, .func (.func 44) #[] #[]] w3 fun e w' => e = .returned (.slice (some ⟨g, 0, none⟩) n cap3) ∧ w3 = w') := compact_short _ n cap3 (by have := HN1.out; omega) w3
  have HROW : Hid (RowAt w3 g R pad 24) := Lib.hid hr3
  clear hr3 hb3 hg3
  go_wp2_with fail
  refine HC.out.mono ?_
  rintro e w4 ⟨rfl, rfl⟩
  have hcp : cptN eqP R n = R := by
    rw [HN1.out, cptN]
    exact List.take_of_length_le (by rw [HRL.out, HN1.out]; exact Nat.le_refl _)
  have HCP := Lib.hid hcp
  have HC2 := Lib.hid (copies_any (some ⟨g, 0, none⟩) n cap3 R w3 HRL.out (by omega) hc3 (Lib.hid (fun _ => ⟨g, 0, rfl, RowAt.rowIn HROW.out⟩)) (fun p hp => ⟨(HL.out p hp).1.below B3.out, (HL.out p hp).2⟩))
  clear hcp
  go_wp2_with fail
  refine HC2.out.mono ?_
  intro e w5 hC5
  obtain ⟨g5, rfl, hE⟩ := CopyE.of B3.out hC5
  rw [List.length_map] at hE
  have HE := Lib.hid hE
  clear hE hC5
  go_wp2_with fail
  go_ret2
  rw [HCP.out]
  exact HE.out


/-- Of a row of at most 40. -/
theorem Stable_40 (v : Value) (l : List PV) (w : World) (h : RowV w v l) (hn : l.length ≤ 40) (hl : ∀ p ∈ l, LiesT w p.1 p.2) (hp : Places w) (hv : (l.all fun p => validB p.1) = true) : Calls Tryd.prog 17 #[v] w (CopyE ((stL (cfP false) l).map Prod.fst) 0 w) := by
  rcases h with ⟨rfl, rfl⟩ | ⟨h0, b, off, cap, rfl, h2, h3⟩
  · exact Stable_nil w
  · exact Stable_yes b off _ cap l w rfl (by omega) h2 h3 hl hv (stL (cfP false) l) (st_length l) (fun p hp => st_mem.1 hp) h0
      (Lib.hid (fun w1 hb => sorted_w40 b off _ cap l w1 rfl hn (h3.below hb) (fun p hq => ⟨(hl p hq).below hb, val_nodes (List.all_eq_true.1 hv p hq)⟩) (hp.below hb)))
theorem Keys_40 (v : Value) (l : List PV) (w : World) (h : RowV w v l) (hn : l.length ≤ 40) (hl : ∀ p ∈ l, LiesT w p.1 p.2) (hp : Places w) (hv : (l.all fun p => validB p.1) = true) (hk : (l.all fun p => pairB p.1) = true) : Calls Tryd.prog 18 #[v] w (CopyE ((stL (cfP true) l).map Prod.fst) 0 w) := by
  rcases h with ⟨rfl, rfl⟩ | ⟨h0, b, off, cap, rfl, h2, h3⟩
  · exact Keys_nil w
  · exact Keys_yes b off _ cap l w rfl (by omega) h2 h3 hl hv hk (stL (cfP true) l) (st_length l) (fun p hp => st_mem.1 hp) h0
      (Lib.hid (fun w1 hb => sorted_k40 b off _ cap l w1 rfl hn (h3.below hb) (fun p hq => ⟨(hl p hq).below hb, val_nodes (List.all_eq_true.1 hv p hq)⟩) (hp.below hb) (fun p hq => pairT_of (List.all_eq_true.1 hk p hq))))
theorem Sort_40 (v : Value) (l : List PV) (w : World) (h : RowV w v l) (hn : l.length ≤ 40) (hl : ∀ p ∈ l, LiesT w p.1 p.2) (hp : Places w) (hv : (l.all fun p => validB p.1) = true) : Calls Tryd.prog 16 #[v] w (CopyE ((cptN eqP (stL (cfP false) l) l.length).map Prod.fst) 0 w) := by
  rcases h with ⟨rfl, rfl⟩ | ⟨h0, b, off, cap, rfl, h2, h3⟩
  · exact Sort_nil w
  · have HS := (Lib.hid (fun w1 hb => sorted_w40 b off _ cap l w1 rfl hn (h3.below hb) (fun p hq => ⟨(hl p hq).below hb, val_nodes (List.all_eq_true.1 hv p hq)⟩) (hp.below hb)) : Hid (∀ w1, Below w.heap.size w w1 → Calls Tryd.prog 42 #[.slice (some ⟨b, off, none⟩) l.length cap, .func (.func 43) #[] #[]] w1 (RowEnd (stL (cfP false) l) w1)))
    by_cases h1 : l.length = 1
    · exact Sort_one b off _ cap l w rfl (by omega) h2 h3 hl hp hv (stL (cfP false) l) (st_length l) (fun p hp => st_mem.1 hp) h1 HS
    · exact Sort_yes b off _ cap l w rfl (by omega) h2 h3 hl hp hv (stL (cfP false) l) (st_length l) (fun p hp => st_mem.1 hp) (by omega) HS
theorem bad_some {l : List PV} {f : PV → Bool} {v : Value} {w : World} (h : RowV w v l) (hv : l.all f = false) : 0 < l.length ∧ ∃ b off cap, v = .slice (some ⟨b, off, none⟩) l.length cap ∧ l.length ≤ cap ∧ RowIn w b off l := by
  rcases h with ⟨rfl, _⟩ | h
  · simp at hv
  · exact h
theorem Stable_40b (v : Value) (l : List PV) (w : World) (h : RowV w v l) (hn : l.length ≤ 1000000) (hl : ∀ p ∈ l, LiesT w p.1 p.2) (hv : (l.all fun p => validB p.1) = false) : Calls Tryd.prog 17 #[v] w (NoneE 1 w) := by
  obtain ⟨h0, b, off, cap, rfl, h2, h3⟩ := bad_some h hv
  exact Stable_bad b off _ cap l w rfl hn h2 h3 hl hv
theorem Sort_40b (v : Value) (l : List PV) (w : World) (h : RowV w v l) (hn : l.length ≤ 1000000) (hl : ∀ p ∈ l, LiesT w p.1 p.2) (hv : (l.all fun p => validB p.1) = false) : Calls Tryd.prog 16 #[v] w (NoneE 1 w) := by
  obtain ⟨h0, b, off, cap, rfl, h2, h3⟩ := bad_some h hv
  exact Sort_bad b off _ cap l w rfl hn h2 h3 hl hv
theorem Keys_40b (v : Value) (l : List PV) (w : World) (h : RowV w v l) (hn : l.length ≤ 1000000) (hl : ∀ p ∈ l, LiesT w p.1 p.2) (hv : (l.all fun p => validB p.1) = false) : Calls Tryd.prog 18 #[v] w (NoneE 1 w) := by
  obtain ⟨h0, b, off, cap, rfl, h2, h3⟩ := bad_some h hv
  exact Keys_bad b off _ cap l w rfl hn h2 h3 hl hv
theorem Keys_40f (v : Value) (l : List PV) (w : World) (h : RowV w v l) (hn : l.length ≤ 1000000) (hl : ∀ p ∈ l, LiesT w p.1 p.2) (hv : (l.all fun p => validB p.1) = true) (hk : (l.all fun p => pairB p.1) = false) : Calls Tryd.prog 18 #[v] w (NoneE 3 w) := by
  obtain ⟨h0, b, off, cap, rfl, h2, h3⟩ := bad_some h hk
  exact Keys_form b off _ cap l w rfl hn h2 h3 hl hv hk

end Go.Proofs.YtehnhjhflaljhaaDoor
