/- The law's helpers; SameAll. -/
import Derived.Test.YtehnhjhflaljhaaDoorK15
import Derived.Test.YtehnhjhflaljhaaDoorA0
namespace Go.Proofs.YtehnhjhflaljhaaDoor
open Go.RowKit Go.Proofs.HT

set_option maxHeartbeats 1000000 in
theorem f_any (s : ByteArray) (a : Option Addr) (l cap : Nat) (w : World) :
    Calls Tryd.prog 33 #[.string s, .slice a l cap] w fun e w' => e = .returned (pv 3 0 s (.slice a l cap)) ∧ Below w.heap.size w w' := by
  have fr : ∀ o, Below w.heap.size w (w.alloc o) := fun o => (Below.refl _ _).alloc (Nat.le_refl _) _
  go_enter Tryd.func33, Tryd.ntmps33
  go_wp2_with fail
  exact bodyPost_ret (v := pv 3 0 s (.slice a l cap)) (by simp [results, Tryd.results33, go_sem]) rfl ⟨rfl, fr _⟩
set_option maxHeartbeats 1000000 in
theorem x_any (n : Int) (w : World) :
    Calls Tryd.prog 30 #[.int .i64 n] w fun e w' => e = .returned (pv 0 n ⟨#[]⟩ (.slice none 0 0)) ∧ Below w.heap.size w w' := by
  have fr : ∀ o, Below w.heap.size w (w.alloc o) := fun o => (Below.refl _ _).alloc (Nat.le_refl _) _
  go_enter Tryd.func30, Tryd.ntmps30
  go_wp2_with fail
  exact bodyPost_ret (v := pv 0 n ⟨#[]⟩ (.slice none 0 0)) (by simp [results, Tryd.results30, go_sem]) rfl ⟨rfl, fr _⟩
set_option maxHeartbeats 1000000 in
theorem a_any (s : ByteArray) (w : World) :
    Calls Tryd.prog 35 #[.string s] w fun e w' => e = .returned (pv 2 0 s (.slice none 0 0)) ∧ Below w.heap.size w w' := by
  have fr : ∀ o, Below w.heap.size w (w.alloc o) := fun o => (Below.refl _ _).alloc (Nat.le_refl _) _
  go_enter Tryd.func35, Tryd.ntmps35
  go_wp2_with fail
  exact bodyPost_ret (v := pv 2 0 s (.slice none 0 0)) (by simp [results, Tryd.results35, go_sem]) rfl ⟨rfl, fr _⟩

set_option maxHeartbeats 1000000 in
theorem n_any (n : Int) (w : World) :
    Calls Tryd.prog 34 #[.int .i64 n] w fun e w' => e = .returned (pv 1 n ⟨#[]⟩ (.slice none 0 0)) ∧ Below w.heap.size w w' := by
  have fr : ∀ o, Below w.heap.size w (w.alloc o) := fun o => (Below.refl _ _).alloc (Nat.le_refl _) _
  go_enter Tryd.func34, Tryd.ntmps34
  go_wp2_with fail
  exact bodyPost_ret (v := pv 1 n ⟨#[]⟩ (.slice none 0 0)) (by simp [results, Tryd.results34, go_sem]) rfl ⟨rfl, fr _⟩
def sallB (l m : List PV) : Bool := decide (l.length = m.length) && (List.range l.length).all fun k => sameV (l.getD k dflt).1 (m.getD k dflt).1
set_option maxHeartbeats 4000000 in
theorem sall_any (b off n cap b2 off2 n2 cap2 : Nat) (l m : List PV) (w : World) (hn : l.length = n) (hm : m.length = n2) (hn2 : n ≤ 1000000) (hcap : n ≤ cap) (hcap2 : n2 ≤ cap2) (hrow : RowIn w b off l) (hrow2 : RowIn w b2 off2 m) (hl : ∀ p ∈ l, LiesT w p.1 p.2) (hl2 : ∀ p ∈ m, LiesT w p.1 p.2) :
    Calls Tryd.prog 22 #[.slice (some ⟨b, off, none⟩) n cap, .slice (some ⟨b2, off2, none⟩) n2 cap2] w fun e w' => e = .returned (.bool (sallB l m)) ∧ Below w.heap.size w w' := by
  have HN := Lib.hid hn
  have HM := Lib.hid hm
  have HL := Lib.hid hl
  have HL2 := Lib.hid hl2
  have HR := Lib.hid hrow
  have HR2 := Lib.hid hrow2
  clear hn hm hl hl2 hrow hrow2
  by_cases hnn : n = n2
  · subst hnn
    obtain ⟨R, hR⟩ : ∃ R, sallB l m = R := ⟨_, rfl⟩
    rw [hR]
    have HRR := Lib.hid hR
    clear hR
    go_enter Tryd.func22, Tryd.ntmps22
    go_wp2_with fail
    go_loopw [5] (fun i wr => ∃ j : Nat, j ≤ n ∧ i = .int .i64 j ∧ Hid (Below w.heap.size w wr) ∧ Hid (∀ k, k < j → sameV (l.getD k dflt).1 (m.getD k dflt).1 = true)) (fun i _ => n - (intOf i).toNat)
    case atStart => exact ⟨0, by omega, rfl, Lib.hid (Below.refl _ _), Lib.hid (fun _ h => by omega)⟩
    case round =>
      obtain ⟨j, hj, rfl, hb, hz⟩ := hrel
      by_cases hlt : j < n
      · have hk1 : j < l.length := by have := HN.out; omega
        have hk2 : j < m.length := by have := HM.out; omega
        have cp := (HR.out.below hb.out).at j hk1
        have cq := (HR2.out.below hb.out).at j hk2
        have mp := HL.out _ (List.getElem_mem hk1)
        have mq := HL2.out _ (List.getElem_mem hk2)
        have gp := getD_at l j hk1
        have gq := getD_at m j hk2
        obtain ⟨pp, hpe⟩ : ∃ p, l[j] = p := ⟨_, rfl⟩
        obtain ⟨qq, hqe⟩ : ∃ p, m[j] = p := ⟨_, rfl⟩
        rw [hpe] at cp mp gp
        rw [hqe] at cq mq gq
        obtain ⟨tp, vp⟩ := pp
        obtain ⟨tq, vq⟩ := qq
        obtain ⟨pa, pc, ev⟩ := mp.slice
        obtain rfl : vp = .slice pa tp.args.length pc := ev
        obtain ⟨qa, qc, ev⟩ := mq.slice
        obtain rfl : vq = .slice qa tq.args.length qc := ev
        obtain ⟨z, hz0⟩ : ∃ z, sameV tp tq = z := ⟨_, rfl⟩
        have HCC : Hid (∀ w', Below wr.heap.size wr w' → Calls Tryd.prog 28 #[tv tp (.slice pa tp.args.length pc), tv tq (.slice qa tq.args.length qc)] w' fun e w'' => e = .returned (.bool z) ∧ Below w'.heap.size w' w'') := fun w' h => by
          rw [← hz0]
          have hb3 := hb.out.trans (h.mono hb.out.size)
          exact same_any tp tq _ _ w' (mp.below hb3) (mq.below hb3)
        have HG : Hid (sameV (l.getD j dflt).1 (m.getD j dflt).1 = z) := by show _ = _; rw [gp, gq]; exact hz0
        obtain ⟨p0, p1, p2, p3⟩ := cp
        obtain ⟨q0, q1, q2, q3⟩ := cq
        clear mp mq gp gq hpe hqe hz0 hk1 hk2
        have hS0 : Below wr.heap.size wr wr.drew := (Below.refl _ _).drew
        have HS : Hid (∀ w', Below wr.heap.size wr w' → (fun w' => Below wr.heap.size wr w' ∧ w'.cell? ⟨b, off + j * 4, none⟩ = some (.int .i64 tp.kind) ∧ w'.cell? ⟨b, off + j * 4 + 1, none⟩ = some (.int .i64 tp.num) ∧ w'.cell? ⟨b, off + j * 4 + 2, none⟩ = some (.string tp.name) ∧ w'.cell? ⟨b, off + j * 4 + 3, none⟩ = some (.slice pa tp.args.length pc) ∧ w'.cell? ⟨b2, off2 + j * 4, none⟩ = some (.int .i64 tq.kind) ∧ w'.cell? ⟨b2, off2 + j * 4 + 1, none⟩ = some (.int .i64 tq.num) ∧ w'.cell? ⟨b2, off2 + j * 4 + 2, none⟩ = some (.string tq.name) ∧ w'.cell? ⟨b2, off2 + j * 4 + 3, none⟩ = some (.slice qa tq.args.length qc)) w') := fun w' h => ⟨h, cell_below h _ _ p0, cell_below h _ _ p1, cell_below h _ _ p2, cell_below h _ _ p3, cell_below h _ _ q0, cell_below h _ _ q1, cell_below h _ _ q2, cell_below h _ _ q3⟩
        cases z
        all_goals
          go_wp2_with fail
          go_region_held3 (fun w' => Below wr.heap.size wr w' ∧ w'.cell? ⟨b, off + j * 4, none⟩ = some (.int .i64 tp.kind) ∧ w'.cell? ⟨b, off + j * 4 + 1, none⟩ = some (.int .i64 tp.num) ∧ w'.cell? ⟨b, off + j * 4 + 2, none⟩ = some (.string tp.name) ∧ w'.cell? ⟨b, off + j * 4 + 3, none⟩ = some (.slice pa tp.args.length pc) ∧ w'.cell? ⟨b2, off2 + j * 4, none⟩ = some (.int .i64 tq.kind) ∧ w'.cell? ⟨b2, off2 + j * 4 + 1, none⟩ = some (.int .i64 tq.num) ∧ w'.cell? ⟨b2, off2 + j * 4 + 2, none⟩ = some (.string tq.name) ∧ w'.cell? ⟨b2, off2 + j * 4 + 3, none⟩ = some (.slice qa tq.args.length qc))
            (first | exact HS.out _ h5 | exact HS.out _ hS0 | assumption | go_keep)
            (first
              | (go_at_call 28; refine (HCC.out _ (by assumption : Below wr.heap.size wr _)).mono ?_; rintro e w4 ⟨rfl, hb4⟩; have h5 : Below wr.heap.size wr w4 := Below.trans (by assumption : Below wr.heap.size wr _) (hb4.mono (Below.size (by assumption : Below wr.heap.size wr _)))))
          have H5 := Lib.hid h5
          clear p0 p1 p2 p3 q0 q1 q2 q3 h5 hS0 HS
          go_wp2_with fail
        · have HE : Hid (R = false) := by
            show _ = _
            rw [← HRR.out, ← Bool.not_eq_true]
            unfold sallB
            rw [Bool.and_eq_true, List.all_eq_true]
            intro h
            have := h.2 j (List.mem_range.2 (by have := HN.out; omega))
            rw [HG.out] at this; cases this
          go_ret
          exact ⟨ret_bool HE.out.symm, hb.out.trans (H5.out.mono hb.out.size)⟩
        · go_roundw
          case rel =>
            refine ⟨j + 1, by omega, by go_num, Lib.hid (hb.out.trans (H5.out.mono hb.out.size)), Lib.hid (fun i hi => ?_)⟩
            by_cases e : i = j
            · subst e; exact HG.out
            · exact hz.out i (by omega)
          case measure => simp [intOf]; omega
      · have HE : Hid (R = true) := by
          show _ = _
          rw [← HRR.out]
          unfold sallB
          rw [Bool.and_eq_true, List.all_eq_true]
          refine ⟨by simp; have := HN.out; have := HM.out; omega, fun k hk => hz.out k ?_⟩
          have := List.mem_range.1 hk
          have := HN.out
          omega
        go_wp2_with fail
        go_ret
        exact ⟨ret_bool HE.out.symm, hb.out⟩
  · have HE : Hid (sallB l m = false) := by
      show _ = _
      unfold sallB
      rw [show decide (l.length = m.length) = false by simp; have := HN.out; have := HM.out; omega]; rfl
    have d1 : ((n : Int) == (n2 : Int)) = false := by simp; omega
    have d2 : ((n : Int) != (n2 : Int)) = true := by simp; omega
    have d3 : ¬ (n : Int) = (n2 : Int) := by omega
    go_enter Tryd.func22, Tryd.ntmps22
    go_wp2_with fail
    go_ret
    exact ⟨ret_bool HE.out.symm, Below.refl _ _⟩

end Go.Proofs.YtehnhjhflaljhaaDoor
