/- Of the stable sort: the symmetric merge where one side has one element. -/
import Derived.Test.YtehnhjhflaljhaaDoorKD
namespace Go.Proofs.YtehnhjhflaljhaaDoor
open Go.RowKit Go.Proofs.HT

theorem bsr_end (p : Nat → Bool) (f i : Nat) : bsr p f i i = i := by cases f with | zero => rfl | succ f => rw [bsr, if_neg (Nat.lt_irrefl _)]
theorem bsr_hi {p : Nat → Bool} {f i j h r : Nat} (hlt : i < j) (hh : h = (i + j) / 2) (hp : p h = true) (e : bsr p (f + 1) i j = r) : bsr p f (h + 1) j = r := by
  rw [bsr, if_pos hlt, ← hh, if_pos hp] at e; exact e
theorem bsr_lo {p : Nat → Bool} {f i j h r : Nat} (hlt : i < j) (hh : h = (i + j) / 2) (hp : p h = false) (e : bsr p (f + 1) i j = r) : bsr p f i h = r := by
  rw [bsr, if_pos hlt, ← hh, hp, if_neg (by simp)] at e; exact e
theorem bsr_in (p : Nat → Bool) : ∀ (f i j : Nat), i ≤ j → i ≤ bsr p f i j ∧ bsr p f i j ≤ j
  | 0, i, j, h => by simp only [bsr]; omega
  | f + 1, i, j, h => by
    rw [bsr]
    split
    · split
      · have := bsr_in p f ((i + j) / 2 + 1) j (by omega); omega
      · have := bsr_in p f i ((i + j) / 2) (by omega); omega
    · omega

set_option maxRecDepth 100000 in
set_option maxHeartbeats 8000000 in
theorem symm_left (blk c n cap a m b : Nat) (cf : PV → PV → Int) (L l0 : List PV) (pad : List Value) (W w : World) (HW : Hid (Near blk W w)) (hrow : RowAt w blk l0 pad 24) (hn : l0.length = n) (_hcap : n ≤ cap) (ham : a < m) (hmb : m < b) (hbn : b ≤ n) (hn2 : n ≤ 1000000)
    (HV : Hid (∀ p ∈ L, ∃ a c, p.2 = .slice a p.1.args.length c)) (HC : Hid (∀ p ∈ L, ∀ q ∈ L, ∀ w', Near blk W w' → Calls Tryd.prog 71 #[tv p.1 p.2, tv q.1 q.2, .pointer (some ⟨c, 0, none⟩)] w' fun e w'' => e = .returned (.int .i64 (cf p q)) ∧ Below w'.heap.size w' w'')) (HL : Hid (∀ p ∈ l0, p ∈ L)) (hone : m = a + 1) :
    Calls Tryd.prog 86 #[.slice (some ⟨blk, 0, none⟩) n cap, .int .i64 a, .int .i64 m, .int .i64 b, .func (.func 71) #[] #[.pointer (some ⟨c, 0, none⟩)]] w fun e w' => e = .returned (.tuple #[]) ∧ RowAt w' blk (upF (bsr (fun h => decide (cf (l0.getD h dflt) (l0.getD a dflt) < 0)) (b - m) m b - 1 - a) a l0) pad 24 ∧ Near blk w w' ∧ Hid ((upF (bsr (fun h => decide (cf (l0.getD h dflt) (l0.getD a dflt) < 0)) (b - m) m b - 1 - a) a l0).length = n ∧ ∀ p ∈ upF (bsr (fun h => decide (cf (l0.getD h dflt) (l0.getD a dflt) < 0)) (b - m) m b - 1 - a) a l0, p ∈ L) := by
  obtain ⟨r, hr0⟩ : ∃ r, bsr (fun h => decide (cf (l0.getD h dflt) (l0.getD a dflt) < 0)) (b - m) m b = r := ⟨_, rfl⟩
  have hrb := bsr_in (fun h => decide (cf (l0.getD h dflt) (l0.getD a dflt) < 0)) (b - m) m b (by omega)
  rw [hr0] at hrb ⊢
  obtain ⟨R, hR⟩ : ∃ R, upF (r - 1 - a) a l0 = R := ⟨_, rfl⟩
  rw [hR]
  obtain ⟨s, hs⟩ : ∃ s : Nat, s = r - 1 := ⟨_, rfl⟩
  have hS : (r : Int) - 1 = (s : Int) := by omega
  have hs1 : a ≤ s := by omega
  have hs2 : s < b := by omega
  have hs3 : r ≤ b := by omega
  rw [← hs] at hR
  have HSR := Lib.hid hs
  have HR := Lib.hid hR
  have HR0 := Lib.hid hr0
  have HROW := Lib.hid hrow
  have HN := Lib.hid hn
  have HO : Hid ((m : Int) - (a : Int) = 1) := by show _ = _; omega
  clear hR hr0 hrow hn hs hrb hone
  have e1 := HO.out
  go_enter Tryd.func86, Tryd.ntmps86
  go_wp2_with fail
  clear e1
  go_loopw [10, 11] (fun vi vj wr => ∃ (i j g : Nat), i ≤ j ∧ m ≤ i ∧ j ≤ b ∧ j - i ≤ g ∧ vi = .int .i64 i ∧ vj = .int .i64 j ∧ Hid (RowAt wr blk l0 pad 24) ∧ Hid (Near blk w wr) ∧ Hid (bsr (fun h => decide (cf (l0.getD h dflt) (l0.getD a dflt) < 0)) g i j = r)) (fun vi vj _ => (intOf vj).toNat - (intOf vi).toNat)
  case atStart => exact ⟨m, b, b - m, by omega, by omega, by omega, Nat.le_refl _, rfl, rfl, HROW, Lib.hid (Near.refl _ _), HR0⟩
  case round =>
    obtain ⟨i, j, g, hij, hmi, hjb, hg, rfl, rfl, hr, hnr, hq⟩ := hrel
    by_cases hlt : i < j
    · obtain ⟨g, rfl⟩ : ∃ g', g = g' + 1 := ⟨g - 1, by omega⟩
      obtain ⟨h, hh⟩ : ∃ h : Nat, h = (i + j) / 2 := ⟨_, rfl⟩
      have hX : ((i : Int) + (j : Int)) / 2 = (h : Int) := by omega
      have hhi : i ≤ h := by omega
      have hhj : h < j := by omega
      have HH := Lib.hid hh
      have hl : Hid (l0.length = n ∧ True ∧ True) := Lib.hid ⟨HN.out, trivial, trivial⟩
      clear hh
      have hkp : h < l0.length := by have := hl.out.1; omega
      have cp := hr.out.cells h hkp
      have mp := HL.out _ (List.getElem_mem hkp)
      have gp := getD_at l0 h hkp
      obtain ⟨pp, hep⟩ : ∃ p, l0[h] = p := ⟨_, rfl⟩
      rw [hep] at cp mp gp
      obtain ⟨tp, vp⟩ := pp
      obtain ⟨ap, kp, ev⟩ := HV.out _ mp
      obtain rfl : vp = .slice ap tp.args.length kp := ev
      obtain ⟨sp0, sp1, sp2, sp3⟩ := cp
      have HMp := Lib.hid mp
      have HGp := Lib.hid gp
      have HKp := Lib.hid hkp
      clear hep mp gp hkp
      have hkq : a < l0.length := by have := hl.out.1; omega
      have cq := hr.out.cells a hkq
      have mq := HL.out _ (List.getElem_mem hkq)
      have gq := getD_at l0 a hkq
      obtain ⟨pq, heq⟩ : ∃ p, l0[a] = p := ⟨_, rfl⟩
      rw [heq] at cq mq gq
      obtain ⟨tq, vq⟩ := pq
      obtain ⟨aq, kq, ev⟩ := HV.out _ mq
      obtain rfl : vq = .slice aq tq.args.length kq := ev
      obtain ⟨sq0, sq1, sq2, sq3⟩ := cq
      have HMq := Lib.hid mq
      have HGq := Lib.hid gq
      have HKq := Lib.hid hkq
      clear heq mq gq hkq
      have wr_h : IntKind.i64.wrap (h : Int) = (h : Int) := IntWalk.i64_in _ (by omega)
      have lo_h : (0 : Int) ≤ (h : Int) := by omega
      have hi_h : (h : Int) < (n : Int) := by omega
      have wr_a : IntKind.i64.wrap (a : Int) = (a : Int) := IntWalk.i64_in _ (by omega)
      have lo_a : (0 : Int) ≤ (a : Int) := by omega
      have hi_a : (a : Int) < (n : Int) := by omega
      obtain ⟨z, hz0⟩ : ∃ z, cf (tp, .slice ap tp.args.length kp) (tq, .slice aq tq.args.length kq) = z := ⟨_, rfl⟩
      have HZ := Lib.hid hz0
      have HCC : Hid (∀ w', Below wr.heap.size wr w' → Calls Tryd.prog 71 #[tv tp (.slice ap tp.args.length kp), tv tq (.slice aq tq.args.length kq), .pointer (some ⟨c, 0, none⟩)] w' fun e w'' => e = .returned (.int .i64 z) ∧ Below w'.heap.size w' w'') := fun w' h => by rw [← hz0]; exact HC.out _ HMp.out _ HMq.out w' (HW.out.trans (hnr.out.trans (Near.of_below h)))
      clear hz0
      have hS0 : Below wr.heap.size wr wr.drew := (Below.refl _ _).drew
      have HS : Hid (∀ w', Below wr.heap.size wr w' → (fun w' => Below wr.heap.size wr w' ∧ w'.cell? ⟨blk, h * 4, none⟩ = some (.int .i64 tp.kind) ∧ w'.cell? ⟨blk, h * 4 + 1, none⟩ = some (.int .i64 tp.num) ∧ w'.cell? ⟨blk, h * 4 + 2, none⟩ = some (.string tp.name) ∧ w'.cell? ⟨blk, h * 4 + 3, none⟩ = some (.slice ap tp.args.length kp) ∧ w'.cell? ⟨blk, a * 4, none⟩ = some (.int .i64 tq.kind) ∧ w'.cell? ⟨blk, a * 4 + 1, none⟩ = some (.int .i64 tq.num) ∧ w'.cell? ⟨blk, a * 4 + 2, none⟩ = some (.string tq.name) ∧ w'.cell? ⟨blk, a * 4 + 3, none⟩ = some (.slice aq tq.args.length kq)) w') := fun w' h => ⟨h, cell_below h _ _ sp0, cell_below h _ _ sp1, cell_below h _ _ sp2, cell_below h _ _ sp3, cell_below h _ _ sq0, cell_below h _ _ sq1, cell_below h _ _ sq2, cell_below h _ _ sq3⟩
      by_cases hzn : z < 0
      · have e1 : decide (z < 0) = true := by simpa using hzn
        have HQ2 : Hid (bsr (fun h => decide (cf (l0.getD h dflt) (l0.getD a dflt) < 0)) g (h + 1) j = r) := Lib.hid (bsr_hi hlt HH.out (by simp only [HGp.out, HGq.out, HZ.out]; exact e1) hq.out)
        go_wp2_with fail
        go_region_held3 (fun w' => Below wr.heap.size wr w' ∧ w'.cell? ⟨blk, h * 4, none⟩ = some (.int .i64 tp.kind) ∧ w'.cell? ⟨blk, h * 4 + 1, none⟩ = some (.int .i64 tp.num) ∧ w'.cell? ⟨blk, h * 4 + 2, none⟩ = some (.string tp.name) ∧ w'.cell? ⟨blk, h * 4 + 3, none⟩ = some (.slice ap tp.args.length kp) ∧ w'.cell? ⟨blk, a * 4, none⟩ = some (.int .i64 tq.kind) ∧ w'.cell? ⟨blk, a * 4 + 1, none⟩ = some (.int .i64 tq.num) ∧ w'.cell? ⟨blk, a * 4 + 2, none⟩ = some (.string tq.name) ∧ w'.cell? ⟨blk, a * 4 + 3, none⟩ = some (.slice aq tq.args.length kq))
          (first | exact HS.out _ h5 | exact HS.out _ hS0 | assumption | go_keep)
          (first
            | (go_at_call 71; refine (HCC.out _ (by assumption : Below wr.heap.size wr _)).mono ?_; rintro e w4 ⟨rfl, hb4⟩; have h5 : Below wr.heap.size wr w4 := Below.trans (by assumption : Below wr.heap.size wr _) (hb4.mono (Below.size (by assumption : Below wr.heap.size wr _)))))
        have RW := Lib.hid (hr.out.keep h5)
        have N4 := Lib.hid (hnr.out.trans (Near.of_below h5))
        clear sp0 sp1 sp2 sp3 sq0 sq1 sq2 sq3 h5 hS0 HS
        go_wp2_with fail
        go_roundw
        case rel => exact ⟨h + 1, j, g, by omega, by omega, hjb, by omega, by go_num, rfl, RW, N4, HQ2⟩
        case measure => simp [intOf]; omega
      · have e1 : decide (z < 0) = false := by simpa using hzn
        have HQ2 : Hid (bsr (fun h => decide (cf (l0.getD h dflt) (l0.getD a dflt) < 0)) g i h = r) := Lib.hid (bsr_lo hlt HH.out (by simp only [HGp.out, HGq.out, HZ.out]; exact e1) hq.out)
        go_wp2_with fail
        go_region_held3 (fun w' => Below wr.heap.size wr w' ∧ w'.cell? ⟨blk, h * 4, none⟩ = some (.int .i64 tp.kind) ∧ w'.cell? ⟨blk, h * 4 + 1, none⟩ = some (.int .i64 tp.num) ∧ w'.cell? ⟨blk, h * 4 + 2, none⟩ = some (.string tp.name) ∧ w'.cell? ⟨blk, h * 4 + 3, none⟩ = some (.slice ap tp.args.length kp) ∧ w'.cell? ⟨blk, a * 4, none⟩ = some (.int .i64 tq.kind) ∧ w'.cell? ⟨blk, a * 4 + 1, none⟩ = some (.int .i64 tq.num) ∧ w'.cell? ⟨blk, a * 4 + 2, none⟩ = some (.string tq.name) ∧ w'.cell? ⟨blk, a * 4 + 3, none⟩ = some (.slice aq tq.args.length kq))
          (first | exact HS.out _ h5 | exact HS.out _ hS0 | assumption | go_keep)
          (first
            | (go_at_call 71; refine (HCC.out _ (by assumption : Below wr.heap.size wr _)).mono ?_; rintro e w4 ⟨rfl, hb4⟩; have h5 : Below wr.heap.size wr w4 := Below.trans (by assumption : Below wr.heap.size wr _) (hb4.mono (Below.size (by assumption : Below wr.heap.size wr _)))))
        have RW := Lib.hid (hr.out.keep h5)
        have N4 := Lib.hid (hnr.out.trans (Near.of_below h5))
        clear sp0 sp1 sp2 sp3 sq0 sq1 sq2 sq3 h5 hS0 HS
        go_wp2_with fail
        go_roundw
        case rel => exact ⟨i, h, g, by omega, by omega, by omega, by omega, rfl, by go_num, RW, N4, HQ2⟩
        case measure => simp [intOf]; omega
    · obtain rfl : i = j := by omega
      have e : i = r := by have := hq.out; rw [bsr_end] at this; exact this
      subst e
      go_wp2_with fail
      go_loopw [13] (fun vk wr2 => ∃ (k : Nat) (l : List PV), a ≤ k ∧ k ≤ s ∧ vk = .int .i64 k ∧ Hid (RowAt wr2 blk l pad 24) ∧ Hid (Near blk w wr2) ∧ Hid (l.length = n ∧ (∀ p ∈ l, p ∈ L) ∧ upF (s - k) k l = R)) (fun vk _ => s - (intOf vk).toNat)
      case atStart => exact ⟨a, l0, by omega, hs1, rfl, hr, hnr, Lib.hid ⟨HN.out, HL.out, HR.out⟩⟩
      case round =>
        clear hr hnr
        obtain ⟨k, l, hak, hks, rfl, hr, hnr, hl⟩ := hrel
        by_cases hlt2 : k < s
        · obtain ⟨y, hy⟩ : ∃ y : Nat, y = k + 1 := ⟨_, rfl⟩
          have hY : (k : Int) + 1 = (y : Int) := by omega
          have hyn : y < n := by omega
          have hys : y ≤ s := by omega
          have hky : k < y := by omega
          have HY := Lib.hid hy
          clear hy
          have hkp : k < l.length := by have := hl.out.1; omega
          have cp := hr.out.cells k hkp
          have mp := hl.out.2.1 _ (List.getElem_mem hkp)
          have gp := getD_at l k hkp
          obtain ⟨pp, hep⟩ : ∃ p, l[k] = p := ⟨_, rfl⟩
          rw [hep] at cp mp gp
          obtain ⟨tp, vp⟩ := pp
          obtain ⟨ap, kp, ev⟩ := HV.out _ mp
          obtain rfl : vp = .slice ap tp.args.length kp := ev
          obtain ⟨sp0, sp1, sp2, sp3⟩ := cp
          have HMp := Lib.hid mp
          have HGp := Lib.hid gp
          have HKp := Lib.hid hkp
          clear hep mp gp hkp
          have hkq : y < l.length := by have := hl.out.1; omega
          have cq := hr.out.cells y hkq
          have mq := hl.out.2.1 _ (List.getElem_mem hkq)
          have gq := getD_at l y hkq
          obtain ⟨pq, heq⟩ : ∃ p, l[y] = p := ⟨_, rfl⟩
          rw [heq] at cq mq gq
          obtain ⟨tq, vq⟩ := pq
          obtain ⟨aq, kq, ev⟩ := HV.out _ mq
          obtain rfl : vq = .slice aq tq.args.length kq := ev
          obtain ⟨sq0, sq1, sq2, sq3⟩ := cq
          have HMq := Lib.hid mq
          have HGq := Lib.hid gq
          have HKq := Lib.hid hkq
          clear heq mq gq hkq
          have wr_k : IntKind.i64.wrap (k : Int) = (k : Int) := IntWalk.i64_in _ (by omega)
          have lo_k : (0 : Int) ≤ (k : Int) := by omega
          have hi_k : (k : Int) < (n : Int) := by omega
          have wr_y : IntKind.i64.wrap (y : Int) = (y : Int) := IntWalk.i64_in _ (by omega)
          have lo_y : (0 : Int) ≤ (y : Int) := by omega
          have hi_y : (y : Int) < (n : Int) := by omega
          have fp0 := frozen_of_row _ _ (k * 4) _ _ hr.out
          have fp1 := frozen_of_row _ _ (k * 4 + 1) _ _ hr.out
          have fp2 := frozen_of_row _ _ (k * 4 + 2) _ _ hr.out
          have fp3 := frozen_of_row _ _ (k * 4 + 3) _ _ hr.out
          have fq0 := frozen_of_row _ _ (y * 4) _ _ hr.out
          have fq1 := frozen_of_row _ _ (y * 4 + 1) _ _ hr.out
          have fq2 := frozen_of_row _ _ (y * 4 + 2) _ _ hr.out
          have fq3 := frozen_of_row _ _ (y * 4 + 3) _ _ hr.out
          go_wp2_with fail
          go_region_law (fail)
          all_goals
            go_wp2_with fail
            go_roundw
            case rel =>
              refine ⟨y, (l.set k (tq, .slice aq tq.args.length kq)).set y (tp, .slice ap tp.args.length kp), by omega, by omega, rfl, Lib.hid ?_, Lib.hid ?_, Lib.hid ⟨by simp; exact hl.out.1, fun p hp => ?_, ?_⟩⟩
              · exact RowAt.drew (RowAt.set (RowAt.set hr.out k HKp.out (tq, .slice aq tq.args.length kq)) y (by rw [List.length_set]; exact HKq.out) (tp, .slice ap tp.args.length kp))
              · exact Near.drew (hnr.out.trans ((RowAt.near k (tq, .slice aq tq.args.length kq)).trans (RowAt.near y (tp, .slice ap tp.args.length kp))))
              · rcases List.mem_or_eq_of_mem_set hp with h | rfl
                · rcases List.mem_or_eq_of_mem_set h with h | rfl
                  · exact hl.out.2.1 p h
                  · exact HMq.out
                · exact HMp.out
              · have h1 := hl.out.2.2
                rw [show s - k = (s - y) + 1 by omega, upF, ← HY.out, HGp.out, HGq.out] at h1
                exact h1
            case measure => simp [intOf]; omega
        · have e : k = s := by omega
          have HE : Hid (l = R) := by
            have h1 := hl.out.2.2
            rw [e, Nat.sub_self] at h1
            exact h1
          go_wp2_with fail
          refine bodyPost_ret (results_none rfl _ _ _) rfl ?_
          exact ⟨rfl, by rw [← HE.out]; exact hr.out, hnr.out, by rw [← HE.out]; exact Lib.hid ⟨hl.out.1, hl.out.2.1⟩⟩

set_option maxRecDepth 100000 in
set_option maxHeartbeats 8000000 in
theorem symm_right (blk c n cap a m b : Nat) (cf : PV → PV → Int) (L l0 : List PV) (pad : List Value) (W w : World) (HW : Hid (Near blk W w)) (hrow : RowAt w blk l0 pad 24) (hn : l0.length = n) (_hcap : n ≤ cap) (ham : a < m) (hmb : m < b) (hbn : b ≤ n) (hn2 : n ≤ 1000000)
    (HV : Hid (∀ p ∈ L, ∃ a c, p.2 = .slice a p.1.args.length c)) (HC : Hid (∀ p ∈ L, ∀ q ∈ L, ∀ w', Near blk W w' → Calls Tryd.prog 71 #[tv p.1 p.2, tv q.1 q.2, .pointer (some ⟨c, 0, none⟩)] w' fun e w'' => e = .returned (.int .i64 (cf p q)) ∧ Below w'.heap.size w' w'')) (HL : Hid (∀ p ∈ l0, p ∈ L)) (hno : ¬ m - a = 1) (hone : b = m + 1) :
    Calls Tryd.prog 86 #[.slice (some ⟨blk, 0, none⟩) n cap, .int .i64 a, .int .i64 m, .int .i64 b, .func (.func 71) #[] #[.pointer (some ⟨c, 0, none⟩)]] w fun e w' => e = .returned (.tuple #[]) ∧ RowAt w' blk (downF (m - bsr (fun h => !decide (cf (l0.getD m dflt) (l0.getD h dflt) < 0)) (m - a) a m) m l0) pad 24 ∧ Near blk w w' ∧ Hid ((downF (m - bsr (fun h => !decide (cf (l0.getD m dflt) (l0.getD h dflt) < 0)) (m - a) a m) m l0).length = n ∧ ∀ p ∈ downF (m - bsr (fun h => !decide (cf (l0.getD m dflt) (l0.getD h dflt) < 0)) (m - a) a m) m l0, p ∈ L) := by
  obtain ⟨r, hr0⟩ : ∃ r, bsr (fun h => !decide (cf (l0.getD m dflt) (l0.getD h dflt) < 0)) (m - a) a m = r := ⟨_, rfl⟩
  have hrb := bsr_in (fun h => !decide (cf (l0.getD m dflt) (l0.getD h dflt) < 0)) (m - a) a m (by omega)
  rw [hr0] at hrb ⊢
  obtain ⟨R, hR⟩ : ∃ R, downF (m - r) m l0 = R := ⟨_, rfl⟩
  rw [hR]
  have hr1 : a ≤ r := by omega
  have hr2 : r ≤ m := by omega
  have HR := Lib.hid hR
  have HR0 := Lib.hid hr0
  have HROW := Lib.hid hrow
  have HN := Lib.hid hn
  obtain ⟨d, hd⟩ : ∃ d : Nat, d = m - a := ⟨_, rfl⟩
  have hD : (m : Int) - (a : Int) = (d : Int) := by omega
  have hd1 : ((d : Int) == 1) = false := by simp; omega
  have hd2 : (d == 1) = false := by simp; omega
  have hO : (b : Int) - (m : Int) = 1 := by omega
  clear hR hr0 hrow hn hrb hone hd hno
  go_enter Tryd.func86, Tryd.ntmps86
  go_wp2_with fail
  clear hD hO
  go_loopw [14, 15] (fun vi vj wr => ∃ (i j g : Nat), i ≤ j ∧ a ≤ i ∧ j ≤ m ∧ j - i ≤ g ∧ vi = .int .i64 i ∧ vj = .int .i64 j ∧ Hid (RowAt wr blk l0 pad 24) ∧ Hid (Near blk w wr) ∧ Hid (bsr (fun h => !decide (cf (l0.getD m dflt) (l0.getD h dflt) < 0)) g i j = r)) (fun vi vj _ => (intOf vj).toNat - (intOf vi).toNat)
  case atStart => exact ⟨a, m, m - a, by omega, by omega, by omega, Nat.le_refl _, rfl, rfl, HROW, Lib.hid (Near.refl _ _), HR0⟩
  case round =>
    obtain ⟨i, j, g, hij, hmi, hjb, hg, rfl, rfl, hr, hnr, hq⟩ := hrel
    by_cases hlt : i < j
    · obtain ⟨g, rfl⟩ : ∃ g', g = g' + 1 := ⟨g - 1, by omega⟩
      obtain ⟨h, hh⟩ : ∃ h : Nat, h = (i + j) / 2 := ⟨_, rfl⟩
      have hX : ((i : Int) + (j : Int)) / 2 = (h : Int) := by omega
      have hhi : i ≤ h := by omega
      have hhj : h < j := by omega
      have HH := Lib.hid hh
      have hl : Hid (l0.length = n ∧ True ∧ True) := Lib.hid ⟨HN.out, trivial, trivial⟩
      clear hh
      have hkp : m < l0.length := by have := hl.out.1; omega
      have cp := hr.out.cells m hkp
      have mp := HL.out _ (List.getElem_mem hkp)
      have gp := getD_at l0 m hkp
      obtain ⟨pp, hep⟩ : ∃ p, l0[m] = p := ⟨_, rfl⟩
      rw [hep] at cp mp gp
      obtain ⟨tp, vp⟩ := pp
      obtain ⟨ap, kp, ev⟩ := HV.out _ mp
      obtain rfl : vp = .slice ap tp.args.length kp := ev
      obtain ⟨sp0, sp1, sp2, sp3⟩ := cp
      have HMp := Lib.hid mp
      have HGp := Lib.hid gp
      have HKp := Lib.hid hkp
      clear hep mp gp hkp
      have hkq : h < l0.length := by have := hl.out.1; omega
      have cq := hr.out.cells h hkq
      have mq := HL.out _ (List.getElem_mem hkq)
      have gq := getD_at l0 h hkq
      obtain ⟨pq, heq⟩ : ∃ p, l0[h] = p := ⟨_, rfl⟩
      rw [heq] at cq mq gq
      obtain ⟨tq, vq⟩ := pq
      obtain ⟨aq, kq, ev⟩ := HV.out _ mq
      obtain rfl : vq = .slice aq tq.args.length kq := ev
      obtain ⟨sq0, sq1, sq2, sq3⟩ := cq
      have HMq := Lib.hid mq
      have HGq := Lib.hid gq
      have HKq := Lib.hid hkq
      clear heq mq gq hkq
      have wr_h : IntKind.i64.wrap (h : Int) = (h : Int) := IntWalk.i64_in _ (by omega)
      have lo_h : (0 : Int) ≤ (h : Int) := by omega
      have hi_h : (h : Int) < (n : Int) := by omega
      have wr_m : IntKind.i64.wrap (m : Int) = (m : Int) := IntWalk.i64_in _ (by omega)
      have lo_m : (0 : Int) ≤ (m : Int) := by omega
      have hi_m : (m : Int) < (n : Int) := by omega
      obtain ⟨z, hz0⟩ : ∃ z, cf (tp, .slice ap tp.args.length kp) (tq, .slice aq tq.args.length kq) = z := ⟨_, rfl⟩
      have HZ := Lib.hid hz0
      have HCC : Hid (∀ w', Below wr.heap.size wr w' → Calls Tryd.prog 71 #[tv tp (.slice ap tp.args.length kp), tv tq (.slice aq tq.args.length kq), .pointer (some ⟨c, 0, none⟩)] w' fun e w'' => e = .returned (.int .i64 z) ∧ Below w'.heap.size w' w'') := fun w' h => by rw [← hz0]; exact HC.out _ HMp.out _ HMq.out w' (HW.out.trans (hnr.out.trans (Near.of_below h)))
      clear hz0
      have hS0 : Below wr.heap.size wr wr.drew := (Below.refl _ _).drew
      have HS : Hid (∀ w', Below wr.heap.size wr w' → (fun w' => Below wr.heap.size wr w' ∧ w'.cell? ⟨blk, m * 4, none⟩ = some (.int .i64 tp.kind) ∧ w'.cell? ⟨blk, m * 4 + 1, none⟩ = some (.int .i64 tp.num) ∧ w'.cell? ⟨blk, m * 4 + 2, none⟩ = some (.string tp.name) ∧ w'.cell? ⟨blk, m * 4 + 3, none⟩ = some (.slice ap tp.args.length kp) ∧ w'.cell? ⟨blk, h * 4, none⟩ = some (.int .i64 tq.kind) ∧ w'.cell? ⟨blk, h * 4 + 1, none⟩ = some (.int .i64 tq.num) ∧ w'.cell? ⟨blk, h * 4 + 2, none⟩ = some (.string tq.name) ∧ w'.cell? ⟨blk, h * 4 + 3, none⟩ = some (.slice aq tq.args.length kq)) w') := fun w' h => ⟨h, cell_below h _ _ sp0, cell_below h _ _ sp1, cell_below h _ _ sp2, cell_below h _ _ sp3, cell_below h _ _ sq0, cell_below h _ _ sq1, cell_below h _ _ sq2, cell_below h _ _ sq3⟩
      by_cases hzn : z < 0
      · have e1 : decide (z < 0) = true := by simpa using hzn
        have HQ2 : Hid (bsr (fun h => !decide (cf (l0.getD m dflt) (l0.getD h dflt) < 0)) g i h = r) := Lib.hid (bsr_lo hlt HH.out (by simp only [HGp.out, HGq.out, HZ.out, e1, Bool.not_true]) hq.out)
        go_wp2_with fail
        go_region_held3 (fun w' => Below wr.heap.size wr w' ∧ w'.cell? ⟨blk, m * 4, none⟩ = some (.int .i64 tp.kind) ∧ w'.cell? ⟨blk, m * 4 + 1, none⟩ = some (.int .i64 tp.num) ∧ w'.cell? ⟨blk, m * 4 + 2, none⟩ = some (.string tp.name) ∧ w'.cell? ⟨blk, m * 4 + 3, none⟩ = some (.slice ap tp.args.length kp) ∧ w'.cell? ⟨blk, h * 4, none⟩ = some (.int .i64 tq.kind) ∧ w'.cell? ⟨blk, h * 4 + 1, none⟩ = some (.int .i64 tq.num) ∧ w'.cell? ⟨blk, h * 4 + 2, none⟩ = some (.string tq.name) ∧ w'.cell? ⟨blk, h * 4 + 3, none⟩ = some (.slice aq tq.args.length kq))
          (first | exact HS.out _ h5 | exact HS.out _ hS0 | assumption | go_keep)
          (first
            | (go_at_call 71; refine (HCC.out _ (by assumption : Below wr.heap.size wr _)).mono ?_; rintro e w4 ⟨rfl, hb4⟩; have h5 : Below wr.heap.size wr w4 := Below.trans (by assumption : Below wr.heap.size wr _) (hb4.mono (Below.size (by assumption : Below wr.heap.size wr _)))))
        have RW := Lib.hid (hr.out.keep h5)
        have N4 := Lib.hid (hnr.out.trans (Near.of_below h5))
        clear sp0 sp1 sp2 sp3 sq0 sq1 sq2 sq3 h5 hS0 HS
        go_wp2_with fail
        go_roundw
        case rel => exact ⟨i, h, g, by omega, by omega, by omega, by omega, rfl, by go_num, RW, N4, HQ2⟩
        case measure => simp [intOf]; omega
      · have e1 : decide (z < 0) = false := by simpa using hzn
        have HQ2 : Hid (bsr (fun h => !decide (cf (l0.getD m dflt) (l0.getD h dflt) < 0)) g (h + 1) j = r) := Lib.hid (bsr_hi hlt HH.out (by simp only [HGp.out, HGq.out, HZ.out, e1, Bool.not_false]) hq.out)
        go_wp2_with fail
        go_region_held3 (fun w' => Below wr.heap.size wr w' ∧ w'.cell? ⟨blk, m * 4, none⟩ = some (.int .i64 tp.kind) ∧ w'.cell? ⟨blk, m * 4 + 1, none⟩ = some (.int .i64 tp.num) ∧ w'.cell? ⟨blk, m * 4 + 2, none⟩ = some (.string tp.name) ∧ w'.cell? ⟨blk, m * 4 + 3, none⟩ = some (.slice ap tp.args.length kp) ∧ w'.cell? ⟨blk, h * 4, none⟩ = some (.int .i64 tq.kind) ∧ w'.cell? ⟨blk, h * 4 + 1, none⟩ = some (.int .i64 tq.num) ∧ w'.cell? ⟨blk, h * 4 + 2, none⟩ = some (.string tq.name) ∧ w'.cell? ⟨blk, h * 4 + 3, none⟩ = some (.slice aq tq.args.length kq))
          (first | exact HS.out _ h5 | exact HS.out _ hS0 | assumption | go_keep)
          (first
            | (go_at_call 71; refine (HCC.out _ (by assumption : Below wr.heap.size wr _)).mono ?_; rintro e w4 ⟨rfl, hb4⟩; have h5 : Below wr.heap.size wr w4 := Below.trans (by assumption : Below wr.heap.size wr _) (hb4.mono (Below.size (by assumption : Below wr.heap.size wr _)))))
        have RW := Lib.hid (hr.out.keep h5)
        have N4 := Lib.hid (hnr.out.trans (Near.of_below h5))
        clear sp0 sp1 sp2 sp3 sq0 sq1 sq2 sq3 h5 hS0 HS
        go_wp2_with fail
        go_roundw
        case rel => exact ⟨h + 1, j, g, by omega, by omega, hjb, by omega, by go_num, rfl, RW, N4, HQ2⟩
        case measure => simp [intOf]; omega
    · obtain rfl : i = j := by omega
      have e : i = r := by have := hq.out; rw [bsr_end] at this; exact this
      subst e
      go_wp2_with fail
      go_loopw [17] (fun vk wr2 => ∃ (k : Nat) (l : List PV), i ≤ k ∧ k ≤ m ∧ vk = .int .i64 k ∧ Hid (RowAt wr2 blk l pad 24) ∧ Hid (Near blk w wr2) ∧ Hid (l.length = n ∧ (∀ p ∈ l, p ∈ L) ∧ downF (k - i) k l = R)) (fun vk _ => (intOf vk).toNat - i)
      case atStart => exact ⟨m, l0, by omega, by omega, rfl, hr, hnr, Lib.hid ⟨HN.out, HL.out, HR.out⟩⟩
      case round =>
        clear hr hnr
        obtain ⟨k, l, hak, hks, rfl, hr, hnr, hl⟩ := hrel
        by_cases hlt2 : i < k
        · obtain ⟨y, hy⟩ : ∃ y : Nat, y = k - 1 := ⟨_, rfl⟩
          have hY : (k : Int) - 1 = (y : Int) := by omega
          have hyn : y < n := by omega
          have hys : i ≤ y := by omega
          have hky : y < k := by omega
          have HY := Lib.hid hy
          clear hy
          have hkp : k < l.length := by have := hl.out.1; omega
          have cp := hr.out.cells k hkp
          have mp := hl.out.2.1 _ (List.getElem_mem hkp)
          have gp := getD_at l k hkp
          obtain ⟨pp, hep⟩ : ∃ p, l[k] = p := ⟨_, rfl⟩
          rw [hep] at cp mp gp
          obtain ⟨tp, vp⟩ := pp
          obtain ⟨ap, kp, ev⟩ := HV.out _ mp
          obtain rfl : vp = .slice ap tp.args.length kp := ev
          obtain ⟨sp0, sp1, sp2, sp3⟩ := cp
          have HMp := Lib.hid mp
          have HGp := Lib.hid gp
          have HKp := Lib.hid hkp
          clear hep mp gp hkp
          have hkq : y < l.length := by have := hl.out.1; omega
          have cq := hr.out.cells y hkq
          have mq := hl.out.2.1 _ (List.getElem_mem hkq)
          have gq := getD_at l y hkq
          obtain ⟨pq, heq⟩ : ∃ p, l[y] = p := ⟨_, rfl⟩
          rw [heq] at cq mq gq
          obtain ⟨tq, vq⟩ := pq
          obtain ⟨aq, kq, ev⟩ := HV.out _ mq
          obtain rfl : vq = .slice aq tq.args.length kq := ev
          obtain ⟨sq0, sq1, sq2, sq3⟩ := cq
          have HMq := Lib.hid mq
          have HGq := Lib.hid gq
          have HKq := Lib.hid hkq
          clear heq mq gq hkq
          have wr_k : IntKind.i64.wrap (k : Int) = (k : Int) := IntWalk.i64_in _ (by omega)
          have lo_k : (0 : Int) ≤ (k : Int) := by omega
          have hi_k : (k : Int) < (n : Int) := by omega
          have wr_y : IntKind.i64.wrap (y : Int) = (y : Int) := IntWalk.i64_in _ (by omega)
          have lo_y : (0 : Int) ≤ (y : Int) := by omega
          have hi_y : (y : Int) < (n : Int) := by omega
          have fp0 := frozen_of_row _ _ (k * 4) _ _ hr.out
          have fp1 := frozen_of_row _ _ (k * 4 + 1) _ _ hr.out
          have fp2 := frozen_of_row _ _ (k * 4 + 2) _ _ hr.out
          have fp3 := frozen_of_row _ _ (k * 4 + 3) _ _ hr.out
          have fq0 := frozen_of_row _ _ (y * 4) _ _ hr.out
          have fq1 := frozen_of_row _ _ (y * 4 + 1) _ _ hr.out
          have fq2 := frozen_of_row _ _ (y * 4 + 2) _ _ hr.out
          have fq3 := frozen_of_row _ _ (y * 4 + 3) _ _ hr.out
          go_wp2_with fail
          go_region_law (fail)
          all_goals
            go_wp2_with fail
            go_roundw
            case rel =>
              refine ⟨y, (l.set k (tq, .slice aq tq.args.length kq)).set y (tp, .slice ap tp.args.length kp), by omega, by omega, rfl, Lib.hid ?_, Lib.hid ?_, Lib.hid ⟨by simp; exact hl.out.1, fun p hp => ?_, ?_⟩⟩
              · exact RowAt.drew (RowAt.set (RowAt.set hr.out k HKp.out (tq, .slice aq tq.args.length kq)) y (by rw [List.length_set]; exact HKq.out) (tp, .slice ap tp.args.length kp))
              · exact Near.drew (hnr.out.trans ((RowAt.near k (tq, .slice aq tq.args.length kq)).trans (RowAt.near y (tp, .slice ap tp.args.length kp))))
              · rcases List.mem_or_eq_of_mem_set hp with h | rfl
                · rcases List.mem_or_eq_of_mem_set h with h | rfl
                  · exact hl.out.2.1 p h
                  · exact HMq.out
                · exact HMp.out
              · have h1 := hl.out.2.2
                rw [show k - i = (y - i) + 1 by omega, downF, ← HY.out, HGp.out, HGq.out] at h1
                exact h1
            case measure => simp [intOf]; omega
        · have e : k = i := by omega
          have HE : Hid (l = R) := by
            have h1 := hl.out.2.2
            rw [e, Nat.sub_self] at h1
            exact h1
          go_wp2_with fail
          refine bodyPost_ret (results_none rfl _ _ _) rfl ?_
          exact ⟨rfl, by rw [← HE.out]; exact hr.out, hnr.out, by rw [← HE.out]; exact Lib.hid ⟨hl.out.1, hl.out.2.1⟩⟩

end Go.Proofs.YtehnhjhflaljhaaDoor
