/- Of the stable sort: the symmetric merge. -/
import Derived.Test.YtehnhjhflaljhaaDoorKE
import Derived.Test.YtehnhjhflaljhaaDoorC7
import Derived.Test.YtehnhjhflaljhaaDoorKC
import Derived.Laws.AppendOwnNone
namespace Go.Proofs.YtehnhjhflaljhaaDoor
open Go.RowKit Go.Proofs.HT

theorem symM_T {cf : PV → PV → Int} {f a m b mid s : Nat} {l : List PV} (h1 : ¬ m - a = 1) (h2 : ¬ b - m = 1) (hm : mid = (a + b) / 2) (hs : (if mid < m then bsr (fun c => !decide (cf (l.getD (mid + m - 1 - c) dflt) (l.getD c dflt) < 0)) (b - a) (mid + m - b) mid else bsr (fun c => !decide (cf (l.getD (mid + m - 1 - c) dflt) (l.getD c dflt) < 0)) (b - a) a m) = s) :
    symM cf (f + 1) a m b l = symM.symT cf f a m b mid s l := by
  subst hm
  rw [symM, if_neg h1, if_neg h2, hs]

section
variable (blk c n cap : Nat) (cf : PV → PV → Int) (L : List PV) (pad : List Value) (W : World)

set_option maxRecDepth 100000 in
set_option maxHeartbeats 8000000 in
theorem symm_big (f : Nat) (IH : Hid (∀ (a m b : Nat) (l0 : List PV) (w : World), Hid (Near blk W w) → RowAt w blk l0 pad 24 → l0.length = n → a < m → m < b → b ≤ n → b - a ≤ f → Hid (∀ p ∈ l0, p ∈ L) → Calls Tryd.prog 86 #[.slice (some ⟨blk, 0, none⟩) n cap, .int .i64 a, .int .i64 m, .int .i64 b, .func (.func 71) #[] #[.pointer (some ⟨c, 0, none⟩)]] w fun e w' => e = .returned (.tuple #[]) ∧ RowAt w' blk (symM cf f a m b l0) pad 24 ∧ Near blk w w' ∧ Hid ((symM cf f a m b l0).length = n ∧ ∀ p ∈ symM cf f a m b l0, p ∈ L))) (a m b : Nat) (l0 : List PV) (w : World) (HW : Hid (Near blk W w)) (hrow : RowAt w blk l0 pad 24) (hn : l0.length = n) (hcap : n ≤ cap) (ham : a < m) (hmb : m < b) (hbn : b ≤ n) (hn2 : n ≤ 1000000)
    (HV : Hid (∀ p ∈ L, ∃ a c, p.2 = .slice a p.1.args.length c)) (HC : Hid (∀ p ∈ L, ∀ q ∈ L, ∀ w', Near blk W w' → Calls Tryd.prog 71 #[tv p.1 p.2, tv q.1 q.2, .pointer (some ⟨c, 0, none⟩)] w' fun e w'' => e = .returned (.int .i64 (cf p q)) ∧ Below w'.heap.size w' w'')) (HL : Hid (∀ p ∈ l0, p ∈ L)) (h1 : ¬ m - a = 1) (h2 : ¬ b - m = 1) (hbf : b - a ≤ f + 1) (hside :  (a + b) / 2 < m) :
    Calls Tryd.prog 86 #[.slice (some ⟨blk, 0, none⟩) n cap, .int .i64 a, .int .i64 m, .int .i64 b, .func (.func 71) #[] #[.pointer (some ⟨c, 0, none⟩)]] w fun e w' => e = .returned (.tuple #[]) ∧ RowAt w' blk (symM cf (f + 1) a m b l0) pad 24 ∧ Near blk w w' ∧ Hid ((symM cf (f + 1) a m b l0).length = n ∧ ∀ p ∈ symM cf (f + 1) a m b l0, p ∈ L) := by
  obtain ⟨R, hR⟩ : ∃ R, symM cf (f + 1) a m b l0 = R := ⟨_, rfl⟩
  rw [hR]
  obtain ⟨mid, hmid⟩ : ∃ mid : Nat, mid = (a + b) / 2 := ⟨_, rfl⟩
  rw [← hmid] at hside
  obtain ⟨nn, hnn⟩ : ∃ nn : Nat, nn = mid + m := ⟨_, rfl⟩
  obtain ⟨s, hs0⟩ : ∃ s, bsr (fun c => !decide (cf (l0.getD (mid + m - 1 - c) dflt) (l0.getD c dflt) < 0)) (b - a) (mid + m - b) mid = s := ⟨_, rfl⟩
  have hsb := bsr_in (fun c => !decide (cf (l0.getD (mid + m - 1 - c) dflt) (l0.getD c dflt) < 0)) (b - a) (mid + m - b) mid (by omega)
  rw [hs0] at hsb
  have hRT : symM.symT cf f a m b mid s l0 = R := by
    rw [← hR]
    refine (symM_T h1 h2 hmid ?_).symm
    rw [if_pos hside]
    exact hs0
  have hM : ((a : Int) + (b : Int)) / 2 = (mid : Int) := by omega
  have hN : (mid : Int) + (m : Int) = (nn : Int) := by omega
  obtain ⟨pp, hpp⟩ : ∃ pp : Nat, pp = nn - 1 := ⟨_, rfl⟩
  have hP : (nn : Int) - 1 = (pp : Int) := by omega
  obtain ⟨d, hd⟩ : ∃ d : Nat, d = m - a := ⟨_, rfl⟩
  have hD : (m : Int) - (a : Int) = (d : Int) := by omega
  have hd1 : ((d : Int) == 1) = false := by simp; omega
  have hd2 : (d == 1) = false := by simp; omega
  obtain ⟨d', hd'⟩ : ∃ d : Nat, d = b - m := ⟨_, rfl⟩
  have hD' : (b : Int) - (m : Int) = (d' : Int) := by omega
  have hd1' : ((d' : Int) == 1) = false := by simp; omega
  have hd2' : (d' == 1) = false := by simp; omega
  obtain ⟨s0, hs00⟩ : ∃ s0 : Nat, s0 = nn - b := ⟨_, rfl⟩
  have hs01 : nn = s0 + b := by omega
  have hS0 : (nn : Int) - (b : Int) = (s0 : Int) := by omega
  have hq3 : a ≤ s0 := by omega
  have HS01 := Lib.hid hs01
  have hq1 : a ≤ mid := by omega
  have hq2 : mid < b := by omega
  have hq4 : nn ≤ b + n := by omega
  have hq5 : nn = mid + m := hnn
  have hq6 : pp + 1 = nn := by omega
  have hq7 : a < mid := by omega
  have HPF := Lib.hid (show mid + m - 1 = pp by omega)
  have HNN := Lib.hid hq5
  have HS := Lib.hid hs0
  have HRT := Lib.hid hRT
  have HROW := Lib.hid hrow
  have HN := Lib.hid hn
  have HQ6 := Lib.hid hq6
  have sd1 : decide ((mid : Int) < (m : Int)) = true := by simp; omega
  have sd2 : decide (mid < m) = true := by simp; omega
  have hsr1 : s0 ≤ s := by omega
  have hsr2 : s ≤ mid := hsb.2
  clear hR hs0 hsb hRT hrow hn hmid hnn hpp hd hd' hs00 hs01 hq5 hq6 h1 h2
  go_enter Tryd.func86, Tryd.ntmps86
  go_wp2_with fail
  clear hM hN hP hD hD' hd1 hd2 hd1' hd2' hS0 sd1 sd2
  go_loopw [20, 21] (fun vi vj wr => ∃ (i j g : Nat), i ≤ j ∧ s0 ≤ i ∧ j ≤ mid ∧ j - i ≤ g ∧ vi = .int .i64 i ∧ vj = .int .i64 j ∧ Hid (RowAt wr blk l0 pad 24) ∧ Hid (Near blk w wr) ∧ Hid (bsr (fun c => !decide (cf (l0.getD (mid + m - 1 - c) dflt) (l0.getD c dflt) < 0)) g i j = s)) (fun vi vj _ => (intOf vj).toNat - (intOf vi).toNat)
  case atStart => exact ⟨s0, mid, b - a, by have := HNN.out; have := HS01.out; omega, Nat.le_refl _, Nat.le_refl _, by have := HNN.out; have := HS01.out; omega, rfl, rfl, HROW, Lib.hid (Near.refl _ _), (by rw [show s0 = mid + m - b by have := HNN.out; have := HS01.out; omega]; exact HS)⟩
  case round =>
    obtain ⟨i, j, g, hij, hmi, hjb, hg, rfl, rfl, hr, hnr, hq⟩ := hrel
    by_cases hlt : i < j
    · obtain ⟨g, rfl⟩ : ∃ g', g = g' + 1 := ⟨g - 1, by omega⟩
      obtain ⟨h, hh⟩ : ∃ h : Nat, h = (i + j) / 2 := ⟨_, rfl⟩
      have hX : ((i : Int) + (j : Int)) / 2 = (h : Int) := by omega
      have hhi : i ≤ h := by omega
      have hhj : h < j := by omega
      obtain ⟨x, hx⟩ : ∃ x : Nat, x = pp - h := ⟨_, rfl⟩
      have hq5 := HNN.out
      have hq6 := HQ6.out
      have hs01 := HS01.out
      have hX2 : (pp : Int) - (h : Int) = (x : Int) := by omega
      have hxn : x < n := by omega
      have hhn : h < n := by omega
      have HH := Lib.hid hh
      have HX2 := Lib.hid hx
      have hl : Hid (l0.length = n ∧ True ∧ True) := Lib.hid ⟨HN.out, trivial, trivial⟩
      clear hh hx hq5 hq6 hs01
      have hkp : x < l0.length := by have := hl.out.1; omega
      have cp := hr.out.cells x hkp
      have mp := HL.out _ (List.getElem_mem hkp)
      have gp := getD_at l0 x hkp
      obtain ⟨pp, hep⟩ : ∃ p, l0[x] = p := ⟨_, rfl⟩
      rw [hep] at cp mp gp
      obtain ⟨tp, vp⟩ := pp
      obtain ⟨ap, kp, ev⟩ := HV.out _ mp
      obtain rfl : vp = .slice ap tp.args.length kp := ev
      obtain ⟨sp0, sp1, sp2, sp3⟩ := cp
      have HMp := Lib.hid mp
      have HGp := Lib.hid gp
      have HKp := Lib.hid hkp
      clear hep mp gp hkp
      have hkq : h < l0.length := by have := hl.out.1; omega
      have cq := hr.out.cells h hkq
      have mq := HL.out _ (List.getElem_mem hkq)
      have gq := getD_at l0 h hkq
      obtain ⟨pq, heq⟩ : ∃ p, l0[h] = p := ⟨_, rfl⟩
      rw [heq] at cq mq gq
      obtain ⟨tq, vq⟩ := pq
      obtain ⟨aq, kq, ev⟩ := HV.out _ mq
      obtain rfl : vq = .slice aq tq.args.length kq := ev
      obtain ⟨sq0, sq1, sq2, sq3⟩ := cq
      have HMq := Lib.hid mq
      have HGq := Lib.hid gq
      have HKq := Lib.hid hkq
      clear heq mq gq hkq
      have wr_h : IntKind.i64.wrap (h : Int) = (h : Int) := IntWalk.i64_in _ (by omega)
      have lo_h : (0 : Int) ≤ (h : Int) := by omega
      have hi_h : (h : Int) < (n : Int) := by omega
      have wr_x : IntKind.i64.wrap (x : Int) = (x : Int) := IntWalk.i64_in _ (by omega)
      have lo_x : (0 : Int) ≤ (x : Int) := by omega
      have hi_x : (x : Int) < (n : Int) := by omega
      obtain ⟨z, hz0⟩ : ∃ z, cf (tp, .slice ap tp.args.length kp) (tq, .slice aq tq.args.length kq) = z := ⟨_, rfl⟩
      have HZ := Lib.hid hz0
      have HCC : Hid (∀ w', Below wr.heap.size wr w' → Calls Tryd.prog 71 #[tv tp (.slice ap tp.args.length kp), tv tq (.slice aq tq.args.length kq), .pointer (some ⟨c, 0, none⟩)] w' fun e w'' => e = .returned (.int .i64 z) ∧ Below w'.heap.size w' w'') := fun w' h => by rw [← hz0]; exact HC.out _ HMp.out _ HMq.out w' (HW.out.trans (hnr.out.trans (Near.of_below h)))
      clear hz0
      have hS0 : Below wr.heap.size wr wr.drew := (Below.refl _ _).drew
      have HS : Hid (∀ w', Below wr.heap.size wr w' → (fun w' => Below wr.heap.size wr w' ∧ w'.cell? ⟨blk, x * 4, none⟩ = some (.int .i64 tp.kind) ∧ w'.cell? ⟨blk, x * 4 + 1, none⟩ = some (.int .i64 tp.num) ∧ w'.cell? ⟨blk, x * 4 + 2, none⟩ = some (.string tp.name) ∧ w'.cell? ⟨blk, x * 4 + 3, none⟩ = some (.slice ap tp.args.length kp) ∧ w'.cell? ⟨blk, h * 4, none⟩ = some (.int .i64 tq.kind) ∧ w'.cell? ⟨blk, h * 4 + 1, none⟩ = some (.int .i64 tq.num) ∧ w'.cell? ⟨blk, h * 4 + 2, none⟩ = some (.string tq.name) ∧ w'.cell? ⟨blk, h * 4 + 3, none⟩ = some (.slice aq tq.args.length kq)) w') := fun w' h => ⟨h, cell_below h _ _ sp0, cell_below h _ _ sp1, cell_below h _ _ sp2, cell_below h _ _ sp3, cell_below h _ _ sq0, cell_below h _ _ sq1, cell_below h _ _ sq2, cell_below h _ _ sq3⟩
      by_cases hzn : z < 0
      · have e1 : decide (z < 0) = true := by simpa using hzn
        have HQ2 : Hid (bsr (fun c => !decide (cf (l0.getD (mid + m - 1 - c) dflt) (l0.getD c dflt) < 0)) g i h = s) := Lib.hid (bsr_lo hlt HH.out (by simp only [HPF.out, ← HX2.out, HGp.out, HGq.out, HZ.out, e1, Bool.not_true]) hq.out)
        go_wp2_with fail
        go_region_held3 (fun w' => Below wr.heap.size wr w' ∧ w'.cell? ⟨blk, x * 4, none⟩ = some (.int .i64 tp.kind) ∧ w'.cell? ⟨blk, x * 4 + 1, none⟩ = some (.int .i64 tp.num) ∧ w'.cell? ⟨blk, x * 4 + 2, none⟩ = some (.string tp.name) ∧ w'.cell? ⟨blk, x * 4 + 3, none⟩ = some (.slice ap tp.args.length kp) ∧ w'.cell? ⟨blk, h * 4, none⟩ = some (.int .i64 tq.kind) ∧ w'.cell? ⟨blk, h * 4 + 1, none⟩ = some (.int .i64 tq.num) ∧ w'.cell? ⟨blk, h * 4 + 2, none⟩ = some (.string tq.name) ∧ w'.cell? ⟨blk, h * 4 + 3, none⟩ = some (.slice aq tq.args.length kq))
          (first | exact HS.out _ h5 | exact HS.out _ hS0 | assumption | go_keep)
          (first
            | (go_at_call 71; refine (HCC.out _ (by assumption : Below wr.heap.size wr _)).mono ?_; rintro e w4 ⟨rfl, hb4⟩; have h5 : Below wr.heap.size wr w4 := Below.trans (by assumption : Below wr.heap.size wr _) (hb4.mono (Below.size (by assumption : Below wr.heap.size wr _)))))
        have RW := Lib.hid (hr.out.keep h5)
        have N4 := Lib.hid (hnr.out.trans (Near.of_below h5))
        clear sp0 sp1 sp2 sp3 sq0 sq1 sq2 sq3 h5 hS0 HS
        go_wp2_with fail
        go_roundw
        case rel => exact ⟨i, h, g, by omega, by omega, by omega, by omega, rfl, by go_num, RW, N4, HQ2⟩
        case measure => simp [intOf]; omega
      · have e1 : decide (z < 0) = false := by simpa using hzn
        have HQ2 : Hid (bsr (fun c => !decide (cf (l0.getD (mid + m - 1 - c) dflt) (l0.getD c dflt) < 0)) g (h + 1) j = s) := Lib.hid (bsr_hi hlt HH.out (by simp only [HPF.out, ← HX2.out, HGp.out, HGq.out, HZ.out, e1, Bool.not_false]) hq.out)
        go_wp2_with fail
        go_region_held3 (fun w' => Below wr.heap.size wr w' ∧ w'.cell? ⟨blk, x * 4, none⟩ = some (.int .i64 tp.kind) ∧ w'.cell? ⟨blk, x * 4 + 1, none⟩ = some (.int .i64 tp.num) ∧ w'.cell? ⟨blk, x * 4 + 2, none⟩ = some (.string tp.name) ∧ w'.cell? ⟨blk, x * 4 + 3, none⟩ = some (.slice ap tp.args.length kp) ∧ w'.cell? ⟨blk, h * 4, none⟩ = some (.int .i64 tq.kind) ∧ w'.cell? ⟨blk, h * 4 + 1, none⟩ = some (.int .i64 tq.num) ∧ w'.cell? ⟨blk, h * 4 + 2, none⟩ = some (.string tq.name) ∧ w'.cell? ⟨blk, h * 4 + 3, none⟩ = some (.slice aq tq.args.length kq))
          (first | exact HS.out _ h5 | exact HS.out _ hS0 | assumption | go_keep)
          (first
            | (go_at_call 71; refine (HCC.out _ (by assumption : Below wr.heap.size wr _)).mono ?_; rintro e w4 ⟨rfl, hb4⟩; have h5 : Below wr.heap.size wr w4 := Below.trans (by assumption : Below wr.heap.size wr _) (hb4.mono (Below.size (by assumption : Below wr.heap.size wr _)))))
        have RW := Lib.hid (hr.out.keep h5)
        have N4 := Lib.hid (hnr.out.trans (Near.of_below h5))
        clear sp0 sp1 sp2 sp3 sq0 sq1 sq2 sq3 h5 hS0 HS
        go_wp2_with fail
        go_roundw
        case rel => exact ⟨h + 1, j, g, by omega, by omega, hjb, by omega, by go_num, rfl, RW, N4, HQ2⟩
        case measure => simp [intOf]; omega
    · obtain rfl : i = j := by omega
      have e : i = s := by have := hq.out; rw [bsr_end] at this; exact this
      subst e
      clear hij hg hq hlt
      obtain ⟨e, he⟩ : ∃ e : Nat, e = nn - i := ⟨_, rfl⟩
      have hq5 := HNN.out
      have hs01 := HS01.out
      have hE : (nn : Int) - (i : Int) = (e : Int) := by omega
      have he1 : m ≤ e := by omega
      have he2 : e ≤ b := by omega
      have he3 : mid + m - i = e := by omega
      have him : i ≤ m := by omega
      have himd : i ≤ mid := by omega
      have hai : a ≤ i := by omega
      have hT := HRT.out
      unfold symM.symT at hT
      simp only [he3] at hT
      have hfr : b - a = b - a := rfl
      by_cases b1 : i < m
      · by_cases b2 : m < e
        · by_cases b3 : a < i
          · by_cases b4 : e < b
            · have c1 : (i < m ∧ m < e) := by omega
              have c2 : (a < i ∧ i < mid) := by omega
              have c3 : (mid < e ∧ e < b) := by omega
              simp only [if_pos c1, if_pos c2, if_pos c3] at hT
              have HT := Lib.hid hT
              have d_i_m : decide ((i : Int) < (m : Int)) = true := by simp; omega
              have d2_i_m : decide (i < m) = true := by simp; omega
              have d_m_e : decide ((m : Int) < (e : Int)) = true := by simp; omega
              have d2_m_e : decide (m < e) = true := by simp; omega
              have d_a_i : decide ((a : Int) < (i : Int)) = true := by simp; omega
              have d2_a_i : decide (a < i) = true := by simp; omega
              have d_i_mid : decide ((i : Int) < (mid : Int)) = true := by simp; omega
              have d2_i_mid : decide (i < mid) = true := by simp; omega
              have d_mid_e : decide ((mid : Int) < (e : Int)) = true := by simp; omega
              have d2_mid_e : decide (mid < e) = true := by simp; omega
              have d_e_b : decide ((e : Int) < (b : Int)) = true := by simp; omega
              have d2_e_b : decide (e < b) = true := by simp; omega
              have NF := HN.out
              have HO0 := Lib.hid (And.intro HN.out HL.out)
              have g1 : i < b := by omega
              have g2 : mid - a ≤ f := by omega
              have g3 : b - mid ≤ f := by omega
              have g4 : mid ≤ n := by omega
              have g5 : e - i ≤ b - a := by omega
              have g6 : e ≤ n := by omega
              have x1 := c1.1
              have y1 := c1.2
              have x2 := c2.1
              have y2 := c2.2
              have x3 := c3.1
              have y3 := c3.2
              clear hT c1 c2 c3 he he3 NF hq5 hs01
              go_wp2_with fail
              refine (rot_any blk c n cap i m e L l0 pad _ hr.out HO0.out.1 hcap (by first | assumption | omega) (by first | assumption | omega) g6 hn2 (b - a) g5 HV (Lib.hid HO0.out.2)).mono ?_
              rintro e1 w1 ⟨rfl, hr1, hn1, ho1⟩
              have HR1 := Lib.hid hr1
              have HN1 := Lib.hid (hnr.out.trans hn1)
              have HO1 := ho1
              clear hr1 hn1 ho1
              go_wp2_with fail
              refine (IH.out a i mid _ _ (Lib.hid (HW.out.trans HN1.out)) HR1.out HO1.out.1 (by first | assumption | omega) (by first | assumption | omega) (by first | assumption | omega) (by first | assumption | omega) (Lib.hid HO1.out.2)).mono ?_
              rintro e1 w2 ⟨rfl, hr2, hn2, ho2⟩
              have HR2 := Lib.hid hr2
              have HN2 := Lib.hid (HN1.out.trans hn2)
              have HO2 := ho2
              clear hr2 hn2 ho2
              go_wp2_with fail
              refine (IH.out mid e b _ _ (Lib.hid (HW.out.trans HN2.out)) HR2.out HO2.out.1 (by first | assumption | omega) (by first | assumption | omega) (by first | assumption | omega) (by first | assumption | omega) (Lib.hid HO2.out.2)).mono ?_
              rintro e1 w3 ⟨rfl, hr3, hn3, ho3⟩
              have HR3 := Lib.hid hr3
              have HN3 := Lib.hid (HN2.out.trans hn3)
              have HO3 := ho3
              clear hr3 hn3 ho3
              go_wp2_with fail
              go_end0
              refine ⟨rfl, by rw [← HT.out]; exact HR3.out, HN3.out, ?_⟩
              rw [← HT.out]
              first | exact HO3 | exact Lib.hid ⟨HO3.out.1, fun _ _ h => HO3.out.2 _ h⟩
            · have c1 : (i < m ∧ m < e) := by omega
              have c2 : (a < i ∧ i < mid) := by omega
              have c3 : ¬ (mid < e ∧ e < b) := by omega
              simp only [if_pos c1, if_pos c2, if_neg c3] at hT
              have HT := Lib.hid hT
              have d_i_m : decide ((i : Int) < (m : Int)) = true := by simp; omega
              have d2_i_m : decide (i < m) = true := by simp; omega
              have d_m_e : decide ((m : Int) < (e : Int)) = true := by simp; omega
              have d2_m_e : decide (m < e) = true := by simp; omega
              have d_a_i : decide ((a : Int) < (i : Int)) = true := by simp; omega
              have d2_a_i : decide (a < i) = true := by simp; omega
              have d_i_mid : decide ((i : Int) < (mid : Int)) = true := by simp; omega
              have d2_i_mid : decide (i < mid) = true := by simp; omega
              have d_mid_e : decide ((mid : Int) < (e : Int)) = true := by simp; omega
              have d2_mid_e : decide (mid < e) = true := by simp; omega
              have d_e_b : decide ((e : Int) < (b : Int)) = false := by simp; omega
              have d2_e_b : decide (e < b) = false := by simp; omega
              have NF := HN.out
              have HO0 := Lib.hid (And.intro HN.out HL.out)
              have g1 : i < b := by omega
              have g2 : mid - a ≤ f := by omega
              have g3 : b - mid ≤ f := by omega
              have g4 : mid ≤ n := by omega
              have g5 : e - i ≤ b - a := by omega
              have g6 : e ≤ n := by omega
              have x1 := c1.1
              have y1 := c1.2
              have x2 := c2.1
              have y2 := c2.2
              clear hT c1 c2 c3 he he3 NF hq5 hs01
              go_wp2_with fail
              refine (rot_any blk c n cap i m e L l0 pad _ hr.out HO0.out.1 hcap (by first | assumption | omega) (by first | assumption | omega) g6 hn2 (b - a) g5 HV (Lib.hid HO0.out.2)).mono ?_
              rintro e1 w1 ⟨rfl, hr1, hn1, ho1⟩
              have HR1 := Lib.hid hr1
              have HN1 := Lib.hid (hnr.out.trans hn1)
              have HO1 := ho1
              clear hr1 hn1 ho1
              go_wp2_with fail
              refine (IH.out a i mid _ _ (Lib.hid (HW.out.trans HN1.out)) HR1.out HO1.out.1 (by first | assumption | omega) (by first | assumption | omega) (by first | assumption | omega) (by first | assumption | omega) (Lib.hid HO1.out.2)).mono ?_
              rintro e1 w2 ⟨rfl, hr2, hn2, ho2⟩
              have HR2 := Lib.hid hr2
              have HN2 := Lib.hid (HN1.out.trans hn2)
              have HO2 := ho2
              clear hr2 hn2 ho2
              go_wp2_with fail
              go_end0
              refine ⟨rfl, by rw [← HT.out]; exact HR2.out, HN2.out, ?_⟩
              rw [← HT.out]
              first | exact HO2 | exact Lib.hid ⟨HO2.out.1, fun _ _ h => HO2.out.2 _ h⟩
          · by_cases b4 : e < b
            · have c1 : (i < m ∧ m < e) := by omega
              have c2 : ¬ (a < i ∧ i < mid) := by omega
              have c3 : (mid < e ∧ e < b) := by omega
              simp only [if_pos c1, if_neg c2, if_pos c3] at hT
              have HT := Lib.hid hT
              have d_i_m : decide ((i : Int) < (m : Int)) = true := by simp; omega
              have d2_i_m : decide (i < m) = true := by simp; omega
              have d_m_e : decide ((m : Int) < (e : Int)) = true := by simp; omega
              have d2_m_e : decide (m < e) = true := by simp; omega
              have d_a_i : decide ((a : Int) < (i : Int)) = false := by simp; omega
              have d2_a_i : decide (a < i) = false := by simp; omega
              have d_mid_e : decide ((mid : Int) < (e : Int)) = true := by simp; omega
              have d2_mid_e : decide (mid < e) = true := by simp; omega
              have d_e_b : decide ((e : Int) < (b : Int)) = true := by simp; omega
              have d2_e_b : decide (e < b) = true := by simp; omega
              have NF := HN.out
              have HO0 := Lib.hid (And.intro HN.out HL.out)
              have g1 : i < b := by omega
              have g2 : mid - a ≤ f := by omega
              have g3 : b - mid ≤ f := by omega
              have g4 : mid ≤ n := by omega
              have g5 : e - i ≤ b - a := by omega
              have g6 : e ≤ n := by omega
              have x1 := c1.1
              have y1 := c1.2
              have x3 := c3.1
              have y3 := c3.2
              clear hT c1 c2 c3 he he3 NF hq5 hs01
              go_wp2_with fail
              refine (rot_any blk c n cap i m e L l0 pad _ hr.out HO0.out.1 hcap (by first | assumption | omega) (by first | assumption | omega) g6 hn2 (b - a) g5 HV (Lib.hid HO0.out.2)).mono ?_
              rintro e1 w1 ⟨rfl, hr1, hn1, ho1⟩
              have HR1 := Lib.hid hr1
              have HN1 := Lib.hid (hnr.out.trans hn1)
              have HO1 := ho1
              clear hr1 hn1 ho1
              go_wp2_with fail
              refine (IH.out mid e b _ _ (Lib.hid (HW.out.trans HN1.out)) HR1.out HO1.out.1 (by first | assumption | omega) (by first | assumption | omega) (by first | assumption | omega) (by first | assumption | omega) (Lib.hid HO1.out.2)).mono ?_
              rintro e1 w2 ⟨rfl, hr2, hn2, ho2⟩
              have HR2 := Lib.hid hr2
              have HN2 := Lib.hid (HN1.out.trans hn2)
              have HO2 := ho2
              clear hr2 hn2 ho2
              go_wp2_with fail
              go_end0
              refine ⟨rfl, by rw [← HT.out]; exact HR2.out, HN2.out, ?_⟩
              rw [← HT.out]
              first | exact HO2 | exact Lib.hid ⟨HO2.out.1, fun _ _ h => HO2.out.2 _ h⟩
            · have c1 : (i < m ∧ m < e) := by omega
              have c2 : ¬ (a < i ∧ i < mid) := by omega
              have c3 : ¬ (mid < e ∧ e < b) := by omega
              simp only [if_pos c1, if_neg c2, if_neg c3] at hT
              have HT := Lib.hid hT
              have d_i_m : decide ((i : Int) < (m : Int)) = true := by simp; omega
              have d2_i_m : decide (i < m) = true := by simp; omega
              have d_m_e : decide ((m : Int) < (e : Int)) = true := by simp; omega
              have d2_m_e : decide (m < e) = true := by simp; omega
              have d_a_i : decide ((a : Int) < (i : Int)) = false := by simp; omega
              have d2_a_i : decide (a < i) = false := by simp; omega
              have d_mid_e : decide ((mid : Int) < (e : Int)) = true := by simp; omega
              have d2_mid_e : decide (mid < e) = true := by simp; omega
              have d_e_b : decide ((e : Int) < (b : Int)) = false := by simp; omega
              have d2_e_b : decide (e < b) = false := by simp; omega
              have NF := HN.out
              have HO0 := Lib.hid (And.intro HN.out HL.out)
              have g1 : i < b := by omega
              have g2 : mid - a ≤ f := by omega
              have g3 : b - mid ≤ f := by omega
              have g4 : mid ≤ n := by omega
              have g5 : e - i ≤ b - a := by omega
              have g6 : e ≤ n := by omega
              have x1 := c1.1
              have y1 := c1.2
              clear hT c1 c2 c3 he he3 NF hq5 hs01
              go_wp2_with fail
              refine (rot_any blk c n cap i m e L l0 pad _ hr.out HO0.out.1 hcap (by first | assumption | omega) (by first | assumption | omega) g6 hn2 (b - a) g5 HV (Lib.hid HO0.out.2)).mono ?_
              rintro e1 w1 ⟨rfl, hr1, hn1, ho1⟩
              have HR1 := Lib.hid hr1
              have HN1 := Lib.hid (hnr.out.trans hn1)
              have HO1 := ho1
              clear hr1 hn1 ho1
              go_wp2_with fail
              go_end0
              refine ⟨rfl, by rw [← HT.out]; exact HR1.out, HN1.out, ?_⟩
              rw [← HT.out]
              first | exact HO1 | exact Lib.hid ⟨HO1.out.1, fun _ _ h => HO1.out.2 _ h⟩
        · have c1 : ¬ (i < m ∧ m < e) := by omega
          have c2 : ¬ (a < i ∧ i < mid) := by omega
          have c3 : (mid < e ∧ e < b) := by omega
          simp only [if_neg c1, if_neg c2, if_pos c3] at hT
          have HT := Lib.hid hT
          have d_i_m : decide ((i : Int) < (m : Int)) = true := by simp; omega
          have d2_i_m : decide (i < m) = true := by simp; omega
          have d_m_e : decide ((m : Int) < (e : Int)) = false := by simp; omega
          have d2_m_e : decide (m < e) = false := by simp; omega
          have d_a_i : decide ((a : Int) < (i : Int)) = true := by simp; omega
          have d2_a_i : decide (a < i) = true := by simp; omega
          have d_i_mid : decide ((i : Int) < (mid : Int)) = false := by simp; omega
          have d2_i_mid : decide (i < mid) = false := by simp; omega
          have d_mid_e : decide ((mid : Int) < (e : Int)) = true := by simp; omega
          have d2_mid_e : decide (mid < e) = true := by simp; omega
          have d_e_b : decide ((e : Int) < (b : Int)) = true := by simp; omega
          have d2_e_b : decide (e < b) = true := by simp; omega
          have NF := HN.out
          have HO0 := Lib.hid (And.intro HN.out HL.out)
          have g1 : i < b := by omega
          have g2 : mid - a ≤ f := by omega
          have g3 : b - mid ≤ f := by omega
          have g4 : mid ≤ n := by omega
          have g5 : e - i ≤ b - a := by omega
          have g6 : e ≤ n := by omega
          have x3 := c3.1
          have y3 := c3.2
          clear hT c1 c2 c3 he he3 NF hq5 hs01
          go_wp2_with fail
          refine (IH.out mid e b _ _ (Lib.hid (HW.out.trans hnr.out)) hr.out HO0.out.1 (by first | assumption | omega) (by first | assumption | omega) (by first | assumption | omega) (by first | assumption | omega) (Lib.hid HO0.out.2)).mono ?_
          rintro e1 w1 ⟨rfl, hr1, hn1, ho1⟩
          have HR1 := Lib.hid hr1
          have HN1 := Lib.hid (hnr.out.trans hn1)
          have HO1 := ho1
          clear hr1 hn1 ho1
          go_wp2_with fail
          go_end0
          refine ⟨rfl, by rw [← HT.out]; exact HR1.out, HN1.out, ?_⟩
          rw [← HT.out]
          first | exact HO1 | exact Lib.hid ⟨HO1.out.1, fun _ _ h => HO1.out.2 _ h⟩
      · by_cases b4 : i < mid
        · have c1 : ¬ (i < m ∧ m < e) := by omega
          have c2 : (a < i ∧ i < mid) := by omega
          have c3 : ¬ (mid < e ∧ e < b) := by omega
          simp only [if_neg c1, if_pos c2, if_neg c3] at hT
          have HT := Lib.hid hT
          have d_i_m : decide ((i : Int) < (m : Int)) = false := by simp; omega
          have d2_i_m : decide (i < m) = false := by simp; omega
          have d_a_i : decide ((a : Int) < (i : Int)) = true := by simp; omega
          have d2_a_i : decide (a < i) = true := by simp; omega
          have d_i_mid : decide ((i : Int) < (mid : Int)) = true := by simp; omega
          have d2_i_mid : decide (i < mid) = true := by simp; omega
          have d_mid_e : decide ((mid : Int) < (e : Int)) = false := by simp; omega
          have d2_mid_e : decide (mid < e) = false := by simp; omega
          have NF := HN.out
          have HO0 := Lib.hid (And.intro HN.out HL.out)
          have g1 : i < b := by omega
          have g2 : mid - a ≤ f := by omega
          have g3 : b - mid ≤ f := by omega
          have g4 : mid ≤ n := by omega
          have g5 : e - i ≤ b - a := by omega
          have g6 : e ≤ n := by omega
          have x2 := c2.1
          have y2 := c2.2
          clear hT c1 c2 c3 he he3 NF hq5 hs01
          go_wp2_with fail
          refine (IH.out a i mid _ _ (Lib.hid (HW.out.trans hnr.out)) hr.out HO0.out.1 (by first | assumption | omega) (by first | assumption | omega) (by first | assumption | omega) (by first | assumption | omega) (Lib.hid HO0.out.2)).mono ?_
          rintro e1 w1 ⟨rfl, hr1, hn1, ho1⟩
          have HR1 := Lib.hid hr1
          have HN1 := Lib.hid (hnr.out.trans hn1)
          have HO1 := ho1
          clear hr1 hn1 ho1
          go_wp2_with fail
          go_end0
          refine ⟨rfl, by rw [← HT.out]; exact HR1.out, HN1.out, ?_⟩
          rw [← HT.out]
          first | exact HO1 | exact Lib.hid ⟨HO1.out.1, fun _ _ h => HO1.out.2 _ h⟩
        · have c1 : ¬ (i < m ∧ m < e) := by omega
          have c2 : ¬ (a < i ∧ i < mid) := by omega
          have c3 : ¬ (mid < e ∧ e < b) := by omega
          simp only [if_neg c1, if_neg c2, if_neg c3] at hT
          have HT := Lib.hid hT
          have d_i_m : decide ((i : Int) < (m : Int)) = false := by simp; omega
          have d2_i_m : decide (i < m) = false := by simp; omega
          have d_a_i : decide ((a : Int) < (i : Int)) = true := by simp; omega
          have d2_a_i : decide (a < i) = true := by simp; omega
          have d_i_mid : decide ((i : Int) < (mid : Int)) = false := by simp; omega
          have d2_i_mid : decide (i < mid) = false := by simp; omega
          have d_mid_e : decide ((mid : Int) < (e : Int)) = false := by simp; omega
          have d2_mid_e : decide (mid < e) = false := by simp; omega
          have NF := HN.out
          have HO0 := Lib.hid (And.intro HN.out HL.out)
          have g1 : i < b := by omega
          have g2 : mid - a ≤ f := by omega
          have g3 : b - mid ≤ f := by omega
          have g4 : mid ≤ n := by omega
          have g5 : e - i ≤ b - a := by omega
          have g6 : e ≤ n := by omega
          clear hT c1 c2 c3 he he3 NF hq5 hs01
          go_wp2_with fail
          go_end0
          refine ⟨rfl, by rw [← HT.out]; exact hr.out, hnr.out, ?_⟩
          rw [← HT.out]
          first | exact HO0 | exact Lib.hid ⟨HO0.out.1, fun _ _ h => HO0.out.2 _ h⟩

set_option maxRecDepth 100000 in
set_option maxHeartbeats 8000000 in
theorem symm_small (f : Nat) (IH : Hid (∀ (a m b : Nat) (l0 : List PV) (w : World), Hid (Near blk W w) → RowAt w blk l0 pad 24 → l0.length = n → a < m → m < b → b ≤ n → b - a ≤ f → Hid (∀ p ∈ l0, p ∈ L) → Calls Tryd.prog 86 #[.slice (some ⟨blk, 0, none⟩) n cap, .int .i64 a, .int .i64 m, .int .i64 b, .func (.func 71) #[] #[.pointer (some ⟨c, 0, none⟩)]] w fun e w' => e = .returned (.tuple #[]) ∧ RowAt w' blk (symM cf f a m b l0) pad 24 ∧ Near blk w w' ∧ Hid ((symM cf f a m b l0).length = n ∧ ∀ p ∈ symM cf f a m b l0, p ∈ L))) (a m b : Nat) (l0 : List PV) (w : World) (HW : Hid (Near blk W w)) (hrow : RowAt w blk l0 pad 24) (hn : l0.length = n) (hcap : n ≤ cap) (ham : a < m) (hmb : m < b) (hbn : b ≤ n) (hn2 : n ≤ 1000000)
    (HV : Hid (∀ p ∈ L, ∃ a c, p.2 = .slice a p.1.args.length c)) (HC : Hid (∀ p ∈ L, ∀ q ∈ L, ∀ w', Near blk W w' → Calls Tryd.prog 71 #[tv p.1 p.2, tv q.1 q.2, .pointer (some ⟨c, 0, none⟩)] w' fun e w'' => e = .returned (.int .i64 (cf p q)) ∧ Below w'.heap.size w' w'')) (HL : Hid (∀ p ∈ l0, p ∈ L)) (h1 : ¬ m - a = 1) (h2 : ¬ b - m = 1) (hbf : b - a ≤ f + 1) (hside : ¬ (a + b) / 2 < m) :
    Calls Tryd.prog 86 #[.slice (some ⟨blk, 0, none⟩) n cap, .int .i64 a, .int .i64 m, .int .i64 b, .func (.func 71) #[] #[.pointer (some ⟨c, 0, none⟩)]] w fun e w' => e = .returned (.tuple #[]) ∧ RowAt w' blk (symM cf (f + 1) a m b l0) pad 24 ∧ Near blk w w' ∧ Hid ((symM cf (f + 1) a m b l0).length = n ∧ ∀ p ∈ symM cf (f + 1) a m b l0, p ∈ L) := by
  obtain ⟨R, hR⟩ : ∃ R, symM cf (f + 1) a m b l0 = R := ⟨_, rfl⟩
  rw [hR]
  obtain ⟨mid, hmid⟩ : ∃ mid : Nat, mid = (a + b) / 2 := ⟨_, rfl⟩
  rw [← hmid] at hside
  obtain ⟨nn, hnn⟩ : ∃ nn : Nat, nn = mid + m := ⟨_, rfl⟩
  obtain ⟨s, hs0⟩ : ∃ s, bsr (fun c => !decide (cf (l0.getD (mid + m - 1 - c) dflt) (l0.getD c dflt) < 0)) (b - a) (a) m = s := ⟨_, rfl⟩
  have hsb := bsr_in (fun c => !decide (cf (l0.getD (mid + m - 1 - c) dflt) (l0.getD c dflt) < 0)) (b - a) (a) m (by omega)
  rw [hs0] at hsb
  have hRT : symM.symT cf f a m b mid s l0 = R := by
    rw [← hR]
    refine (symM_T h1 h2 hmid ?_).symm
    rw [if_neg hside]
    exact hs0
  have hM : ((a : Int) + (b : Int)) / 2 = (mid : Int) := by omega
  have hN : (mid : Int) + (m : Int) = (nn : Int) := by omega
  obtain ⟨pp, hpp⟩ : ∃ pp : Nat, pp = nn - 1 := ⟨_, rfl⟩
  have hP : (nn : Int) - 1 = (pp : Int) := by omega
  obtain ⟨d, hd⟩ : ∃ d : Nat, d = m - a := ⟨_, rfl⟩
  have hD : (m : Int) - (a : Int) = (d : Int) := by omega
  have hd1 : ((d : Int) == 1) = false := by simp; omega
  have hd2 : (d == 1) = false := by simp; omega
  obtain ⟨d', hd'⟩ : ∃ d : Nat, d = b - m := ⟨_, rfl⟩
  have hD' : (b : Int) - (m : Int) = (d' : Int) := by omega
  have hd1' : ((d' : Int) == 1) = false := by simp; omega
  have hd2' : (d' == 1) = false := by simp; omega
  have hq8 : nn ≤ a + b := by omega
  have hq1 : a ≤ mid := by omega
  have hq2 : mid < b := by omega
  have hq4 : nn ≤ b + n := by omega
  have hq5 : nn = mid + m := hnn
  have hq6 : pp + 1 = nn := by omega
  have hq7 : a < mid := by omega
  have HPF := Lib.hid (show mid + m - 1 = pp by omega)
  have HNN := Lib.hid hq5
  have HS := Lib.hid hs0
  have HRT := Lib.hid hRT
  have HROW := Lib.hid hrow
  have HN := Lib.hid hn
  have HQ6 := Lib.hid hq6
  have sd1 : decide ((mid : Int) < (m : Int)) = false := by simp; omega
  have sd2 : decide (mid < m) = false := by simp; omega
  have hsr1 : a ≤ s := by omega
  have hsr2 : s ≤ m := hsb.2
  clear hR hs0 hsb hRT hrow hn hmid hnn hpp hd hd'  hq5 hq6 h1 h2
  go_enter Tryd.func86, Tryd.ntmps86
  go_wp2_with fail
  clear hM hN hP hD hD' hd1 hd2 hd1' hd2' sd1 sd2
  go_loopw [20, 21] (fun vi vj wr => ∃ (i j g : Nat), i ≤ j ∧ a ≤ i ∧ j ≤ m ∧ j - i ≤ g ∧ vi = .int .i64 i ∧ vj = .int .i64 j ∧ Hid (RowAt wr blk l0 pad 24) ∧ Hid (Near blk w wr) ∧ Hid (bsr (fun c => !decide (cf (l0.getD (mid + m - 1 - c) dflt) (l0.getD c dflt) < 0)) g i j = s)) (fun vi vj _ => (intOf vj).toNat - (intOf vi).toNat)
  case atStart => exact ⟨a, m, b - a, by have := HNN.out; skip; omega, Nat.le_refl _, Nat.le_refl _, by have := HNN.out; skip; omega, rfl, rfl, HROW, Lib.hid (Near.refl _ _), HS⟩
  case round =>
    obtain ⟨i, j, g, hij, hmi, hjb, hg, rfl, rfl, hr, hnr, hq⟩ := hrel
    by_cases hlt : i < j
    · obtain ⟨g, rfl⟩ : ∃ g', g = g' + 1 := ⟨g - 1, by omega⟩
      obtain ⟨h, hh⟩ : ∃ h : Nat, h = (i + j) / 2 := ⟨_, rfl⟩
      have hX : ((i : Int) + (j : Int)) / 2 = (h : Int) := by omega
      have hhi : i ≤ h := by omega
      have hhj : h < j := by omega
      obtain ⟨x, hx⟩ : ∃ x : Nat, x = pp - h := ⟨_, rfl⟩
      have hq5 := HNN.out
      have hq6 := HQ6.out
      skip
      have hX2 : (pp : Int) - (h : Int) = (x : Int) := by omega
      have hxn : x < n := by omega
      have hhn : h < n := by omega
      have HH := Lib.hid hh
      have HX2 := Lib.hid hx
      have hl : Hid (l0.length = n ∧ True ∧ True) := Lib.hid ⟨HN.out, trivial, trivial⟩
      clear hh hx hq5 hq6 
      have hkp : x < l0.length := by have := hl.out.1; omega
      have cp := hr.out.cells x hkp
      have mp := HL.out _ (List.getElem_mem hkp)
      have gp := getD_at l0 x hkp
      obtain ⟨pp, hep⟩ : ∃ p, l0[x] = p := ⟨_, rfl⟩
      rw [hep] at cp mp gp
      obtain ⟨tp, vp⟩ := pp
      obtain ⟨ap, kp, ev⟩ := HV.out _ mp
      obtain rfl : vp = .slice ap tp.args.length kp := ev
      obtain ⟨sp0, sp1, sp2, sp3⟩ := cp
      have HMp := Lib.hid mp
      have HGp := Lib.hid gp
      have HKp := Lib.hid hkp
      clear hep mp gp hkp
      have hkq : h < l0.length := by have := hl.out.1; omega
      have cq := hr.out.cells h hkq
      have mq := HL.out _ (List.getElem_mem hkq)
      have gq := getD_at l0 h hkq
      obtain ⟨pq, heq⟩ : ∃ p, l0[h] = p := ⟨_, rfl⟩
      rw [heq] at cq mq gq
      obtain ⟨tq, vq⟩ := pq
      obtain ⟨aq, kq, ev⟩ := HV.out _ mq
      obtain rfl : vq = .slice aq tq.args.length kq := ev
      obtain ⟨sq0, sq1, sq2, sq3⟩ := cq
      have HMq := Lib.hid mq
      have HGq := Lib.hid gq
      have HKq := Lib.hid hkq
      clear heq mq gq hkq
      have wr_h : IntKind.i64.wrap (h : Int) = (h : Int) := IntWalk.i64_in _ (by omega)
      have lo_h : (0 : Int) ≤ (h : Int) := by omega
      have hi_h : (h : Int) < (n : Int) := by omega
      have wr_x : IntKind.i64.wrap (x : Int) = (x : Int) := IntWalk.i64_in _ (by omega)
      have lo_x : (0 : Int) ≤ (x : Int) := by omega
      have hi_x : (x : Int) < (n : Int) := by omega
      obtain ⟨z, hz0⟩ : ∃ z, cf (tp, .slice ap tp.args.length kp) (tq, .slice aq tq.args.length kq) = z := ⟨_, rfl⟩
      have HZ := Lib.hid hz0
      have HCC : Hid (∀ w', Below wr.heap.size wr w' → Calls Tryd.prog 71 #[tv tp (.slice ap tp.args.length kp), tv tq (.slice aq tq.args.length kq), .pointer (some ⟨c, 0, none⟩)] w' fun e w'' => e = .returned (.int .i64 z) ∧ Below w'.heap.size w' w'') := fun w' h => by rw [← hz0]; exact HC.out _ HMp.out _ HMq.out w' (HW.out.trans (hnr.out.trans (Near.of_below h)))
      clear hz0
      have hS0 : Below wr.heap.size wr wr.drew := (Below.refl _ _).drew
      have HS : Hid (∀ w', Below wr.heap.size wr w' → (fun w' => Below wr.heap.size wr w' ∧ w'.cell? ⟨blk, x * 4, none⟩ = some (.int .i64 tp.kind) ∧ w'.cell? ⟨blk, x * 4 + 1, none⟩ = some (.int .i64 tp.num) ∧ w'.cell? ⟨blk, x * 4 + 2, none⟩ = some (.string tp.name) ∧ w'.cell? ⟨blk, x * 4 + 3, none⟩ = some (.slice ap tp.args.length kp) ∧ w'.cell? ⟨blk, h * 4, none⟩ = some (.int .i64 tq.kind) ∧ w'.cell? ⟨blk, h * 4 + 1, none⟩ = some (.int .i64 tq.num) ∧ w'.cell? ⟨blk, h * 4 + 2, none⟩ = some (.string tq.name) ∧ w'.cell? ⟨blk, h * 4 + 3, none⟩ = some (.slice aq tq.args.length kq)) w') := fun w' h => ⟨h, cell_below h _ _ sp0, cell_below h _ _ sp1, cell_below h _ _ sp2, cell_below h _ _ sp3, cell_below h _ _ sq0, cell_below h _ _ sq1, cell_below h _ _ sq2, cell_below h _ _ sq3⟩
      by_cases hzn : z < 0
      · have e1 : decide (z < 0) = true := by simpa using hzn
        have HQ2 : Hid (bsr (fun c => !decide (cf (l0.getD (mid + m - 1 - c) dflt) (l0.getD c dflt) < 0)) g i h = s) := Lib.hid (bsr_lo hlt HH.out (by simp only [HPF.out, ← HX2.out, HGp.out, HGq.out, HZ.out, e1, Bool.not_true]) hq.out)
        go_wp2_with fail
        go_region_held3 (fun w' => Below wr.heap.size wr w' ∧ w'.cell? ⟨blk, x * 4, none⟩ = some (.int .i64 tp.kind) ∧ w'.cell? ⟨blk, x * 4 + 1, none⟩ = some (.int .i64 tp.num) ∧ w'.cell? ⟨blk, x * 4 + 2, none⟩ = some (.string tp.name) ∧ w'.cell? ⟨blk, x * 4 + 3, none⟩ = some (.slice ap tp.args.length kp) ∧ w'.cell? ⟨blk, h * 4, none⟩ = some (.int .i64 tq.kind) ∧ w'.cell? ⟨blk, h * 4 + 1, none⟩ = some (.int .i64 tq.num) ∧ w'.cell? ⟨blk, h * 4 + 2, none⟩ = some (.string tq.name) ∧ w'.cell? ⟨blk, h * 4 + 3, none⟩ = some (.slice aq tq.args.length kq))
          (first | exact HS.out _ h5 | exact HS.out _ hS0 | assumption | go_keep)
          (first
            | (go_at_call 71; refine (HCC.out _ (by assumption : Below wr.heap.size wr _)).mono ?_; rintro e w4 ⟨rfl, hb4⟩; have h5 : Below wr.heap.size wr w4 := Below.trans (by assumption : Below wr.heap.size wr _) (hb4.mono (Below.size (by assumption : Below wr.heap.size wr _)))))
        have RW := Lib.hid (hr.out.keep h5)
        have N4 := Lib.hid (hnr.out.trans (Near.of_below h5))
        clear sp0 sp1 sp2 sp3 sq0 sq1 sq2 sq3 h5 hS0 HS
        go_wp2_with fail
        go_roundw
        case rel => exact ⟨i, h, g, by omega, by omega, by omega, by omega, rfl, by go_num, RW, N4, HQ2⟩
        case measure => simp [intOf]; omega
      · have e1 : decide (z < 0) = false := by simpa using hzn
        have HQ2 : Hid (bsr (fun c => !decide (cf (l0.getD (mid + m - 1 - c) dflt) (l0.getD c dflt) < 0)) g (h + 1) j = s) := Lib.hid (bsr_hi hlt HH.out (by simp only [HPF.out, ← HX2.out, HGp.out, HGq.out, HZ.out, e1, Bool.not_false]) hq.out)
        go_wp2_with fail
        go_region_held3 (fun w' => Below wr.heap.size wr w' ∧ w'.cell? ⟨blk, x * 4, none⟩ = some (.int .i64 tp.kind) ∧ w'.cell? ⟨blk, x * 4 + 1, none⟩ = some (.int .i64 tp.num) ∧ w'.cell? ⟨blk, x * 4 + 2, none⟩ = some (.string tp.name) ∧ w'.cell? ⟨blk, x * 4 + 3, none⟩ = some (.slice ap tp.args.length kp) ∧ w'.cell? ⟨blk, h * 4, none⟩ = some (.int .i64 tq.kind) ∧ w'.cell? ⟨blk, h * 4 + 1, none⟩ = some (.int .i64 tq.num) ∧ w'.cell? ⟨blk, h * 4 + 2, none⟩ = some (.string tq.name) ∧ w'.cell? ⟨blk, h * 4 + 3, none⟩ = some (.slice aq tq.args.length kq))
          (first | exact HS.out _ h5 | exact HS.out _ hS0 | assumption | go_keep)
          (first
            | (go_at_call 71; refine (HCC.out _ (by assumption : Below wr.heap.size wr _)).mono ?_; rintro e w4 ⟨rfl, hb4⟩; have h5 : Below wr.heap.size wr w4 := Below.trans (by assumption : Below wr.heap.size wr _) (hb4.mono (Below.size (by assumption : Below wr.heap.size wr _)))))
        have RW := Lib.hid (hr.out.keep h5)
        have N4 := Lib.hid (hnr.out.trans (Near.of_below h5))
        clear sp0 sp1 sp2 sp3 sq0 sq1 sq2 sq3 h5 hS0 HS
        go_wp2_with fail
        go_roundw
        case rel => exact ⟨h + 1, j, g, by omega, by omega, hjb, by omega, by go_num, rfl, RW, N4, HQ2⟩
        case measure => simp [intOf]; omega
    · obtain rfl : i = j := by omega
      have e : i = s := by have := hq.out; rw [bsr_end] at this; exact this
      subst e
      clear hij hg hq hlt
      obtain ⟨e, he⟩ : ∃ e : Nat, e = nn - i := ⟨_, rfl⟩
      have hq5 := HNN.out
      skip
      have hE : (nn : Int) - (i : Int) = (e : Int) := by omega
      have he1 : m ≤ e := by omega
      have he2 : e ≤ b := by omega
      have he3 : mid + m - i = e := by omega
      have him : i ≤ m := by omega
      have himd : i ≤ mid := by omega
      have hai : a ≤ i := by omega
      have hT := HRT.out
      unfold symM.symT at hT
      simp only [he3] at hT
      have hfr : b - a = b - a := rfl
      by_cases b1 : i < m
      · by_cases b2 : m < e
        · by_cases b3 : a < i
          · by_cases b4 : e < b
            · have c1 : (i < m ∧ m < e) := by omega
              have c2 : (a < i ∧ i < mid) := by omega
              have c3 : (mid < e ∧ e < b) := by omega
              simp only [if_pos c1, if_pos c2, if_pos c3] at hT
              have HT := Lib.hid hT
              have d_i_m : decide ((i : Int) < (m : Int)) = true := by simp; omega
              have d2_i_m : decide (i < m) = true := by simp; omega
              have d_m_e : decide ((m : Int) < (e : Int)) = true := by simp; omega
              have d2_m_e : decide (m < e) = true := by simp; omega
              have d_a_i : decide ((a : Int) < (i : Int)) = true := by simp; omega
              have d2_a_i : decide (a < i) = true := by simp; omega
              have d_i_mid : decide ((i : Int) < (mid : Int)) = true := by simp; omega
              have d2_i_mid : decide (i < mid) = true := by simp; omega
              have d_mid_e : decide ((mid : Int) < (e : Int)) = true := by simp; omega
              have d2_mid_e : decide (mid < e) = true := by simp; omega
              have d_e_b : decide ((e : Int) < (b : Int)) = true := by simp; omega
              have d2_e_b : decide (e < b) = true := by simp; omega
              have NF := HN.out
              have HO0 := Lib.hid (And.intro HN.out HL.out)
              have g1 : i < b := by omega
              have g2 : mid - a ≤ f := by omega
              have g3 : b - mid ≤ f := by omega
              have g4 : mid ≤ n := by omega
              have g5 : e - i ≤ b - a := by omega
              have g6 : e ≤ n := by omega
              have x1 := c1.1
              have y1 := c1.2
              have x2 := c2.1
              have y2 := c2.2
              have x3 := c3.1
              have y3 := c3.2
              clear hT c1 c2 c3 he he3 NF hq5 
              go_wp2_with fail
              refine (rot_any blk c n cap i m e L l0 pad _ hr.out HO0.out.1 hcap (by first | assumption | omega) (by first | assumption | omega) g6 hn2 (b - a) g5 HV (Lib.hid HO0.out.2)).mono ?_
              rintro e1 w1 ⟨rfl, hr1, hn1, ho1⟩
              have HR1 := Lib.hid hr1
              have HN1 := Lib.hid (hnr.out.trans hn1)
              have HO1 := ho1
              clear hr1 hn1 ho1
              go_wp2_with fail
              refine (IH.out a i mid _ _ (Lib.hid (HW.out.trans HN1.out)) HR1.out HO1.out.1 (by first | assumption | omega) (by first | assumption | omega) (by first | assumption | omega) (by first | assumption | omega) (Lib.hid HO1.out.2)).mono ?_
              rintro e1 w2 ⟨rfl, hr2, hn2, ho2⟩
              have HR2 := Lib.hid hr2
              have HN2 := Lib.hid (HN1.out.trans hn2)
              have HO2 := ho2
              clear hr2 hn2 ho2
              go_wp2_with fail
              refine (IH.out mid e b _ _ (Lib.hid (HW.out.trans HN2.out)) HR2.out HO2.out.1 (by first | assumption | omega) (by first | assumption | omega) (by first | assumption | omega) (by first | assumption | omega) (Lib.hid HO2.out.2)).mono ?_
              rintro e1 w3 ⟨rfl, hr3, hn3, ho3⟩
              have HR3 := Lib.hid hr3
              have HN3 := Lib.hid (HN2.out.trans hn3)
              have HO3 := ho3
              clear hr3 hn3 ho3
              go_wp2_with fail
              go_end0
              refine ⟨rfl, by rw [← HT.out]; exact HR3.out, HN3.out, ?_⟩
              rw [← HT.out]
              first | exact HO3 | exact Lib.hid ⟨HO3.out.1, fun _ _ h => HO3.out.2 _ h⟩
            · have c1 : (i < m ∧ m < e) := by omega
              have c2 : (a < i ∧ i < mid) := by omega
              have c3 : ¬ (mid < e ∧ e < b) := by omega
              simp only [if_pos c1, if_pos c2, if_neg c3] at hT
              have HT := Lib.hid hT
              have d_i_m : decide ((i : Int) < (m : Int)) = true := by simp; omega
              have d2_i_m : decide (i < m) = true := by simp; omega
              have d_m_e : decide ((m : Int) < (e : Int)) = true := by simp; omega
              have d2_m_e : decide (m < e) = true := by simp; omega
              have d_a_i : decide ((a : Int) < (i : Int)) = true := by simp; omega
              have d2_a_i : decide (a < i) = true := by simp; omega
              have d_i_mid : decide ((i : Int) < (mid : Int)) = true := by simp; omega
              have d2_i_mid : decide (i < mid) = true := by simp; omega
              have d_mid_e : decide ((mid : Int) < (e : Int)) = true := by simp; omega
              have d2_mid_e : decide (mid < e) = true := by simp; omega
              have d_e_b : decide ((e : Int) < (b : Int)) = false := by simp; omega
              have d2_e_b : decide (e < b) = false := by simp; omega
              have NF := HN.out
              have HO0 := Lib.hid (And.intro HN.out HL.out)
              have g1 : i < b := by omega
              have g2 : mid - a ≤ f := by omega
              have g3 : b - mid ≤ f := by omega
              have g4 : mid ≤ n := by omega
              have g5 : e - i ≤ b - a := by omega
              have g6 : e ≤ n := by omega
              have x1 := c1.1
              have y1 := c1.2
              have x2 := c2.1
              have y2 := c2.2
              clear hT c1 c2 c3 he he3 NF hq5 
              go_wp2_with fail
              refine (rot_any blk c n cap i m e L l0 pad _ hr.out HO0.out.1 hcap (by first | assumption | omega) (by first | assumption | omega) g6 hn2 (b - a) g5 HV (Lib.hid HO0.out.2)).mono ?_
              rintro e1 w1 ⟨rfl, hr1, hn1, ho1⟩
              have HR1 := Lib.hid hr1
              have HN1 := Lib.hid (hnr.out.trans hn1)
              have HO1 := ho1
              clear hr1 hn1 ho1
              go_wp2_with fail
              refine (IH.out a i mid _ _ (Lib.hid (HW.out.trans HN1.out)) HR1.out HO1.out.1 (by first | assumption | omega) (by first | assumption | omega) (by first | assumption | omega) (by first | assumption | omega) (Lib.hid HO1.out.2)).mono ?_
              rintro e1 w2 ⟨rfl, hr2, hn2, ho2⟩
              have HR2 := Lib.hid hr2
              have HN2 := Lib.hid (HN1.out.trans hn2)
              have HO2 := ho2
              clear hr2 hn2 ho2
              go_wp2_with fail
              go_end0
              refine ⟨rfl, by rw [← HT.out]; exact HR2.out, HN2.out, ?_⟩
              rw [← HT.out]
              first | exact HO2 | exact Lib.hid ⟨HO2.out.1, fun _ _ h => HO2.out.2 _ h⟩
          · by_cases b4 : e < b
            · have c1 : (i < m ∧ m < e) := by omega
              have c2 : ¬ (a < i ∧ i < mid) := by omega
              have c3 : (mid < e ∧ e < b) := by omega
              simp only [if_pos c1, if_neg c2, if_pos c3] at hT
              have HT := Lib.hid hT
              have d_i_m : decide ((i : Int) < (m : Int)) = true := by simp; omega
              have d2_i_m : decide (i < m) = true := by simp; omega
              have d_m_e : decide ((m : Int) < (e : Int)) = true := by simp; omega
              have d2_m_e : decide (m < e) = true := by simp; omega
              have d_a_i : decide ((a : Int) < (i : Int)) = false := by simp; omega
              have d2_a_i : decide (a < i) = false := by simp; omega
              have d_mid_e : decide ((mid : Int) < (e : Int)) = true := by simp; omega
              have d2_mid_e : decide (mid < e) = true := by simp; omega
              have d_e_b : decide ((e : Int) < (b : Int)) = true := by simp; omega
              have d2_e_b : decide (e < b) = true := by simp; omega
              have NF := HN.out
              have HO0 := Lib.hid (And.intro HN.out HL.out)
              have g1 : i < b := by omega
              have g2 : mid - a ≤ f := by omega
              have g3 : b - mid ≤ f := by omega
              have g4 : mid ≤ n := by omega
              have g5 : e - i ≤ b - a := by omega
              have g6 : e ≤ n := by omega
              have x1 := c1.1
              have y1 := c1.2
              have x3 := c3.1
              have y3 := c3.2
              clear hT c1 c2 c3 he he3 NF hq5 
              go_wp2_with fail
              refine (rot_any blk c n cap i m e L l0 pad _ hr.out HO0.out.1 hcap (by first | assumption | omega) (by first | assumption | omega) g6 hn2 (b - a) g5 HV (Lib.hid HO0.out.2)).mono ?_
              rintro e1 w1 ⟨rfl, hr1, hn1, ho1⟩
              have HR1 := Lib.hid hr1
              have HN1 := Lib.hid (hnr.out.trans hn1)
              have HO1 := ho1
              clear hr1 hn1 ho1
              go_wp2_with fail
              refine (IH.out mid e b _ _ (Lib.hid (HW.out.trans HN1.out)) HR1.out HO1.out.1 (by first | assumption | omega) (by first | assumption | omega) (by first | assumption | omega) (by first | assumption | omega) (Lib.hid HO1.out.2)).mono ?_
              rintro e1 w2 ⟨rfl, hr2, hn2, ho2⟩
              have HR2 := Lib.hid hr2
              have HN2 := Lib.hid (HN1.out.trans hn2)
              have HO2 := ho2
              clear hr2 hn2 ho2
              go_wp2_with fail
              go_end0
              refine ⟨rfl, by rw [← HT.out]; exact HR2.out, HN2.out, ?_⟩
              rw [← HT.out]
              first | exact HO2 | exact Lib.hid ⟨HO2.out.1, fun _ _ h => HO2.out.2 _ h⟩
            · have c1 : (i < m ∧ m < e) := by omega
              have c2 : ¬ (a < i ∧ i < mid) := by omega
              have c3 : ¬ (mid < e ∧ e < b) := by omega
              simp only [if_pos c1, if_neg c2, if_neg c3] at hT
              have HT := Lib.hid hT
              have d_i_m : decide ((i : Int) < (m : Int)) = true := by simp; omega
              have d2_i_m : decide (i < m) = true := by simp; omega
              have d_m_e : decide ((m : Int) < (e : Int)) = true := by simp; omega
              have d2_m_e : decide (m < e) = true := by simp; omega
              have d_a_i : decide ((a : Int) < (i : Int)) = false := by simp; omega
              have d2_a_i : decide (a < i) = false := by simp; omega
              have d_mid_e : decide ((mid : Int) < (e : Int)) = true := by simp; omega
              have d2_mid_e : decide (mid < e) = true := by simp; omega
              have d_e_b : decide ((e : Int) < (b : Int)) = false := by simp; omega
              have d2_e_b : decide (e < b) = false := by simp; omega
              have NF := HN.out
              have HO0 := Lib.hid (And.intro HN.out HL.out)
              have g1 : i < b := by omega
              have g2 : mid - a ≤ f := by omega
              have g3 : b - mid ≤ f := by omega
              have g4 : mid ≤ n := by omega
              have g5 : e - i ≤ b - a := by omega
              have g6 : e ≤ n := by omega
              have x1 := c1.1
              have y1 := c1.2
              clear hT c1 c2 c3 he he3 NF hq5 
              go_wp2_with fail
              refine (rot_any blk c n cap i m e L l0 pad _ hr.out HO0.out.1 hcap (by first | assumption | omega) (by first | assumption | omega) g6 hn2 (b - a) g5 HV (Lib.hid HO0.out.2)).mono ?_
              rintro e1 w1 ⟨rfl, hr1, hn1, ho1⟩
              have HR1 := Lib.hid hr1
              have HN1 := Lib.hid (hnr.out.trans hn1)
              have HO1 := ho1
              clear hr1 hn1 ho1
              go_wp2_with fail
              go_end0
              refine ⟨rfl, by rw [← HT.out]; exact HR1.out, HN1.out, ?_⟩
              rw [← HT.out]
              first | exact HO1 | exact Lib.hid ⟨HO1.out.1, fun _ _ h => HO1.out.2 _ h⟩
        · have c1 : ¬ (i < m ∧ m < e) := by omega
          have c2 : ¬ (a < i ∧ i < mid) := by omega
          have c3 : (mid < e ∧ e < b) := by omega
          simp only [if_neg c1, if_neg c2, if_pos c3] at hT
          have HT := Lib.hid hT
          have d_i_m : decide ((i : Int) < (m : Int)) = true := by simp; omega
          have d2_i_m : decide (i < m) = true := by simp; omega
          have d_m_e : decide ((m : Int) < (e : Int)) = false := by simp; omega
          have d2_m_e : decide (m < e) = false := by simp; omega
          have d_a_i : decide ((a : Int) < (i : Int)) = true := by simp; omega
          have d2_a_i : decide (a < i) = true := by simp; omega
          have d_i_mid : decide ((i : Int) < (mid : Int)) = false := by simp; omega
          have d2_i_mid : decide (i < mid) = false := by simp; omega
          have d_mid_e : decide ((mid : Int) < (e : Int)) = true := by simp; omega
          have d2_mid_e : decide (mid < e) = true := by simp; omega
          have d_e_b : decide ((e : Int) < (b : Int)) = true := by simp; omega
          have d2_e_b : decide (e < b) = true := by simp; omega
          have NF := HN.out
          have HO0 := Lib.hid (And.intro HN.out HL.out)
          have g1 : i < b := by omega
          have g2 : mid - a ≤ f := by omega
          have g3 : b - mid ≤ f := by omega
          have g4 : mid ≤ n := by omega
          have g5 : e - i ≤ b - a := by omega
          have g6 : e ≤ n := by omega
          have x3 := c3.1
          have y3 := c3.2
          clear hT c1 c2 c3 he he3 NF hq5 
          go_wp2_with fail
          refine (IH.out mid e b _ _ (Lib.hid (HW.out.trans hnr.out)) hr.out HO0.out.1 (by first | assumption | omega) (by first | assumption | omega) (by first | assumption | omega) (by first | assumption | omega) (Lib.hid HO0.out.2)).mono ?_
          rintro e1 w1 ⟨rfl, hr1, hn1, ho1⟩
          have HR1 := Lib.hid hr1
          have HN1 := Lib.hid (hnr.out.trans hn1)
          have HO1 := ho1
          clear hr1 hn1 ho1
          go_wp2_with fail
          go_end0
          refine ⟨rfl, by rw [← HT.out]; exact HR1.out, HN1.out, ?_⟩
          rw [← HT.out]
          first | exact HO1 | exact Lib.hid ⟨HO1.out.1, fun _ _ h => HO1.out.2 _ h⟩
      · by_cases b4 : i < mid
        · have c1 : ¬ (i < m ∧ m < e) := by omega
          have c2 : (a < i ∧ i < mid) := by omega
          have c3 : ¬ (mid < e ∧ e < b) := by omega
          simp only [if_neg c1, if_pos c2, if_neg c3] at hT
          have HT := Lib.hid hT
          have d_i_m : decide ((i : Int) < (m : Int)) = false := by simp; omega
          have d2_i_m : decide (i < m) = false := by simp; omega
          have d_a_i : decide ((a : Int) < (i : Int)) = true := by simp; omega
          have d2_a_i : decide (a < i) = true := by simp; omega
          have d_i_mid : decide ((i : Int) < (mid : Int)) = true := by simp; omega
          have d2_i_mid : decide (i < mid) = true := by simp; omega
          have d_mid_e : decide ((mid : Int) < (e : Int)) = false := by simp; omega
          have d2_mid_e : decide (mid < e) = false := by simp; omega
          have NF := HN.out
          have HO0 := Lib.hid (And.intro HN.out HL.out)
          have g1 : i < b := by omega
          have g2 : mid - a ≤ f := by omega
          have g3 : b - mid ≤ f := by omega
          have g4 : mid ≤ n := by omega
          have g5 : e - i ≤ b - a := by omega
          have g6 : e ≤ n := by omega
          have x2 := c2.1
          have y2 := c2.2
          clear hT c1 c2 c3 he he3 NF hq5 
          go_wp2_with fail
          refine (IH.out a i mid _ _ (Lib.hid (HW.out.trans hnr.out)) hr.out HO0.out.1 (by first | assumption | omega) (by first | assumption | omega) (by first | assumption | omega) (by first | assumption | omega) (Lib.hid HO0.out.2)).mono ?_
          rintro e1 w1 ⟨rfl, hr1, hn1, ho1⟩
          have HR1 := Lib.hid hr1
          have HN1 := Lib.hid (hnr.out.trans hn1)
          have HO1 := ho1
          clear hr1 hn1 ho1
          go_wp2_with fail
          go_end0
          refine ⟨rfl, by rw [← HT.out]; exact HR1.out, HN1.out, ?_⟩
          rw [← HT.out]
          first | exact HO1 | exact Lib.hid ⟨HO1.out.1, fun _ _ h => HO1.out.2 _ h⟩
        · have c1 : ¬ (i < m ∧ m < e) := by omega
          have c2 : ¬ (a < i ∧ i < mid) := by omega
          have c3 : ¬ (mid < e ∧ e < b) := by omega
          simp only [if_neg c1, if_neg c2, if_neg c3] at hT
          have HT := Lib.hid hT
          have d_i_m : decide ((i : Int) < (m : Int)) = false := by simp; omega
          have d2_i_m : decide (i < m) = false := by simp; omega
          have d_a_i : decide ((a : Int) < (i : Int)) = true := by simp; omega
          have d2_a_i : decide (a < i) = true := by simp; omega
          have d_i_mid : decide ((i : Int) < (mid : Int)) = false := by simp; omega
          have d2_i_mid : decide (i < mid) = false := by simp; omega
          have d_mid_e : decide ((mid : Int) < (e : Int)) = false := by simp; omega
          have d2_mid_e : decide (mid < e) = false := by simp; omega
          have NF := HN.out
          have HO0 := Lib.hid (And.intro HN.out HL.out)
          have g1 : i < b := by omega
          have g2 : mid - a ≤ f := by omega
          have g3 : b - mid ≤ f := by omega
          have g4 : mid ≤ n := by omega
          have g5 : e - i ≤ b - a := by omega
          have g6 : e ≤ n := by omega
          clear hT c1 c2 c3 he he3 NF hq5 
          go_wp2_with fail
          go_end0
          refine ⟨rfl, by rw [← HT.out]; exact hr.out, hnr.out, ?_⟩
          rw [← HT.out]
          first | exact HO0 | exact Lib.hid ⟨HO0.out.1, fun _ _ h => HO0.out.2 _ h⟩

theorem symm_any (hcap : n ≤ cap) (hn2 : n ≤ 1000000) (HV : Hid (∀ p ∈ L, ∃ a c, p.2 = .slice a p.1.args.length c)) (HC : Hid (∀ p ∈ L, ∀ q ∈ L, ∀ w', Near blk W w' → Calls Tryd.prog 71 #[tv p.1 p.2, tv q.1 q.2, .pointer (some ⟨c, 0, none⟩)] w' fun e w'' => e = .returned (.int .i64 (cf p q)) ∧ Below w'.heap.size w' w'')) : ∀ (f a m b : Nat) (l0 : List PV) (w : World), Hid (Near blk W w) → RowAt w blk l0 pad 24 → l0.length = n → a < m → m < b → b ≤ n → b - a ≤ f → Hid (∀ p ∈ l0, p ∈ L) → Calls Tryd.prog 86 #[.slice (some ⟨blk, 0, none⟩) n cap, .int .i64 a, .int .i64 m, .int .i64 b, .func (.func 71) #[] #[.pointer (some ⟨c, 0, none⟩)]] w fun e w' => e = .returned (.tuple #[]) ∧ RowAt w' blk (symM cf f a m b l0) pad 24 ∧ Near blk w w' ∧ Hid ((symM cf f a m b l0).length = n ∧ ∀ p ∈ symM cf f a m b l0, p ∈ L)
  | 0, a, m, b, l0, w, _, _, _, h1, h2, _, h3, _ => by omega
  | f + 1, a, m, b, l0, w, HW, hrow, hn, ham, hmb, hbn, hbf, HL => by
    by_cases h1 : m - a = 1
    · have h := symm_left blk c n cap a m b cf L l0 pad W w HW hrow hn hcap ham hmb hbn hn2 HV HC HL (by omega)
      rw [symM, if_pos h1]
      exact h
    · by_cases h2 : b - m = 1
      · have h := symm_right blk c n cap a m b cf L l0 pad W w HW hrow hn hcap ham hmb hbn hn2 HV HC HL h1 (by omega)
        rw [symM, if_neg h1, if_pos h2]
        exact h
      · have IH := Lib.hid (symm_any hcap hn2 HV HC f)
        by_cases h3 : (a + b) / 2 < m
        · exact symm_big blk c n cap cf L pad W f IH a m b l0 w HW hrow hn hcap ham hmb hbn hn2 HV HC HL h1 h2 hbf h3
        · exact symm_small blk c n cap cf L pad W f IH a m b l0 w HW hrow hn hcap ham hmb hbn hn2 HV HC HL h1 h2 hbf h3
end

end Go.Proofs.YtehnhjhflaljhaaDoor

/- The stable sort of at most 40 terms. -/
namespace Go.Proofs.YtehnhjhflaljhaaDoor
open Go.RowKit Go.Proofs.HT

theorem symM_front {cf : PV → PV → Int} (ho : OrdC cf) (A B : List PV) (f m b : Nat) (hf : b ≤ f) (hA : A.length = m) (hb : m + B.length = b) (h1 : 0 < m) (h2 : m < b) : symM cf f 0 m b (stL cf A ++ stL cf B) = stL cf (A ++ B) := by
  have h := symM_eq ho f [] (stL cf A) (stL cf B) [] 0 m b (by omega) rfl (by rw [st_length]; omega) (by rw [st_length]; omega) (by rw [st_length]; omega) (by rw [st_length]; omega) (st_sorted ho A) (st_sorted ho B)
  rw [mrg_st ho] at h
  simpa using h
theorem isort_front {cf : PV → PV → Int} (ho : OrdC cf) (Y S : List PV) (b : Nat) (hb : Y.length = b) : isort cf 0 (b - (0 + 1)) (0 + 1) (Y ++ S) = stL cf Y ++ S := by
  have h := isort_seg ho [] Y S 0 b rfl (by omega)
  simpa using h
theorem isort_back {cf : PV → PV → Int} (ho : OrdC cf) (X Y : List PV) (a b : Nat) (ha : X.length = a) (hb : a + Y.length = b) : isort cf a (b - (a + 1)) (a + 1) (X ++ Y) = X ++ stL cf Y := by
  have h := isort_seg ho X Y [] a b ha hb
  simpa using h

/-- The insertion sort of an empty segment. -/
theorem ins_none (blk c n cap a b : Nat) (l0 : List PV) (pad : List Value) (w : World) (hrow : RowAt w blk l0 pad 24) (hab : b ≤ a) (han : a ≤ 1000000) :
    Calls Tryd.prog 85 #[.slice (some ⟨blk, 0, none⟩) n cap, .int .i64 a, .int .i64 b, .func (.func 71) #[] #[.pointer (some ⟨c, 0, none⟩)]] w fun e w' => e = .returned (.tuple #[]) ∧ RowAt w' blk l0 pad 24 ∧ Near blk w w' := by
  have HROW := Lib.hid hrow
  have ha1 : -9223372036854775808 ≤ (a : Int) + 1 := by omega
  have ha2 : (a : Int) + 1 ≤ 9223372036854775807 := by omega
  have d1 : decide ((a : Int) + 1 < (b : Int)) = false := by simp; omega
  have d2 : (b : Int) ≤ (a : Int) + 1 := by omega
  clear hrow
  go_enter Tryd.func85, Tryd.ntmps85
  go_wp2_with fail
  refine wp_loop_rounds 1 ?_
  rw [rounds_succ]
  go_wp2_with fail
  go_end0
  exact ⟨rfl, HROW.out, Near.refl _ _⟩

set_option maxHeartbeats 4000000 in
theorem stable_40 (blk c n cap : Nat) (cf : PV → PV → Int) (ho : OrdC cf) (l0 : List PV) (pad : List Value) (w : World) (hrow : RowAt w blk l0 pad 24) (hn : l0.length = n) (hcap : n ≤ cap) (hn2 : n ≤ 40)
    (HV : Hid (∀ p ∈ l0, ∃ a c, p.2 = .slice a p.1.args.length c))
    (HC : Hid (∀ p ∈ l0, ∀ q ∈ l0, ∀ w', Near blk w w' → Calls Tryd.prog 71 #[tv p.1 p.2, tv q.1 q.2, .pointer (some ⟨c, 0, none⟩)] w' fun e w'' => e = .returned (.int .i64 (cf p q)) ∧ Below w'.heap.size w' w'')) :
    Calls Tryd.prog 70 #[.slice (some ⟨blk, 0, none⟩) n cap, .func (.func 71) #[] #[.pointer (some ⟨c, 0, none⟩)]] w fun e w' => e = .returned (.tuple #[]) ∧ RowAt w' blk (stL cf l0) pad 24 ∧ Near blk w w' := by
  by_cases h20 : n < 20
  · refine (stable_small blk c n cap cf l0 pad w hrow hn hcap h20 HV HC).mono ?_
    rintro e w' ⟨rfl, h1, h2⟩
    have h3 := isort_front ho l0 [] n hn
    simp only [List.append_nil, Nat.zero_add] at h3
    rw [h3] at h1
    exact ⟨rfl, h1, h2⟩
  · have e1 : l0 = l0.take 20 ++ l0.drop 20 := (List.take_append_drop 20 l0).symm
    obtain ⟨A, hA⟩ : ∃ A, l0.take 20 = A := ⟨_, rfl⟩
    obtain ⟨B, hB⟩ : ∃ B, l0.drop 20 = B := ⟨_, rfl⟩
    have lA : A.length = 20 := by rw [← hA, List.length_take]; omega
    have lB : B.length = n - 20 := by rw [← hB, List.length_drop]; omega
    rw [hA, hB] at e1
    clear hA hB
    subst e1
    have HO := Lib.hid ho
    have HLA := Lib.hid lA
    have HLB := Lib.hid lB
    have HI1 : Hid (Calls Tryd.prog 85 #[.slice (some ⟨blk, 0, none⟩) n cap, .int .i64 0, .int .i64 20, .func (.func 71) #[] #[.pointer (some ⟨c, 0, none⟩)]] w fun e w' => e = .returned (.tuple #[]) ∧ RowAt w' blk (stL cf A ++ B) pad 24 ∧ Near blk w w') := by
      have h := ins_any blk c n cap 0 20 cf (A ++ B) pad w hrow hn hcap (by omega) (by omega) (by omega) HV HC
      rw [isort_front ho A B 20 lA] at h
      exact h
    have HI2 : Hid (∀ w1 (k : Int), k = n → Near blk w w1 → RowAt w1 blk (stL cf A ++ B) pad 24 → Calls Tryd.prog 85 #[.slice (some ⟨blk, 0, none⟩) n cap, .int .i64 20, .int .i64 k, .func (.func 71) #[] #[.pointer (some ⟨c, 0, none⟩)]] w1 fun e w' => e = .returned (.tuple #[]) ∧ RowAt w' blk (stL cf A ++ stL cf B) pad 24 ∧ Near blk w1 w') := fun w1 k hk hnr hr => by
      subst hk
      have hm : ∀ p, p ∈ stL cf A ++ B → p ∈ A ++ B := fun p hp => by
        rcases List.mem_append.1 hp with h | h
        · exact List.mem_append_left _ (st_mem.1 h)
        · exact List.mem_append_right _ h
      have h := ins_any blk c n cap 20 n cf (stL cf A ++ B) pad w1 hr (by rw [List.length_append, st_length] at *; exact hn) hcap (Nat.le_refl _) (by omega) (by omega) (Lib.hid (fun p hp => HV.out p (hm p hp))) (Lib.hid (fun p hp q hq w' h3 => HC.out p (hm p hp) q (hm q hq) w' (hnr.trans h3)))
      rw [isort_back ho (stL cf A) B 20 n (by rw [st_length]; exact lA) (by omega)] at h
      exact h
    have HM : Hid (∀ w1 (k : Int), k = n → 20 < n → Near blk w w1 → RowAt w1 blk (stL cf A ++ stL cf B) pad 24 → Calls Tryd.prog 86 #[.slice (some ⟨blk, 0, none⟩) n cap, .int .i64 0, .int .i64 20, .int .i64 k, .func (.func 71) #[] #[.pointer (some ⟨c, 0, none⟩)]] w1 fun e w' => e = .returned (.tuple #[]) ∧ RowAt w' blk (stL cf (A ++ B)) pad 24 ∧ Near blk w1 w') := fun w1 k hk h20 hnr hr => by
      subst hk
      have hm : ∀ p, p ∈ stL cf A ++ stL cf B → p ∈ A ++ B := fun p hp => by
        rcases List.mem_append.1 hp with h | h
        · exact List.mem_append_left _ (st_mem.1 h)
        · exact List.mem_append_right _ (st_mem.1 h)
      have h := symm_any blk c n cap cf (A ++ B) pad w hcap (by omega) HV HC n 0 20 n (stL cf A ++ stL cf B) w1 (Lib.hid hnr) hr (by rw [List.length_append, st_length, st_length] at *; exact hn) (by omega) h20 (Nat.le_refl _) (by omega) (Lib.hid hm)
      rw [symM_front ho A B n 20 n (Nat.le_refl _) lA (by omega) (by omega) h20] at h
      exact h.mono fun e w' h2 => ⟨h2.1, h2.2.1, h2.2.2.1⟩
    have h2 : Calls Tryd.prog 83 #[.slice (some ⟨blk, 0, none⟩) n cap, .int .i64 n, .func (.func 71) #[] #[.pointer (some ⟨c, 0, none⟩)]] w fun e w' => e = .returned (.tuple #[]) ∧ RowAt w' blk (stL cf (A ++ B)) pad 24 ∧ Near blk w w' := by
      clear hrow hn HV HC lA lB
      have d1 : decide ((20 : Int) ≤ (n : Int)) = true := by simp; omega
      have d6 : decide ((60 : Int) ≤ (n : Int)) = false := by simp; omega
      have d6' : ¬ (60 : Int) ≤ (n : Int) := by omega
      have d1' : (20 : Int) ≤ (n : Int) := by omega
      have d7 : decide ((80 : Int) ≤ (n : Int)) = false := by simp; omega
      have d7' : ¬ (80 : Int) ≤ (n : Int) := by omega
      have d8 : decide ((40 : Int) < (n : Int)) = false := by simp; omega
      have d8' : ¬ (40 : Int) < (n : Int) := by omega
      have d9 : decide ((60 : Int) < (n : Int)) = false := by simp; omega
      have d9' : ¬ (60 : Int) < (n : Int) := by omega
      by_cases h40 : n = 40
      · have HE := Lib.hid h40
        have d2 : decide ((40 : Int) ≤ (n : Int)) = true := by simp; omega
        have d3 : decide ((20 : Int) < (n : Int)) = true := by simp; omega
        have HN4 : Hid (∀ w1, RowAt w1 blk (stL cf A ++ stL cf B) pad 24 → Calls Tryd.prog 85 #[.slice (some ⟨blk, 0, none⟩) n cap, .int .i64 40, .int .i64 n, .func (.func 71) #[] #[.pointer (some ⟨c, 0, none⟩)]] w1 fun e w' => e = .returned (.tuple #[]) ∧ RowAt w' blk (stL cf A ++ stL cf B) pad 24 ∧ Near blk w1 w') := fun w1 hr => by
          have hl : (stL cf A ++ stL cf B).length = n := by rw [List.length_append, st_length, st_length, HLA.out, HLB.out]; omega
          have h := ins_none blk c n cap 40 n (stL cf A ++ stL cf B) pad w1 hr (by omega) (by omega)
          exact h
        have d2' : (40 : Int) ≤ (n : Int) := by omega
        have d3' : (20 : Int) < (n : Int) := by omega
        clear h40 h20
        go_enter Tryd.func83, Tryd.ntmps83
        go_wp2_with fail
        refine wp_loop_rounds 3 ?_
        rw [rounds_succ]
        go_wp2_with fail
        refine HI1.out.mono ?_
        rintro e w1 ⟨rfl, hr1, hn1⟩
        have R1 := Lib.hid hr1
        have N1 := Lib.hid hn1
        clear hr1 hn1
        go_wp2_with fail
        rw [rounds_succ]
        go_wp2_with fail
        refine (HI2.out _ _ (by have := HE.out; omega) N1.out R1.out).mono ?_
        rintro e w2 ⟨rfl, hr2, hn2⟩
        have R2 := Lib.hid hr2
        have N2 := Lib.hid (N1.out.trans hn2)
        clear hr2 hn2
        go_wp2_with fail
        rw [rounds_succ]
        go_wp2_with fail
        refine (HN4.out _ R2.out).mono ?_
        rintro e w3 ⟨rfl, hr3, hn3⟩
        have R3 := Lib.hid hr3
        have N3 := Lib.hid (N2.out.trans hn3)
        clear hr3 hn3
        go_wp2_with fail
        refine wp_loop_rounds 2 ?_
        rw [rounds_succ]
        go_wp2_with fail
        refine wp_loop_rounds 2 ?_
        rw [rounds_succ]
        go_wp2_with fail
        refine (HM.out _ _ (by have := HE.out; omega) (by have := HE.out; omega) N3.out R3.out).mono ?_
        rintro e w4 ⟨rfl, hr4, hn4⟩
        have R4 := Lib.hid hr4
        have N4 := Lib.hid (N3.out.trans hn4)
        clear hr4 hn4
        go_wp2_with fail
        rw [rounds_succ]
        go_wp2_with fail
        rw [rounds_succ]
        go_wp2_with fail
        go_end0
        exact ⟨rfl, R4.out, N4.out⟩
      · have d2 : decide ((40 : Int) ≤ (n : Int)) = false := by simp; omega
        have d2' : ¬ (40 : Int) ≤ (n : Int) := by omega
        by_cases h20' : n = 20
        · have hB0 : B = [] := List.length_eq_zero_iff.1 (by have := HLB.out; omega)
          have HE2 : Hid (stL cf A ++ stL cf B = stL cf (A ++ B)) := by show _ = _; rw [hB0]; simp [stL, foldI]
          have d3 : decide ((20 : Int) < (n : Int)) = false := by simp; omega
          have d3' : ¬ (20 : Int) < (n : Int) := by omega
          clear hB0 h40 h20 h20'
          go_enter Tryd.func83, Tryd.ntmps83
          go_wp2_with fail
          refine wp_loop_rounds 2 ?_
          rw [rounds_succ]
          go_wp2_with fail
          refine HI1.out.mono ?_
          rintro e w1 ⟨rfl, hr1, hn1⟩
          have R1 := Lib.hid hr1
          have N1 := Lib.hid hn1
          clear hr1 hn1
          go_wp2_with fail
          rw [rounds_succ]
          go_wp2_with fail
          refine (HI2.out _ _ rfl N1.out R1.out).mono ?_
          rintro e w2 ⟨rfl, hr2, hn2⟩
          have R2 := Lib.hid hr2
          have N2 := Lib.hid (N1.out.trans hn2)
          clear hr2 hn2
          go_wp2_with fail
          refine wp_loop_rounds 1 ?_
          rw [rounds_succ]
          go_wp2_with fail
          go_end0
          exact ⟨rfl, by rw [← HE2.out]; exact R2.out, N2.out⟩
        · have d3 : decide ((20 : Int) < (n : Int)) = true := by simp; omega
          have d3' : (20 : Int) < (n : Int) := by omega
          have d4 : 20 < n := by omega
          clear h40 h20 h20'
          go_enter Tryd.func83, Tryd.ntmps83
          go_wp2_with fail
          refine wp_loop_rounds 2 ?_
          rw [rounds_succ]
          go_wp2_with fail
          refine HI1.out.mono ?_
          rintro e w1 ⟨rfl, hr1, hn1⟩
          have R1 := Lib.hid hr1
          have N1 := Lib.hid hn1
          clear hr1 hn1
          go_wp2_with fail
          rw [rounds_succ]
          go_wp2_with fail
          refine (HI2.out _ _ rfl N1.out R1.out).mono ?_
          rintro e w2 ⟨rfl, hr2, hn2⟩
          have R2 := Lib.hid hr2
          have N2 := Lib.hid (N1.out.trans hn2)
          clear hr2 hn2
          go_wp2_with fail
          refine wp_loop_rounds 2 ?_
          rw [rounds_succ]
          go_wp2_with fail
          refine wp_loop_rounds 1 ?_
          rw [rounds_succ]
          go_wp2_with fail
          refine (HM.out _ _ rfl d4 N2.out R2.out).mono ?_
          rintro e w4 ⟨rfl, hr4, hn4⟩
          have R4 := Lib.hid hr4
          have N4 := Lib.hid (N2.out.trans hn4)
          clear hr4 hn4
          go_wp2_with fail
          rw [rounds_succ]
          go_wp2_with fail
          go_end0
          exact ⟨rfl, R4.out, N4.out⟩
    have H2 := Lib.hid h2
    clear h2 hrow hn HV HC lA lB
    go_enter Tryd.func70, Tryd.ntmps70
    go_wp2_with (first | (go_at_call 83; refine H2.out.mono ?_; rintro e w1 ⟨rfl, hr, hnr⟩))
    go_end0
    exact ⟨rfl, hr, hnr⟩

end Go.Proofs.YtehnhjhflaljhaaDoor

/- Rows that came in, rows of the call's own; few, the specification's valid, key, insert. -/
namespace Go.Proofs.YtehnhjhflaljhaaDoor
open Go.RowKit Go.Proofs.HT

/-- A row of terms, given by its value; one of the call's own. -/
def RowV (w : World) (v : Value) (l : List PV) : Prop := (l = [] ∧ v = .slice none 0 0) ∨ (0 < l.length ∧ ∃ b off cap, v = .slice (some ⟨b, off, none⟩) l.length cap ∧ l.length ≤ cap ∧ RowIn w b off l)
def OwnV (w : World) (base : Nat) (v : Value) (l : List PV) : Prop := (l = [] ∧ v = .slice none 0 0) ∨ (0 < l.length ∧ ∃ g cap pad, v = .slice (some ⟨g, 0, none⟩) l.length cap ∧ l.length ≤ cap ∧ base ≤ g ∧ RowAt w g l pad 24)
def OwnE (l : List PV) (w : World) (e : Ending) (w' : World) : Prop := ∃ v', e = .returned v' ∧ OwnV w' w.heap.size v' l ∧ Below w.heap.size w w'
theorem RowV.below {w w' : World} {v : Value} {l : List PV} (h : RowV w v l) (hb : Below w.heap.size w w') : RowV w' v l := by
  rcases h with h | ⟨h0, b, off, cap, h1, h2, h3⟩
  · exact .inl h
  · exact .inr ⟨h0, b, off, cap, h1, h2, h3.below hb⟩
theorem OwnV.row {w : World} {base : Nat} {v : Value} {l : List PV} (h : OwnV w base v l) : RowV w v l := by
  rcases h with h | ⟨h0, g, cap, pad, h1, h2, _, h4⟩
  · exact .inl h
  · exact .inr ⟨h0, g, 0, cap, h1, h2, RowAt.rowIn h4⟩
theorem OwnV.of_own {w : World} {base : Nat} {v : Value} {n : Nat} {l : List PV} (h : w.ownsRow base 24 4 v n (flat l)) (hn : l.length = n) (h0 : n = 0 → v = .slice none 0 0) : OwnV w base v l := by
  by_cases hz : n = 0
  · exact .inl ⟨List.length_eq_zero_iff.1 (by omega), h0 hz⟩
  · obtain ⟨g, cap, pad, e, h1, h2, h3⟩ := row_of_own h (by rintro rfl; rcases h.2 with h2 | ⟨_, _, _, h2, _⟩; · exact hz h2.2
                                                            · cases h2) hn
    exact .inr ⟨by omega, g, cap, pad, by rw [hn]; exact e, by omega, h2, h3⟩
theorem own_none (w : World) (base : Nat) : w.ownsRow base 24 4 (.slice none 0 0) 0 (flat []) := ⟨rfl, .inl ⟨rfl, rfl⟩⟩
theorem own_below {w w' : World} {base : Nat} {v : Value} {n : Nat} {xs : List Value} (h : w.ownsRow base 24 4 v n xs) (hg : w.grownBy w' v.ownBlock) (hb : base ≤ w.heap.size) : Below base w w' :=
  (Below.refl base w).grown hg hb (fun k hk => by
    rcases h.2 with h2 | ⟨g, cap, cur, e, h3, _⟩
    · rw [h2.1] at hk; simp [Value.ownBlock] at hk
    · rw [e] at hk; simp [Value.ownBlock] at hk; omega)
theorem wp_app {ops : Array Oper} {rest : List Oper} {o : Oper} {a : Act} {Q : Exit → Act → World → Prop} (hgd : o.guard = none) (s x : Operand) (ho : o.op = .call { callee := .builtin .append, args := #[s, x], argTypes := #[22, 22] }) (w : World)
    (base n : Nat) (v : Value) (l m : List PV) (hs : a.eval s = v) (hown : Hid (w.ownsRow base 24 4 v n (flat l))) (ad : Addr) (k c : Nat) (hx : a.eval x = .slice (some ad) k c) (hk : m.length = k)
    (hm : Hid (∀ j u, (flat m)[j]? = some u → w.cell? (ad.add j) = some u)) (h1 : Hid (∀ p ∈ m, ∃ a c, p.2 = .slice a p.1.args.length c)) (hsz : n + k ≤ 1000000) (hbase : base ≤ w.heap.size)
    (h : ∀ v' w', Hid (w'.ownsRow base 24 4 v' (n + k) (flat (l ++ m))) → Hid (Below base w w') → Hid (v' = .slice none 0 0 ↔ v = .slice none 0 0 ∧ k = 0) → wpList Tryd.prog ops Q rest (a.put o.dst v') w') : wpList Tryd.prog ops Q (o :: rest) a w := by
  obtain ⟨i0, hi0, hz0, hz1, hz2⟩ := info_parts info24
  refine wpList_append_own w hgd s x 22 ho base 24 i0 _ 4 56 under22 hi0 hz0 hz1 hz2 rfl (by omega) v n (flat l) hs hown.out ad k c (flat m) hx (by rw [flat_length, hk]) hm.out (flat_one m h1.out) (by simp only [maxLen]; omega) (by omega) hbase ?_
  intro v' w' h2 h3 h4
  refine h v' w' (Lib.hid ?_) (Lib.hid (own_below hown.out h3 hbase)) (Lib.hid h4)
  rw [flat_append]; exact h2
theorem slices_of {w : World} {l : List PV} (h : ∀ p ∈ l, LiesT w p.1 p.2) : ∀ p ∈ l, ∃ a c, p.2 = .slice a p.1.args.length c := fun p hp => (h p hp).slice
theorem RowIn.sub {w : World} {b off : Nat} {l : List PV} (h : RowIn w b off l) (k m : Nat) : ∀ j u, (flat ((l.drop k).take m))[j]? = some u → w.cell? ⟨b, off + k * 4 + j, none⟩ = some u := fun j u hj => by
  have h1 : (flat l)[k * 4 + j]? = some u := by
    have e : flat l = flat (l.take k) ++ (flat ((l.drop k).take m) ++ flat ((l.drop k).drop m)) := by rw [← flat_append, ← flat_append, List.take_append_drop, List.take_append_drop]
    have hlt := (List.getElem?_eq_some_iff.1 hj).1
    by_cases hk : k ≤ l.length
    · have hlen : (flat (l.take k)).length = k * 4 := by rw [flat_length, List.length_take, Nat.min_eq_left hk]
      rw [e, List.getElem?_append_right (by omega), hlen, show k * 4 + j - k * 4 = j by omega, List.getElem?_append_left hlt]
      exact hj
    · have : l.drop k = [] := List.drop_eq_nil_iff.2 (by omega)
      rw [this] at hj; simp [flat] at hj
  have h2 := h _ u h1
  rw [show off + (k * 4 + j) = off + k * 4 + j by omega] at h2
  exact h2

set_option maxHeartbeats 2000000 in
theorem rvalid_row (b off n cap : Nat) (l : List PV) (w : World) (hn : l.length = n) (hn2 : n ≤ 1000000) (_hcap : n ≤ cap) (hrow : RowIn w b off l) (hl : ∀ p ∈ l, LiesT w p.1 p.2) :
    Calls Tryd.prog 47 #[.slice (some ⟨b, off, none⟩) n cap] w fun e w' => e = .returned (.bool (l.all fun p => validB p.1)) ∧ Below w.heap.size w w' := by
  obtain ⟨R, hR⟩ : ∃ R, (l.all fun p => validB p.1) = R := ⟨_, rfl⟩
  rw [hR]
  have HRR := Lib.hid hR
  have HN := Lib.hid hn
  have HL := Lib.hid hl
  have HR := Lib.hid hrow
  clear hR hn hl hrow
  go_enter Tryd.func47, Tryd.ntmps47
  go_wp2_with fail
  go_loopw [3] (fun i wr => ∃ j : Nat, j ≤ n ∧ i = .int .i64 j ∧ Hid (Below w.heap.size w wr) ∧ Hid (∀ k (h : k < l.length), k < j → validB l[k].1 = true)) (fun i _ => n - (intOf i).toNat)
  case atStart => exact ⟨0, by omega, rfl, Lib.hid (Below.refl _ _), Lib.hid (fun _ _ h => by omega)⟩
  case round =>
    obtain ⟨j, hj, rfl, hb, hz⟩ := hrel
    by_cases hlt : j < n
    · have hjl : j < l.length := by have := HN.out; omega
      obtain ⟨d0, d1, d2, d3⟩ := (HR.out.below hb.out).at j hjl
      have hF := valid_any l[j].1 l[j].2 wr ((HL.out _ (List.getElem_mem hjl)).below hb.out)
      obtain ⟨q, hq⟩ : ∃ q, validB l[j].1 = q := ⟨_, rfl⟩
      rw [hq] at hF
      have HFF := Lib.hid hF
      have HQ := Lib.hid hq
      clear hF hq
      cases q
      · have HE : Hid (R = false) := by
          show _ = _
          rw [← HRR.out, ← Bool.not_eq_true, List.all_eq_true]
          intro h; have := h l[j] (List.getElem_mem hjl); rw [HQ.out] at this; cases this
        go_wp2_with (first | (go_at_call 31; refine HFF.out.mono ?_; rintro e w1 ⟨rfl, hb1⟩))
        go_ret
        exact ⟨ret_bool HE.out.symm, hb.out.trans (hb1.mono hb.out.size)⟩
      · go_wp2_with (first | (go_at_call 31; refine HFF.out.mono ?_; rintro e w1 ⟨rfl, hb1⟩))
        go_roundw
        case rel =>
          refine ⟨j + 1, by omega, by go_num, Lib.hid (hb.out.trans (hb1.mono hb.out.size)), Lib.hid (fun k h h2 => ?_)⟩
          by_cases e : k = j
          · subst e; exact HQ.out
          · exact hz.out k h (by omega)
        case measure => simp [intOf]; omega
    · have HE : Hid (R = true) := by
        show _ = _
        rw [← HRR.out, List.all_eq_true]
        intro p hp
        obtain ⟨k, hk, rfl⟩ := List.mem_iff_getElem.1 hp
        exact hz.out k hk (by have := HN.out; omega)
      go_wp2_with fail
      go_ret
      exact ⟨ret_bool HE.out.symm, hb.out⟩
theorem rvalid_v (v : Value) (l : List PV) (w : World) (h : RowV w v l) (hn2 : l.length ≤ 1000000) (hl : ∀ p ∈ l, LiesT w p.1 p.2) :
    Calls Tryd.prog 47 #[v] w fun e w' => e = .returned (.bool (l.all fun p => validB p.1)) ∧ Below w.heap.size w w' := by
  rcases h with ⟨rfl, rfl⟩ | ⟨h0, b, off, cap, rfl, h2, h3⟩
  · clear hn2 hl
    go_enter Tryd.func47, Tryd.ntmps47
    go_wp2_with fail
    refine wp_loop_rounds 1 ?_
    rw [rounds_succ]
    go_wp2_with fail
    go_ret
    exact ⟨rfl, Below.refl _ _⟩
  · exact rvalid_row b off _ cap l w rfl hn2 h2 h3 hl

set_option maxHeartbeats 2000000 in
theorem lvalidq_row (b off n cap : Nat) (l : List PV) (w : World) (hn : l.length = n) (hn2 : n ≤ 1000000) (_hcap : n ≤ cap) (hrow : RowIn w b off l) (hl : ∀ p ∈ l, LiesT w p.1 p.2) :
    Calls Tryd.prog 23 #[.slice (some ⟨b, off, none⟩) n cap] w fun e w' => e = .returned (.bool (l.all fun p => validB p.1)) ∧ Below w.heap.size w w' := by
  obtain ⟨R, hR⟩ : ∃ R, (l.all fun p => validB p.1) = R := ⟨_, rfl⟩
  rw [hR]
  have HRR := Lib.hid hR
  have HN := Lib.hid hn
  have HL := Lib.hid hl
  have HR := Lib.hid hrow
  clear hR hn hl hrow
  go_enter Tryd.func23, Tryd.ntmps23
  go_wp2_with fail
  go_loopw [3] (fun i wr => ∃ j : Nat, j ≤ n ∧ i = .int .i64 j ∧ Hid (Below w.heap.size w wr) ∧ Hid (∀ k (h : k < l.length), k < j → validB l[k].1 = true)) (fun i _ => n - (intOf i).toNat)
  case atStart => exact ⟨0, by omega, rfl, Lib.hid (Below.refl _ _), Lib.hid (fun _ _ h => by omega)⟩
  case round =>
    obtain ⟨j, hj, rfl, hb, hz⟩ := hrel
    by_cases hlt : j < n
    · have hjl : j < l.length := by have := HN.out; omega
      obtain ⟨d0, d1, d2, d3⟩ := (HR.out.below hb.out).at j hjl
      have hF := valid_any l[j].1 l[j].2 wr ((HL.out _ (List.getElem_mem hjl)).below hb.out)
      obtain ⟨q, hq⟩ : ∃ q, validB l[j].1 = q := ⟨_, rfl⟩
      rw [hq] at hF
      have HFF := Lib.hid hF
      have HQ := Lib.hid hq
      clear hF hq
      cases q
      · have HE : Hid (R = false) := by
          show _ = _
          rw [← HRR.out, ← Bool.not_eq_true, List.all_eq_true]
          intro h; have := h l[j] (List.getElem_mem hjl); rw [HQ.out] at this; cases this
        go_wp2_with (first | (go_at_call 31; refine HFF.out.mono ?_; rintro e w1 ⟨rfl, hb1⟩))
        go_ret
        exact ⟨ret_bool HE.out.symm, hb.out.trans (hb1.mono hb.out.size)⟩
      · go_wp2_with (first | (go_at_call 31; refine HFF.out.mono ?_; rintro e w1 ⟨rfl, hb1⟩))
        go_roundw
        case rel =>
          refine ⟨j + 1, by omega, by go_num, Lib.hid (hb.out.trans (hb1.mono hb.out.size)), Lib.hid (fun k h h2 => ?_)⟩
          by_cases e : k = j
          · subst e; exact HQ.out
          · exact hz.out k h (by omega)
        case measure => simp [intOf]; omega
    · have HE : Hid (R = true) := by
        show _ = _
        rw [← HRR.out, List.all_eq_true]
        intro p hp
        obtain ⟨k, hk, rfl⟩ := List.mem_iff_getElem.1 hp
        exact hz.out k hk (by have := HN.out; omega)
      go_wp2_with fail
      go_ret
      exact ⟨ret_bool HE.out.symm, hb.out⟩
theorem lvalidq_v (v : Value) (l : List PV) (w : World) (h : RowV w v l) (hn2 : l.length ≤ 1000000) (hl : ∀ p ∈ l, LiesT w p.1 p.2) :
    Calls Tryd.prog 23 #[v] w fun e w' => e = .returned (.bool (l.all fun p => validB p.1)) ∧ Below w.heap.size w w' := by
  rcases h with ⟨rfl, rfl⟩ | ⟨h0, b, off, cap, rfl, h2, h3⟩
  · clear hn2 hl
    go_enter Tryd.func23, Tryd.ntmps23
    go_wp2_with fail
    refine wp_loop_rounds 1 ?_
    rw [rounds_succ]
    go_wp2_with fail
    go_ret
    exact ⟨rfl, Below.refl _ _⟩
  · exact lvalidq_row b off _ cap l w rfl hn2 h2 h3 hl

set_option maxHeartbeats 2000000 in
theorem few_row (b off n cap : Nat) (l : List PV) (w : World) (hn : l.length = n) (hnb : n ≤ 9223372036854775807) (_hcap : n ≤ cap) (hrow : RowIn w b off l) (hl : ∀ p ∈ l, LiesT w p.1 p.2) :
    Calls Tryd.prog 15 #[.slice (some ⟨b, off, none⟩) n cap] w (OwnE (l.take 40) w) := by
  have HN := Lib.hid hn
  have HR := Lib.hid hrow
  have HV := Lib.hid (slices_of hl)
  clear hn hrow hl
  go_enter Tryd.func15, Tryd.ntmps15
  go_wp2_with fail
  go_loopw [3, 4] (fun vq vi wr => ∃ (j : Nat) (vo : Value), vo = vq ∧ j ≤ n ∧ j ≤ 40 ∧ vi = .int .i64 j ∧ Hid (wr.ownsRow w.heap.size 24 4 vo j (flat (l.take j))) ∧ Hid (j = 0 → vo = .slice none 0 0) ∧ Hid (Below w.heap.size w wr)) (fun _ vi _ => 40 - (intOf vi).toNat)
  case atStart => exact ⟨0, _, rfl, by omega, by omega, rfl, Lib.hid (own_none _ _), Lib.hid (fun _ => rfl), Lib.hid (Below.refl _ _)⟩
  case round =>
    obtain ⟨j, vo, rfl, hj, hj4, rfl, hown, hz, hb⟩ := hrel
    by_cases hlt : j < n
    · by_cases hlt4 : j < 40
      · have hjl : j < l.length := by have := HN.out; omega
        obtain ⟨d0, d1, d2, d3⟩ := (HR.out.below hb.out).at j hjl
        obtain ⟨pp, hpe⟩ : ∃ p, l[j] = p := ⟨_, rfl⟩
        have mp := HV.out _ (List.getElem_mem hjl)
        rw [hpe] at d0 d1 d2 d3 mp
        obtain ⟨tp, vp⟩ := pp
        obtain ⟨pa, pc, ev⟩ := mp
        obtain rfl : vp = .slice pa tp.args.length pc := ev
        have HTK : Hid (l.take (j + 1) = l.take j ++ [(tp, .slice pa tp.args.length pc)]) := by
          show _ = _
          rw [List.take_succ_eq_append_getElem hjl, hpe]
        have f1 : decide ((j : Int) < (n : Int)) = true := by simp; omega
        have f2 : decide ((j : Int) < 40) = true := by simp; omega
        have f3 : (j : Int) < 40 := by omega
        have HW1 : Hid (Below w.heap.size w (wr.alloc (.cells #[.int .i64 tp.kind, .int .i64 tp.num, .string tp.name, .slice pa tp.args.length pc] 24))) := Lib.hid (hb.out.alloc hb.out.size _)
        have HO1 : Hid ((wr.alloc (.cells #[.int .i64 tp.kind, .int .i64 tp.num, .string tp.name, .slice pa tp.args.length pc] 24)).ownsRow w.heap.size 24 4 vo j (flat (l.take j))) := Lib.hid (hown.out.alloc _)
        have HRN : Hid (∀ q u, (flat [(tp, (.slice pa tp.args.length pc : Value))])[q]? = some u → (wr.alloc (.cells #[.int .i64 tp.kind, .int .i64 tp.num, .string tp.name, .slice pa tp.args.length pc] 24)).cell? (Addr.add ⟨wr.heap.size, 0, none⟩ q) = some u) := fun q u hq => by
          rw [Addr.add_lit]; exact row_new (w := wr) #[.int .i64 tp.kind, .int .i64 tp.num, .string tp.name, .slice pa tp.args.length pc] [(tp, .slice pa tp.args.length pc)] 24 rfl q u hq
        have HV1 : Hid (∀ p ∈ [(tp, (.slice pa tp.args.length pc : Value))], ∃ a c, p.2 = .slice a p.1.args.length c) := fun p hp => by obtain rfl := List.mem_singleton.1 hp; exact ⟨_, _, rfl⟩
        have hbs := HW1.out.size
        clear hpe hown hjl
        go_wp2_with (at_builtin; refine wp_app rfl _ _ rfl _ w.heap.size j vo (l.take j) [(tp, .slice pa tp.args.length pc)] rfl HO1 ⟨wr.heap.size, 0, none⟩ 1 1 rfl rfl HRN HV1 (by omega) hbs ?_; intro v1 w1 hown1 hb1 hz1)
        go_roundw
        case rel =>
          refine ⟨j + 1, v1, rfl, by omega, by omega, by go_num, Lib.hid (by rw [HTK.out]; exact hown1.out), Lib.hid (fun h => by omega), Lib.hid (HW1.out.trans hb1.out)⟩
        case measure => simp [intOf]; omega
      · have f1 : decide ((j : Int) < (n : Int)) = true := by simp; omega
        have f2 : decide ((j : Int) < 40) = false := by simp; omega
        have f3 : ¬ (j : Int) < 40 := by omega
        have HE : Hid (j = 40) := by show _ = _; omega
        go_wp2_with fail
        go_ret
        exact ⟨vo, rfl, OwnV.of_own (by rw [← HE.out]; exact hown.out) (by rw [List.length_take]; have := HN.out; omega) hz.out, hb.out⟩
    · have f1 : decide ((j : Int) < (n : Int)) = false := by simp; omega
      have HE : Hid (j = n) := by show _ = _; omega
      go_wp2_with fail
      go_ret
      exact ⟨vo, rfl, OwnV.of_own (n := j) (by rw [List.take_of_length_le (by have := HN.out; omega)]; have h := hown.out; rw [List.take_of_length_le (by have := HN.out; have := HE.out; omega)] at h; exact h) (by rw [List.length_take]; have := HN.out; have := HE.out; omega) hz.out, hb.out⟩
theorem few_none (w : World) : Calls Tryd.prog 15 #[.slice none 0 0] w (OwnE [] w) := by
  go_enter Tryd.func15, Tryd.ntmps15
  go_wp2_with fail
  refine wp_loop_rounds 1 ?_
  rw [rounds_succ]
  go_wp2_with fail
  go_ret
  exact ⟨_, rfl, .inl ⟨rfl, rfl⟩, Below.refl _ _⟩
theorem few_v (v : Value) (l : List PV) (w : World) (h : RowV w v l) (hn : l.length ≤ 9223372036854775807) (hl : ∀ p ∈ l, LiesT w p.1 p.2) : Calls Tryd.prog 15 #[v] w (OwnE (l.take 40) w) := by
  rcases h with ⟨rfl, rfl⟩ | ⟨h0, b, off, cap, rfl, h2, h3⟩
  · exact few_none w
  · exact few_row b off _ cap l w rfl hn h2 h3 hl

end Go.Proofs.YtehnhjhflaljhaaDoor
