/- The law TermListed. -/
import Derived.Test.YtdgflagafilobaaD7
import Derived.Test.YtdgflagafilobaaM2
namespace Go.Proofs.Ytdgflagafilobaa
open Go.RowKit Go.Proofs.HT

theorem valid_is (t : Tm) (v : Value) (b : Bool) (hb : validB t = b) (w : World) (h : LiesT w t v) : Calls Try.prog 34 #[tv t v] w fun e w' => e = .returned (.bool b) ∧ Below w.heap.size w w' := by
  subst hb; exact valid_any t v w h
theorem size_is (t : Tm) (n : Nat) (hs : cntM t 2001 = n) (v : Value) (w : World) (h : LiesT w t v) : Calls Try.prog 35 #[tv t v] w fun e w' => e = .returned (.int .i64 n) ∧ Below w.heap.size w w' := by
  rw [← hs]; exact size_any t v w h
theorem cntM_valid (t : Tm) (h : validB t = true) : cntM t 2001 = cnt t := by
  have h2 := (validB_nodes h).2
  unfold cntM; omega
/-- A row of terms as the walk reads it. -/
theorem row_read {w : World} {ts : List Tm} {v : Value} (h : LiesA w ts v) : ∃ a c, v = .slice a ts.length c ∧ ts.length ≤ 9223372036854775807 ∧ ∀ (i : Nat) (hi : i < ts.length), ∃ b o u, a = some ⟨b, o, none⟩ ∧ w.cell? ⟨b, o + i * 4, none⟩ = some (.int .i64 ts[i].kind) ∧
    w.cell? ⟨b, o + i * 4 + 1, none⟩ = some (.int .i64 ts[i].num) ∧ w.cell? ⟨b, o + i * 4 + 2, none⟩ = some (.string ts[i].name) ∧ w.cell? ⟨b, o + i * 4 + 3, none⟩ = some u ∧ LiesT w ts[i] u := by
  rcases LiesT.len h with ⟨rfl, a, c, rfl⟩ | ⟨b, o, cap, rfl, hz, hl, hc, hL⟩
  · exact ⟨a, c, rfl, by simp, fun i hi => absurd hi (by simp)⟩
  · refine ⟨some ⟨b, o, none⟩, cap, rfl, by omega, fun i hi => ?_⟩
    obtain ⟨u, c0, c1, c2, c3, hu⟩ := hL.at i hi
    exact ⟨b, o, u, rfl, c0, c1, c2, c3, hu⟩
theorem Elems_is (t : Tm) (hv : validB t = true) (K : List Tm) (U : Tm) (hE : elemsT t = (K, U)) (v : Value) (w : World) (h : LiesT w t v) : Calls Try.prog 36 #[tv t v] w fun e w' =>
    ∃ (a : Option Addr) (c : Nat) (b : Option Addr) (n d : Nat), e = .returned (.tuple #[.slice a K.length c, tv U (.slice b n d)]) ∧ LiesA w' K (.slice a K.length c) ∧ LiesT w' U (.slice b n d) ∧ Below w.heap.size w w' := by
  have h1 := Elems_any t v w h
  rw [if_pos hv] at h1
  refine h1.mono ?_
  rintro e w' ⟨x, y, rfl, hx, hy, hb⟩
  rw [hE] at hx hy ⊢
  obtain ⟨a, c, rfl⟩ : ∃ a c, x = .slice a K.length c := LiesT.slice hx
  obtain ⟨b, d, rfl⟩ := LiesT.slice hy
  exact ⟨a, c, b, _, d, rfl, hx, hy, hb⟩

set_option maxHeartbeats 4000000 in
theorem listed_no (HA : Awake) (ts : List Tm) (T : Tm) (lv v : Value) (w : World) (hl : LiesA w ts lv) (hT : LiesT w T v) (hval : validB T = false) : Calls Try.prog 8 #[lv, tv T v] w fun e w' => e = .returned (.bool true) ∧ Below w.heap.size w w' := by
  have HA := Lib.hid HA
  have E0 := Lib.hid ((((Env.start w).pushT hl).pushT hT).box rfl (.int .i64 T.kind) (.int .i64 T.num) (.string T.name) v 24)
  obtain ⟨la, lc, rfl, hmax, _⟩ := row_read hl
  have HVT := Lib.hid hval
  clear hl hT hval
  simp only [tv]
  go_enter Try.func8, Try.ntmps8
  go_wp2_with fail
  refine (List_v ts T _ v _ E0.out.t.tl.hd E0.out.t.hd).mono ?_
  rintro e w1 ⟨y, rfl, hy, hb1⟩
  obtain ⟨Q, hQ⟩ : ∃ Q, (if validB (listT ts T) = true then listT ts T else z0) = Q := ⟨_, rfl⟩
  rw [hQ] at hy ⊢
  have HQ := Lib.hid hQ
  have hly := OwnT.lies _ _ hy
  obtain ⟨ya, yc, rfl⟩ := hly.slice
  have E1 := Lib.hid ((E0.out.step hb1).pushT hly)
  have E2 := Lib.hid (E1.out.box (g := w1.heap.size) rfl (.int .i64 Q.kind) (.int .i64 Q.num) (.string Q.name) (.slice ya Q.args.length yc) 24)
  have t0 := E1.out.c.hd
  have t1 := E1.out.c.tl.hd
  have t2 := E1.out.c.tl.tl.hd
  have t3 := E1.out.c.tl.tl.tl.hd
  have zb := World.block_lt_of_cell? _ _ t0
  clear hb1 hy hly hQ E0 E1
  go_wp2_with fail
  refine (valid_is T v false HVT.out _ E2.out.t.tl.hd).mono ?_
  rintro e w2 ⟨rfl, hb2⟩
  have E3 := Lib.hid (E2.out.step hb2)
  have BB := Lib.hid E3.out.b
  clear hb2 E2 t0 t1 t2 t3 zb
  go_wp2_with fail
  refine (HA.out _).mono ?_
  rintro e wa ⟨rfl, hba⟩
  go_wp2_with fail
  go_ret
  exact ⟨rfl, BB.out.trans (hba.mono BB.out.size)⟩

set_option maxHeartbeats 4000000 in
theorem listed_long (HA : Awake) (ts : List Tm) (T : Tm) (lv v : Value) (w : World) (hl : LiesA w ts lv) (hT : LiesT w T v) (hval : validB T = true) (hlong : 2000 < ts.length) : Calls Try.prog 8 #[lv, tv T v] w fun e w' => e = .returned (.bool true) ∧ Below w.heap.size w w' := by
  have hd : decide ((2000 : Int) < (ts.length : Int)) = true := by simp; omega
  have HA := Lib.hid HA
  have E0 := Lib.hid ((((Env.start w).pushT hl).pushT hT).box rfl (.int .i64 T.kind) (.int .i64 T.num) (.string T.name) v 24)
  obtain ⟨la, lc, rfl, hmax, _⟩ := row_read hl
  have HVT := Lib.hid hval
  clear hl hT hval
  simp only [tv]
  go_enter Try.func8, Try.ntmps8
  go_wp2_with fail
  refine (List_v ts T _ v _ E0.out.t.tl.hd E0.out.t.hd).mono ?_
  rintro e w1 ⟨y, rfl, hy, hb1⟩
  obtain ⟨Q, hQ⟩ : ∃ Q, (if validB (listT ts T) = true then listT ts T else z0) = Q := ⟨_, rfl⟩
  rw [hQ] at hy ⊢
  have HQ := Lib.hid hQ
  have hly := OwnT.lies _ _ hy
  obtain ⟨ya, yc, rfl⟩ := hly.slice
  have E1 := Lib.hid ((E0.out.step hb1).pushT hly)
  have E2 := Lib.hid (E1.out.box (g := w1.heap.size) rfl (.int .i64 Q.kind) (.int .i64 Q.num) (.string Q.name) (.slice ya Q.args.length yc) 24)
  have t0 := E1.out.c.hd
  have t1 := E1.out.c.tl.hd
  have t2 := E1.out.c.tl.tl.hd
  have t3 := E1.out.c.tl.tl.tl.hd
  have zb := World.block_lt_of_cell? _ _ t0
  clear hb1 hy hly hQ E0 E1
  go_wp2_with fail
  refine (valid_is T v true HVT.out _ E2.out.t.tl.hd).mono ?_
  rintro e w2 ⟨rfl, hb2⟩
  have E3 := Lib.hid (E2.out.step hb2)
  have BB := Lib.hid E3.out.b
  clear hb2 E2 t0 t1 t2 t3 zb
  go_wp2_with fail
  refine (HA.out _).mono ?_
  rintro e wa ⟨rfl, hba⟩
  go_wp2_with fail
  go_ret
  exact ⟨rfl, BB.out.trans (hba.mono BB.out.size)⟩
set_option maxHeartbeats 4000000 in
theorem listed_yes (HA : Awake) (ts : List Tm) (T : Tm) (lv v : Value) (w : World) (hl : LiesA w ts lv) (hT : LiesT w T v) (hval : validB T = true) (hshort : ts.length ≤ 2000) : Calls Try.prog 8 #[lv, tv T v] w fun e w' => e = .returned (.bool true) ∧ Below w.heap.size w w' := by
  have hd : decide ((2000 : Int) < (ts.length : Int)) = false := by simp; omega
  have HSH := Lib.hid hshort
  have HA := Lib.hid HA
  have E0 := Lib.hid ((((Env.start w).pushT hl).pushT hT).box rfl (.int .i64 T.kind) (.int .i64 T.num) (.string T.name) v 24)
  obtain ⟨la, lc, rfl, hmax, _⟩ := row_read hl
  have HVT := Lib.hid hval
  clear hl hT hval
  simp only [tv]
  go_enter Try.func8, Try.ntmps8
  go_wp2_with fail
  refine (List_v ts T _ v _ E0.out.t.tl.hd E0.out.t.hd).mono ?_
  rintro e w1 ⟨y, rfl, hy, hb1⟩
  obtain ⟨Q, hQ⟩ : ∃ Q, (if validB (listT ts T) = true then listT ts T else z0) = Q := ⟨_, rfl⟩
  rw [hQ] at hy ⊢
  have HQ := Lib.hid hQ
  have hly := OwnT.lies _ _ hy
  obtain ⟨ya, yc, rfl⟩ := hly.slice
  have E1 := Lib.hid ((E0.out.step hb1).pushT hly)
  have E2 := Lib.hid (E1.out.box (g := w1.heap.size) rfl (.int .i64 Q.kind) (.int .i64 Q.num) (.string Q.name) (.slice ya Q.args.length yc) 24)
  have t0 := E1.out.c.hd
  have t1 := E1.out.c.tl.hd
  have t2 := E1.out.c.tl.tl.hd
  have t3 := E1.out.c.tl.tl.tl.hd
  have zb := World.block_lt_of_cell? _ _ t0
  clear hb1 hy hly hQ E0 E1
  go_wp2_with fail
  refine (valid_is T v true HVT.out _ E2.out.t.tl.hd).mono ?_
  rintro e w2 ⟨rfl, hb2⟩
  have E3 := Lib.hid (E2.out.step hb2)
  have BB := Lib.hid E3.out.b
  clear hb2 E2 t0 t1 t2 t3 zb
  have s0 := E3.out.c.tl.tl.tl.tl.hd
  have s1 := E3.out.c.tl.tl.tl.tl.tl.hd
  have s2 := E3.out.c.tl.tl.tl.tl.tl.tl.hd
  have s3 := E3.out.c.tl.tl.tl.tl.tl.tl.tl.hd
  go_wp2_with fail
  refine (size_is T (cnt T) (cntM_valid T HVT.out) v _ E3.out.t.tl.hd).mono ?_
  rintro e W1 ⟨rfl, hb3⟩
  have E4 := Lib.hid (E3.out.step hb3)
  clear hb3 E3 s0 s1 s2 s3 BB
  have HC := Lib.hid (validB_nodes HVT.out).2
  obtain ⟨_, _, he, _, hrow⟩ := row_read E4.out.t.tl.tl.hd
  obtain ⟨rfl, _, rfl⟩ := Value.slice.inj he
  have HROW := Lib.hid hrow
  clear he hrow
  go_wp2_with fail
  go_loopw [6, 7] (fun q i wr => ∃ (j N : Nat), j ≤ ts.length ∧ i = .int .i64 j ∧ q = .int .i64 N ∧ Hid (N = szL (ts.take j) + cnt T) ∧ Hid (N ≤ 2000 + j * 2001) ∧ Hid (∀ t ∈ ts.take j, validB t = true) ∧ Hid (Below W1.heap.size W1 wr)) (fun _ i _ => ts.length - (intOf i).toNat)
  case atStart => exact ⟨0, cnt T, by omega, rfl, rfl, Lib.hid (by simp [szL]), Lib.hid (by have := HC.out; omega), Lib.hid (by simp), Below.refl _ _⟩
  case round =>
    obtain ⟨j, N, hj, rfl, rfl, hN, hN2, hall, hb⟩ := hrel
    have E5 := Lib.hid (E4.out.step hb.out)
    have BB := Lib.hid E5.out.b
    by_cases hlt : j < ts.length
    · obtain ⟨b, o, u, rfl, c0, c1, c2, c3, hu⟩ := HROW.out j hlt
      have d0 := cell_below hb.out _ _ c0
      have d1 := cell_below hb.out _ _ c1
      have d2 := cell_below hb.out _ _ c2
      have d3 := cell_below hb.out _ _ c3
      have HU := Lib.hid (hu.below hb.out)
      clear c0 c1 c2 c3 hu
      rcases Bool.eq_false_or_eq_true (validB ts[j]) with hv | hv
      · have HV := Lib.hid hv
        clear hv
        go_wp2_with fail
        refine (valid_is ts[j] u true HV.out _ HU.out).mono ?_
        rintro e w3 ⟨rfl, hb3⟩
        have f0 := cell_below hb3 _ _ d0
        have f1 := cell_below hb3 _ _ d1
        have f2 := cell_below hb3 _ _ d2
        have f3 := cell_below hb3 _ _ d3
        have HU3 := Lib.hid (HU.out.below hb3)
        have B3 := Lib.hid (hb.out.trans (hb3.mono hb.out.size))
        clear d0 d1 d2 d3 hb3
        have hcv := (validB_nodes HV.out).2
        have hN3 := hN2.out
        have hsh := HSH.out
        go_wp2_with fail
        refine (size_is ts[j] (cnt ts[j]) (cntM_valid _ HV.out) u _ HU3.out).mono ?_
        rintro e w4 ⟨rfl, hb4⟩
        have B4 := Lib.hid (B3.out.trans (hb4.mono B3.out.size))
        clear hb4
        go_wp2_with fail
        go_roundw
        case rel =>
          have ht : ts.take (j + 1) = ts.take j ++ [ts[j]] := (List.take_append_getElem hlt).symm
          refine ⟨j + 1, N + 1 + cnt ts[j], by omega, by go_num, ?_, Lib.hid ?_, Lib.hid ?_, Lib.hid ?_, B4⟩
          · first | rfl | (congr 1; omega) | (simp; omega)
          · rw [ht, szL_snoc]; have := hN.out; omega
          · have := hN2.out; omega
          · rw [ht]; intro t ht2; rw [List.mem_append] at ht2; rcases ht2 with h | h
            · exact hall.out t h
            · rw [List.mem_singleton] at h; rw [h]; exact HV.out
        case measure => simp [intOf]; omega
      · have HV := Lib.hid hv
        clear hv
        go_wp2_with fail
        refine (valid_is ts[j] u false HV.out _ HU.out).mono ?_
        rintro e w3 ⟨rfl, hb3⟩
        have BB := Lib.hid (BB.out.trans (hb3.mono BB.out.size))
        clear hb3
        go_wp2_with fail
        refine (HA.out _).mono ?_
        rintro e wa ⟨rfl, hba⟩
        go_wp2_with fail
        go_ret
        exact ⟨rfl, BB.out.trans (hba.mono BB.out.size)⟩
    · obtain rfl : j = ts.length := by omega
      clear hj hlt
      have hN1 := hN.out
      have hall1 := hall.out
      rw [List.take_length] at hN1 hall1
      have HN := Lib.hid hN1
      have HALL := Lib.hid hall1
      clear hN hN1 hall hall1
      by_cases hbig : 2000 < N
      · have hg : decide ((2000 : Int) < (N : Int)) = true := by simp; omega
        go_wp2_with fail
        refine (HA.out _).mono ?_
        rintro e wa ⟨rfl, hba⟩
        go_wp2_with fail
        go_ret
        exact ⟨rfl, BB.out.trans (hba.mono BB.out.size)⟩
      · have hg : decide ((2000 : Int) < (N : Int)) = false := by simp; omega
        have HVL : Hid (validB (listT ts T) = true) := valid_list T ts HVT.out HALL.out (by have := HN.out; omega)
        have HQ2 : Hid (Q = listT ts T) := by show _ = _; rw [← HQ.out, if_pos HVL.out]
        have HVQ : Hid (validB Q = true) := by show _ = _; rw [HQ2.out]; exact HVL.out
        obtain ⟨M, U, hMU⟩ : ∃ M U, elemsT T = (M, U) := ⟨_, _, rfl⟩
        have HE1 : Hid (elemsT Q = (ts ++ M, U)) := by show _ = _; rw [HQ2.out, elemsT_list, hMU]
        have HE2 := Lib.hid hMU
        have HVU : Hid (validB U = true) := by have h := elems_valid T HVT.out; rw [hMU] at h; exact h
        have HBK : Hid (listT (ts ++ M) U = Q) := by have h := elems_back T HVT.out; rw [hMU] at h; show _ = _; rw [listT_append, HQ2.out, h]
        clear hMU hbig
        obtain ⟨K, hK⟩ : ∃ K, ts ++ M = K := ⟨_, rfl⟩
        rw [hK] at HE1 HBK
        have hKL : K.length = ts.length + M.length := by rw [← hK]; simp
        have HKJ : Hid (∀ (j : Nat) (h : j < ts.length) (h2 : j < K.length), K[j] = ts[j]) := by
          show ∀ (j : Nat) (h : j < ts.length) (h2 : j < K.length), K[j] = ts[j]
          subst hK; exact fun j h _ => List.getElem_append_left h
        have HNQ : Hid (cntM Q 2001 = (N : Int)) := by
          show _ = _
          rw [cntM_valid Q HVQ.out, HQ2.out, cnt_list, HN.out]
        have HKB : Hid (K.length ≤ 2000) := by
          have h := cnt_listT U K
          have h2 := (validB_nodes HVQ.out).2
          rw [HBK.out] at h
          show _ ≤ _
          omega
        have HSU := Lib.hid (same_self U HVU.out)
        have HKL := Lib.hid hKL
        clear hK hKL
        have q0 := E5.out.c.hd
        have q1 := E5.out.c.tl.hd
        have q2 := E5.out.c.tl.tl.hd
        have q3 := E5.out.c.tl.tl.tl.hd
        go_wp2_with fail
        refine (Elems_is Q HVQ.out K U HE1.out _ _ E5.out.t.hd).mono ?_
        rintro e w5 ⟨ka, kc, ua, un, ud, rfl, hk, hu, hb5⟩
        have E6 := Lib.hid (((E5.out.step hb5).pushT hk).pushT hu)
        have E7 := Lib.hid (E6.out.box (g := w5.heap.size) rfl (.int .i64 U.kind) (.int .i64 U.num) (.string U.name) (.slice ua un ud) 24)
        have s0 := E6.out.c.tl.tl.tl.tl.hd
        have s1 := E6.out.c.tl.tl.tl.tl.tl.hd
        have s2 := E6.out.c.tl.tl.tl.tl.tl.tl.hd
        have s3 := E6.out.c.tl.tl.tl.tl.tl.tl.tl.hd
        have zb := World.block_lt_of_cell? _ _ s0
        clear hb5 hk hu q0 q1 q2 q3 E6 E5
        go_wp2_with fail
        refine (Elems_is T HVT.out M U HE2.out v _ E7.out.t.tl.tl.tl.hd).mono ?_
        rintro e w6 ⟨ma, mc, xa, xn, xd, rfl, hm, hx, hb6⟩
        have E8 := Lib.hid (((E7.out.step hb6).pushT hm).pushT hx)
        have E9 := Lib.hid (E8.out.box (g := w6.heap.size) rfl (.int .i64 U.kind) (.int .i64 U.num) (.string U.name) (.slice xa xn xd) 24)
        clear hb6 hm hx s0 s1 s2 s3 zb E7
        have u0 := E8.out.c.hd
        have u1 := E8.out.c.tl.hd
        have u2 := E8.out.c.tl.tl.hd
        have u3 := E8.out.c.tl.tl.tl.hd
        have zb := World.block_lt_of_cell? _ _ u0
        have hml : ts.length + M.length ≤ 2000 := by rw [← HKL.out]; exact HKB.out
        have hne : ((K.length : Int) != (ts.length : Int) + (M.length : Int)) = false := by have := HKL.out; simp; omega
        go_wp2_with fail
        refine (Same_is U U true HSU.out _ _ _ E9.out.t.tl.tl.hd E9.out.t.hd).mono ?_
        rintro e w7 ⟨rfl, hb7⟩
        have E10 := Lib.hid (E9.out.step hb7)
        clear u0 u1 u2 u3 zb hb7 E9 E8
        have q0 := E10.out.c.tl.tl.tl.tl.tl.tl.tl.tl.hd
        have q1 := E10.out.c.tl.tl.tl.tl.tl.tl.tl.tl.tl.hd
        have q2 := E10.out.c.tl.tl.tl.tl.tl.tl.tl.tl.tl.tl.hd
        have q3 := E10.out.c.tl.tl.tl.tl.tl.tl.tl.tl.tl.tl.tl.hd
        go_wp2_with fail
        refine (Size_is Q N HNQ.out _ _ E10.out.t.tl.tl.tl.tl.hd).mono ?_
        rintro e W2 ⟨rfl, hb8⟩
        have E11 := Lib.hid (E10.out.step hb8)
        clear q0 q1 q2 q3 hb8 E10 hne
        obtain ⟨_, _, he, _, hrow⟩ := row_read E11.out.t.tl.tl.tl.hd
        obtain ⟨rfl, _, rfl⟩ := Value.slice.inj he
        have HK := Lib.hid hrow
        clear he hrow
        obtain ⟨_, _, he, _, hrow⟩ := row_read E11.out.t.tl.tl.tl.tl.tl.tl.hd
        obtain ⟨rfl, _, rfl⟩ := Value.slice.inj he
        have HL := Lib.hid hrow
        clear he hrow
        go_wp2_with fail
        go_loopw [12] (fun i wr => ∃ j : Nat, j ≤ ts.length ∧ i = .int .i64 j ∧ Hid (Below W2.heap.size W2 wr)) (fun i _ => ts.length - (intOf i).toNat)
        case atStart => exact ⟨0, by omega, rfl, Below.refl _ _⟩
        case round =>
          obtain ⟨j, hj, rfl, hb⟩ := hrel
          by_cases hlt : j < ts.length
          · have hlt2 : j < K.length := by have := HKL.out; omega
            have i0 : (0 : Int) ≤ (j : Int) := by omega
            have i1 : (j : Int) < (ts.length : Int) := by omega
            have i2 : (j : Int) < (K.length : Int) := by omega
            obtain ⟨b, o, u, rfl, c0, c1, c2, c3, hu⟩ := HL.out j hlt
            obtain ⟨b2, o2, u2, rfl, g0, g1, g2, g3, hu2⟩ := HK.out j hlt2
            rw [HKJ.out j hlt hlt2] at g0 g1 g2 hu2
            have d0 := cell_below hb.out _ _ c0
            have d1 := cell_below hb.out _ _ c1
            have d2 := cell_below hb.out _ _ c2
            have d3 := cell_below hb.out _ _ c3
            have f0 := cell_below hb.out _ _ g0
            have f1 := cell_below hb.out _ _ g1
            have f2 := cell_below hb.out _ _ g2
            have f3 := cell_below hb.out _ _ g3
            have HU := Lib.hid (hu.below hb.out)
            have HU2 := Lib.hid (hu2.below hb.out)
            have HSJ := Lib.hid (same_self ts[j] (HALL.out _ (List.getElem_mem hlt)))
            have h1 : Below wr.heap.size wr wr.drew := (Below.refl _ _).drew
            clear c0 c1 c2 c3 hu g0 g1 g2 g3 hu2
            go_wp2_with fail
            go_region_held3 (fun w' => Below wr.heap.size wr w' ∧ w'.cell? ⟨b, o + j * 4, none⟩ = some (.int .i64 ts[j].kind) ∧ w'.cell? ⟨b, o + j * 4 + 1, none⟩ = some (.int .i64 ts[j].num) ∧ w'.cell? ⟨b, o + j * 4 + 2, none⟩ = some (.string ts[j].name) ∧ w'.cell? ⟨b, o + j * 4 + 3, none⟩ = some u ∧ w'.cell? ⟨b2, o2 + j * 4, none⟩ = some (.int .i64 ts[j].kind) ∧ w'.cell? ⟨b2, o2 + j * 4 + 1, none⟩ = some (.int .i64 ts[j].num) ∧ w'.cell? ⟨b2, o2 + j * 4 + 2, none⟩ = some (.string ts[j].name) ∧ w'.cell? ⟨b2, o2 + j * 4 + 3, none⟩ = some u2)
              (first | exact ⟨(by assumption), cell_below (by assumption : Below wr.heap.size wr _) _ _ d0, cell_below (by assumption : Below wr.heap.size wr _) _ _ d1, cell_below (by assumption : Below wr.heap.size wr _) _ _ d2, cell_below (by assumption : Below wr.heap.size wr _) _ _ d3, cell_below (by assumption : Below wr.heap.size wr _) _ _ f0, cell_below (by assumption : Below wr.heap.size wr _) _ _ f1, cell_below (by assumption : Below wr.heap.size wr _) _ _ f2, cell_below (by assumption : Below wr.heap.size wr _) _ _ f3⟩ | go_keep)
              (first
                | (go_at_call 9; refine (Same_is ts[j] ts[j] true HSJ.out _ _ _ (HU2.out.below (by assumption : Below wr.heap.size wr _)) (HU.out.below (by assumption : Below wr.heap.size wr _))).mono ?_; rintro e w9 ⟨rfl, hb9⟩; have h5 : Below wr.heap.size wr w9 := Below.trans (by assumption : Below wr.heap.size wr _) (hb9.mono (Below.size (by assumption : Below wr.heap.size wr _)))))
            go_wp2_with fail
            go_roundw
            case rel => exact ⟨j + 1, by omega, by go_num, Lib.hid (hb.out.trans (h5.mono hb.out.size))⟩
            case measure => simp [intOf]; omega
          · obtain rfl : j = ts.length := by omega
            clear hj hlt
            have E12 := Lib.hid (E11.out.step hb.out)
            have BB := Lib.hid E12.out.b
            have u0 := E12.out.c.tl.tl.tl.tl.hd
            have u1 := E12.out.c.tl.tl.tl.tl.tl.hd
            have u2 := E12.out.c.tl.tl.tl.tl.tl.tl.hd
            have u3 := E12.out.c.tl.tl.tl.tl.tl.tl.tl.hd
            have q0 := E12.out.c.tl.tl.tl.tl.tl.tl.tl.tl.hd
            have q1 := E12.out.c.tl.tl.tl.tl.tl.tl.tl.tl.tl.hd
            have q2 := E12.out.c.tl.tl.tl.tl.tl.tl.tl.tl.tl.tl.hd
            have q3 := E12.out.c.tl.tl.tl.tl.tl.tl.tl.tl.tl.tl.tl.hd
            have h1 : Below wr.heap.size wr wr.drew := (Below.refl _ _).drew
            have HSQ := Lib.hid (same_self Q HVQ.out)
            have HVK : Hid (validB (listT K U) = true) := by show _ = _; rw [HBK.out]; exact HVQ.out
            clear hb
            go_wp2_with fail
            go_region_held3 (fun w' => Below wr.heap.size wr w' ∧ w'.cell? ⟨w5.heap.size, 0, none⟩ = some (.int .i64 U.kind) ∧ w'.cell? ⟨w5.heap.size, 1, none⟩ = some (.int .i64 U.num) ∧ w'.cell? ⟨w5.heap.size, 2, none⟩ = some (.string U.name) ∧ w'.cell? ⟨w5.heap.size, 3, none⟩ = some (.slice ua un ud) ∧ w'.cell? ⟨w1.heap.size, 0, none⟩ = some (.int .i64 Q.kind) ∧ w'.cell? ⟨w1.heap.size, 1, none⟩ = some (.int .i64 Q.num) ∧ w'.cell? ⟨w1.heap.size, 2, none⟩ = some (.string Q.name) ∧ w'.cell? ⟨w1.heap.size, 3, none⟩ = some (.slice ya Q.args.length yc))
              (first | exact ⟨(by assumption), cell_below (by assumption : Below wr.heap.size wr _) _ _ u0, cell_below (by assumption : Below wr.heap.size wr _) _ _ u1, cell_below (by assumption : Below wr.heap.size wr _) _ _ u2, cell_below (by assumption : Below wr.heap.size wr _) _ _ u3, cell_below (by assumption : Below wr.heap.size wr _) _ _ q0, cell_below (by assumption : Below wr.heap.size wr _) _ _ q1, cell_below (by assumption : Below wr.heap.size wr _) _ _ q2, cell_below (by assumption : Below wr.heap.size wr _) _ _ q3⟩ | go_keep)
              (first
                | (go_at_call 33; refine (List_yes K U _ _ _ (LiesT.below E12.out.t.tl.tl.tl.hd (by assumption : Below wr.heap.size wr _)) (LiesT.below E12.out.t.tl.tl.hd (by assumption : Below wr.heap.size wr _)) HVK.out).mono ?_; rintro e w9 ⟨y9, rfl, hy9, hb⟩; rw [HBK.out] at hy9 ⊢; have HY := Lib.hid (OwnT.lies _ _ hy9); clear hy9; have h5 : Below wr.heap.size wr w9 := Below.trans (by assumption : Below wr.heap.size wr _) (hb.mono (Below.size (by assumption : Below wr.heap.size wr _))); clear hb)
                | (go_at_call 9; refine (Same_is Q Q true HSQ.out _ _ _ HY.out (LiesT.below E12.out.t.tl.tl.tl.tl.hd (by assumption : Below wr.heap.size wr _))).mono ?_; rintro e w10 ⟨rfl, hb⟩; have h5 : Below wr.heap.size wr w10 := Below.trans (by assumption : Below wr.heap.size wr _) (hb.mono (Below.size (by assumption : Below wr.heap.size wr _))); clear hb)
                | (go_at_call 13; refine (HA.out _).mono ?_; rintro e w11 ⟨rfl, hb⟩; have h5 : Below wr.heap.size wr w11 := Below.trans (by assumption : Below wr.heap.size wr _) (hb.mono (Below.size (by assumption : Below wr.heap.size wr _))); clear hb))
            go_wp2_with fail
            go_ret
            exact ⟨rfl, BB.out.trans (Below.mono h5 BB.out.size)⟩

end Go.Proofs.Ytdgflagafilobaa
