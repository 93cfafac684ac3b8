/- The law TermReplaces. -/
import Derived.Test.YtdgflagafilobaaR18
import Derived.Test.YtdgflagafilobaaD4
namespace Go.Proofs.Ytdgflagafilobaa
open Go.RowKit Go.Proofs.HT

theorem repL_cnt (x : Int) (d : Tm) : ∀ ts : List Tm, (∀ t ∈ ts, (cnt (mapT (gR x d) t) : Int) = repN t d x) → (cntL (mapL (gR x d) ts) : Int) = cntL ts + occN x (preL ts) * ((cnt d : Int) - 1)
  | [], _ => by simp [mapL, cntL, preL, occN]
  | t :: ts, h => by
    have h1 := h t (List.mem_cons_self ..)
    have h2 := repL_cnt x d ts fun u hu => h u (List.mem_cons_of_mem _ hu)
    simp only [mapL, cntL, preL, occN_append]
    unfold repN occT at h1
    rw [Int.natCast_add, Int.natCast_add, Int.natCast_add, h1, h2, Int.add_mul]
    omega
theorem rep_cnt (x : Int) (d t : Tm) : nodesB t = true → (cnt (mapT (gR x d) t) : Int) = repN t d x := by
  induction t using Tm.ind with
  | h k n s ts ih =>
    intro hn
    have hns := nodes_at hn
    by_cases hk : k = 0
    · subst hk
      obtain ⟨_, _, rfl, h0⟩ := node_var hns.1
      obtain rfl := List.length_eq_zero_iff.1 h0
      by_cases hx : n = x
      · subst hx
        rw [put_var_yes]
        unfold repN
        rw [occT_mk]
        simp [cnt, cntL, preL, occN]
        omega
      · rw [put_var_no x n d (by simpa using hx)]
        unfold repN
        rw [occT_mk]
        simp [cnt, cntL, preL, occN, hx]
    · have h1 := repL_cnt x d ts fun t ht => by
        obtain ⟨i, hi, rfl⟩ := List.mem_iff_getElem.1 ht
        exact ih _ ht (hns.2 i hi)
      rw [mapT, if_neg hk]
      unfold repN
      rw [occT_mk]
      simp only [cnt, hk, false_and, if_false, Nat.zero_add]
      rw [Int.natCast_add, h1]
      omega
theorem rep_nodes (x : Int) (d t : Tm) (hd : nodesB d = true) : nodesB t = true → nodesB (mapT (gR x d) t) = true := by
  induction t using Tm.ind with
  | h k n s ts ih =>
    intro hn
    have hns := nodes_at hn
    by_cases hk : k = 0
    · subst hk
      obtain ⟨_, _, rfl, h0⟩ := node_var hns.1
      obtain rfl := List.length_eq_zero_iff.1 h0
      by_cases hx : n = x
      · subst hx; rw [put_var_yes]; exact hd
      · rw [put_var_no x n d (by simpa using hx)]; exact hn
    · rw [mapT, if_neg hk, nodesB, Bool.and_eq_true, mapL_length]
      refine ⟨hns.1, (nodesL_iff _).2 fun u hu => ?_⟩
      obtain ⟨i, hi, rfl⟩ := List.mem_iff_getElem.1 hu
      have hi2 : i < ts.length := by rw [mapL_length] at hi; exact hi
      rw [mapL_get _ _ _ hi2]
      exact ih _ (List.getElem_mem hi2) (hns.2 i hi2)
def repR (t : Tm) (x : Int) (d : Tm) : Tm × Int := if validB t = true ∧ numB x = true ∧ validB d = true then (if decide (2000 < repN t d x) = true then (z0, 2) else (mapT (gR x d) t, 0)) else (z0, 1)
theorem repR_valid (t : Tm) (x : Int) (d : Tm) : validB (repR t x d).1 = true := by
  unfold repR
  by_cases h : validB t = true ∧ numB x = true ∧ validB d = true
  · rw [if_pos h]
    by_cases hb : decide (2000 < repN t d x) = true
    · rw [if_pos hb]; exact z0_valid
    · rw [if_neg hb]
      have h1 := rep_cnt x d t (validB_nodes h.1).1
      have h2 := rep_nodes x d t (validB_nodes h.2.2).1 (validB_nodes h.1).1
      have h3 : ¬ 2000 < repN t d x := by simpa using hb
      unfold validB
      simp only [h2, Bool.and_true, decide_eq_true_eq]
      omega
  · rw [if_neg h]; exact z0_valid
theorem Replace_any (t d : Tm) (v bv : Value) (x : Int) (w : World) (h : LiesT w t v) (hby : LiesT w d bv) : Calls Try.prog 17 #[tv t v, .int .i64 x, tv d bv] w (MadeE (repR t x d).1 (repR t x d).2 w) := by
  unfold repR
  rcases Bool.eq_false_or_eq_true (validB t) with hv | hv
  · rcases Bool.eq_false_or_eq_true (numB x) with hx | hx
    · rcases Bool.eq_false_or_eq_true (validB d) with hd | hd
      · rw [if_pos ⟨hv, hx, hd⟩]
        rcases Bool.eq_false_or_eq_true (decide (2000 < repN t d x)) with hb | hb
        · rw [if_pos hb]; exact Replace_long t d v bv x w h hby hv hx hd hb
        · rw [if_neg (by rw [hb]; simp)]; exact Replace_yes t d v bv x w h hby hv hx hd hb
      · rw [if_neg (by rw [hd]; simp)]; exact Replace_by t d v bv x w h hby hv hx hd
    · rw [if_neg (by rw [hx]; simp)]; exact Replace_number t d v bv x w h hby hv hx
  · rw [if_neg (by rw [hv]; simp)]; exact Replace_invalid t d v bv x w h hby hv
theorem replace_any (t d : Tm) (v bv : Value) (x : Int) (w : World) (h : LiesT w t v) (hby : LiesT w d bv) : Calls Try.prog 18 #[tv t v, .int .i64 x, tv d bv] w (MadeE (repR t x d).1 (repR t x d).2 w) := by
  unfold repR
  rcases Bool.eq_false_or_eq_true (validB t) with hv | hv
  · rcases Bool.eq_false_or_eq_true (numB x) with hx | hx
    · rcases Bool.eq_false_or_eq_true (validB d) with hd | hd
      · rw [if_pos ⟨hv, hx, hd⟩]
        rcases Bool.eq_false_or_eq_true (decide (2000 < repN t d x)) with hb | hb
        · rw [if_pos hb]; exact replace_long t d v bv x w h hby hv hx hd hb
        · rw [if_neg (by rw [hb]; simp)]; exact replace_yes t d v bv x w h hby hv hx hd hb
      · rw [if_neg (by rw [hd]; simp)]; exact replace_by t d v bv x w h hby hv hx hd
    · rw [if_neg (by rw [hx]; simp)]; exact replace_number t d v bv x w h hby hv hx
  · rw [if_neg (by rw [hv]; simp)]; exact replace_invalid t d v bv x w h hby hv

set_option maxHeartbeats 2000000 in
theorem replaces_walk (HA : Awake) (t : Tm) (v : Value) (f : Int) (d : Tm) (bv : Value) (w : World) (h : LiesT w t v) (hby : LiesT w d bv) : Calls Try.prog 5 #[tv t v, .int .i64 f, tv d bv] w fun e w' => e = .returned (.bool true) ∧ Below w.heap.size w w' := by
  have HA := Lib.hid HA
  have E00 := Lib.hid ((((Env.start w).pushT h).pushT hby).box rfl (.int .i64 t.kind) (.int .i64 t.num) (.string t.name) v 24)
  have E0 := Lib.hid (E00.out.box (g := w.heap.size + 1) (by simp) (.int .i64 d.kind) (.int .i64 d.num) (.string d.name) bv 24)
  obtain ⟨R, c, hR⟩ : ∃ R c, repR t f d = (R, c) := ⟨_, _, rfl⟩
  have HV : Hid (validB R = true) := by have h1 := repR_valid t f d; rw [hR] at h1; exact h1
  have P1 : Hid (∀ w, LiesT w t v → LiesT w d bv → Calls Try.prog 17 #[tv t v, .int .i64 f, tv d bv] w (MadeE R c w)) := by have h1 := Replace_any t d v bv f; rw [hR] at h1; exact h1
  have P2 : Hid (∀ w, LiesT w t v → LiesT w d bv → Calls Try.prog 18 #[tv t v, .int .i64 f, tv d bv] w (MadeE R c w)) := by have h1 := replace_any t d v bv f; rw [hR] at h1; exact h1
  clear h hR E00 hby
  simp only [tv]
  go_enter Try.func5, Try.ntmps5
  go_wp2_with fail
  refine (P1.out _ E0.out.t.tl.hd E0.out.t.hd).mono ?_
  rintro e w1 ⟨y, rfl, hy, hb1⟩
  have hly := OwnT.lies _ _ hy
  obtain ⟨ya, yc, rfl⟩ := hly.slice
  have E1 := Lib.hid ((E0.out.step hb1).pushT hly)
  have E2 := Lib.hid (E1.out.box (g := w1.heap.size) rfl (.int .i64 R.kind) (.int .i64 R.num) (.string R.name) (.slice ya R.args.length yc) 24)
  have t0 := E1.out.c.hd
  have t1 := E1.out.c.tl.hd
  have t2 := E1.out.c.tl.tl.hd
  have t3 := E1.out.c.tl.tl.tl.hd
  have t4 := E1.out.c.tl.tl.tl.tl.hd
  have t5 := E1.out.c.tl.tl.tl.tl.tl.hd
  have t6 := E1.out.c.tl.tl.tl.tl.tl.tl.hd
  have t7 := E1.out.c.tl.tl.tl.tl.tl.tl.tl.hd
  have zb := World.block_lt_of_cell? _ _ t0
  have zc := World.block_lt_of_cell? _ _ t4
  clear hb1 hy hly E0 E1
  go_wp2_with fail
  refine (P2.out _ E2.out.t.tl.tl.hd E2.out.t.tl.hd).mono ?_
  rintro e w2 ⟨x, rfl, hx, hb2⟩
  have hlx := OwnT.lies _ _ hx
  obtain ⟨xa, xc, rfl⟩ := hlx.slice
  have E3 := Lib.hid ((E2.out.step hb2).pushT hlx)
  have E4 := Lib.hid (E3.out.box (g := w2.heap.size) rfl (.int .i64 R.kind) (.int .i64 R.num) (.string R.name) (.slice xa R.args.length xc) 24)
  clear hb2 hx hlx E2 t0 t1 t2 t3 t4 t5 t6 t7 zb zc
  have q0 := E3.out.c.hd
  have q1 := E3.out.c.tl.hd
  have q2 := E3.out.c.tl.tl.hd
  have q3 := E3.out.c.tl.tl.tl.hd
  have zb := World.block_lt_of_cell? _ _ q0
  have HS := Lib.hid (same_self R HV.out)
  go_wp2_with fail
  refine (lsame_is R R true HS.out _ _ _ E4.out.t.tl.hd E4.out.t.hd).mono ?_
  rintro e w3 ⟨rfl, hb3⟩
  have BB := Lib.hid (E4.out.step hb3).b
  clear hb3 E4 E3 q0 q1 q2 q3 zb
  go_wp2_with fail
  refine (HA.out _).mono ?_
  rintro e wa ⟨rfl, hba⟩
  go_wp2_with fail
  go_ret
  exact ⟨rfl, BB.out.trans (hba.mono BB.out.size)⟩

end Go.Proofs.Ytdgflagafilobaa
