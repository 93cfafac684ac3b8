/- The contracts of the specification's count, node, nodes, Valid. -/
import Derived.Test.YteilodihjhdngaaTm
import Derived.Test.YteilodihjhdngaaProg
import Derived.WalkSpells
import Derived.WalkLawsBesides
import Derived.BigCall
import Derived.BigGuard
import Derived.Deep.QuietTactic
import Derived.BigQuiet
import Derived.StillTailTactics
namespace Go.Proofs.Yteilodihjhdngaa
open Go.RowKit Go.Proofs.HT

theorem ret_int {k : IntKind} {a b : Int} (h : a = b) : Ending.returned (.int k a) = .returned (.int k b) := by rw [h]
theorem ret_bool {a b : Bool} (h : a = b) : Ending.returned (.bool a) = .returned (.bool b) := by rw [h]

set_option maxHeartbeats 1000000 in
theorem count_any (t : Tm) : ∀ (v : Value) (m : Int) (w : World), LiesT w t v → 1 ≤ m → m ≤ 1000000 →
    Calls Try.prog 79 #[tv t v, .int .i64 m] w fun e w' => e = .returned (.int .i64 (cntM t m)) ∧ Below w.heap.size w w' := by
  induction t using Tm.ind with
  | h k n s ts ih =>
    intro v m w hv hm0 hm1
    rcases hv.len with ⟨rfl, a, cap, rfl⟩ | ⟨b, o, cap, rfl, hpos, hlc, hcap, hl⟩
    · have H : Hid (1 = cntM (.mk k n s []) m) := by show _ = _; simp [cntM, cnt, cntL, hm0]
      simp only [tv, Tm.kind, Tm.num, Tm.name]
      clear hv ih
      go_enter Try.func79, Try.ntmps79
      go_wp2_with fail
      refine wp_loop_rounds 1 ?_
      rw [rounds_succ]
      go_wp2_with fail
      go_ret
      exact ⟨ret_int H.out, (Below.refl _ _).alloc (Nat.le_refl _) _⟩
    · have HA := Lib.hid (cntP_all k n s ts m)
      have HF := Lib.hid (fun i => cntP_full k n s ts m i)
      have HI : Hid (∀ i (hi : i < ts.length) (v : Value) (m : Int) (w : World), LiesT w ts[i] v → 1 ≤ m → m ≤ 1000000 → Calls Try.prog 79 #[tv ts[i] v, .int .i64 m] w fun e w' => e = .returned (.int .i64 (cntM ts[i] m)) ∧ Below w.heap.size w w') := fun i hi => ih _ (List.getElem_mem hi)
      have HL := Lib.hid hl
      simp only [tv, Tm.kind, Tm.num, Tm.name]
      clear hv ih hl
      go_enter Try.func79, Try.ntmps79
      go_wp2_with fail
      go_loopw [5, 6] (fun x i wr => ∃ (j : Nat) (q : Int), j ≤ ts.length ∧ i = .int .i64 j ∧ x = .int .i64 q ∧ Hid (q = cntP ts m j) ∧ 1 ≤ q ∧ q ≤ m ∧ Below w.heap.size w wr ∧ wr.cell? ⟨w.heap.size, 3, none⟩ = some (.slice (some ⟨b, o, none⟩) ts.length cap)) (fun _ i _ => ts.length - (intOf i).toNat)
      case atStart => exact ⟨0, 1, by omega, rfl, rfl, (cntP_zero ts m hm0).symm, by omega, hm0, (Below.refl _ _).alloc (Nat.le_refl _) _, by go_simp⟩
      case round =>
        obtain ⟨j, q, hj, rfl, rfl, hq, q0, q1, hb, hc⟩ := hrel
        by_cases hlt : j < ts.length
        · by_cases hqm : q < m
          · obtain ⟨u, c0, c1, c2, c3, hu⟩ := HL.out.at j hlt
            have d0 := cell_below hb _ _ c0
            have d1 := cell_below hb _ _ c1
            have d2 := cell_below hb _ _ c2
            have d3 := cell_below hb _ _ c3
            have HU := Lib.hid (hu.below hb)
            clear hu c0 c1 c2 c3
            have hm2 : 1 ≤ m - q := by omega
            have hm3 : m - q ≤ 1000000 := by omega
            have HB := Lib.hid hb
            have st := cntP_step ts m j hlt (by rw [← hq]; exact hqm)
            rw [← hq] at st
            have bd := cntM_bd ts[j] (m - q) hm2
            have bd2 := cntP_bd ts m hm0 (j + 1)
            rw [← st] at bd2
            have ST := Lib.hid st
            have BD := Lib.hid bd2
            have s1 : -9223372036854775808 ≤ q + cntM ts[j] (m - q) := by omega
            have s2 : q + cntM ts[j] (m - q) ≤ 9223372036854775807 := by omega
            clear st bd bd2 hb
            go_wp2_with (go_at_call 79; refine (HI.out j hlt u (m - q) _ HU.out hm2 hm3).mono ?_; rintro e w1 ⟨rfl, hb1⟩)
            go_roundw
            case rel => exact ⟨j + 1, _, by omega, by go_num, rfl, ST.out, BD.out.1, BD.out.2, HB.out.trans (hb1.mono HB.out.size), cell_below hb1 _ _ hc⟩
            case measure => simp [intOf]; omega
          · have hqm' : q = m := by omega
            have H : Hid (q = cntM (.mk k n s ts) m) := by show _ = _; rw [hqm']; exact HF.out j (by rw [← hq.out]; exact hqm')
            subst hqm'
            have HB := Lib.hid hb
            clear hb
            go_wp2_with fail
            go_ret
            exact ⟨ret_int H.out, HB.out⟩
        · have e : j = ts.length := by omega
          have H : Hid (q = cntM (.mk k n s ts) m) := by show _ = _; rw [hq.out, e]; exact HA.out
          have HB := Lib.hid hb
          clear hb
          go_wp2_with fail
          go_ret
          exact ⟨ret_int H.out, HB.out⟩

end Go.Proofs.Yteilodihjhdngaa

/- The contracts of the specification's node, nodes, Size, Valid. -/
namespace Go.Proofs.Yteilodihjhdngaa
open Go.RowKit Go.Proofs.HT

theorem emp_of {s : ByteArray} (h : s.size = 0) : s.toList.isEmpty = true := by
  rw [Lib.toList_data, List.isEmpty_iff, ← List.length_eq_zero_iff, ← Lib.size_eq]; exact h
theorem not_emp {s : ByteArray} (h : ¬ s.size = 0) : s.toList.isEmpty = false := by
  rw [Lib.toList_data, ← Bool.not_eq_true, List.isEmpty_iff, ← List.length_eq_zero_iff, ← Lib.size_eq]; exact h

set_option maxHeartbeats 1000000 in
theorem node_raw (k n : Int) (s : ByteArray) (a : Option Addr) (l cap : Nat) (w : World) :
    Calls Try.prog 90 #[.agg #[.int .i64 k, .int .i64 n, .string s, .slice a l cap]] w fun e w' => e = .returned (.bool (nodeB k n s l)) ∧ Below w.heap.size w w' := by
  have fr : ∀ o, Below w.heap.size w (w.alloc o) := fun o => (Below.refl _ _).alloc (Nat.le_refl _) _
  go_enter Try.func90, Try.ntmps90
  by_cases h0 : k = 0
  · subst h0
    by_cases c1 : 0 ≤ n
    · by_cases c2 : n ≤ 1099511627776
      · by_cases c3 : s.size = 0
        · have e3 := emp_of c3
          go_wp2_with fail
          go_ret
          exact ⟨ret_bool (by rw [Bool.eq_iff_iff]; simp [nodeB, c1, c2, c3]), fr _⟩
        · have e3 := not_emp c3
          go_wp2_with fail
          go_ret
          exact ⟨ret_bool (by rw [Bool.eq_iff_iff]; simp [nodeB, c1, c2, c3]), fr _⟩
      · go_wp2_with fail
        go_ret
        exact ⟨ret_bool (by rw [Bool.eq_iff_iff]; simp [nodeB]; omega), fr _⟩
    · go_wp2_with fail
      go_ret
      exact ⟨ret_bool (by rw [Bool.eq_iff_iff]; simp [nodeB]; omega), fr _⟩
  by_cases h1 : k = 1
  · subst h1
    by_cases c3 : s.size = 0
    · have e3 := emp_of c3
      go_wp2_with fail
      go_ret
      exact ⟨ret_bool (by rw [Bool.eq_iff_iff]; simp [nodeB, c3]), fr _⟩
    · have e3 := not_emp c3
      go_wp2_with fail
      go_ret
      exact ⟨ret_bool (by rw [Bool.eq_iff_iff]; simp [nodeB, c3]), fr _⟩
  by_cases h2 : k = 2
  · subst h2
    by_cases c1 : n = 0
    · subst c1
      by_cases c2 : (s.size : Int) ≤ 100
      all_goals
        go_wp2_with fail
        go_ret
        exact ⟨ret_bool (by rw [Bool.eq_iff_iff]; simp [nodeB]; omega), fr _⟩
    · go_wp2_with fail
      go_ret
      exact ⟨ret_bool (by rw [Bool.eq_iff_iff]; simp [nodeB]; omega), fr _⟩
  by_cases h3 : k = 3
  · subst h3
    by_cases c1 : n = 0
    · subst c1
      by_cases c2 : (s.size : Int) ≤ 100
      · by_cases c3 : (1 : Int) ≤ l
        all_goals
          go_wp2_with fail
          go_ret
          exact ⟨ret_bool (by rw [Bool.eq_iff_iff]; simp [nodeB]; omega), fr _⟩
      · go_wp2_with fail
        go_ret
        exact ⟨ret_bool (by rw [Bool.eq_iff_iff]; simp [nodeB]; omega), fr _⟩
    · go_wp2_with fail
      go_ret
      exact ⟨ret_bool (by rw [Bool.eq_iff_iff]; simp [nodeB]; omega), fr _⟩
  go_wp2_with fail
  go_ret
  exact ⟨ret_bool (by simp [nodeB, h0, h1, h2, h3]), fr _⟩

theorem node_any (t : Tm) (v : Value) (w : World) (h : LiesT w t v) :
    Calls Try.prog 90 #[tv t v] w fun e w' => e = .returned (.bool (nodeB t.kind t.num t.name t.args.length)) ∧ Below w.heap.size w w' := by
  cases t with
  | mk k n s ts =>
    rcases h.len with ⟨rfl, a, cap, rfl⟩ | ⟨b, o, cap, rfl, _⟩ <;> exact node_raw k n s _ _ cap w

/-- The nodes of a list from the j-th on. -/
theorem nodesL_drop (ts : List Tm) (j : Nat) (hj : j < ts.length) : nodesL (ts.drop j) = (nodesB ts[j] && nodesL (ts.drop (j + 1))) := by
  rw [List.drop_eq_getElem_cons hj, nodesL]

set_option maxHeartbeats 1000000 in
theorem nodes_any (t : Tm) : ∀ (v : Value) (w : World), LiesT w t v →
    Calls Try.prog 77 #[tv t v] w fun e w' => e = .returned (.bool (nodesB t)) ∧ Below w.heap.size w w' := by
  induction t using Tm.ind with
  | h k n s ts ih =>
    intro v w hv
    have HN := fun w' (h : LiesT w' (.mk k n s ts) v) => node_any (.mk k n s ts) v w' h
    have HV := Lib.hid (fun w' (hb : Below w.heap.size w w') => hv.below hb)
    have HI : Hid (∀ i (hi : i < ts.length) (v : Value) (w : World), LiesT w ts[i] v → Calls Try.prog 77 #[tv ts[i] v] w fun e w' => e = .returned (.bool (nodesB ts[i])) ∧ Below w.heap.size w w') := fun i hi => ih _ (List.getElem_mem hi)
    simp only [tv, Tm.kind, Tm.num, Tm.name, Tm.args] at HN ⊢
    have HB := Lib.hid ((Below.refl w.heap.size w).alloc (Nat.le_refl _) (Obj.cells #[.int .i64 k, .int .i64 n, .string s, v] 24))
    have HN := Lib.hid HN
    clear ih
    by_cases hq : nodeB k n s ts.length = true
    · rcases hv.len with ⟨rfl, a, cap, rfl⟩ | ⟨b, o, cap, rfl, hpos, hlc, hcap, hl⟩
      · have H : Hid (true = nodesB (.mk k n s [])) := by show _ = _; rw [nodesB, hq]; rfl
        have C0 : (w.alloc (Obj.cells #[.int .i64 k, .int .i64 n, .string s, .slice a 0 cap] 24)).cell? ⟨w.heap.size, 3, none⟩ = some (.slice a 0 cap) := by go_simp
        have hq0 : nodeB k n s 0 = true := hq
        clear hv
        go_enter Try.func77, Try.ntmps77
        go_wp2_with (go_at_call 90; refine (HN.out _ (HV.out _ HB.out)).mono ?_; rintro e w1 ⟨rfl, hb1⟩; have C1 := cell_below hb1 _ _ C0; have B1 := Lib.hid (HB.out.trans (hb1.mono HB.out.size)); clear hb1)
        refine wp_loop_rounds 1 ?_
        rw [rounds_succ]
        go_wp2_with fail
        go_ret
        exact ⟨ret_bool H.out, B1.out⟩
      · have H0 : Hid (nodesL (ts.drop 0) = nodesB (.mk k n s ts)) := by show _ = _; rw [nodesB, hq, List.drop_zero, Bool.true_and]
        have HL := Lib.hid hl
        have C0 : (w.alloc (Obj.cells #[.int .i64 k, .int .i64 n, .string s, .slice (some ⟨b, o, none⟩) ts.length cap] 24)).cell? ⟨w.heap.size, 3, none⟩ = some (.slice (some ⟨b, o, none⟩) ts.length cap) := by go_simp
        clear hv hl
        go_enter Try.func77, Try.ntmps77
        go_wp2_with (go_at_call 90; refine (HN.out _ (HV.out _ HB.out)).mono ?_; rintro e w1 ⟨rfl, hb1⟩; have C1 := cell_below hb1 _ _ C0; have B1 := Lib.hid (HB.out.trans (hb1.mono HB.out.size)); clear hb1)
        go_loopw [3] (fun i wr => ∃ j : Nat, j ≤ ts.length ∧ i = .int .i64 j ∧ Hid (nodesL (ts.drop j) = nodesB (.mk k n s ts)) ∧ Hid (Below w.heap.size w wr) ∧ wr.cell? ⟨w.heap.size, 3, none⟩ = some (.slice (some ⟨b, o, none⟩) ts.length cap)) (fun i _ => ts.length - (intOf i).toNat)
        case atStart => exact ⟨0, by omega, rfl, H0, B1, C1⟩
        case round =>
          obtain ⟨j, hj, rfl, hr, hb, hc⟩ := hrel
          by_cases hlt : j < ts.length
          · obtain ⟨u, c0, c1, c2, c3, hu⟩ := HL.out.at j hlt
            have d0 := cell_below hb.out _ _ c0
            have d1 := cell_below hb.out _ _ c1
            have d2 := cell_below hb.out _ _ c2
            have d3 := cell_below hb.out _ _ c3
            have HU := Lib.hid (hu.below hb.out)
            clear hu c0 c1 c2 c3 C1
            by_cases hn : nodesB ts[j] = true
            · have hr1 : Hid (nodesL (ts.drop (j + 1)) = nodesB (.mk k n s ts)) := by show _ = _; rw [← hr.out, nodesL_drop ts j hlt, hn]; rfl
              go_wp2_with (go_at_call 77; refine (HI.out j hlt u _ HU.out).mono ?_; rintro e w2 ⟨rfl, hb2⟩)
              go_roundw
              case rel => exact ⟨j + 1, by omega, by go_num, hr1, Lib.hid (hb.out.trans (hb2.mono hb.out.size)), cell_below hb2 _ _ hc⟩
              case measure => simp [intOf]; omega
            · have hn : nodesB ts[j] = false := by simpa using hn
              have H : Hid (false = nodesB (.mk k n s ts)) := by show _ = _; rw [← hr.out, nodesL_drop ts j hlt, hn]; rfl
              go_wp2_with (go_at_call 77; refine (HI.out j hlt u _ HU.out).mono ?_; rintro e w2 ⟨rfl, hb2⟩)
              go_ret
              exact ⟨ret_bool H.out, hb.out.trans (hb2.mono hb.out.size)⟩
          · have e : j = ts.length := by omega
            have H : Hid (true = nodesB (.mk k n s ts)) := by show _ = _; rw [← hr.out, e, List.drop_length]; rfl
            go_wp2_with fail
            go_ret
            exact ⟨ret_bool H.out, hb.out⟩
    · have hq : nodeB k n s ts.length = false := by simpa using hq
      have H : Hid (false = nodesB (.mk k n s ts)) := by show _ = _; rw [nodesB, hq]; rfl
      clear hv
      go_enter Try.func77, Try.ntmps77
      go_wp2_with (go_at_call 90; refine (HN.out _ (HV.out _ HB.out)).mono ?_; rintro e w1 ⟨rfl, hb1⟩)
      go_ret
      exact ⟨ret_bool H.out, HB.out.trans (hb1.mono HB.out.size)⟩

end Go.Proofs.Yteilodihjhdngaa

/- The contract of the specification's identical. -/
namespace Go.Proofs.Yteilodihjhdngaa
open Go.RowKit Go.Proofs.HT

theorem _root_.Go.Proofs.HT.LiesT.slice {w : World} {t : Tm} {v : Value} (h : LiesT w t v) : ∃ a cap, v = .slice a t.args.length cap := by
  cases t with
  | mk k n s ts => rcases h.len with ⟨rfl, a, cap, rfl⟩ | ⟨b, o, cap, rfl, _⟩ <;> exact ⟨_, _, rfl⟩

theorem sameB_mk (k n k' n' : Int) (s s' : ByteArray) (ts us : List Tm) : sameB (.mk k n s ts) (.mk k' n' s' us) = (decide (k = k' ∧ n = n' ∧ s = s' ∧ ts.length = us.length) && sameL ts us) := by
  rw [sameB]; rfl

set_option maxHeartbeats 1000000 in
/-- The heads are not the same. -/
theorem ident_heads (t u : Tm) (v x : Value) (w : World) (hv : LiesT w t v) (hx : LiesT w u x) (hd : ¬ (t.kind = u.kind ∧ t.num = u.num ∧ t.name = u.name ∧ t.args.length = u.args.length)) :
    Calls Try.prog 83 #[tv t v, tv u x] w fun e w' => e = .returned (.bool false) ∧ Below w.heap.size w w' := by
  obtain ⟨a, c, rfl⟩ := hv.slice
  obtain ⟨b, d, rfl⟩ := hx.slice
  cases t with
  | mk k n s ts =>
  cases u with
  | mk k' n' s' us =>
  simp only [tv, Tm.kind, Tm.num, Tm.name, Tm.args] at hd ⊢
  clear hv hx
  have fr : ∀ o p, Below w.heap.size w ((w.alloc o).alloc p) := fun o p => ((Below.refl _ _).alloc (Nat.le_refl _) _).alloc (by simp) _
  go_enter Try.func83, Try.ntmps83
  by_cases c0 : k = k'
  · subst c0
    by_cases c1 : n = n'
    · subst c1
      by_cases c2 : s = s'
      · subst c2
        by_cases c3 : ts.length = us.length
        · exact absurd ⟨rfl, rfl, rfl, c3⟩ hd
        · have e3 : ((ts.length : Int) != (us.length : Int)) = true := by simp; omega
          go_wp2_with fail
          go_ret
          exact ⟨rfl, fr _ _⟩
      · have e2 : ¬ s.toList = s'.toList := fun h => c2 (ByteArray.ext (by rw [ByteArray.toList_eq, ByteArray.toList_eq] at h; exact Array.toList_inj.1 h))
        go_wp2_with fail
        go_ret
        exact ⟨rfl, fr _ _⟩
    · go_wp2_with fail
      go_ret
      exact ⟨rfl, fr _ _⟩
  · go_wp2_with fail
    go_ret
    exact ⟨rfl, fr _ _⟩

theorem sameL_drop (ts us : List Tm) (j : Nat) (hj : j < ts.length) (hk : j < us.length) : sameL (ts.drop j) (us.drop j) = (sameB ts[j] us[j] && sameL (ts.drop (j + 1)) (us.drop (j + 1))) := by
  rw [List.drop_eq_getElem_cons hj, List.drop_eq_getElem_cons hk, sameL]

set_option maxHeartbeats 2000000 in
theorem ident_any (t : Tm) : ∀ (u : Tm) (v x : Value) (w : World), LiesT w t v → LiesT w u x →
    Calls Try.prog 83 #[tv t v, tv u x] w fun e w' => e = .returned (.bool (sameB t u)) ∧ Below w.heap.size w w' := by
  induction t using Tm.ind with
  | h k n s ts ih =>
    intro u v x w hv hx
    by_cases hd : k = u.kind ∧ n = u.num ∧ s = u.name ∧ ts.length = u.args.length
    · cases u with
      | mk k' n' s' us =>
      obtain ⟨rfl, rfl, rfl, hlen⟩ := hd
      simp only [Tm.kind, Tm.num, Tm.name, Tm.args, tv] at hlen ⊢
      have e3 : ((ts.length : Int) != (us.length : Int)) = false := by simp; omega
      have H0 : Hid (sameL (ts.drop 0) (us.drop 0) = sameB (.mk k n s ts) (.mk k n s us)) := by
        show _ = _
        rw [sameB_mk, List.drop_zero, List.drop_zero, decide_eq_true (by simp [hlen]), Bool.true_and]
      have HI : Hid (∀ i (hi : i < ts.length) (u : Tm) (v x : Value) (w : World), LiesT w ts[i] v → LiesT w u x → Calls Try.prog 83 #[tv ts[i] v, tv u x] w fun e w' => e = .returned (.bool (sameB ts[i] u)) ∧ Below w.heap.size w w') := fun i hi => ih _ (List.getElem_mem hi)
      have fr : Hid (∀ o p, Below w.heap.size w ((w.alloc o).alloc p)) := fun o p => ((Below.refl _ _).alloc (Nat.le_refl _) _).alloc (by simp) _
      rcases hv.len with ⟨rfl, a, cap, rfl⟩ | ⟨b, o, cap, rfl, hpos, hlc, hcap, hl⟩
      · obtain rfl : us = [] := by simpa using hlen.symm
        obtain ⟨b, d, rfl⟩ := hx.slice
        have H : Hid (true = sameB (.mk k n s []) (.mk k n s [])) := by show _ = _; rw [← H0.out]; rfl
        simp only [Tm.args, List.length_nil] at e3 ⊢
        clear hv hx ih
        go_enter Try.func83, Try.ntmps83
        go_wp2_with fail
        refine wp_loop_rounds 1 ?_
        rw [rounds_succ]
        go_wp2_with fail
        go_ret
        exact ⟨ret_bool H.out, fr.out _ _⟩
      · rcases hx.len with ⟨rfl, _⟩ | ⟨b', o', cap', rfl, hpos', hlc', hcap', hl'⟩
        · exact absurd hlen (by show ¬ ts.length = 0; omega)
        have HL := Lib.hid hl
        have HL' := Lib.hid hl'
        clear hv hx ih hl hl'
        rw [← hlen] at hlc' e3 ⊢
        have HLen := Lib.hid hlen
        clear hlen
        go_enter Try.func83, Try.ntmps83
        go_wp2_with fail
        go_loopw [5] (fun i wr => ∃ j : Nat, j ≤ ts.length ∧ i = .int .i64 j ∧ Hid (sameL (ts.drop j) (us.drop j) = sameB (.mk k n s ts) (.mk k n s us)) ∧ Hid (Below w.heap.size w wr) ∧ wr.cell? ⟨w.heap.size, 3, none⟩ = some (.slice (some ⟨b, o, none⟩) ts.length cap) ∧ wr.cell? ⟨w.heap.size + 1, 3, none⟩ = some (.slice (some ⟨b', o', none⟩) ts.length cap')) (fun i _ => ts.length - (intOf i).toNat)
        case atStart => exact ⟨0, by omega, rfl, H0, fr.out _ _, by go_simp, by go_simp⟩
        case round =>
          obtain ⟨j, hj, rfl, hr, hb, hc, hc'⟩ := hrel
          by_cases hlt : j < ts.length
          · have hlt' : j < us.length := by rw [← HLen.out]; exact hlt
            obtain ⟨u, c0, c1, c2, c3, hu⟩ := HL.out.at j hlt
            have d0 := cell_below hb.out _ _ c0
            have d1 := cell_below hb.out _ _ c1
            have d2 := cell_below hb.out _ _ c2
            have d3 := cell_below hb.out _ _ c3
            have HU := Lib.hid (hu.below hb.out)
            obtain ⟨y, g0, g1, g2, g3, hy⟩ := HL'.out.at j hlt'
            have f0 := cell_below hb.out _ _ g0
            have f1 := cell_below hb.out _ _ g1
            have f2 := cell_below hb.out _ _ g2
            have f3 := cell_below hb.out _ _ g3
            have HY := Lib.hid (hy.below hb.out)
            clear hu c0 c1 c2 c3 hy g0 g1 g2 g3
            have hi1 : (j : Int) < (ts.length : Int) := by omega
            go_wp2_with fail
            go_still_tail 10, (by kernel_rfl)
            change wpList _ _ _ _ _ wr.drew
            have hb2 := Lib.hid hb.out.drew
            have HU2 := Lib.hid (LiesT.keep (w := wr) (w' := wr.drew) (fun _ _ h => h) _ _ HU.out)
            have HY2 := Lib.hid (LiesT.keep (w := wr) (w' := wr.drew) (fun _ _ h => h) _ _ HY.out)
            have k1 : wr.drew.cell? ⟨w.heap.size, 3, none⟩ = _ := hc
            have k2 : wr.drew.cell? ⟨w.heap.size + 1, 3, none⟩ = _ := hc'
            clear hc hc' HU HY d0 d1 d2 d3 f0 f1 f2 f3 hb
            generalize wr.drew = w2 at *
            by_cases hn : sameB ts[j] us[j] = true
            · have hr1 : Hid (sameL (ts.drop (j + 1)) (us.drop (j + 1)) = sameB (.mk k n s ts) (.mk k n s us)) := by show _ = _; rw [← hr.out, sameL_drop ts us j hlt hlt', hn]; rfl
              go_wp2_with (go_at_call 83; refine (HI.out j hlt us[j] u y _ HU2.out HY2.out).mono ?_; rintro e w3 ⟨rfl, hb3⟩)
              go_roundw
              case rel => exact ⟨j + 1, by omega, by go_num, hr1, Lib.hid (hb2.out.trans (hb3.mono hb2.out.size)), cell_below hb3 _ _ k1, cell_below hb3 _ _ k2⟩
              case measure => simp [intOf]; omega
            · have hn : sameB ts[j] us[j] = false := by simpa using hn
              have H : Hid (false = sameB (.mk k n s ts) (.mk k n s us)) := by show _ = _; rw [← hr.out, sameL_drop ts us j hlt hlt', hn]; rfl
              go_wp2_with (go_at_call 83; refine (HI.out j hlt us[j] u y _ HU2.out HY2.out).mono ?_; rintro e w3 ⟨rfl, hb3⟩)
              go_ret
              exact ⟨ret_bool H.out, hb2.out.trans (hb3.mono hb2.out.size)⟩
          · have e : j = ts.length := by omega
            have H : Hid (true = sameB (.mk k n s ts) (.mk k n s us)) := by show _ = _; rw [← hr.out, e, List.drop_length]; rfl
            go_wp2_with fail
            go_ret
            exact ⟨ret_bool H.out, hb.out⟩
    · have H : false = sameB (.mk k n s ts) u := by
        cases u with
        | mk k' n' s' us => rw [sameB_mk, decide_eq_false (by simpa [Tm.kind, Tm.num, Tm.name, Tm.args] using hd)]; rfl
      refine (ident_heads (.mk k n s ts) u v x w hv hx hd).mono ?_
      rintro e w1 ⟨rfl, hb⟩
      exact ⟨ret_bool H, hb⟩

end Go.Proofs.Yteilodihjhdngaa
