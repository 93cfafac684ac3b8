/- The contracts of the specification's Unary and Known. -/
import Derived.Test.YthfclbbmioenlaaDoorE3
import Derived.Test.YthfclbbmioenlaaDoorC1
namespace Go.Proofs.YthfclbbmioenlaaDoor
open Go.RowKit

theorem ru_names (w : World) (a : Int) (h0 : -9223372036854775808 ≤ a) (h1 : a ≤ 9223372036854775807) :
    (Calls Tryd.prog 14 #[.string nMinus, .int .i64 a] w fun e w' => e = .returned (.tuple #[.int .i64 (uV nMinus a), .int .i64 (uE nMinus a)]) ∧ w = w') ∧
    (Calls Tryd.prog 14 #[.string nPlus, .int .i64 a] w fun e w' => e = .returned (.tuple #[.int .i64 (uV nPlus a), .int .i64 (uE nPlus a)]) ∧ w = w') ∧
    (Calls Tryd.prog 14 #[.string nCompl, .int .i64 a] w fun e w' => e = .returned (.tuple #[.int .i64 (uV nCompl a), .int .i64 (uE nCompl a)]) ∧ w = w') := by
  refine ⟨?_, ?_, ?_⟩
  · have H : Hid (rV (-a) = uV nMinus a ∧ rE (-a) = uE nMinus a) := ⟨rfl, rfl⟩
    go_enter Tryd.func14, Tryd.ntmps14
    go_wp2_with (go_at_call 27; refine (r_neg _ h0 h1 _).mono ?_; rintro e w' ⟨rfl, rfl⟩)
    go_ret2
    exact ⟨pow_one_ret H.out, rfl⟩
  · have H : Hid (a = uV nPlus a ∧ 0 = uE nPlus a) := ⟨rfl, rfl⟩
    go_enter Tryd.func14, Tryd.ntmps14
    go_wp2_with fail
    go_ret2
    exact ⟨pow_one_ret H.out, rfl⟩
  · have H : Hid (-1 - a = uV nCompl a ∧ 0 = uE nCompl a) := ⟨rfl, rfl⟩
    go_enter Tryd.func14, Tryd.ntmps14
    go_wp2_with fail
    go_ret2
    exact ⟨pow_one_ret H.out, rfl⟩

theorem ru_abs (w : World) (a : Int) (h0 : -9223372036854775808 ≤ a) (h1 : a ≤ 9223372036854775807) :
    Calls Tryd.prog 14 #[.string nAbs, .int .i64 a] w fun e w' => e = .returned (.tuple #[.int .i64 (uV nAbs a), .int .i64 (uE nAbs a)]) ∧ w = w' := by
  by_cases ha : a < 0
  · have H : Hid (rV (-a) = uV nAbs a ∧ rE (-a) = uE nAbs a) := by
      show rV (-a) = rV (aabs a) ∧ rE (-a) = rE (aabs a)
      rw [aabs, if_pos ha]; exact ⟨rfl, rfl⟩
    go_enter Tryd.func14, Tryd.ntmps14
    go_wp2_with (go_at_call 27; refine (r_neg _ h0 h1 _).mono ?_; rintro e w' ⟨rfl, rfl⟩)
    go_ret2
    exact ⟨pow_one_ret H.out, rfl⟩
  · have H : Hid (a = uV nAbs a ∧ 0 = uE nAbs a) := by
      show a = rV (aabs a) ∧ 0 = rE (aabs a)
      rw [aabs, if_neg ha]; exact rr_in ⟨h0, h1⟩
    go_enter Tryd.func14, Tryd.ntmps14
    go_wp2_with fail
    go_ret2
    exact ⟨pow_one_ret H.out, rfl⟩

theorem ru_sign (w : World) (a : Int) :
    Calls Tryd.prog 14 #[.string nSign, .int .i64 a] w fun e w' => e = .returned (.tuple #[.int .i64 (uV nSign a), .int .i64 (uE nSign a)]) ∧ w = w' := by
  by_cases ha : a < 0
  · have H : Hid (-1 = uV nSign a ∧ 0 = uE nSign a) := by
      show -1 = sgn a ∧ (0 : Int) = 0
      rw [sgn, if_pos ha]; exact ⟨rfl, rfl⟩
    go_enter Tryd.func14, Tryd.ntmps14
    go_wp2_with fail
    go_ret2
    exact ⟨pow_one_ret H.out, rfl⟩
  · by_cases hb : 0 < a
    · have H : Hid (1 = uV nSign a ∧ 0 = uE nSign a) := by
        show 1 = sgn a ∧ (0 : Int) = 0
        rw [sgn, if_neg ha, if_pos hb]; exact ⟨rfl, rfl⟩
      go_enter Tryd.func14, Tryd.ntmps14
      go_wp2_with fail
      go_ret2
      exact ⟨pow_one_ret H.out, rfl⟩
    · have H : Hid (0 = uV nSign a ∧ 0 = uE nSign a) := by
        show 0 = sgn a ∧ (0 : Int) = 0
        rw [sgn, if_neg ha, if_neg hb]; exact ⟨rfl, rfl⟩
      go_enter Tryd.func14, Tryd.ntmps14
      go_wp2_with fail
      go_ret2
      exact ⟨pow_one_ret H.out, rfl⟩

theorem ne_list {s : ByteArray} (l : List UInt8) (h : ¬ s = ⟨l.toArray⟩) : (s.toList == l) = false := by
  rw [Lib.toList_data, beq_eq_false_iff_ne]
  intro e
  refine h ?_
  cases s with
  | mk d =>
    have e2 : d.toList = l := e
    subst e2
    simp

theorem ru_no (s : ByteArray) (w : World) (a : Int) (h : uKnown s = false) :
    Calls Tryd.prog 14 #[.string s, .int .i64 a] w fun e w' => e = .returned (.tuple #[.int .i64 0, .int .i64 4]) ∧ w = w' := by
  simp only [uKnown, decide_eq_false_iff_not, not_or] at h
  obtain ⟨k1, k2, k3, k4, k5⟩ := h
  have q1 := ne_list [45] k1
  have q2 := ne_list [43] k2
  have q3 := ne_list [97, 98, 115] k3
  have q4 := ne_list [115, 105, 103, 110] k4
  have q5 := ne_list [92] k5
  clear k1 k2 k3 k4 k5
  go_enter Tryd.func14, Tryd.ntmps14
  go_wp2_with fail
  go_ret2
  exact ⟨rfl, rfl⟩

theorem ref_unary (s : ByteArray) (a : Int) (h0 : -9223372036854775808 ≤ a) (h1 : a ≤ 9223372036854775807) (w : World) :
    Calls Tryd.prog 14 #[.string s, .int .i64 a] w fun e w' => e = .returned (.tuple #[.int .i64 (uV s a), .int .i64 (uE s a)]) ∧ w = w' := by
  cases hk : uKnown s
  · have e1 : uV s a = 0 ∧ uE s a = 4 := by
      simp only [uKnown, decide_eq_false_iff_not, not_or] at hk
      obtain ⟨k1, k2, k3, k4, k5⟩ := hk
      simp only [uV, uE, if_neg k1, if_neg k2, if_neg k3, if_neg k4, if_neg k5]; exact ⟨trivial, trivial⟩
    rw [e1.1, e1.2]; exact ru_no s w a hk
  · simp only [uKnown, decide_eq_true_eq] at hk
    rcases hk with rfl | rfl | rfl | rfl | rfl
    · exact (ru_names w a h0 h1).1
    · exact (ru_names w a h0 h1).2.1
    · exact ru_abs w a h0 h1
    · exact ru_sign w a
    · exact (ru_names w a h0 h1).2.2

/-- The names, as the specification lists them. -/
def nmU : List ByteArray := [nMinus, nPlus, nAbs, nSign, nCompl]
def nmB : List ByteArray := [bPlus, bMinus, bTimes, bQuot, bRem, bDiv, bMod, bMin, bMax, bShr, bShl, bAnd, bOr, bXor, bPow, bGcd]
theorem getD_at {α : Type} (l : List α) (i : Nat) (d : α) (hi : i < l.length) : l.getD i d = l[i] := by simp [List.getD, List.getElem?_eq_getElem hi]
theorem nmU_known (s : ByteArray) : (∃ i, i < nmU.length ∧ nmU.getD i nMinus = s) ↔ uKnown s = true := by
  rw [show uKnown s = true ↔ s ∈ nmU by simp [uKnown, nmU]]
  constructor
  · rintro ⟨i, hi, rfl⟩
    rw [getD_at _ _ _ hi]; exact List.getElem_mem hi
  · intro h
    obtain ⟨i, hi, e⟩ := List.getElem_of_mem h
    exact ⟨i, hi, by rw [getD_at _ _ _ hi, e]⟩
theorem nmB_known (s : ByteArray) : (∃ i, i < nmB.length ∧ nmB.getD i nMinus = s) ↔ bKnown s = true := by
  rw [show bKnown s = true ↔ s ∈ nmB by simp [bKnown, nmB]]
  constructor
  · rintro ⟨i, hi, rfl⟩
    rw [getD_at _ _ _ hi]; exact List.getElem_mem hi
  · intro h
    obtain ⟨i, hi, e⟩ := List.getElem_of_mem h
    exact ⟨i, hi, by rw [getD_at _ _ _ hi, e]⟩

theorem names1 (w : World) : Calls Tryd.prog 29 #[.int .i64 1] w fun e w' => e = .returned (.slice (some ⟨w.heap.size, 0, none⟩) 5 5) ∧ w' = w.alloc (.cells #[.string nMinus, .string nPlus, .string nAbs, .string nSign, .string nCompl] 9) := by
  go_enter Tryd.func29, Tryd.ntmps29
  go_wp2_with fail
  go_ret
  exact ⟨rfl, rfl⟩
theorem names2 (w : World) : Calls Tryd.prog 29 #[.int .i64 2] w fun e w' => e = .returned (.slice (some ⟨w.heap.size, 0, none⟩) 16 16) ∧ w' = w.alloc (.cells #[.string bPlus, .string bMinus, .string bTimes, .string bQuot, .string bRem, .string bDiv, .string bMod, .string bMin, .string bMax, .string bShr, .string bShl, .string bAnd, .string bOr, .string bXor, .string bPow, .string bGcd] 9) := by
  go_enter Tryd.func29, Tryd.ntmps29
  go_wp2_with fail
  go_ret
  exact ⟨rfl, rfl⟩
theorem names0 (n : Int) (h1 : n ≠ 1) (h2 : n ≠ 2) (w : World) : Calls Tryd.prog 29 #[.int .i64 n] w fun e w' => e = .returned (.slice none 0 0) ∧ w' = w := by
  have q1 : (n == 1) = false := by simpa using h1
  have q2 : (n == 2) = false := by simpa using h2
  clear h1 h2
  go_enter Tryd.func29, Tryd.ntmps29
  go_wp2_with fail
  go_ret
  exact ⟨rfl, rfl⟩

theorem alloc_cell (w : World) (ns : List ByteArray) (t : TypeId) (i : Nat) (hi : i < ns.length) : (w.alloc (.cells (ns.map Value.string).toArray t)).cell? ⟨w.heap.size, i, none⟩ = some (.string (ns.getD i nMinus)) := by
  have h := (MapKept.heap_alloc w (.cells (ns.map Value.string).toArray t)).1
  unfold World.cell?
  rw [h]
  simp [List.getElem?_eq_getElem hi]

set_option maxHeartbeats 1000000 in
theorem kn_loop (s : ByteArray) (n : Int) (ns : List ByteArray) (N : Nat) (hN : ns.length = N) (hlen : N ≤ 1000) (w w1 : World)
    (h29 : Hid (Calls Tryd.prog 29 #[.int .i64 n] w fun e w' => e = .returned (.slice (some ⟨w.heap.size, 0, none⟩) N N) ∧ w' = w1)) (hb1 : Below w.heap.size w w1)
    (hc : ∀ i, i < N → w1.cell? ⟨w.heap.size, i, none⟩ = some (.string (ns.getD i nMinus))) (c : Bool) (hk : (∃ i, i < ns.length ∧ ns.getD i nMinus = s) ↔ c = true) :
    Calls Tryd.prog 16 #[.string s, .int .i64 n] w fun e w' => e = .returned (.bool c) ∧ Below w.heap.size w w' := by
  have HK := Lib.hid hk
  have HN := Lib.hid hN
  clear hk hN
  go_enter Tryd.func16, Tryd.ntmps16
  go_wp2_with (go_at_call 29; refine h29.out.mono ?_; rintro e w' ⟨rfl, rfl⟩)
  go_loop [6] (fun i => ∃ k : Nat, k ≤ N ∧ i = .int .i64 k ∧ Hid (∀ j, j < k → ns.getD j nMinus ≠ s)) (fun i => N - (intOf i).toNat)
  case atStart => exact ⟨0, by omega, rfl, fun j h => absurd h (by omega)⟩
  case round =>
    obtain ⟨k, hkn, rfl, hI⟩ := hrel
    by_cases hlt : k < N
    · have hck := hc k hlt
      obtain ⟨x, hx⟩ : ∃ x, x = ns.getD k nMinus := ⟨_, rfl⟩
      rw [← hx] at hck
      have HX := Lib.hid hx
      clear hx hc
      by_cases he : x = s
      · have H : Hid (true = c) := by
          show _ = _
          exact (HK.out.1 ⟨k, by rw [HN.out]; exact hlt, by rw [← HX.out, he]⟩).symm
        have q : (x.toList == s.toList) = true := by rw [he]; simp
        clear he hI
        go_wp2_with fail
        go_ret
        exact ⟨ret_bool H.out, hb1⟩
      · have hNx : Hid (∀ j, j < k + 1 → ns.getD j nMinus ≠ s) := fun j hj => by
          by_cases e : j = k
          · subst e; rw [← HX.out]; exact he
          · exact hI.out j (by omega)
        have q : (x.toList == s.toList) = false := by
          rw [beq_eq_false_iff_ne]
          intro e
          rw [Lib.toList_data, Lib.toList_data] at e
          exact he (by rw [← Lib.mk_data x, ← Lib.mk_data s, e])
        clear he hI
        go_wp2_with fail
        go_round
        case rel => exact ⟨k + 1, by omega, by go_num, hNx⟩
        case measure => simp [intOf]; omega
    · have H : Hid (false = c) := by
        show _ = _
        cases hcc : c
        · rfl
        · obtain ⟨i, hi, he⟩ := HK.out.2 hcc
          rw [HN.out] at hi
          exact absurd he (hI.out i (by omega))
      clear hI hc
      go_wp2_with fail
      go_ret
      exact ⟨ret_bool H.out, hb1⟩

theorem ref_known (s : ByteArray) (n : Int) (w : World) :
    Calls Tryd.prog 16 #[.string s, .int .i64 n] w fun e w' => e = .returned (.bool (knB s n)) ∧ Below w.heap.size w w' := by
  by_cases h1 : n = 1
  · subst h1
    exact kn_loop s 1 nmU 5 rfl (by omega) w _ (names1 w) ((Below.refl _ _).alloc (Nat.le_refl _) _) (fun i hi => alloc_cell w nmU 9 i hi) _ (nmU_known s)
  by_cases h2 : n = 2
  · subst h2
    exact kn_loop s 2 nmB 16 rfl (by omega) w _ (names2 w) ((Below.refl _ _).alloc (Nat.le_refl _) _) (fun i hi => alloc_cell w nmB 9 i hi) _ (nmB_known s)
  · have e : knB s n = false := by rw [knB, if_neg h1, if_neg h2]
    rw [e]
    have H := Lib.hid (names0 n h1 h2 w)
    clear h1 h2 e
    go_enter Tryd.func16, Tryd.ntmps16
    go_wp2_with (go_at_call 29; refine H.out.mono ?_; rintro e w' ⟨rfl, rfl⟩)
    refine wp_loop_rounds 1 ?_
    rw [rounds_succ]
    go_wp2_with fail
    go_ret
    exact ⟨rfl, Below.refl _ _⟩

/-- The law's walk. -/
theorem unary_walk (s : ByteArray) (a n : Int) (h0 : -9223372036854775808 ≤ a) (h1 : a ≤ 9223372036854775807) (w : World) (hL : Laid w) :
    Calls Tryd.prog 3 #[.string s, .int .i64 a, .int .i64 n] w fun e w' => e = .returned (.bool true) ∧ Below w.heap.size w w' := by
  have HL := Lib.hid hL
  clear hL
  obtain ⟨V, hV⟩ : ∃ V, V = uV s a := ⟨_, rfl⟩
  obtain ⟨E, hE⟩ : ∃ E, E = uE s a := ⟨_, rfl⟩
  obtain ⟨c, hc⟩ : ∃ c, c = knB s n := ⟨_, rfl⟩
  have f1 : (c == c) = true := by simp
  have f2 : (V == V) = true := by simp
  have f3 : (E == E) = true := by simp
  have HU : Hid (∀ w, Calls Tryd.prog 13 #[.string s, .int .i64 a] w fun e w' => e = .returned (.tuple #[.int .i64 V, .int .i64 E]) ∧ Below w.heap.size w w') := by
    show ∀ w, _
    rw [hV, hE]; exact unary_any s a h0 h1
  have HR : Hid (∀ w, Calls Tryd.prog 14 #[.string s, .int .i64 a] w fun e w' => e = .returned (.tuple #[.int .i64 V, .int .i64 E]) ∧ w = w') := by
    show ∀ w, _
    rw [hV, hE]; exact ref_unary s a h0 h1
  have HK : Hid (∀ w, Calls Tryd.prog 15 #[.string s, .int .i64 n] w fun e w' => e = .returned (.bool c) ∧ Below w.heap.size w w') := by
    show ∀ w, _
    rw [hc]; exact known_any s n
  have HQ : Hid (∀ w, Calls Tryd.prog 16 #[.string s, .int .i64 n] w fun e w' => e = .returned (.bool c) ∧ Below w.heap.size w w') := by
    show ∀ w, _
    rw [hc]; exact ref_known s n
  clear hV hE hc h0 h1
  go_enter Tryd.func3, Tryd.ntmps3
  go_wp2_with fail
  refine (HU.out _).mono ?_
  rintro e w1 ⟨rfl, B1⟩
  go_wp2_with fail
  refine (HR.out _).mono ?_
  rintro e w' ⟨rfl, rfl⟩
  go_wp2_with fail
  refine (HK.out _).mono ?_
  rintro e w2 ⟨rfl, hb2⟩
  have B2 := B1.trans (hb2.mono B1.size)
  clear B1 hb2
  go_wp2_with fail
  refine (HQ.out _).mono ?_
  rintro e w3 ⟨rfl, hb3⟩
  have B3 := B2.trans (hb3.mono B2.size)
  clear B2 hb3
  go_wp2_with fail
  refine (example_any _ (HL.out.below B3)).mono ?_
  rintro e w4 ⟨rfl, hb4⟩
  have B4 := B3.trans (hb4.mono B3.size)
  clear B3 hb4
  go_wp2_with fail
  go_ret
  exact ⟨rfl, B4⟩

end Go.Proofs.YthfclbbmioenlaaDoor
