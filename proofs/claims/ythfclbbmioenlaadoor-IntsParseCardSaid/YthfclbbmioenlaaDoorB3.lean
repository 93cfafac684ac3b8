/- The contracts of strconv.ParseInt for digits of a base, all of them right, with a sign or without. -/
import Derived.Test.YthfclbbmioenlaaDoorB2
namespace Go.Proofs.YthfclbbmioenlaaDoor
open Go.RowKit

theorem below_bytes (w : World) (s : ByteArray) : Below w.heap.size w (Lib.bytesWorld w 5 s) :=
  ⟨by simp [Lib.bytesWorld, World.freeze] <;> first | rfl | (split <;> rfl), by simp [Lib.bytesWorld, World.freeze] <;> first | rfl | (split <;> rfl), by simp [Lib.bytesWorld, World.freeze] <;> first | rfl | (split <;> rfl), by rw [Lib.bytesWorld_size]; omega, fun j hj => Lib.bytesWorld_at_old w 5 s j hj⟩

theorem uint_any (t : ByteArray) (b : Int) (h2 : 2 ≤ b) (h36 : b ≤ 36) (hne : t.size ≠ 0) (hmax : t.size ≤ 9223372036854775806) (hall : allD b t.data.toList) (w : World) :
    Calls Tryd.prog 81 #[.string t, .int .i64 b, .int .i64 64] w fun e w' => e = .returned (.tuple #[.int .u64 (umV (mag b t.data.toList)), umE (mag b t.data.toList)]) ∧ Below w.heap.size w w' := by
  by_cases h10 : b = 10
  · subst h10
    refine (uint_10 t hne hmax hall w).mono ?_
    rintro e w' ⟨rfl, rfl⟩
    exact ⟨rfl, below_bytes w t⟩
  by_cases h16 : b = 16
  · subst h16
    refine (uint_16 t hne hmax hall w).mono ?_
    rintro e w' ⟨rfl, rfl⟩
    exact ⟨rfl, below_bytes w t⟩
  refine (uint_gen t b _ h2 h36 h10 h16 rfl hne hmax hall w).mono ?_
  rintro e w' ⟨rfl, rfl⟩
  exact ⟨rfl, below_bytes w t⟩

def ipV (m : Int) : Int := if m < 9223372036854775808 then m else 9223372036854775807
def ipE (m : Int) : Value := if m < 9223372036854775808 then .nilIface else .iface 72 (.int .i64 1)
def inV (m : Int) : Int := if m ≤ 9223372036854775808 then -m else -9223372036854775808
def inE (m : Int) : Value := if m ≤ 9223372036854775808 then .nilIface else .iface 72 (.int .i64 1)
theorem ret_ip {v v' : Int} {e e' : Value} (h : v' = v ∧ e' = e) : Ending.returned (.tuple #[.int .i64 v, e]) = .returned (.tuple #[.int .i64 v', e']) := by rw [h.1, h.2]

theorem mag_nonneg (b : Int) (h2 : 2 ≤ b) (l : List UInt8) : 0 ≤ mag b l := magF_ge b (by omega) l 0 (by omega)

theorem emp_of (s : ByteArray) (hne : s.size ≠ 0) : s.toList.isEmpty = false := by
  rw [← decide_eq_emptyBytes]
  exact decide_eq_false (fun h => hne (by rw [h]; rfl))

theorem neqE (W : World) : (binOp .neq 59 (.iface 72 (.int .i64 1)) (.iface 72 (.int .i64 1))).run Tryd.prog W = .ok (.bool false) W := by kernel_rfl

set_option maxHeartbeats 1000000 in
set_option maxRecDepth 100000 in
theorem int_plain (s : ByteArray) (b : Int) (h2 : 2 ≤ b) (h36 : b ≤ 36) (hne : s.size ≠ 0) (hmax : s.size ≤ 9223372036854775806) (hall : allD b s.data.toList) (w : World) :
    Calls Tryd.prog 75 #[.string s, .int .i64 b, .int .i64 64] w fun e w' => e = .returned (.tuple #[.int .i64 (ipV (mag b s.data.toList)), ipE (mag b s.data.toList)]) ∧ Below w.heap.size w w' := by
  have hemp := emp_of s hne
  have hpos : 0 < s.size := by omega
  have hc : dV (s[0]'hpos) < b := hall _ (by
    have h3 : s.data.toList[0]'(by rw [← Lib.size_eq]; omega) = s[0]'hpos := rfl
    rw [← h3]; exact List.getElem_mem _)
  have h43 : ((s[0]'hpos).toNat : Int) ≠ 43 := by
    intro h
    have : dV (s[0]'hpos) = 36 := by
      have e : (s[0]'hpos).toNat = 43 := by omega
      simp [dV, e]
    omega
  have h45 : ((s[0]'hpos).toNat : Int) ≠ 45 := by
    intro h
    have : dV (s[0]'hpos) = 36 := by
      have e : (s[0]'hpos).toNat = 45 := by omega
      simp [dV, e]
    omega
  have q43 : (((s[0]'hpos).toNat : Int) == 43) = false := by simpa using h43
  have q45 : (((s[0]'hpos).toNat : Int) == 45) = false := by simpa using h45
  have hU := Lib.hid (uint_any s b h2 h36 hne hmax hall w)
  have hm := mag_nonneg b h2 s.data.toList
  have hq1 := neqE
  obtain ⟨M, hM⟩ : ∃ M, M = mag b s.data.toList := ⟨_, rfl⟩
  rw [← hM] at hU hm ⊢
  clear hM hc h43 h45 hall hne
  by_cases hr : M < 9223372036854775808
  · have hu := um_in (m := M) (by omega)
    rw [hu.1, hu.2] at hU
    have H : Hid (ipV M = M ∧ ipE M = .nilIface) := by show _ ∧ _; simp [ipV, ipE, hr]
    clear hu
    go_enter Tryd.func75, Tryd.ntmps75
    go_wp2_with (go_at_call 81; refine hU.out.mono ?_; rintro e w1 ⟨rfl, hw1⟩)
    go_ret2
    exact ⟨ret_ip H.out, hw1⟩
  · have H : Hid (ipV M = 9223372036854775807 ∧ ipE M = .iface 72 (.int .i64 1)) := by show _ ∧ _; simp [ipV, ipE, hr]
    have hr2 : 9223372036854775808 ≤ M := by omega
    clear hr
    by_cases ho : M < 18446744073709551616
    · have hu := um_in (m := M) ho
      rw [hu.1, hu.2] at hU
      clear hu
      go_enter Tryd.func75, Tryd.ntmps75
      go_wp2_with (go_at_call 81; refine hU.out.mono ?_; rintro e w1 ⟨rfl, hw1⟩)
      go_ret2
      exact ⟨ret_ip H.out, hw1⟩
    · have hu := um_out (m := M) (by omega)
      rw [hu.1, hu.2] at hU
      clear hu ho hr2 hm
      go_enter Tryd.func75, Tryd.ntmps75
      go_wp2_with (go_at_call 81; refine hU.out.mono ?_; rintro e w1 ⟨rfl, hw1⟩)
      go_ret2
      exact ⟨ret_ip H.out, hw1⟩

set_option maxHeartbeats 1000000 in
set_option maxRecDepth 100000 in
theorem int_minus (s : ByteArray) (r : List UInt8) (hs : s.data.toList = 45 :: r) (b : Int) (h2 : 2 ≤ b) (h36 : b ≤ 36) (hne : r ≠ []) (hmax : s.size ≤ 9223372036854775806) (hall : allD b r) (w : World) :
    Calls Tryd.prog 75 #[.string s, .int .i64 b, .int .i64 64] w fun e w' => e = .returned (.tuple #[.int .i64 (inV (mag b r)), inE (mag b r)]) ∧ Below w.heap.size w w' := by
  have hsz : s.size = r.length + 1 := by rw [Lib.size_eq, hs]; rfl
  have hemp := emp_of s (by omega)
  have hpos : 0 < s.size := by omega
  have hs0 : s[0]'hpos = 45 := by have := Lib.getD_at s 0 hpos; rw [hs] at this; exact this
  have hrl : 0 < r.length := List.length_pos_iff.2 hne
  have hsl : ∀ W, (Instr.slice 9 (.string s) (some (.int .i64 1)) none none).run Tryd.prog W = .ok (.string (s.extract 1 s.size)) W := fun W => by
    rw [run_slice_string_from_if W 9 s .i64 _ Tryd.underlying9, if_pos ⟨by omega, by omega⟩]
    rfl
  have htl : (s.extract 1 s.size).data.toList = r := by
    rw [Lib.extract_data, hs, List.drop_succ_cons, List.drop_zero, List.take_of_length_le (by omega)]
  have hts : (s.extract 1 s.size).size = s.size - 1 := by rw [Lib.size_eq, htl]; omega
  generalize s.extract 1 s.size = t at hsl htl hts
  have q43 : (((s[0]'hpos).toNat : Int) == 43) = false := by rw [hs0]; rfl
  have q45 : (((s[0]'hpos).toNat : Int) == 45) = true := by rw [hs0]; rfl
  have hU := Lib.hid (uint_any t b h2 h36 (by omega) (by omega) (by rw [htl]; exact hall) w)
  rw [htl] at hU
  have hm := mag_nonneg b h2 r
  have hq1 := neqE
  have hmin : wrap64 (-wrap64 9223372036854775808) = -9223372036854775808 := by
    unfold wrap64
    omega
  obtain ⟨M, hM⟩ : ∃ M, M = mag b r := ⟨_, rfl⟩
  rw [← hM] at hU hm ⊢
  clear hM hall hne hs0 hs htl hts hsz hrl
  by_cases hr : M ≤ 9223372036854775808
  · have hu := um_in (m := M) (by omega)
    rw [hu.1, hu.2] at hU
    have H : Hid (inV M = wrap64 (-wrap64 M) ∧ inE M = .nilIface) := by
      show _ ∧ _
      simp only [inV, inE, if_pos hr]
      exact ⟨by unfold wrap64; omega, trivial⟩
    obtain ⟨x, hx⟩ : ∃ x, x = wrap64 M := ⟨_, rfl⟩
    rw [← hx] at H
    have hx2 := hx.symm
    clear hu hx hmin
    go_enter Tryd.func75, Tryd.ntmps75
    go_wp2_with (go_at_call 81; refine hU.out.mono ?_; rintro e w1 ⟨rfl, hw1⟩)
    go_ret2
    exact ⟨ret_ip H.out, hw1⟩
  · have H : Hid (inV M = wrap64 (-wrap64 9223372036854775808) ∧ inE M = .iface 72 (.int .i64 1)) := by show _ ∧ _; rw [hmin]; simp [inV, inE, hr]
    clear hmin
    have hr2 : 9223372036854775808 < M := by omega
    clear hr
    by_cases ho : M < 18446744073709551616
    · have hu := um_in (m := M) ho
      rw [hu.1, hu.2] at hU
      clear hu
      go_enter Tryd.func75, Tryd.ntmps75
      go_wp2_with (go_at_call 81; refine hU.out.mono ?_; rintro e w1 ⟨rfl, hw1⟩)
      go_ret2
      exact ⟨ret_ip H.out, hw1⟩
    · have hu := um_out (m := M) (by omega)
      rw [hu.1, hu.2] at hU
      clear hu ho hr2 hm
      go_enter Tryd.func75, Tryd.ntmps75
      go_wp2_with (go_at_call 81; refine hU.out.mono ?_; rintro e w1 ⟨rfl, hw1⟩)
      go_ret2
      exact ⟨ret_ip H.out, hw1⟩

end Go.Proofs.YthfclbbmioenlaaDoor
