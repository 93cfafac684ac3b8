/- The contract of internal/strconv.ParseUint for digits of a base, all of them right. -/
import Derived.Test.YthfclbbmioenlaaDoorB1
import Derived.Test.YthfclbbmioenlaaDoorShelf
import Derived.Shelf.Strconv.Lower
import Derived.Lib.Strings
import Derived.Lib.Walk
import Derived.Lib.ConvBytes
import Derived.Lib.AtoiAllMem
import Derived.Lib.Hide
import Derived.Laws.Strings3
import Derived.Laws.Closers25
import Derived.Laws.Closers25b
import Derived.Laws.BitsAllLaws
import Derived.WalkKit
import Derived.BigCall
import Derived.BigGuard
namespace Go.Proofs.YthfclbbmioenlaaDoor
open Go.RowKit

theorem u8_or32 : ∀ n : Fin 256, (97 ≤ n.val → n.val ≤ 122 → n.val ||| 32 = n.val) ∧ (65 ≤ n.val → n.val ≤ 90 → n.val ||| 32 = n.val + 32) := by decide +kernel
theorem low_low (c : UInt8) (h0 : 97 ≤ c.toNat) (h1 : c.toNat ≤ 122) : bits .or .u8 (c.toNat : Int) 32 = (c.toNat : Int) := by
  rw [show (32 : Int) = ((32 : Nat) : Int) from rfl, u8_or_nat c.toNat 32 c.toNat_lt (by omega), (u8_or32 ⟨c.toNat, c.toNat_lt⟩).1 h0 h1]
theorem low_up (c : UInt8) (h0 : 65 ≤ c.toNat) (h1 : c.toNat ≤ 90) : bits .or .u8 (c.toNat : Int) 32 = (c.toNat : Int) + 32 := by
  rw [show (32 : Int) = ((32 : Nat) : Int) from rfl, u8_or_nat c.toNat 32 c.toNat_lt (by omega), (u8_or32 ⟨c.toNat, c.toNat_lt⟩).2 h0 h1]; rfl

/-- What ParseUint gives for a number: itself, or the greatest number and an error. -/
def umV (m : Int) : Int := if m < 18446744073709551616 then m else 18446744073709551615
def umE (m : Int) : Value := if m < 18446744073709551616 then .nilIface else .iface 72 (.int .i64 1)
theorem um_in {m : Int} (h : m < 18446744073709551616) : umV m = m ∧ umE m = .nilIface := by simp [umV, umE, h]
theorem um_out {m : Int} (h : 18446744073709551616 ≤ m) : umV m = 18446744073709551615 ∧ umE m = .iface 72 (.int .i64 1) := by
  have : ¬ m < 18446744073709551616 := by omega
  simp [umV, umE, this]
theorem ret_um {v v' : Int} {e e' : Value} (h : v' = v ∧ e' = e) : Ending.returned (.tuple #[.int .u64 v, e]) = .returned (.tuple #[.int .u64 v', e']) := by rw [h.1, h.2]

theorem cut_mul (a b : Int) (hb : 2 ≤ b) (h0 : 0 ≤ a) (h : a < 18446744073709551615 / b + 1) : 0 ≤ a * b ∧ a * b ≤ 18446744073709551615 := by
  have h1 : a ≤ 18446744073709551615 / b := by omega
  have h2 := Int.mul_le_mul_of_nonneg_right h1 (show 0 ≤ b by omega)
  have h3 := Int.ediv_mul_le 18446744073709551615 (show b ≠ 0 by omega)
  have h4 := Int.mul_nonneg h0 (show 0 ≤ b by omega)
  omega
theorem cut_over (a b : Int) (hb : 2 ≤ b) (h : 18446744073709551615 / b + 1 ≤ a) : 18446744073709551616 ≤ a * b := by
  have h2 := Int.mul_le_mul_of_nonneg_right h (show 0 ≤ b by omega)
  have h3 := Int.lt_ediv_add_one_mul_self 18446744073709551615 (show 0 < b by omega)
  omega
theorem cut_wrap (b : Int) (h2 : 2 ≤ b) : IntKind.u64.wrap (18446744073709551615 / b + 1) = 18446744073709551615 / b + 1 := by
  have h1 : 0 ≤ 18446744073709551615 / b := Int.ediv_nonneg (by omega) (by omega)
  have h3 := Int.ediv_mul_le 18446744073709551615 (show b ≠ 0 by omega)
  have h4 := Int.mul_le_mul_of_nonneg_left h2 h1
  rw [IntKind.wrap_u64]; omega

set_option maxHeartbeats 4000000 in
set_option maxRecDepth 100000 in
theorem uint_gen (t : ByteArray) (b q : Int) (h2 : 2 ≤ b) (h36 : b ≤ 36) (h10 : b ≠ 10) (h16 : b ≠ 16) (hq : q = 18446744073709551615 / b + 1) (hne : t.size ≠ 0) (hmax : t.size ≤ 9223372036854775806) (hall : allD (b) t.data.toList) (w : World) :
    Calls Tryd.prog 81 #[.string t, .int .i64 (b), .int .i64 64] w fun e w' => e = .returned (.tuple #[.int .u64 (umV (mag (b) t.data.toList)), umE (mag (b) t.data.toList)]) ∧ w' = Lib.bytesWorld w 5 t := by
  have HQ := Lib.hid hq
  have hct : IntKind.u64.wrap (18446744073709551615 / b + 1) = q := by rw [cut_wrap b h2, hq]
  clear hq
  have e10 : (b == 10) = false := by simpa using h10
  have e16 : (b == 16) = false := by simpa using h16
  have e0 : (b == 0) = false := by simp; omega
  clear h10 h16
  have hemp : t.toList.isEmpty = false := by
    rw [← decide_eq_emptyBytes]
    exact decide_eq_false (fun h => hne (by rw [h]; rfl))
  have hcv := Lib.run_convert_string_bytes (P := Tryd.prog) w 9 64 5 t (u := .string) Tryd.underlying9 Tryd.underlying64 Tryd.underlying5
  have hB : ∀ j, j < t.size → (Lib.bytesWorld w 5 t).cell? ⟨w.heap.size, j, none⟩ = some (.int .u8 (t.data.toList.getD j 0).toNat) := fun j hj => Lib.bytesWorld_cell w 5 t j hj
  obtain ⟨W1, hW1⟩ : ∃ W1, W1 = Lib.bytesWorld w 5 t := ⟨_, rfl⟩
  rw [← hW1] at hcv hB ⊢
  clear hW1
  obtain ⟨bs, hL⟩ : ∃ bs, bs = t.data.toList := ⟨_, rfl⟩
  have hLn : bs.length = t.size := by rw [hL, Lib.size_eq]
  rw [← hL] at hB hall ⊢
  clear hL
  obtain ⟨M, hM⟩ : ∃ M, M = mag (b) bs := ⟨_, rfl⟩
  rw [← hM]
  have HM := Lib.hid hM
  have HA := Lib.hid hall
  clear hM hall
  have hmv : IntKind.u64.wrap (IntKind.u64.wrap 18446744073709551616 - 1) = 18446744073709551615 := by
    rw [IntKind.wrap_u64, IntKind.wrap_u64]
    decide
  go_enter Tryd.func81, Tryd.ntmps81
  go_wp2
  go_loop [12, 13, 101] (fun vu vn vi => ∃ (k : Nat) (a : Int), vu = .bool false ∧ vn = .int .u64 a ∧ vi = .int .i64 k ∧ k ≤ t.size ∧ 0 ≤ a ∧ a < 18446744073709551616 ∧ Hid (M = magF (b) a (bs.drop k)))
    (fun _ _ vi => t.size - (intOf vi).toNat)
  case atStart => exact ⟨0, 0, rfl, rfl, rfl, by omega, by omega, by omega, HM.out⟩
  case round =>
    obtain ⟨k, a, rfl, rfl, rfl, hk, a0, a1, hh⟩ := hrel
    by_cases hkn : k < t.size
    · have hc := hB k hkn
      have hdrop : bs.drop k = bs[k]'(by omega) :: bs.drop (k + 1) := List.drop_eq_getElem_cons (by omega)
      have hget : bs.getD k 0 = bs[k]'(by omega) := by simp [List.getD, List.getElem?_eq_getElem (show k < bs.length by omega)]
      have hdc : dV (bs[k]'(by omega)) < (b) := HA.out _ (List.getElem_mem _)
      have hM2 := hh.out
      rw [hdrop] at hM2
      rw [hget] at hc
      generalize bs[k]'(by omega) = c at hc hM2 hdc
      have hc256 : c.toNat < 256 := c.toNat_lt
      clear hB hdrop hget hh
      rw [magF_cons] at hM2
      have hge : 0 ≤ M ∨ True := .inr trivial
      have HM2 := Lib.hid hM2
      clear hM2 hge
      have HG : Hid (0 ≤ a * (b) + dV c → a * (b) + dV c ≤ M) := fun h => HM2.out ▸ magF_ge (b) (by omega) _ _ h
      rcases dV_class c (by omega) with ⟨c0, c1, hd⟩ | ⟨c0, c1, hd⟩ | ⟨c0, c1, hd⟩
      · have hdd : dV c = (c.toNat : Int) - 48 := by omega
        have HD := Lib.hid hdd
        rw [hdd] at hdc
        clear hd hdd

        by_cases hcut : q ≤ a
        · have H : Hid (umV M = 18446744073709551615 ∧ umE M = .iface 72 (.int .i64 1)) := by
            refine um_out ?_
            have h1 := cut_over a (b) (by omega) (by have := HQ.out; omega)
            have h2 := (dV_nonneg c).1
            have h3 := HG.out (by omega)
            omega
          clear HG
          go_wp2_with (go_at_call 90; refine (Tryd.internal_strconv_lower _ _).mono ?_; rintro e w' ⟨rfl, rfl⟩)
          go_ret2
          exact ⟨ret_um H.out, rfl⟩
        · have hcut2 : a < q := by omega
          have hab := cut_mul a (b) (by omega) a0 (by have := HQ.out; omega)
          obtain ⟨P, hP⟩ : ∃ P, P = a * (b) := ⟨_, rfl⟩
          rw [← hP] at hab
          obtain ⟨p0, p1⟩ := hab
          have hmul : IntKind.u64.wrap (a * (b)) = P := by rw [← hP, IntKind.wrap_u64]; omega
          have HP := Lib.hid hP
          clear hP hcut
          by_cases hov : 18446744073709551616 ≤ P + ((c.toNat : Int) - 48)
          · have H : Hid (umV M = 18446744073709551615 ∧ umE M = .iface 72 (.int .i64 1)) := by
              refine um_out ?_
              have h1 := HP.out
              have h2 := HD.out
              have h3 := HG.out (by omega)
              omega
            have hwr : IntKind.u64.wrap (P + ((c.toNat : Int) - 48)) = P + ((c.toNat : Int) - 48) - 18446744073709551616 := by rw [IntKind.wrap_u64]; omega
            clear HG
            go_wp2_with (go_at_call 90; refine (Tryd.internal_strconv_lower _ _).mono ?_; rintro e w' ⟨rfl, rfl⟩)
            go_ret2
            exact ⟨ret_um H.out, rfl⟩
          · have hov2 : P + ((c.toNat : Int) - 48) < 18446744073709551616 := by omega
            have HN : Hid (M = magF (b) (P + ((c.toNat : Int) - 48)) (bs.drop (k + 1))) := by show _ = _; rw [HM2.out, HP.out, HD.out]
            clear hov HG HM2
            go_wp2_with (go_at_call 90; refine (Tryd.internal_strconv_lower _ _).mono ?_; rintro e w' ⟨rfl, rfl⟩)
            go_round
            case rel => exact ⟨k + 1, _, rfl, rfl, by go_num, by omega, by omega, by omega, HN⟩
            case measure => simp [intOf]; omega
      · have hdd : dV c = (c.toNat : Int) - 97 + 10 := by omega
        have HD := Lib.hid hdd
        rw [hdd] at hdc
        clear hd hdd
        have hlow := low_low c c0 c1
        have n1 : ¬ c.toNat ≤ 57 := by omega
        by_cases hcut : q ≤ a
        · have H : Hid (umV M = 18446744073709551615 ∧ umE M = .iface 72 (.int .i64 1)) := by
            refine um_out ?_
            have h1 := cut_over a (b) (by omega) (by have := HQ.out; omega)
            have h2 := (dV_nonneg c).1
            have h3 := HG.out (by omega)
            omega
          clear HG
          go_wp2_with (go_at_call 90; refine (Tryd.internal_strconv_lower _ _).mono ?_; rintro e w' ⟨rfl, rfl⟩)
          go_ret2
          exact ⟨ret_um H.out, rfl⟩
        · have hcut2 : a < q := by omega
          have hab := cut_mul a (b) (by omega) a0 (by have := HQ.out; omega)
          obtain ⟨P, hP⟩ : ∃ P, P = a * (b) := ⟨_, rfl⟩
          rw [← hP] at hab
          obtain ⟨p0, p1⟩ := hab
          have hmul : IntKind.u64.wrap (a * (b)) = P := by rw [← hP, IntKind.wrap_u64]; omega
          have HP := Lib.hid hP
          clear hP hcut
          by_cases hov : 18446744073709551616 ≤ P + ((c.toNat : Int) - 97 + 10)
          · have H : Hid (umV M = 18446744073709551615 ∧ umE M = .iface 72 (.int .i64 1)) := by
              refine um_out ?_
              have h1 := HP.out
              have h2 := HD.out
              have h3 := HG.out (by omega)
              omega
            have hwr : IntKind.u64.wrap (P + ((c.toNat : Int) - 97 + 10)) = P + ((c.toNat : Int) - 97 + 10) - 18446744073709551616 := by rw [IntKind.wrap_u64]; omega
            clear HG
            go_wp2_with (go_at_call 90; refine (Tryd.internal_strconv_lower _ _).mono ?_; rintro e w' ⟨rfl, rfl⟩)
            go_ret2
            exact ⟨ret_um H.out, rfl⟩
          · have hov2 : P + ((c.toNat : Int) - 97 + 10) < 18446744073709551616 := by omega
            have HN : Hid (M = magF (b) (P + ((c.toNat : Int) - 97 + 10)) (bs.drop (k + 1))) := by show _ = _; rw [HM2.out, HP.out, HD.out]
            clear hov HG HM2
            go_wp2_with (go_at_call 90; refine (Tryd.internal_strconv_lower _ _).mono ?_; rintro e w' ⟨rfl, rfl⟩)
            go_round
            case rel => exact ⟨k + 1, _, rfl, rfl, by go_num, by omega, by omega, by omega, HN⟩
            case measure => simp [intOf]; omega
      · have hdd : dV c = (c.toNat : Int) + 32 - 97 + 10 := by omega
        have HD := Lib.hid hdd
        rw [hdd] at hdc
        clear hd hdd
        have hlow := low_up c c0 c1
        have n1 : ¬ c.toNat ≤ 57 := by omega
        by_cases hcut : q ≤ a
        · have H : Hid (umV M = 18446744073709551615 ∧ umE M = .iface 72 (.int .i64 1)) := by
            refine um_out ?_
            have h1 := cut_over a (b) (by omega) (by have := HQ.out; omega)
            have h2 := (dV_nonneg c).1
            have h3 := HG.out (by omega)
            omega
          clear HG
          go_wp2_with (go_at_call 90; refine (Tryd.internal_strconv_lower _ _).mono ?_; rintro e w' ⟨rfl, rfl⟩)
          go_ret2
          exact ⟨ret_um H.out, rfl⟩
        · have hcut2 : a < q := by omega
          have hab := cut_mul a (b) (by omega) a0 (by have := HQ.out; omega)
          obtain ⟨P, hP⟩ : ∃ P, P = a * (b) := ⟨_, rfl⟩
          rw [← hP] at hab
          obtain ⟨p0, p1⟩ := hab
          have hmul : IntKind.u64.wrap (a * (b)) = P := by rw [← hP, IntKind.wrap_u64]; omega
          have HP := Lib.hid hP
          clear hP hcut
          by_cases hov : 18446744073709551616 ≤ P + ((c.toNat : Int) + 32 - 97 + 10)
          · have H : Hid (umV M = 18446744073709551615 ∧ umE M = .iface 72 (.int .i64 1)) := by
              refine um_out ?_
              have h1 := HP.out
              have h2 := HD.out
              have h3 := HG.out (by omega)
              omega
            have hwr : IntKind.u64.wrap (P + ((c.toNat : Int) + 32 - 97 + 10)) = P + ((c.toNat : Int) + 32 - 97 + 10) - 18446744073709551616 := by rw [IntKind.wrap_u64]; omega
            clear HG
            go_wp2_with (go_at_call 90; refine (Tryd.internal_strconv_lower _ _).mono ?_; rintro e w' ⟨rfl, rfl⟩)
            go_ret2
            exact ⟨ret_um H.out, rfl⟩
          · have hov2 : P + ((c.toNat : Int) + 32 - 97 + 10) < 18446744073709551616 := by omega
            have HN : Hid (M = magF (b) (P + ((c.toNat : Int) + 32 - 97 + 10)) (bs.drop (k + 1))) := by show _ = _; rw [HM2.out, HP.out, HD.out]
            clear hov HG HM2
            go_wp2_with (go_at_call 90; refine (Tryd.internal_strconv_lower _ _).mono ?_; rintro e w' ⟨rfl, rfl⟩)
            go_round
            case rel => exact ⟨k + 1, _, rfl, rfl, by go_num, by omega, by omega, by omega, HN⟩
            case measure => simp [intOf]; omega
    · have H : Hid (umV M = a ∧ umE M = .nilIface) := by
        have e : M = a := by rw [hh.out, List.drop_eq_nil_of_le (by omega)]; rfl
        rw [e]; exact um_in a1
      clear hh hB
      go_wp2
      go_ret2
      exact ⟨ret_um H.out, rfl⟩

set_option maxHeartbeats 4000000 in
set_option maxRecDepth 100000 in
theorem uint_10 (t : ByteArray) (hne : t.size ≠ 0) (hmax : t.size ≤ 9223372036854775806) (hall : allD (10) t.data.toList) (w : World) :
    Calls Tryd.prog 81 #[.string t, .int .i64 (10), .int .i64 64] w fun e w' => e = .returned (.tuple #[.int .u64 (umV (mag (10) t.data.toList)), umE (mag (10) t.data.toList)]) ∧ w' = Lib.bytesWorld w 5 t := by

  have hemp : t.toList.isEmpty = false := by
    rw [← decide_eq_emptyBytes]
    exact decide_eq_false (fun h => hne (by rw [h]; rfl))
  have hcv := Lib.run_convert_string_bytes (P := Tryd.prog) w 9 64 5 t (u := .string) Tryd.underlying9 Tryd.underlying64 Tryd.underlying5
  have hB : ∀ j, j < t.size → (Lib.bytesWorld w 5 t).cell? ⟨w.heap.size, j, none⟩ = some (.int .u8 (t.data.toList.getD j 0).toNat) := fun j hj => Lib.bytesWorld_cell w 5 t j hj
  obtain ⟨W1, hW1⟩ : ∃ W1, W1 = Lib.bytesWorld w 5 t := ⟨_, rfl⟩
  rw [← hW1] at hcv hB ⊢
  clear hW1
  obtain ⟨bs, hL⟩ : ∃ bs, bs = t.data.toList := ⟨_, rfl⟩
  have hLn : bs.length = t.size := by rw [hL, Lib.size_eq]
  rw [← hL] at hB hall ⊢
  clear hL
  obtain ⟨M, hM⟩ : ∃ M, M = mag (10) bs := ⟨_, rfl⟩
  rw [← hM]
  have HM := Lib.hid hM
  have HA := Lib.hid hall
  clear hM hall
  have hmv : IntKind.u64.wrap (IntKind.u64.wrap 18446744073709551616 - 1) = 18446744073709551615 := by
    rw [IntKind.wrap_u64, IntKind.wrap_u64]
    decide
  go_enter Tryd.func81, Tryd.ntmps81
  go_wp2
  go_loop [12, 13, 101] (fun vu vn vi => ∃ (k : Nat) (a : Int), vu = .bool false ∧ vn = .int .u64 a ∧ vi = .int .i64 k ∧ k ≤ t.size ∧ 0 ≤ a ∧ a < 18446744073709551616 ∧ Hid (M = magF (10) a (bs.drop k)))
    (fun _ _ vi => t.size - (intOf vi).toNat)
  case atStart => exact ⟨0, 0, rfl, rfl, rfl, by omega, by omega, by omega, HM.out⟩
  case round =>
    obtain ⟨k, a, rfl, rfl, rfl, hk, a0, a1, hh⟩ := hrel
    by_cases hkn : k < t.size
    · have hc := hB k hkn
      have hdrop : bs.drop k = bs[k]'(by omega) :: bs.drop (k + 1) := List.drop_eq_getElem_cons (by omega)
      have hget : bs.getD k 0 = bs[k]'(by omega) := by simp [List.getD, List.getElem?_eq_getElem (show k < bs.length by omega)]
      have hdc : dV (bs[k]'(by omega)) < (10) := HA.out _ (List.getElem_mem _)
      have hM2 := hh.out
      rw [hdrop] at hM2
      rw [hget] at hc
      generalize bs[k]'(by omega) = c at hc hM2 hdc
      have hc256 : c.toNat < 256 := c.toNat_lt
      clear hB hdrop hget hh
      rw [magF_cons] at hM2
      have hge : 0 ≤ M ∨ True := .inr trivial
      have HM2 := Lib.hid hM2
      clear hM2 hge
      have HG : Hid (0 ≤ a * (10) + dV c → a * (10) + dV c ≤ M) := fun h => HM2.out ▸ magF_ge (10) (by omega) _ _ h
      rcases dV_class c (by omega) with ⟨c0, c1, hd⟩ | ⟨c0, c1, hd⟩ | ⟨c0, c1, hd⟩
      · have hdd : dV c = (c.toNat : Int) - 48 := by omega
        have HD := Lib.hid hdd
        rw [hdd] at hdc
        clear hd hdd

        by_cases hcut : 1844674407370955162 ≤ a
        · have H : Hid (umV M = 18446744073709551615 ∧ umE M = .iface 72 (.int .i64 1)) := by
            refine um_out ?_
            have h1 := cut_over a (10) (by omega) (by omega)
            have h2 := (dV_nonneg c).1
            have h3 := HG.out (by omega)
            omega
          clear HG
          go_wp2_with (go_at_call 90; refine (Tryd.internal_strconv_lower _ _).mono ?_; rintro e w' ⟨rfl, rfl⟩)
          go_ret2
          exact ⟨ret_um H.out, rfl⟩
        · have hcut2 : a < 1844674407370955162 := by omega
          have hab := cut_mul a (10) (by omega) a0 (by omega)
          obtain ⟨p0, p1⟩ := hab
          clear hcut
          by_cases hov : 18446744073709551616 ≤ a * 10 + ((c.toNat : Int) - 48)
          · have H : Hid (umV M = 18446744073709551615 ∧ umE M = .iface 72 (.int .i64 1)) := by
              refine um_out ?_
              have h2 := HD.out
              have h3 := HG.out (by omega)
              omega
            have hwr : IntKind.u64.wrap (a * 10 + ((c.toNat : Int) - 48)) = a * 10 + ((c.toNat : Int) - 48) - 18446744073709551616 := by rw [IntKind.wrap_u64]; omega
            clear HG
            go_wp2_with (go_at_call 90; refine (Tryd.internal_strconv_lower _ _).mono ?_; rintro e w' ⟨rfl, rfl⟩)
            go_ret2
            exact ⟨ret_um H.out, rfl⟩
          · have hov2 : a * 10 + ((c.toNat : Int) - 48) < 18446744073709551616 := by omega
            have HN : Hid (M = magF (10) (a * 10 + ((c.toNat : Int) - 48)) (bs.drop (k + 1))) := by show _ = _; rw [HM2.out, HD.out]
            clear hov HG HM2
            go_wp2_with (go_at_call 90; refine (Tryd.internal_strconv_lower _ _).mono ?_; rintro e w' ⟨rfl, rfl⟩)
            go_round
            case rel => exact ⟨k + 1, _, rfl, rfl, by go_num, by omega, by omega, by omega, HN⟩
            case measure => simp [intOf]; omega
      · exfalso; omega
      · exfalso; omega
    · have H : Hid (umV M = a ∧ umE M = .nilIface) := by
        have e : M = a := by rw [hh.out, List.drop_eq_nil_of_le (by omega)]; rfl
        rw [e]; exact um_in a1
      clear hh hB
      go_wp2
      go_ret2
      exact ⟨ret_um H.out, rfl⟩

set_option maxHeartbeats 4000000 in
set_option maxRecDepth 100000 in
theorem uint_16 (t : ByteArray) (hne : t.size ≠ 0) (hmax : t.size ≤ 9223372036854775806) (hall : allD (16) t.data.toList) (w : World) :
    Calls Tryd.prog 81 #[.string t, .int .i64 (16), .int .i64 64] w fun e w' => e = .returned (.tuple #[.int .u64 (umV (mag (16) t.data.toList)), umE (mag (16) t.data.toList)]) ∧ w' = Lib.bytesWorld w 5 t := by

  have hemp : t.toList.isEmpty = false := by
    rw [← decide_eq_emptyBytes]
    exact decide_eq_false (fun h => hne (by rw [h]; rfl))
  have hcv := Lib.run_convert_string_bytes (P := Tryd.prog) w 9 64 5 t (u := .string) Tryd.underlying9 Tryd.underlying64 Tryd.underlying5
  have hB : ∀ j, j < t.size → (Lib.bytesWorld w 5 t).cell? ⟨w.heap.size, j, none⟩ = some (.int .u8 (t.data.toList.getD j 0).toNat) := fun j hj => Lib.bytesWorld_cell w 5 t j hj
  obtain ⟨W1, hW1⟩ : ∃ W1, W1 = Lib.bytesWorld w 5 t := ⟨_, rfl⟩
  rw [← hW1] at hcv hB ⊢
  clear hW1
  obtain ⟨bs, hL⟩ : ∃ bs, bs = t.data.toList := ⟨_, rfl⟩
  have hLn : bs.length = t.size := by rw [hL, Lib.size_eq]
  rw [← hL] at hB hall ⊢
  clear hL
  obtain ⟨M, hM⟩ : ∃ M, M = mag (16) bs := ⟨_, rfl⟩
  rw [← hM]
  have HM := Lib.hid hM
  have HA := Lib.hid hall
  clear hM hall
  have hmv : IntKind.u64.wrap (IntKind.u64.wrap 18446744073709551616 - 1) = 18446744073709551615 := by
    rw [IntKind.wrap_u64, IntKind.wrap_u64]
    decide
  go_enter Tryd.func81, Tryd.ntmps81
  go_wp2
  go_loop [12, 13, 101] (fun vu vn vi => ∃ (k : Nat) (a : Int), vu = .bool false ∧ vn = .int .u64 a ∧ vi = .int .i64 k ∧ k ≤ t.size ∧ 0 ≤ a ∧ a < 18446744073709551616 ∧ Hid (M = magF (16) a (bs.drop k)))
    (fun _ _ vi => t.size - (intOf vi).toNat)
  case atStart => exact ⟨0, 0, rfl, rfl, rfl, by omega, by omega, by omega, HM.out⟩
  case round =>
    obtain ⟨k, a, rfl, rfl, rfl, hk, a0, a1, hh⟩ := hrel
    by_cases hkn : k < t.size
    · have hc := hB k hkn
      have hdrop : bs.drop k = bs[k]'(by omega) :: bs.drop (k + 1) := List.drop_eq_getElem_cons (by omega)
      have hget : bs.getD k 0 = bs[k]'(by omega) := by simp [List.getD, List.getElem?_eq_getElem (show k < bs.length by omega)]
      have hdc : dV (bs[k]'(by omega)) < (16) := HA.out _ (List.getElem_mem _)
      have hM2 := hh.out
      rw [hdrop] at hM2
      rw [hget] at hc
      generalize bs[k]'(by omega) = c at hc hM2 hdc
      have hc256 : c.toNat < 256 := c.toNat_lt
      clear hB hdrop hget hh
      rw [magF_cons] at hM2
      have hge : 0 ≤ M ∨ True := .inr trivial
      have HM2 := Lib.hid hM2
      clear hM2 hge
      have HG : Hid (0 ≤ a * (16) + dV c → a * (16) + dV c ≤ M) := fun h => HM2.out ▸ magF_ge (16) (by omega) _ _ h
      rcases dV_class c (by omega) with ⟨c0, c1, hd⟩ | ⟨c0, c1, hd⟩ | ⟨c0, c1, hd⟩
      · have hdd : dV c = (c.toNat : Int) - 48 := by omega
        have HD := Lib.hid hdd
        rw [hdd] at hdc
        clear hd hdd

        by_cases hcut : 1152921504606846976 ≤ a
        · have H : Hid (umV M = 18446744073709551615 ∧ umE M = .iface 72 (.int .i64 1)) := by
            refine um_out ?_
            have h1 := cut_over a (16) (by omega) (by omega)
            have h2 := (dV_nonneg c).1
            have h3 := HG.out (by omega)
            omega
          clear HG
          go_wp2_with (go_at_call 90; refine (Tryd.internal_strconv_lower _ _).mono ?_; rintro e w' ⟨rfl, rfl⟩)
          go_ret2
          exact ⟨ret_um H.out, rfl⟩
        · have hcut2 : a < 1152921504606846976 := by omega
          have hab := cut_mul a (16) (by omega) a0 (by omega)
          obtain ⟨p0, p1⟩ := hab
          clear hcut
          by_cases hov : 18446744073709551616 ≤ a * 16 + ((c.toNat : Int) - 48)
          · exfalso; omega
          · have hov2 : a * 16 + ((c.toNat : Int) - 48) < 18446744073709551616 := by omega
            have HN : Hid (M = magF (16) (a * 16 + ((c.toNat : Int) - 48)) (bs.drop (k + 1))) := by show _ = _; rw [HM2.out, HD.out]
            clear hov HG HM2
            go_wp2_with (go_at_call 90; refine (Tryd.internal_strconv_lower _ _).mono ?_; rintro e w' ⟨rfl, rfl⟩)
            go_round
            case rel => exact ⟨k + 1, _, rfl, rfl, by go_num, by omega, by omega, by omega, HN⟩
            case measure => simp [intOf]; omega
      · have hdd : dV c = (c.toNat : Int) - 97 + 10 := by omega
        have HD := Lib.hid hdd
        rw [hdd] at hdc
        clear hd hdd
        have hlow := low_low c c0 c1
        have n1 : ¬ c.toNat ≤ 57 := by omega
        by_cases hcut : 1152921504606846976 ≤ a
        · have H : Hid (umV M = 18446744073709551615 ∧ umE M = .iface 72 (.int .i64 1)) := by
            refine um_out ?_
            have h1 := cut_over a (16) (by omega) (by omega)
            have h2 := (dV_nonneg c).1
            have h3 := HG.out (by omega)
            omega
          clear HG
          go_wp2_with (go_at_call 90; refine (Tryd.internal_strconv_lower _ _).mono ?_; rintro e w' ⟨rfl, rfl⟩)
          go_ret2
          exact ⟨ret_um H.out, rfl⟩
        · have hcut2 : a < 1152921504606846976 := by omega
          have hab := cut_mul a (16) (by omega) a0 (by omega)
          obtain ⟨p0, p1⟩ := hab
          clear hcut
          by_cases hov : 18446744073709551616 ≤ a * 16 + ((c.toNat : Int) - 97 + 10)
          · exfalso; omega
          · have hov2 : a * 16 + ((c.toNat : Int) - 97 + 10) < 18446744073709551616 := by omega
            have HN : Hid (M = magF (16) (a * 16 + ((c.toNat : Int) - 97 + 10)) (bs.drop (k + 1))) := by show _ = _; rw [HM2.out, HD.out]
            clear hov HG HM2
            go_wp2_with (go_at_call 90; refine (Tryd.internal_strconv_lower _ _).mono ?_; rintro e w' ⟨rfl, rfl⟩)
            go_round
            case rel => exact ⟨k + 1, _, rfl, rfl, by go_num, by omega, by omega, by omega, HN⟩
            case measure => simp [intOf]; omega
      · have hdd : dV c = (c.toNat : Int) + 32 - 97 + 10 := by omega
        have HD := Lib.hid hdd
        rw [hdd] at hdc
        clear hd hdd
        have hlow := low_up c c0 c1
        have n1 : ¬ c.toNat ≤ 57 := by omega
        by_cases hcut : 1152921504606846976 ≤ a
        · have H : Hid (umV M = 18446744073709551615 ∧ umE M = .iface 72 (.int .i64 1)) := by
            refine um_out ?_
            have h1 := cut_over a (16) (by omega) (by omega)
            have h2 := (dV_nonneg c).1
            have h3 := HG.out (by omega)
            omega
          clear HG
          go_wp2_with (go_at_call 90; refine (Tryd.internal_strconv_lower _ _).mono ?_; rintro e w' ⟨rfl, rfl⟩)
          go_ret2
          exact ⟨ret_um H.out, rfl⟩
        · have hcut2 : a < 1152921504606846976 := by omega
          have hab := cut_mul a (16) (by omega) a0 (by omega)
          obtain ⟨p0, p1⟩ := hab
          clear hcut
          by_cases hov : 18446744073709551616 ≤ a * 16 + ((c.toNat : Int) + 32 - 97 + 10)
          · exfalso; omega
          · have hov2 : a * 16 + ((c.toNat : Int) + 32 - 97 + 10) < 18446744073709551616 := by omega
            have HN : Hid (M = magF (16) (a * 16 + ((c.toNat : Int) + 32 - 97 + 10)) (bs.drop (k + 1))) := by show _ = _; rw [HM2.out, HD.out]
            clear hov HG HM2
            go_wp2_with (go_at_call 90; refine (Tryd.internal_strconv_lower _ _).mono ?_; rintro e w' ⟨rfl, rfl⟩)
            go_round
            case rel => exact ⟨k + 1, _, rfl, rfl, by go_num, by omega, by omega, by omega, HN⟩
            case measure => simp [intOf]; omega
    · have H : Hid (umV M = a ∧ umE M = .nilIface) := by
        have e : M = a := by rw [hh.out, List.drop_eq_nil_of_le (by omega)]; rfl
        rw [e]; exact um_in a1
      clear hh hB
      go_wp2
      go_ret2
      exact ⟨ret_um H.out, rfl⟩

end Go.Proofs.YthfclbbmioenlaaDoor
