/- The contract of strconv.FormatInt in base 16, for the integers from 0 to 255. -/
import Derived.Test.YtcjpbomdnjmfkaaDoorA2
import Derived.Laws.Bits64b
namespace Go.Proofs.YtcjpbomdnjmfkaaDoor
open Go.RowKit

theorem ret_str2 {v : Value} {a b : ByteArray} (h : a = b) : Ending.returned (.tuple #[v, .string a]) = .returned (.tuple #[v, .string b]) := by rw [h]
theorem num2 {a b c d : Int} (h : a = b) (g : c = d) : strOfNums [a, c] = strOfNums [b, d] := by rw [h, g]
theorem pow_any (w : World) : Calls Tryd.prog 53 #[.int .i64 16] w fun e w' => e = .returned (.bool true) ∧ w = w' := by
  go_enter Tryd.func53, Tryd.ntmps53
  go_wp2
  go_ret
  exact ⟨rfl, rfl⟩

theorem tz_off : (IntKind.u64.wrap (bits BinOp.and IntKind.u64 16 (IntKind.u64.wrap (-16)) * 285870213051353865) / 288230376151711744).toNat = 15 := by kernel_rfl
theorem tz_any (w : World) (h : w.cell? ⟨4, 15, none⟩ = some (.int .u8 4)) : Calls Tryd.prog 54 #[.int .u64 16] w fun e w' => e = .returned (.int .i64 4) ∧ w = w' := by
  have h' : w.cell? ⟨4, (IntKind.u64.wrap (bits BinOp.and IntKind.u64 16 (IntKind.u64.wrap (-16)) * 285870213051353865) / 288230376151711744).toNat, none⟩ = some (.int .u8 4) := by
    rw [tz_off]; exact h
  clear h
  go_enter Tryd.func54, Tryd.ntmps54
  go_wp2
  go_ret
  exact ⟨rfl, rfl⟩

def digs : ByteArray := { data := #[48, 49, 50, 51, 52, 53, 54, 55, 56, 57, 97, 98, 99, 100, 101, 102, 103, 104, 105, 106, 107, 108, 109, 110, 111, 112, 113, 114, 115, 116, 117, 118, 119, 120, 121, 122] }
def dg (k : Nat) : Int := if h : k < digs.size then (digs[k].toNat : Int) else 0
theorem dg_eq {k : Nat} (h : k < digs.size) : (digs[k].toNat : Int) = dg k := by simp [dg, h]
theorem zero_size : Tryd.zeroCells69.size = 65 := by kernel_rfl

theorem conv1 (w : World) (v : Int) : (convert 52 9 (.slice (some ⟨w.heap.size, 64, none⟩) 1 1)).run Tryd.prog (w.alloc (.cells (Tryd.zeroCells69.setIfInBounds 64 (.int .u8 v)) 69)) = .ok (.string (strOfNums [v])) (w.alloc (.cells (Tryd.zeroCells69.setIfInBounds 64 (.int .u8 v)) 69)) := by
  refine run_convert_bytes_arg _ 52 5 Tryd.underlying52 Tryd.underlying5 w.heap.size 64 1 1 [v] rfl (fun i hi => ?_) 9 Tryd.underlying9
  obtain rfl : i = 0 := by omega
  rw [cell_of_row _ _ _ _ 69 (0, 0) (heap_alloc_new w _)]
  simp [Array.getElem?_setIfInBounds, zero_size]

theorem conv2 (w : World) (v u : Int) : (convert 52 9 (.slice (some ⟨w.heap.size, 63, none⟩) 2 2)).run Tryd.prog (w.alloc (.cells ((Tryd.zeroCells69.setIfInBounds 64 (.int .u8 v)).setIfInBounds 63 (.int .u8 u)) 69)) = .ok (.string (strOfNums [u, v])) (w.alloc (.cells ((Tryd.zeroCells69.setIfInBounds 64 (.int .u8 v)).setIfInBounds 63 (.int .u8 u)) 69)) := by
  refine run_convert_bytes_arg _ 52 5 Tryd.underlying52 Tryd.underlying5 w.heap.size 63 2 2 [u, v] rfl (fun i hi => ?_) 9 Tryd.underlying9
  rw [cell_of_row _ _ _ _ 69 (0, 0) (heap_alloc_new w _)]
  rcases (show i = 0 ∨ i = 1 by omega) with rfl | rfl
  · simp [Array.getElem?_setIfInBounds, zero_size]
  · simp [Array.getElem?_setIfInBounds, zero_size]

set_option maxRecDepth 100000 in
set_option maxHeartbeats 1000000 in
theorem bits_small (u : Nat) (hu : u < 16) (w : World) (h : w.cell? ⟨4, 15, none⟩ = some (.int .u8 4)) :
    Calls Tryd.prog 47 #[.slice none 0 0, .int .u64 u, .int .i64 16, .bool false, .bool false] w fun e w' => e = .returned (.tuple #[.slice none 0 0, .string (strOfNums [dg u])]) ∧ Below w.heap.size w w' := by
  have hc1 : ∀ o, (w.alloc o).cell? ⟨4, 15, none⟩ = some (.int .u8 4) := fun o => cell_later ((Below.refl _ _).alloc (Nat.le_refl _) o) h
  have hcv := conv1 w
  have H1 := Lib.hid (dg_eq (k := u) (by show u < 36; omega))
  go_enter Tryd.func47, Tryd.ntmps47
  go_wp2_with (first | (go_at_call 53; refine (pow_any _).mono ?_; rintro e w' ⟨rfl, rfl⟩) | (go_at_call 54; refine (tz_any _ (hc1 _)).mono ?_; rintro e w' ⟨rfl, rfl⟩))
  refine wp_loop_rounds 1 ?_
  rw [rounds_succ]
  go_wp2_with fail
  go_ret2
  exact ⟨ret_str2 (congrArg (fun x => strOfNums [x]) H1.out), (Below.refl _ _).alloc (Nat.le_refl _) _⟩

set_option maxRecDepth 100000 in
set_option maxHeartbeats 1000000 in
theorem bits_big (u : Nat) (hu : 16 ≤ u) (hu2 : u < 256) (w : World) (h : w.cell? ⟨4, 15, none⟩ = some (.int .u8 4)) :
    Calls Tryd.prog 47 #[.slice none 0 0, .int .u64 u, .int .i64 16, .bool false, .bool false] w fun e w' => e = .returned (.tuple #[.slice none 0 0, .string (strOfNums [dg (u / 16), dg (u % 16)])]) ∧ Below w.heap.size w w' := by
  have hc1 : ∀ o, (w.alloc o).cell? ⟨4, 15, none⟩ = some (.int .u8 4) := fun o => cell_later ((Below.refl _ _).alloc (Nat.le_refl _) o) h
  have hcv := conv2 w
  have hand : bits BinOp.and IntKind.u64 (u : Int) 15 = ((u % 16 : Nat) : Int) := by
    rw [show (15 : Int) = ((15 : Nat) : Int) from rfl, bits_and_u64_nat u 15 (by omega) (by omega), show (15 : Nat) = 2 ^ 4 - 1 from rfl, Nat.and_two_pow_sub_one_eq_mod]
  have H1 := Lib.hid (dg_eq (k := u / 16) (by show u / 16 < 36; omega))
  have H2 := Lib.hid (dg_eq (k := u % 16) (by show u % 16 < 36; omega))
  go_enter Tryd.func47, Tryd.ntmps47
  go_wp2_with (first | (go_at_call 53; refine (pow_any _).mono ?_; rintro e w' ⟨rfl, rfl⟩) | (go_at_call 54; refine (tz_any _ (hc1 _)).mono ?_; rintro e w' ⟨rfl, rfl⟩))
  refine wp_loop_rounds 2 ?_
  rw [rounds_succ]
  go_wp2_with fail
  rw [rounds_succ]
  go_wp2_with fail
  go_ret2
  exact ⟨ret_str2 (num2 H1.out H2.out), (Below.refl _ _).alloc (Nat.le_refl _) _⟩

def hexS (u : Nat) : ByteArray := if u < 16 then strOfNums [dg u] else strOfNums [dg (u / 16), dg (u % 16)]
theorem fmt_any (c : Int) (h0 : 0 ≤ c) (h1 : c < 256) (w : World) (h : w.cell? ⟨4, 15, none⟩ = some (.int .u8 4)) :
    Calls Tryd.prog 30 #[.int .i64 c, .int .i64 16] w fun e w' => e = .returned (.string (hexS c.toNat)) ∧ Below w.heap.size w w' := by
  obtain ⟨u, rfl⟩ : ∃ u : Nat, c = u := ⟨c.toNat, by omega⟩
  rw [Int.toNat_natCast]
  by_cases hu : u < 16
  · have hS : Hid (hexS u = strOfNums [dg u]) := by show _ = _; rw [hexS, if_pos hu]
    have HB := Lib.hid (bits_small u hu w h)
    clear h
    go_enter Tryd.func30, Tryd.ntmps30
    go_wp2_with (first | (go_at_call 47; refine HB.out.mono ?_; rintro e w' ⟨rfl, hb⟩) | (go_at_call 37; go_in))
    go_ret
    exact ⟨ret_str hS.out.symm, hb⟩
  · have hS : Hid (hexS u = strOfNums [dg (u / 16), dg (u % 16)]) := by show _ = _; rw [hexS, if_neg hu]
    have HB := Lib.hid (bits_big u (by omega) (by omega) w h)
    clear h
    go_enter Tryd.func30, Tryd.ntmps30
    go_wp2_with (first | (go_at_call 47; refine HB.out.mono ?_; rintro e w' ⟨rfl, hb⟩) | (go_at_call 37; go_in))
    go_ret
    exact ⟨ret_str hS.out.symm, hb⟩

end Go.Proofs.YtcjpbomdnjmfkaaDoor
