/- The contracts of the specification's Escape and Unescape: they return what the program's functions return. -/
import Derived.Test.YtcjpbomdnjmfkaaDoorB3
namespace Go.Proofs.YtcjpbomdnjmfkaaDoor
open Go.RowKit

theorem convB (w : World) (cs : List Int) (n : Nat) (hn : cs.length = n) :
    (convert 52 9 (.slice (some ⟨w.heap.size, 0, none⟩) n n)).run Tryd.prog (w.alloc (.cells (cs.map (Value.int .u8)).toArray 5)) = .ok (.string (strOfNums cs)) (w.alloc (.cells (cs.map (Value.int .u8)).toArray 5)) := by
  refine run_convert_bytes_arg _ 52 5 Tryd.underlying52 Tryd.underlying5 w.heap.size 0 n n cs hn (fun i hi => ?_) 9 Tryd.underlying9
  rw [Nat.zero_add, cell_of_row _ _ _ _ 5 (0, 0) (heap_alloc_new w _)]
  have hl : i < cs.length := by omega
  simp [List.getElem?_eq_getElem hl]

theorem rescape_no (c : Int) (h : isC c = false) (w : World) :
    Calls Tryd.prog 18 #[.int .i64 c] w fun e w' => e = .returned (.tuple #[.string (escS c), .bool (isC c)]) ∧ Below w.heap.size w w' := by
  have hS : Hid (escS c = { data := #[] }) := by show _ = _; rw [escS, if_pos h]
  rw [hS.out, h]
  go_enter Tryd.func18, Tryd.ntmps18
  go_wp2_with (go_at_call 34; refine (is_any _ _).mono ?_; rintro e w' ⟨rfl, rfl⟩)
  go_ret2
  exact ⟨rfl, Below.refl _ _⟩

theorem rescape_letter (c : Int) (h0 : 7 ≤ c) (h1 : c ≤ 13) (w : World) :
    Calls Tryd.prog 18 #[.int .i64 c] w fun e w' => e = .returned (.tuple #[.string (escS c), .bool (isC c)]) ∧ Below w.heap.size w w' := by
  have hq : isC c = true := isC_yes (by omega) (by omega)
  have hS : Hid (escS c = { data := #[92] } ++ ({ data := #[97, 98, 116, 110, 118, 102, 114] } : ByteArray).extract (c - 7).toNat (c - 6).toNat) := by
    show _ = _; rw [escS, if_neg (by rw [hq]; decide), if_pos (by omega), show c - 7 + 1 = c - 6 by omega]
  rw [hq]
  go_enter Tryd.func18, Tryd.ntmps18
  go_wp2_with (go_at_call 34; refine (is_any _ _).mono ?_; rintro e w' ⟨rfl, rfl⟩)
  go_ret2
  exact ⟨ret_sb hS.out.symm, Below.refl _ _⟩

theorem rescape_quote (c : Int) (hc : c = 39 ∨ c = 92) (w : World) :
    Calls Tryd.prog 18 #[.int .i64 c] w fun e w' => e = .returned (.tuple #[.string (escS c), .bool (isC c)]) ∧ Below w.heap.size w w' := by
  have hb := (Below.refl w.heap.size w).alloc (Nat.le_refl _)
  rcases hc with rfl | rfl
  · rw [show escS 39 = strOfNums [92, 39] by decide]
    have hq : isC 39 = true := by decide
    have hcv : (convert 52 9 (.slice (some ⟨w.heap.size, 0, none⟩) 2 2)).run Tryd.prog (w.alloc (.cells #[.int .u8 92, .int .u8 39] 5)) = .ok (.string (strOfNums [92, 39])) (w.alloc (.cells #[.int .u8 92, .int .u8 39] 5)) := convB w [92, 39] 2 rfl
    rw [hq]
    go_enter Tryd.func18, Tryd.ntmps18
    go_wp2_with (go_at_call 34; refine (is_any _ _).mono ?_; rintro e w' ⟨rfl, rfl⟩)
    go_ret2
    exact ⟨rfl, hb _⟩
  · rw [show escS 92 = strOfNums [92, 92] by decide]
    have hq : isC 92 = true := by decide
    have hcv : (convert 52 9 (.slice (some ⟨w.heap.size, 0, none⟩) 2 2)).run Tryd.prog (w.alloc (.cells #[.int .u8 92, .int .u8 92] 5)) = .ok (.string (strOfNums [92, 92])) (w.alloc (.cells #[.int .u8 92, .int .u8 92] 5)) := convB w [92, 92] 2 rfl
    rw [hq]
    go_enter Tryd.func18, Tryd.ntmps18
    go_wp2_with (go_at_call 34; refine (is_any _ _).mono ?_; rintro e w' ⟨rfl, rfl⟩)
    go_ret2
    exact ⟨rfl, hb _⟩

theorem enc_small : ∀ n : Fin 127, strOfNums [(n.val : Int)] = Utf8.encode (n.val : Int) := by decide +kernel
theorem rescape_self (c : Int) (h0 : 32 ≤ c) (h1 : c ≤ 126) (h2 : ¬ c = 39) (h3 : ¬ c = 92) (w : World) :
    Calls Tryd.prog 18 #[.int .i64 c] w fun e w' => e = .returned (.tuple #[.string (escS c), .bool (isC c)]) ∧ Below w.heap.size w w' := by
  have hq : isC c = true := isC_yes (by omega) (by omega)
  have h4 : ¬ c ≤ 13 := by omega
  have hS : Hid (escS c = strOfNums [c]) := by
    show _ = _; rw [escS, if_neg (by rw [hq]; decide), if_neg (by omega), if_neg (by omega), if_pos ⟨h0, h1⟩]
    have := enc_small ⟨c.toNat, by omega⟩
    simp only [show ((c.toNat : Nat) : Int) = c by omega] at this
    exact this.symm
  have g2 : (c == 39) = false := by simpa using h2
  have g3 : (c == 92) = false := by simpa using h3
  have hw : IntKind.u8.wrap c = c := by simp [IntKind.wrap, IntKind.bits, IntKind.signed]; omega
  have hcv : (convert 52 9 (.slice (some ⟨w.heap.size, 0, none⟩) 1 1)).run Tryd.prog (w.alloc (.cells #[.int .u8 c] 5)) = .ok (.string (strOfNums [c])) (w.alloc (.cells #[.int .u8 c] 5)) := convB w [c] 1 rfl
  have hb := (Below.refl w.heap.size w).alloc (Nat.le_refl _)
  rw [hq]
  clear h2 h3
  go_enter Tryd.func18, Tryd.ntmps18
  go_wp2_with (go_at_call 34; refine (is_any _ _).mono ?_; rintro e w' ⟨rfl, rfl⟩)
  go_ret2
  exact ⟨ret_sb hS.out.symm, hb _⟩

def hx : ByteArray := { data := #[48, 49, 50, 51, 52, 53, 54, 55, 56, 57, 97, 98, 99, 100, 101, 102] }
theorem esc_big_nat : ∀ n : Fin 256, (n.val < 16 ∨ (32 ≤ n.val ∧ n.val ≤ 126)) ∨ escS (n.val : Int) = { data := #[92, 120] } ++ hx.extract ((n.val : Int) / 16).toNat ((n.val : Int) / 16 + 1).toNat ++ hx.extract ((n.val : Int) % 16).toNat ((n.val : Int) % 16 + 1).toNat ++ { data := #[92] } := by decide +kernel
theorem esc_little_nat : ∀ n : Fin 16, (7 ≤ n.val ∧ n.val < 14) ∨ escS (n.val : Int) = { data := #[92, 120] } ++ hx.extract ((n.val : Int) % 16).toNat ((n.val : Int) % 16 + 1).toNat ++ { data := #[92] } := by decide +kernel
theorem esc_big (c : Int) (h0 : 16 ≤ c) (h1 : c ≤ 255) (h2 : c < 32 ∨ 126 < c) : escS c = { data := #[92, 120] } ++ hx.extract (c / 16).toNat (c / 16 + 1).toNat ++ hx.extract (c % 16).toNat (c % 16 + 1).toNat ++ { data := #[92] } := by
  have := esc_big_nat ⟨c.toNat, by omega⟩
  simp only [show ((c.toNat : Nat) : Int) = c by omega] at this
  rcases this with h | h
  · omega
  · exact h
theorem esc_little (c : Int) (h0 : 0 ≤ c) (h1 : c < 16) (h2 : c < 7 ∨ 13 < c) : escS c = { data := #[92, 120] } ++ hx.extract (c % 16).toNat (c % 16 + 1).toNat ++ { data := #[92] } := by
  have := esc_little_nat ⟨c.toNat, by omega⟩
  simp only [show ((c.toNat : Nat) : Int) = c by omega] at this
  rcases this with h | h
  · omega
  · exact h
theorem rescape_hex (c : Int) (h0 : 0 ≤ c) (h1 : c ≤ 255) (h2 : c < 7 ∨ (13 < c ∧ c < 32) ∨ 126 < c) (w : World) :
    Calls Tryd.prog 18 #[.int .i64 c] w fun e w' => e = .returned (.tuple #[.string (escS c), .bool (isC c)]) ∧ Below w.heap.size w w' := by
  have hq : isC c = true := isC_yes (by omega) (by omega)
  have g2 : (c == 39) = false := by simp; omega
  have g3 : (c == 92) = false := by simp; omega
  rw [hq]
  by_cases hc : 16 ≤ c
  · have hS := Lib.hid (esc_big c hc h1 (by omega))
    rcases h2 with h2 | ⟨h2, h3⟩ | h2
    · omega
    all_goals
      go_enter Tryd.func18, Tryd.ntmps18
      go_wp2_with (go_at_call 34; refine (is_any _ _).mono ?_; rintro e w' ⟨rfl, rfl⟩)
      go_ret2
      exact ⟨ret_sb hS.out.symm, Below.refl _ _⟩
  · have hS := Lib.hid (esc_little c h0 (by omega) (by omega))
    rcases h2 with h2 | ⟨h2, h3⟩ | h2
    case' inr.inr => exfalso; omega
    all_goals
      go_enter Tryd.func18, Tryd.ntmps18
      go_wp2_with (go_at_call 34; refine (is_any _ _).mono ?_; rintro e w' ⟨rfl, rfl⟩)
      go_ret2
      exact ⟨ret_sb hS.out.symm, Below.refl _ _⟩

theorem rescape_any (c : Int) (w : World) :
    Calls Tryd.prog 18 #[.int .i64 c] w fun e w' => e = .returned (.tuple #[.string (escS c), .bool (isC c)]) ∧ Below w.heap.size w w' := by
  by_cases hc : 0 ≤ c ∧ c ≤ 255
  · by_cases h1 : 7 ≤ c ∧ c ≤ 13
    · exact rescape_letter c h1.1 h1.2 w
    · by_cases h2 : c = 39 ∨ c = 92
      · exact rescape_quote c h2 w
      · by_cases h3 : 32 ≤ c ∧ c ≤ 126
        · exact rescape_self c h3.1 h3.2 (by omega) (by omega) w
        · exact rescape_hex c hc.1 hc.2 (by omega) w
  · exact rescape_no c (isC_no (by omega)) w

end Go.Proofs.YtcjpbomdnjmfkaaDoor
