/- The contracts of chars.Escape and chars.Unescape. -/
import Derived.Test.YtcjpbomdnjmfkaaDoorA10
namespace Go.Proofs.YtcjpbomdnjmfkaaDoor
open Go.RowKit

/-- How a character is written within single quotes. -/
def escS (c : Int) : ByteArray :=
  if isC c = false then { data := #[] }
  else if 7 ≤ c ∧ c < 14 then { data := #[92] } ++ ({ data := #[97, 98, 116, 110, 118, 102, 114] } : ByteArray).extract (c - 7).toNat (c - 7 + 1).toNat
  else if c = 39 ∨ c = 92 then { data := #[92] } ++ Utf8.encode c
  else if 32 ≤ c ∧ c ≤ 126 then Utf8.encode c
  else { data := #[92, 120] } ++ hexS c.toNat ++ { data := #[92] }
theorem ret_sb {a b : ByteArray} {v : Value} (h : a = b) : Ending.returned (.tuple #[.string a, v]) = .returned (.tuple #[.string b, v]) := by rw [h]

theorem escape_no (c : Int) (h : isC c = false) (w : World) :
    Calls Tryd.prog 13 #[.int .i64 c] w fun e w' => e = .returned (.tuple #[.string (escS c), .bool (isC c)]) ∧ Below w.heap.size w w' := by
  have hS : Hid (escS c = { data := #[] }) := by show _ = _; rw [escS, if_pos h]
  rw [hS.out, h]
  go_enter Tryd.func13, Tryd.ntmps13
  go_wp2_with (go_at_call 27; refine (isChar_any _ _).mono ?_; rintro e w' ⟨rfl, rfl⟩)
  go_ret2
  exact ⟨rfl, Below.refl _ _⟩

theorem escape_letter (c : Int) (h0 : 7 ≤ c) (h1 : c < 14) (w : World) :
    Calls Tryd.prog 13 #[.int .i64 c] w fun e w' => e = .returned (.tuple #[.string (escS c), .bool (isC c)]) ∧ Below w.heap.size w w' := by
  have hq : isC c = true := isC_yes (by omega) (by omega)
  have hS : Hid (escS c = { data := #[92] } ++ ({ data := #[97, 98, 116, 110, 118, 102, 114] } : ByteArray).extract (c - 7).toNat (c - 7 + 1).toNat) := by
    show _ = _; rw [escS, if_neg (by rw [hq]; decide), if_pos ⟨h0, h1⟩]
  rw [hq]
  go_enter Tryd.func13, Tryd.ntmps13
  go_wp2_with (go_at_call 27; refine (isChar_any _ _).mono ?_; rintro e w' ⟨rfl, rfl⟩)
  go_ret2
  exact ⟨ret_sb hS.out.symm, Below.refl _ _⟩

theorem escape_quote (c : Int) (hc : c = 39 ∨ c = 92) (w : World) :
    Calls Tryd.prog 13 #[.int .i64 c] w fun e w' => e = .returned (.tuple #[.string (escS c), .bool (isC c)]) ∧ Below w.heap.size w w' := by
  rcases hc with rfl | rfl
  · rw [show escS 39 = { data := #[92] } ++ Utf8.encode 39 from rfl]
    have hq : isC 39 = true := by decide
    rw [hq]
    go_enter Tryd.func13, Tryd.ntmps13
    go_wp2_with (go_at_call 27; refine (isChar_any _ _).mono ?_; rintro e w' ⟨rfl, rfl⟩)
    go_ret2
    exact ⟨rfl, Below.refl _ _⟩
  · rw [show escS 92 = { data := #[92] } ++ Utf8.encode 92 from rfl]
    have hq : isC 92 = true := by decide
    rw [hq]
    go_enter Tryd.func13, Tryd.ntmps13
    go_wp2_with (go_at_call 27; refine (isChar_any _ _).mono ?_; rintro e w' ⟨rfl, rfl⟩)
    go_ret2
    exact ⟨rfl, Below.refl _ _⟩

theorem escape_self (c : Int) (h0 : 32 ≤ c) (h1 : c ≤ 126) (h2 : ¬ c = 39) (h3 : ¬ c = 92) (w : World) :
    Calls Tryd.prog 13 #[.int .i64 c] w fun e w' => e = .returned (.tuple #[.string (escS c), .bool (isC c)]) ∧ Below w.heap.size w w' := by
  have hq : isC c = true := isC_yes (by omega) (by omega)
  have h4 : ¬ c < 14 := by omega
  have hS : Hid (escS c = Utf8.encode c) := by
    show _ = _; rw [escS, if_neg (by rw [hq]; decide), if_neg (by omega), if_neg (by omega), if_pos ⟨h0, h1⟩]
  have g2 : (c == 39) = false := by simpa using h2
  have g3 : (c == 92) = false := by simpa using h3
  rw [hq]
  clear h2 h3
  go_enter Tryd.func13, Tryd.ntmps13
  go_wp2_with (go_at_call 27; refine (isChar_any _ _).mono ?_; rintro e w' ⟨rfl, rfl⟩)
  go_ret2
  exact ⟨ret_sb hS.out.symm, Below.refl _ _⟩

theorem escape_hex (c : Int) (h0 : 0 ≤ c) (h1 : c ≤ 255) (h2 : c < 7 ∨ (14 ≤ c ∧ c < 32) ∨ 126 < c) (w : World) (h : w.cell? ⟨4, 15, none⟩ = some (.int .u8 4)) :
    Calls Tryd.prog 13 #[.int .i64 c] w fun e w' => e = .returned (.tuple #[.string (escS c), .bool (isC c)]) ∧ Below w.heap.size w w' := by
  have hq : isC c = true := isC_yes (by omega) (by omega)
  have hS : Hid (escS c = { data := #[92, 120] } ++ hexS c.toNat ++ { data := #[92] }) := by
    show _ = _; rw [escS, if_neg (by rw [hq]; decide), if_neg (by omega), if_neg (by omega), if_neg (by omega)]
  have g2 : (c == 39) = false := by simp; omega
  have g3 : (c == 92) = false := by simp; omega
  have HF := Lib.hid (fmt_any c h0 (by omega) w h)
  have hz : (hexS c.toNat).size ≤ 2 := by unfold hexS; split <;> (rw [strOfNums_size]; simp)
  rw [hq]
  clear h
  rcases h2 with h2 | h2 | h2
  · go_enter Tryd.func13, Tryd.ntmps13
    go_wp2_with (first | (go_at_call 27; refine (isChar_any _ _).mono ?_; rintro e w' ⟨rfl, rfl⟩) | (go_at_call 30; refine HF.out.mono ?_; rintro e w' ⟨rfl, hb⟩))
    go_ret2
    exact ⟨ret_sb hS.out.symm, hb⟩
  · obtain ⟨h3, h4⟩ := h2
    go_enter Tryd.func13, Tryd.ntmps13
    go_wp2_with (first | (go_at_call 27; refine (isChar_any _ _).mono ?_; rintro e w' ⟨rfl, rfl⟩) | (go_at_call 30; refine HF.out.mono ?_; rintro e w' ⟨rfl, hb⟩))
    go_ret2
    exact ⟨ret_sb hS.out.symm, hb⟩
  · have h3 : ¬ c < 14 := by omega
    go_enter Tryd.func13, Tryd.ntmps13
    go_wp2_with (first | (go_at_call 27; refine (isChar_any _ _).mono ?_; rintro e w' ⟨rfl, rfl⟩) | (go_at_call 30; refine HF.out.mono ?_; rintro e w' ⟨rfl, hb⟩))
    go_ret2
    exact ⟨ret_sb hS.out.symm, hb⟩

theorem escape_any (c : Int) (w : World) (h : w.cell? ⟨4, 15, none⟩ = some (.int .u8 4)) :
    Calls Tryd.prog 13 #[.int .i64 c] w fun e w' => e = .returned (.tuple #[.string (escS c), .bool (isC c)]) ∧ Below w.heap.size w w' := by
  by_cases hc : 0 ≤ c ∧ c ≤ 255
  · by_cases h1 : 7 ≤ c ∧ c < 14
    · exact escape_letter c h1.1 h1.2 w
    · by_cases h2 : c = 39 ∨ c = 92
      · exact escape_quote c h2 w
      · by_cases h3 : 32 ≤ c ∧ c ≤ 126
        · exact escape_self c h3.1 h3.2 (by omega) (by omega) w
        · exact escape_hex c hc.1 hc.2 (by omega) w h
  · exact escape_no c (isC_no (by omega)) w

theorem indexByte_le (l : List UInt8) (c : UInt8) : Lib.indexByte l c + 1 ≤ l.length := by
  induction l with
  | nil => simp [Lib.indexByte]
  | cons b r ih =>
    unfold Lib.indexByte
    split
    · simp only [List.length_cons]; omega
    · split
      · simp only [List.length_cons]; omega
      · simp only [List.length_cons]; omega
/-- The letter's place among the letters that denote 7 to 13, or -1. -/
def idxL (c : Int) : Int := Lib.indexByte [97, 98, 116, 110, 118, 102, 114] c.toNat.toUInt8
def selfL (c : Int) : Bool := c == 92 || c == 39 || c == 34 || c == 96
def unOk (c : Int) : Bool := selfL c || (isC c && decide (0 ≤ idxL c))
def unV (c : Int) : Int := if selfL c then c else if isC c && decide (0 ≤ idxL c) then 7 + idxL c else 0

theorem unescape_any (c : Int) (w : World) :
    Calls Tryd.prog 14 #[.int .i64 c] w fun e w' => e = .returned (.tuple #[.int .i64 (unV c), .bool (unOk c)]) ∧ Below w.heap.size w w' := by
  by_cases hs : c = 92 ∨ c = 39 ∨ c = 34 ∨ c = 96
  · have hv : unV c = c ∧ unOk c = true := by
      have : selfL c = true := by rcases hs with rfl | rfl | rfl | rfl <;> rfl
      simp [unV, unOk, this]
    rw [hv.1, hv.2]
    clear hv
    rcases hs with rfl | rfl | rfl | rfl
    all_goals
      go_enter Tryd.func14, Tryd.ntmps14
      go_wp2
      go_ret2
      exact ⟨rfl, Below.refl _ _⟩
  · have n1 : (c == 92) = false := by simp; omega
    have n2 : (c == 39) = false := by simp; omega
    have n3 : (c == 34) = false := by simp; omega
    have n4 : (c == 96) = false := by simp; omega
    have hself : selfL c = false := by simp only [selfL, n1, n2, n3, n4]; rfl
    clear hs
    by_cases hc : 0 ≤ c ∧ c ≤ 255
    · have hq := isC_yes hc.1 hc.2
      obtain ⟨c0, c1⟩ := hc
      have hw : IntKind.u8.wrap c = c := by simp [IntKind.wrap, IntKind.bits, IntKind.signed]; omega
      obtain ⟨i, Hi⟩ : ∃ i, Hid (Lib.indexByte [97, 98, 116, 110, 118, 102, 114] c.toNat.toUInt8 = i) := ⟨_, rfl⟩
      have hi2 : -1 ≤ i ∧ i ≤ 6 := by
        rw [← Hi.out]
        exact ⟨Lib.indexByte_ge _ _, by have := indexByte_le [97, 98, 116, 110, 118, 102, 114] c.toNat.toUInt8; simp only [List.length_cons, List.length_nil] at this; omega⟩
      obtain ⟨i1, i2⟩ := hi2
      by_cases hi : i < 0
      · have HV : Hid (unV c = 0) := by show _ = _; simp [unV, hself, hq, idxL, Hi.out]; omega
        have HO : Hid (unOk c = false) := by show _ = _; simp [unOk, hself, hq, idxL, Hi.out]; omega
        go_enter Tryd.func14, Tryd.ntmps14
        go_wp2_with (first | (go_at_call 27; refine (isChar_any _ _).mono ?_; rintro e w' ⟨rfl, rfl⟩) | (go_at_call 29; refine (Tryd.strings_IndexByte _ _ _).mono ?_; rintro e w' ⟨rfl, rfl⟩; rw [Hi.out]))
        go_ret2
        exact ⟨ret_ib HV.out.symm HO.out.symm, Below.refl _ _⟩
      · have HV : Hid (unV c = 7 + i) := by show _ = _; simp [unV, hself, hq, idxL, Hi.out]; omega
        have HO : Hid (unOk c = true) := by show _ = _; simp [unOk, hself, hq, idxL, Hi.out]; omega
        go_enter Tryd.func14, Tryd.ntmps14
        go_wp2_with (first | (go_at_call 27; refine (isChar_any _ _).mono ?_; rintro e w' ⟨rfl, rfl⟩) | (go_at_call 29; refine (Tryd.strings_IndexByte _ _ _).mono ?_; rintro e w' ⟨rfl, rfl⟩; rw [Hi.out]))
        go_ret2
        exact ⟨ret_ib HV.out.symm HO.out.symm, Below.refl _ _⟩
    · have hq : isC c = false := isC_no (by omega)
      have HV : Hid (unV c = 0) := by show _ = _; simp [unV, hself, hq]
      have HO : Hid (unOk c = false) := by show _ = _; simp [unOk, hself, hq]
      go_enter Tryd.func14, Tryd.ntmps14
      go_wp2_with (go_at_call 27; refine (isChar_any _ _).mono ?_; rintro e w' ⟨rfl, rfl⟩)
      go_ret2
      exact ⟨ret_ib HV.out.symm HO.out.symm, Below.refl _ _⟩

end Go.Proofs.YtcjpbomdnjmfkaaDoor
