/- The contract of chars.Class: it returns the class that the table of groups gives. -/
import Derived.Test.YtcjpbomdnjmfkaaDoorA1
import Derived.Lib.Hide
import Derived.Deep.LoopGhost
namespace Go.Proofs.YtcjpbomdnjmfkaaDoor
open Go.RowKit

def str (l : List UInt8) : ByteArray := ⟨l.toArray⟩
def grps : List (Int × ByteArray) := [(2, str [97, 98, 99, 100, 101, 102, 103, 104, 105, 106, 107, 108, 109, 110, 111, 112, 113, 114, 115, 116, 117, 118, 119, 120, 121, 122]), (1, str [9, 10, 11, 12, 13, 32]), (3, str [65, 66, 67, 68, 69, 70, 71, 72, 73, 74, 75, 76, 77, 78, 79, 80, 81, 82, 83, 84, 85, 86, 87, 88, 89, 90, 95]), (4, str [48, 49, 50, 51, 52, 53, 54, 55, 56, 57]), (5, str [35, 36, 38, 42, 43, 45, 46, 47, 58, 60, 61, 62, 63, 64, 94, 126, 92]), (6, str [33, 40, 41, 44, 59, 91, 93, 123, 125, 37, 124]), (7, str [39, 34, 96])]
def gK (k : Nat) : Int := (grps.getD k (0, str [])).1
def gM (k : Nat) : ByteArray := (grps.getD k (0, str [])).2
def grpCells : Array Value := #[.int .i64 (gK 0), .string (gM 0), .int .i64 (gK 1), .string (gM 1), .int .i64 (gK 2), .string (gM 2), .int .i64 (gK 3), .string (gM 3), .int .i64 (gK 4), .string (gM 4), .int .i64 (gK 5), .string (gM 5), .int .i64 (gK 6), .string (gM 6)]

theorem idx0 (w : World) : (Instr.index 47 (.agg grpCells) (.int .i64 0)).run Tryd.prog w = .ok (.agg #[.int .i64 (gK 0), .string (gM 0)]) w := by kernel_rfl
theorem idx1 (w : World) : (Instr.index 47 (.agg grpCells) (.int .i64 1)).run Tryd.prog w = .ok (.agg #[.int .i64 (gK 1), .string (gM 1)]) w := by kernel_rfl
theorem idx2 (w : World) : (Instr.index 47 (.agg grpCells) (.int .i64 2)).run Tryd.prog w = .ok (.agg #[.int .i64 (gK 2), .string (gM 2)]) w := by kernel_rfl
theorem idx3 (w : World) : (Instr.index 47 (.agg grpCells) (.int .i64 3)).run Tryd.prog w = .ok (.agg #[.int .i64 (gK 3), .string (gM 3)]) w := by kernel_rfl
theorem idx4 (w : World) : (Instr.index 47 (.agg grpCells) (.int .i64 4)).run Tryd.prog w = .ok (.agg #[.int .i64 (gK 4), .string (gM 4)]) w := by kernel_rfl
theorem idx5 (w : World) : (Instr.index 47 (.agg grpCells) (.int .i64 5)).run Tryd.prog w = .ok (.agg #[.int .i64 (gK 5), .string (gM 5)]) w := by kernel_rfl
theorem idx6 (w : World) : (Instr.index 47 (.agg grpCells) (.int .i64 6)).run Tryd.prog w = .ok (.agg #[.int .i64 (gK 6), .string (gM 6)]) w := by kernel_rfl
theorem idx (k : Nat) (hk : k < 7) (w : World) : (Instr.index 47 (.agg grpCells) (.int .i64 (k : Int))).run Tryd.prog w = .ok (.agg #[.int .i64 (gK k), .string (gM k)]) w := by
  have : k = 0 ∨ k = 1 ∨ k = 2 ∨ k = 3 ∨ k = 4 ∨ k = 5 ∨ k = 6 := by omega
  rcases this with rfl | rfl | rfl | rfl | rfl | rfl | rfl
  · exact idx0 w
  · exact idx1 w
  · exact idx2 w
  · exact idx3 w
  · exact idx4 w
  · exact idx5 w
  · exact idx6 w

/-- Is the character among group k's? -/
def inG (k : Nat) (c : Int) : Bool := decide (0 ≤ Lib.indexByte (gM k).data.toList c.toNat.toUInt8)
/-- The first group from k on that has the character; n groups are left. -/
def clsF (c : Int) : Nat → Nat → Int
  | _, 0 => 8
  | k, n + 1 => if inG k c then gK k else clsF c (k + 1) n
theorem clsF_no (c : Int) (k : Nat) (h : inG k c = false) (hk : k < 7) : clsF c k (7 - k) = clsF c (k + 1) (7 - (k + 1)) := by
  obtain ⟨n, hn⟩ : ∃ n, 7 - k = n + 1 := ⟨6 - k, by omega⟩
  rw [hn, show 7 - (k + 1) = n by omega]; simp [clsF, h]
theorem clsF_yes (c : Int) (k : Nat) (h : inG k c = true) (hk : k < 7) : clsF c k (7 - k) = gK k := by
  obtain ⟨n, hn⟩ : ∃ n, 7 - k = n + 1 := ⟨6 - k, by omega⟩
  rw [hn]; simp [clsF, h]
def cls (c : Int) : Int := if isC c then clsF c 0 7 else 0

theorem has_at (k : Nat) (a : Addr) (c : Int) (h0 : 0 ≤ c) (h1 : c ≤ 255) (w : World) (hc : w.cell? a = some (.int .i64 c)) :
    Calls Tryd.prog 28 #[.agg #[.int .i64 (gK k), .string (gM k)], .pointer (some a)] w fun e w' => e = .returned (.bool (inG k c)) ∧ Below w.heap.size w w' :=
  has_any _ _ a c h0 h1 w hc

/-- What the listed variables hold. -/
structure Laid (w : World) : Prop where
  grp : ∃ t fr, w.heap[0]? = some (.cells grpCells t fr)
  tz : w.cell? ⟨4, 15, none⟩ = some (.int .u8 4)

theorem Laid.below {w w' : World} (h : Laid w) (hb : Below w.heap.size w w') : Laid w' := by
  obtain ⟨t, fr, hg⟩ := h.grp
  have hlt : 0 < w.heap.size := by
    rcases Nat.lt_or_ge 0 w.heap.size with h | h
    · exact h
    · rw [Array.getElem?_eq_none h] at hg; cases hg
  exact ⟨⟨t, fr, (hb.block 0 hlt).trans hg⟩, cell_later hb h.tz⟩

theorem class_no (c : Int) (h : c < 0 ∨ 255 < c) (w : World) :
    Calls Tryd.prog 11 #[.int .i64 c] w fun e w' => e = .returned (.int .i64 0) ∧ Below w.heap.size w w' := by
  have hq := isC_no h
  go_enter Tryd.func11, Tryd.ntmps11
  go_wp2_with (go_at_call 27; refine (isChar_any _ _).mono ?_; rintro e w' ⟨rfl, rfl⟩)
  go_ret
  exact ⟨rfl, (Below.refl _ _).alloc (Nat.le_refl _) _⟩

set_option maxHeartbeats 400000 in
theorem class_yes (c : Int) (h0 : 0 ≤ c) (h1 : c ≤ 255) (w : World) (hL : Laid w) :
    Calls Tryd.prog 11 #[.int .i64 c] w fun e w' => e = .returned (.int .i64 (clsF c 0 7)) ∧ Below w.heap.size w w' := by
  have hq := isC_yes h0 h1
  obtain ⟨t, fr, hg⟩ := hL.grp
  have hg1 : ∀ o, (w.alloc o).heap[0]? = some (.cells grpCells t fr) := fun o => by
    rw [Below.heap_alloc w o 0 (by
      rcases Nat.lt_or_ge 0 w.heap.size with h | h
      · exact h
      · rw [Array.getElem?_eq_none h] at hg; cases hg)]
    exact hg
  clear hL
  go_enter Tryd.func11, Tryd.ntmps11
  go_wp2_with (first | (go_at_call 27; refine (isChar_any _ _).mono ?_; rintro e w' ⟨rfl, rfl⟩) | (refine wpList_load_row rfl 47 _ rfl 0 rfl t _ fr _ (hg1 _) Tryd.underlying47 rfl (by kernel_rfl) ?_))
  go_loopw [11] (fun i wr => ∃ k : Nat, k ≤ 7 ∧ i = .int .i64 k ∧ Hid (clsF c 0 7 = clsF c k (7 - k)) ∧ Below w.heap.size w wr ∧ wr.cell? ⟨w.heap.size, 0, none⟩ = some (.int .i64 c)) (fun i _ => 7 - (intOf i).toNat)
  case atStart => exact ⟨0, by omega, rfl, rfl, (Below.refl _ _).alloc (Nat.le_refl _) _, by simp⟩
  case round =>
    obtain ⟨k, hk, rfl, hC, hb, hcell⟩ := hrel
    clear hg hg1
    by_cases hlt : k < 7
    · have hidx := idx k hlt
      have hcell1 : ∀ o, (wr.alloc o).cell? ⟨w.heap.size, 0, none⟩ = some (.int .i64 c) := fun o => cell_later ((Below.refl _ _).alloc (Nat.le_refl _) o) hcell
      go_wp2_with fail
      refine (has_at k _ c h0 h1 _ (hcell1 _)).mono ?_
      rintro e w1 ⟨rfl, hb1⟩
      have hb2 : Below w.heap.size w w1 := (hb.alloc hb.size _).trans (hb1.mono (by have := hb.size; simp; omega))
      have hc1 : w1.cell? ⟨w.heap.size, 0, none⟩ = some (.int .i64 c) := cell_later hb1 (hcell1 _)
      have hc2 : w1.cell? ⟨wr.heap.size, 0, none⟩ = some (.int .i64 (gK k)) := cell_later hb1 (by simp)
      clear hb1 hcell hcell1 hidx
      by_cases hin : inG k c = true
      · go_wp2
        go_ret
        exact ⟨ret_int (hC.out.trans (clsF_yes c k hin hlt)).symm, hb2⟩
      · have hin' : inG k c = false := by simpa using hin
        have hN : Hid (clsF c 0 7 = clsF c (k + 1) (7 - (k + 1))) := by
          exact hC.out.trans (clsF_no c k hin' hlt)
        clear hin hC
        go_wp2
        go_roundw
        case rel => exact ⟨k + 1, by omega, by go_num, hN, hb2, hc1⟩
        case measure => simp [intOf]; omega
    · have : k = 7 := by omega
      subst this
      go_wp2
      go_ret
      exact ⟨ret_int (by rw [hC.out]; rfl), hb⟩

end Go.Proofs.YtcjpbomdnjmfkaaDoor
