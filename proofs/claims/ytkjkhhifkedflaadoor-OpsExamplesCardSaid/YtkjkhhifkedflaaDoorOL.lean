/- The contract of ops.Default: the predefined operators, sorted. -/
import Derived.Test.YtkjkhhifkedflaaDoorOK
import Derived.Test.YtkjkhhifkedflaaDoorOS
import Derived.Lib.Fields
set_option linter.unusedVariables false
set_option linter.unusedSimpArgs false
namespace Go.Proofs.YtkjkhhifkedflaaDoor
open Go.RowKit Go.Proofs.HP Go.BigFrame

def grps : List (Int × Int × List UInt8) := [(1200, 1, [58, 45, 32, 45, 45, 62]), (1200, 5, [58, 45, 32, 63, 45]), (1100, 2, [59]), (1050, 2, [45, 62]), (1000, 2, [44]), (900, 4, [92, 43]), (700, 1, [61, 32, 92, 61, 32, 61, 61, 32, 92, 61, 61, 32, 64, 60, 32, 64, 61, 60, 32, 64, 62, 32, 64, 62, 61, 32, 61, 46, 46, 32, 105, 115, 32, 61, 58, 61, 32, 61, 92, 61, 32, 60, 32, 61, 60, 32, 62, 32, 62, 61]), (500, 3, [43, 32, 45, 32, 47, 92, 32, 92, 47]), (400, 3, [42, 32, 47, 32, 47, 47, 32, 114, 101, 109, 32, 109, 111, 100, 32, 100, 105, 118, 32, 60, 60, 32, 62, 62]), (200, 1, [42, 42]), (200, 2, [94]), (200, 4, [43, 32, 45, 32, 92])]
def gP (k : Nat) : Int := (grps.getD k (0, 0, [])).1
def gT (k : Nat) : Int := (grps.getD k (0, 0, [])).2.1
def gS (k : Nat) : ByteArray := nm (grps.getD k (0, 0, [])).2.2
def gF (k : Nat) : List (List UInt8) := Lib.fields (gS k).data.toList
def gO (k : Nat) : List Opd := (gF k).map fun s => (nm s, gT k, gP k)
def pre : Nat → List Opd
  | 0 => []
  | k + 1 => pre k ++ gO k
theorem pre12 : pre 12 = U0 := by decide +kernel
theorem pre_len : ∀ k, k ≤ 12 → (pre k).length ≤ 41 := by decide +kernel
theorem gF_len : ∀ k, k < 12 → (gF k).length ≤ 16 := by decide +kernel
theorem gS_asc : ∀ k, k < 12 → (gS k).data.toList.all (fun b => decide (b.toNat < 128)) = true := by decide +kernel
theorem gS_size : ∀ k, k < 12 → (gS k).size ≤ 1000 := by decide +kernel
def gRow (k : Nat) : List Value := [.int .i64 (gP k), .int .i64 (gT k), .string (gS k)]
def grpCells : List Value := gRow 0 ++ gRow 1 ++ gRow 2 ++ gRow 3 ++ gRow 4 ++ gRow 5 ++ gRow 6 ++ gRow 7 ++ gRow 8 ++ gRow 9 ++ gRow 10 ++ gRow 11
theorem idx0 (w : World) : (Instr.index 49 (.agg grpCells.toArray) (.int .i64 0)).run Tryd.prog w = .ok (.agg #[.int .i64 (gP 0), .int .i64 (gT 0), .string (gS 0)]) w := by kernel_rfl
theorem idx1 (w : World) : (Instr.index 49 (.agg grpCells.toArray) (.int .i64 1)).run Tryd.prog w = .ok (.agg #[.int .i64 (gP 1), .int .i64 (gT 1), .string (gS 1)]) w := by kernel_rfl
theorem idx2 (w : World) : (Instr.index 49 (.agg grpCells.toArray) (.int .i64 2)).run Tryd.prog w = .ok (.agg #[.int .i64 (gP 2), .int .i64 (gT 2), .string (gS 2)]) w := by kernel_rfl
theorem idx3 (w : World) : (Instr.index 49 (.agg grpCells.toArray) (.int .i64 3)).run Tryd.prog w = .ok (.agg #[.int .i64 (gP 3), .int .i64 (gT 3), .string (gS 3)]) w := by kernel_rfl
theorem idx4 (w : World) : (Instr.index 49 (.agg grpCells.toArray) (.int .i64 4)).run Tryd.prog w = .ok (.agg #[.int .i64 (gP 4), .int .i64 (gT 4), .string (gS 4)]) w := by kernel_rfl
theorem idx5 (w : World) : (Instr.index 49 (.agg grpCells.toArray) (.int .i64 5)).run Tryd.prog w = .ok (.agg #[.int .i64 (gP 5), .int .i64 (gT 5), .string (gS 5)]) w := by kernel_rfl
theorem idx6 (w : World) : (Instr.index 49 (.agg grpCells.toArray) (.int .i64 6)).run Tryd.prog w = .ok (.agg #[.int .i64 (gP 6), .int .i64 (gT 6), .string (gS 6)]) w := by kernel_rfl
theorem idx7 (w : World) : (Instr.index 49 (.agg grpCells.toArray) (.int .i64 7)).run Tryd.prog w = .ok (.agg #[.int .i64 (gP 7), .int .i64 (gT 7), .string (gS 7)]) w := by kernel_rfl
theorem idx8 (w : World) : (Instr.index 49 (.agg grpCells.toArray) (.int .i64 8)).run Tryd.prog w = .ok (.agg #[.int .i64 (gP 8), .int .i64 (gT 8), .string (gS 8)]) w := by kernel_rfl
theorem idx9 (w : World) : (Instr.index 49 (.agg grpCells.toArray) (.int .i64 9)).run Tryd.prog w = .ok (.agg #[.int .i64 (gP 9), .int .i64 (gT 9), .string (gS 9)]) w := by kernel_rfl
theorem idx10 (w : World) : (Instr.index 49 (.agg grpCells.toArray) (.int .i64 10)).run Tryd.prog w = .ok (.agg #[.int .i64 (gP 10), .int .i64 (gT 10), .string (gS 10)]) w := by kernel_rfl
theorem idx11 (w : World) : (Instr.index 49 (.agg grpCells.toArray) (.int .i64 11)).run Tryd.prog w = .ok (.agg #[.int .i64 (gP 11), .int .i64 (gT 11), .string (gS 11)]) w := by kernel_rfl
theorem idx (k : Nat) (hk : k < 12) (w : World) : (Instr.index 49 (.agg grpCells.toArray) (.int .i64 (k : Int))).run Tryd.prog w = .ok (.agg #[.int .i64 (gP k), .int .i64 (gT k), .string (gS k)]) w := by
  have : k = 0 ∨ k = 1 ∨ k = 2 ∨ k = 3 ∨ k = 4 ∨ k = 5 ∨ k = 6 ∨ k = 7 ∨ k = 8 ∨ k = 9 ∨ k = 10 ∨ k = 11 := by omega
  rcases this with rfl | rfl | rfl | rfl | rfl | rfl | rfl | rfl | rfl | rfl | rfl | rfl
  · exact idx0 w
  · exact idx1 w
  · exact idx2 w
  · exact idx3 w
  · exact idx4 w
  · exact idx5 w
  · exact idx6 w
  · exact idx7 w
  · exact idx8 w
  · exact idx9 w
  · exact idx10 w
  · exact idx11 w
def ascCells : List Value := Lib.asciiSpaceTab.map fun z => Value.int .u8 z
/-- What the listed variables hold. -/
structure Laid (w : World) : Prop where
  grp : ∃ t fr, w.heap[0]? = some (.cells grpCells.toArray t fr)
  kl : KLaid w
  asc : ∃ t fr, w.heap[2]? = some (.cells ascCells.toArray t fr)
theorem Laid.below {w w' : World} (h : Laid w) (hb : Below w.heap.size w w') : Laid w' := by
  obtain ⟨⟨t, fr, hg⟩, hk, ⟨t2, fr2, hg2⟩⟩ := h
  exact ⟨⟨t, fr, (hb.block _ (lt_of_some hg)).trans hg⟩, hk.below hb, ⟨t2, fr2, (hb.block _ (lt_of_some hg2)).trans hg2⟩⟩
theorem Laid.tab {w : World} (h : Laid w) : Lib.TabIs Tryd.prog w "strings.asciiSpace" .u8 Lib.asciiSpaceTab := by
  obtain ⟨t, fr, hg⟩ := h.asc
  have hn : Tryd.prog.globalNamed "strings.asciiSpace" = some 2 := by kernel_rfl
  unfold Lib.TabIs World.var?
  rw [hn]
  simp only [Option.bind_some]
  rw [hg]
  rfl
theorem fields_any (k : Nat) (hk : k < 12) (w : World) (hL : Laid w) :
    Calls Tryd.prog 34 #[.string (gS k)] w fun e w' => e = .returned (.slice (some ⟨w.heap.size, 0, none⟩) (gF k).length (gF k).length) ∧ w' = w.alloc (.cells ((gF k).map fun l => Value.string ⟨l.toArray⟩).toArray 9) := by
  have h := Any.strings_Fields Tryd.lays157 (by kernel_rfl) (by kernel_rfl) (gS k) w (by have := gS_size k hk; omega) (fun j b hb => by
    have := gS_asc k hk
    rw [List.all_eq_true] at this
    exact of_decide_eq_true (this b (List.mem_of_getElem? hb))) hL.tab
  exact h
end Go.Proofs.YtkjkhhifkedflaaDoor
