/- What the listed variables hold when a law is called. -/
import Derived.Test.YtcjpbomdnjmfkaaDoorA2
import Derived.Test.YtcjpbomdnjmfkaaDoorG2
namespace Go.Proofs.YtcjpbomdnjmfkaaDoor
open Go.ChangeShapes Go.WideShapes Go.ChangeAt Go.RowKit

abbrev laidL : List (String × DataW Unit) := [("math/bits.deBruijn32tab", Rows.laid_math_bits_deBruijn32tab), ("math/bits.deBruijn64tab", Rows.laid_math_bits_deBruijn64tab), ("internal/strconv.uint64pow10", Rows.laid_internal_strconv_uint64pow10), ("hornbeam/chars.groups", Rows.laid_hornbeam_chars_groups)]
theorem own : ownKnob Tryd.prog.godebug = none := by kernel_rfl
theorem grp_cells : HG.cellsD (Rows.laid_hornbeam_chars_groups (H := Unit)) = grpCells.toList := by kernel_rfl
theorem tab_cell : (HG.cellsD (Rows.laid_math_bits_deBruijn64tab (H := Unit)))[15]? = some (.int .u8 4) := by kernel_rfl
theorem of_laid {W : World} (h : laidMetH Tryd.prog laidL W) : Laid W := by
  rw [MakeChecks.laidMetH_plain _ _ _ (by kernel_rfl)] at h
  obtain ⟨ps, hv, _, _⟩ := h
  refine ⟨?_, ?_⟩
  · obtain ⟨e, fr, hg⟩ := HG.LaidVars.block hv 3 _ _ rfl 0 47 4 (by kernel_rfl) (by kernel_rfl) (by kernel_rfl)
    rw [grp_cells] at hg
    exact ⟨e, fr, by simpa using hg⟩
  · obtain ⟨e, fr, hg⟩ := HG.LaidVars.block hv 1 _ _ rfl 4 74 4 (by kernel_rfl) (by kernel_rfl) (by kernel_rfl)
    rw [cell_of_row W 4 15 _ e fr hg]
    simpa using tab_cell

/-- The door's own heap meets the condition. -/
theorem door_met (os : Os) (args : Array Value) : laidMetH Tryd.prog laidL ((World.doorLaid Tryd.prog 36 os).forCall (fun _ _ => 0) ⟨#[], args, []⟩).memory :=
  laidMetH_of_parts3 (fuel := 8) (laidMet_of_run' 8 (by kernel_rfl) (by kernel_rfl)) (by kernel_rfl) (by kernel_rfl)

end Go.Proofs.YtcjpbomdnjmfkaaDoor
