/- What the listed variables hold when a law is called. -/
import Derived.Test.YtkjkhhifkedflaaDoorOL
import Derived.Test.YtkjkhhifkedflaaDoorG2
import Derived.Test.YtkjkhhifkedflaaDoorRows
import Derived.LaidOnce
set_option linter.unusedVariables false
set_option linter.unusedSimpArgs false
namespace Go.Proofs.YtkjkhhifkedflaaDoor
open Go.ChangeShapes Go.WideShapes Go.ChangeAt Go.RowKit

abbrev laidL : List (String × DataW Unit) := [("unicode.White_Space", Rows.laid_unicode_White_Space), ("strings.asciiSpace", Rows.laid_strings_asciiSpace), ("hornbeam/ops.kinds", Rows.laid_hornbeam_ops_kinds), ("hornbeam/ops.predefined", Rows.laid_hornbeam_ops_predefined)]
theorem own : ownKnob Tryd.prog.godebug = none := by kernel_rfl
theorem grp_laid : HG.cellsD (Rows.laid_hornbeam_ops_predefined (H := Unit)) = grpCells := by kernel_rfl
theorem kind_laid : HG.cellsD (Rows.laid_hornbeam_ops_kinds (H := Unit)) = kindCells := by kernel_rfl
theorem asc_laid : HG.cellsD (Rows.laid_strings_asciiSpace (H := Unit)) = ascCells := by kernel_rfl
theorem of_laid {W : World} (h : laidMetH Tryd.prog laidL W) : Laid W := by
  rw [MakeChecks.laidMetH_plain _ _ _ (by kernel_rfl)] at h
  obtain ⟨ps, hv, _, _⟩ := h
  refine ⟨?_, ⟨?_⟩, ?_⟩
  · obtain ⟨e, fr, hg⟩ := HG.LaidVars.block hv 3 _ _ rfl 0 49 5 (by kernel_rfl) (by kernel_rfl) (by kernel_rfl)
    rw [grp_laid] at hg
    exact ⟨e, fr, hg⟩
  · obtain ⟨e, fr, hg⟩ := HG.LaidVars.block hv 2 _ _ rfl 1 62 5 (by kernel_rfl) (by kernel_rfl) (by kernel_rfl)
    rw [kind_laid] at hg
    exact ⟨e, fr, hg⟩
  · obtain ⟨e, fr, hg⟩ := HG.LaidVars.block hv 1 _ _ rfl 2 76 5 (by kernel_rfl) (by kernel_rfl) (by kernel_rfl)
    rw [asc_laid] at hg
    exact ⟨e, fr, hg⟩

/-- The door's own heap meets the condition. -/
theorem door_met (os : Os) (args : Array Value) : laidMetH Tryd.prog laidL ((World.doorLaid Tryd.prog 62 os).forCall (fun _ _ => 0) ⟨#[], args, []⟩).memory :=
  laidMetH_of_parts3 (fuel := 8) (laidMet_of_run' 8 (by kernel_rfl) (by kernel_rfl)) (by kernel_rfl) (by kernel_rfl)

end Go.Proofs.YtkjkhhifkedflaaDoor
