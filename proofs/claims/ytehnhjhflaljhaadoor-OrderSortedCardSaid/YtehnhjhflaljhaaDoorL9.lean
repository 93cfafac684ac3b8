/- What the listed variable holds when a law is called. -/
import Derived.Test.YtehnhjhflaljhaaDoorA4
import Derived.Test.YtehnhjhflaljhaaDoorRows
import Derived.Test.YtehnhjhflaljhaaDoorG7
import Derived.Stop.LaidErr
import Derived.Lib.LaidTab
namespace Go.Proofs.YtehnhjhflaljhaaDoor
open Go.ChangeShapes Go.WideShapes Go.ChangeAt Go.RowKit Go.Proofs.HT

abbrev laidL : List (String × DataW Unit) := [("hornbeam/order.places", Rows.laid_hornbeam_order_places)]
theorem own : ownKnob Tryd.prog.godebug = none := by kernel_rfl
theorem cellsI : Tryd.prog.cellsOf 3 = 1 := by kernel_rfl
theorem cellsP : Tryd.prog.cellsOf 58 = 4 := by kernel_rfl
theorem gP : Tryd.prog.globalNamed "hornbeam/order.places" = some 0 := by kernel_rfl
theorem gPType : (Tryd.prog.globals[0]?).map (·.type) = some 58 := by kernel_rfl
theorem pl_data : (Rows.laid_hornbeam_order_places (H := Unit)) = Lib.tabData .i64 [0, 1, 2, 3] := by kernel_rfl
theorem of_laid {W : World} (h : laidMetH Tryd.prog laidL W) : Places W := by
  rw [MakeChecks.laidMetH_plain _ _ _ (by kernel_rfl)] at h
  have h3 : laidMet Tryd.prog [("hornbeam/order.places", Lib.tabData .i64 [0, 1, 2, 3])] W := by rw [← pl_data]; exact h
  have htab := Lib.tabIs_of_head gP gPType Tryd.underlying58 Tryd.underlying3 cellsI cellsP h3
  intro j hj
  have hc := World.var?_cell gP htab j
  rcases j with _ | _ | _ | _ | j
  · simpa using hc
  · simpa using hc
  · simpa using hc
  · simpa using hc
  · omega
/-- The door's own heap meets the condition. -/
theorem door_met (os : Os) (args : Array Value) : laidMetH Tryd.prog laidL ((World.doorLaid Tryd.prog 109 os).forCall (fun _ _ => 0) ⟨#[], args, []⟩).memory :=
  laidMetH_of_parts3 (fuel := 8) (laidMet_of_run' 8 (by kernel_rfl) (by kernel_rfl)) (by kernel_rfl) (by kernel_rfl)

end Go.Proofs.YtehnhjhflaljhaaDoor
