/- The program's identical, with slices.EqualFunc; Same. -/
import Derived.Test.YtehnhjhflaljhaaDoorS11
import Derived.Test.YtehnhjhflaljhaaDoorRC
namespace Go.Proofs.YtehnhjhflaljhaaDoor
open Go.RowKit Go.Proofs.HT

/-- Are two lists of the same length and identical, one by one? -/
def eqL (ts us : List Tm) : Bool := decide (ts.length = us.length) && sameL ts us
theorem eqL_not {ts us : List Tm} (h : ¬ ts.length = us.length) : eqL ts us = false := by simp [eqL, h]

end Go.Proofs.YtehnhjhflaljhaaDoor
