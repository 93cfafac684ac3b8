/- The program's Same and Variant. -/
import Derived.Test.YtehnhjhflaljhaaDoorI2
import Derived.Deep.RegionHeld3
import Derived.Deep.DeepCutAuto
namespace Go.Proofs.YtehnhjhflaljhaaDoor
open Go.RowKit Go.Proofs.HT

theorem Valid_is (t : Tm) (v : Value) (b : Bool) (hb : validB t = b) (w : World) (h : LiesT w t v) : Calls Tryd.prog 36 #[tv t v] w fun e w' => e = .returned (.bool b) ∧ Below w.heap.size w w' := by
  subst hb; exact Valid_any t v w h
def variantV (t u : Tm) : Bool := validB t && validB u && sameB (canT t) (canT u)

end Go.Proofs.YtehnhjhflaljhaaDoor
