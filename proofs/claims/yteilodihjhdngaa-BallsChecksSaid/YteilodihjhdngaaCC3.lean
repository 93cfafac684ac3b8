/- The law BallsChecks: all cases. -/
import Derived.Test.YteilodihjhdngaaCC39
import Derived.Test.YteilodihjhdngaaCC30
import Derived.Test.YteilodihjhdngaaCC31
import Derived.Test.YteilodihjhdngaaCC32
import Derived.Test.YteilodihjhdngaaCC33
set_option linter.unusedVariables false
set_option linter.unusedSimpArgs false
namespace Go.Proofs.Yteilodihjhdngaa
open Go.RowKit Go.Proofs.HT

theorem checks_walk (t : Tm) (v : Value) (w : World) (h : LiesT w t v) : Calls Try.prog 8 #[tv t v] w fun e w' => e = .returned (.bool true) ∧ Below w.heap.size w w' := by
  cases hv : validB t
  · exact checks_n9 t v w h (Lib.hid hv)
  · rcases kind_of hv with hk | hk | hk | hk
    · exact checks_k0 t v w h (Lib.hid hv) (Lib.hid hk)
    · exact checks_k1 t v w h (Lib.hid hv) (Lib.hid hk)
    · exact checks_k2 t v w h (Lib.hid hv) (Lib.hid hk)
    · exact checks_k3 t v w h (Lib.hid hv) (Lib.hid hk)
end Go.Proofs.Yteilodihjhdngaa
