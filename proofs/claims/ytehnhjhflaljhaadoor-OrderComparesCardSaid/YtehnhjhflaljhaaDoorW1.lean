/- The walk over the nodes of a term with the visitor hornbeam/term.Size$1. -/
import Derived.Test.YtehnhjhflaljhaaDoorP
import Derived.Test.YtehnhjhflaljhaaDoorTm
import Derived.Laws.EntriesVeiled
namespace Go.Proofs.YtehnhjhflaljhaaDoor
open Go.RowKit Go.Proofs.HT

end Go.Proofs.YtehnhjhflaljhaaDoor
