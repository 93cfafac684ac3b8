/- The program's substitute with the function hornbeam/term.Canon$1. -/
import Derived.Test.YtehnhjhflaljhaaDoorS0
import Derived.Laws.EntriesVeiled
namespace Go.Proofs.YtehnhjhflaljhaaDoor
open Go.RowKit Go.Proofs.HT

end Go.Proofs.YtehnhjhflaljhaaDoor
