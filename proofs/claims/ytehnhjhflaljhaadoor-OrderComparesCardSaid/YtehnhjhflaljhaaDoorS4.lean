/- The program's substitute with the function hornbeam/term.Replace$2. -/
import Derived.Test.YtehnhjhflaljhaaDoorS0
import Derived.Laws.EntriesVeiled
namespace Go.Proofs.YtehnhjhflaljhaaDoor
open Go.RowKit Go.Proofs.HT

end Go.Proofs.YtehnhjhflaljhaaDoor
