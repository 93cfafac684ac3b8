/- The program's identical, Same. -/
import Derived.Test.YtehnhjhflaljhaaDoorI1
namespace Go.Proofs.YtehnhjhflaljhaaDoor
open Go.RowKit Go.Proofs.HT

theorem ne_list {s s' : ByteArray} (c2 : ¬ s = s') : ¬ s.toList = s'.toList := fun h => c2 (ByteArray.ext (by rw [ByteArray.toList_eq, ByteArray.toList_eq] at h; exact Array.toList_inj.1 h))

end Go.Proofs.YtehnhjhflaljhaaDoor
