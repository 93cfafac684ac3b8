/- The program's Replace. -/
import Derived.Test.YtehnhjhflaljhaaDoorS10
import Derived.Deep.RegionHeld3
import Derived.Deep.DeepCutAuto
namespace Go.Proofs.YtehnhjhflaljhaaDoor
open Go.RowKit Go.Proofs.HT

/-- How often a variable occurs. -/
def occT (x : Int) (t : Tm) : Nat := occN x (pre t)
theorem vr_start (x : Int) (w w2 : World) (z : w.heap.size + 2 ≤ w2.heap.size) (h : w2.heap[w.heap.size + 1]? = some (.cells #[.int .i64 x] 2 (0, 0))) :
    VR x (w.heap.size + 1) w2.heap.size [] (fun g => g = w.heap.size + 1 ∨ g = w2.heap.size) (w2.alloc (.cells #[.int .i64 0] 3)) :=
  ⟨fun _ => Iff.rfl, by rw [Below.heap_alloc _ _ _ (by omega)]; exact h, by rw [heap_alloc_new]; rfl⟩
/-- The size of the result. -/
def repN (t d : Tm) (x : Int) : Int := cnt t + occT x t * ((cnt d : Int) - 1)
theorem cntM_val {t : Tm} (h : cnt t ≤ 2000) : cntM t 2001 = cnt t := by unfold cntM; rw [if_pos (by omega)]
theorem prod_bd (o q : Nat) (ho : o ≤ 2001) (hq : q ≤ 2000) : 0 ≤ (o : Int) * (q : Int) ∧ (o : Int) * (q : Int) ≤ 10000000 := by
  have h := Nat.mul_le_mul ho hq
  have h2 : ((o * q : Nat) : Int) = (o : Int) * (q : Int) := by simp
  omega

end Go.Proofs.YtehnhjhflaljhaaDoor
