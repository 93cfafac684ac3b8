/- The law's own helpers x, a, f; contracts with the result said. -/
import Derived.Test.YtehnhjhflaljhaaDoorIL
import Derived.Test.YtehnhjhflaljhaaDoorTm
namespace Go.Proofs.YtehnhjhflaljhaaDoor
open Go.RowKit Go.Proofs.HT

theorem vr_lies {w : World} {n : Int} (h : I64 n) : LiesT w (vr n) (.slice none 0 0) := OwnT.lies (S := fun _ => True) _ _ (vr_own h)
theorem int_lies {w : World} {n : Int} (h : I64 n) : LiesT w (.mk 1 n ⟨#[]⟩ []) (.slice none 0 0) := by
  unfold LiesT; exact ⟨⟨by omega, by omega⟩, h, by simp [ByteArray.size], .inl ⟨rfl, rfl⟩⟩
end Go.Proofs.YtehnhjhflaljhaaDoor
