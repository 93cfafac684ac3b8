/- The contract of the law's own function awake: it returns true. -/
import Derived.Test.YtcjpbomdnjmfkaaDoorA8
import Derived.Test.YtcjpbomdnjmfkaaDoorA9
namespace Go.Proofs.YtcjpbomdnjmfkaaDoor
open Go.RowKit

theorem esc10 : escS 10 = { data := #[92, 110] } := by decide
theorem cls95 : clsF 95 0 7 = 3 := by decide
theorem setOne : setP [] 97 98 = [(97, 98)] := by decide
theorem vldNil : vld [] = true := vld_true (GT.zero _)
theorem vldOne {x y : Int} (hx : isC x = true) (hy : isC y = true) (h : (x == y) = false) : vld [(x, y)] = true :=
  vld_true ((GT.zero _).next (p := (x, y)) rfl (goodP_of hx hy h) (fun _ h _ => absurd h (by simp)))
theorem convOne : conv [(97, 98)] 97 = 98 := by
  rw [conv_ok (vldOne (by decide) (by decide) (by decide)) (by decide)]
  decide

set_option maxHeartbeats 1000000 in
theorem awake_any (w : World) (hL : Laid w) :
    Calls Tryd.prog 10 #[] w fun e w' => e = .returned (.bool true) ∧ Below w.heap.size w w' := by
  have HL := Lib.hid hL
  clear hL
  go_enter Tryd.func10, Tryd.ntmps10
  go_wp2_with fail
  refine (escape_any 10 _ HL.out.tz).mono ?_
  rintro e w1 ⟨rfl, hb1⟩
  rw [esc10, show isC 10 = true from by decide]
  go_wp2_with fail
  refine (digit_small 70 16 15 (by decide) (by decide) (by decide) _).mono ?_
  rintro e w2 ⟨rfl, rfl⟩
  rw [show (if (15 : Int) < 16 then (15 : Int) else 0) = 15 from rfl, show decide ((15 : Int) < 16) = true from rfl]
  go_wp2_with fail
  refine (set_yes none 0 0 [] 97 98 _ rfl (by decide) (fun i p h => by simp at h) vldNil (by decide) (by decide)).mono ?_
  rintro e w3 ⟨g, rfl, hg, hO, hb3⟩
  rw [setOne] at hO ⊢
  have hb4 : Below w.heap.size w w3 := hb1.trans (hb3.mono hb1.size)
  have HO := Lib.hid hO
  clear hO hb3
  go_wp2_with fail
  refine (class_yes 95 (by decide) (by decide) _ (HL.out.below hb4)).mono ?_
  rintro e w4 ⟨rfl, hb5⟩
  rw [cls95]
  have hb6 : Below w.heap.size w w4 := hb4.trans (hb5.mono hb4.size)
  have HO2 := Lib.hid (HO.out.below hb5)
  clear HO hb5
  go_wp2_with fail
  refine (convert_any (some ⟨g, 0, none⟩) 1 1 [(97, 98)] 97 _ rfl (by decide) HO2.out.pr).mono ?_
  rintro e w5 ⟨rfl, hb7⟩
  rw [convOne]
  have hb8 : Below w.heap.size w w5 := hb6.trans (hb7.mono hb6.size)
  clear hb7
  go_wp2_with fail
  go_ret
  exact ⟨rfl, hb8⟩

end Go.Proofs.YtcjpbomdnjmfkaaDoor
