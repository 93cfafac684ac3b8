/- The law CharsExamples: it returns true. -/
import Derived.Test.YtcjpbomdnjmfkaaDoorB2
namespace Go.Proofs.YtcjpbomdnjmfkaaDoor
open Go.RowKit

theorem cl32 : cls 32 = 1 := by decide
theorem cl37 : cls 37 = 6 := by decide
theorem cl200 : cls 200 = 8 := by decide
theorem cl256 : cls 256 = 0 := by decide
theorem dg1 : digR 102 16 = 15 ∧ digOk 102 16 = true := by decide
theorem dg2 : digR 56 8 = 0 ∧ digOk 56 8 = false := by decide
theorem dg3 : digR 122 36 = 35 ∧ digOk 122 36 = true := by decide
theorem es39 : escS 39 = { data := #[92, 39] } ∧ isC 39 = true := by decide
theorem es34 : escS 34 = { data := #[34] } ∧ isC 34 = true := by decide
theorem es127 : escS 127 = { data := #[92, 120, 55, 102, 92] } ∧ isC 127 = true := by decide
theorem un110 : unV 110 = 10 ∧ unOk 110 = true := by decide
theorem un101 : unV 101 = 0 ∧ unOk 101 = false := by decide
theorem setNone : setP [(97, 98)] 97 97 = [] := by decide
theorem vldOne1 : vld [(97, 98)] = true := vldOne (by decide) (by decide) (by decide)
theorem conv98 : conv [(97, 98)] 98 = 98 := by
  rw [conv_ok vldOne1 (by decide)]
  decide

set_option maxRecDepth 100000 in
set_option maxHeartbeats 2000000 in
theorem examples_walk (w : World) (hL : Laid w) :
    Calls Tryd.prog 3 #[] w fun e w' => e = .returned (.bool true) ∧ Below w.heap.size w w' := by
  have HL := Lib.hid hL
  clear hL
  go_enter Tryd.func3, Tryd.ntmps3
  go_wp2_with fail
  refine (awake_any _ HL.out).mono ?_
  rintro e w1 ⟨rfl, hb1⟩
  go_wp2_with fail
  refine (class_any 32 _ (HL.out.below hb1)).mono ?_
  rintro e w2 ⟨rfl, hb2⟩
  have hb3 : Below w.heap.size w w2 := hb1.trans (hb2.mono hb1.size)
  clear hb1 hb2
  rw [cl32]
  go_wp2_with fail
  refine (class_any 37 _ (HL.out.below hb3)).mono ?_
  rintro e w3 ⟨rfl, hb4⟩
  have hb5 : Below w.heap.size w w3 := hb3.trans (hb4.mono hb3.size)
  clear hb3 hb4
  rw [cl37]
  go_wp2_with fail
  refine (class_any 200 _ (HL.out.below hb5)).mono ?_
  rintro e w4 ⟨rfl, hb6⟩
  have hb7 : Below w.heap.size w w4 := hb5.trans (hb6.mono hb5.size)
  clear hb5 hb6
  rw [cl200]
  go_wp2_with fail
  refine (class_any 256 _ (HL.out.below hb7)).mono ?_
  rintro e w5 ⟨rfl, hb8⟩
  have hb9 : Below w.heap.size w w5 := hb7.trans (hb8.mono hb7.size)
  clear hb7 hb8
  rw [cl256]
  go_wp2_with fail
  refine (digit_any 102 16 _).mono ?_
  rintro e w6 ⟨rfl, rfl⟩
  rw [dg1.1, dg1.2]
  go_wp2_with fail
  refine (digit_any 56 8 _).mono ?_
  rintro e w6 ⟨rfl, rfl⟩
  rw [dg2.1, dg2.2]
  go_wp2_with fail
  refine (digit_any 122 36 _).mono ?_
  rintro e w6 ⟨rfl, rfl⟩
  rw [dg3.1, dg3.2]
  go_wp2_with fail
  refine (escape_any 39 _ (HL.out.below hb9).tz).mono ?_
  rintro e w6 ⟨rfl, hb10⟩
  have hb11 : Below w.heap.size w w6 := hb9.trans (hb10.mono hb9.size)
  clear hb9 hb10
  rw [es39.1, es39.2]
  go_wp2_with fail
  refine (escape_any 34 _ (HL.out.below hb11).tz).mono ?_
  rintro e w7 ⟨rfl, hb12⟩
  have hb13 : Below w.heap.size w w7 := hb11.trans (hb12.mono hb11.size)
  clear hb11 hb12
  rw [es34.1, es34.2]
  go_wp2_with fail
  refine (escape_any 127 _ (HL.out.below hb13).tz).mono ?_
  rintro e w8 ⟨rfl, hb14⟩
  have hb15 : Below w.heap.size w w8 := hb13.trans (hb14.mono hb13.size)
  clear hb13 hb14
  rw [es127.1, es127.2]
  go_wp2_with fail
  refine (unescape_any 110 _).mono ?_
  rintro e w9 ⟨rfl, hb16⟩
  have hb17 : Below w.heap.size w w9 := hb15.trans (hb16.mono hb15.size)
  clear hb15 hb16
  rw [un110.1, un110.2]
  go_wp2_with fail
  refine (unescape_any 101 _).mono ?_
  rintro e w10 ⟨rfl, hb18⟩
  have hb19 : Below w.heap.size w w10 := hb17.trans (hb18.mono hb17.size)
  clear hb17 hb18
  rw [un101.1, un101.2]
  have hone : PR (w10.alloc (.cells #[.int .i64 97, .int .i64 98] 30)) (some ⟨w10.heap.size, 0, none⟩) [(97, 98)] := fun i p hp => by
    cases i with
    | zero =>
      simp at hp; subst hp
      exact ⟨_, _, rfl, by simp, by simp⟩
    | succ i => simp at hp
  have HO := Lib.hid hone
  clear hone
  go_wp2_with fail
  refine (set_yes (some ⟨w10.heap.size, 0, none⟩) 1 1 [(97, 98)] 97 97 _ rfl (by decide) HO.out vldOne1 (by decide) (by decide)).mono ?_
  rintro e w11 ⟨g, rfl, hg, hO, hb20⟩
  rw [setNone] at hO ⊢
  have HO2 := Lib.hid (HO.out.below hb20)
  have hb21 : Below w.heap.size w w11 := (hb19.alloc hb19.size _).trans (hb20.mono (by have := hb19.size; simp; omega))
  clear hb19 hb20 HO hO
  go_wp2_with fail
  refine (set_no none 0 0 [] 256 1 _ rfl (by decide) (fun i p h => by simp at h) (.inr (.inl (by decide)))).mono ?_
  rintro e w12 ⟨rfl, hb22⟩
  have HO3 := Lib.hid (HO2.out.below hb22)
  have hb23 : Below w.heap.size w w12 := hb21.trans (hb22.mono hb21.size)
  clear hb21 hb22 HO2
  go_wp2_with fail
  refine (convert_any (some ⟨w10.heap.size, 0, none⟩) 1 1 [(97, 98)] 98 _ rfl (by decide) HO3.out).mono ?_
  rintro e w13 ⟨rfl, hb24⟩
  have hb25 : Below w.heap.size w w13 := hb23.trans (hb24.mono hb23.size)
  clear hb23 hb24
  rw [conv98]
  go_wp2_with fail
  go_ret
  exact ⟨rfl, hb25⟩

end Go.Proofs.YtcjpbomdnjmfkaaDoor
