/- The contract of the function that makes the table of the binary functions. -/
import Derived.Test.YthfclbbmioenlaaDoorA1
namespace Go.Proofs.YthfclbbmioenlaaDoor
open Go.RowKit

/-- The names of the binary functions, as bytes. -/
abbrev bPlus : ByteArray := { data := #[43] }
abbrev bMinus : ByteArray := { data := #[45] }
abbrev bTimes : ByteArray := { data := #[42] }
abbrev bQuot : ByteArray := { data := #[47, 47] }
abbrev bRem : ByteArray := { data := #[114, 101, 109] }
abbrev bDiv : ByteArray := { data := #[100, 105, 118] }
abbrev bMod : ByteArray := { data := #[109, 111, 100] }
abbrev bMin : ByteArray := { data := #[109, 105, 110] }
abbrev bMax : ByteArray := { data := #[109, 97, 120] }
abbrev bShr : ByteArray := { data := #[62, 62] }
abbrev bShl : ByteArray := { data := #[60, 60] }
abbrev bAnd : ByteArray := { data := #[47, 92] }
abbrev bOr : ByteArray := { data := #[92, 47] }
abbrev bXor : ByteArray := { data := #[120, 111, 114] }
abbrev bPow : ByteArray := { data := #[94] }
abbrev bGcd : ByteArray := { data := #[103, 99, 100] }
/-- What the table of the binary functions holds, N the block of the table. -/
abbrev bList (N : Nat) : List (ByteArray × Value) := [(bPlus, fn 57), (bMinus, fn 58), (bTimes, fn 59), (bQuot, clo 54 (N + 1)), (bRem, clo 54 (N + 3)), (bDiv, clo 54 (N + 4)), (bMod, clo 54 (N + 6)), (bMin, clo 52 (N + 7)), (bMax, clo 52 (N + 8)), (bShr, clo 56 (N + 10)), (bShl, clo 56 (N + 11)), (bAnd, clo 52 (N + 12)), (bOr, clo 52 (N + 13)), (bXor, clo 52 (N + 14)), (bPow, fn 71), (bGcd, fn 72)]

theorem divided_any (k : Nat) (cs : Array Value) (w : World) :
    Calls Tryd.prog 53 #[.func (.func k) #[] cs] w fun e w' => e = .returned (clo 54 w.heap.size) ∧ w' = w.alloc (.cells #[.func (.func k) #[] cs] 49) := by
  have hmf : ∀ (fn : Fn) (first cap : Array Value) (w : World), (Instr.makeFunc fn first cap).run Tryd.prog w = .ok (.func fn first cap) w := fun _ _ _ _ => rfl
  go_enter Tryd.func53, Tryd.ntmps53
  go_wp2
  go_ret
  exact ⟨rfl, rfl⟩

theorem shifted_any (k : Nat) (cs : Array Value) (w : World) :
    Calls Tryd.prog 55 #[.func (.func k) #[] cs] w fun e w' => e = .returned (clo 56 w.heap.size) ∧ w' = w.alloc (.cells #[.func (.func k) #[] cs] 49) := by
  have hmf : ∀ (fn : Fn) (first cap : Array Value) (w : World), (Instr.makeFunc fn first cap).run Tryd.prog w = .ok (.func fn first cap) w := fun _ _ _ _ => rfl
  go_enter Tryd.func55, Tryd.ntmps55
  go_wp2
  go_ret
  exact ⟨rfl, rfl⟩

structure Bi (w : World) (N : Nat) : Prop where
  map : HF.FnMap w N (bList N)
  b1 : Box w (N + 1) (fn 60)
  b2 : Box w (N + 2) (fn 61)
  b3 : Box w (N + 3) (clo 52 (N + 2))
  b4 : Box w (N + 4) (fn 62)
  b5 : Box w (N + 5) (fn 63)
  b6 : Box w (N + 6) (clo 52 (N + 5))
  b7 : Box w (N + 7) (fn 64)
  b8 : Box w (N + 8) (fn 65)
  b9 : Box w (N + 9) (fn 66)
  b10 : Box w (N + 10) (clo 52 (N + 9))
  b11 : Box w (N + 11) (fn 67)
  b12 : Box w (N + 12) (fn 68)
  b13 : Box w (N + 13) (fn 69)
  b14 : Box w (N + 14) (fn 70)

set_option maxRecDepth 100000 in
set_option maxHeartbeats 1000000 in
theorem binaries_any (w : World) :
    Calls Tryd.prog 28 #[] w fun e w' => e = .returned (.map (some w.heap.size)) ∧ Below w.heap.size w w' ∧ Bi w' w.heap.size := by
  have hmm := @run_makeMap Tryd.prog
  have h0 := HF.FnMap.made w
  go_enter Tryd.func28, Tryd.ntmps28
  go_wp2_with (first
    | ((with_reducible refine HF.at_insert ?_); refine HF.wpList_insert_fn rfl _ _ _ rfl Tryd.underlying51 Tryd.underlying9 rfl h0 bPlus rfl (fn 57) rfl [] rfl (by decide) ?_; intro w1 h1 hb1 hs1 hj1; clear h0)
    | ((with_reducible refine HF.at_insert ?_); refine HF.wpList_insert_fn rfl _ _ _ rfl Tryd.underlying51 Tryd.underlying9 rfl (by first | exact h1 | exact HF.FnMap.alloc h1 _ | exact HF.FnMap.alloc (HF.FnMap.alloc h1 _) _) bMinus rfl (fn 58) rfl [bPlus] rfl (by decide) ?_; intro w2 h2 hb2 hs2 hj2; clear h1)
    | ((with_reducible refine HF.at_insert ?_); refine HF.wpList_insert_fn rfl _ _ _ rfl Tryd.underlying51 Tryd.underlying9 rfl (by first | exact h2 | exact HF.FnMap.alloc h2 _ | exact HF.FnMap.alloc (HF.FnMap.alloc h2 _) _) bTimes rfl (fn 59) rfl [bPlus, bMinus] rfl (by decide) ?_; intro w3 h3 hb3 hs3 hj3; clear h2)
    | ((with_reducible refine HF.at_insert ?_); refine HF.wpList_insert_fn rfl _ _ _ rfl Tryd.underlying51 Tryd.underlying9 rfl (by first | exact h3 | exact HF.FnMap.alloc h3 _ | exact HF.FnMap.alloc (HF.FnMap.alloc h3 _) _) bQuot rfl (clo 54 (w.heap.size + 1)) rfl [bPlus, bMinus, bTimes] rfl (by decide) ?_; intro w4 h4 hb4 hs4 hj4; clear h3)
    | ((with_reducible refine HF.at_insert ?_); refine HF.wpList_insert_fn rfl _ _ _ rfl Tryd.underlying51 Tryd.underlying9 rfl (by first | exact h4 | exact HF.FnMap.alloc h4 _ | exact HF.FnMap.alloc (HF.FnMap.alloc h4 _) _) bRem rfl (clo 54 (w.heap.size + 3)) rfl [bPlus, bMinus, bTimes, bQuot] rfl (by decide) ?_; intro w5 h5 hb5 hs5 hj5; clear h4)
    | ((with_reducible refine HF.at_insert ?_); refine HF.wpList_insert_fn rfl _ _ _ rfl Tryd.underlying51 Tryd.underlying9 rfl (by first | exact h5 | exact HF.FnMap.alloc h5 _ | exact HF.FnMap.alloc (HF.FnMap.alloc h5 _) _) bDiv rfl (clo 54 (w.heap.size + 4)) rfl [bPlus, bMinus, bTimes, bQuot, bRem] rfl (by decide) ?_; intro w6 h6 hb6 hs6 hj6; clear h5)
    | ((with_reducible refine HF.at_insert ?_); refine HF.wpList_insert_fn rfl _ _ _ rfl Tryd.underlying51 Tryd.underlying9 rfl (by first | exact h6 | exact HF.FnMap.alloc h6 _ | exact HF.FnMap.alloc (HF.FnMap.alloc h6 _) _) bMod rfl (clo 54 (w.heap.size + 6)) rfl [bPlus, bMinus, bTimes, bQuot, bRem, bDiv] rfl (by decide) ?_; intro w7 h7 hb7 hs7 hj7; clear h6)
    | ((with_reducible refine HF.at_insert ?_); refine HF.wpList_insert_fn rfl _ _ _ rfl Tryd.underlying51 Tryd.underlying9 rfl (by first | exact h7 | exact HF.FnMap.alloc h7 _ | exact HF.FnMap.alloc (HF.FnMap.alloc h7 _) _) bMin rfl (clo 52 (w.heap.size + 7)) rfl [bPlus, bMinus, bTimes, bQuot, bRem, bDiv, bMod] rfl (by decide) ?_; intro w8 h8 hb8 hs8 hj8; clear h7)
    | ((with_reducible refine HF.at_insert ?_); refine HF.wpList_insert_fn rfl _ _ _ rfl Tryd.underlying51 Tryd.underlying9 rfl (by first | exact h8 | exact HF.FnMap.alloc h8 _ | exact HF.FnMap.alloc (HF.FnMap.alloc h8 _) _) bMax rfl (clo 52 (w.heap.size + 8)) rfl [bPlus, bMinus, bTimes, bQuot, bRem, bDiv, bMod, bMin] rfl (by decide) ?_; intro w9 h9 hb9 hs9 hj9; clear h8)
    | ((with_reducible refine HF.at_insert ?_); refine HF.wpList_insert_fn rfl _ _ _ rfl Tryd.underlying51 Tryd.underlying9 rfl (by first | exact h9 | exact HF.FnMap.alloc h9 _ | exact HF.FnMap.alloc (HF.FnMap.alloc h9 _) _) bShr rfl (clo 56 (w.heap.size + 10)) rfl [bPlus, bMinus, bTimes, bQuot, bRem, bDiv, bMod, bMin, bMax] rfl (by decide) ?_; intro w10 h10 hb10 hs10 hj10; clear h9)
    | ((with_reducible refine HF.at_insert ?_); refine HF.wpList_insert_fn rfl _ _ _ rfl Tryd.underlying51 Tryd.underlying9 rfl (by first | exact h10 | exact HF.FnMap.alloc h10 _ | exact HF.FnMap.alloc (HF.FnMap.alloc h10 _) _) bShl rfl (clo 56 (w.heap.size + 11)) rfl [bPlus, bMinus, bTimes, bQuot, bRem, bDiv, bMod, bMin, bMax, bShr] rfl (by decide) ?_; intro w11 h11 hb11 hs11 hj11; clear h10)
    | ((with_reducible refine HF.at_insert ?_); refine HF.wpList_insert_fn rfl _ _ _ rfl Tryd.underlying51 Tryd.underlying9 rfl (by first | exact h11 | exact HF.FnMap.alloc h11 _ | exact HF.FnMap.alloc (HF.FnMap.alloc h11 _) _) bAnd rfl (clo 52 (w.heap.size + 12)) rfl [bPlus, bMinus, bTimes, bQuot, bRem, bDiv, bMod, bMin, bMax, bShr, bShl] rfl (by decide) ?_; intro w12 h12 hb12 hs12 hj12; clear h11)
    | ((with_reducible refine HF.at_insert ?_); refine HF.wpList_insert_fn rfl _ _ _ rfl Tryd.underlying51 Tryd.underlying9 rfl (by first | exact h12 | exact HF.FnMap.alloc h12 _ | exact HF.FnMap.alloc (HF.FnMap.alloc h12 _) _) bOr rfl (clo 52 (w.heap.size + 13)) rfl [bPlus, bMinus, bTimes, bQuot, bRem, bDiv, bMod, bMin, bMax, bShr, bShl, bAnd] rfl (by decide) ?_; intro w13 h13 hb13 hs13 hj13; clear h12)
    | ((with_reducible refine HF.at_insert ?_); refine HF.wpList_insert_fn rfl _ _ _ rfl Tryd.underlying51 Tryd.underlying9 rfl (by first | exact h13 | exact HF.FnMap.alloc h13 _ | exact HF.FnMap.alloc (HF.FnMap.alloc h13 _) _) bXor rfl (clo 52 (w.heap.size + 14)) rfl [bPlus, bMinus, bTimes, bQuot, bRem, bDiv, bMod, bMin, bMax, bShr, bShl, bAnd, bOr] rfl (by decide) ?_; intro w14 h14 hb14 hs14 hj14; clear h13)
    | ((with_reducible refine HF.at_insert ?_); refine HF.wpList_insert_fn rfl _ _ _ rfl Tryd.underlying51 Tryd.underlying9 rfl (by first | exact h14 | exact HF.FnMap.alloc h14 _ | exact HF.FnMap.alloc (HF.FnMap.alloc h14 _) _) bPow rfl (fn 71) rfl [bPlus, bMinus, bTimes, bQuot, bRem, bDiv, bMod, bMin, bMax, bShr, bShl, bAnd, bOr, bXor] rfl (by decide) ?_; intro w15 h15 hb15 hs15 hj15; clear h14)
    | ((with_reducible refine HF.at_insert ?_); refine HF.wpList_insert_fn rfl _ _ _ rfl Tryd.underlying51 Tryd.underlying9 rfl (by first | exact h15 | exact HF.FnMap.alloc h15 _ | exact HF.FnMap.alloc (HF.FnMap.alloc h15 _) _) bGcd rfl (fn 72) rfl [bPlus, bMinus, bTimes, bQuot, bRem, bDiv, bMod, bMin, bMax, bShr, bShl, bAnd, bOr, bXor, bPow] rfl (by decide) ?_; intro w16 h16 hb16 hs16 hj16; clear h15)
    | (go_at_call 51; refine (total2_any _ _).mono ?_; rintro e w' ⟨rfl, rfl⟩)
    | (go_at_call 53; refine (divided_any _ _ _).mono ?_; rintro e w' ⟨rfl, rfl⟩)
    | (go_at_call 55; refine (shifted_any _ _ _).mono ?_; rintro e w' ⟨rfl, rfl⟩))
  have z1 : w1.heap.size = w.heap.size + 1 := by rw [hs1, World.size_alloc]
  have B1 : Below w.heap.size w w1 := ((Below.refl _ _).alloc (Nat.le_refl _) _).trans hb1
  have z2 : w2.heap.size = w.heap.size + 1 := by rw [hs2, z1]
  have B2 := B1.trans hb2
  have z3 : w3.heap.size = w.heap.size + 1 := by rw [hs3, z2]
  have B3 := B2.trans hb3
  have z4 : w4.heap.size = w.heap.size + 2 := by rw [hs4, World.size_alloc, z3]
  have B4 := (B3.alloc (by omega) _).trans hb4
  have p4_1 : Box w4 (w.heap.size + 1) (fn 60) := Box.put (m := w.heap.size) (by first | (rw [← z3]; exact (Box.mk w3 (fn 60) 49)) | (rw [show w.heap.size + 1 = (w3.alloc (.cells #[fn 60] 49)).heap.size by rw [World.size_alloc]; omega]; exact (Box.mk w3 (fn 60) 49))) hj4 (by omega)
  have z5 : w5.heap.size = w.heap.size + 4 := by rw [hs5, World.size_alloc, World.size_alloc, z4]
  have B5 := ((B4.alloc (by omega) _).alloc (by rw [World.size_alloc]; omega) _).trans hb5
  have p5_1 := ((p4_1.alloc _).alloc _).put hj5 (by omega)
  have p5_2 : Box w5 (w.heap.size + 2) (fn 61) := Box.put (m := w.heap.size) (by first | (rw [← z4]; exact ((Box.mk w4 (fn 61) 56).alloc _)) | (rw [show w.heap.size + 2 = (w4.alloc (.cells #[fn 61] 56)).heap.size by rw [World.size_alloc]; omega]; exact ((Box.mk w4 (fn 61) 56).alloc _))) hj5 (by omega)
  have p5_3 : Box w5 (w.heap.size + 3) (clo 52 (w.heap.size + 2)) := Box.put (m := w.heap.size) (by first | (rw [← z4]; exact (Box.mk (w4.alloc _) (clo 52 (w.heap.size + 2)) 49)) | (rw [show w.heap.size + 3 = (w4.alloc (.cells #[fn 61] 56)).heap.size by rw [World.size_alloc]; omega]; exact (Box.mk (w4.alloc _) (clo 52 (w.heap.size + 2)) 49))) hj5 (by omega)
  have z6 : w6.heap.size = w.heap.size + 5 := by rw [hs6, World.size_alloc, z5]
  have B6 := (B5.alloc (by omega) _).trans hb6
  have p6_1 := (p5_1.alloc _).put hj6 (by omega)
  have p6_2 := (p5_2.alloc _).put hj6 (by omega)
  have p6_3 := (p5_3.alloc _).put hj6 (by omega)
  have p6_4 : Box w6 (w.heap.size + 4) (fn 62) := Box.put (m := w.heap.size) (by first | (rw [← z5]; exact (Box.mk w5 (fn 62) 49)) | (rw [show w.heap.size + 4 = (w5.alloc (.cells #[fn 62] 49)).heap.size by rw [World.size_alloc]; omega]; exact (Box.mk w5 (fn 62) 49))) hj6 (by omega)
  have z7 : w7.heap.size = w.heap.size + 7 := by rw [hs7, World.size_alloc, World.size_alloc, z6]
  have B7 := ((B6.alloc (by omega) _).alloc (by rw [World.size_alloc]; omega) _).trans hb7
  have p7_1 := ((p6_1.alloc _).alloc _).put hj7 (by omega)
  have p7_2 := ((p6_2.alloc _).alloc _).put hj7 (by omega)
  have p7_3 := ((p6_3.alloc _).alloc _).put hj7 (by omega)
  have p7_4 := ((p6_4.alloc _).alloc _).put hj7 (by omega)
  have p7_5 : Box w7 (w.heap.size + 5) (fn 63) := Box.put (m := w.heap.size) (by first | (rw [← z6]; exact ((Box.mk w6 (fn 63) 56).alloc _)) | (rw [show w.heap.size + 5 = (w6.alloc (.cells #[fn 63] 56)).heap.size by rw [World.size_alloc]; omega]; exact ((Box.mk w6 (fn 63) 56).alloc _))) hj7 (by omega)
  have p7_6 : Box w7 (w.heap.size + 6) (clo 52 (w.heap.size + 5)) := Box.put (m := w.heap.size) (by first | (rw [← z6]; exact (Box.mk (w6.alloc _) (clo 52 (w.heap.size + 5)) 49)) | (rw [show w.heap.size + 6 = (w6.alloc (.cells #[fn 63] 56)).heap.size by rw [World.size_alloc]; omega]; exact (Box.mk (w6.alloc _) (clo 52 (w.heap.size + 5)) 49))) hj7 (by omega)
  have z8 : w8.heap.size = w.heap.size + 8 := by rw [hs8, World.size_alloc, z7]
  have B8 := (B7.alloc (by omega) _).trans hb8
  have p8_1 := (p7_1.alloc _).put hj8 (by omega)
  have p8_2 := (p7_2.alloc _).put hj8 (by omega)
  have p8_3 := (p7_3.alloc _).put hj8 (by omega)
  have p8_4 := (p7_4.alloc _).put hj8 (by omega)
  have p8_5 := (p7_5.alloc _).put hj8 (by omega)
  have p8_6 := (p7_6.alloc _).put hj8 (by omega)
  have p8_7 : Box w8 (w.heap.size + 7) (fn 64) := Box.put (m := w.heap.size) (by first | (rw [← z7]; exact (Box.mk w7 (fn 64) 56)) | (rw [show w.heap.size + 7 = (w7.alloc (.cells #[fn 64] 56)).heap.size by rw [World.size_alloc]; omega]; exact (Box.mk w7 (fn 64) 56))) hj8 (by omega)
  have z9 : w9.heap.size = w.heap.size + 9 := by rw [hs9, World.size_alloc, z8]
  have B9 := (B8.alloc (by omega) _).trans hb9
  have p9_1 := (p8_1.alloc _).put hj9 (by omega)
  have p9_2 := (p8_2.alloc _).put hj9 (by omega)
  have p9_3 := (p8_3.alloc _).put hj9 (by omega)
  have p9_4 := (p8_4.alloc _).put hj9 (by omega)
  have p9_5 := (p8_5.alloc _).put hj9 (by omega)
  have p9_6 := (p8_6.alloc _).put hj9 (by omega)
  have p9_7 := (p8_7.alloc _).put hj9 (by omega)
  have p9_8 : Box w9 (w.heap.size + 8) (fn 65) := Box.put (m := w.heap.size) (by first | (rw [← z8]; exact (Box.mk w8 (fn 65) 56)) | (rw [show w.heap.size + 8 = (w8.alloc (.cells #[fn 65] 56)).heap.size by rw [World.size_alloc]; omega]; exact (Box.mk w8 (fn 65) 56))) hj9 (by omega)
  have z10 : w10.heap.size = w.heap.size + 11 := by rw [hs10, World.size_alloc, World.size_alloc, z9]
  have B10 := ((B9.alloc (by omega) _).alloc (by rw [World.size_alloc]; omega) _).trans hb10
  have p10_1 := ((p9_1.alloc _).alloc _).put hj10 (by omega)
  have p10_2 := ((p9_2.alloc _).alloc _).put hj10 (by omega)
  have p10_3 := ((p9_3.alloc _).alloc _).put hj10 (by omega)
  have p10_4 := ((p9_4.alloc _).alloc _).put hj10 (by omega)
  have p10_5 := ((p9_5.alloc _).alloc _).put hj10 (by omega)
  have p10_6 := ((p9_6.alloc _).alloc _).put hj10 (by omega)
  have p10_7 := ((p9_7.alloc _).alloc _).put hj10 (by omega)
  have p10_8 := ((p9_8.alloc _).alloc _).put hj10 (by omega)
  have p10_9 : Box w10 (w.heap.size + 9) (fn 66) := Box.put (m := w.heap.size) (by first | (rw [← z9]; exact ((Box.mk w9 (fn 66) 56).alloc _)) | (rw [show w.heap.size + 9 = (w9.alloc (.cells #[fn 66] 56)).heap.size by rw [World.size_alloc]; omega]; exact ((Box.mk w9 (fn 66) 56).alloc _))) hj10 (by omega)
  have p10_10 : Box w10 (w.heap.size + 10) (clo 52 (w.heap.size + 9)) := Box.put (m := w.heap.size) (by first | (rw [← z9]; exact (Box.mk (w9.alloc _) (clo 52 (w.heap.size + 9)) 49)) | (rw [show w.heap.size + 10 = (w9.alloc (.cells #[fn 66] 56)).heap.size by rw [World.size_alloc]; omega]; exact (Box.mk (w9.alloc _) (clo 52 (w.heap.size + 9)) 49))) hj10 (by omega)
  have z11 : w11.heap.size = w.heap.size + 12 := by rw [hs11, World.size_alloc, z10]
  have B11 := (B10.alloc (by omega) _).trans hb11
  have p11_1 := (p10_1.alloc _).put hj11 (by omega)
  have p11_2 := (p10_2.alloc _).put hj11 (by omega)
  have p11_3 := (p10_3.alloc _).put hj11 (by omega)
  have p11_4 := (p10_4.alloc _).put hj11 (by omega)
  have p11_5 := (p10_5.alloc _).put hj11 (by omega)
  have p11_6 := (p10_6.alloc _).put hj11 (by omega)
  have p11_7 := (p10_7.alloc _).put hj11 (by omega)
  have p11_8 := (p10_8.alloc _).put hj11 (by omega)
  have p11_9 := (p10_9.alloc _).put hj11 (by omega)
  have p11_10 := (p10_10.alloc _).put hj11 (by omega)
  have p11_11 : Box w11 (w.heap.size + 11) (fn 67) := Box.put (m := w.heap.size) (by first | (rw [← z10]; exact (Box.mk w10 (fn 67) 49)) | (rw [show w.heap.size + 11 = (w10.alloc (.cells #[fn 67] 49)).heap.size by rw [World.size_alloc]; omega]; exact (Box.mk w10 (fn 67) 49))) hj11 (by omega)
  have z12 : w12.heap.size = w.heap.size + 13 := by rw [hs12, World.size_alloc, z11]
  have B12 := (B11.alloc (by omega) _).trans hb12
  have p12_1 := (p11_1.alloc _).put hj12 (by omega)
  have p12_2 := (p11_2.alloc _).put hj12 (by omega)
  have p12_3 := (p11_3.alloc _).put hj12 (by omega)
  have p12_4 := (p11_4.alloc _).put hj12 (by omega)
  have p12_5 := (p11_5.alloc _).put hj12 (by omega)
  have p12_6 := (p11_6.alloc _).put hj12 (by omega)
  have p12_7 := (p11_7.alloc _).put hj12 (by omega)
  have p12_8 := (p11_8.alloc _).put hj12 (by omega)
  have p12_9 := (p11_9.alloc _).put hj12 (by omega)
  have p12_10 := (p11_10.alloc _).put hj12 (by omega)
  have p12_11 := (p11_11.alloc _).put hj12 (by omega)
  have p12_12 : Box w12 (w.heap.size + 12) (fn 68) := Box.put (m := w.heap.size) (by first | (rw [← z11]; exact (Box.mk w11 (fn 68) 56)) | (rw [show w.heap.size + 12 = (w11.alloc (.cells #[fn 68] 56)).heap.size by rw [World.size_alloc]; omega]; exact (Box.mk w11 (fn 68) 56))) hj12 (by omega)
  have z13 : w13.heap.size = w.heap.size + 14 := by rw [hs13, World.size_alloc, z12]
  have B13 := (B12.alloc (by omega) _).trans hb13
  have p13_1 := (p12_1.alloc _).put hj13 (by omega)
  have p13_2 := (p12_2.alloc _).put hj13 (by omega)
  have p13_3 := (p12_3.alloc _).put hj13 (by omega)
  have p13_4 := (p12_4.alloc _).put hj13 (by omega)
  have p13_5 := (p12_5.alloc _).put hj13 (by omega)
  have p13_6 := (p12_6.alloc _).put hj13 (by omega)
  have p13_7 := (p12_7.alloc _).put hj13 (by omega)
  have p13_8 := (p12_8.alloc _).put hj13 (by omega)
  have p13_9 := (p12_9.alloc _).put hj13 (by omega)
  have p13_10 := (p12_10.alloc _).put hj13 (by omega)
  have p13_11 := (p12_11.alloc _).put hj13 (by omega)
  have p13_12 := (p12_12.alloc _).put hj13 (by omega)
  have p13_13 : Box w13 (w.heap.size + 13) (fn 69) := Box.put (m := w.heap.size) (by first | (rw [← z12]; exact (Box.mk w12 (fn 69) 56)) | (rw [show w.heap.size + 13 = (w12.alloc (.cells #[fn 69] 56)).heap.size by rw [World.size_alloc]; omega]; exact (Box.mk w12 (fn 69) 56))) hj13 (by omega)
  have z14 : w14.heap.size = w.heap.size + 15 := by rw [hs14, World.size_alloc, z13]
  have B14 := (B13.alloc (by omega) _).trans hb14
  have p14_1 := (p13_1.alloc _).put hj14 (by omega)
  have p14_2 := (p13_2.alloc _).put hj14 (by omega)
  have p14_3 := (p13_3.alloc _).put hj14 (by omega)
  have p14_4 := (p13_4.alloc _).put hj14 (by omega)
  have p14_5 := (p13_5.alloc _).put hj14 (by omega)
  have p14_6 := (p13_6.alloc _).put hj14 (by omega)
  have p14_7 := (p13_7.alloc _).put hj14 (by omega)
  have p14_8 := (p13_8.alloc _).put hj14 (by omega)
  have p14_9 := (p13_9.alloc _).put hj14 (by omega)
  have p14_10 := (p13_10.alloc _).put hj14 (by omega)
  have p14_11 := (p13_11.alloc _).put hj14 (by omega)
  have p14_12 := (p13_12.alloc _).put hj14 (by omega)
  have p14_13 := (p13_13.alloc _).put hj14 (by omega)
  have p14_14 : Box w14 (w.heap.size + 14) (fn 70) := Box.put (m := w.heap.size) (by first | (rw [← z13]; exact (Box.mk w13 (fn 70) 56)) | (rw [show w.heap.size + 14 = (w13.alloc (.cells #[fn 70] 56)).heap.size by rw [World.size_alloc]; omega]; exact (Box.mk w13 (fn 70) 56))) hj14 (by omega)
  have z15 : w15.heap.size = w.heap.size + 15 := by rw [hs15, z14]
  have B15 := B14.trans hb15
  have p15_1 := p14_1.put hj15 (by omega)
  have p15_2 := p14_2.put hj15 (by omega)
  have p15_3 := p14_3.put hj15 (by omega)
  have p15_4 := p14_4.put hj15 (by omega)
  have p15_5 := p14_5.put hj15 (by omega)
  have p15_6 := p14_6.put hj15 (by omega)
  have p15_7 := p14_7.put hj15 (by omega)
  have p15_8 := p14_8.put hj15 (by omega)
  have p15_9 := p14_9.put hj15 (by omega)
  have p15_10 := p14_10.put hj15 (by omega)
  have p15_11 := p14_11.put hj15 (by omega)
  have p15_12 := p14_12.put hj15 (by omega)
  have p15_13 := p14_13.put hj15 (by omega)
  have p15_14 := p14_14.put hj15 (by omega)
  have z16 : w16.heap.size = w.heap.size + 15 := by rw [hs16, z15]
  have B16 := B15.trans hb16
  have p16_1 := p15_1.put hj16 (by omega)
  have p16_2 := p15_2.put hj16 (by omega)
  have p16_3 := p15_3.put hj16 (by omega)
  have p16_4 := p15_4.put hj16 (by omega)
  have p16_5 := p15_5.put hj16 (by omega)
  have p16_6 := p15_6.put hj16 (by omega)
  have p16_7 := p15_7.put hj16 (by omega)
  have p16_8 := p15_8.put hj16 (by omega)
  have p16_9 := p15_9.put hj16 (by omega)
  have p16_10 := p15_10.put hj16 (by omega)
  have p16_11 := p15_11.put hj16 (by omega)
  have p16_12 := p15_12.put hj16 (by omega)
  have p16_13 := p15_13.put hj16 (by omega)
  have p16_14 := p15_14.put hj16 (by omega)
  go_ret
  exact ⟨rfl, B16, ⟨h16, p16_1, p16_2, p16_3, p16_4, p16_5, p16_6, p16_7, p16_8, p16_9, p16_10, p16_11, p16_12, p16_13, p16_14⟩⟩

end Go.Proofs.YthfclbbmioenlaaDoor
