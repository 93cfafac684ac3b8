/- The contracts of the specification's Default, and of the law's find. -/
import Derived.Test.YtkjkhhifkedflaaDoorOX
import Derived.Test.YtkjkhhifkedflaaDoorON
set_option linter.unusedVariables false
set_option linter.unusedSimpArgs false
namespace Go.Proofs.YtkjkhhifkedflaaDoor
open Go.RowKit Go.Proofs.HP Go.BigFrame

def gN (k : Nat) : List ByteArray := (gF k).map nm
def rD : Nat → List Opd
  | 0 => []
  | k + 1 => putL (rD k) (gP k) (gT k) (gN k)
theorem rD12 : rD 12 = D0 := by decide +kernel
theorem rD_len : ∀ k, k ≤ 12 → (rD k).length ≤ 41 := by decide +kernel
theorem PRS.new (w : World) (ns : List ByteArray) : PRS (w.alloc (.cells (ns.map Value.string).toArray 9)) w.heap.size ns := fun i s h => by
  rw [cell_of_row _ _ _ _ _ _ (heap_alloc_new _ _)]
  have : (ns.map Value.string)[i]? = some (.string s) := by rw [List.getElem?_map, h]; rfl
  simpa using this
theorem ns0 : gN 0 = [nm [58, 45], nm [45, 45, 62]] := by decide +kernel
theorem ns1 : gN 1 = [nm [58, 45], nm [63, 45]] := by decide +kernel
theorem ns2 : gN 2 = [nm [59]] := by decide +kernel
theorem ns3 : gN 3 = [nm [45, 62]] := by decide +kernel
theorem ns4 : gN 4 = [nm [44]] := by decide +kernel
theorem ns5 : gN 5 = [nm [92, 43]] := by decide +kernel
theorem ns6 : gN 6 = [nm [61], nm [92, 61], nm [61, 61], nm [92, 61, 61], nm [64, 60], nm [64, 61, 60], nm [64, 62], nm [64, 62, 61], nm [61, 46, 46], nm [105, 115], nm [61, 58, 61], nm [61, 92, 61], nm [60], nm [61, 60], nm [62], nm [62, 61]] := by decide +kernel
theorem ns7 : gN 7 = [nm [43], nm [45], nm [47, 92], nm [92, 47]] := by decide +kernel
theorem ns8 : gN 8 = [nm [42], nm [47], nm [47, 47], nm [114, 101, 109], nm [109, 111, 100], nm [100, 105, 118], nm [60, 60], nm [62, 62]] := by decide +kernel
theorem ns9 : gN 9 = [nm [42, 42]] := by decide +kernel
theorem ns10 : gN 10 = [nm [94]] := by decide +kernel
theorem ns11 : gN 11 = [nm [43], nm [45], nm [92]] := by decide +kernel
set_option maxHeartbeats 8000000 in
theorem rdefault_any (w : World) : Calls Tryd.prog 22 #[] w (SlEnd D0 w) := by
  have HD := Lib.hid rD12
  have H0 : Hid (PRO w none (rD 0)) := Lib.hid (pro_nil w)
  have B0 : Hid (Below w.heap.size w w) := Lib.hid (Below.refl _ _)
  go_enter Tryd.func22, Tryd.ntmps22
  go_wp2_with fail
  have S0 : Hid (PRS (w.alloc (.cells #[.string ⟨#[58, 45]⟩, .string ⟨#[45, 45, 62]⟩] 9)) w.heap.size (gN 0)) := Lib.hid (by rw [ns0]; exact PRS.new w [nm [58, 45], nm [45, 45, 62]])
  have C0 := Lib.hid (put_any none (rD 0).length 0 (rD 0) (gP 0) (gT 0) w.heap.size 2 (gN 0) (w.alloc (.cells #[.string ⟨#[58, 45]⟩, .string ⟨#[45, 45, 62]⟩] 9)) rfl (by have := rD_len 0 (by omega); omega) (H0.out.below (al0 _ _)) (by rw [ns0]; rfl) (by omega) S0.out)
  refine (C0.out).mono ?_
  rintro e w1 ⟨A1, c1, rfl, r1, b1⟩
  have H1 : Hid (PRO w1 A1 (rD 1)) := Lib.hid r1
  have B1 : Hid (Below w.heap.size w w1) := Lib.hid (B0.out.trans ((al b1).mono B0.out.size))
  have hn1 : (putL (rD 0) (gP 0) (gT 0) (gN 0)).length = (rD 1).length := rfl
  rw [hn1]
  clear hn1 r1 b1 C0 S0 H0 B0
  go_wp2_with fail
  have S1 : Hid (PRS (w1.alloc (.cells #[.string ⟨#[58, 45]⟩, .string ⟨#[63, 45]⟩] 9)) w1.heap.size (gN 1)) := Lib.hid (by rw [ns1]; exact PRS.new w1 [nm [58, 45], nm [63, 45]])
  have C1 := Lib.hid (put_any A1 (rD 1).length c1 (rD 1) (gP 1) (gT 1) w1.heap.size 2 (gN 1) (w1.alloc (.cells #[.string ⟨#[58, 45]⟩, .string ⟨#[63, 45]⟩] 9)) rfl (by have := rD_len 1 (by omega); omega) (H1.out.below (al0 _ _)) (by rw [ns1]; rfl) (by omega) S1.out)
  refine (C1.out).mono ?_
  rintro e w2 ⟨A2, c2, rfl, r2, b2⟩
  have H2 : Hid (PRO w2 A2 (rD 2)) := Lib.hid r2
  have B2 : Hid (Below w.heap.size w w2) := Lib.hid (B1.out.trans ((al b2).mono B1.out.size))
  have hn2 : (putL (rD 1) (gP 1) (gT 1) (gN 1)).length = (rD 2).length := rfl
  rw [hn2]
  clear hn2 r2 b2 C1 S1 H1 B1
  go_wp2_with fail
  have S2 : Hid (PRS (w2.alloc (.cells #[.string ⟨#[59]⟩] 9)) w2.heap.size (gN 2)) := Lib.hid (by rw [ns2]; exact PRS.new w2 [nm [59]])
  have C2 := Lib.hid (put_any A2 (rD 2).length c2 (rD 2) (gP 2) (gT 2) w2.heap.size 1 (gN 2) (w2.alloc (.cells #[.string ⟨#[59]⟩] 9)) rfl (by have := rD_len 2 (by omega); omega) (H2.out.below (al0 _ _)) (by rw [ns2]; rfl) (by omega) S2.out)
  refine (C2.out).mono ?_
  rintro e w3 ⟨A3, c3, rfl, r3, b3⟩
  have H3 : Hid (PRO w3 A3 (rD 3)) := Lib.hid r3
  have B3 : Hid (Below w.heap.size w w3) := Lib.hid (B2.out.trans ((al b3).mono B2.out.size))
  have hn3 : (putL (rD 2) (gP 2) (gT 2) (gN 2)).length = (rD 3).length := rfl
  rw [hn3]
  clear hn3 r3 b3 C2 S2 H2 B2
  go_wp2_with fail
  have S3 : Hid (PRS (w3.alloc (.cells #[.string ⟨#[45, 62]⟩] 9)) w3.heap.size (gN 3)) := Lib.hid (by rw [ns3]; exact PRS.new w3 [nm [45, 62]])
  have C3 := Lib.hid (put_any A3 (rD 3).length c3 (rD 3) (gP 3) (gT 3) w3.heap.size 1 (gN 3) (w3.alloc (.cells #[.string ⟨#[45, 62]⟩] 9)) rfl (by have := rD_len 3 (by omega); omega) (H3.out.below (al0 _ _)) (by rw [ns3]; rfl) (by omega) S3.out)
  refine (C3.out).mono ?_
  rintro e w4 ⟨A4, c4, rfl, r4, b4⟩
  have H4 : Hid (PRO w4 A4 (rD 4)) := Lib.hid r4
  have B4 : Hid (Below w.heap.size w w4) := Lib.hid (B3.out.trans ((al b4).mono B3.out.size))
  have hn4 : (putL (rD 3) (gP 3) (gT 3) (gN 3)).length = (rD 4).length := rfl
  rw [hn4]
  clear hn4 r4 b4 C3 S3 H3 B3
  go_wp2_with fail
  have S4 : Hid (PRS (w4.alloc (.cells #[.string ⟨#[44]⟩] 9)) w4.heap.size (gN 4)) := Lib.hid (by rw [ns4]; exact PRS.new w4 [nm [44]])
  have C4 := Lib.hid (put_any A4 (rD 4).length c4 (rD 4) (gP 4) (gT 4) w4.heap.size 1 (gN 4) (w4.alloc (.cells #[.string ⟨#[44]⟩] 9)) rfl (by have := rD_len 4 (by omega); omega) (H4.out.below (al0 _ _)) (by rw [ns4]; rfl) (by omega) S4.out)
  refine (C4.out).mono ?_
  rintro e w5 ⟨A5, c5, rfl, r5, b5⟩
  have H5 : Hid (PRO w5 A5 (rD 5)) := Lib.hid r5
  have B5 : Hid (Below w.heap.size w w5) := Lib.hid (B4.out.trans ((al b5).mono B4.out.size))
  have hn5 : (putL (rD 4) (gP 4) (gT 4) (gN 4)).length = (rD 5).length := rfl
  rw [hn5]
  clear hn5 r5 b5 C4 S4 H4 B4
  go_wp2_with fail
  have S5 : Hid (PRS (w5.alloc (.cells #[.string ⟨#[92, 43]⟩] 9)) w5.heap.size (gN 5)) := Lib.hid (by rw [ns5]; exact PRS.new w5 [nm [92, 43]])
  have C5 := Lib.hid (put_any A5 (rD 5).length c5 (rD 5) (gP 5) (gT 5) w5.heap.size 1 (gN 5) (w5.alloc (.cells #[.string ⟨#[92, 43]⟩] 9)) rfl (by have := rD_len 5 (by omega); omega) (H5.out.below (al0 _ _)) (by rw [ns5]; rfl) (by omega) S5.out)
  refine (C5.out).mono ?_
  rintro e w6 ⟨A6, c6, rfl, r6, b6⟩
  have H6 : Hid (PRO w6 A6 (rD 6)) := Lib.hid r6
  have B6 : Hid (Below w.heap.size w w6) := Lib.hid (B5.out.trans ((al b6).mono B5.out.size))
  have hn6 : (putL (rD 5) (gP 5) (gT 5) (gN 5)).length = (rD 6).length := rfl
  rw [hn6]
  clear hn6 r6 b6 C5 S5 H5 B5
  go_wp2_with fail
  have S6 : Hid (PRS (w6.alloc (.cells #[.string ⟨#[61]⟩, .string ⟨#[92, 61]⟩, .string ⟨#[61, 61]⟩, .string ⟨#[92, 61, 61]⟩, .string ⟨#[64, 60]⟩, .string ⟨#[64, 61, 60]⟩, .string ⟨#[64, 62]⟩, .string ⟨#[64, 62, 61]⟩, .string ⟨#[61, 46, 46]⟩, .string ⟨#[105, 115]⟩, .string ⟨#[61, 58, 61]⟩, .string ⟨#[61, 92, 61]⟩, .string ⟨#[60]⟩, .string ⟨#[61, 60]⟩, .string ⟨#[62]⟩, .string ⟨#[62, 61]⟩] 9)) w6.heap.size (gN 6)) := Lib.hid (by rw [ns6]; exact PRS.new w6 [nm [61], nm [92, 61], nm [61, 61], nm [92, 61, 61], nm [64, 60], nm [64, 61, 60], nm [64, 62], nm [64, 62, 61], nm [61, 46, 46], nm [105, 115], nm [61, 58, 61], nm [61, 92, 61], nm [60], nm [61, 60], nm [62], nm [62, 61]])
  have C6 := Lib.hid (put_any A6 (rD 6).length c6 (rD 6) (gP 6) (gT 6) w6.heap.size 16 (gN 6) (w6.alloc (.cells #[.string ⟨#[61]⟩, .string ⟨#[92, 61]⟩, .string ⟨#[61, 61]⟩, .string ⟨#[92, 61, 61]⟩, .string ⟨#[64, 60]⟩, .string ⟨#[64, 61, 60]⟩, .string ⟨#[64, 62]⟩, .string ⟨#[64, 62, 61]⟩, .string ⟨#[61, 46, 46]⟩, .string ⟨#[105, 115]⟩, .string ⟨#[61, 58, 61]⟩, .string ⟨#[61, 92, 61]⟩, .string ⟨#[60]⟩, .string ⟨#[61, 60]⟩, .string ⟨#[62]⟩, .string ⟨#[62, 61]⟩] 9)) rfl (by have := rD_len 6 (by omega); omega) (H6.out.below (al0 _ _)) (by rw [ns6]; rfl) (by omega) S6.out)
  refine (C6.out).mono ?_
  rintro e w7 ⟨A7, c7, rfl, r7, b7⟩
  have H7 : Hid (PRO w7 A7 (rD 7)) := Lib.hid r7
  have B7 : Hid (Below w.heap.size w w7) := Lib.hid (B6.out.trans ((al b7).mono B6.out.size))
  have hn7 : (putL (rD 6) (gP 6) (gT 6) (gN 6)).length = (rD 7).length := rfl
  rw [hn7]
  clear hn7 r7 b7 C6 S6 H6 B6
  go_wp2_with fail
  have S7 : Hid (PRS (w7.alloc (.cells #[.string ⟨#[43]⟩, .string ⟨#[45]⟩, .string ⟨#[47, 92]⟩, .string ⟨#[92, 47]⟩] 9)) w7.heap.size (gN 7)) := Lib.hid (by rw [ns7]; exact PRS.new w7 [nm [43], nm [45], nm [47, 92], nm [92, 47]])
  have C7 := Lib.hid (put_any A7 (rD 7).length c7 (rD 7) (gP 7) (gT 7) w7.heap.size 4 (gN 7) (w7.alloc (.cells #[.string ⟨#[43]⟩, .string ⟨#[45]⟩, .string ⟨#[47, 92]⟩, .string ⟨#[92, 47]⟩] 9)) rfl (by have := rD_len 7 (by omega); omega) (H7.out.below (al0 _ _)) (by rw [ns7]; rfl) (by omega) S7.out)
  refine (C7.out).mono ?_
  rintro e w8 ⟨A8, c8, rfl, r8, b8⟩
  have H8 : Hid (PRO w8 A8 (rD 8)) := Lib.hid r8
  have B8 : Hid (Below w.heap.size w w8) := Lib.hid (B7.out.trans ((al b8).mono B7.out.size))
  have hn8 : (putL (rD 7) (gP 7) (gT 7) (gN 7)).length = (rD 8).length := rfl
  rw [hn8]
  clear hn8 r8 b8 C7 S7 H7 B7
  go_wp2_with fail
  have S8 : Hid (PRS (w8.alloc (.cells #[.string ⟨#[42]⟩, .string ⟨#[47]⟩, .string ⟨#[47, 47]⟩, .string ⟨#[114, 101, 109]⟩, .string ⟨#[109, 111, 100]⟩, .string ⟨#[100, 105, 118]⟩, .string ⟨#[60, 60]⟩, .string ⟨#[62, 62]⟩] 9)) w8.heap.size (gN 8)) := Lib.hid (by rw [ns8]; exact PRS.new w8 [nm [42], nm [47], nm [47, 47], nm [114, 101, 109], nm [109, 111, 100], nm [100, 105, 118], nm [60, 60], nm [62, 62]])
  have C8 := Lib.hid (put_any A8 (rD 8).length c8 (rD 8) (gP 8) (gT 8) w8.heap.size 8 (gN 8) (w8.alloc (.cells #[.string ⟨#[42]⟩, .string ⟨#[47]⟩, .string ⟨#[47, 47]⟩, .string ⟨#[114, 101, 109]⟩, .string ⟨#[109, 111, 100]⟩, .string ⟨#[100, 105, 118]⟩, .string ⟨#[60, 60]⟩, .string ⟨#[62, 62]⟩] 9)) rfl (by have := rD_len 8 (by omega); omega) (H8.out.below (al0 _ _)) (by rw [ns8]; rfl) (by omega) S8.out)
  refine (C8.out).mono ?_
  rintro e w9 ⟨A9, c9, rfl, r9, b9⟩
  have H9 : Hid (PRO w9 A9 (rD 9)) := Lib.hid r9
  have B9 : Hid (Below w.heap.size w w9) := Lib.hid (B8.out.trans ((al b9).mono B8.out.size))
  have hn9 : (putL (rD 8) (gP 8) (gT 8) (gN 8)).length = (rD 9).length := rfl
  rw [hn9]
  clear hn9 r9 b9 C8 S8 H8 B8
  go_wp2_with fail
  have S9 : Hid (PRS (w9.alloc (.cells #[.string ⟨#[42, 42]⟩] 9)) w9.heap.size (gN 9)) := Lib.hid (by rw [ns9]; exact PRS.new w9 [nm [42, 42]])
  have C9 := Lib.hid (put_any A9 (rD 9).length c9 (rD 9) (gP 9) (gT 9) w9.heap.size 1 (gN 9) (w9.alloc (.cells #[.string ⟨#[42, 42]⟩] 9)) rfl (by have := rD_len 9 (by omega); omega) (H9.out.below (al0 _ _)) (by rw [ns9]; rfl) (by omega) S9.out)
  refine (C9.out).mono ?_
  rintro e w10 ⟨A10, c10, rfl, r10, b10⟩
  have H10 : Hid (PRO w10 A10 (rD 10)) := Lib.hid r10
  have B10 : Hid (Below w.heap.size w w10) := Lib.hid (B9.out.trans ((al b10).mono B9.out.size))
  have hn10 : (putL (rD 9) (gP 9) (gT 9) (gN 9)).length = (rD 10).length := rfl
  rw [hn10]
  clear hn10 r10 b10 C9 S9 H9 B9
  go_wp2_with fail
  have S10 : Hid (PRS (w10.alloc (.cells #[.string ⟨#[94]⟩] 9)) w10.heap.size (gN 10)) := Lib.hid (by rw [ns10]; exact PRS.new w10 [nm [94]])
  have C10 := Lib.hid (put_any A10 (rD 10).length c10 (rD 10) (gP 10) (gT 10) w10.heap.size 1 (gN 10) (w10.alloc (.cells #[.string ⟨#[94]⟩] 9)) rfl (by have := rD_len 10 (by omega); omega) (H10.out.below (al0 _ _)) (by rw [ns10]; rfl) (by omega) S10.out)
  refine (C10.out).mono ?_
  rintro e w11 ⟨A11, c11, rfl, r11, b11⟩
  have H11 : Hid (PRO w11 A11 (rD 11)) := Lib.hid r11
  have B11 : Hid (Below w.heap.size w w11) := Lib.hid (B10.out.trans ((al b11).mono B10.out.size))
  have hn11 : (putL (rD 10) (gP 10) (gT 10) (gN 10)).length = (rD 11).length := rfl
  rw [hn11]
  clear hn11 r11 b11 C10 S10 H10 B10
  go_wp2_with fail
  have S11 : Hid (PRS (w11.alloc (.cells #[.string ⟨#[43]⟩, .string ⟨#[45]⟩, .string ⟨#[92]⟩] 9)) w11.heap.size (gN 11)) := Lib.hid (by rw [ns11]; exact PRS.new w11 [nm [43], nm [45], nm [92]])
  have C11 := Lib.hid (put_any A11 (rD 11).length c11 (rD 11) (gP 11) (gT 11) w11.heap.size 3 (gN 11) (w11.alloc (.cells #[.string ⟨#[43]⟩, .string ⟨#[45]⟩, .string ⟨#[92]⟩] 9)) rfl (by have := rD_len 11 (by omega); omega) (H11.out.below (al0 _ _)) (by rw [ns11]; rfl) (by omega) S11.out)
  refine (C11.out).mono ?_
  rintro e w12 ⟨A12, c12, rfl, r12, b12⟩
  have H12 : Hid (PRO w12 A12 (rD 12)) := Lib.hid r12
  have B12 : Hid (Below w.heap.size w w12) := Lib.hid (B11.out.trans ((al b12).mono B11.out.size))
  have hn12 : (putL (rD 11) (gP 11) (gT 11) (gN 11)).length = (rD 12).length := rfl
  rw [hn12]
  clear hn12 r12 b12 C11 S11 H11 B11
  go_wp2_with fail
  go_ret
  exact ⟨A12, c12, ret_sl (by rw [HD.out]), by rw [← HD.out]; exact H12.out, B12.out⟩

def cl3 (c : Int) : Int := if c = 1 then 1 else if c = 2 then 2 else 3
set_option maxHeartbeats 4000000 in
theorem lfind_any (A : Option Addr) (n cap : Nat) (l : List Opd) (c : Int) (m : ByteArray) (w : World) (hn : l.length = n) (hm : n ≤ 4611686018427387903) (hP : PRO w A l) (hL : KLaid w) :
    Calls Tryd.prog 33 #[.slice A n cap, .int .i64 c, .string m] w (LkEnd (lkO l m (cl3 c)) (lkB l m (cl3 c)) w) := by
  have HG := Lib.hid (al0 w (.cells #[.string ⟨#[]⟩, .int .i64 0, .int .i64 0] 26))
  have HR : Hid (RowO (w.alloc (.cells #[.string ⟨#[]⟩, .int .i64 0, .int .i64 0] 26)) w.heap.size zO) := Lib.hid (RowO.new w zO)
  have h3 : c = 1 ∨ c = 2 ∨ ((c == 1) = false ∧ (c == 2) = false ∧ cl3 c = 3) := by
    by_cases h1 : c = 1
    · exact .inl h1
    · by_cases h2 : c = 2
      · exact .inr (.inl h2)
      · exact .inr (.inr ⟨by simpa using h1, by simpa using h2, by simp [cl3, h1, h2]⟩)
  have HP := Lib.hid (hP.below HG.out)
  have HL := Lib.hid (hL.below HG.out)
  rcases h3 with rfl | rfl | ⟨g1, g2, g3⟩
  · obtain ⟨⟨s, t, p⟩, hq⟩ : ∃ o, lkO l m 1 = o := ⟨_, rfl⟩
    obtain ⟨b, hb⟩ : ∃ b, lkB l m 1 = b := ⟨_, rfl⟩
    have HC : Hid (∀ w, PRO w A l → KLaid w → Calls Tryd.prog 17 #[.slice A n cap, .string m] w (LkEnd (s, t, p) b w)) := fun w h1 h2 => by rw [← hq, ← hb]; exact prefix_any A n cap l m w hn hm h1 h2
    have HE : Hid (lkO l m 1 = (s, t, p) ∧ lkB l m 1 = b) := Lib.hid ⟨hq, hb⟩
    clear hP hL hn hq hb
    go_enter Tryd.func33, Tryd.ntmps33
    go_wp2_with fail
    refine (HC.out _ HP.out HL.out).mono ?_
    rintro e w2 ⟨rfl, gg⟩
    have R2 := Lib.hid (HR.out.below gg)
    have G2 := Lib.hid (HG.out.trans (gg.mono HG.out.size))
    clear gg HR HC HG HP HL
    obtain ⟨b0, b1, b2⟩ := R2.out.cells
    obtain ⟨f0, f1, f2⟩ := R2.out.froz
    have HPR := Lib.hid (put_ret (s := s) (t := t) (p := p) R2.out (Nat.le_refl _) G2.out)
    go_wp2_with fail
    obtain ⟨k0, k1, k2, _, _⟩ := HPR.out
    exact bodyPost_ret (v := .tuple #[opV (s, t, p), .bool b]) (by simp [results, Tryd.results33, go_sem, k0, k1, k2]) rfl ⟨by show _ = Ending.returned (.tuple #[opV (lkO l m 1), .bool (lkB l m 1)]); rw [HE.out.1, HE.out.2], HPR.out.2.2.2.1⟩
  · obtain ⟨⟨s, t, p⟩, hq⟩ : ∃ o, lkO l m 2 = o := ⟨_, rfl⟩
    obtain ⟨b, hb⟩ : ∃ b, lkB l m 2 = b := ⟨_, rfl⟩
    have HC : Hid (∀ w, PRO w A l → KLaid w → Calls Tryd.prog 16 #[.slice A n cap, .string m] w (LkEnd (s, t, p) b w)) := fun w h1 h2 => by rw [← hq, ← hb]; exact infix_any A n cap l m w hn hm h1 h2
    have HE : Hid (lkO l m 2 = (s, t, p) ∧ lkB l m 2 = b) := Lib.hid ⟨hq, hb⟩
    clear hP hL hn hq hb
    go_enter Tryd.func33, Tryd.ntmps33
    go_wp2_with fail
    refine (HC.out _ HP.out HL.out).mono ?_
    rintro e w2 ⟨rfl, gg⟩
    have R2 := Lib.hid (HR.out.below gg)
    have G2 := Lib.hid (HG.out.trans (gg.mono HG.out.size))
    clear gg HR HC HG HP HL
    obtain ⟨b0, b1, b2⟩ := R2.out.cells
    obtain ⟨f0, f1, f2⟩ := R2.out.froz
    have HPR := Lib.hid (put_ret (s := s) (t := t) (p := p) R2.out (Nat.le_refl _) G2.out)
    go_wp2_with fail
    obtain ⟨k0, k1, k2, _, _⟩ := HPR.out
    exact bodyPost_ret (v := .tuple #[opV (s, t, p), .bool b]) (by simp [results, Tryd.results33, go_sem, k0, k1, k2]) rfl ⟨by show _ = Ending.returned (.tuple #[opV (lkO l m 2), .bool (lkB l m 2)]); rw [HE.out.1, HE.out.2], HPR.out.2.2.2.1⟩
  · rw [g3]
    obtain ⟨⟨s, t, p⟩, hq⟩ : ∃ o, lkO l m 3 = o := ⟨_, rfl⟩
    obtain ⟨b, hb⟩ : ∃ b, lkB l m 3 = b := ⟨_, rfl⟩
    have HC : Hid (∀ w, PRO w A l → KLaid w → Calls Tryd.prog 13 #[.slice A n cap, .string m] w (LkEnd (s, t, p) b w)) := fun w h1 h2 => by rw [← hq, ← hb]; exact postfix_any A n cap l m w hn hm h1 h2
    have HE : Hid (lkO l m 3 = (s, t, p) ∧ lkB l m 3 = b) := Lib.hid ⟨hq, hb⟩
    clear hP hL hn hq hb g3
    go_enter Tryd.func33, Tryd.ntmps33
    go_wp2_with fail
    refine (HC.out _ HP.out HL.out).mono ?_
    rintro e w2 ⟨rfl, gg⟩
    have R2 := Lib.hid (HR.out.below gg)
    have G2 := Lib.hid (HG.out.trans (gg.mono HG.out.size))
    clear gg HR HC HG HP HL
    obtain ⟨b0, b1, b2⟩ := R2.out.cells
    obtain ⟨f0, f1, f2⟩ := R2.out.froz
    have HPR := Lib.hid (put_ret (s := s) (t := t) (p := p) R2.out (Nat.le_refl _) G2.out)
    go_wp2_with fail
    obtain ⟨k0, k1, k2, _, _⟩ := HPR.out
    exact bodyPost_ret (v := .tuple #[opV (s, t, p), .bool b]) (by simp [results, Tryd.results33, go_sem, k0, k1, k2]) rfl ⟨by show _ = Ending.returned (.tuple #[opV (lkO l m 3), .bool (lkB l m 3)]); rw [HE.out.1, HE.out.2], HPR.out.2.2.2.1⟩
end Go.Proofs.YtkjkhhifkedflaaDoor
