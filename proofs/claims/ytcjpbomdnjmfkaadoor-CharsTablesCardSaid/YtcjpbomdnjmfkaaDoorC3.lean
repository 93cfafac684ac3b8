/- The law CharsTables: it returns true. -/
import Derived.Test.YtcjpbomdnjmfkaaDoorB2
import Derived.Test.YtcjpbomdnjmfkaaDoorC4
import Derived.Test.YtcjpbomdnjmfkaaDoorD2
import Derived.Test.YtcjpbomdnjmfkaaDoorO1
namespace Go.Proofs.YtcjpbomdnjmfkaaDoor
open Go.RowKit

section
open Go.ChangeShapes Go.WideShapes Go.Deep
variable {H : Type} {enc : TypeId × Value → H}
/-- A nil argument has no elements. -/
theorem nil_pairs {W : World} {A : Option Addr} {n cap : Nat} {d : DataW H} {p : List MemPlace} (h : DataW.Trod enc Tryd.prog W 0 (fun _ => true) true 31 (.slice A n cap) d p) : A = none → n = 0 ∧ cap = 0 := by
  intro hA
  subst hA
  obtain ⟨fuel, hf⟩ := h
  rcases open_slice Tryd.underlying31 hf with ⟨hcs, _⟩ | ⟨a, len, cap', m, k, D, Pl, hcs, _⟩
  · simp [Value.cells] at hcs
    exact hcs
  · simp [Value.cells] at hcs
end

set_option maxRecDepth 100000 in
theorem tables_long (A : Option Addr) (n cap : Nat) (c x y : Int) (w : World) (hm : n ≤ maxLen) (hn : 1000 < n) (hL : Laid w) :
    Calls Tryd.prog 5 #[.slice A n cap, .int .i64 c, .int .i64 x, .int .i64 y] w fun e w' => e = .returned (.bool true) ∧ Below w.heap.size w w' := by
  unfold maxLen at hm
  have HL := Lib.hid hL
  clear hL
  go_enter Tryd.func5, Tryd.ntmps5
  go_wp2_with fail
  refine (awake_any _ HL.out).mono ?_
  rintro e w1 ⟨rfl, hb1⟩
  go_wp2_with fail
  go_ret
  exact ⟨rfl, hb1⟩

theorem not_bad {ps : List (Int × Int)} {x y : Int} (h : ¬ (vld ps = true ∧ isC x = true ∧ isC y = true)) : vld ps = false ∨ isC x = false ∨ isC y = false := by
  cases h1 : vld ps <;> cases h2 : isC x <;> cases h3 : isC y <;> simp_all

set_option maxRecDepth 100000 in
set_option maxHeartbeats 4000000 in
theorem tables_short (A : Option Addr) (n cap : Nat) (ps : List (Int × Int)) (c x y : Int) (w : World) (hl : ps.length = n) (hn : n ≤ 1000) (hP : PR w A ps) (hL : Laid w) (hz : A = none → n = 0 ∧ cap = 0) :
    Calls Tryd.prog 5 #[.slice A n cap, .int .i64 c, .int .i64 x, .int .i64 y] w fun e w' => e = .returned (.bool true) ∧ Below w.heap.size w w' := by
  have HL := Lib.hid hL
  have HP := Lib.hid hP
  have Hl := Lib.hid hl
  clear hL hP hl
  go_enter Tryd.func5, Tryd.ntmps5
  go_wp2_with fail
  refine (clone_any A n cap ps _ Hl.out hn HP.out hz).mono ?_
  rintro e w1 ⟨A1, cap1, rfl, hP1, hb1⟩
  have HP1 := Lib.hid hP1
  clear hP1 hz
  go_wp2_with fail
  refine (valid_any A1 n cap1 ps _ Hl.out (by omega) HP1.out).mono ?_
  rintro e w2 ⟨rfl, hb2⟩
  have hb3 : Below w.heap.size w w2 := hb1.trans (hb2.mono hb1.size)
  have HP2 := Lib.hid (HP1.out.below hb2)
  clear hb1 hb2 HP1
  go_wp2_with fail
  refine (convert_any A1 n cap1 ps c _ Hl.out (by omega) HP2.out).mono ?_
  rintro e w4 ⟨rfl, hb4⟩
  have hb5 : Below w.heap.size w w4 := hb3.trans (hb4.mono hb3.size)
  have HP3 := Lib.hid (HP2.out.below hb4)
  clear hb3 hb4 HP2
  obtain ⟨bv, Hbv⟩ : ∃ bv, Hid (vld ps = bv) := ⟨_, rfl⟩
  obtain ⟨cv, Hcv⟩ : ∃ cv, Hid (conv ps c = cv) := ⟨_, rfl⟩
  rw [Hbv.out, Hcv.out]
  go_wp2_with fail
  by_cases hg : vld ps = true ∧ isC x = true ∧ isC y = true
  · obtain ⟨hv, hx, hy⟩ := hg
    have Hv := Lib.hid hv
    have Hx := Lib.hid hx
    have Hy := Lib.hid hy
    clear hv hx hy
    refine (set_yes A1 n cap1 ps x y _ Hl.out (by omega) HP3.out Hv.out Hx.out Hy.out).mono ?_
    rintro e w5 ⟨g, rfl, hg, hO1, hb6⟩
    have hk : (setP ps x y).length ≤ n + 1 := hO1.le
    have hb7 : Below w.heap.size w w5 := hb5.trans (hb6.mono hb5.size)
    have HO1 := Lib.hid hO1
    have HP4 := Lib.hid (HP3.out.below hb6)
    obtain ⟨k, Hk⟩ : ∃ k, Hid ((setP ps x y).length = k) := ⟨_, Lib.hid rfl⟩
    rw [Hk.out] at hk ⊢
    clear hb5 hb6 hO1 HP3 hg
    go_wp2_with fail
    refine (refset_yes A n cap ps x y _ Hl.out (by omega) (HP.out.below hb7) Hv.out Hx.out Hy.out).mono ?_
    rintro e w6 ⟨A2, cap2, rfl, hP5, hb8⟩
    have hb9 : Below w.heap.size w w6 := hb7.trans (hb8.mono hb7.size)
    have HO2 := Lib.hid (HO1.out.below hb8)
    have HP5 := Lib.hid (HP4.out.below hb8)
    have HP6 := Lib.hid hP5
    clear hb7 hb8 HO1 HP4 hP5
    rw [Hk.out]
    go_wp2_with fail
    refine (refvalid_any A n cap ps _ Hl.out (by omega) (HP.out.below hb9)).mono ?_
    rintro e w7 ⟨rfl, hb10⟩
    have hb11 : Below w.heap.size w w7 := hb9.trans (hb10.mono hb9.size)
    have HO3 := Lib.hid (HO2.out.below hb10)
    have HP7 := Lib.hid (HP5.out.below hb10)
    have HP8 := Lib.hid (HP6.out.below hb10)
    clear hb9 hb10 HO2 HP5 HP6
    rw [Hbv.out]
    go_wp2_with fail
    refine (refconvert_any A n cap ps c _ Hl.out (by omega) (HP.out.below hb11)).mono ?_
    rintro e w8 ⟨rfl, hb12⟩
    have hb13 : Below w.heap.size w w8 := hb11.trans (hb12.mono hb11.size)
    have HO4 := Lib.hid (HO3.out.below hb12)
    have HP9 := Lib.hid (HP7.out.below hb12)
    have HP10 := Lib.hid (HP8.out.below hb12)
    clear hb11 hb12 HO3 HP7 HP8
    rw [Hcv.out]
    go_wp2_with fail
    refine (same_any (some ⟨g, 0, none⟩) A2 k k (n + 1) cap2 (setP ps x y) (setP ps x y) _ Hk.out Hk.out (by omega) (by omega) HO4.out.pr HP10.out).mono ?_
    rintro e w9 ⟨rfl, hb14⟩
    have hb15 : Below w.heap.size w w9 := hb13.trans (hb14.mono hb13.size)
    have HP11 := Lib.hid (HP9.out.below hb14)
    clear hb13 hb14 HO4 HP9 HP10
    rw [show decide (setP ps x y = setP ps x y) = true from by simp]
    go_wp2_with fail
    refine (same_any A1 A n n cap1 cap ps ps _ Hl.out Hl.out (by omega) (by omega) HP11.out (HP.out.below hb15)).mono ?_
    rintro e w10 ⟨rfl, hb16⟩
    have hb17 : Below w.heap.size w w10 := hb15.trans (hb16.mono hb15.size)
    clear hb15 hb16 HP11
    rw [show decide (ps = ps) = true from by simp]
    go_wp2_with fail
    refine (awake_any _ (HL.out.below hb17)).mono ?_
    rintro e w11 ⟨rfl, hb18⟩
    have hb19 : Below w.heap.size w w11 := hb17.trans (hb18.mono hb17.size)
    clear hb17 hb18
    go_wp2_with fail
    go_ret
    exact ⟨rfl, hb19⟩
  · have HB := Lib.hid (not_bad hg)
    clear hg
    have hq : ∀ w, PR w none [] := fun w i p h => by simp at h
    have HQ := Lib.hid hq
    clear hq
    refine (set_no A1 n cap1 ps x y _ Hl.out (by omega) HP3.out HB.out).mono ?_
    rintro e w5 ⟨rfl, hb6⟩
    have hb7 : Below w.heap.size w w5 := hb5.trans (hb6.mono hb5.size)
    have HP4 := Lib.hid (HP3.out.below hb6)
    clear hb5 hb6 HP3
    go_wp2_with fail
    refine (refset_no A n cap ps x y _ Hl.out (by omega) (HP.out.below hb7) HB.out).mono ?_
    rintro e w6 ⟨rfl, hb8⟩
    have hb9 : Below w.heap.size w w6 := hb7.trans (hb8.mono hb7.size)
    have HP5 := Lib.hid (HP4.out.below hb8)
    clear hb7 hb8 HP4
    go_wp2_with fail
    refine (refvalid_any A n cap ps _ Hl.out (by omega) (HP.out.below hb9)).mono ?_
    rintro e w7 ⟨rfl, hb10⟩
    have hb11 : Below w.heap.size w w7 := hb9.trans (hb10.mono hb9.size)
    have HP7 := Lib.hid (HP5.out.below hb10)
    clear hb9 hb10 HP5
    rw [Hbv.out]
    go_wp2_with fail
    refine (refconvert_any A n cap ps c _ Hl.out (by omega) (HP.out.below hb11)).mono ?_
    rintro e w8 ⟨rfl, hb12⟩
    have hb13 : Below w.heap.size w w8 := hb11.trans (hb12.mono hb11.size)
    have HP9 := Lib.hid (HP7.out.below hb12)
    clear hb11 hb12 HP7
    rw [Hcv.out]
    go_wp2_with fail
    refine (same_any none none 0 0 0 0 [] [] _ rfl rfl (by omega) (by omega) (HQ.out _) (HQ.out _)).mono ?_
    rintro e w9 ⟨rfl, hb14⟩
    have hb15 : Below w.heap.size w w9 := hb13.trans (hb14.mono hb13.size)
    have HP11 := Lib.hid (HP9.out.below hb14)
    clear hb13 hb14 HP9
    rw [show decide (([] : List (Int × Int)) = []) = true from by simp]
    go_wp2_with fail
    refine (same_any A1 A n n cap1 cap ps ps _ Hl.out Hl.out (by omega) (by omega) HP11.out (HP.out.below hb15)).mono ?_
    rintro e w10 ⟨rfl, hb16⟩
    have hb17 : Below w.heap.size w w10 := hb15.trans (hb16.mono hb15.size)
    clear hb15 hb16 HP11
    rw [show decide (ps = ps) = true from by simp]
    go_wp2_with fail
    refine (awake_any _ (HL.out.below hb17)).mono ?_
    rintro e w11 ⟨rfl, hb18⟩
    have hb19 : Below w.heap.size w w11 := hb17.trans (hb18.mono hb17.size)
    clear hb17 hb18
    go_wp2_with fail
    go_ret
    exact ⟨rfl, hb19⟩

theorem tables_walk (A : Option Addr) (n cap : Nat) (ps : List (Int × Int)) (c x y : Int) (w : World) (hl : ps.length = n) (hm : n ≤ maxLen) (hP : PR w A ps) (hL : Laid w) (hz : A = none → n = 0 ∧ cap = 0) :
    Calls Tryd.prog 5 #[.slice A n cap, .int .i64 c, .int .i64 x, .int .i64 y] w fun e w' => e = .returned (.bool true) ∧ Below w.heap.size w w' := by
  by_cases hn : n ≤ 1000
  · exact tables_short A n cap ps c x y w hl hn hP hL hz
  · exact tables_long A n cap c x y w hm (by omega) hL

end Go.Proofs.YtcjpbomdnjmfkaaDoor
