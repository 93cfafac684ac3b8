/- The contract of the specification's Unescape; the law CharsCalls: it returns true. -/
import Derived.Test.YtcjpbomdnjmfkaaDoorB4
import Derived.Test.YtcjpbomdnjmfkaaDoorB5
import Derived.Test.YtcjpbomdnjmfkaaDoorB6
namespace Go.Proofs.YtcjpbomdnjmfkaaDoor
open Go.RowKit

def slf : ByteArray := { data := #[92, 39, 34, 96] }
abbrev ltr : ByteArray := { data := #[97, 98, 116, 110, 118, 102, 114] }
theorem ltr_nat : ∀ k : Fin 7, unV ((ltr.data[k.val]'(k.isLt)).toNat : Int) = 7 + (k.val : Int) ∧ unOk ((ltr.data[k.val]'(k.isLt)).toNat : Int) = true := by decide +kernel
theorem ltr_at (k : Nat) (hk : k < ltr.size) (c : Int) (h : (ltr[k].toNat : Int) = c) : unV c = 7 + (k : Int) ∧ unOk c = true := by
  subst h
  exact ltr_nat ⟨k, hk⟩
theorem amg_slf (c : Int) : amg slf c = selfL c := by
  have e (x : Int) : (x == c) = (c == x) := by rw [Bool.eq_iff_iff]; simp only [beq_iff_eq]; exact eq_comm
  show (((92 : Int) == c) || (((39 : Int) == c) || (((34 : Int) == c) || (((96 : Int) == c) || false)))) = _
  simp only [e, selfL, Bool.or_false, Bool.or_assoc]
theorem idxL_no (c : Int) (hc : isC c = true) (h : ∀ j (hj : j < ltr.size), ¬ (ltr[j].toNat : Int) = c) : idxL c = -1 := by
  have hr : 0 ≤ c ∧ c ≤ 255 := by simpa [isC] using hc
  have key : ∀ n : Fin 256, (ltr.data.toList.any fun b => b.toNat == n.val) = true ∨ idxL (n.val : Int) = -1 := by decide +kernel
  rcases key ⟨c.toNat, by omega⟩ with hk | hk
  · exfalso
    rw [List.any_eq_true] at hk
    obtain ⟨b, hb, he⟩ := hk
    obtain ⟨i, hi, rfl⟩ := List.getElem_of_mem hb
    refine h i hi ?_
    have he2 : (ltr.data.toList[i]).toNat = c.toNat := by simpa using he
    have : (ltr[i]'hi) = ltr.data.toList[i] := rfl
    rw [this, he2]; omega
  · simpa only [show ((c.toNat : Nat) : Int) = c by omega] using hk
theorem un_no (c : Int) (h : ∀ j (hj : j < ltr.size), ¬ (ltr[j].toNat : Int) = c) : unV c = (if selfL c then c else 0) ∧ unOk c = selfL c := by
  by_cases hc : isC c = true
  · have := idxL_no c hc h
    simp [unV, unOk, this]
  · have : isC c = false := by simpa using hc
    simp [unV, unOk, this]

theorem runescape_any (c : Int) (w : World) :
    Calls Tryd.prog 19 #[.int .i64 c] w fun e w' => e = .returned (.tuple #[.int .i64 (unV c), .bool (unOk c)]) ∧ w = w' := by
  have HA := Lib.hid (amg_slf c)
  unfold slf at HA
  have hz : ltr.size = 7 := rfl
  go_enter Tryd.func19, Tryd.ntmps19
  go_wp2_with fail
  go_loop [4] (fun i => ∃ k : Nat, k ≤ 7 ∧ i = .int .i64 k ∧ Hid (∀ j (hj : j < ltr.size), j < k → ¬ (ltr[j].toNat : Int) = c)) (fun i => 7 - (intOf i).toNat)
  case atStart => exact ⟨0, by omega, rfl, fun j hj h => absurd h (by omega)⟩
  case round =>
    obtain ⟨k, hk, rfl, hI⟩ := hrel
    by_cases hlt : k < 7
    · have hb : (ltr[k]'hlt).toNat < 256 := (ltr[k]'hlt).toNat_lt
      by_cases he : ((ltr[k]'hlt).toNat : Int) = c
      · obtain ⟨h1, h2⟩ := ltr_at k hlt c he
        have H1 := Lib.hid h1
        have H2 := Lib.hid h2
        have hq : (((ltr[k]'hlt).toNat : Int) == c) = true := by simpa using he
        clear he h1 h2
        unfold ltr at hb hq
        go_wp2
        go_ret2
        exact ⟨ret_ib H1.out.symm H2.out.symm, rfl⟩
      · have hN : Hid (∀ j (hj : j < ltr.size), j < k + 1 → ¬ (ltr[j].toNat : Int) = c) := fun j hj hjk => by
          by_cases e : j = k
          · subst e; exact he
          · exact hI.out j hj (by omega)
        have hq : (((ltr[k]'hlt).toNat : Int) == c) = false := by simpa using he
        clear he hI
        unfold ltr at hb hq
        go_wp2
        go_round
        case rel => exact ⟨k + 1, by omega, by go_num, hN⟩
        case measure => simp [intOf]; omega
    · obtain ⟨h1, h2⟩ := un_no c (fun i hi => hI.out i hi (by have : ltr.size = 7 := rfl; omega))
      have H1 := Lib.hid h1
      have H2 := Lib.hid h2
      clear h1 h2 hI hz
      go_wp2_with fail
      refine (among_any _ (by decide) _ _).mono ?_
      rintro e w' ⟨rfl, rfl⟩
      rw [HA.out]
      rcases Bool.eq_false_or_eq_true (selfL c) with hs | hs
      · have H3 : Hid (unV c = c) := by show _ = _; rw [H1.out, if_pos hs]
        have H4 : Hid (unOk c = true) := by show _ = _; rw [H2.out, hs]
        rw [hs]
        go_wp2_with fail
        go_ret2
        exact ⟨ret_ib H3.out.symm H4.out.symm, rfl⟩
      · have H3 : Hid (unV c = 0) := by show _ = _; rw [H1.out, if_neg (by rw [hs]; decide)]
        have H4 : Hid (unOk c = false) := by show _ = _; rw [H2.out, hs]
        rw [hs]
        go_wp2_with fail
        go_ret2
        exact ⟨ret_ib H3.out.symm H4.out.symm, rfl⟩

set_option maxHeartbeats 1000000 in
/-- The law's walk. -/
theorem calls_walk (c b : Int) (w : World) (hL : Laid w) :
    Calls Tryd.prog 4 #[.int .i64 c, .int .i64 b] w fun e w' => e = .returned (.bool true) ∧ Below w.heap.size w w' := by
  have HL := Lib.hid hL
  clear hL
  go_enter Tryd.func4, Tryd.ntmps4
  go_wp2_with fail
  refine (digit_any c b _).mono ?_
  rintro e w1 ⟨rfl, rfl⟩
  go_wp2_with fail
  refine (rdigit_any c b _).mono ?_
  rintro e w1 ⟨rfl, rfl⟩
  go_wp2_with fail
  refine (escape_any c _ HL.out.tz).mono ?_
  rintro e w1 ⟨rfl, hb1⟩
  go_wp2_with fail
  refine (rescape_any c _).mono ?_
  rintro e w2 ⟨rfl, hb2⟩
  have hb3 : Below w.heap.size w w2 := hb1.trans (hb2.mono hb1.size)
  clear hb1 hb2
  go_wp2_with fail
  refine (unescape_any c _).mono ?_
  rintro e w3 ⟨rfl, hb4⟩
  have hb5 : Below w.heap.size w w3 := hb3.trans (hb4.mono hb3.size)
  clear hb3 hb4
  go_wp2_with fail
  refine (runescape_any c _).mono ?_
  rintro e w4 ⟨rfl, rfl⟩
  go_wp2_with fail
  refine (class_any c _ (HL.out.below hb5)).mono ?_
  rintro e w5 ⟨rfl, hb6⟩
  have hb7 : Below w.heap.size w w5 := hb5.trans (hb6.mono hb5.size)
  clear hb5 hb6
  go_wp2_with fail
  refine (rclass_any c _).mono ?_
  rintro e w6 ⟨rfl, rfl⟩
  go_wp2_with fail
  refine (awake_any _ (HL.out.below hb7)).mono ?_
  rintro e w8 ⟨rfl, hb8⟩
  have hb9 : Below w.heap.size w w8 := hb7.trans (hb8.mono hb7.size)
  clear hb7 hb8
  go_wp2_with fail
  go_ret
  exact ⟨rfl, hb9⟩

end Go.Proofs.YtcjpbomdnjmfkaaDoor
