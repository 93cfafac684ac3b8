/- The contracts of chars.find and slices.BinarySearchFunc at pairs. -/
import Derived.Test.YtcjpbomdnjmfkaaDoorA3
namespace Go.Proofs.YtcjpbomdnjmfkaaDoor
open Go.RowKit

theorem cmp_any (f t x : Int) (w : World) :
    Calls Tryd.prog 39 #[.agg #[.int .i64 f, .int .i64 t], .int .i64 x] w fun e w' => e = .returned (.int .i64 (Lib.compareInt f x)) ∧ Below w.heap.size w w' := by
  go_enter Tryd.func39, Tryd.ntmps39
  go_wp2_with (go_at_call 40; refine (Tryd.cmp_Compare_int _ _ _).mono ?_; rintro e w' ⟨rfl, rfl⟩)
  go_ret
  exact ⟨rfl, (Below.refl _ _).alloc (Nat.le_refl _) _⟩

/-- Where the pair of a character is, or would be inserted: the number of the first pairs whose From is less. -/
def lb (ps : List (Int × Int)) (x : Int) : Nat := (ps.takeWhile fun p => decide (p.1 < x)).length
def fnd (ps : List (Int × Int)) (x : Int) : Bool := match ps[lb ps x]? with | some p => p.1 == x | none => false

theorem nat_eq {a b : Nat} (h : a = b) : (b : Int) = (a : Int) := by rw [h]
structure Inv (ps : List (Int × Int)) (x : Int) (i j : Nat) : Prop where
  lo : ∀ p, 0 < i → ps[i - 1]? = some p → p.1 < x
  hi : ∀ p, ps[j]? = some p → x ≤ p.1

theorem takeWhile_len {ps : List (Int × Int)} {x : Int} : ∀ {k : Nat}, k ≤ ps.length → (∀ i p, i < k → ps[i]? = some p → p.1 < x) → (∀ p, ps[k]? = some p → x ≤ p.1) → (ps.takeWhile fun p => decide (p.1 < x)).length = k := by
  induction ps with
  | nil => intro k hk _ _; simp at hk; simp [hk]
  | cons q r ih =>
    intro k hk h1 h2
    cases k with
    | zero =>
      have := h2 q rfl
      have hq : ¬ q.1 < x := by omega
      simp [hq]
    | succ k =>
      have hq : q.1 < x := h1 0 q (by omega) rfl
      simp only [List.takeWhile_cons, hq, decide_true, if_true, List.length_cons]
      rw [ih (by simpa using hk) (fun i p hi hp => h1 (i + 1) p (by omega) (by simpa using hp)) (fun p hp => h2 p (by simpa using hp))]
theorem GT.mono {ps : List (Int × Int)} {n : Nat} (hG : GT ps n) (k : Nat) : ∀ (d : Nat) (p q : Int × Int), k + d < n → ps[k]? = some p → ps[k + d]? = some q → p.1 ≤ q.1 := by
  intro d
  induction d with
  | zero => intro p q _ h1 h2; rw [Nat.add_zero, h1] at h2; cases h2; omega
  | succ d ih =>
    intro p q hk h1 h2
    have hl : k + d < ps.length := by have := (List.getElem?_eq_some_iff.1 h2).1; omega
    obtain ⟨r, hr⟩ : ∃ r, ps[k + d]? = some r := ⟨_, List.getElem?_eq_getElem hl⟩
    have a := ih p r (by omega) h1 hr
    have b := hG.ord (k + d) r q (by omega) hr (by rw [← h2]; congr 1)
    omega
theorem lb_of {ps : List (Int × Int)} {x : Int} {n i : Nat} (hn : ps.length = n) (hG : GT ps n) (hi : i ≤ n) (h : Inv ps x i i) : lb ps x = i := by
  refine takeWhile_len (by omega) (fun k p hk hp => ?_) h.hi
  obtain ⟨q, hq⟩ : ∃ q, ps[i - 1]? = some q := ⟨_, List.getElem?_eq_getElem (by omega)⟩
  have a := hG.mono k (i - 1 - k) p q (by omega) hp (by rw [← hq]; congr 1; omega)
  have b := h.lo q (by omega) hq
  omega
theorem lb_le (ps : List (Int × Int)) (x : Int) : lb ps x ≤ ps.length := (List.takeWhile_sublist _).length_le
theorem Inv.up {ps : List (Int × Int)} {x : Int} {i j h : Nat} {p : Int × Int} (hI : Inv ps x i j) (hp : ps[h]? = some p) (hx : p.1 < x) : Inv ps x (h + 1) j :=
  ⟨fun q _ hq => by simp only [Nat.add_sub_cancel] at hq; rw [hp] at hq; cases hq; exact hx, hI.hi⟩
theorem Inv.down {ps : List (Int × Int)} {x : Int} {i j h : Nat} {p : Int × Int} (hI : Inv ps x i j) (hp : ps[h]? = some p) (hx : ¬ p.1 < x) : Inv ps x i h :=
  ⟨hI.lo, fun q hq => by rw [hp] at hq; cases hq; omega⟩
theorem cmp_lt {f x : Int} (h : f < x) : Lib.compareInt f x = -1 := by simp [Lib.compareInt, h]
theorem cmp_ge {f x : Int} (h : ¬ f < x) : ¬ Lib.compareInt f x < 0 := by unfold Lib.compareInt; rw [if_neg h]; split <;> omega
theorem cmp_eq {f x : Int} (h : f = x) : Lib.compareInt f x = 0 := by simp [Lib.compareInt, h]
theorem cmp_ne {f x : Int} (h : ¬ f < x) (g : f ≠ x) : Lib.compareInt f x = 1 := by unfold Lib.compareInt; rw [if_neg h, if_pos (by omega)]

set_option maxHeartbeats 400000 in
theorem bsf_any (A : Option Addr) (n cap : Nat) (ps : List (Int × Int)) (x : Int) (w : World) (hn : ps.length = n) (hm : n ≤ 4611686018427387903) (hP : PR w A ps) (hG : GT ps n) :
    Calls Tryd.prog 38 #[.slice A n cap, .int .i64 x, .func (Fn.func 39) #[] #[]] w fun e w' => e = .returned (.tuple #[.int .i64 (lb ps x), .bool (fnd ps x)]) ∧ Below w.heap.size w w' := by
  have HP := Lib.hid hP
  have Hn := Lib.hid hn
  have HG := Lib.hid hG
  clear hP hn hG
  go_enter Tryd.func38, Tryd.ntmps38
  go_wp2_with fail
  go_loopw [9, 10] (fun vi vj wr => ∃ i j : Nat, i ≤ j ∧ j ≤ n ∧ vi = .int .i64 i ∧ vj = .int .i64 j ∧ Hid (Inv ps x i j) ∧ Below w.heap.size w wr) (fun vi vj _ => (intOf vj).toNat - (intOf vi).toNat)
  case atStart => exact ⟨0, n, by omega, by omega, rfl, rfl, ⟨fun _ h _ => absurd h (by omega), fun p hp => by have := (List.getElem?_eq_some_iff.1 hp).1; have := Hn.out; omega⟩, Below.refl _ _⟩
  case round =>
    obtain ⟨i, j, hij, hj, rfl, rfl, hI, hb⟩ := hrel
    have hP1 := Lib.hid (HP.out.below (hb.mono (Nat.le_refl _)))
    by_cases hlt : i < j
    · obtain ⟨p, hp⟩ : ∃ p, ps[(i + j) / 2]? = some p := ⟨_, List.getElem?_eq_getElem (by have := Hn.out; omega)⟩
      obtain ⟨b, o, rfl, hc1, hc2⟩ := hP1.out _ p hp
      have Hp := Lib.hid hp
      clear hp
      go_wp2_with fail
      refine (cmp_any _ _ _ _).mono ?_
      rintro e w1 ⟨rfl, hb1⟩
      have hb2 : Below w.heap.size w w1 := hb.trans (hb1.mono hb.size)
      clear hb1 hb hc1 hc2
      by_cases hx : p.1 < x
      · have hN : Hid (Inv ps x ((i + j) / 2 + 1) j) := hI.out.up Hp.out hx
        rw [cmp_lt hx]
        clear hI hx
        go_wp2_with fail
        go_roundw
        case rel => exact ⟨(i + j) / 2 + 1, j, by omega, by omega, by go_num, rfl, hN, hb2⟩
        case measure => simp [intOf]; omega
      · have hN : Hid (Inv ps x i ((i + j) / 2)) := hI.out.down Hp.out hx
        have hz := cmp_ge hx
        clear hI hx
        go_wp2_with fail
        go_roundw
        case rel => exact ⟨i, (i + j) / 2, by omega, by omega, rfl, by go_num, hN, hb2⟩
        case measure => simp [intOf]; omega
    · obtain rfl : i = j := by omega
      have HL := Lib.hid (lb_of Hn.out HG.out hj hI.out)
      by_cases hlt2 : i < n
      · obtain ⟨p, hp⟩ : ∃ p, ps[i]? = some p := ⟨_, List.getElem?_eq_getElem (by have := Hn.out; omega)⟩
        obtain ⟨b, o, rfl, hc1, hc2⟩ := hP1.out _ p hp
        have hge : x ≤ p.1 := hI.out.hi p hp
        have Hf : Hid (fnd ps x = (p.1 == x)) := by show fnd ps x = _; rw [fnd, HL.out, hp]
        clear hp
        go_wp2_with fail
        refine (cmp_any _ _ _ _).mono ?_
        rintro e w1 ⟨rfl, hb1⟩
        have hb2 : Below w.heap.size w w1 := hb.trans (hb1.mono hb.size)
        clear hb1 hb hc1 hc2
        by_cases hx : p.1 = x
        · rw [cmp_eq hx]
          have Hx := Lib.hid hx
          clear hx
          go_wp2_with fail
          go_ret2
          exact ⟨ret_ib (nat_eq HL.out) (show true = fnd ps x by rw [Hf.out, Hx.out]; simp), hb2⟩
        · rw [cmp_ne (by omega) hx]
          have Hx := Lib.hid hx
          clear hx
          go_wp2_with fail
          go_ret2
          exact ⟨ret_ib (nat_eq HL.out) (show false = fnd ps x by rw [Hf.out]; simp [Hx.out]), hb2⟩
      · have Hf : Hid (fnd ps x = false) := by
          show fnd ps x = _
          rw [fnd, HL.out, List.getElem?_eq_none (by have := Hn.out; omega)]
        go_wp2_with fail
        go_ret2
        exact ⟨ret_ib (nat_eq HL.out) Hf.out.symm, hb⟩

theorem find_any (A : Option Addr) (n cap : Nat) (ps : List (Int × Int)) (x : Int) (w : World) (hn : ps.length = n) (hm : n ≤ 4611686018427387903) (hP : PR w A ps) (hG : GT ps n) :
    Calls Tryd.prog 31 #[.slice A n cap, .int .i64 x] w fun e w' => e = .returned (.tuple #[.int .i64 (lb ps x), .bool (fnd ps x)]) ∧ Below w.heap.size w w' := by
  have HB := Lib.hid (bsf_any A n cap ps x w hn hm hP hG)
  clear hP hn hG
  go_enter Tryd.func31, Tryd.ntmps31
  go_wp2_with (go_at_call 38; refine (HB.out).mono ?_; rintro e w1 ⟨rfl, hb1⟩)
  go_ret2
  exact ⟨rfl, hb1⟩

end Go.Proofs.YtcjpbomdnjmfkaaDoor
