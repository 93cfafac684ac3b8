/- The contracts of Parse, of Text, and of the library's ParseInt beneath. -/
import Derived.Test.YthfclbbmioenlaaDoorB3
import Derived.Lib.QuietBelow
import Derived.Lib.LaidTab
namespace Go.Proofs.YthfclbbmioenlaaDoor
open Go.RowKit

/-- What the listed variables hold. -/
structure Laid (w : World) : Prop where
  err : ∃ te pe, w.cell? ⟨1, 0, none⟩ = some (.iface te pe)
  tab : Lib.TabIs Tryd.prog w "internal/strconv.uint64pow10" .u64 Lib.pow10Tab


theorem pub_ok (s : ByteArray) (b v : Int) (w : World) (hI : Hid (Calls Tryd.prog 75 #[.string s, .int .i64 b, .int .i64 64] w fun e w' => e = .returned (.tuple #[.int .i64 v, .nilIface]) ∧ Below w.heap.size w w')) :
    Calls Tryd.prog 41 #[.string s, .int .i64 b, .int .i64 64] w fun e w' => e = .returned (.tuple #[.int .i64 v, .nilIface]) ∧ Below w.heap.size w w' := by
  go_enter Tryd.func41, Tryd.ntmps41
  go_wp2_with (go_at_call 75; refine hI.out.mono ?_; rintro e w1 ⟨rfl, hw1⟩)
  go_ret2
  exact ⟨rfl, hw1⟩

def SomeErr (v : Int) (w : World) (e : Ending) (w' : World) : Prop := ∃ p, e = .returned (.tuple #[.int .i64 v, .iface 77 (.pointer (some p))]) ∧ Below w.heap.size w w'

theorem pub_range (s : ByteArray) (b v : Int) (w : World) (hlim : s.size ≤ 281474976710656) (hL : Laid w) (hI : Hid (Calls Tryd.prog 75 #[.string s, .int .i64 b, .int .i64 64] w fun e w' => e = .returned (.tuple #[.int .i64 v, .iface 72 (.int .i64 1)]) ∧ Below w.heap.size w w')) :
    Calls Tryd.prog 41 #[.string s, .int .i64 b, .int .i64 64] w (SomeErr v w) := by
  obtain ⟨te, pe, hv⟩ := hL.err
  have hlt := Lib.lt_of_cell hv
  have hc : Hid (∀ w1, Below w.heap.size w w1 → w1.cell? ⟨1, 0, none⟩ = some (.iface te pe)) := fun w1 hb => (hb.cell (p := ⟨1, 0, none⟩) hlt).trans hv
  have hsome : Hid (∀ w1 w2 N, Below w.heap.size w w1 → Below w1.heap.size w1 w2 → SomeErr v w (.returned (.tuple #[.int .i64 v, .iface 77 (.pointer (some ⟨N, 0, none⟩))])) w2) := fun w1 w2 N h1 h2 => ⟨_, rfl, h1.trans (h2.mono h1.size)⟩
  clear hv hL hlt
  go_enter Tryd.func41, Tryd.ntmps41
  go_wp2_with (first | (go_at_call 75; refine hI.out.mono ?_; rintro e w1 ⟨rfl, hw1⟩) | (go_at_call 76; refine (Tryd.strconv_toError_range _ s b 64 (.iface te pe) _ hlim (hc.out _ hw1) (.inr ⟨te, pe, rfl⟩)).mono ?_; rintro e w2 ⟨N, rfl, -, -, hw2⟩))
  go_ret2
  exact hsome.out _ _ _ hw1 hw2

/-- The digits without the sign, and the number. -/
def unS : List UInt8 → List UInt8
  | [] => []
  | c :: r => if c = 45 then r else c :: r
def num (b : Int) : List UInt8 → Int
  | [] => 0
  | c :: r => if c = 45 then -(mag b r) else mag b (c :: r)
def parV (b : Int) (l : List UInt8) : Int := if b < 2 ∨ 36 < b then 0 else if goodD b (unS l) then rV (num b l) else 0
def parE (b : Int) (l : List UInt8) : Int := if b < 2 ∨ 36 < b then 1 else if goodD b (unS l) then rE (num b l) else 3

theorem trim_unS (l : List UInt8) : Lib.trimPrefix l [45] = unS l := by
  cases l with
  | nil => rfl
  | cons c r =>
    by_cases h : c = 45
    · subst h; simp [Lib.trimPrefix, Lib.hasPrefix, unS, List.isPrefixOf]
    · have h2 : ((45 : UInt8) == c) = false := by simpa using fun e => h e.symm
      simp [Lib.trimPrefix, Lib.hasPrefix, unS, h, List.isPrefixOf, h2]

theorem mk_size (l : List UInt8) : (⟨l.toArray⟩ : ByteArray).size = l.length := by simp [ByteArray.size]

theorem parse_base (s : ByteArray) (b : Int) (hb : b < 2 ∨ 36 < b) (w : World) :
    Calls Tryd.prog 20 #[.string s, .int .i64 b] w fun e w' => e = .returned (.tuple #[.int .i64 0, .int .i64 1]) ∧ Below w.heap.size w w' := by
  rcases hb with hb | hb
  · go_enter Tryd.func20, Tryd.ntmps20
    go_wp2_with fail
    go_ret2
    exact ⟨rfl, Below.refl _ _⟩
  · have h2 : decide (b < 2) = false := by simp; omega
    go_enter Tryd.func20, Tryd.ntmps20
    go_wp2_with fail
    go_ret2
    exact ⟨rfl, Below.refl _ _⟩

theorem are_trim (s : ByteArray) (b : Int) (g : Bool) (hs : s.size ≤ 281474976710656) (hg : goodD b (unS s.data.toList) = g) (w : World) :
    Calls Tryd.prog 39 #[.string ⟨(Lib.trimPrefix s.data.toList [45]).toArray⟩, .int .i64 b] w fun e w' => e = .returned (.bool g) ∧ w = w' := by
  subst hg
  have h1 := trim_unS s.data.toList
  have h2 : (unS s.data.toList).length ≤ s.size := by
    rw [← h1, Lib.size_eq]; exact Lib.trimPrefix_le _ _
  rw [h1]
  have := are_any ⟨(unS s.data.toList).toArray⟩ b (by rw [mk_size]; omega) w
  simpa using this

theorem parse_bad (s : ByteArray) (b : Int) (h2 : 2 ≤ b) (h36 : b ≤ 36) (hs : s.size ≤ 281474976710656) (hg : goodD b (unS s.data.toList) = false) (w : World) :
    Calls Tryd.prog 20 #[.string s, .int .i64 b] w fun e w' => e = .returned (.tuple #[.int .i64 0, .int .i64 3]) ∧ Below w.heap.size w w' := by
  have h2' : decide (b < 2) = false := by simp; omega
  have HA := Lib.hid (are_trim s b false hs hg w)
  clear hg
  go_enter Tryd.func20, Tryd.ntmps20
  go_wp2_with (first | (go_at_call 40; refine (Tryd.strings_TrimPrefix _ _ _).mono ?_; rintro e w' ⟨rfl, rfl⟩) | (go_at_call 39; refine HA.out.mono ?_; rintro e w' ⟨rfl, rfl⟩))
  go_ret2
  exact ⟨rfl, Below.refl _ _⟩

theorem parse_ok (s : ByteArray) (b v : Int) (h2 : 2 ≤ b) (h36 : b ≤ 36) (hs : s.size ≤ 281474976710656) (hg : goodD b (unS s.data.toList) = true) (w : World)
    (hI : Hid (Calls Tryd.prog 75 #[.string s, .int .i64 b, .int .i64 64] w fun e w' => e = .returned (.tuple #[.int .i64 v, .nilIface]) ∧ Below w.heap.size w w')) :
    Calls Tryd.prog 20 #[.string s, .int .i64 b] w fun e w' => e = .returned (.tuple #[.int .i64 v, .int .i64 0]) ∧ Below w.heap.size w w' := by
  have h2' : decide (b < 2) = false := by simp; omega
  have HA := Lib.hid (are_trim s b true hs hg w)
  have HP := Lib.hid (pub_ok s b v w hI)
  clear hg hI
  go_enter Tryd.func20, Tryd.ntmps20
  go_wp2_with (first | (go_at_call 40; refine (Tryd.strings_TrimPrefix _ _ _).mono ?_; rintro e w' ⟨rfl, rfl⟩) | (go_at_call 39; refine HA.out.mono ?_; rintro e w' ⟨rfl, rfl⟩) | (go_at_call 41; refine HP.out.mono ?_; rintro e w1 ⟨rfl, hw1⟩))
  go_ret2
  exact ⟨rfl, hw1⟩

theorem parse_range (s : ByteArray) (b v : Int) (h2 : 2 ≤ b) (h36 : b ≤ 36) (hs : s.size ≤ 281474976710656) (hg : goodD b (unS s.data.toList) = true) (w : World) (hL : Laid w)
    (hI : Hid (Calls Tryd.prog 75 #[.string s, .int .i64 b, .int .i64 64] w fun e w' => e = .returned (.tuple #[.int .i64 v, .iface 72 (.int .i64 1)]) ∧ Below w.heap.size w w')) :
    Calls Tryd.prog 20 #[.string s, .int .i64 b] w fun e w' => e = .returned (.tuple #[.int .i64 0, .int .i64 10]) ∧ Below w.heap.size w w' := by
  have h2' : decide (b < 2) = false := by simp; omega
  have HA := Lib.hid (are_trim s b true hs hg w)
  have HP := Lib.hid (pub_range s b v w hs hL hI)
  clear hg hI hL
  go_enter Tryd.func20, Tryd.ntmps20
  go_wp2_with (first | (go_at_call 40; refine (Tryd.strings_TrimPrefix _ _ _).mono ?_; rintro e w' ⟨rfl, rfl⟩) | (go_at_call 39; refine HA.out.mono ?_; rintro e w' ⟨rfl, rfl⟩) | (go_at_call 41; refine HP.out.mono ?_; rintro e w1 ⟨p, rfl, hw1⟩))
  go_ret2
  exact ⟨rfl, hw1⟩

/-- Parse returns the number, or the error, of the specification. -/
theorem parse_any (s : ByteArray) (b : Int) (hs : s.size ≤ 281474976710656) (w : World) (hL : Laid w) :
    Calls Tryd.prog 20 #[.string s, .int .i64 b] w fun e w' => e = .returned (.tuple #[.int .i64 (parV b s.data.toList), .int .i64 (parE b s.data.toList)]) ∧ Below w.heap.size w w' := by
  by_cases hb : b < 2 ∨ 36 < b
  · rw [parV, parE, if_pos hb, if_pos hb]; exact parse_base s b hb w
  rw [parV, parE, if_neg hb, if_neg hb]
  have h2 : 2 ≤ b := by omega
  have h36 : b ≤ 36 := by omega
  cases hg : goodD b (unS s.data.toList)
  · exact parse_bad s b h2 h36 hs hg w
  · have hg2 := hg
    simp only [goodD, decide_eq_true_eq] at hg2
    obtain ⟨hn, hall⟩ := hg2
    cases hl : s.data.toList with
    | nil => rw [hl] at hn; exact absurd rfl hn
    | cons c r =>
      have hsz : s.size = r.length + 1 := by rw [Lib.size_eq, hl]; rfl
      by_cases hc : c = 45
      · subst hc
        rw [hl] at hn hall
        have hn' : r ≠ [] := by simpa [unS] using hn
        have hall' : allD b r := by simpa [unS] using hall
        have hI := int_minus s r hl b h2 h36 hn' (by omega) hall' w
        have e1 : num b (45 :: r) = -(mag b r) := by simp [num]
        have hm := mag_nonneg b h2 r
        rw [e1, if_pos rfl, if_pos rfl]
        by_cases hr : mag b r ≤ 9223372036854775808
        · have hin : inR (-(mag b r)) = true := inR_iff.2 (by omega)
          simp only [inV, inE, if_pos hr] at hI
          rw [rV, rE, hin, if_pos rfl, if_pos rfl]
          exact parse_ok s b _ h2 h36 hs hg w hI
        · have hin : inR (-(mag b r)) = false := inR_no.2 (by omega)
          simp only [inV, inE, if_neg hr] at hI
          rw [rV, rE, hin]
          exact parse_range s b _ h2 h36 hs hg w hL hI
      · have hall' : allD b s.data.toList := by rw [hl] at hall ⊢; simpa [unS, hc] using hall
        have hI := int_plain s b h2 h36 (by omega) (by omega) hall' w
        have e1 : num b (c :: r) = mag b s.data.toList := by rw [hl]; simp [num, hc]
        have hm := mag_nonneg b h2 s.data.toList
        rw [e1, if_pos rfl, if_pos rfl]
        by_cases hr : mag b s.data.toList < 9223372036854775808
        · have hin : inR (mag b s.data.toList) = true := inR_iff.2 (by omega)
          simp only [ipV, ipE, if_pos hr] at hI
          rw [rV, rE, hin, if_pos rfl, if_pos rfl]
          exact parse_ok s b _ h2 h36 hs hg w hI
        · have hin : inR (mag b s.data.toList) = false := inR_no.2 (by omega)
          simp only [ipV, ipE, if_neg hr] at hI
          rw [rV, rE, hin]
          exact parse_range s b _ h2 h36 hs hg w hL hI

theorem below_grown {w w' : World} (h : ∃ k os, w' = Sort.grow (w.drewN k) os) : Below w.heap.size w w' := by
  obtain ⟨k, os, rfl⟩ := h
  have h1 := below_regrown w k os
  exact ⟨rfl, rfl, rfl, h1.size, h1.block⟩

/-- Text returns the decimal form. -/
theorem text_any (n : Int) (h0 : -9223372036854775808 ≤ n) (h1 : n ≤ 9223372036854775807) (w : World) (hL : Laid w) :
    Calls Tryd.prog 22 #[.int .i64 n] w fun e w' => e = .returned (.string ⟨(Lib.itoa n).toArray⟩) ∧ Below w.heap.size w w' := by
  have HL := Lib.hid hL
  clear hL
  go_enter Tryd.func22, Tryd.ntmps22
  go_wp2_with (go_at_call 43; refine (Tryd.strconv_FormatInt_10 n h0 h1 _ HL.out.tab).mono ?_; rintro e w1 ⟨rfl, hw0⟩; have hw1 := below_grown hw0; clear hw0)
  go_ret
  exact ⟨rfl, hw1⟩

end Go.Proofs.YthfclbbmioenlaaDoor
