/- The contracts of Known, of the laws' helpers two and nearer, and of the chapter's example. -/
import Derived.Test.YthfclbbmioenlaaDoorA7
import Derived.Test.YthfclbbmioenlaaDoorB4
namespace Go.Proofs.YthfclbbmioenlaaDoor
open Go.RowKit

theorem bF (N : Nat) (s : ByteArray) : (HF.fnFind s (bList N)).isSome = bKnown s := by
  cases h : bKnown s
  · rw [b_find_no s N h]; rfl
  · simp only [bKnown, decide_eq_true_eq] at h
    rcases h with rfl | rfl | rfl | rfl | rfl | rfl | rfl | rfl | rfl | rfl | rfl | rfl | rfl | rfl | rfl | rfl <;> rfl
theorem uF (N : Nat) (s : ByteArray) : (HF.fnFind s (uList N)).isSome = uKnown s := by
  cases h : uKnown s
  · rw [u_find_no s N h]; rfl
  · simp only [uKnown, decide_eq_true_eq] at h
    rcases h with rfl | rfl | rfl | rfl | rfl <;> rfl

def knB (s : ByteArray) (n : Int) : Bool := if n = 1 then uKnown s else if n = 2 then bKnown s else false

theorem known_any (s : ByteArray) (n : Int) (w : World) :
    Calls Tryd.prog 15 #[.string s, .int .i64 n] w fun e w' => e = .returned (.bool (knB s n)) ∧ Below w.heap.size w w' := by
  by_cases h1 : n = 1
  · have H : Hid (knB s n = uKnown s) := by show _ = _; rw [knB, if_pos h1]
    have HF1 := Lib.hid (uF w.heap.size s)
    obtain ⟨v, hv⟩ : ∃ v, v = (HF.fnFind s (uList w.heap.size)).getD .nilFunc := ⟨_, rfl⟩
    have HV := Lib.hid hv
    have q : (n == 1) = true := by simpa using h1
    clear h1 hv
    go_enter Tryd.func15, Tryd.ntmps15
    go_wp2_with (first | ((with_reducible refine HF.at_look ?_); refine HF.wpList_look_fn rfl _ _ rfl Tryd.underlying45 Tryd.underlying9 rfl hU.out.map (Tryd.zeroValue43 _) _ rfl HV.out.symm HF1.out ?_) | (go_at_call 26; refine (unaries_any _).mono ?_; rintro e w1 ⟨rfl, hb1, hU0⟩; have hU := Lib.hid hU0; clear hU0))
    go_ret
    exact ⟨ret_bool H.out.symm, hb1⟩
  by_cases h2 : n = 2
  · have H : Hid (knB s n = bKnown s) := by show _ = _; rw [knB, if_neg h1, if_pos h2]
    have HF1 := Lib.hid (bF w.heap.size s)
    obtain ⟨v, hv⟩ : ∃ v, v = (HF.fnFind s (bList w.heap.size)).getD .nilFunc := ⟨_, rfl⟩
    have HV := Lib.hid hv
    have q : (n == 1) = false := by simpa using h1
    have q2 : (n == 2) = true := by simpa using h2
    clear h1 h2 hv
    go_enter Tryd.func15, Tryd.ntmps15
    go_wp2_with (first | ((with_reducible refine HF.at_look ?_); refine HF.wpList_look_fn rfl _ _ rfl Tryd.underlying51 Tryd.underlying9 rfl hU.out.map (Tryd.zeroValue49 _) _ rfl HV.out.symm HF1.out ?_) | (go_at_call 28; refine (binaries_any _).mono ?_; rintro e w1 ⟨rfl, hb1, hU0⟩; have hU := Lib.hid hU0; clear hU0))
    go_ret
    exact ⟨ret_bool H.out.symm, hb1⟩
  · have H : Hid (knB s n = false) := by show _ = _; rw [knB, if_neg h1, if_neg h2]
    have q : (n == 1) = false := by simpa using h1
    have q2 : (n == 2) = false := by simpa using h2
    clear h1 h2
    go_enter Tryd.func15, Tryd.ntmps15
    go_wp2_with fail
    go_ret
    exact ⟨ret_bool H.out.symm, Below.refl _ _⟩

/-- Is there a value? -/
def bOk (s : ByteArray) (a b : Int) : Bool := bE s a b == 0

theorem two_any (s : ByteArray) (a b : Int) (h0 : -9223372036854775808 ≤ a) (h1 : a ≤ 9223372036854775807) (g0 : -9223372036854775808 ≤ b) (g1 : b ≤ 9223372036854775807) (w : World) :
    Calls Tryd.prog 24 #[.string s, .int .i64 a, .int .i64 b] w fun e w' => e = .returned (.tuple #[.int .i64 (bV s a b), .bool (bOk s a b)]) ∧ Below w.heap.size w w' := by
  go_enter Tryd.func24, Tryd.ntmps24
  go_wp2_with (go_at_call 18; refine (binary_any _ _ _ h0 h1 g0 g1 _).mono ?_; rintro e w1 ⟨rfl, hb1⟩)
  go_ret2
  exact ⟨rfl, hb1⟩

/-- Is r nearer to 0 than b? -/
def near (r b : Int) : Bool := decide (r.natAbs < b.natAbs)
theorem nearer_any (r b : Int) (h0 : -9223372036854775807 ≤ r) (h1 : r ≤ 9223372036854775807) (g0 : -9223372036854775808 ≤ b) (g1 : b ≤ 9223372036854775807) (hn : r.natAbs < b.natAbs) (w : World) :
    Calls Tryd.prog 25 #[.int .i64 r, .int .i64 b] w fun e w' => e = .returned (.bool true) ∧ w = w' := by
  by_cases hb : b < 0
  · have a1 : b < r := by omega
    by_cases hr : r ≤ 0
    · have q : decide (r ≤ 0) = true := by simpa using hr
      go_enter Tryd.func25, Tryd.ntmps25
      go_wp2_with fail
      go_ret
      exact ⟨rfl, rfl⟩
    · have a2 : b < -r := by omega
      have q : decide (r ≤ 0) = false := by simpa using hr
      go_enter Tryd.func25, Tryd.ntmps25
      go_wp2_with fail
      go_ret
      exact ⟨rfl, rfl⟩
  · have a1 : r < b := by omega
    by_cases hr : 0 ≤ r
    · have q : decide (0 ≤ r) = true := by simpa using hr
      go_enter Tryd.func25, Tryd.ntmps25
      go_wp2_with fail
      go_ret
      exact ⟨rfl, rfl⟩
    · have a2 : -b < r := by omega
      have q : decide (0 ≤ r) = false := by simpa using hr
      go_enter Tryd.func25, Tryd.ntmps25
      go_wp2_with fail
      go_ret
      exact ⟨rfl, rfl⟩

theorem tab_below {P : Program} {w w' : World} {nm : String} {k : IntKind} {zs : List Int} (h : Lib.TabIs P w nm k zs) (hb : Below w.heap.size w w') : Lib.TabIs P w' nm k zs := by
  unfold Lib.TabIs World.var? at h ⊢
  cases hg : P.globalNamed nm with
  | none => rw [hg] at h; cases h
  | some g =>
    rw [hg] at h
    have hlt : g < w.heap.size := by
      rcases Nat.lt_or_ge g w.heap.size with h2 | h2
      · exact h2
      · simp [Array.getElem?_eq_none h2] at h
    simp only [Option.bind_some] at h ⊢
    rw [hb.block g hlt]; exact h

theorem Laid.below {w w' : World} (h : Laid w) (hb : Below w.heap.size w w') : Laid w' := by
  obtain ⟨te, pe, hv⟩ := h.err
  exact ⟨⟨te, pe, (hb.cell (p := ⟨1, 0, none⟩) (Lib.lt_of_cell hv)).trans hv⟩, tab_below h.tab hb⟩

theorem ex_u : uV nMinus 5 = -5 ∧ uE nMinus 5 = 0 := by decide
theorem ex_div : bV bDiv (-7) 2 = -4 ∧ bE bDiv (-7) 2 = 0 := by decide
theorem ex_rem : bE bRem 1 0 = 11 := by decide
theorem ex_parse : parV 16 [45, 48, 102, 102] = -255 ∧ parE 16 [45, 48, 102, 102] = 0 := by decide
theorem ex_text : Lib.itoa (-40) = [45, 52, 48] := by
  have h4 : Lib.decDigits 4 = [52] := by rw [Lib.decDigits]; rfl
  have h40 : Lib.decDigits 40 = [52, 48] := by rw [Lib.decDigits]; simp [h4]
  show 45 :: Lib.decDigits 40 = _
  rw [h40]
theorem ex_known : knB bGcd 2 = true ∧ knB bGcd 1 = false := by decide

set_option maxHeartbeats 1000000 in
/-- The chapter's example: true. -/
theorem example_any (w : World) (hL : Laid w) :
    Calls Tryd.prog 17 #[] w fun e w' => e = .returned (.bool true) ∧ Below w.heap.size w w' := by
  have HL := Lib.hid hL
  clear hL
  have x1 := Lib.hid ex_u
  have x2 := Lib.hid ex_div
  have x3 := Lib.hid ex_rem
  have x4 := Lib.hid ex_parse
  have x5 := Lib.hid ex_text
  have x6 := Lib.hid ex_known
  go_enter Tryd.func17, Tryd.ntmps17
  go_wp2_with fail
  refine (unary_any nMinus 5 (by omega) (by omega) _).mono ?_
  rw [x1.out.1, x1.out.2]
  rintro e w1 ⟨rfl, hb1⟩
  go_wp2_with fail
  refine (binary_any bDiv (-7) 2 (by omega) (by omega) (by omega) (by omega) _).mono ?_
  rw [x2.out.1, x2.out.2]
  rintro e w2 ⟨rfl, hb2⟩
  have hb2' := hb1.trans (hb2.mono hb1.size)
  clear hb1 hb2
  go_wp2_with fail
  refine (binary_any bRem 1 0 (by omega) (by omega) (by omega) (by omega) _).mono ?_
  rw [x3.out]
  rintro e w3 ⟨rfl, hb3⟩
  have hb3' := hb2'.trans (hb3.mono hb2'.size)
  clear hb2' hb3
  go_wp2_with fail
  refine (parse_any { data := #[45, 48, 102, 102] } 16 (by decide) _ (HL.out.below hb3')).mono ?_
  rw [x4.out.1, x4.out.2]
  rintro e w4 ⟨rfl, hb4⟩
  have hb4' := hb3'.trans (hb4.mono hb3'.size)
  clear hb3' hb4
  go_wp2_with fail
  refine (text_any (-40) (by omega) (by omega) _ (HL.out.below hb4')).mono ?_
  rw [x5.out]
  rintro e w5 ⟨rfl, hb5⟩
  have hb5' := hb4'.trans (hb5.mono hb4'.size)
  clear hb4' hb5
  go_wp2_with fail
  refine (known_any bGcd 2 _).mono ?_
  rw [x6.out.1]
  rintro e w6 ⟨rfl, hb6⟩
  have hb6' := hb5'.trans (hb6.mono hb5'.size)
  clear hb5' hb6
  go_wp2_with fail
  refine (known_any bGcd 1 _).mono ?_
  rw [x6.out.2]
  rintro e w7 ⟨rfl, hb7⟩
  have hb7' := hb6'.trans (hb7.mono hb6'.size)
  clear hb6' hb7
  go_wp2_with fail
  go_ret
  exact ⟨rfl, hb7'⟩

end Go.Proofs.YthfclbbmioenlaaDoor
