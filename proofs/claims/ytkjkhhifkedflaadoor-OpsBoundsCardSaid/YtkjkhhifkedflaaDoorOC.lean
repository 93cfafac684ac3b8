/- The contracts of ops' functions on numbers and names, of the table of kinds, of cmp.Compare and cmp.Or. -/
import Derived.Test.YtkjkhhifkedflaaDoorOB
import Derived.Test.YtkjkhhifkedflaaDoorProg
import Derived.Deep.QuietTactic
import Derived.BigQuiet
import Derived.WalkLawsBesides
import Derived.Lib.Strings
import Derived.Deep.RegionHeld3
import Derived.Deep.RegionLaw
import Derived.Deep.DrawnRows
set_option linter.unusedVariables false
set_option linter.unusedSimpArgs false
namespace Go.Proofs.YtkjkhhifkedflaaDoor
open Go.RowKit Go.Proofs.HP

theorem ret_int {k : IntKind} {a b : Int} (h : a = b) : Ending.returned (.int k a) = .returned (.int k b) := by rw [h]
theorem ret_bool {a b : Bool} (h : a = b) : Ending.returned (.bool a) = .returned (.bool b) := by rw [h]
theorem below_drewN {b : Nat} {w wr : World} (h : Below b w wr) (n : Nat) : Below b w (wr.drewN n) := by
  refine ⟨?_, ?_, ?_, ?_, fun q hq => ?_⟩
  · simpa [World.drewN] using h.os
  · simpa [World.drewN] using h.tape
  · simpa [World.drewN] using h.output
  · simpa [World.drewN] using h.size
  · simpa [World.drewN] using h.block q hq
theorem al0 (w1 : World) (o : Obj) : Below w1.heap.size w1 (w1.alloc o) := (Below.refl _ _).alloc (Nat.le_refl _) o
theorem al {w1 w2 : World} {o : Obj} (hb : Below (w1.alloc o).heap.size (w1.alloc o) w2) : Below w1.heap.size w1 w2 := (al0 w1 o).trans (hb.mono (by simp))

theorem isName_any (s : ByteArray) (w : World) : Calls Tryd.prog 43 #[.string s] w fun e w' => e = .returned (.bool (decide (s.size ≤ 100))) ∧ w' = w := by
  go_enter Tryd.func43, Tryd.ntmps43
  go_wp2_with fail
  go_ret
  exact ⟨ret_bool (by simp; omega), rfl⟩
theorem isType_any (t : Int) (w : World) : Calls Tryd.prog 40 #[.int .i64 t] w fun e w' => e = .returned (.bool (isT t)) ∧ w' = w := by
  by_cases h1 : 1 ≤ t
  · have e : isT t = decide (t ≤ 7) := by simp [isT, h1]
    rw [e]
    clear e
    go_enter Tryd.func40, Tryd.ntmps40
    go_wp2_with fail
    go_ret
    exact ⟨ret_bool (by first | rfl | simp), rfl⟩
  · have e : isT t = false := by simp [isT, h1]
    rw [e]
    clear e
    have h2 : decide (1 ≤ t) = false := by simpa using h1
    go_enter Tryd.func40, Tryd.ntmps40
    go_wp2_with fail
    go_ret
    exact ⟨rfl, rfl⟩
def isPr (p : Int) : Bool := decide (0 ≤ p) && decide (p ≤ 1200)
theorem isPriority_any (t : Int) (w : World) : Calls Tryd.prog 41 #[.int .i64 t] w fun e w' => e = .returned (.bool (isPr t)) ∧ w' = w := by
  by_cases h1 : 0 ≤ t
  · have e : isPr t = decide (t ≤ 1200) := by simp [isPr, h1]
    rw [e]
    clear e
    go_enter Tryd.func41, Tryd.ntmps41
    go_wp2_with fail
    go_ret
    exact ⟨ret_bool (by first | rfl | simp), rfl⟩
  · have e : isPr t = false := by simp [isPr, h1]
    rw [e]
    clear e
    have h2 : decide (0 ≤ t) = false := by simpa using h1
    go_enter Tryd.func41, Tryd.ntmps41
    go_wp2_with fail
    go_ret
    exact ⟨rfl, rfl⟩
def grt (k p : Int) : Int := if k = 1 then p - 1 else if k = 2 then p else 0
theorem greatest_any (k p : Int) (hp : 0 ≤ p) (hq : p ≤ 1200) (w : World) : Calls Tryd.prog 42 #[.int .i64 k, .int .i64 p] w fun e w' => e = .returned (.int .i64 (grt k p)) ∧ w' = w := by
  by_cases h1 : k = 1
  · subst h1
    go_enter Tryd.func42, Tryd.ntmps42
    go_wp2_with fail
    go_ret
    exact ⟨ret_int (by simp [grt]), rfl⟩
  · by_cases h2 : k = 2
    · subst h2
      go_enter Tryd.func42, Tryd.ntmps42
      go_wp2_with fail
      go_ret
      exact ⟨ret_int (by simp [grt]), rfl⟩
    · have e : grt k p = 0 := by simp [grt, h1, h2]
      rw [e]
      have h3 : (k == 1) = false := by simpa using h1
      have h4 : (k == 2) = false := by simpa using h2
      clear e
      go_enter Tryd.func42, Tryd.ntmps42
      go_wp2_with fail
      go_ret
      exact ⟨rfl, rfl⟩
theorem rival_any (c : Int) (w : World) : Calls Tryd.prog 65 #[.int .i64 c] w fun e w' => e = .returned (.int .i64 (riv c)) ∧ w' = w := by
  by_cases h1 : c = 2
  · subst h1
    go_enter Tryd.func65, Tryd.ntmps65
    go_wp2_with fail
    go_ret
    exact ⟨rfl, rfl⟩
  · by_cases h2 : c = 3
    · subst h2
      go_enter Tryd.func65, Tryd.ntmps65
      go_wp2_with fail
      go_ret
      exact ⟨rfl, rfl⟩
    · have e : riv c = 0 := by simp [riv, h1, h2]
      rw [e]
      have h3 : (c == 2) = false := by simpa using h1
      have h4 : (c == 3) = false := by simpa using h2
      clear e
      go_enter Tryd.func65, Tryd.ntmps65
      go_wp2_with fail
      go_ret
      exact ⟨rfl, rfl⟩

/-- The table of kinds. -/
def kN (t : Int) : ByteArray := if t = 1 then nm [120, 102, 120] else if t = 2 then nm [120, 102, 121] else if t = 3 then nm [121, 102, 120] else if t = 4 then nm [102, 121] else if t = 5 then nm [102, 120] else if t = 6 then nm [120, 102] else if t = 7 then nm [121, 102] else nm []
def kL (t : Int) : Int := if t = 1 then 1 else if t = 2 then 1 else if t = 3 then 2 else if t = 6 then 1 else if t = 7 then 2 else 0
def kR (t : Int) : Int := if t = 1 then 1 else if t = 2 then 2 else if t = 3 then 1 else if t = 4 then 2 else if t = 5 then 1 else 0
def kRow (t : Int) : List Value := [.string (kN t), .int .i64 (clsI t), .int .i64 (kL t), .int .i64 (kR t)]
def kindCells : List Value := kRow 0 ++ kRow 1 ++ kRow 2 ++ kRow 3 ++ kRow 4 ++ kRow 5 ++ kRow 6 ++ kRow 7
theorem kind_get (t : Nat) (ht : t < 8) (j : Nat) (v : Value) (h : (kRow t)[j]? = some v) : kindCells[t * 4 + j]? = some v := by
  have hj : j < 4 := by have := (List.getElem?_eq_some_iff.1 h).1; simpa [kRow] using this
  have h8 : t = 0 ∨ t = 1 ∨ t = 2 ∨ t = 3 ∨ t = 4 ∨ t = 5 ∨ t = 6 ∨ t = 7 := by omega
  have h4 : j = 0 ∨ j = 1 ∨ j = 2 ∨ j = 3 := by omega
  rcases h8 with rfl | rfl | rfl | rfl | rfl | rfl | rfl | rfl <;> rcases h4 with rfl | rfl | rfl | rfl <;> exact h
/-- What the listed variables hold. -/
structure KLaid (w : World) : Prop where
  kinds : ∃ t fr, w.heap[1]? = some (.cells kindCells.toArray t fr)
theorem lt_of_some {w : World} {b : Nat} {x : Obj} (h : w.heap[b]? = some x) : b < w.heap.size := (Array.getElem?_eq_some_iff.1 h).1
theorem KLaid.below {w w' : World} (h : KLaid w) (hb : Below w.heap.size w w') : KLaid w' := by
  obtain ⟨t, fr, hg⟩ := h.kinds
  exact ⟨t, fr, (hb.block _ (lt_of_some hg)).trans hg⟩
theorem KLaid.cell {w : World} (h : KLaid w) (t : Nat) (ht : t < 8) : w.cell? ⟨1, t * 4, none⟩ = some (.string (kN t)) ∧ w.cell? ⟨1, t * 4 + 1, none⟩ = some (.int .i64 (clsI t)) ∧
    w.cell? ⟨1, t * 4 + 2, none⟩ = some (.int .i64 (kL t)) ∧ w.cell? ⟨1, t * 4 + 3, none⟩ = some (.int .i64 (kR t)) := by
  obtain ⟨ty, fr, hg⟩ := h.kinds
  have e := kind_get t ht
  refine ⟨?_, ?_, ?_, ?_⟩
  · rw [cell_of_row w _ _ _ _ fr hg]; simpa using e 0 _ rfl
  · rw [cell_of_row w _ _ _ _ fr hg]; simpa using e 1 _ rfl
  · rw [cell_of_row w _ _ _ _ fr hg]; simpa using e 2 _ rfl
  · rw [cell_of_row w _ _ _ _ fr hg]; simpa using e 3 _ rfl
theorem classOf_any (t : Int) (ht : isT t = true) (w : World) (hL : KLaid w) : Calls Tryd.prog 64 #[.int .i64 t] w fun e w' => e = .returned (.int .i64 (clsI t)) ∧ w' = w := by
  simp only [isT, Bool.and_eq_true, decide_eq_true_eq] at ht
  obtain ⟨k, rfl⟩ : ∃ k : Nat, t = k := ⟨t.toNat, by omega⟩
  obtain ⟨_, hc, _, _⟩ := hL.cell k (by omega)
  have h0 : (0 : Int) ≤ (k : Int) := by omega
  have h1 : (k : Int) < 8 := by omega
  clear hL
  go_enter Tryd.func64, Tryd.ntmps64
  go_wp2_with fail
  go_ret
  exact ⟨rfl, rfl⟩
theorem class_any (t : Int) (w : World) : Calls Tryd.prog 32 #[.int .i64 t] w fun e w' => e = .returned (.int .i64 (clsI t)) ∧ w' = w := by
  by_cases h : 1 ≤ t ∧ t ≤ 7
  · have : t = 1 ∨ t = 2 ∨ t = 3 ∨ t = 4 ∨ t = 5 ∨ t = 6 ∨ t = 7 := by omega
    rcases this with rfl | rfl | rfl | rfl | rfl | rfl | rfl
    all_goals
      go_enter Tryd.func32, Tryd.ntmps32
      go_wp2_with fail
      go_ret
      exact ⟨rfl, rfl⟩
  · have e : clsI t = 0 := by unfold clsI; rw [if_neg (by omega), if_neg (by omega), if_neg (by omega)]
    rw [e]
    have h1 : (t == 1) = false := by simp; omega
    have h2 : (t == 2) = false := by simp; omega
    have h3 : (t == 3) = false := by simp; omega
    have h4 : (t == 4) = false := by simp; omega
    have h5 : (t == 5) = false := by simp; omega
    have h6 : (t == 6) = false := by simp; omega
    have h7 : (t == 7) = false := by simp; omega
    clear e h
    go_enter Tryd.func32, Tryd.ntmps32
    go_wp2_with fail
    go_ret
    exact ⟨rfl, rfl⟩

theorem nanI_any (n : Int) (w : World) : Calls Tryd.prog 83 #[.int .i64 n] w fun e w' => e = .returned (.bool false) ∧ w = w' := by
  go_enter Tryd.func83, Tryd.ntmps83
  go_wp2_with fail
  go_ret
  exact ⟨ret_bool (by simp), rfl⟩
theorem nanS_any (n : ByteArray) (w : World) : Calls Tryd.prog 82 #[.string n] w fun e w' => e = .returned (.bool false) ∧ w = w' := by
  go_enter Tryd.func82, Tryd.ntmps82
  go_wp2_with fail
  go_ret
  exact ⟨ret_bool (by simp), rfl⟩
theorem cmpI_cases (a b : Int) : (a < b ∧ HP.cmpI a b = -1) ∨ (¬ a < b ∧ b < a ∧ HP.cmpI a b = 1) ∨ (¬ a < b ∧ ¬ b < a ∧ HP.cmpI a b = 0) := by
  unfold HP.cmpI
  by_cases h1 : a < b
  · simp [h1]
  · by_cases h2 : b < a <;> simp [h1, h2]
theorem compI_any (a b : Int) (w : World) : Calls Tryd.prog 63 #[.int .i64 a, .int .i64 b] w fun e w' => e = .returned (.int .i64 (HP.cmpI a b)) ∧ w = w' := by
  rcases cmpI_cases a b with ⟨h1, h⟩ | ⟨h1, h2, h⟩ | ⟨h1, h2, h⟩
  all_goals
    rw [h]
    clear h
    go_enter Tryd.func63, Tryd.ntmps63
    go_wp2_with (first | (go_at_call 83; refine (nanI_any _ _).mono ?_; rintro e w1 ⟨rfl, rfl⟩))
    go_ret
    exact ⟨rfl, rfl⟩
theorem compS_any (a b : ByteArray) (w : World) : Calls Tryd.prog 62 #[.string a, .string b] w fun e w' => e = .returned (.int .i64 (cmpB a.data.toList b.data.toList)) ∧ w = w' := by
  rw [← Lib.toList_data, ← Lib.toList_data]
  have hl := less_cmpB a.toList b.toList
  have he := eq_cmpB a.toList b.toList
  rcases cmpB_bd a.toList b.toList with h | h | h
  · rw [h] at hl he ⊢
    have h1 : Op.bytesLess a.toList b.toList = true := hl.trans (by decide)
    have h2 : (a.toList == b.toList) = false := he.trans (by decide)
    clear h hl he
    go_enter Tryd.func62, Tryd.ntmps62
    go_wp2_with (first | (go_at_call 82; refine (nanS_any _ _).mono ?_; rintro e w1 ⟨rfl, rfl⟩))
    go_ret
    exact ⟨rfl, rfl⟩
  · rw [h] at hl he ⊢
    have h1 : Op.bytesLess a.toList b.toList = false := hl.trans (by decide)
    have h2 : (a.toList == b.toList) = true := he.trans (by decide)
    clear h hl he
    go_enter Tryd.func62, Tryd.ntmps62
    go_wp2_with (first | (go_at_call 82; refine (nanS_any _ _).mono ?_; rintro e w1 ⟨rfl, rfl⟩))
    go_ret
    exact ⟨rfl, rfl⟩
  · rw [h] at hl he ⊢
    have h1 : Op.bytesLess a.toList b.toList = false := hl.trans (by decide)
    have h2 : (a.toList == b.toList) = false := he.trans (by decide)
    clear h hl he
    go_enter Tryd.func62, Tryd.ntmps62
    go_wp2_with (first | (go_at_call 82; refine (nanS_any _ _).mono ?_; rintro e w1 ⟨rfl, rfl⟩))
    go_ret
    exact ⟨rfl, rfl⟩
/-- cmp.Or at two numbers that lie in a row of their own. -/
theorem zero_cases (n : Int) : n = 0 ∨ ((n == 0) = false ∧ (n != 0) = true) := by by_cases h : n = 0 <;> simp [h]
theorem or2_a {a b : Int} (h : (a == 0) = false) : orI a b = a := by
  have : ¬ a = 0 := by simpa using h
  simp [orI, this]
theorem or2_b {b : Int} : orI 0 b = b := by simp [orI]
set_option maxHeartbeats 2000000 in
theorem or_two (g : Nat) (x y : Int) (w : World) (h0 : w.cell? ⟨g, 0, none⟩ = some (.int .i64 x)) (h1 : w.cell? ⟨g, 1, none⟩ = some (.int .i64 y)) :
    Calls Tryd.prog 61 #[.slice (some ⟨g, 0, none⟩) 2 2] w fun e w' => e = .returned (.int .i64 (orI x y)) ∧ w = w' := by
  rcases zero_cases x with rfl | ⟨za, ya⟩
  · rw [or2_b]
    rcases zero_cases y with rfl | ⟨zd, yd⟩
    · go_enter Tryd.func61, Tryd.ntmps61
      go_wp2_with fail
      refine wp_loop_rounds 3 ?_
      iterate 3
        rw [rounds_succ]
        go_wp2_with fail
      go_ret
      exact ⟨rfl, rfl⟩
    · go_enter Tryd.func61, Tryd.ntmps61
      go_wp2_with fail
      refine wp_loop_rounds 2 ?_
      iterate 2
        rw [rounds_succ]
        go_wp2_with fail
      go_ret
      exact ⟨rfl, rfl⟩
  · rw [or2_a za]
    go_enter Tryd.func61, Tryd.ntmps61
    go_wp2_with fail
    refine wp_loop_rounds 1 ?_
    rw [rounds_succ]
    go_wp2_with fail
    go_ret
    exact ⟨rfl, rfl⟩

end Go.Proofs.YtkjkhhifkedflaaDoor
