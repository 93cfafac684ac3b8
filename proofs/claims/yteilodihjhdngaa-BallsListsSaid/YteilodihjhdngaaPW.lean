/- The contracts of the program's isNumber, isProper, Var, Int, atom, structure. -/
import Derived.Test.YteilodihjhdngaaRC
import Derived.Test.YteilodihjhdngaaTm
import Derived.Laws.EntriesVeiled
import Derived.Carry
namespace Go.Proofs.Yteilodihjhdngaa
open Go.RowKit Go.Proofs.HT

/-- Is it the number of a variable? -/
def numB (n : Int) : Bool := decide (0 ≤ n ∧ n ≤ 1099511627776)
theorem numB_iff {n : Int} : numB n = true ↔ 0 ≤ n ∧ n ≤ 1099511627776 := by simp [numB]
theorem numB_not {n : Int} : numB n = false ↔ ¬ (0 ≤ n ∧ n ≤ 1099511627776) := by rw [← numB_iff]; simp

set_option maxHeartbeats 1000000 in
theorem isNumber_any (n : Int) (w : World) : Calls Try.prog 95 #[.int .i64 n] w fun e w' => e = .returned (.bool (numB n)) ∧ w = w' := by
  by_cases h : 0 ≤ n
  · by_cases h2 : n ≤ 1099511627776
    all_goals
      go_enter Try.func95, Try.ntmps95
      go_wp2_with fail
      go_ret
      exact ⟨ret_bool (by rw [Bool.eq_iff_iff, numB_iff]; simp; omega), rfl⟩
  · go_enter Try.func95, Try.ntmps95
    go_wp2_with fail
    go_ret
    exact ⟨ret_bool (by rw [Bool.eq_iff_iff, numB_iff]; simp; omega), rfl⟩

theorem zero_or (n : Int) : n = 0 ∨ ((n == 0) = false ∧ ¬ n = 0) := by by_cases h : n = 0 <;> simp [h]
theorem numB_zero : numB 0 = true := by simp [numB]

set_option maxHeartbeats 1000000 in
theorem isProper_0 (n : Int) (s : ByteArray) (a : Option Addr) (l cap : Nat) (w : World) :
    Calls Try.prog 86 #[.agg #[.int .i64 0, .int .i64 n, .string s, .slice a l cap]] w fun e w' => e = .returned (.bool (nodeB 0 n s l)) ∧ Below w.heap.size w w' := by
  have fr : ∀ o, Below w.heap.size w (w.alloc o) := fun o => (Below.refl _ _).alloc (Nat.le_refl _) _
  have hc4 : (l : Int) = 0 ∨ ((l : Int) == 0) = false ∧ ¬ (l : Int) = 0 := by by_cases h : (l : Int) = 0 <;> simp [h] <;> omega
  rcases Bool.eq_false_or_eq_true (numB n) with hb | hb
  · have hb1 := numB_iff.1 hb
    rcases zero_or n with rfl | ⟨hn, hn'⟩
    any_goals rcases (show (s.size : Int) ≤ 100 ∨ ¬ (s.size : Int) ≤ 100 by omega) with c2 | c2
    all_goals rcases (show s.size = 0 ∨ ¬ s.size = 0 by omega) with e | e
    any_goals have e3 := emp_of e
    any_goals have e3 := not_emp e
    all_goals rcases hc4 with c4 | ⟨c4, c5⟩
    all_goals try (exfalso; omega)
    all_goals
      go_enter Try.func86, Try.ntmps86
      go_wp2_with (go_at_call 95; refine (isNumber_any _ _).mono ?_; rintro e w' ⟨rfl, rfl⟩)
      all_goals
        go_ret
        exact ⟨ret_bool (by rw [Bool.eq_iff_iff]; simp [nodeB, *]; try omega), fr _⟩
  · have hb1 := numB_not.1 hb
    rcases zero_or n with rfl | ⟨hn, hn'⟩
    · exact absurd hb (by simp [numB])
    · go_enter Try.func86, Try.ntmps86
      go_wp2_with (go_at_call 95; refine (isNumber_any _ _).mono ?_; rintro e w' ⟨rfl, rfl⟩)
      go_ret
      exact ⟨ret_bool (by rw [Bool.eq_iff_iff]; simp [nodeB]; omega), fr _⟩

set_option maxHeartbeats 1000000 in
theorem isProper_1 (n : Int) (s : ByteArray) (a : Option Addr) (l cap : Nat) (w : World) :
    Calls Try.prog 86 #[.agg #[.int .i64 1, .int .i64 n, .string s, .slice a l cap]] w fun e w' => e = .returned (.bool (nodeB 1 n s l)) ∧ Below w.heap.size w w' := by
  have fr : ∀ o, Below w.heap.size w (w.alloc o) := fun o => (Below.refl _ _).alloc (Nat.le_refl _) _
  rcases zero_or n with rfl | ⟨hn, hn'⟩
  any_goals rcases (show (s.size : Int) ≤ 100 ∨ ¬ (s.size : Int) ≤ 100 by omega) with c2 | c2
  any_goals (rcases (show s.size = 0 ∨ ¬ s.size = 0 by omega) with e | e)
  any_goals have e3 := emp_of e
  any_goals have e3 := not_emp e
  all_goals rcases (show (l : Int) = 0 ∨ ((l : Int) == 0) = false ∧ ¬ (l : Int) = 0 by by_cases h : (l : Int) = 0 <;> simp [h] <;> omega) with c4 | ⟨c4, c5⟩
  all_goals try (exfalso; omega)
  all_goals
    go_enter Try.func86, Try.ntmps86
    go_wp2_with (go_at_call 95; refine (isNumber_any _ _).mono ?_; rintro e w' ⟨rfl, rfl⟩)
    all_goals
      go_ret
      exact ⟨ret_bool (by rw [Bool.eq_iff_iff]; simp [nodeB, *]; try omega), fr _⟩

set_option maxHeartbeats 1000000 in
theorem isProper_2 (n : Int) (s : ByteArray) (a : Option Addr) (l cap : Nat) (w : World) :
    Calls Try.prog 86 #[.agg #[.int .i64 2, .int .i64 n, .string s, .slice a l cap]] w fun e w' => e = .returned (.bool (nodeB 2 n s l)) ∧ Below w.heap.size w w' := by
  have fr : ∀ o, Below w.heap.size w (w.alloc o) := fun o => (Below.refl _ _).alloc (Nat.le_refl _) _
  rcases zero_or n with rfl | ⟨hn, hn'⟩
  any_goals rcases (show (s.size : Int) ≤ 100 ∨ ¬ (s.size : Int) ≤ 100 by omega) with c2 | c2
  all_goals rcases (show (l : Int) = 0 ∨ ((l : Int) == 0) = false ∧ ¬ (l : Int) = 0 by by_cases h : (l : Int) = 0 <;> simp [h] <;> omega) with c4 | ⟨c4, c5⟩
  all_goals try (exfalso; omega)
  all_goals
    go_enter Try.func86, Try.ntmps86
    go_wp2_with (go_at_call 95; refine (isNumber_any _ _).mono ?_; rintro e w' ⟨rfl, rfl⟩)
    all_goals
      go_ret
      exact ⟨ret_bool (by rw [Bool.eq_iff_iff]; simp [nodeB, *]; try omega), fr _⟩

set_option maxHeartbeats 1000000 in
theorem isProper_3 (n : Int) (s : ByteArray) (a : Option Addr) (l cap : Nat) (w : World) :
    Calls Try.prog 86 #[.agg #[.int .i64 3, .int .i64 n, .string s, .slice a l cap]] w fun e w' => e = .returned (.bool (nodeB 3 n s l)) ∧ Below w.heap.size w w' := by
  have fr : ∀ o, Below w.heap.size w (w.alloc o) := fun o => (Below.refl _ _).alloc (Nat.le_refl _) _
  rcases zero_or n with rfl | ⟨hn, hn'⟩
  any_goals rcases (show (s.size : Int) ≤ 100 ∨ ¬ (s.size : Int) ≤ 100 by omega) with c2 | c2
  all_goals rcases (show (1 : Int) ≤ l ∨ ¬ (1 : Int) ≤ l by omega) with c4 | c4
  all_goals try (exfalso; omega)
  all_goals
    go_enter Try.func86, Try.ntmps86
    go_wp2_with (go_at_call 95; refine (isNumber_any _ _).mono ?_; rintro e w' ⟨rfl, rfl⟩)
    all_goals
      go_ret
      exact ⟨ret_bool (by rw [Bool.eq_iff_iff]; simp [nodeB, *]; try omega), fr _⟩

set_option maxHeartbeats 1000000 in
theorem isProper_4 (k n : Int) (s : ByteArray) (a : Option Addr) (l cap : Nat) (w : World) (h0 : ¬ k = 0) (h1 : ¬ k = 1) (h2 : ¬ k = 2) (h3 : ¬ k = 3) :
    Calls Try.prog 86 #[.agg #[.int .i64 k, .int .i64 n, .string s, .slice a l cap]] w fun e w' => e = .returned (.bool (nodeB k n s l)) ∧ Below w.heap.size w w' := by
  have fr : ∀ o, Below w.heap.size w (w.alloc o) := fun o => (Below.refl _ _).alloc (Nat.le_refl _) _
  rcases zero_or n with rfl | ⟨hn, hn'⟩
  any_goals rcases (show (s.size : Int) ≤ 100 ∨ ¬ (s.size : Int) ≤ 100 by omega) with c2 | c2
  all_goals try (exfalso; omega)
  all_goals
    go_enter Try.func86, Try.ntmps86
    go_wp2_with (go_at_call 95; refine (isNumber_any _ _).mono ?_; rintro e w' ⟨rfl, rfl⟩)
    all_goals
      go_ret
      exact ⟨ret_bool (by rw [Bool.eq_iff_iff]; simp [nodeB, *]; try omega), fr _⟩

theorem isProper_raw (k n : Int) (s : ByteArray) (a : Option Addr) (l cap : Nat) (w : World) :
    Calls Try.prog 86 #[.agg #[.int .i64 k, .int .i64 n, .string s, .slice a l cap]] w fun e w' => e = .returned (.bool (nodeB k n s l)) ∧ Below w.heap.size w w' := by
  by_cases h0 : k = 0
  · subst h0; exact isProper_0 n s a l cap w
  by_cases h1 : k = 1
  · subst h1; exact isProper_1 n s a l cap w
  by_cases h2 : k = 2
  · subst h2; exact isProper_2 n s a l cap w
  by_cases h3 : k = 3
  · subst h3; exact isProper_3 n s a l cap w
  exact isProper_4 k n s a l cap w h0 h1 h2 h3

end Go.Proofs.Yteilodihjhdngaa

/- The contracts of the program's Var, Int, atom, structure. -/
namespace Go.Proofs.Yteilodihjhdngaa
open Go.RowKit Go.Proofs.HT

/-- A term's value by its parts. -/
abbrev pv (k n : Int) (s : ByteArray) (v : Value) : Value := .agg #[.int .i64 k, .int .i64 n, .string s, v]
abbrev zv : Value := pv 0 0 ⟨#[]⟩ (.slice none 0 0)

set_option maxHeartbeats 1000000 in
theorem structure_any (s : ByteArray) (a : Option Addr) (l cap : Nat) (w : World) :
    Calls Try.prog 92 #[.string s, .slice a l cap] w fun e w' => e = .returned (pv 3 0 s (.slice a l cap)) ∧ Below w.heap.size w w' := by
  have fr : ∀ o, Below w.heap.size w (w.alloc o) := fun o => (Below.refl _ _).alloc (Nat.le_refl _) _
  go_enter Try.func92, Try.ntmps92
  go_wp2_with fail
  exact bodyPost_ret (v := pv 3 0 s (.slice a l cap)) (by simp [results, Try.results92, go_sem]) rfl ⟨rfl, fr _⟩

set_option maxHeartbeats 1000000 in
theorem atom_any (s : ByteArray) (w : World) :
    Calls Try.prog 96 #[.string s] w fun e w' => e = .returned (pv 2 0 s (.slice none 0 0)) ∧ Below w.heap.size w w' := by
  have fr : ∀ o, Below w.heap.size w (w.alloc o) := fun o => (Below.refl _ _).alloc (Nat.le_refl _) _
  go_enter Try.func96, Try.ntmps96
  go_wp2_with fail
  exact bodyPost_ret (v := pv 2 0 s (.slice none 0 0)) (by simp [results, Try.results96, go_sem]) rfl ⟨rfl, fr _⟩

set_option maxHeartbeats 1000000 in
theorem Int_any (n : Int) (w : World) :
    Calls Try.prog 64 #[.int .i64 n] w fun e w' => e = .returned (pv 1 n ⟨#[]⟩ (.slice none 0 0)) ∧ Below w.heap.size w w' := by
  have fr : ∀ o, Below w.heap.size w (w.alloc o) := fun o => (Below.refl _ _).alloc (Nat.le_refl _) _
  go_enter Try.func64, Try.ntmps64
  go_wp2_with fail
  exact bodyPost_ret (v := pv 1 n ⟨#[]⟩ (.slice none 0 0)) (by simp [results, Try.results64, go_sem]) rfl ⟨rfl, fr _⟩

set_option maxHeartbeats 1000000 in
theorem Var_yes (n : Int) (w : World) (h : numB n = true) :
    Calls Try.prog 88 #[.int .i64 n] w fun e w' => e = .returned (pv 0 n ⟨#[]⟩ (.slice none 0 0)) ∧ Below w.heap.size w w' := by
  have fr : ∀ o, Below w.heap.size w (w.alloc o) := fun o => (Below.refl _ _).alloc (Nat.le_refl _) _
  go_enter Try.func88, Try.ntmps88
  go_wp2_with (go_at_call 95; refine (isNumber_any _ _).mono ?_; rintro e w' ⟨rfl, rfl⟩)
  exact bodyPost_ret (v := pv 0 n ⟨#[]⟩ (.slice none 0 0)) (by simp [results, Try.results88, go_sem]) rfl ⟨rfl, fr _⟩

set_option maxHeartbeats 1000000 in
theorem Var_no (n : Int) (w : World) (h : numB n = false) :
    Calls Try.prog 88 #[.int .i64 n] w fun e w' => e = .returned zv ∧ Below w.heap.size w w' := by
  have fr : ∀ o, Below w.heap.size w (w.alloc o) := fun o => (Below.refl _ _).alloc (Nat.le_refl _) _
  go_enter Try.func88, Try.ntmps88
  go_wp2_with (go_at_call 95; refine (isNumber_any _ _).mono ?_; rintro e w' ⟨rfl, rfl⟩)
  exact bodyPost_ret (v := zv) (by simp [results, Try.results88, go_sem]) rfl ⟨rfl, fr _⟩

end Go.Proofs.Yteilodihjhdngaa

/- The walk over the nodes of a term with the visitor hornbeam/term.Size$1. -/
namespace Go.Proofs.Yteilodihjhdngaa
open Go.RowKit Go.Proofs.HT

set_option maxHeartbeats 2000000 in
theorem enter_size (V : List Tm → (Nat → Prop) → World → Prop) (hk : VisKeep V) (W : World) (b c d : Nat) (hbc : ¬ c = b) (hbd : ¬ d = b) (hB : W.heap.size ≤ b)
    (HS : Hid (∀ ns own t v w, ns.length < 2001 → V ns own w → LiesT W t v → Below W.heap.size W w → Calls Try.prog 93 #[tv t v] w (VisitEnd V W (ns ++ [t]) own w))) (t : Tm) :
    ∀ (v : Value) (m : Int) (ns : List Tm) (own : Nat → Prop) (w : World), LiesT W t v → 1 ≤ m → (ns.length : Int) + m ≤ 2001 → V ns own w → Below W.heap.size W w → ¬ own b → ¬ own c → ¬ own d → b < w.heap.size → c < w.heap.size → d < w.heap.size →
    w.heap[b]? = some (.cells #[.int .i64 m] 3 (0, 0)) → w.heap[c]? = some (.cells #[.func (.func 93) #[] #[]] 69 (0, 0)) →
    w.heap[d]? = some (.cells #[.func (.func 94) #[] #[.pointer (some ⟨b, 0, none⟩), .pointer (some ⟨c, 0, none⟩), .pointer (some ⟨d, 0, none⟩)]] 69 (0, 0)) →
    Calls Try.prog 94 #[tv t v, .pointer (some ⟨b, 0, none⟩), .pointer (some ⟨c, 0, none⟩), .pointer (some ⟨d, 0, none⟩)] w (EnterEnd V W b (m - cntM t m) (ns ++ (pre t).take m.toNat) own w) := by
  induction t using Tm.ind with
  | h k n s ts ih =>
    intro v m ns own w hv hm0 hm1 hV hb nb nc nd lb lc ld rb rc rd
    rcases hv.len with ⟨rfl, a, cap, rfl⟩ | ⟨lb2, lo, cap, rfl, hpos, hlc, hcap, hl⟩
    · have E0 : Hid ((ns ++ [Tm.mk k n s []]) = ns ++ (pre (.mk k n s [])).take m.toNat) := by
        show _ = _
        obtain ⟨q, hq⟩ : ∃ q, m.toNat = q + 1 := ⟨m.toNat - 1, by omega⟩
        rw [hq]; simp [pre, preL]
      have E1 : Hid (cntM (.mk k n s []) m = 1) := by show _ = _; simp [cntM, cnt, cntL, hm0]
      clear ih
      have HK := Lib.hid hk
      have HV := Lib.hid hv
      have VO := vis_open (x := .int .i64 (m - 1)) (o := .cells #[.int .i64 k, .int .i64 n, .string s, .slice a 0 cap] 24) HK.out hV hb hB nb
      have HVO := Lib.hid VO.1
      have HBO := Lib.hid VO.2
      have hs1 : ((w.setCell ⟨b, 0, none⟩ (.int .i64 (m - 1))).alloc (.cells #[.int .i64 k, .int .i64 n, .string s, .slice a 0 cap] 24)).heap.size = w.heap.size + 1 := by simp [World.setCell]
      have g0 : ((w.setCell ⟨b, 0, none⟩ (.int .i64 (m - 1))).alloc (.cells #[.int .i64 k, .int .i64 n, .string s, .slice a 0 cap] 24)).heap[w.heap.size]? = some (.cells #[.int .i64 k, .int .i64 n, .string s, .slice a 0 cap] 24 (0, 0)) := by
        have h := heap_alloc_new (w.setCell ⟨b, 0, none⟩ (.int .i64 (m - 1))) (.cells #[.int .i64 k, .int .i64 n, .string s, .slice a 0 cap] 24)
        simpa [World.setCell] using h
      have g1 : ((w.setCell ⟨b, 0, none⟩ (.int .i64 (m - 1))).alloc (.cells #[.int .i64 k, .int .i64 n, .string s, .slice a 0 cap] 24)).heap[b]? = some (.cells #[.int .i64 (m - 1)] 3 (0, 0)) := by
        rw [Below.heap_alloc _ _ _ (by simpa [World.setCell] using lb)]
        have h := heap_setCell_same w b 0 _ _ (.int .i64 (m - 1)) rb
        simpa using h
      have g2 : ∀ g, g < w.heap.size → ¬ g = b → ((w.setCell ⟨b, 0, none⟩ (.int .i64 (m - 1))).alloc (.cells #[.int .i64 k, .int .i64 n, .string s, .slice a 0 cap] 24)).heap[g]? = w.heap[g]? := fun g hg hn => by
        rw [Below.heap_alloc _ _ _ (by simpa [World.setCell] using hg), Below.heap_setCell _ _ _ _ hn]
      have G0 := Lib.hid g0
      have G1 := Lib.hid g1
      have G2 := Lib.hid g2
      have HS1 := Lib.hid hs1
      have LT := Lib.hid (fun g hg => HK.out.lt ns own w g hV hg)
      have qb : w.cell? ⟨b, 0, none⟩ = some (.int .i64 m) := by rw [cell_of_row _ _ _ _ _ _ rb]; rfl
      have qbf := frozen_of_row _ _ 0 _ _ rb
      have qc : w.cell? ⟨c, 0, none⟩ = some (.func (.func 93) #[] #[]) := by rw [cell_of_row _ _ _ _ _ _ rc]; rfl
      have RC := Lib.hid rc
      have RD := Lib.hid rd
      have LB := Lib.hid lb
      clear VO g0 g1 g2 hs1 hv hV hb rb rc rd hk
      simp only [tv, Tm.kind, Tm.num, Tm.name]
      go_enter Try.func94, Try.ntmps94
      go_wp2_with (go_at_call 93; refine (HS.out ns own (.mk k n s []) (.slice a 0 cap) _ (by omega) HVO.out HV.out HBO.out).mono ?_; rintro e w2 ⟨rfl, own2, hV2, ho2, hz2, hf2, hb2⟩; have z2 : w.heap.size + 1 ≤ w2.heap.size := (by have := HS1.out; omega); have K0 := Lib.hid ((hf2 w.heap.size (by have := HS1.out; omega) (fun h => by have := LT.out _ h; omega)).trans G0.out); have K1 := Lib.hid ((hf2 b (by have := HS1.out; omega) nb).trans G1.out); have KC := Lib.hid ((hf2 c (by have := HS1.out; omega) nc).trans ((G2.out c lc hbc).trans RC.out)); have KD := Lib.hid ((hf2 d (by have := HS1.out; omega) nd).trans ((G2.out d ld hbd).trans RD.out)); have KF : Hid (∀ g, g < w.heap.size → g ≠ b → ¬ own g → w2.heap[g]? = w.heap[g]?) := fun g hg hn ho => (hf2 g (by have := HS1.out; omega) ho).trans (G2.out g hg hn); have KO : Hid (∀ g, own2 g → own g ∨ w.heap.size ≤ g) := fun g hg => (ho2 g hg).imp id (fun h => by have := HS1.out; omega); have KV := Lib.hid hV2; have KB := Lib.hid hb2; have p3 : w2.cell? ⟨w.heap.size, 3, none⟩ = some (.slice a 0 cap) := (by rw [cell_of_row _ _ _ _ _ _ K0.out]; rfl); clear hV2 ho2 hz2 hf2 hb2)
      refine wp_loop_rounds 1 ?_
      rw [rounds_succ]
      go_wp2_with fail
      go_end0
      exact ⟨rfl, own2, by rw [← E0.out]; exact KV.out, KO.out, by omega, KF.out, by rw [E1.out]; exact K1.out, KB.out⟩
    · have HI : Hid (∀ (i : Nat) (hi : i < ts.length) (v : Value) (m : Int) (ns : List Tm) (own : Nat → Prop) (w : World), LiesT W ts[i] v → 1 ≤ m → (ns.length : Int) + m ≤ 2001 → V ns own w → Below W.heap.size W w → ¬ own b → ¬ own c → ¬ own d → b < w.heap.size → c < w.heap.size → d < w.heap.size →
    w.heap[b]? = some (.cells #[.int .i64 m] 3 (0, 0)) → w.heap[c]? = some (.cells #[.func (.func 93) #[] #[]] 69 (0, 0)) →
    w.heap[d]? = some (.cells #[.func (.func 94) #[] #[.pointer (some ⟨b, 0, none⟩), .pointer (some ⟨c, 0, none⟩), .pointer (some ⟨d, 0, none⟩)]] 69 (0, 0)) →
    Calls Try.prog 94 #[tv ts[i] v, .pointer (some ⟨b, 0, none⟩), .pointer (some ⟨c, 0, none⟩), .pointer (some ⟨d, 0, none⟩)] w (EnterEnd V W b (m - cntM ts[i] m) (ns ++ (pre ts[i]).take m.toNat) own w)) := fun i hi => ih _ (List.getElem_mem hi)
      have HL := Lib.hid hl
      have HLEN := Lib.hid hpos
      have VL := Lib.hid (fun j => vsd_len k n s ts m j hm0)
      have SZ := Lib.hid (vsd_zero (Tm.mk k n s ts) m hm0)
      have SS := Lib.hid (fun j hj => vsd_step k n s ts m j hj)
      have SA := Lib.hid (vsd_all k n s ts m)
      have SF := Lib.hid (fun j => vsd_full k n s ts m j)
      have CZ := Lib.hid (cntP_zero ts m hm0)
      have CB := Lib.hid (fun j => cntP_bd ts m hm0 j)
      have CS := Lib.hid (fun j hj => cntP_step ts m j hj)
      have CA := Lib.hid (cntP_all k n s ts m)
      have CF := Lib.hid (fun j => cntP_full k n s ts m j)
      clear hl ih
      have HK := Lib.hid hk
      have HV := Lib.hid hv
      have VO := vis_open (x := .int .i64 (m - 1)) (o := .cells #[.int .i64 k, .int .i64 n, .string s, .slice (some ⟨lb2, lo, none⟩) ts.length cap] 24) HK.out hV hb hB nb
      have HVO := Lib.hid VO.1
      have HBO := Lib.hid VO.2
      have hs1 : ((w.setCell ⟨b, 0, none⟩ (.int .i64 (m - 1))).alloc (.cells #[.int .i64 k, .int .i64 n, .string s, .slice (some ⟨lb2, lo, none⟩) ts.length cap] 24)).heap.size = w.heap.size + 1 := by simp [World.setCell]
      have g0 : ((w.setCell ⟨b, 0, none⟩ (.int .i64 (m - 1))).alloc (.cells #[.int .i64 k, .int .i64 n, .string s, .slice (some ⟨lb2, lo, none⟩) ts.length cap] 24)).heap[w.heap.size]? = some (.cells #[.int .i64 k, .int .i64 n, .string s, .slice (some ⟨lb2, lo, none⟩) ts.length cap] 24 (0, 0)) := by
        have h := heap_alloc_new (w.setCell ⟨b, 0, none⟩ (.int .i64 (m - 1))) (.cells #[.int .i64 k, .int .i64 n, .string s, .slice (some ⟨lb2, lo, none⟩) ts.length cap] 24)
        simpa [World.setCell] using h
      have g1 : ((w.setCell ⟨b, 0, none⟩ (.int .i64 (m - 1))).alloc (.cells #[.int .i64 k, .int .i64 n, .string s, .slice (some ⟨lb2, lo, none⟩) ts.length cap] 24)).heap[b]? = some (.cells #[.int .i64 (m - 1)] 3 (0, 0)) := by
        rw [Below.heap_alloc _ _ _ (by simpa [World.setCell] using lb)]
        have h := heap_setCell_same w b 0 _ _ (.int .i64 (m - 1)) rb
        simpa using h
      have g2 : ∀ g, g < w.heap.size → ¬ g = b → ((w.setCell ⟨b, 0, none⟩ (.int .i64 (m - 1))).alloc (.cells #[.int .i64 k, .int .i64 n, .string s, .slice (some ⟨lb2, lo, none⟩) ts.length cap] 24)).heap[g]? = w.heap[g]? := fun g hg hn => by
        rw [Below.heap_alloc _ _ _ (by simpa [World.setCell] using hg), Below.heap_setCell _ _ _ _ hn]
      have G0 := Lib.hid g0
      have G1 := Lib.hid g1
      have G2 := Lib.hid g2
      have HS1 := Lib.hid hs1
      have LT := Lib.hid (fun g hg => HK.out.lt ns own w g hV hg)
      have qb : w.cell? ⟨b, 0, none⟩ = some (.int .i64 m) := by rw [cell_of_row _ _ _ _ _ _ rb]; rfl
      have qbf := frozen_of_row _ _ 0 _ _ rb
      have qc : w.cell? ⟨c, 0, none⟩ = some (.func (.func 93) #[] #[]) := by rw [cell_of_row _ _ _ _ _ _ rc]; rfl
      have RC := Lib.hid rc
      have RD := Lib.hid rd
      have LB := Lib.hid lb
      clear VO g0 g1 g2 hs1 hv hV hb rb rc rd hk
      simp only [tv, Tm.kind, Tm.num, Tm.name]
      go_enter Try.func94, Try.ntmps94
      go_wp2_with (go_at_call 93; refine (HS.out ns own (.mk k n s ts) (.slice (some ⟨lb2, lo, none⟩) ts.length cap) _ (by omega) HVO.out HV.out HBO.out).mono ?_; rintro e w2 ⟨rfl, own2, hV2, ho2, hz2, hf2, hb2⟩; have z2 : w.heap.size + 1 ≤ w2.heap.size := (by have := HS1.out; omega); have K0 := Lib.hid ((hf2 w.heap.size (by have := HS1.out; omega) (fun h => by have := LT.out _ h; omega)).trans G0.out); have K1 := Lib.hid ((hf2 b (by have := HS1.out; omega) nb).trans G1.out); have KC := Lib.hid ((hf2 c (by have := HS1.out; omega) nc).trans ((G2.out c lc hbc).trans RC.out)); have KD := Lib.hid ((hf2 d (by have := HS1.out; omega) nd).trans ((G2.out d ld hbd).trans RD.out)); have KF : Hid (∀ g, g < w.heap.size → g ≠ b → ¬ own g → w2.heap[g]? = w.heap[g]?) := fun g hg hn ho => (hf2 g (by have := HS1.out; omega) ho).trans (G2.out g hg hn); have KO : Hid (∀ g, own2 g → own g ∨ w.heap.size ≤ g) := fun g hg => (ho2 g hg).imp id (fun h => by have := HS1.out; omega); have KV := Lib.hid hV2; have KB := Lib.hid hb2; have p3 : w2.cell? ⟨w.heap.size, 3, none⟩ = some (.slice (some ⟨lb2, lo, none⟩) ts.length cap) := (by rw [cell_of_row _ _ _ _ _ _ K0.out]; rfl); clear hV2 ho2 hz2 hf2 hb2)
      go_loopw [15] (fun i wr => ∃ (j : Nat) (q : Int) (ownr : Nat → Prop), j ≤ ts.length ∧ i = .int .i64 j ∧ Hid (q = m - cntP ts m j) ∧ 0 ≤ q ∧ q ≤ 2001 ∧ Hid (V (ns ++ vsd (Tm.mk k n s ts) m j) ownr wr) ∧ Hid (∀ g, ownr g → own g ∨ w.heap.size ≤ g) ∧
        Hid (w.heap.size + 1 ≤ wr.heap.size) ∧ Hid (∀ g, g < w.heap.size → g ≠ b → ¬ own g → wr.heap[g]? = w.heap[g]?) ∧ Hid (wr.heap[b]? = some (.cells #[.int .i64 q] 3 (0, 0))) ∧ Hid (wr.heap[d]? = w.heap[d]?) ∧ Hid (wr.heap[c]? = w.heap[c]?) ∧ Hid (Below W.heap.size W wr)) (fun i _ => ts.length - (intOf i).toNat)
      case atStart =>
        refine ⟨0, m - 1, own2, by omega, rfl, Lib.hid (by rw [CZ.out]), by omega, by omega, Lib.hid (by rw [SZ.out]; exact KV.out), KO, Lib.hid z2, KF, K1, Lib.hid (KD.out.trans RD.out.symm), Lib.hid (KC.out.trans RC.out.symm), KB⟩
      case round =>
        obtain ⟨j, q, ownr, hj, rfl, hq, q0, q1, rV, rO, rz, rF, rb, rd, rc, rB⟩ := hrel
        have qb2 : wr.cell? ⟨b, 0, none⟩ = some (.int .i64 q) := by rw [cell_of_row _ _ _ _ _ _ rb.out]; rfl
        have qd2 : wr.cell? ⟨d, 0, none⟩ = some (.func (.func 94) #[] #[.pointer (some ⟨b, 0, none⟩), .pointer (some ⟨c, 0, none⟩), .pointer (some ⟨d, 0, none⟩)]) := by rw [cell_of_row _ _ _ _ _ _ (rd.out.trans RD.out)]; rfl
        have hbz : b < wr.heap.size := by have := rz.out; omega
        have hdz : d < wr.heap.size := by have := rz.out; omega
        by_cases hlt : j < ts.length
        · obtain ⟨u, c0, c1, c2, c3, hu⟩ := HL.out.at j hlt
          obtain ⟨ua, uc, rfl⟩ := hu.slice
          have d0 := cell_below rB.out _ _ c0
          have d1 := cell_below rB.out _ _ c1
          have d2 := cell_below rB.out _ _ c2
          have d3 := cell_below rB.out _ _ c3
          have HU := Lib.hid hu
          clear hu c0 c1 c2 c3
          by_cases hz : q = 0
          · have E0 : Hid (cntP ts m j = m) := by show _ = _; have := hq.out; omega
            subst hz
            have hzb : (0 == 0) = true := rfl
            go_wp2_with fail
            refine bodyPost_ret (results_none rfl _ _ _) rfl ?_
            refine ⟨rfl, ownr, ?_, rO.out, ?_, ?_, ?_, rB.out.alloc rB.out.size _⟩
            · rw [← SF.out j E0.out]
              exact HK.out.keep _ _ _ _ rV.out (fun g hg => Below.heap_alloc _ _ _ (HK.out.lt _ _ _ _ rV.out hg)) (by simp)
            · have := rz.out; simp; omega
            · intro g hg hn ho
              rw [Below.heap_alloc _ _ _ (by have := rz.out; omega)]; exact rF.out g hg hn ho
            · have e : m - cntM (.mk k n s ts) m = 0 := by have := CF.out j E0.out; omega
              rw [Below.heap_alloc _ _ _ hbz, rb.out, e]
          · have hz1 : (q == 0) = false := by simpa using hz
            have NB : Hid (¬ ownr b) := fun h => (rO.out _ h).elim nb (fun h => by omega)
            have NC : Hid (¬ ownr c) := fun h => (rO.out _ h).elim nc (fun h => by omega)
            have ND : Hid (¬ ownr d) := fun h => (rO.out _ h).elim nd (fun h => by omega)
            have HVA : Hid (∀ O, V (ns ++ vsd (Tm.mk k n s ts) m j) ownr (wr.alloc O)) := fun O => HK.out.keep _ _ _ _ rV.out (fun g hg => Below.heap_alloc _ _ _ (HK.out.lt _ _ _ _ rV.out hg)) (by simp)
            have HBA : Hid (∀ O, Below W.heap.size W (wr.alloc O)) := fun O => rB.out.alloc rB.out.size O
            have HSZ : Hid (∀ O, (wr.alloc O).heap.size = wr.heap.size + 1) := fun O => by simp
            have HKP : Hid (∀ O g, g < wr.heap.size → (wr.alloc O).heap[g]? = wr.heap[g]?) := fun O g h => Below.heap_alloc _ _ _ h
            have BM := Lib.hid (cntM_bd ts[j] q (by omega))
            go_wp2_with (go_at_call 94; refine (HI.out j hlt _ q (ns ++ vsd (Tm.mk k n s ts) m j) ownr _ HU.out (by omega) (by have h := VL.out j; have h2 := hq.out; simp only [List.length_append]; omega) (HVA.out _) (HBA.out _) NB.out NC.out ND.out (by have := HSZ.out (.cells #[] 3); simp; omega) (by have := rz.out; simp; omega) (by have := rz.out; simp; omega) ((HKP.out _ b hbz).trans rb.out) ((HKP.out _ c (by have := rz.out; omega)).trans (rc.out.trans RC.out)) ((HKP.out _ d hdz).trans (rd.out.trans RD.out))).mono ?_; rintro e w3 ⟨rfl, own3, hV3, ho3, hz3, hf3, hb3, hB3⟩; have XV := Lib.hid hV3; have XO := Lib.hid ho3; have XZ := Lib.hid hz3; have XF := Lib.hid hf3; have XB := Lib.hid hb3; have XW := Lib.hid hB3; clear hV3 ho3 hz3 hf3 hb3 hB3)
            go_roundw
            case rel =>
              have hc1 := CS.out j hlt (by have := hq.out; omega)
              rw [← hq.out] at hc1
              have hz4 : wr.heap.size + 1 ≤ w3.heap.size := by have := XZ.out; simp at this; omega
              have rz1 := rz.out
              have bm := BM.out
              have hq1 := hq.out
              have keepB : ∀ g, g < w.heap.size → g ≠ b → ¬ own g → w3.heap[g]? = wr.heap[g]? := fun g hg hn ho => (XF.out g (by simp; omega) hn (fun h => (rO.out _ h).elim ho (fun h => by omega))).trans (HKP.out _ g (by omega))
              refine ⟨j + 1, q - cntM ts[j] q, own3, by omega, by go_num, Lib.hid (by omega), by omega, by omega, Lib.hid ?_, Lib.hid ?_, Lib.hid (by omega), Lib.hid ?_, XB, Lib.hid ?_, Lib.hid ?_, XW⟩
              · have h := XV.out
                have h2 := SS.out j hlt (by omega)
                rw [← hq1] at h2
                rw [List.append_assoc, h2] at h
                exact h
              · intro g hg
                rcases XO.out g hg with h | h
                · exact rO.out g h
                · right; simp at h; omega
              · intro g hg hn ho
                exact (keepB g hg hn ho).trans (rF.out g hg hn ho)
              · exact (keepB d ld hbd nd).trans rd.out
              · exact (keepB c lc hbc nc).trans rc.out
            case measure => simp [intOf]; omega
        · have e : j = ts.length := by omega
          subst e
          go_wp2_with fail
          go_end0
          refine ⟨rfl, ownr, by rw [← SA.out]; exact rV.out, rO.out, by have := rz.out; omega, rF.out, ?_, rB.out⟩
          rw [rb.out, hq.out, CA.out]

set_option maxHeartbeats 2000000 in
theorem walk_size (V : List Tm → (Nat → Prop) → World → Prop) (hk : VisKeep V) (W : World) 
    (HS : Hid (∀ ns own t v w, ns.length < 2001 → V ns own w → LiesT W t v → Below W.heap.size W w → Calls Try.prog 93 #[tv t v] w (VisitEnd V W (ns ++ [t]) own w))) (t : Tm)
    (v : Value) (own : Nat → Prop) (w : World) (hv : LiesT W t v) (hV : V [] own w) (hb : Below W.heap.size W w) :
    Calls Try.prog 84 #[tv t v, .func (.func 93) #[] #[]] w (WalkEnd V W t own w) := by
  have hz := hb.size
  have LT := Lib.hid (fun g hg => hk.lt _ own w g hV hg)
  have V4 : Hid (∀ o1 o2 o3 o4, V [] own ((((w.alloc o1).alloc o2).alloc o3).alloc o4)) := fun o1 o2 o3 o4 => hk.keep _ _ _ _ hV (fun g hg => (rows4 w o1 o2 o3 o4).2.2.2.2.2 g (LT.out g hg)) (by have := (rows4 w o1 o2 o3 o4).2.2.2.2.1; omega)
  have B4 : Hid (∀ o1 o2 o3 o4, Below W.heap.size W ((((w.alloc o1).alloc o2).alloc o3).alloc o4)) := fun o1 o2 o3 o4 => (((hb.alloc hz _).alloc (by simp; omega) _).alloc (by simp; omega) _).alloc (by simp; omega) _
  have R4 := Lib.hid (rows4 w)
  have HV := Lib.hid hv
  have HK := Lib.hid hk
  have HN : Hid (∀ g, w.heap.size ≤ g → ¬ own g) := fun g hg ho => by have := LT.out g ho; omega
  clear hV hb hv hk
  simp only [tv]
  go_enter Try.func84, Try.ntmps84
  go_wp2_with (go_at_call 94; refine (enter_size V HK.out W (w.heap.size + 1 + 1) (w.heap.size + 1) (w.heap.size + 1 + 1 + 1) (by omega) (by omega) (by omega) HS t v 2001 [] own _ HV.out (by omega) (by simp) (V4.out _ _ _ _) (B4.out _ _ _ _) (HN.out _ (by omega)) (HN.out _ (by omega)) (HN.out _ (by omega)) (by have := (R4.out (.cells #[] 3) (.cells #[] 3) (.cells #[] 3) (.cells #[] 3)).2.2.2.2.1; simp <;> omega) (by simp <;> omega) (by simp <;> omega) (R4.out _ _ _ _).2.2.1 (R4.out _ _ _ _).2.1 (R4.out _ _ _ _).2.2.2.1).mono ?_; rintro e w3 ⟨rfl, own3, hV3, ho3, hz3, hf3, hb3, hB3⟩; have XV := Lib.hid hV3; have XO := Lib.hid ho3; have XZ := Lib.hid hz3; have XF := Lib.hid hf3; have XW := Lib.hid hB3; have q0 : w3.cell? ⟨w.heap.size + 1 + 1, 0, none⟩ = some (.int .i64 (2001 - cntM t 2001)) := (by rw [cell_of_row _ _ _ _ _ _ hb3]; rfl); have bm := cntM_bd t 2001 (by omega); clear hV3 ho3 hz3 hf3 hb3 hB3)
  go_ret
  have hz4 := XZ.out
  rw [(R4.out _ _ _ _).2.2.2.2.1] at hz4
  refine ⟨ret_int (by omega), own3, XV.out, fun g hg => (XO.out g hg).imp id (fun h => by rw [(R4.out _ _ _ _).2.2.2.2.1] at h; omega), by omega, fun g hg ho => (XF.out g (by rw [(R4.out _ _ _ _).2.2.2.2.1]; omega) (by omega) ho).trans ((R4.out _ _ _ _).2.2.2.2.2 g hg), XW.out⟩

end Go.Proofs.Yteilodihjhdngaa

/- The walk over the nodes of a term with the visitor hornbeam/term.Valid$1. -/
namespace Go.Proofs.Yteilodihjhdngaa
open Go.RowKit Go.Proofs.HT

set_option maxHeartbeats 2000000 in
theorem enter_valid (V : List Tm → (Nat → Prop) → World → Prop) (hk : VisKeep V) (W : World) (P0 : Value) (b c d : Nat) (hbc : ¬ c = b) (hbd : ¬ d = b) (hB : W.heap.size ≤ b)
    (HS : Hid (∀ ns own t v w, ns.length < 2001 → V ns own w → LiesT W t v → Below W.heap.size W w → Calls Try.prog 85 #[tv t v, P0] w (VisitEnd V W (ns ++ [t]) own w))) (t : Tm) :
    ∀ (v : Value) (m : Int) (ns : List Tm) (own : Nat → Prop) (w : World), LiesT W t v → 1 ≤ m → (ns.length : Int) + m ≤ 2001 → V ns own w → Below W.heap.size W w → ¬ own b → ¬ own c → ¬ own d → b < w.heap.size → c < w.heap.size → d < w.heap.size →
    w.heap[b]? = some (.cells #[.int .i64 m] 3 (0, 0)) → w.heap[c]? = some (.cells #[.func (.func 85) #[] #[P0]] 69 (0, 0)) →
    w.heap[d]? = some (.cells #[.func (.func 94) #[] #[.pointer (some ⟨b, 0, none⟩), .pointer (some ⟨c, 0, none⟩), .pointer (some ⟨d, 0, none⟩)]] 69 (0, 0)) →
    Calls Try.prog 94 #[tv t v, .pointer (some ⟨b, 0, none⟩), .pointer (some ⟨c, 0, none⟩), .pointer (some ⟨d, 0, none⟩)] w (EnterEnd V W b (m - cntM t m) (ns ++ (pre t).take m.toNat) own w) := by
  induction t using Tm.ind with
  | h k n s ts ih =>
    intro v m ns own w hv hm0 hm1 hV hb nb nc nd lb lc ld rb rc rd
    rcases hv.len with ⟨rfl, a, cap, rfl⟩ | ⟨lb2, lo, cap, rfl, hpos, hlc, hcap, hl⟩
    · have E0 : Hid ((ns ++ [Tm.mk k n s []]) = ns ++ (pre (.mk k n s [])).take m.toNat) := by
        show _ = _
        obtain ⟨q, hq⟩ : ∃ q, m.toNat = q + 1 := ⟨m.toNat - 1, by omega⟩
        rw [hq]; simp [pre, preL]
      have E1 : Hid (cntM (.mk k n s []) m = 1) := by show _ = _; simp [cntM, cnt, cntL, hm0]
      clear ih
      have HK := Lib.hid hk
      have HV := Lib.hid hv
      have VO := vis_open (x := .int .i64 (m - 1)) (o := .cells #[.int .i64 k, .int .i64 n, .string s, .slice a 0 cap] 24) HK.out hV hb hB nb
      have HVO := Lib.hid VO.1
      have HBO := Lib.hid VO.2
      have hs1 : ((w.setCell ⟨b, 0, none⟩ (.int .i64 (m - 1))).alloc (.cells #[.int .i64 k, .int .i64 n, .string s, .slice a 0 cap] 24)).heap.size = w.heap.size + 1 := by simp [World.setCell]
      have g0 : ((w.setCell ⟨b, 0, none⟩ (.int .i64 (m - 1))).alloc (.cells #[.int .i64 k, .int .i64 n, .string s, .slice a 0 cap] 24)).heap[w.heap.size]? = some (.cells #[.int .i64 k, .int .i64 n, .string s, .slice a 0 cap] 24 (0, 0)) := by
        have h := heap_alloc_new (w.setCell ⟨b, 0, none⟩ (.int .i64 (m - 1))) (.cells #[.int .i64 k, .int .i64 n, .string s, .slice a 0 cap] 24)
        simpa [World.setCell] using h
      have g1 : ((w.setCell ⟨b, 0, none⟩ (.int .i64 (m - 1))).alloc (.cells #[.int .i64 k, .int .i64 n, .string s, .slice a 0 cap] 24)).heap[b]? = some (.cells #[.int .i64 (m - 1)] 3 (0, 0)) := by
        rw [Below.heap_alloc _ _ _ (by simpa [World.setCell] using lb)]
        have h := heap_setCell_same w b 0 _ _ (.int .i64 (m - 1)) rb
        simpa using h
      have g2 : ∀ g, g < w.heap.size → ¬ g = b → ((w.setCell ⟨b, 0, none⟩ (.int .i64 (m - 1))).alloc (.cells #[.int .i64 k, .int .i64 n, .string s, .slice a 0 cap] 24)).heap[g]? = w.heap[g]? := fun g hg hn => by
        rw [Below.heap_alloc _ _ _ (by simpa [World.setCell] using hg), Below.heap_setCell _ _ _ _ hn]
      have G0 := Lib.hid g0
      have G1 := Lib.hid g1
      have G2 := Lib.hid g2
      have HS1 := Lib.hid hs1
      have LT := Lib.hid (fun g hg => HK.out.lt ns own w g hV hg)
      have qb : w.cell? ⟨b, 0, none⟩ = some (.int .i64 m) := by rw [cell_of_row _ _ _ _ _ _ rb]; rfl
      have qbf := frozen_of_row _ _ 0 _ _ rb
      have qc : w.cell? ⟨c, 0, none⟩ = some (.func (.func 85) #[] #[P0]) := by rw [cell_of_row _ _ _ _ _ _ rc]; rfl
      have RC := Lib.hid rc
      have RD := Lib.hid rd
      have LB := Lib.hid lb
      clear VO g0 g1 g2 hs1 hv hV hb rb rc rd hk
      simp only [tv, Tm.kind, Tm.num, Tm.name]
      go_enter Try.func94, Try.ntmps94
      go_wp2_with (go_at_call 85; refine (HS.out ns own (.mk k n s []) (.slice a 0 cap) _ (by omega) HVO.out HV.out HBO.out).mono ?_; rintro e w2 ⟨rfl, own2, hV2, ho2, hz2, hf2, hb2⟩; have z2 : w.heap.size + 1 ≤ w2.heap.size := (by have := HS1.out; omega); have K0 := Lib.hid ((hf2 w.heap.size (by have := HS1.out; omega) (fun h => by have := LT.out _ h; omega)).trans G0.out); have K1 := Lib.hid ((hf2 b (by have := HS1.out; omega) nb).trans G1.out); have KC := Lib.hid ((hf2 c (by have := HS1.out; omega) nc).trans ((G2.out c lc hbc).trans RC.out)); have KD := Lib.hid ((hf2 d (by have := HS1.out; omega) nd).trans ((G2.out d ld hbd).trans RD.out)); have KF : Hid (∀ g, g < w.heap.size → g ≠ b → ¬ own g → w2.heap[g]? = w.heap[g]?) := fun g hg hn ho => (hf2 g (by have := HS1.out; omega) ho).trans (G2.out g hg hn); have KO : Hid (∀ g, own2 g → own g ∨ w.heap.size ≤ g) := fun g hg => (ho2 g hg).imp id (fun h => by have := HS1.out; omega); have KV := Lib.hid hV2; have KB := Lib.hid hb2; have p3 : w2.cell? ⟨w.heap.size, 3, none⟩ = some (.slice a 0 cap) := (by rw [cell_of_row _ _ _ _ _ _ K0.out]; rfl); clear hV2 ho2 hz2 hf2 hb2)
      refine wp_loop_rounds 1 ?_
      rw [rounds_succ]
      go_wp2_with fail
      go_end0
      exact ⟨rfl, own2, by rw [← E0.out]; exact KV.out, KO.out, by omega, KF.out, by rw [E1.out]; exact K1.out, KB.out⟩
    · have HI : Hid (∀ (i : Nat) (hi : i < ts.length) (v : Value) (m : Int) (ns : List Tm) (own : Nat → Prop) (w : World), LiesT W ts[i] v → 1 ≤ m → (ns.length : Int) + m ≤ 2001 → V ns own w → Below W.heap.size W w → ¬ own b → ¬ own c → ¬ own d → b < w.heap.size → c < w.heap.size → d < w.heap.size →
    w.heap[b]? = some (.cells #[.int .i64 m] 3 (0, 0)) → w.heap[c]? = some (.cells #[.func (.func 85) #[] #[P0]] 69 (0, 0)) →
    w.heap[d]? = some (.cells #[.func (.func 94) #[] #[.pointer (some ⟨b, 0, none⟩), .pointer (some ⟨c, 0, none⟩), .pointer (some ⟨d, 0, none⟩)]] 69 (0, 0)) →
    Calls Try.prog 94 #[tv ts[i] v, .pointer (some ⟨b, 0, none⟩), .pointer (some ⟨c, 0, none⟩), .pointer (some ⟨d, 0, none⟩)] w (EnterEnd V W b (m - cntM ts[i] m) (ns ++ (pre ts[i]).take m.toNat) own w)) := fun i hi => ih _ (List.getElem_mem hi)
      have HL := Lib.hid hl
      have HLEN := Lib.hid hpos
      have VL := Lib.hid (fun j => vsd_len k n s ts m j hm0)
      have SZ := Lib.hid (vsd_zero (Tm.mk k n s ts) m hm0)
      have SS := Lib.hid (fun j hj => vsd_step k n s ts m j hj)
      have SA := Lib.hid (vsd_all k n s ts m)
      have SF := Lib.hid (fun j => vsd_full k n s ts m j)
      have CZ := Lib.hid (cntP_zero ts m hm0)
      have CB := Lib.hid (fun j => cntP_bd ts m hm0 j)
      have CS := Lib.hid (fun j hj => cntP_step ts m j hj)
      have CA := Lib.hid (cntP_all k n s ts m)
      have CF := Lib.hid (fun j => cntP_full k n s ts m j)
      clear hl ih
      have HK := Lib.hid hk
      have HV := Lib.hid hv
      have VO := vis_open (x := .int .i64 (m - 1)) (o := .cells #[.int .i64 k, .int .i64 n, .string s, .slice (some ⟨lb2, lo, none⟩) ts.length cap] 24) HK.out hV hb hB nb
      have HVO := Lib.hid VO.1
      have HBO := Lib.hid VO.2
      have hs1 : ((w.setCell ⟨b, 0, none⟩ (.int .i64 (m - 1))).alloc (.cells #[.int .i64 k, .int .i64 n, .string s, .slice (some ⟨lb2, lo, none⟩) ts.length cap] 24)).heap.size = w.heap.size + 1 := by simp [World.setCell]
      have g0 : ((w.setCell ⟨b, 0, none⟩ (.int .i64 (m - 1))).alloc (.cells #[.int .i64 k, .int .i64 n, .string s, .slice (some ⟨lb2, lo, none⟩) ts.length cap] 24)).heap[w.heap.size]? = some (.cells #[.int .i64 k, .int .i64 n, .string s, .slice (some ⟨lb2, lo, none⟩) ts.length cap] 24 (0, 0)) := by
        have h := heap_alloc_new (w.setCell ⟨b, 0, none⟩ (.int .i64 (m - 1))) (.cells #[.int .i64 k, .int .i64 n, .string s, .slice (some ⟨lb2, lo, none⟩) ts.length cap] 24)
        simpa [World.setCell] using h
      have g1 : ((w.setCell ⟨b, 0, none⟩ (.int .i64 (m - 1))).alloc (.cells #[.int .i64 k, .int .i64 n, .string s, .slice (some ⟨lb2, lo, none⟩) ts.length cap] 24)).heap[b]? = some (.cells #[.int .i64 (m - 1)] 3 (0, 0)) := by
        rw [Below.heap_alloc _ _ _ (by simpa [World.setCell] using lb)]
        have h := heap_setCell_same w b 0 _ _ (.int .i64 (m - 1)) rb
        simpa using h
      have g2 : ∀ g, g < w.heap.size → ¬ g = b → ((w.setCell ⟨b, 0, none⟩ (.int .i64 (m - 1))).alloc (.cells #[.int .i64 k, .int .i64 n, .string s, .slice (some ⟨lb2, lo, none⟩) ts.length cap] 24)).heap[g]? = w.heap[g]? := fun g hg hn => by
        rw [Below.heap_alloc _ _ _ (by simpa [World.setCell] using hg), Below.heap_setCell _ _ _ _ hn]
      have G0 := Lib.hid g0
      have G1 := Lib.hid g1
      have G2 := Lib.hid g2
      have HS1 := Lib.hid hs1
      have LT := Lib.hid (fun g hg => HK.out.lt ns own w g hV hg)
      have qb : w.cell? ⟨b, 0, none⟩ = some (.int .i64 m) := by rw [cell_of_row _ _ _ _ _ _ rb]; rfl
      have qbf := frozen_of_row _ _ 0 _ _ rb
      have qc : w.cell? ⟨c, 0, none⟩ = some (.func (.func 85) #[] #[P0]) := by rw [cell_of_row _ _ _ _ _ _ rc]; rfl
      have RC := Lib.hid rc
      have RD := Lib.hid rd
      have LB := Lib.hid lb
      clear VO g0 g1 g2 hs1 hv hV hb rb rc rd hk
      simp only [tv, Tm.kind, Tm.num, Tm.name]
      go_enter Try.func94, Try.ntmps94
      go_wp2_with (go_at_call 85; refine (HS.out ns own (.mk k n s ts) (.slice (some ⟨lb2, lo, none⟩) ts.length cap) _ (by omega) HVO.out HV.out HBO.out).mono ?_; rintro e w2 ⟨rfl, own2, hV2, ho2, hz2, hf2, hb2⟩; have z2 : w.heap.size + 1 ≤ w2.heap.size := (by have := HS1.out; omega); have K0 := Lib.hid ((hf2 w.heap.size (by have := HS1.out; omega) (fun h => by have := LT.out _ h; omega)).trans G0.out); have K1 := Lib.hid ((hf2 b (by have := HS1.out; omega) nb).trans G1.out); have KC := Lib.hid ((hf2 c (by have := HS1.out; omega) nc).trans ((G2.out c lc hbc).trans RC.out)); have KD := Lib.hid ((hf2 d (by have := HS1.out; omega) nd).trans ((G2.out d ld hbd).trans RD.out)); have KF : Hid (∀ g, g < w.heap.size → g ≠ b → ¬ own g → w2.heap[g]? = w.heap[g]?) := fun g hg hn ho => (hf2 g (by have := HS1.out; omega) ho).trans (G2.out g hg hn); have KO : Hid (∀ g, own2 g → own g ∨ w.heap.size ≤ g) := fun g hg => (ho2 g hg).imp id (fun h => by have := HS1.out; omega); have KV := Lib.hid hV2; have KB := Lib.hid hb2; have p3 : w2.cell? ⟨w.heap.size, 3, none⟩ = some (.slice (some ⟨lb2, lo, none⟩) ts.length cap) := (by rw [cell_of_row _ _ _ _ _ _ K0.out]; rfl); clear hV2 ho2 hz2 hf2 hb2)
      go_loopw [15] (fun i wr => ∃ (j : Nat) (q : Int) (ownr : Nat → Prop), j ≤ ts.length ∧ i = .int .i64 j ∧ Hid (q = m - cntP ts m j) ∧ 0 ≤ q ∧ q ≤ 2001 ∧ Hid (V (ns ++ vsd (Tm.mk k n s ts) m j) ownr wr) ∧ Hid (∀ g, ownr g → own g ∨ w.heap.size ≤ g) ∧
        Hid (w.heap.size + 1 ≤ wr.heap.size) ∧ Hid (∀ g, g < w.heap.size → g ≠ b → ¬ own g → wr.heap[g]? = w.heap[g]?) ∧ Hid (wr.heap[b]? = some (.cells #[.int .i64 q] 3 (0, 0))) ∧ Hid (wr.heap[d]? = w.heap[d]?) ∧ Hid (wr.heap[c]? = w.heap[c]?) ∧ Hid (Below W.heap.size W wr)) (fun i _ => ts.length - (intOf i).toNat)
      case atStart =>
        refine ⟨0, m - 1, own2, by omega, rfl, Lib.hid (by rw [CZ.out]), by omega, by omega, Lib.hid (by rw [SZ.out]; exact KV.out), KO, Lib.hid z2, KF, K1, Lib.hid (KD.out.trans RD.out.symm), Lib.hid (KC.out.trans RC.out.symm), KB⟩
      case round =>
        obtain ⟨j, q, ownr, hj, rfl, hq, q0, q1, rV, rO, rz, rF, rb, rd, rc, rB⟩ := hrel
        have qb2 : wr.cell? ⟨b, 0, none⟩ = some (.int .i64 q) := by rw [cell_of_row _ _ _ _ _ _ rb.out]; rfl
        have qd2 : wr.cell? ⟨d, 0, none⟩ = some (.func (.func 94) #[] #[.pointer (some ⟨b, 0, none⟩), .pointer (some ⟨c, 0, none⟩), .pointer (some ⟨d, 0, none⟩)]) := by rw [cell_of_row _ _ _ _ _ _ (rd.out.trans RD.out)]; rfl
        have hbz : b < wr.heap.size := by have := rz.out; omega
        have hdz : d < wr.heap.size := by have := rz.out; omega
        by_cases hlt : j < ts.length
        · obtain ⟨u, c0, c1, c2, c3, hu⟩ := HL.out.at j hlt
          obtain ⟨ua, uc, rfl⟩ := hu.slice
          have d0 := cell_below rB.out _ _ c0
          have d1 := cell_below rB.out _ _ c1
          have d2 := cell_below rB.out _ _ c2
          have d3 := cell_below rB.out _ _ c3
          have HU := Lib.hid hu
          clear hu c0 c1 c2 c3
          by_cases hz : q = 0
          · have E0 : Hid (cntP ts m j = m) := by show _ = _; have := hq.out; omega
            subst hz
            have hzb : (0 == 0) = true := rfl
            go_wp2_with fail
            refine bodyPost_ret (results_none rfl _ _ _) rfl ?_
            refine ⟨rfl, ownr, ?_, rO.out, ?_, ?_, ?_, rB.out.alloc rB.out.size _⟩
            · rw [← SF.out j E0.out]
              exact HK.out.keep _ _ _ _ rV.out (fun g hg => Below.heap_alloc _ _ _ (HK.out.lt _ _ _ _ rV.out hg)) (by simp)
            · have := rz.out; simp; omega
            · intro g hg hn ho
              rw [Below.heap_alloc _ _ _ (by have := rz.out; omega)]; exact rF.out g hg hn ho
            · have e : m - cntM (.mk k n s ts) m = 0 := by have := CF.out j E0.out; omega
              rw [Below.heap_alloc _ _ _ hbz, rb.out, e]
          · have hz1 : (q == 0) = false := by simpa using hz
            have NB : Hid (¬ ownr b) := fun h => (rO.out _ h).elim nb (fun h => by omega)
            have NC : Hid (¬ ownr c) := fun h => (rO.out _ h).elim nc (fun h => by omega)
            have ND : Hid (¬ ownr d) := fun h => (rO.out _ h).elim nd (fun h => by omega)
            have HVA : Hid (∀ O, V (ns ++ vsd (Tm.mk k n s ts) m j) ownr (wr.alloc O)) := fun O => HK.out.keep _ _ _ _ rV.out (fun g hg => Below.heap_alloc _ _ _ (HK.out.lt _ _ _ _ rV.out hg)) (by simp)
            have HBA : Hid (∀ O, Below W.heap.size W (wr.alloc O)) := fun O => rB.out.alloc rB.out.size O
            have HSZ : Hid (∀ O, (wr.alloc O).heap.size = wr.heap.size + 1) := fun O => by simp
            have HKP : Hid (∀ O g, g < wr.heap.size → (wr.alloc O).heap[g]? = wr.heap[g]?) := fun O g h => Below.heap_alloc _ _ _ h
            have BM := Lib.hid (cntM_bd ts[j] q (by omega))
            go_wp2_with (go_at_call 94; refine (HI.out j hlt _ q (ns ++ vsd (Tm.mk k n s ts) m j) ownr _ HU.out (by omega) (by have h := VL.out j; have h2 := hq.out; simp only [List.length_append]; omega) (HVA.out _) (HBA.out _) NB.out NC.out ND.out (by have := HSZ.out (.cells #[] 3); simp; omega) (by have := rz.out; simp; omega) (by have := rz.out; simp; omega) ((HKP.out _ b hbz).trans rb.out) ((HKP.out _ c (by have := rz.out; omega)).trans (rc.out.trans RC.out)) ((HKP.out _ d hdz).trans (rd.out.trans RD.out))).mono ?_; rintro e w3 ⟨rfl, own3, hV3, ho3, hz3, hf3, hb3, hB3⟩; have XV := Lib.hid hV3; have XO := Lib.hid ho3; have XZ := Lib.hid hz3; have XF := Lib.hid hf3; have XB := Lib.hid hb3; have XW := Lib.hid hB3; clear hV3 ho3 hz3 hf3 hb3 hB3)
            go_roundw
            case rel =>
              have hc1 := CS.out j hlt (by have := hq.out; omega)
              rw [← hq.out] at hc1
              have hz4 : wr.heap.size + 1 ≤ w3.heap.size := by have := XZ.out; simp at this; omega
              have rz1 := rz.out
              have bm := BM.out
              have hq1 := hq.out
              have keepB : ∀ g, g < w.heap.size → g ≠ b → ¬ own g → w3.heap[g]? = wr.heap[g]? := fun g hg hn ho => (XF.out g (by simp; omega) hn (fun h => (rO.out _ h).elim ho (fun h => by omega))).trans (HKP.out _ g (by omega))
              refine ⟨j + 1, q - cntM ts[j] q, own3, by omega, by go_num, Lib.hid (by omega), by omega, by omega, Lib.hid ?_, Lib.hid ?_, Lib.hid (by omega), Lib.hid ?_, XB, Lib.hid ?_, Lib.hid ?_, XW⟩
              · have h := XV.out
                have h2 := SS.out j hlt (by omega)
                rw [← hq1] at h2
                rw [List.append_assoc, h2] at h
                exact h
              · intro g hg
                rcases XO.out g hg with h | h
                · exact rO.out g h
                · right; simp at h; omega
              · intro g hg hn ho
                exact (keepB g hg hn ho).trans (rF.out g hg hn ho)
              · exact (keepB d ld hbd nd).trans rd.out
              · exact (keepB c lc hbc nc).trans rc.out
            case measure => simp [intOf]; omega
        · have e : j = ts.length := by omega
          subst e
          go_wp2_with fail
          go_end0
          refine ⟨rfl, ownr, by rw [← SA.out]; exact rV.out, rO.out, by have := rz.out; omega, rF.out, ?_, rB.out⟩
          rw [rb.out, hq.out, CA.out]

set_option maxHeartbeats 2000000 in
theorem walk_valid (V : List Tm → (Nat → Prop) → World → Prop) (hk : VisKeep V) (W : World) (P0 : Value) 
    (HS : Hid (∀ ns own t v w, ns.length < 2001 → V ns own w → LiesT W t v → Below W.heap.size W w → Calls Try.prog 85 #[tv t v, P0] w (VisitEnd V W (ns ++ [t]) own w))) (t : Tm)
    (v : Value) (own : Nat → Prop) (w : World) (hv : LiesT W t v) (hV : V [] own w) (hb : Below W.heap.size W w) :
    Calls Try.prog 84 #[tv t v, .func (.func 85) #[] #[P0]] w (WalkEnd V W t own w) := by
  have hz := hb.size
  have LT := Lib.hid (fun g hg => hk.lt _ own w g hV hg)
  have V4 : Hid (∀ o1 o2 o3 o4, V [] own ((((w.alloc o1).alloc o2).alloc o3).alloc o4)) := fun o1 o2 o3 o4 => hk.keep _ _ _ _ hV (fun g hg => (rows4 w o1 o2 o3 o4).2.2.2.2.2 g (LT.out g hg)) (by have := (rows4 w o1 o2 o3 o4).2.2.2.2.1; omega)
  have B4 : Hid (∀ o1 o2 o3 o4, Below W.heap.size W ((((w.alloc o1).alloc o2).alloc o3).alloc o4)) := fun o1 o2 o3 o4 => (((hb.alloc hz _).alloc (by simp; omega) _).alloc (by simp; omega) _).alloc (by simp; omega) _
  have R4 := Lib.hid (rows4 w)
  have HV := Lib.hid hv
  have HK := Lib.hid hk
  have HN : Hid (∀ g, w.heap.size ≤ g → ¬ own g) := fun g hg ho => by have := LT.out g ho; omega
  clear hV hb hv hk
  simp only [tv]
  go_enter Try.func84, Try.ntmps84
  go_wp2_with (go_at_call 94; refine (enter_valid V HK.out W P0 (w.heap.size + 1 + 1) (w.heap.size + 1) (w.heap.size + 1 + 1 + 1) (by omega) (by omega) (by omega) HS t v 2001 [] own _ HV.out (by omega) (by simp) (V4.out _ _ _ _) (B4.out _ _ _ _) (HN.out _ (by omega)) (HN.out _ (by omega)) (HN.out _ (by omega)) (by have := (R4.out (.cells #[] 3) (.cells #[] 3) (.cells #[] 3) (.cells #[] 3)).2.2.2.2.1; simp <;> omega) (by simp <;> omega) (by simp <;> omega) (R4.out _ _ _ _).2.2.1 (R4.out _ _ _ _).2.1 (R4.out _ _ _ _).2.2.2.1).mono ?_; rintro e w3 ⟨rfl, own3, hV3, ho3, hz3, hf3, hb3, hB3⟩; have XV := Lib.hid hV3; have XO := Lib.hid ho3; have XZ := Lib.hid hz3; have XF := Lib.hid hf3; have XW := Lib.hid hB3; have q0 : w3.cell? ⟨w.heap.size + 1 + 1, 0, none⟩ = some (.int .i64 (2001 - cntM t 2001)) := (by rw [cell_of_row _ _ _ _ _ _ hb3]; rfl); have bm := cntM_bd t 2001 (by omega); clear hV3 ho3 hz3 hf3 hb3 hB3)
  go_ret
  have hz4 := XZ.out
  rw [(R4.out _ _ _ _).2.2.2.2.1] at hz4
  refine ⟨ret_int (by omega), own3, XV.out, fun g hg => (XO.out g hg).imp id (fun h => by rw [(R4.out _ _ _ _).2.2.2.2.1] at h; omega), by omega, fun g hg ho => (XF.out g (by rw [(R4.out _ _ _ _).2.2.2.2.1]; omega) (by omega) ho).trans ((R4.out _ _ _ _).2.2.2.2.2 g hg), XW.out⟩

end Go.Proofs.Yteilodihjhdngaa

/- The walk over the nodes of a term with the visitor hornbeam/term.Vars$1. -/
namespace Go.Proofs.Yteilodihjhdngaa
open Go.RowKit Go.Proofs.HT

end Go.Proofs.Yteilodihjhdngaa

/- The walk over the nodes of a term with the visitor hornbeam/term.Replace$1. -/
namespace Go.Proofs.Yteilodihjhdngaa
open Go.RowKit Go.Proofs.HT

end Go.Proofs.Yteilodihjhdngaa

/- The program's Size, Valid and the count of a variable's occurrences: visitors. -/
namespace Go.Proofs.Yteilodihjhdngaa
open Go.RowKit Go.Proofs.HT

/-! Size. -/
def VS (_ : List Tm) (own : Nat → Prop) (_ : World) : Prop := ∀ g, ¬ own g
theorem VS_keep : VisKeep VS := ⟨fun _ _ _ _ h _ _ => h, fun _ _ _ g h ho => absurd ho (h g)⟩

set_option maxHeartbeats 1000000 in
theorem size_visit (W : World) (ns : List Tm) (own : Nat → Prop) (t : Tm) (v : Value) (w : World) (hV : VS ns own w) (hb : Below W.heap.size W w) :
    Calls Try.prog 93 #[tv t v] w (VisitEnd VS W (ns ++ [t]) own w) := by
  have HB := Lib.hid hb
  have HV := Lib.hid hV
  clear hb hV
  simp only [tv]
  go_enter Try.func93, Try.ntmps93
  go_wp2_with fail
  go_end0
  exact ⟨rfl, own, HV.out, fun g h => .inl h, by simp, fun g hg _ => Below.heap_alloc _ _ _ hg, HB.out.alloc HB.out.size _⟩

set_option maxHeartbeats 1000000 in
theorem Size_any (t : Tm) (v : Value) (w : World) (h : LiesT w t v) : Calls Try.prog 82 #[tv t v] w fun e w' => e = .returned (.int .i64 (cntM t 2001)) ∧ Below w.heap.size w w' := by
  have HH := Lib.hid h
  have HB := Lib.hid ((Below.refl w.heap.size w).alloc (Nat.le_refl _) (Obj.cells #[.int .i64 t.kind, .int .i64 t.num, .string t.name, v] 24))
  have H0 : Hid (VS [] (fun _ => False) w) := fun g h => h
  clear h
  simp only [tv]
  go_enter Try.func82, Try.ntmps82
  go_wp2_with (go_at_call 84; refine (walk_size VS VS_keep w (Lib.hid (fun ns own t v w' _ h1 _ h3 => size_visit w ns own t v w' h1 h3)) t v (fun _ => False) _ HH.out (fun g h => h) HB.out).mono ?_; rintro e w1 ⟨rfl, own1, _, _, _, _, hb1⟩; have X := Lib.hid hb1; clear hb1)
  go_ret
  exact ⟨rfl, X.out⟩

/-! Valid. -/
def okN (t : Tm) : Bool := nodeB t.kind t.num t.name t.args.length
def okAll (ns : List Tm) : Bool := ns.all okN
def VV (g0 : Nat) (ns : List Tm) (own : Nat → Prop) (w : World) : Prop := (∀ g, own g ↔ g = g0) ∧ w.heap[g0]? = some (.cells #[.bool (okAll ns)] 4 (0, 0))
theorem VV_keep (g0 : Nat) : VisKeep (VV g0) := ⟨fun _ _ _ _ h k _ => ⟨h.1, by rw [k g0 ((h.1 g0).2 rfl)]; exact h.2⟩, fun _ _ _ g h ho => by rw [(h.1 g).1 ho]; exact (Array.getElem?_eq_some_iff.1 h.2).1⟩
theorem pre_ok (t : Tm) : (pre t).all okN = nodesB t := by
  induction t using Tm.ind with
  | h k n s ts ih =>
    rw [pre, nodesB, List.all_cons]
    congr 1
    have key : ∀ l : List Tm, (∀ t ∈ l, (pre t).all okN = nodesB t) → (preL l).all okN = nodesL l := by
      intro l
      induction l with
      | nil => intro _; rfl
      | cons x l ih2 => intro h; rw [preL, nodesL, List.all_append, h x (by simp), ih2 (fun y hy => h y (by simp [hy]))]
    exact key ts ih
theorem validB_of (t : Tm) : (okAll ((pre t).take 2001) && decide (cntM t 2001 ≤ 2000)) = validB t := by
  unfold validB okAll
  by_cases h : cnt t ≤ 2000
  · rw [List.take_of_length_le (by rw [pre_len]; omega), pre_ok]
    have h1 : decide (cntM t 2001 ≤ 2000) = true := decide_eq_true ((cntM_le t).2 h)
    rw [h1, decide_eq_true h]; simp
  · have h1 : decide (cntM t 2001 ≤ 2000) = false := decide_eq_false (fun e => h ((cntM_le t).1 e))
    rw [h1, decide_eq_false h]; simp

theorem isProper_any (t : Tm) (v : Value) (w : World) (h : LiesT w t v) : Calls Try.prog 86 #[tv t v] w fun e w' => e = .returned (.bool (okN t)) ∧ Below w.heap.size w w' := by
  obtain ⟨a, cap, rfl⟩ := h.slice
  exact isProper_raw _ _ _ a _ cap w

set_option maxHeartbeats 1000000 in
theorem valid_visit (g0 : Nat) (W : World) (hg0 : W.heap.size ≤ g0) (ns : List Tm) (own : Nat → Prop) (t : Tm) (v : Value) (w : World) (hV : VV g0 ns own w) (hl : LiesT W t v) (hb : Below W.heap.size W w) :
    Calls Try.prog 85 #[tv t v, .pointer (some ⟨g0, 0, none⟩)] w (VisitEnd (VV g0) W (ns ++ [t]) own w) := by
  have hr := hV.2
  have ho := hV.1
  have hlt := (Array.getElem?_eq_some_iff.1 hr).1
  have q0 : w.cell? ⟨g0, 0, none⟩ = some (.bool (okAll ns)) := by rw [cell_of_row _ _ _ _ _ _ hr]; rfl
  have qf := frozen_of_row _ _ 0 _ _ hr
  have HB := Lib.hid hb
  have HL := Lib.hid (hl.below hb)
  have HR := Lib.hid hr
  have HO := Lib.hid ho
  have L1 : Hid (∀ o, LiesT (w.alloc o) t v) := fun o => HL.out.below ((Below.refl _ _).alloc (Nat.le_refl _) o)
  have B1 : Hid (∀ o, Below W.heap.size W (w.alloc o)) := fun o => HB.out.alloc HB.out.size o
  have R1 : Hid (∀ o, (w.alloc o).heap[g0]? = w.heap[g0]?) := fun o => Below.heap_alloc _ _ _ hlt
  have E1 : Hid (okAll (ns ++ [t]) = (okAll ns && okN t)) := by show _ = _; simp [okAll]
  clear hV hr ho hl hb
  rcases Bool.eq_false_or_eq_true (okAll ns) with ht | ht
  · rw [ht] at q0 HR E1
    simp only [tv]
    go_enter Try.func85, Try.ntmps85
    go_wp2_with (go_at_call 86; refine (isProper_any t v _ (L1.out _)).mono ?_; rintro e w1 ⟨rfl, hb1⟩; have z1 := (show w.heap.size + 1 ≤ w1.heap.size by have := hb1.size; simp at this; omega); have r1 := Lib.hid ((hb1.block g0 (by simp; omega)).trans ((R1.out _).trans HR.out)); have B2 := Lib.hid (B1.out _ |>.trans (hb1.mono (by have := HB.out.size; simp; omega))); have k1 := Lib.hid hb1; have q1 : w1.cell? ⟨g0, 0, none⟩ = some (.bool true) := (by rw [cell_of_row _ _ _ _ _ _ r1.out]; rfl); have f1 := frozen_of_row _ _ 0 _ _ r1.out; clear hb1)
    go_end0
    refine ⟨rfl, own, ⟨HO.out, ?_⟩, fun g h => .inl h, by simp [World.setCell]; omega, fun g hg hn => ?_, B2.out.setCell (p := ⟨g0, 0, none⟩) hg0 _⟩
    · have h := heap_setCell_same w1 g0 0 _ _ (.bool (okN t)) r1.out
      rw [E1.out]; simpa using h
    · rw [Below.heap_setCell _ _ _ _ (fun e => hn ((HO.out g).2 e)), k1.out.block g (by simp; omega), Below.heap_alloc _ _ _ hg]
  · rw [ht] at q0 HR E1
    simp only [tv]
    go_enter Try.func85, Try.ntmps85
    go_wp2_with fail
    go_end0
    refine ⟨rfl, own, ⟨HO.out, ?_⟩, fun g h => .inl h, by simp [World.setCell], fun g hg hn => ?_, ?_⟩
    · rw [Below.heap_alloc _ _ _ (by simpa [World.setCell] using hlt)]
      have h := heap_setCell_same w g0 0 _ _ (.bool false) HR.out
      rw [E1.out]; simpa using h
    · rw [Below.heap_alloc _ _ _ (by simpa [World.setCell] using hg), Below.heap_setCell _ _ _ _ (fun e => hn ((HO.out g).2 e))]
    · exact (HB.out.setCell (p := ⟨g0, 0, none⟩) hg0 _).alloc (by simpa [World.setCell] using HB.out.size) _

set_option maxHeartbeats 1000000 in
theorem Valid_any (t : Tm) (v : Value) (w : World) (h : LiesT w t v) : Calls Try.prog 71 #[tv t v] w fun e w' => e = .returned (.bool (validB t)) ∧ Below w.heap.size w w' := by
  have HH := Lib.hid h
  have HB : Hid (∀ o1 o2, Below w.heap.size w ((w.alloc o1).alloc o2)) := fun o1 o2 => ((Below.refl w.heap.size w).alloc (Nat.le_refl _) _).alloc (by simp) _
  have HV : Hid (∀ o1, VV (w.heap.size + 1) [] (fun g => g = w.heap.size + 1) ((w.alloc o1).alloc (.cells #[.bool true] 4))) := fun o1 => ⟨fun _ => Iff.rfl, by have h := heap_alloc_new (w.alloc o1) (.cells #[.bool true] 4); show _ = some (Obj.cells #[.bool true] 4 (0, 0)); simpa using h⟩
  have HE := validB_of t
  have hB : ∃ B, okAll ((pre t).take 2001) = B := ⟨_, rfl⟩
  obtain ⟨B, hB⟩ := hB
  rw [hB] at HE
  have HE1 := Lib.hid HE
  have HBB := Lib.hid hB
  clear HE
  clear h hB
  simp only [tv]
  cases B
  all_goals
    go_enter Try.func71, Try.ntmps71
    go_wp2_with (go_at_call 84; refine (walk_valid (VV (w.heap.size + 1)) (VV_keep _) w (.pointer (some ⟨w.heap.size + 1, 0, none⟩)) (Lib.hid (fun ns own t v w' _ h1 h2 h3 => valid_visit _ w (by omega) ns own t v w' h1 h2 h3)) t v (fun g => g = w.heap.size + 1) _ HH.out (HV.out _) (HB.out _ _)).mono ?_; rintro e w1 ⟨rfl, own1, hV1, _, _, _, hb1⟩; have X := Lib.hid hb1; have q1 := (show w1.cell? ⟨w.heap.size + 1, 0, none⟩ = some (Value.bool _) from (cell_of_row _ _ _ _ _ _ hV1.2).trans (congrArg (fun b => some (Value.bool b)) HBB.out)); have f1 := frozen_of_row _ _ 0 _ _ hV1.2; clear hb1 hV1)
    first
      | exact bodyPost_ret (v := .bool false) (by simp [results, Try.results71, go_sem, q1]) rfl ⟨ret_bool (by rw [← HE1.out]; rfl), X.out.setCell (p := ⟨w.heap.size + 1, 0, none⟩) (by simp) _⟩
      | exact bodyPost_ret (v := .bool (decide (cntM t 2001 ≤ 2000))) (by simp [results, Try.results71, go_sem, q1]) rfl ⟨ret_bool (by rw [← HE1.out]; rfl), X.out.setCell (p := ⟨w.heap.size + 1, 0, none⟩) (by simp) _⟩

end Go.Proofs.Yteilodihjhdngaa

/- The program's visitors that count a variable's occurrences and that collect the variables. -/
namespace Go.Proofs.Yteilodihjhdngaa
open Go.RowKit Go.Proofs.HT

/-! A variable's occurrences. -/
def isV (v : Int) (t : Tm) : Bool := decide (t.kind = 0 ∧ t.num = v)
def occN (v : Int) (ns : List Tm) : Nat := (ns.filter (isV v)).length
theorem occN_snoc (v : Int) (ns : List Tm) (t : Tm) : occN v (ns ++ [t]) = occN v ns + if t.kind = 0 ∧ t.num = v then 1 else 0 := by
  unfold occN
  rw [List.filter_append, List.length_append]
  by_cases h : t.kind = 0 ∧ t.num = v
  · have h2 : isV v t = true := by simp [isV, h]
    simp [h2, h]
  · have h2 : isV v t = false := by simp [isV]; intro a b; exact h ⟨a, b⟩
    rw [if_neg h]
    simp [h2]
theorem occN_le (v : Int) (ns : List Tm) : occN v ns ≤ ns.length := List.length_filter_le _ _

def VR (v : Int) (vb ob : Nat) (ns : List Tm) (own : Nat → Prop) (w : World) : Prop :=
  (∀ g, own g ↔ g = vb ∨ g = ob) ∧ w.heap[vb]? = some (.cells #[.int .i64 v] 2 (0, 0)) ∧ w.heap[ob]? = some (.cells #[.int .i64 (occN v ns)] 3 (0, 0))
theorem VR_keep (v : Int) (vb ob : Nat) : VisKeep (VR v vb ob) := ⟨fun _ _ _ _ h k _ => ⟨h.1, by rw [k vb ((h.1 vb).2 (.inl rfl))]; exact h.2.1, by rw [k ob ((h.1 ob).2 (.inr rfl))]; exact h.2.2⟩,
  fun _ _ _ g h ho => by rcases (h.1 g).1 ho with rfl | rfl; exact (Array.getElem?_eq_some_iff.1 h.2.1).1; exact (Array.getElem?_eq_some_iff.1 h.2.2).1⟩

end Go.Proofs.Yteilodihjhdngaa

/- The program's visitor that collects the variables. -/
namespace Go.Proofs.Yteilodihjhdngaa
open Go.RowKit Go.Proofs.HT

def nv (xs : List Int) (t : Tm) : List Int := if t.kind = 0 ∧ posF xs t.num 0 < 0 then xs ++ [t.num] else xs
def vn (ns : List Tm) : List Int := ns.foldl nv []
theorem vn_snoc (ns : List Tm) (t : Tm) : vn (ns ++ [t]) = nv (vn ns) t := by simp [vn]
theorem pre_vars (t : Tm) : ∀ xs, (pre t).foldl nv xs = varsF xs t := by
  induction t using Tm.ind with
  | h k n s ts ih =>
    intro xs
    rw [pre, varsF, List.foldl_cons]
    have key : ∀ (l : List Tm), (∀ t ∈ l, ∀ xs, (pre t).foldl nv xs = varsF xs t) → ∀ xs, (preL l).foldl nv xs = varsL xs l := by
      intro l
      induction l with
      | nil => intro _ xs; rfl
      | cons x l ih2 => intro h xs; rw [preL, varsL, List.foldl_append, h x (by simp), ih2 (fun y hy => h y (by simp [hy]))]
    exact key ts ih _
theorem nv_len (xs : List Int) (t : Tm) : (nv xs t).length ≤ xs.length + 1 := by unfold nv; split <;> simp
theorem vn_len (ns : List Tm) : (vn ns).length ≤ ns.length := by
  have key : ∀ (l : List Tm) (xs : List Int), (l.foldl nv xs).length ≤ xs.length + l.length := by
    intro l
    induction l with
    | nil => intro xs; simp
    | cons t l ih => intro xs; have := ih (nv xs t); have := nv_len xs t; simp only [List.foldl_cons, List.length_cons]; omega
  have h := key ns []
  simpa [vn] using h
theorem posF_iff : ∀ (xs : List Int) (n : Int) (i : Nat), posF xs n i < 0 ↔ ∀ x ∈ xs, ¬ x = n
  | [], n, i => by simp [posF]
  | x :: xs, n, i => by
    have h := posF_iff xs n (i + 1)
    unfold posF
    by_cases e : x = n
    · rw [if_pos e]; simp [e]
    · rw [if_neg e, h]; simp [e]

def mark (xs : List Int) : List (Int × Value) := xs.map fun x => (x, .bool true)
theorem findI_mark (xs : List Int) (n : Int) : (findI n (mark xs)).getD (.bool false) = .bool (decide (¬ posF xs n 0 < 0)) := by
  induction xs with
  | nil => simp [mark, findI, posF]
  | cons x xs ih =>
    have hp := posF_iff (x :: xs) n 0
    have hq := posF_iff xs n 0
    simp only [mark, List.map_cons, findI] at ih ⊢
    by_cases e : n = x
    · rw [if_pos e]
      have : ¬ posF (x :: xs) n 0 < 0 := by rw [hp]; simp [e]
      simp [this]
    · rw [if_neg e, ih]
      have : (posF (x :: xs) n 0 < 0) ↔ posF xs n 0 < 0 := by rw [hp, hq]; simp; intro _ h; exact e h.symm
      simp [this]
theorem findI_mark_none (xs : List Int) (n : Int) (h : posF xs n 0 < 0) : findI n (mark xs) = none := by
  refine findI_none fun p hp => ?_
  unfold mark at hp
  obtain ⟨x, hx, rfl⟩ := List.mem_map.1 hp
  exact fun e => (posF_iff xs n 0).1 h x hx e.symm

theorem ownsRow_at {w w' : World} {base : Nat} {e : TypeId} {size : Nat} {v : Value} {n : Nat} {xs : List Value} (h : w.ownsRow base e size v n xs) (hb : ∀ g, v.ownBlock = some g → w'.heap[g]? = w.heap[g]?) : w'.ownsRow base e size v n xs := by
  refine ⟨h.1, ?_⟩
  rcases h.2 with hn | ⟨g, cap, cur, hv, hbg, hg, rest⟩
  · exact .inl hn
  · exact .inr ⟨g, cap, cur, hv, hbg, by rw [hb g (by rw [hv]; rfl), hg], rest⟩
theorem underI : Try.prog.underlying 2 = some (.int .i64) := by kernel_rfl
theorem zeroB (w : World) : (zeroValue 4).run Try.prog w = .ok (.bool false) w := by kernel_rfl

end Go.Proofs.Yteilodihjhdngaa

/- The program's Vars. -/
namespace Go.Proofs.Yteilodihjhdngaa
open Go.RowKit Go.Proofs.HT

/-- A list of numbers of the call's own. -/
def ListEnd (xs : List Int) (w : World) (e : Ending) (w' : World) : Prop := ∃ x, e = .returned x ∧ w'.ownsRow w.heap.size 2 1 x xs.length (nums xs) ∧ Below w.heap.size w w'
theorem owns_slice {w : World} {base : Nat} {e : TypeId} {size : Nat} {v : Value} {n : Nat} {xs : List Value} (h : w.ownsRow base e size v n xs) : ∃ a c, v = .slice a n c := by
  rcases h.2 with ⟨rfl, rfl⟩ | ⟨g, cap, cur, rfl, _⟩
  · exact ⟨_, _, rfl⟩
  · exact ⟨_, _, rfl⟩
theorem ownsRow_base {w : World} {base b : Nat} {e : TypeId} {size : Nat} {v : Value} {n : Nat} {xs : List Value} (h : w.ownsRow base e size v n xs) (hb : b ≤ base) : w.ownsRow b e size v n xs := by
  refine ⟨h.1, ?_⟩
  rcases h.2 with hn | ⟨g, cap, cur, hv, hbg, hg, rest⟩
  · exact .inl hn
  · exact .inr ⟨g, cap, cur, hv, by omega, hg, rest⟩

end Go.Proofs.Yteilodihjhdngaa
