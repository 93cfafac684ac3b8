/- Plain mathematics of terms: nodes, size, validity, identity. No program. -/
import Derived.IntWalk
import Derived.RowKit
import Derived.WalkKit
import Derived.ProofKit
import Derived.OpenShut
import Derived.Lib.Strings
import Derived.Lib.Hide
import Derived.OwnWalk
import Derived.Laws.OwnMore
import Derived.Maps.OwnOps
import Derived.Maps.OwnSet
namespace Go.Proofs.HT

/-- A term: its kind, its number, its name, its arguments. -/
inductive Tm where
  | mk (k n : Int) (s : ByteArray) (ts : List Tm)

namespace Tm
def kind : Tm → Int | .mk k _ _ _ => k
def num : Tm → Int | .mk _ n _ _ => n
def name : Tm → ByteArray | .mk _ _ s _ => s
def args : Tm → List Tm | .mk _ _ _ ts => ts
theorem eta : ∀ t : Tm, t = .mk t.kind t.num t.name t.args | .mk _ _ _ _ => rfl
end Tm

mutual
/-- The number of nodes. -/
def cnt : Tm → Nat
  | .mk _ _ _ ts => 1 + cntL ts
def cntL : List Tm → Nat
  | [] => 0
  | t :: ts => cnt t + cntL ts
end
theorem cnt_pos (t : Tm) : 1 ≤ cnt t := by cases t; simp [cnt]
theorem cnt_eq (t : Tm) : cnt t = 1 + cntL t.args := by cases t; simp [cnt, Tm.args]
theorem cntL_append : ∀ (l m : List Tm), cntL (l ++ m) = cntL l + cntL m
  | [], m => by simp [cntL]
  | t :: l, m => by simp [cntL, cntL_append l m, Nat.add_assoc]
theorem cntL_mem : ∀ (l : List Tm) (t : Tm), t ∈ l → cnt t ≤ cntL l
  | [], _, h => by simp at h
  | x :: l, t, h => by
    rw [List.mem_cons] at h
    rcases h with rfl | h
    · simp [cntL]
    · have := cntL_mem l t h
      simp [cntL]; omega
theorem cntL_take_succ (l : List Tm) (i : Nat) (h : i < l.length) : cntL (l.take (i + 1)) = cntL (l.take i) + cnt l[i] := by
  rw [List.take_succ_eq_append_getElem h, cntL_append]; simp [cntL]

/-- Induction over terms: what holds of a node if it holds of its arguments holds of all. -/
theorem Tm.ind {p : Tm → Prop} (h : ∀ k n s ts, (∀ t ∈ ts, p t) → p (.mk k n s ts)) (t : Tm) : p t := by
  have key : ∀ (m : Nat) (t : Tm), cnt t ≤ m → p t := by
    intro m
    induction m with
    | zero => intro t ht; have := cnt_pos t; omega
    | succ m ih =>
      intro t ht
      cases t with
      | mk k n s ts =>
        refine h k n s ts fun x hx => ih x ?_
        have := cntL_mem ts x hx
        simp only [cnt] at ht; omega
  exact key _ t (Nat.le_refl _)

/-- Is a node valid, apart from its arguments? (l: how many arguments it has.) -/
def nodeB (k n : Int) (s : ByteArray) (l : Nat) : Bool :=
  if k = 0 then decide (0 ≤ n ∧ n ≤ 1099511627776 ∧ s.size = 0 ∧ l = 0)
  else if k = 1 then decide (s.size = 0 ∧ l = 0)
  else if k = 2 then decide (n = 0 ∧ s.size ≤ 100 ∧ l = 0)
  else if k = 3 then decide (n = 0 ∧ s.size ≤ 100 ∧ 1 ≤ l ∧ l ≤ 8)
  else false

mutual
/-- Are all nodes valid? -/
def nodesB : Tm → Bool
  | .mk k n s ts => nodeB k n s ts.length && nodesL ts
def nodesL : List Tm → Bool
  | [] => true
  | t :: ts => nodesB t && nodesL ts
end
theorem nodesL_iff : ∀ l : List Tm, nodesL l = true ↔ ∀ t ∈ l, nodesB t = true
  | [] => by simp [nodesL]
  | t :: l => by simp [nodesL, nodesL_iff l]

def validB (t : Tm) : Bool := decide (cnt t ≤ 2000) && nodesB t

mutual
/-- Are two terms identical? -/
def sameB : Tm → Tm → Bool
  | .mk k n s ts, u => decide (k = u.kind ∧ n = u.num ∧ s = u.name ∧ ts.length = u.args.length) && sameL ts u.args
def sameL : List Tm → List Tm → Bool
  | [], _ => true
  | t :: ts, us => match us with
    | [] => true
    | u :: us => sameB t u && sameL ts us
end
theorem sameL_iff : ∀ (l m : List Tm), l.length = m.length → (∀ t ∈ l, ∀ u, sameB t u = true ↔ t = u) → (sameL l m = true ↔ l = m)
  | [], [], _, _ => by simp [sameL]
  | [], _ :: _, h, _ => by simp at h
  | _ :: _, [], h, _ => by simp at h
  | t :: l, u :: m, h, ih => by
    have h2 := sameL_iff l m (by simpa using h) (fun x hx => ih x (by simp [hx]))
    have h3 := ih t (by simp) u
    simp [sameL, h2, h3]
theorem sameB_iff (t : Tm) : ∀ u, sameB t u = true ↔ t = u := by
  induction t using Tm.ind with
  | h k n s ts ih =>
    intro u
    cases u with
    | mk k' n' s' us =>
      have e : sameB (.mk k n s ts) (.mk k' n' s' us) = (decide (k = k' ∧ n = n' ∧ s = s' ∧ ts.length = us.length) && sameL ts us) := by
        rw [sameB]; rfl
      rw [e, Bool.and_eq_true, decide_eq_true_iff]
      constructor
      · rintro ⟨⟨rfl, rfl, rfl, h4⟩, h5⟩
        rw [(sameL_iff ts us h4 ih).1 h5]
      · intro h
        cases h
        exact ⟨⟨rfl, rfl, rfl, rfl⟩, (sameL_iff ts ts rfl ih).2 rfl⟩

end Go.Proofs.HT

/- Of no program: terms in memory: slices of structs of four cells (kind, number, name, arguments). What a term's value leads to; that it stays while nothing below the heap's size turns; an argument of the term's type opened. -/
namespace Go.Proofs.HT
open Go.RowKit Go.ChangeShapes Go.WideShapes

def I64 (n : Int) : Prop := -9223372036854775808 ≤ n ∧ n ≤ 9223372036854775807

mutual
/-- v is the slice of the arguments of t in w. -/
def LiesT (w : World) : Tm → Value → Prop
  | .mk k n s ts, v => I64 k ∧ I64 n ∧ s.size ≤ 9223372036854775807 ∧
    ((ts = [] ∧ v = .slice none 0 0) ∨ ∃ (a : Addr) (cap : Nat), v = .slice (some a) ts.length cap ∧ ts.length ≤ cap ∧ cap ≤ 9223372036854775807 ∧ (ts = [] ∨ a.spot = none) ∧ LiesL w ts a.block a.off)
/-- The terms of a list lie in block b from cell o on. -/
def LiesL (w : World) : List Tm → Nat → Nat → Prop
  | [], _, _ => True
  | t :: ts, b, o => (∃ v, w.cell? ⟨b, o, none⟩ = some (.int .i64 t.kind) ∧ w.cell? ⟨b, o + 1, none⟩ = some (.int .i64 t.num) ∧ w.cell? ⟨b, o + 2, none⟩ = some (.string t.name) ∧ w.cell? ⟨b, o + 3, none⟩ = some v ∧ LiesT w t v) ∧ LiesL w ts b (o + 4)
end

/-- The value of a term. -/
abbrev tv (t : Tm) (v : Value) : Value := .agg #[.int .i64 t.kind, .int .i64 t.num, .string t.name, v]

theorem LiesL.at {w : World} : ∀ {ts : List Tm} {b o : Nat}, LiesL w ts b o → ∀ (i : Nat) (h : i < ts.length), ∃ v, w.cell? ⟨b, o + i * 4, none⟩ = some (.int .i64 ts[i].kind) ∧ w.cell? ⟨b, o + i * 4 + 1, none⟩ = some (.int .i64 ts[i].num) ∧
    w.cell? ⟨b, o + i * 4 + 2, none⟩ = some (.string ts[i].name) ∧ w.cell? ⟨b, o + i * 4 + 3, none⟩ = some v ∧ LiesT w ts[i] v
  | [], _, _, _, i, hi => absurd hi (by simp)
  | t :: ts, b, o, hl, 0, _ => by
    simp only [LiesL] at hl
    simpa using hl.1
  | t :: ts, b, o, hl, i + 1, hi => by
    simp only [LiesL] at hl
    have := hl.2.at i (by simpa using hi)
    rw [show o + (i + 1) * 4 = o + 4 + i * 4 by omega]
    simpa using this
theorem LiesL.of_at {w : World} : ∀ {ts : List Tm} {b o : Nat}, (∀ (i : Nat) (h : i < ts.length), ∃ v, w.cell? ⟨b, o + i * 4, none⟩ = some (.int .i64 ts[i].kind) ∧ w.cell? ⟨b, o + i * 4 + 1, none⟩ = some (.int .i64 ts[i].num) ∧
    w.cell? ⟨b, o + i * 4 + 2, none⟩ = some (.string ts[i].name) ∧ w.cell? ⟨b, o + i * 4 + 3, none⟩ = some v ∧ LiesT w ts[i] v) → LiesL w ts b o
  | [], _, _, _ => by simp [LiesL]
  | t :: ts, b, o, h => by
    simp only [LiesL]
    refine ⟨?_, LiesL.of_at fun i hi => ?_⟩
    · obtain ⟨v, h0, h1, h2, h3, h4⟩ := h 0 (Nat.succ_pos _)
      rw [Nat.zero_mul, Nat.add_zero] at h0 h1 h2 h3
      exact ⟨v, h0, h1, h2, h3, h4⟩
    · obtain ⟨v, h0, h1, h2, h3, h4⟩ := h (i + 1) (Nat.succ_lt_succ hi)
      rw [show o + (i + 1) * 4 = o + 4 + i * 4 by omega] at h0 h1 h2 h3
      exact ⟨v, h0, h1, h2, h3, h4⟩

/-- A term lies as it lay while every cell that was there reads as it did. -/
theorem LiesT.keep {w w' : World} (hc : ∀ (a : Addr) v, w.cell? a = some v → w'.cell? a = some v) (t : Tm) : ∀ v, LiesT w t v → LiesT w' t v := by
  induction t using Tm.ind with
  | h k n s ts ih =>
    intro v h
    simp only [LiesT] at h ⊢
    obtain ⟨h1, h2, h3, h4⟩ := h
    refine ⟨h1, h2, h3, h4.imp id ?_⟩
    rintro ⟨a, cap, e, l1, l2, l3, hl⟩
    refine ⟨a, cap, e, l1, l2, l3, LiesL.of_at fun i hi => ?_⟩
    obtain ⟨u, c0, c1, c2, c3, hu⟩ := hl.at i hi
    exact ⟨u, hc _ _ c0, hc _ _ c1, hc _ _ c2, hc _ _ c3, ih _ (List.getElem_mem hi) _ hu⟩
theorem cell_below {w w' : World} (hb : Below w.heap.size w w') (a : Addr) (v : Value) (h : w.cell? a = some v) : w'.cell? a = some v := by
  have hlt : a.block < w.heap.size := by
    unfold World.cell? at h
    rcases Nat.lt_or_ge a.block w.heap.size with h2 | h2
    · exact h2
    · rw [Array.getElem?_eq_none h2] at h; cases h
  rw [hb.cell hlt]; exact h
theorem LiesT.below {w w' : World} {t : Tm} {v : Value} (h : LiesT w t v) (hb : Below w.heap.size w w') : LiesT w' t v := h.keep (cell_below hb) t v

/-! An argument opened. -/
/-- The types of a program: tT the term's, tS the slice's, tK, tN, tM the fields'. -/
structure TermTypes (P : Program) (tT tS tK tN tM : TypeId) : Prop where
  hT : ∃ f0 f1 f2 f3 : Field, P.underlying tT = some (.struct #[f0, f1, f2, f3]) ∧ f0.type = tK ∧ f1.type = tN ∧ f2.type = tM ∧ f3.type = tS ∧ f0.offset = 0 ∧ f1.offset = 1 ∧ f2.offset = 2 ∧ f3.offset = 3
  hS : P.underlying tS = some (.slice tT)
  hK : P.underlying tK = some (.int .i64)
  hN : P.underlying tN = some (.int .i64)
  hM : P.underlying tM = some .string
  cT : P.cellsOf tT = 4
  cS : P.cellsOf tS = 1
  cK : P.cellsOf tK = 1
  cN : P.cellsOf tN = 1
  cM : P.cellsOf tM = 1

variable {H : Type} {enc : TypeId × Value → H} {P : Program} {w : World} {base : Nat} {sp : Nat → Bool} {held : Bool}

theorem i64_of {a : Int} (h : (Lit.int .i64 a).wf = true) : I64 a := by
  simp only [Lit.wf, IntKind.min, IntKind.max, IntKind.signed, IntKind.bits, Bool.and_eq_true, decide_eq_true_eq, if_true] at h
  unfold I64; omega

theorem collect {p : Nat → Tm → Prop} : ∀ n, (∀ i, i < n → ∃ t, p i t) → ∃ ts : List Tm, ts.length = n ∧ ∀ (i : Nat) (h : i < ts.length), p i ts[i]
  | 0, _ => ⟨[], rfl, fun i h => absurd h (by simp)⟩
  | n + 1, h => by
    obtain ⟨ts, h1, h2⟩ := collect n fun i hi => h i (by omega)
    obtain ⟨t, ht⟩ := h n (by omega)
    refine ⟨ts ++ [t], by simp [h1], fun i hi => ?_⟩
    by_cases e : i < ts.length
    · rw [List.getElem_append_left e]; exact h2 i e
    · obtain rfl : i = n := by simp at hi; omega
      rw [List.getElem_append_right (by omega)]
      simpa [h1] using ht

theorem cells4 {a : Addr} {x0 x1 x2 x3 : Value} (h : w.cells? base a 4 = some [x0, x1, x2, x3]) :
    w.cell? a = some x0 ∧ w.cell? (a.add 1) = some x1 ∧ w.cell? (a.add 2) = some x2 ∧ w.cell? (a.add 3) = some x3 := by
  unfold World.cells? at h
  split at h
  · simp only [show List.range 4 = [0, 1, 2, 3] from rfl, List.mapM_cons, List.mapM_nil, Option.bind_eq_bind, Option.bind_eq_some_iff, Option.pure_def, Option.some.injEq, List.cons.injEq] at h
    obtain ⟨y0, h0, z0, ⟨y1, h1, z1, ⟨y2, h2, z2, ⟨y3, h3, z3, rfl, rfl⟩, rfl⟩, rfl⟩, rfl, rfl, rfl, rfl, _⟩ := h
    exact ⟨h0, h1, h2, h3⟩
  · cases h

theorem open_term_aux {tT tS tK tN tM : TypeId} (T : TermTypes P tT tS tK tN tM) : ∀ (fuel : Nat) (cs : List Value) (x : DataW H × List MemPlace), DataW.trod enc P w base sp held fuel tT cs = some x →
    ∃ (t : Tm) (v : Value), cs = [.int .i64 t.kind, .int .i64 t.num, .string t.name, v] ∧ LiesT w t v := by
  intro fuel
  induction fuel using Nat.strongRecOn with
  | ind fuel ih =>
    intro cs x h
    obtain ⟨f0, f1, f2, f3, hT, e0, e1, e2, e3, o0, o1, o2, o3⟩ := T.hT
    obtain ⟨xs, n, rfl, _, hl, hlen, hf⟩ := DataW.trod_struct hT h
    rw [T.cT] at hl
    match cs, hl with
    | [a0, a1, a2, a3], _ =>
      have g0 := hf 0 f0 rfl
      have g1 := hf 1 f1 rfl
      have g2 := hf 2 f2 rfl
      have g3 := hf 3 f3 rfl
      rw [e0, o0, T.cK] at g0
      rw [e1, o1, T.cN] at g1
      rw [e2, o2, T.cM] at g2
      rw [e3, o3, T.cS] at g3
      match xs, hlen with
      | [x0, x1, x2, x3], _ =>
        simp only [List.drop_zero, List.drop_succ_cons, List.take_succ_cons, List.take_zero, List.getElem?_cons_zero, List.getElem?_cons_succ] at g0 g1 g2 g3
        obtain ⟨k, q0, _, w0⟩ := DataW.trod_int T.hK g0
        obtain ⟨m, q1, _, w1⟩ := DataW.trod_int T.hN g1
        obtain ⟨s, q2, _, w2⟩ := DataW.trod_string T.hM g2
        simp only [List.cons.injEq, and_true] at q0 q1 q2
        subst q0 q1 q2
        rcases DataW.trod_slice T.hS g3 with ⟨q3, _⟩ | ⟨a, len, cap, elems, rest, n', hn, q3, _, hb, hlc, hcap, hel, hcells, _, _⟩
        · simp only [List.cons.injEq, and_true] at q3
          subst q3
          exact ⟨.mk k m s [], _, rfl, by unfold LiesT; exact ⟨i64_of w0, i64_of w1, w2, .inl ⟨rfl, rfl⟩⟩⟩
        · simp only [List.cons.injEq, and_true] at q3
          subst q3
          rw [T.cT] at hcells
          have hex : ∀ i, i < len → ∃ (t : Tm) (v : Value), w.cells? base (a.add (i * 4)) 4 = some [.int .i64 t.kind, .int .i64 t.num, .string t.name, v] ∧ LiesT w t v := by
            intro i hi
            have hc := hcells i hi
            rw [List.getElem?_eq_getElem (show i < elems.length by omega)] at hc
            obtain ⟨cs', h1, h2⟩ := Option.bind_eq_some_iff.1 hc
            obtain ⟨t, v, rfl, hv⟩ := ih n' (by omega) cs' _ h2
            exact ⟨t, v, h1, hv⟩
          obtain ⟨ts, hts, hp⟩ := collect (p := fun i t => ∃ v, w.cells? base (a.add (i * 4)) 4 = some [.int .i64 t.kind, .int .i64 t.num, .string t.name, v] ∧ LiesT w t v) len (fun i hi => by
            obtain ⟨t, v, h1, h2⟩ := hex i hi
            exact ⟨t, v, h1, h2⟩)
          refine ⟨.mk k m s ts, _, rfl, ?_⟩
          simp only [LiesT]
          refine ⟨i64_of w0, i64_of w1, w2, .inr ⟨a, cap, by rw [hts], by omega, hcap, ?_, LiesL.of_at fun i hi => ?_⟩⟩
          · by_cases hz : ts = []
            · exact .inl hz
            · refine .inr ?_
              have hpos : 0 < ts.length := List.length_pos_iff.2 hz
              obtain ⟨v, h1, _⟩ := hp 0 hpos
              have h2 := (cells4 h1).1
              cases hs : a.spot with
              | none => rfl
              | some y =>
                exfalso
                simp [World.cell?, Addr.add, hs] at h2
                split at h2 <;> simp at h2
          · obtain ⟨v, h1, h2⟩ := hp i hi
            have h3 := cells4 h1
            have hspot : a.spot = none := by
              cases hs : a.spot with
              | none => rfl
              | some y =>
                exfalso
                have hpos : 0 < ts.length := by omega
                obtain ⟨v, h1, _⟩ := hp 0 hpos
                have h2 := (cells4 h1).1
                simp [World.cell?, Addr.add, hs] at h2
                split at h2 <;> simp at h2
            have ea : ∀ n, a.add n = ⟨a.block, a.off + n, none⟩ := fun n => by
              unfold Addr.add
              split
              · rename_i h0
                subst h0
                cases a
                simp at hspot
                simp [hspot]
              · rfl
            rw [ea] at h3
            simp only [Addr.add] at h3
            exact ⟨v, h3.1, h3.2.1, h3.2.2.1, h3.2.2.2, h2⟩

end Go.Proofs.HT

/- Of no program: words for walks over terms. -/
namespace Go.Proofs.HT
open Go.RowKit

/-- How many nodes, up to a bound. -/
def cntM (t : Tm) (m : Int) : Int := if (cnt t : Int) ≤ m then cnt t else m
/-- What the counting loop holds before its i-th argument. -/
def cntP (ts : List Tm) (m : Int) (i : Nat) : Int := if 1 + (cntL (ts.take i) : Int) ≤ m then 1 + (cntL (ts.take i) : Int) else m
theorem cntM_bd (t : Tm) (m : Int) (h : 1 ≤ m) : 1 ≤ cntM t m ∧ cntM t m ≤ m := by
  have := cnt_pos t; unfold cntM; split <;> omega
theorem cntP_zero (ts : List Tm) (m : Int) (h : 1 ≤ m) : cntP ts m 0 = 1 := by simp [cntP, cntL, h]
theorem cntP_bd (ts : List Tm) (m : Int) (h : 1 ≤ m) (i : Nat) : 1 ≤ cntP ts m i ∧ cntP ts m i ≤ m := by unfold cntP; split <;> omega
theorem cntP_step (ts : List Tm) (m : Int) (i : Nat) (hi : i < ts.length) (hlt : cntP ts m i < m) : cntP ts m i + cntM ts[i] (m - cntP ts m i) = cntP ts m (i + 1) := by
  have h1 := cntL_take_succ ts i hi
  have h2 := cnt_pos ts[i]
  unfold cntP at hlt ⊢
  unfold cntM
  rw [h1]
  by_cases h : 1 + (cntL (ts.take i) : Int) ≤ m
  · rw [if_pos h] at hlt ⊢
    by_cases h3 : (cnt ts[i] : Int) ≤ m - (1 + (cntL (ts.take i) : Int))
    · rw [if_pos h3, if_pos (by omega)]; omega
    · rw [if_neg h3, if_neg (by omega)]; omega
  · rw [if_neg h] at hlt; omega
theorem cntP_all (k n : Int) (s : ByteArray) (ts : List Tm) (m : Int) : cntP ts m ts.length = cntM (.mk k n s ts) m := by
  have hc : ((cnt (.mk k n s ts) : Nat) : Int) = 1 + (cntL ts : Int) := by simp [cnt]
  unfold cntP cntM
  rw [List.take_length, hc]
theorem cntL_take_le (ts : List Tm) (i : Nat) : cntL (ts.take i) ≤ cntL ts := by
  have h := cntL_append (ts.take i) (ts.drop i)
  rw [List.take_append_drop] at h; omega
theorem cntP_full (k n : Int) (s : ByteArray) (ts : List Tm) (m : Int) (i : Nat) (h : cntP ts m i = m) : m = cntM (.mk k n s ts) m := by
  have h1 := cntL_take_le ts i
  have hc : ((cnt (.mk k n s ts) : Nat) : Int) = 1 + (cntL ts : Int) := by simp [cnt]
  unfold cntM
  rw [hc]
  by_cases h2 : 1 + (cntL ts : Int) ≤ m
  · rw [if_pos h2]
    unfold cntP at h
    by_cases h3 : 1 + (cntL (ts.take i) : Int) ≤ m
    · rw [if_pos h3] at h; omega
    · omega
  · rw [if_neg h2]

theorem LiesT.len {w : World} {k n : Int} {s : ByteArray} {ts : List Tm} {v : Value} (h : LiesT w (.mk k n s ts) v) :
    (ts = [] ∧ ∃ a cap, v = .slice a 0 cap) ∨ ∃ (b o cap : Nat), v = .slice (some ⟨b, o, none⟩) ts.length cap ∧ 0 < ts.length ∧ ts.length ≤ cap ∧ cap ≤ 9223372036854775807 ∧ LiesL w ts b o := by
  simp only [LiesT] at h
  obtain ⟨_, _, _, h | ⟨a, cap, e, l1, l2, l3, hl⟩⟩ := h
  · exact .inl ⟨h.1, none, 0, h.2⟩
  · by_cases hz : ts = []
    · subst hz; exact .inl ⟨rfl, some a, cap, e⟩
    · refine .inr ⟨a.block, a.off, cap, ?_, List.length_pos_iff.2 hz, l1, l2, hl⟩
      have hs := l3.resolve_left hz
      cases a
      simp only at hs
      subst hs; exact e

end Go.Proofs.HT

/- Of no program: a row of terms that the call builds by append. -/
namespace Go.Proofs.HT
open Go.RowKit

/-- The cells of a row of terms. -/
def flat : List (Tm × Value) → List Value
  | [] => []
  | p :: l => .int .i64 p.1.kind :: .int .i64 p.1.num :: .string p.1.name :: p.2 :: flat l
theorem flat_append : ∀ l m, flat (l ++ m) = flat l ++ flat m
  | [], m => by simp [flat]
  | p :: l, m => by simp [flat, flat_append l m]
theorem flat_length : ∀ l, (flat l).length = l.length * 4
  | [] => rfl
  | p :: l => by simp [flat, flat_length l]; omega

theorem LiesL.of_cells {w : World} {g : Nat} : ∀ (l : List (Tm × Value)) (o : Nat), (∀ k u, (flat l)[k]? = some u → w.cell? ⟨g, o + k, none⟩ = some u) → (∀ p ∈ l, LiesT w p.1 p.2) → LiesL w (l.map Prod.fst) g o
  | [], _, _, _ => by simp [LiesL]
  | p :: l, o, h, hp => by
    simp only [List.map_cons, LiesL]
    refine ⟨⟨p.2, ?_, ?_, ?_, ?_, hp p (by simp)⟩, LiesL.of_cells l (o + 4) (fun k u hk => ?_) (fun q hq => hp q (by simp [hq]))⟩
    · exact h 0 _ (by simp [flat])
    · exact h 1 _ (by simp [flat])
    · exact h 2 _ (by simp [flat])
    · exact h 3 _ (by simp [flat])
    · rw [show o + 4 + k = o + (k + 4) by omega]
      exact h (k + 4) u (by simpa [flat] using hk)

/-- A row of terms that lies in memory: the term with these arguments lies. -/
theorem LiesT.of_row {w : World} {base e g cap n : Nat} {k m : Int} {s : ByteArray} {l : List (Tm × Value)} (hk : I64 k) (hm : I64 m) (hs : s.size ≤ 9223372036854775807) (hn : n = l.length)
    (h : w.ownsRow base e 4 (.slice (some ⟨g, 0, none⟩) n cap) n (flat l)) (hp : ∀ p ∈ l, LiesT w p.1 p.2) : LiesT w (.mk k m s (l.map Prod.fst)) (.slice (some ⟨g, 0, none⟩) n cap) := by
  subst hn
  have hc : l.length ≤ cap ∧ cap ≤ maxLen := by
    rcases h.2 with ⟨h', _⟩ | ⟨g', cap', cur, h', _, _, h1, h2, _⟩
    · simp at h'
    · simp only [Value.slice.injEq, Option.some.injEq, Addr.mk.injEq, and_true, true_and] at h'
      obtain ⟨_, rfl⟩ := h'
      exact ⟨h1, h2⟩
  have hmax : cap ≤ 9223372036854775807 := by have := hc.2; simp only [maxLen] at this; omega
  unfold LiesT
  refine ⟨hk, hm, hs, .inr ⟨⟨g, 0, none⟩, cap, by rw [List.length_map], by rw [List.length_map]; exact hc.1, hmax, .inr rfl, LiesL.of_cells l 0 (fun k u hk => ?_) hp⟩⟩
  rw [Nat.zero_add, h.cellAt k (by rw [← flat_length]; exact (List.getElem?_eq_some_iff.1 hk).1), hk]

theorem take_succ_pair (ts : List Tm) (j : Nat) (hj : j < ts.length) (l : List (Tm × Value)) (hl : l.map Prod.fst = ts.take j) (v : Value) : (l ++ [(ts[j], v)]).map Prod.fst = ts.take (j + 1) := by
  rw [List.map_append, hl, List.take_succ_eq_append_getElem hj]; rfl

theorem own_below {w w' : World} {base : Nat} {e : TypeId} {size : Nat} {v : Value} {n : Nat} {xs : List Value} (h : w.ownsRow base e size v n xs) (hb : Below w.heap.size w w') : w'.ownsRow base e size v n xs := by
  refine ⟨h.1, ?_⟩
  rcases h.2 with hn | ⟨g, cap, cur, hv, hbg, hg, rest⟩
  · exact .inl hn
  · exact .inr ⟨g, cap, cur, hv, hbg, by rw [hb.block g (Array.getElem?_eq_some_iff.1 hg).1, hg], rest⟩
theorem block_below {w w' : World} (hb : Below w.heap.size w w') {g : Nat} {x : Obj} (h : w.heap[g]? = some x) : w'.heap[g]? = some x := by
  rw [hb.block g (Array.getElem?_eq_some_iff.1 h).1, h]

end Go.Proofs.HT

/- Of no program: a term all of whose arrays are the call's own: blocks of a set S, nothing of them frozen. -/
namespace Go.Proofs.HT
open Go.RowKit

def Plain (w : World) (b : Nat) : Prop := ∃ cur e, w.heap[b]? = some (.cells cur e (0, 0))

mutual
def OwnT (S : Nat → Prop) (w : World) : Tm → Value → Prop
  | .mk k n s ts, v => I64 k ∧ I64 n ∧ s.size ≤ 9223372036854775807 ∧
    ((ts = [] ∧ v = .slice none 0 0) ∨ ∃ (b cap : Nat), v = .slice (some ⟨b, 0, none⟩) ts.length cap ∧ ts.length ≤ cap ∧ cap ≤ 9223372036854775807 ∧ S b ∧ Plain w b ∧ OwnL S w ts b 0)
def OwnL (S : Nat → Prop) (w : World) : List Tm → Nat → Nat → Prop
  | [], _, _ => True
  | t :: ts, b, o => (∃ v, w.cell? ⟨b, o, none⟩ = some (.int .i64 t.kind) ∧ w.cell? ⟨b, o + 1, none⟩ = some (.int .i64 t.num) ∧ w.cell? ⟨b, o + 2, none⟩ = some (.string t.name) ∧ w.cell? ⟨b, o + 3, none⟩ = some v ∧ OwnT S w t v) ∧ OwnL S w ts b (o + 4)
end

theorem OwnL.at {S : Nat → Prop} {w : World} : ∀ {ts : List Tm} {b o : Nat}, OwnL S w ts b o → ∀ (i : Nat) (h : i < ts.length), ∃ v, w.cell? ⟨b, o + i * 4, none⟩ = some (.int .i64 ts[i].kind) ∧ w.cell? ⟨b, o + i * 4 + 1, none⟩ = some (.int .i64 ts[i].num) ∧
    w.cell? ⟨b, o + i * 4 + 2, none⟩ = some (.string ts[i].name) ∧ w.cell? ⟨b, o + i * 4 + 3, none⟩ = some v ∧ OwnT S w ts[i] v
  | [], _, _, _, i, hi => absurd hi (by simp)
  | t :: ts, b, o, hl, 0, _ => by
    simp only [OwnL] at hl
    simpa using hl.1
  | t :: ts, b, o, hl, i + 1, hi => by
    simp only [OwnL] at hl
    have := hl.2.at i (by simpa using hi)
    rw [show o + (i + 1) * 4 = o + 4 + i * 4 by omega]
    simpa using this
theorem OwnL.of_at {S : Nat → Prop} {w : World} : ∀ {ts : List Tm} {b o : Nat}, (∀ (i : Nat) (h : i < ts.length), ∃ v, w.cell? ⟨b, o + i * 4, none⟩ = some (.int .i64 ts[i].kind) ∧ w.cell? ⟨b, o + i * 4 + 1, none⟩ = some (.int .i64 ts[i].num) ∧
    w.cell? ⟨b, o + i * 4 + 2, none⟩ = some (.string ts[i].name) ∧ w.cell? ⟨b, o + i * 4 + 3, none⟩ = some v ∧ OwnT S w ts[i] v) → OwnL S w ts b o
  | [], _, _, _ => by simp [OwnL]
  | t :: ts, b, o, h => by
    simp only [OwnL]
    refine ⟨?_, OwnL.of_at fun i hi => ?_⟩
    · obtain ⟨v, h0, h1, h2, h3, h4⟩ := h 0 (Nat.succ_pos _)
      rw [Nat.zero_mul, Nat.add_zero] at h0 h1 h2 h3
      exact ⟨v, h0, h1, h2, h3, h4⟩
    · obtain ⟨v, h0, h1, h2, h3, h4⟩ := h (i + 1) (Nat.succ_lt_succ hi)
      rw [show o + (i + 1) * 4 = o + 4 + i * 4 by omega] at h0 h1 h2 h3
      exact ⟨v, h0, h1, h2, h3, h4⟩

/-- It stays while its blocks stay; the set may grow. -/
theorem OwnT.keep {S S' : Nat → Prop} {w w' : World} (hb : ∀ b, S b → w'.heap[b]? = w.heap[b]?) (hS : ∀ b, S b → Plain w b → S' b) (t : Tm) : ∀ v, OwnT S w t v → OwnT S' w' t v := by
  induction t using Tm.ind with
  | h k n s ts ih =>
    intro v h
    simp only [OwnT] at h ⊢
    obtain ⟨h1, h2, h3, h4⟩ := h
    refine ⟨h1, h2, h3, h4.imp id ?_⟩
    rintro ⟨b, cap, e, l1, l2, l3, ⟨cur, e', l4⟩, hl⟩
    refine ⟨b, cap, e, l1, l2, hS b l3 ⟨cur, e', l4⟩, ⟨cur, e', by rw [hb b l3, l4]⟩, OwnL.of_at fun i hi => ?_⟩
    obtain ⟨u, c0, c1, c2, c3, hu⟩ := hl.at i hi
    have hc : ∀ o, w'.cell? ⟨b, o, none⟩ = w.cell? ⟨b, o, none⟩ := fun o => World.cell?_of_block (hb b l3)
    exact ⟨u, by rw [hc]; exact c0, by rw [hc]; exact c1, by rw [hc]; exact c2, by rw [hc]; exact c3, ih _ (List.getElem_mem hi) _ hu⟩

theorem OwnT.lies {S : Nat → Prop} {w : World} (t : Tm) : ∀ v, OwnT S w t v → LiesT w t v := by
  induction t using Tm.ind with
  | h k n s ts ih =>
    intro v h
    simp only [OwnT] at h
    simp only [LiesT]
    obtain ⟨h1, h2, h3, h4⟩ := h
    refine ⟨h1, h2, h3, h4.imp id ?_⟩
    rintro ⟨b, cap, e, l1, l2, l3, _, hl⟩
    refine ⟨⟨b, 0, none⟩, cap, e, l1, l2, .inr rfl, LiesL.of_at fun i hi => ?_⟩
    obtain ⟨u, c0, c1, c2, c3, hu⟩ := hl.at i hi
    exact ⟨u, c0, c1, c2, c3, ih _ (List.getElem_mem hi) _ hu⟩

theorem OwnL.of_cells {S : Nat → Prop} {w : World} {g : Nat} : ∀ (l : List (Tm × Value)) (o : Nat), (∀ k u, (flat l)[k]? = some u → w.cell? ⟨g, o + k, none⟩ = some u) → (∀ p ∈ l, OwnT S w p.1 p.2) → OwnL S w (l.map Prod.fst) g o
  | [], _, _, _ => by simp [OwnL]
  | p :: l, o, h, hp => by
    simp only [List.map_cons, OwnL]
    refine ⟨⟨p.2, ?_, ?_, ?_, ?_, hp p (by simp)⟩, OwnL.of_cells l (o + 4) (fun k u hk => ?_) (fun q hq => hp q (by simp [hq]))⟩
    · exact h 0 _ (by simp [flat])
    · exact h 1 _ (by simp [flat])
    · exact h 2 _ (by simp [flat])
    · exact h 3 _ (by simp [flat])
    · rw [show o + 4 + k = o + (k + 4) by omega]
      exact h (k + 4) u (by simpa [flat] using hk)

/-- The row that was built, as the arguments of a term (nil where nothing was appended). -/
theorem OwnT.of_row {S : Nat → Prop} {w : World} {base e n : Nat} {x : Value} {k m : Int} {s : ByteArray} {l : List (Tm × Value)} (hk : I64 k) (hm : I64 m) (hs : s.size ≤ 9223372036854775807) (hn : n = l.length)
    (h : w.ownsRow base e 4 x n (flat l)) (hS : ∀ b, x.ownBlock = some b → S b) (hp : ∀ p ∈ l, OwnT S w p.1 p.2) : OwnT S w (.mk k m s (l.map Prod.fst)) x := by
  subst hn
  unfold OwnT
  refine ⟨hk, hm, hs, ?_⟩
  rcases h.2 with ⟨rfl, h0⟩ | ⟨g, cap, cur, rfl, _, hg, h1, h2, _⟩
  · exact .inl ⟨by rw [List.length_eq_zero_iff.1 h0]; rfl, rfl⟩
  · have hmax : cap ≤ 9223372036854775807 := by simp only [maxLen] at h2; omega
    refine .inr ⟨g, cap, by rw [List.length_map], by rw [List.length_map]; exact h1, hmax, hS g rfl, ⟨cur, e, hg⟩, OwnL.of_cells l 0 (fun k u hk => ?_) hp⟩
    rw [Nat.zero_add, h.cellAt k (by rw [← flat_length]; exact (List.getElem?_eq_some_iff.1 hk).1), hk]

/-- Behind an append: a block below the row's base is as it was. -/
theorem grown_keep {w w' : World} {row : Option Nat} (hg : w.grownBy w' row) {base g : Nat} (hr : ∀ k, row = some k → base ≤ k) (hlt : g < base) {x : Obj} (h : w.heap[g]? = some x) : w'.heap[g]? = some x := by
  rw [hg.block g (Array.getElem?_eq_some_iff.1 h).1 (fun e => by have := hr g e.symm; omega), h]
theorem alloc_keep {w : World} {g : Nat} {x o : Obj} (h : w.heap[g]? = some x) : (w.alloc o).heap[g]? = some x := by
  rw [Below.heap_alloc _ _ _ (Array.getElem?_eq_some_iff.1 h).1, h]

theorem OwnT.one {S : Nat → Prop} {w : World} {t : Tm} {v : Value} (h : OwnT S w t v) : v.oneCell' = true := by
  cases t with
  | mk k n s ts =>
    simp only [OwnT] at h
    rcases h.2.2.2 with ⟨_, rfl⟩ | ⟨b, cap, rfl, _⟩ <;> rfl
theorem length_le_cntL : ∀ ts : List Tm, ts.length ≤ cntL ts
  | [] => by simp
  | t :: ts => by
    have h1 := length_le_cntL ts
    have h2 := cnt_pos t
    simp only [cntL, List.length_cons]; omega
theorem cnt_bounds {k n : Int} {s : ByteArray} {ts : List Tm} {m : Nat} (h : cnt (.mk k n s ts) ≤ m) : ts.length ≤ m ∧ ∀ (i : Nat) (hi : i < ts.length), cnt ts[i] ≤ m := by
  have h1 := length_le_cntL ts
  simp only [cnt] at h
  refine ⟨by omega, fun i hi => ?_⟩
  have := cntL_mem ts _ (List.getElem_mem hi)
  omega

/-- One round: a callee lays a term, it is appended to the row x (which is g behind it), the row's new head is stored in block c. -/
theorem round_own {wr w1 w2 : World} {B c g j : Nat} {o : Obj} {x u : Value} (hb1 : Below wr.heap.size wr w1) (hB : B ≤ wr.heap.size) (hrow : ∀ k, x.ownBlock = some k → B ≤ k ∧ k < wr.heap.size)
    (hgrow : (w1.alloc o).grownBy w2 x.ownBlock) (hat : x.ownBlock = some g ∨ g = w1.heap.size + 1) (hc : c < B) :
    (∀ t v, OwnT (fun b => B ≤ b ∧ b < wr.heap.size ∧ x.ownBlock ≠ some b) wr t v → OwnT (fun b => B ≤ b ∧ b < (w2.setCell ⟨c, j, none⟩ u).heap.size ∧ some g ≠ some b) (w2.setCell ⟨c, j, none⟩ u) t v) ∧
    (∀ t v, OwnT (fun b => wr.heap.size ≤ b ∧ b < w1.heap.size) w1 t v → OwnT (fun b => B ≤ b ∧ b < (w2.setCell ⟨c, j, none⟩ u).heap.size ∧ some g ≠ some b) (w2.setCell ⟨c, j, none⟩ u) t v) := by
  have hs := hb1.size
  have hs2 : w1.heap.size + 1 ≤ w2.heap.size := by have := hgrow.size; simpa using this
  have hs3 : (w2.setCell ⟨c, j, none⟩ u).heap.size = w2.heap.size := by simp [World.setCell]
  have key : ∀ b, b ≠ c → b < w1.heap.size → x.ownBlock ≠ some b → (w2.setCell ⟨c, j, none⟩ u).heap[b]? = w1.heap[b]? := by
    intro b h1 h2 h3
    rw [Below.heap_setCell _ _ _ _ h1, hgrow.block b (by simp; omega) (Ne.symm h3), Below.heap_alloc _ _ _ h2]
  constructor
  · intro t v h
    refine h.keep (fun b hb => by rw [key b (by omega) (by omega) hb.2.2, hb1.block b hb.2.1]) (fun b hb _ => ⟨hb.1, by omega, fun e => ?_⟩)
    rcases hat with h1 | h1
    · exact hb.2.2 (h1.trans e)
    · have := Option.some.inj e; omega
  · intro t v h
    refine h.keep (fun b hb => key b (by omega) hb.2 (fun e => by have := (hrow b e).2; omega)) (fun b hb _ => ⟨by omega, by omega, fun e => ?_⟩)
    have e := Option.some.inj e
    rcases hat with h1 | h1
    · have := (hrow g h1).2; omega
    · omega

end Go.Proofs.HT

/- Of no program: a term with each variable replaced (shifted, numbered, put). -/
namespace Go.Proofs.HT
open Go.RowKit

mutual
def mapT (g : Int → Tm) : Tm → Tm
  | .mk k n s ts => if k = 0 then g n else .mk k n s (mapL g ts)
def mapL (g : Int → Tm) : List Tm → List Tm
  | [] => []
  | t :: ts => mapT g t :: mapL g ts
end
theorem mapL_length (g : Int → Tm) : ∀ ts, (mapL g ts).length = ts.length
  | [] => rfl
  | t :: ts => by simp [mapL, mapL_length g ts]
theorem mapL_get (g : Int → Tm) : ∀ (ts : List Tm) (i : Nat) (h : i < ts.length), (mapL g ts)[i]'(by rw [mapL_length]; exact h) = mapT g ts[i]
  | t :: ts, 0, _ => by simp [mapL]
  | t :: ts, i + 1, h => by simp [mapL, mapL_get g ts i (by simpa using h)]
theorem take_succ_map (g : Int → Tm) (ts : List Tm) (j : Nat) (hj : j < ts.length) (l : List (Tm × Value)) (hl : l.map Prod.fst = (mapL g ts).take j) (v : Value) : (l ++ [(mapT g ts[j], v)]).map Prod.fst = (mapL g ts).take (j + 1) := by
  rw [List.map_append, hl, List.take_succ_eq_append_getElem (by rw [mapL_length]; exact hj), mapL_get g ts j hj]; rfl

theorem nodes_at {k n : Int} {s : ByteArray} {ts : List Tm} (h : nodesB (.mk k n s ts) = true) : nodeB k n s ts.length = true ∧ ∀ (i : Nat) (hi : i < ts.length), nodesB ts[i] = true := by
  rw [nodesB, Bool.and_eq_true] at h
  exact ⟨h.1, fun i hi => (nodesL_iff ts).1 h.2 _ (List.getElem_mem hi)⟩
theorem node_var {n : Int} {s : ByteArray} {l : Nat} (h : nodeB 0 n s l = true) : 0 ≤ n ∧ n ≤ 1099511627776 ∧ s = ⟨#[]⟩ ∧ l = 0 := by
  simp only [nodeB, if_true, decide_eq_true_eq] at h
  refine ⟨h.1, h.2.1, ?_, h.2.2.2⟩
  have := h.2.2.1
  exact ByteArray.ext (Array.size_eq_zero_iff.1 this)

end Go.Proofs.HT

/- Of no program: the nodes of a term from left to right; a walk that visits them with a budget; a visitor's contract. -/
namespace Go.Proofs.HT
open Go.RowKit

mutual
/-- The nodes of a term, from left to right. -/
def pre : Tm → List Tm
  | .mk k n s ts => .mk k n s ts :: preL ts
def preL : List Tm → List Tm
  | [] => []
  | t :: ts => pre t ++ preL ts
end
theorem preL_append : ∀ l m : List Tm, preL (l ++ m) = preL l ++ preL m
  | [], m => by simp [preL]
  | t :: l, m => by simp [preL, preL_append l m]
theorem preL_len : ∀ ts : List Tm, (∀ t ∈ ts, (pre t).length = cnt t) → (preL ts).length = cntL ts
  | [], _ => rfl
  | t :: ts, h => by
    simp only [preL, cntL, List.length_append]
    rw [h t (by simp), preL_len ts (fun x hx => h x (by simp [hx]))]
theorem pre_len (t : Tm) : (pre t).length = cnt t := by
  induction t using Tm.ind with
  | h k n s ts ih => simp only [pre, cnt, List.length_cons]; rw [preL_len ts ih]; omega
theorem preL_length (ts : List Tm) : (preL ts).length = cntL ts := preL_len ts fun t _ => pre_len t
theorem preL_take_succ (ts : List Tm) (j : Nat) (hj : j < ts.length) : preL (ts.take (j + 1)) = preL (ts.take j) ++ pre ts[j] := by
  rw [List.take_succ_eq_append_getElem hj, preL_append]; simp [preL]

/-- What has been visited before the j-th argument. -/
def vsd (t : Tm) (m : Int) (j : Nat) : List Tm := (t :: preL (t.args.take j)).take m.toNat
theorem vsd_zero (t : Tm) (m : Int) (hm : 1 ≤ m) : vsd t m 0 = [t] := by
  unfold vsd
  obtain ⟨k, hk⟩ : ∃ k, m.toNat = k + 1 := ⟨m.toNat - 1, by omega⟩
  rw [hk]; simp [preL]
theorem vsd_step (k n : Int) (s : ByteArray) (ts : List Tm) (m : Int) (j : Nat) (hj : j < ts.length) (hlt : cntP ts m j < m) :
    vsd (.mk k n s ts) m j ++ (pre ts[j]).take (m - cntP ts m j).toNat = vsd (.mk k n s ts) m (j + 1) := by
  unfold vsd
  simp only [Tm.args]
  have h1 : 1 + (cntL (ts.take j) : Int) ≤ m := by
    unfold cntP at hlt; split at hlt <;> omega
  have h2 : cntP ts m j = 1 + (cntL (ts.take j) : Int) := by unfold cntP; rw [if_pos h1]
  have hl : (Tm.mk k n s ts :: preL (ts.take j)).length = 1 + cntL (ts.take j) := by simp [preL_length]; omega
  rw [preL_take_succ ts j hj, ← List.cons_append, List.take_append, hl]
  congr 2
  omega
theorem vsd_all (k n : Int) (s : ByteArray) (ts : List Tm) (m : Int) : vsd (.mk k n s ts) m ts.length = (pre (.mk k n s ts)).take m.toNat := by
  unfold vsd; simp only [Tm.args, List.take_length, pre]
theorem vsd_full (k n : Int) (s : ByteArray) (ts : List Tm) (m : Int) (j : Nat) (h : cntP ts m j = m) : vsd (.mk k n s ts) m j = (pre (.mk k n s ts)).take m.toNat := by
  unfold vsd
  simp only [Tm.args, pre]
  have h1 : m ≤ 1 + (cntL (ts.take j) : Int) := by
    unfold cntP at h; split at h <;> omega
  have e : preL ts = preL (ts.take j) ++ preL (ts.drop j) := by rw [← preL_append, List.take_append_drop]
  have hl : (Tm.mk k n s ts :: preL (ts.take j)).length = 1 + cntL (ts.take j) := by simp [preL_length]; omega
  rw [e, ← List.cons_append, List.take_append_of_le_length (by rw [hl]; omega)]

theorem vsd_len (k n : Int) (s : ByteArray) (ts : List Tm) (m : Int) (j : Nat) (hm : 1 ≤ m) : ((vsd (.mk k n s ts) m j).length : Int) = cntP ts m j := by
  unfold vsd cntP
  have hl : (Tm.mk k n s ts :: preL (ts.take j)).length = 1 + cntL (ts.take j) := by simp [preL_length]; omega
  simp only [Tm.args, List.length_take, hl]
  split <;> omega

/-- A visit has ended. (V ns own w: after the nodes ns, what the visitor owns are the blocks own; W: the world in which the terms lie.) -/
def VisitEnd (V : List Tm → (Nat → Prop) → World → Prop) (W : World) (ns : List Tm) (own : Nat → Prop) (w : World) (e : Ending) (w' : World) : Prop :=
  e = .returned (.tuple #[]) ∧ ∃ own' : Nat → Prop, V ns own' w' ∧ (∀ g, own' g → own g ∨ w.heap.size ≤ g) ∧ w.heap.size ≤ w'.heap.size ∧ (∀ g, g < w.heap.size → ¬ own g → w'.heap[g]? = w.heap[g]?) ∧ Below W.heap.size W w'

/-- What the visitor's state says is a matter of its own blocks. -/
structure VisKeep {σ : Type} (V : σ → (Nat → Prop) → World → Prop) : Prop where
  keep : ∀ ns own w w', V ns own w → (∀ g, own g → w'.heap[g]? = w.heap[g]?) → w.heap.size ≤ w'.heap.size → V ns own w'
  lt : ∀ ns own w g, V ns own w → own g → g < w.heap.size

/-- The walk below a node has ended: its budget lies in block b. -/
def EnterEnd (V : List Tm → (Nat → Prop) → World → Prop) (W : World) (b : Nat) (q : Int) (ns : List Tm) (own : Nat → Prop) (w : World) (e : Ending) (w' : World) : Prop :=
  e = .returned (.tuple #[]) ∧ ∃ own' : Nat → Prop, V ns own' w' ∧ (∀ g, own' g → own g ∨ w.heap.size ≤ g) ∧ w.heap.size ≤ w'.heap.size ∧ (∀ g, g < w.heap.size → g ≠ b → ¬ own g → w'.heap[g]? = w.heap[g]?) ∧
    w'.heap[b]? = some (.cells #[.int .i64 q] 3 (0, 0)) ∧ Below W.heap.size W w'

/-- The budget one less, a box for the node. -/
theorem vis_open {V : List Tm → (Nat → Prop) → World → Prop} (hk : VisKeep V) {W w : World} {ns : List Tm} {own : Nat → Prop} {b : Nat} {x : Value} {o : Obj} (hv : V ns own w) (hb : Below W.heap.size W w) (hB : W.heap.size ≤ b) (hnb : ¬ own b) :
    V ns own ((w.setCell ⟨b, 0, none⟩ x).alloc o) ∧ Below W.heap.size W ((w.setCell ⟨b, 0, none⟩ x).alloc o) := by
  have hs : (w.setCell ⟨b, 0, none⟩ x).heap.size = w.heap.size := by simp [World.setCell]
  refine ⟨hk.keep ns own w _ hv (fun g hg => ?_) (by simp [hs]), (hb.setCell (p := ⟨b, 0, none⟩) hB x).alloc (by rw [hs]; exact hb.size) o⟩
  have h1 := hk.lt ns own w g hv hg
  rw [Below.heap_alloc _ _ _ (by rw [hs]; exact h1), Below.heap_setCell _ _ _ _ (by rintro rfl; exact hnb hg)]

/-- Four blocks made. -/
theorem rows4 (w : World) (o1 o2 o3 o4 : Obj) :
    ((((w.alloc o1).alloc o2).alloc o3).alloc o4).heap[w.heap.size]? = some o1 ∧ ((((w.alloc o1).alloc o2).alloc o3).alloc o4).heap[w.heap.size + 1]? = some o2 ∧
    ((((w.alloc o1).alloc o2).alloc o3).alloc o4).heap[w.heap.size + 1 + 1]? = some o3 ∧ ((((w.alloc o1).alloc o2).alloc o3).alloc o4).heap[w.heap.size + 1 + 1 + 1]? = some o4 ∧
    ((((w.alloc o1).alloc o2).alloc o3).alloc o4).heap.size = w.heap.size + 4 ∧ ∀ g, g < w.heap.size → ((((w.alloc o1).alloc o2).alloc o3).alloc o4).heap[g]? = w.heap[g]? := by
  have e1 : ∀ (w : World) o, (w.alloc o).heap = w.heap.push o := fun _ _ => rfl
  refine ⟨?_, ?_, ?_, ?_, by simp [e1], fun g hg => ?_⟩
  all_goals simp only [e1, Array.getElem?_push, Array.size_push]
  · rw [if_neg (by omega), if_neg (by omega), if_neg (by omega)]; simp
  · rw [if_neg (by omega), if_neg (by omega)]; simp
  · rw [if_neg (by omega)]; simp
  · simp
  · rw [if_neg (by omega), if_neg (by omega), if_neg (by omega), if_neg (by omega)]

/-- Four cells of a block of four stored. -/
theorem four {w : World} {c : Nat} {a0 a1 a2 a3 : Value} {ty : TypeId} (h : w.heap[c]? = some (.cells #[a0, a1, a2, a3] ty (0, 0))) (b0 b1 b2 b3 : Value) :
    ((((w.setCell ⟨c, 0, none⟩ b0).setCell ⟨c, 1, none⟩ b1).setCell ⟨c, 2, none⟩ b2).setCell ⟨c, 3, none⟩ b3).heap[c]? = some (.cells #[b0, b1, b2, b3] ty (0, 0)) ∧
    (∀ g, g ≠ c → ((((w.setCell ⟨c, 0, none⟩ b0).setCell ⟨c, 1, none⟩ b1).setCell ⟨c, 2, none⟩ b2).setCell ⟨c, 3, none⟩ b3).heap[g]? = w.heap[g]?) ∧
    ((((w.setCell ⟨c, 0, none⟩ b0).setCell ⟨c, 1, none⟩ b1).setCell ⟨c, 2, none⟩ b2).setCell ⟨c, 3, none⟩ b3).heap.size = w.heap.size ∧
    (∀ B W0, B ≤ c → Below B W0 w → Below B W0 ((((w.setCell ⟨c, 0, none⟩ b0).setCell ⟨c, 1, none⟩ b1).setCell ⟨c, 2, none⟩ b2).setCell ⟨c, 3, none⟩ b3)) := by
  refine ⟨?_, fun g hg => by rw [Below.heap_setCell _ _ _ _ hg, Below.heap_setCell _ _ _ _ hg, Below.heap_setCell _ _ _ _ hg, Below.heap_setCell _ _ _ _ hg], by simp [World.setCell], fun B W0 hB hb => (((hb.setCell (p := ⟨c, 0, none⟩) hB b0).setCell (p := ⟨c, 1, none⟩) hB b1).setCell (p := ⟨c, 2, none⟩) hB b2).setCell (p := ⟨c, 3, none⟩) hB b3⟩
  have W4 := heap_setCell_same _ _ 3 _ _ b3 (heap_setCell_same _ _ 2 _ _ b2 (heap_setCell_same _ _ 1 _ _ b1 (heap_setCell_same _ _ 0 _ _ b0 h)))
  simpa [Array.setIfInBounds] using W4

/-- Four cells of a row of structs of four stored. -/
theorem fourAt {w : World} {c : Nat} {cs : Array Value} {ty : TypeId} (h : w.heap[c]? = some (.cells cs ty (0, 0))) (j : Nat) (hj : j * 4 + 3 < cs.size) (b0 b1 b2 b3 : Value) :
    (∃ cs', ((((w.setCell ⟨c, j * 4, none⟩ b0).setCell ⟨c, j * 4 + 1, none⟩ b1).setCell ⟨c, j * 4 + 2, none⟩ b2).setCell ⟨c, j * 4 + 3, none⟩ b3).heap[c]? = some (.cells cs' ty (0, 0)) ∧ cs'.size = cs.size ∧
      cs'[j * 4]? = some b0 ∧ cs'[j * 4 + 1]? = some b1 ∧ cs'[j * 4 + 2]? = some b2 ∧ cs'[j * 4 + 3]? = some b3 ∧ ∀ k, k < j * 4 ∨ j * 4 + 3 < k → cs'[k]? = cs[k]?) ∧
    (∀ g, g ≠ c → ((((w.setCell ⟨c, j * 4, none⟩ b0).setCell ⟨c, j * 4 + 1, none⟩ b1).setCell ⟨c, j * 4 + 2, none⟩ b2).setCell ⟨c, j * 4 + 3, none⟩ b3).heap[g]? = w.heap[g]?) ∧
    ((((w.setCell ⟨c, j * 4, none⟩ b0).setCell ⟨c, j * 4 + 1, none⟩ b1).setCell ⟨c, j * 4 + 2, none⟩ b2).setCell ⟨c, j * 4 + 3, none⟩ b3).heap.size = w.heap.size ∧
    (∀ B W0, B ≤ c → Below B W0 w → Below B W0 ((((w.setCell ⟨c, j * 4, none⟩ b0).setCell ⟨c, j * 4 + 1, none⟩ b1).setCell ⟨c, j * 4 + 2, none⟩ b2).setCell ⟨c, j * 4 + 3, none⟩ b3)) := by
  refine ⟨?_, fun g hg => by rw [Below.heap_setCell _ _ _ _ hg, Below.heap_setCell _ _ _ _ hg, Below.heap_setCell _ _ _ _ hg, Below.heap_setCell _ _ _ _ hg], by simp [World.setCell], fun B W0 hB hb => (((hb.setCell (p := ⟨c, j * 4, none⟩) hB b0).setCell (p := ⟨c, j * 4 + 1, none⟩) hB b1).setCell (p := ⟨c, j * 4 + 2, none⟩) hB b2).setCell (p := ⟨c, j * 4 + 3, none⟩) hB b3⟩
  have W4 := heap_setCell_same _ _ (j * 4 + 3) _ _ b3 (heap_setCell_same _ _ (j * 4 + 2) _ _ b2 (heap_setCell_same _ _ (j * 4 + 1) _ _ b1 (heap_setCell_same _ _ (j * 4) _ _ b0 h)))
  refine ⟨_, W4, by simp, ?_, ?_, ?_, ?_, ?_⟩
  all_goals simp only [Array.getElem?_setIfInBounds, Array.size_setIfInBounds]
  · rw [if_neg (by omega), if_neg (by omega), if_neg (by omega)]; simp <;> omega
  · rw [if_neg (by omega), if_neg (by omega)]; simp <;> omega
  · rw [if_neg (by omega)]; simp <;> omega
  · simp <;> omega
  · intro k hk
    rw [if_neg (by omega), if_neg (by omega), if_neg (by omega), if_neg (by omega)]

/-- A whole walk has ended. -/
def WalkEnd (V : List Tm → (Nat → Prop) → World → Prop) (W : World) (t : Tm) (own : Nat → Prop) (w : World) (e : Ending) (w' : World) : Prop :=
  e = .returned (.int .i64 (cntM t 2001)) ∧ ∃ own' : Nat → Prop, V ((pre t).take 2001) own' w' ∧ (∀ g, own' g → own g ∨ w.heap.size ≤ g) ∧ w.heap.size ≤ w'.heap.size ∧ (∀ g, g < w.heap.size → ¬ own g → w'.heap[g]? = w.heap[g]?) ∧ Below W.heap.size W w'

end Go.Proofs.HT

/- Of no program: a map that the call makes, keyed by int64, whose elements are anything: what the block holds in order, an entry put in at a new key, a look-up with and without ok, its length. -/
namespace Go.Proofs.HT
open Go.RowKit Go.MapKept
open Go.ChangeMaps (setBlock heap_setBlock_same heap_setBlock_other)

/-- Block b of w is a map whose entries are these, in this order. -/
def MapI (w : World) (b : Nat) (l : List (Int × Value)) : Prop :=
  ∃ es clock, w.heap[b]? = some (.map es clock) ∧ es.toList.map (fun e => (e.key, e.val)) = l.map fun p => (Value.int .i64 p.1, p.2)

def findI (s : Int) : List (Int × Value) → Option Value
  | [] => none
  | p :: l => if s = p.1 then some p.2 else findI s l

theorem findNowI_at (s : Int) : ∀ (es : List MapEntry) (l : List (Int × Value)) (i : Nat), es.map (fun e => (e.key, e.val)) = l.map (fun p => (Value.int .i64 p.1, p.2)) →
    ∃ r, Instr.findNow (.int .i64) (.int .i64 s) es i = some r ∧ r.map (·.2) = findI s l
  | [], [], _, _ => ⟨none, rfl, rfl⟩
  | [], _ :: _, _, h => by simp at h
  | _ :: _, [], _, h => by simp at h
  | e :: es, p :: l, i, h => by
    simp only [List.map_cons, List.cons.injEq, Prod.mk.injEq] at h
    obtain ⟨⟨hk, hv⟩, h2⟩ := h
    obtain ⟨r0, hr, hiff⟩ := sameNow_of_keys (d := .int .i64) (a := .int .i64 s) (b := .int .i64 p.1) rfl rfl
    by_cases hs : s = p.1
    · have h0 : r0 = true := hiff.2 (by rw [hs])
      subst h0
      exact ⟨some (i, e.val), by simp [Instr.findNow, hk, hr], by simp [findI, hs, hv]⟩
    · have h0 : r0 = false := by
        cases r0
        · rfl
        · exact absurd (Value.int.inj (hiff.1 rfl)).2 hs
      subst h0
      obtain ⟨r, h3, h4⟩ := findNowI_at s es l (i + 1) h2
      exact ⟨r, by simp [Instr.findNow, hk, hr, h3], by simp [findI, hs, h4]⟩

theorem isKey_i64 (s : Int) : IsKey (.int .i64) (.int .i64 s) := rfl

variable {P : Program} {w : World} {b : Nat} {l : List (Int × Value)} {t k e : TypeId}

theorem MapI.made (w : World) : MapI (w.alloc (.map #[] 0)) w.heap.size [] := ⟨#[], 0, (MapKept.heap_alloc w _).1, rfl⟩
theorem MapI.lt (h : MapI w b l) : b < w.heap.size := by
  obtain ⟨es, clock, hb, _⟩ := h
  exact (Array.getElem?_eq_some_iff.1 hb).1
theorem MapI.same {w' : World} (h : MapI w b l) (hb : w'.heap[b]? = w.heap[b]?) : MapI w' b l := by
  obtain ⟨es, clock, h1, h2⟩ := h
  exact ⟨es, clock, hb.trans h1, h2⟩

theorem MapI.put (h : MapI w b l) (ht : P.underlying t = some (.map k e)) (hk : P.underlying k = some (.int .i64)) (s : Int) (v : Value) (hno : findI s l = none) :
    ∃ w', (Instr.mapUpdate t (.map (some b)) (.int .i64 s) v).run P w = .ok () w' ∧ MapI w' b (l ++ [(s, v)]) ∧ Below b w w' ∧ w'.heap.size = w.heap.size ∧ ∀ j, j ≠ b → w'.heap[j]? = w.heap[j]? := by
  obtain ⟨es, clock, hb, hm⟩ := h
  obtain ⟨r, h1, h2⟩ := findNowI_at s es.toList l 0 hm
  have hr : r = none := by rw [hno] at h2; simpa using h2
  subst hr
  refine ⟨setBlock w b (.map (es.push ⟨.int .i64 s, v, clock⟩) (clock + 1)), ?_, ⟨_, _, heap_setBlock_same hb _, by simp [hm]⟩, ⟨rfl, rfl, rfl, by simp [setBlock], fun j hj => heap_setBlock_other hb _ (by omega)⟩, by simp [setBlock], fun j hj => heap_setBlock_other hb _ hj⟩
  simp [Instr.mapUpdate, run_underlying ht, MapKept.run_getObj_map hb, run_checkKey hk (isKey_i64 s), run_findKey hk h1, MapKept.run_setObj_map _ hb, Result.andThen, setBlock]

theorem MapI.look (h : MapI w b l) (ht : P.underlying t = some (.map k e)) (hk : P.underlying k = some (.int .i64)) {z : Value} (hz : (zeroValue e).run P w = .ok z w) (s : Int) :
    (Instr.lookup t (.map (some b)) (.int .i64 s) true).run P w = .ok (.tuple #[(findI s l).getD z, .bool (findI s l).isSome]) w ∧
    (Instr.lookup t (.map (some b)) (.int .i64 s) false).run P w = .ok ((findI s l).getD z) w := by
  obtain ⟨es, clock, hb, hm⟩ := h
  obtain ⟨r, h1, h2⟩ := findNowI_at s es.toList l 0 hm
  rw [← h2]
  constructor <;> cases r <;>
    simp [Instr.lookup, run_underlying ht, MapKept.run_getObj_map hb, run_checkKey hk (isKey_i64 s), run_findKey hk h1, hz, Result.andThen]

theorem findI_none {s : Int} : ∀ {l : List (Int × Value)}, (∀ p ∈ l, s ≠ p.1) → findI s l = none
  | [], _ => rfl
  | p :: l, h => by
    simp only [findI, if_neg (h p (by simp))]
    exact findI_none fun q hq => h q (by simp [hq])

/-- Fits where the next operation is a look-up in a map, and nowhere else. -/
theorem at_lookI {ops : Array Oper} {rest : List Oper} {a : Act} {Q : Exit → Act → World → Prop} {d g f p y} {m x : Operand} {c : Bool}
    (h : wpList P ops Q (Oper.mk d (Op.lookup t m x c) g f p y :: rest) a w) : wpList P ops Q (Oper.mk d (Op.lookup t m x c) g f p y :: rest) a w := h
theorem at_putI {ops : Array Oper} {rest : List Oper} {a : Act} {Q : Exit → Act → World → Prop} {d g f p y} {m x v : Operand}
    (h : wpList P ops Q (Oper.mk d (Op.mapUpdate t m x v) g f p y :: rest) a w) : wpList P ops Q (Oper.mk d (Op.mapUpdate t m x v) g f p y :: rest) a w := h

theorem wpList_put_i64 {ops : Array Oper} {rest : List Oper} {o : Oper} {a : Act} {Q : Exit → Act → World → Prop}
    (hg : o.guard = none) (m x v : Operand) (hop : o.op = Op.mapUpdate t m x v) (ht : P.underlying t = some (.map k e)) (hk : P.underlying k = some (.int .i64))
    (hm : a.eval m = .map (some b)) (h : MapI w b l) (s : Int) (hx : a.eval x = .int .i64 s) (u : Value) (hv : a.eval v = u) (hno : findI s l = none)
    (hK : ∀ w', MapI w' b (l ++ [(s, u)]) → Below b w w' → w'.heap.size = w.heap.size → (∀ j, j ≠ b → w'.heap[j]? = w.heap[j]?) → wpList P ops Q rest (a.put o.dst undef) w') :
    wpList P ops Q (o :: rest) a w := by
  refine wpList_plain hg fun K' hK' => ?_
  obtain ⟨w', hrun, r1, r2, r3, r4⟩ := h.put ht hk s u hno
  unfold Oper.wp
  simp [execOp, hop, hm, hx, hv, hrun, Result.andThen]
  exact hK' _ _ (hK w' r1 r2 r3 r4)

/-- The look-up with ok, at the operation. -/
theorem wpList_look_ok_i64 {ops : Array Oper} {rest : List Oper} {o : Oper} {a : Act} {Q : Exit → Act → World → Prop}
    (hg : o.guard = none) (m x : Operand) (hop : o.op = Op.lookup t m x true) (ht : P.underlying t = some (.map k e)) (hk : P.underlying k = some (.int .i64))
    (hm : a.eval m = .map (some b)) (h : MapI w b l) {z : Value} (hz : (zeroValue e).run P w = .ok z w) (s : Int) (hx : a.eval x = .int .i64 s) {r : Value} {c : Bool} (hr : (findI s l).getD z = r) (hc : (findI s l).isSome = c)
    (hK : wpList P ops Q rest (a.put o.dst (.tuple #[r, .bool c])) w) :
    wpList P ops Q (o :: rest) a w := by
  refine wpList_plain hg fun K' hK' => ?_
  have hrun := (h.look ht hk hz s).1
  rw [hr, hc] at hrun
  unfold Oper.wp
  simp [execOp, hop, hm, hx, hrun, Result.andThen]
  exact hK' _ _ hK

/-- The run of a look-up without ok, for a region that reads. -/
theorem run_look_i64 (h : MapI w b l) (ht : P.underlying t = some (.map k e)) (hk : P.underlying k = some (.int .i64)) {z : Value} (hz : (zeroValue e).run P w = .ok z w) (s : Int) {r : Value} (hr : (findI s l).getD z = r) :
    (Instr.lookup t (.map (some b)) (.int .i64 s) false).run P w = .ok r w := by
  rw [← hr]; exact (h.look ht hk hz s).2

theorem MapI.len (h : MapI w b l) (ht : P.underlying t = some (.map k e)) (ty : TypeId) : (Builtin.len_ #[t] ty #[.map (some b)]).run P w = .ok (.int .i64 l.length) w := by
  obtain ⟨es, clock, hb, hm⟩ := h
  have hl : es.size = l.length := by
    have := congrArg List.length hm
    simpa using this
  rw [← hl]
  simp [Builtin.len_, run_underlying ht, MapKept.run_getObj_map hb, goInt, Result.andThen]
theorem wpList_len_i64 {ops : Array Oper} {rest : List Oper} {o : Oper} {a : Act} {Q : Exit → Act → World → Prop} (hg : o.guard = none) (m : Operand) (hop : o.op = Op.call { callee := Callee.builtin Builtin.len, args := #[m], argTypes := #[t] })
    (ht : P.underlying t = some (.map k e)) (hm : a.eval m = .map (some b)) (h : MapI w b l) (n : Nat) (hn : l.length = n)
    (hK : wpList P ops Q rest (a.put o.dst (.int .i64 n)) w) : wpList P ops Q (o :: rest) a w := by
  refine wpList_plain hg fun K' hK' => ?_
  subst hn
  unfold Oper.wp
  simp [execOp, hop, resolve, invoke, builtin, hm, h.len ht o.type, Result.andThen]
  exact hK' _ _ hK

end Go.Proofs.HT

/- Of no program: a term all of whose arrays lie in blocks of a set S. -/
namespace Go.Proofs.HT
open Go.RowKit

mutual
def LiesS (S : Nat → Prop) (w : World) : Tm → Value → Prop
  | .mk k n s ts, v => I64 k ∧ I64 n ∧ s.size ≤ 9223372036854775807 ∧
    ((ts = [] ∧ v = .slice none 0 0) ∨ ∃ (a : Addr) (cap : Nat), v = .slice (some a) ts.length cap ∧ ts.length ≤ cap ∧ cap ≤ 9223372036854775807 ∧ (ts = [] ∨ (a.spot = none ∧ S a.block)) ∧ LiesSL S w ts a.block a.off)
def LiesSL (S : Nat → Prop) (w : World) : List Tm → Nat → Nat → Prop
  | [], _, _ => True
  | t :: ts, b, o => (∃ v, w.cell? ⟨b, o, none⟩ = some (.int .i64 t.kind) ∧ w.cell? ⟨b, o + 1, none⟩ = some (.int .i64 t.num) ∧ w.cell? ⟨b, o + 2, none⟩ = some (.string t.name) ∧ w.cell? ⟨b, o + 3, none⟩ = some v ∧ LiesS S w t v) ∧ LiesSL S w ts b (o + 4)
end
theorem LiesSL.at {S : Nat → Prop} {w : World} : ∀ {ts : List Tm} {b o : Nat}, LiesSL S w ts b o → ∀ (i : Nat) (h : i < ts.length), ∃ v, w.cell? ⟨b, o + i * 4, none⟩ = some (.int .i64 ts[i].kind) ∧ w.cell? ⟨b, o + i * 4 + 1, none⟩ = some (.int .i64 ts[i].num) ∧
    w.cell? ⟨b, o + i * 4 + 2, none⟩ = some (.string ts[i].name) ∧ w.cell? ⟨b, o + i * 4 + 3, none⟩ = some v ∧ LiesS S w ts[i] v
  | [], _, _, _, i, hi => absurd hi (by simp)
  | t :: ts, b, o, hl, 0, _ => by
    simp only [LiesSL] at hl
    simpa using hl.1
  | t :: ts, b, o, hl, i + 1, hi => by
    simp only [LiesSL] at hl
    have := hl.2.at i (by simpa using hi)
    rw [show o + (i + 1) * 4 = o + 4 + i * 4 by omega]
    simpa using this
theorem LiesSL.of_at {S : Nat → Prop} {w : World} : ∀ {ts : List Tm} {b o : Nat}, (∀ (i : Nat) (h : i < ts.length), ∃ v, w.cell? ⟨b, o + i * 4, none⟩ = some (.int .i64 ts[i].kind) ∧ w.cell? ⟨b, o + i * 4 + 1, none⟩ = some (.int .i64 ts[i].num) ∧
    w.cell? ⟨b, o + i * 4 + 2, none⟩ = some (.string ts[i].name) ∧ w.cell? ⟨b, o + i * 4 + 3, none⟩ = some v ∧ LiesS S w ts[i] v) → LiesSL S w ts b o
  | [], _, _, _ => by simp [LiesSL]
  | t :: ts, b, o, h => by
    simp only [LiesSL]
    refine ⟨?_, LiesSL.of_at fun i hi => ?_⟩
    · obtain ⟨v, h0, h1, h2, h3, h4⟩ := h 0 (Nat.succ_pos _)
      rw [Nat.zero_mul, Nat.add_zero] at h0 h1 h2 h3
      exact ⟨v, h0, h1, h2, h3, h4⟩
    · obtain ⟨v, h0, h1, h2, h3, h4⟩ := h (i + 1) (Nat.succ_lt_succ hi)
      rw [show o + (i + 1) * 4 = o + 4 + i * 4 by omega] at h0 h1 h2 h3
      exact ⟨v, h0, h1, h2, h3, h4⟩
theorem LiesS.lies {S : Nat → Prop} {w : World} (t : Tm) : ∀ v, LiesS S w t v → LiesT w t v := by
  induction t using Tm.ind with
  | h k n s ts ih =>
    intro v h
    simp only [LiesS] at h
    simp only [LiesT]
    obtain ⟨h1, h2, h3, h4⟩ := h
    refine ⟨h1, h2, h3, h4.imp id ?_⟩
    rintro ⟨a, cap, e, l1, l2, l3, hl⟩
    refine ⟨a, cap, e, l1, l2, l3.imp id And.left, LiesL.of_at fun i hi => ?_⟩
    obtain ⟨u, c0, c1, c2, c3, hu⟩ := hl.at i hi
    exact ⟨u, c0, c1, c2, c3, ih _ (List.getElem_mem hi) _ hu⟩
theorem LiesT.inS {w : World} (t : Tm) : ∀ v, LiesT w t v → LiesS (fun b => b < w.heap.size) w t v := by
  induction t using Tm.ind with
  | h k n s ts ih =>
    intro v h
    simp only [LiesT] at h
    simp only [LiesS]
    obtain ⟨h1, h2, h3, h4⟩ := h
    refine ⟨h1, h2, h3, h4.imp id ?_⟩
    rintro ⟨a, cap, e, l1, l2, l3, hl⟩
    refine ⟨a, cap, e, l1, l2, ?_, LiesSL.of_at fun i hi => ?_⟩
    · by_cases hz : ts = []
      · exact .inl hz
      · obtain ⟨u, c0, _⟩ := hl.at 0 (List.length_pos_iff.2 hz)
        exact .inr ⟨l3.resolve_left hz, World.block_lt_of_cell? w ⟨a.block, a.off + 0 * 4, none⟩ c0⟩
    · obtain ⟨u, c0, c1, c2, c3, hu⟩ := hl.at i hi
      exact ⟨u, c0, c1, c2, c3, ih _ (List.getElem_mem hi) _ hu⟩
theorem LiesS.keep {S S' : Nat → Prop} {w w' : World} (hc : ∀ b o x, S b → w.cell? ⟨b, o, none⟩ = some x → w'.cell? ⟨b, o, none⟩ = some x) (hS : ∀ b, S b → b < w.heap.size → S' b) (t : Tm) : ∀ v, LiesS S w t v → LiesS S' w' t v := by
  induction t using Tm.ind with
  | h k n s ts ih =>
    intro v h
    simp only [LiesS] at h ⊢
    obtain ⟨h1, h2, h3, h4⟩ := h
    refine ⟨h1, h2, h3, h4.imp id ?_⟩
    rintro ⟨a, cap, e, l1, l2, l3, hl⟩
    by_cases hz : ts = []
    · subst hz
      exact ⟨a, cap, e, l1, l2, .inl rfl, by simp [LiesSL]⟩
    · obtain ⟨l4, l5⟩ := l3.resolve_left hz
      refine ⟨a, cap, e, l1, l2, .inr ⟨l4, ?_⟩, LiesSL.of_at fun i hi => ?_⟩
      · obtain ⟨u, c0, _⟩ := hl.at 0 (List.length_pos_iff.2 hz)
        exact hS _ l5 (World.block_lt_of_cell? w ⟨a.block, a.off + 0 * 4, none⟩ c0)
      · obtain ⟨u, c0, c1, c2, c3, hu⟩ := hl.at i hi
        exact ⟨u, hc _ _ _ l5 c0, hc _ _ _ l5 c1, hc _ _ _ l5 c2, hc _ _ _ l5 c3, ih _ (List.getElem_mem hi) _ hu⟩
theorem LiesS.slice {S : Nat → Prop} {w : World} {t : Tm} {v : Value} (h : LiesS S w t v) : ∃ a cap, v = .slice a t.args.length cap := by
  cases t with
  | mk k n s ts =>
    simp only [LiesS] at h
    rcases h.2.2.2 with ⟨rfl, rfl⟩ | ⟨a, cap, rfl, _⟩
    · exact ⟨_, _, rfl⟩
    · exact ⟨_, _, rfl⟩
/-- Two terms in one new block: the pair of them. -/
theorem LiesS.two {S : Nat → Prop} {w : World} {g : Nat} {x y : Tm} {vx vy : Value} {ty : TypeId} {nm : ByteArray} (hn : nm.size ≤ 9223372036854775807) (hg : w.heap[g]? = some (.cells #[.int .i64 x.kind, .int .i64 x.num, .string x.name, vx, .int .i64 y.kind, .int .i64 y.num, .string y.name, vy] ty (0, 0)))
    (hS : S g) (hx : LiesS S w x vx) (hy : LiesS S w y vy) : LiesS S w (.mk 3 0 nm [x, y]) (.slice (some ⟨g, 0, none⟩) 2 2) := by
  simp only [LiesS]
  refine ⟨⟨by omega, by omega⟩, ⟨by omega, by omega⟩, hn, .inr ⟨⟨g, 0, none⟩, 2, rfl, by simp, by omega, .inr ⟨rfl, hS⟩, ?_⟩⟩
  simp only [LiesSL]
  refine ⟨⟨vx, ?_, ?_, ?_, ?_, hx⟩, ⟨vy, ?_, ?_, ?_, ?_, hy⟩, trivial⟩
  all_goals rw [cell_of_row _ _ _ _ _ _ hg]; rfl

end Go.Proofs.HT

/- Of no program: an environment of terms and cells, for walks over closed tests. -/
namespace Go.Proofs.HT
open Go.RowKit

/-- Terms that lie in w. -/
def EnvT (w : World) : List (Tm × Value) → Prop
  | [] => True
  | p :: l => LiesT w p.1 p.2 ∧ EnvT w l
/-- Cells of w. -/
def EnvC (w : World) : List (Addr × Value) → Prop
  | [] => True
  | p :: l => w.cell? p.1 = some p.2 ∧ EnvC w l
theorem EnvT.hd {w : World} {p : Tm × Value} {l : List (Tm × Value)} (h : EnvT w (p :: l)) : LiesT w p.1 p.2 := by simp only [EnvT] at h; exact h.1
theorem EnvT.tl {w : World} {p : Tm × Value} {l : List (Tm × Value)} (h : EnvT w (p :: l)) : EnvT w l := by simp only [EnvT] at h; exact h.2
theorem EnvT.push {w : World} {t : Tm} {v : Value} {l : List (Tm × Value)} (h : EnvT w l) (ht : LiesT w t v) : EnvT w ((t, v) :: l) := by simp only [EnvT]; exact ⟨ht, h⟩
theorem EnvC.hd {w : World} {p : Addr × Value} {l : List (Addr × Value)} (h : EnvC w (p :: l)) : w.cell? p.1 = some p.2 := by simp only [EnvC] at h; exact h.1
theorem EnvC.tl {w : World} {p : Addr × Value} {l : List (Addr × Value)} (h : EnvC w (p :: l)) : EnvC w l := by simp only [EnvC] at h; exact h.2
theorem EnvC.push {w : World} {a : Addr} {v : Value} {l : List (Addr × Value)} (h : EnvC w l) (ht : w.cell? a = some v) : EnvC w ((a, v) :: l) := by simp only [EnvC]; exact ⟨ht, h⟩
theorem EnvT.below {w w' : World} (hb : Below w.heap.size w w') : ∀ {l : List (Tm × Value)}, EnvT w l → EnvT w' l
  | [], _ => by simp [EnvT]
  | _ :: _, h => by simp only [EnvT] at h ⊢; exact ⟨h.1.below hb, EnvT.below hb h.2⟩
theorem EnvC.below {w w' : World} (hb : Below w.heap.size w w') : ∀ {l : List (Addr × Value)}, EnvC w l → EnvC w' l
  | [], _ => by simp [EnvC]
  | _ :: _, h => by simp only [EnvC] at h ⊢; exact ⟨cell_below hb _ _ h.1, EnvC.below hb h.2⟩
/-- All that is held: terms, cells, and that nothing elder has turned. -/
structure Env (w0 w : World) (lt : List (Tm × Value)) (lc : List (Addr × Value)) : Prop where
  t : EnvT w lt
  c : EnvC w lc
  b : Below w0.heap.size w0 w
theorem Env.start (w : World) : Env w w [] [] := ⟨by simp [EnvT], by simp [EnvC], Below.refl _ _⟩
theorem Env.step {w0 w w' : World} {lt : List (Tm × Value)} {lc : List (Addr × Value)} (h : Env w0 w lt lc) (hb : Below w.heap.size w w') : Env w0 w' lt lc := ⟨h.t.below hb, h.c.below hb, h.b.trans (hb.mono h.b.size)⟩
theorem Env.alloc {w0 w : World} {lt : List (Tm × Value)} {lc : List (Addr × Value)} (h : Env w0 w lt lc) (o : Obj) : Env w0 (w.alloc o) lt lc := h.step ((Below.refl _ _).alloc (Nat.le_refl _) o)
theorem Env.pushT {w0 w : World} {lt : List (Tm × Value)} {lc : List (Addr × Value)} (h : Env w0 w lt lc) {t : Tm} {v : Value} (ht : LiesT w t v) : Env w0 w ((t, v) :: lt) lc := ⟨h.t.push ht, h.c, h.b⟩
theorem Env.pushC {w0 w : World} {lt : List (Tm × Value)} {lc : List (Addr × Value)} (h : Env w0 w lt lc) {a : Addr} {v : Value} (ht : w.cell? a = some v) : Env w0 w lt ((a, v) :: lc) := ⟨h.t, h.c.push ht, h.b⟩
/-- The temporaries forgotten. -/
theorem Env.bare {w0 w : World} {lt : List (Tm × Value)} {lc : List (Addr × Value)} (h : Env w0 w lt lc) : Env w0 w [] [] := ⟨by simp [EnvT], by simp [EnvC], h.b⟩
/-- A box of four cells, new. -/
theorem Env.box {w0 w : World} {lt : List (Tm × Value)} {lc : List (Addr × Value)} (h : Env w0 w lt lc) {g : Nat} (hg : w.heap.size = g) (a0 a1 a2 a3 : Value) (ty : TypeId) :
    Env w0 (w.alloc (.cells #[a0, a1, a2, a3] ty)) lt ((⟨g, 0, none⟩, a0) :: (⟨g, 1, none⟩, a1) :: (⟨g, 2, none⟩, a2) :: (⟨g, 3, none⟩, a3) :: lc) := by
  subst hg
  have hr := heap_alloc_new w (.cells #[a0, a1, a2, a3] ty)
  refine ((((h.alloc _).pushC ?_).pushC ?_).pushC ?_).pushC ?_
  all_goals rw [cell_of_row _ _ _ _ _ _ hr]; rfl

/-- The terms of a new block, one behind the other. -/
theorem lies_new {w : World} {g : Nat} {ty : TypeId} (hg : w.heap.size = g) (l : List (Tm × Value)) (hl : EnvT w l) (hn : l.length ≤ 1000) : LiesT (w.alloc (.cells (flat l).toArray ty)) (.mk 3 0 ⟨#[]⟩ (l.map Prod.fst)) (.slice (some ⟨g, 0, none⟩) l.length l.length) := by
  subst hg
  have hr := heap_alloc_new w (.cells (flat l).toArray ty)
  have hb : Below w.heap.size w (w.alloc (.cells (flat l).toArray ty)) := (Below.refl _ _).alloc (Nat.le_refl _) _
  unfold LiesT
  refine ⟨⟨by omega, by omega⟩, ⟨by omega, by omega⟩, by simp [ByteArray.size], .inr ⟨⟨w.heap.size, 0, none⟩, l.length, by rw [List.length_map], by rw [List.length_map]; exact Nat.le_refl _, by omega, .inr rfl, LiesL.of_cells l 0 (fun k u hk => ?_) ?_⟩⟩
  · rw [Nat.zero_add, cell_of_row _ _ _ _ _ _ hr]; simpa using hk
  · have key : ∀ (m : List (Tm × Value)), EnvT w m → ∀ p ∈ m, LiesT w p.1 p.2 := by
      intro m
      induction m with
      | nil => intro _ p hp; simp at hp
      | cons x m ih => intro h p hp; rcases List.mem_cons.1 hp with rfl | hp; exact h.hd; exact ih h.tl p hp
    exact fun p hp => (key l hl p hp).below hb

end Go.Proofs.HT
