/- Of no program: a map literal keyed by strings whose elements are anything (functions): what the block holds, an entry put in, a look-up with ok. -/
import Derived.Maps.OwnOps
namespace Go.Proofs.HF
open Go.RowKit Go.MapKept
open Go.ChangeMaps (setBlock heap_setBlock_same heap_setBlock_other)

/-- Block b of w is a map whose entries are these, in this order. -/
def FnMap (w : World) (b : Nat) (l : List (ByteArray × Value)) : Prop :=
  ∃ es clock, w.heap[b]? = some (.map es clock) ∧ es.toList.map (fun e => (e.key, e.val)) = l.map fun p => (Value.string p.1, p.2)

def fnFind (s : ByteArray) : List (ByteArray × Value) → Option Value
  | [] => none
  | p :: l => if s = p.1 then some p.2 else fnFind s l

theorem findNow_at (s : ByteArray) : ∀ (es : List MapEntry) (l : List (ByteArray × Value)) (i : Nat), es.map (fun e => (e.key, e.val)) = l.map (fun p => (Value.string p.1, p.2)) →
    ∃ r, Instr.findNow .string (.string s) es i = some r ∧ r.map (·.2) = fnFind s l
  | [], [], _, _ => ⟨none, rfl, rfl⟩
  | [], _ :: _, _, h => by simp at h
  | _ :: _, [], _, h => by simp at h
  | e :: es, p :: l, i, h => by
    simp only [List.map_cons, List.cons.injEq, Prod.mk.injEq] at h
    obtain ⟨⟨hk, hv⟩, h2⟩ := h
    obtain ⟨r0, hr, hiff⟩ := sameNow_of_keys (d := .string) (a := .string s) (b := .string p.1) trivial trivial
    by_cases hs : s = p.1
    · have h0 : r0 = true := hiff.2 (by rw [hs])
      subst h0
      exact ⟨some (i, e.val), by simp [Instr.findNow, hk, hr], by simp [fnFind, hs, hv]⟩
    · have h0 : r0 = false := by
        cases r0
        · rfl
        · exact absurd (Value.string.inj (hiff.1 rfl)) hs
      subst h0
      obtain ⟨r, h3, h4⟩ := findNow_at s es l (i + 1) h2
      exact ⟨r, by simp [Instr.findNow, hk, hr, h3], by simp [fnFind, hs, h4]⟩

theorem isKey_str (s : ByteArray) : IsKey .string (.string s) := trivial

variable {P : Program} {w : World} {b : Nat} {l : List (ByteArray × Value)} {t k e : TypeId}

theorem FnMap.made (w : World) : FnMap (w.alloc (.map #[] 0)) w.heap.size [] := ⟨#[], 0, (MapKept.heap_alloc w _).1, rfl⟩
theorem FnMap.lt (h : FnMap w b l) : b < w.heap.size := by
  obtain ⟨es, clock, hb, _⟩ := h
  exact (Array.getElem?_eq_some_iff.1 hb).1
theorem FnMap.same {w' : World} (h : FnMap w b l) (hb : w'.heap[b]? = w.heap[b]?) : FnMap w' b l := by
  obtain ⟨es, clock, h1, h2⟩ := h
  exact ⟨es, clock, hb.trans h1, h2⟩
theorem FnMap.alloc (h : FnMap w b l) (o : Obj) : FnMap (w.alloc o) b l := h.same (Below.heap_alloc _ _ _ h.lt)
theorem FnMap.below {w' : World} {B : Nat} (h : FnMap w b l) (hB : b < B) (hb : Below B w w') : FnMap w' b l := h.same (hb.block _ hB)

theorem FnMap.put (h : FnMap w b l) (ht : P.underlying t = some (.map k e)) (hk : P.underlying k = some .string) (s : ByteArray) (v : Value) (hno : fnFind s l = none) :
    ∃ w', (Instr.mapUpdate t (.map (some b)) (.string s) v).run P w = .ok () w' ∧ FnMap w' b (l ++ [(s, v)]) ∧ Below b w w' ∧ w'.heap.size = w.heap.size ∧ ∀ j, j ≠ b → w'.heap[j]? = w.heap[j]? := by
  obtain ⟨es, clock, hb, hm⟩ := h
  obtain ⟨r, h1, h2⟩ := findNow_at s es.toList l 0 hm
  have hr : r = none := by rw [hno] at h2; simpa using h2
  subst hr
  refine ⟨setBlock w b (.map (es.push ⟨.string s, v, clock⟩) (clock + 1)), ?_, ⟨_, _, heap_setBlock_same hb _, by simp [hm]⟩, ⟨rfl, rfl, rfl, by simp [setBlock], fun j hj => heap_setBlock_other hb _ (by omega)⟩, by simp [setBlock], fun j hj => heap_setBlock_other hb _ hj⟩
  simp [Instr.mapUpdate, run_underlying ht, MapKept.run_getObj_map hb, run_checkKey hk (isKey_str s), run_findKey hk h1, MapKept.run_setObj_map _ hb, Result.andThen, setBlock]

theorem FnMap.look (h : FnMap w b l) (ht : P.underlying t = some (.map k e)) (hk : P.underlying k = some .string) {z : Value} (hz : (zeroValue e).run P w = .ok z w) (s : ByteArray) :
    (Instr.lookup t (.map (some b)) (.string s) true).run P w = .ok (.tuple #[(fnFind s l).getD z, .bool (fnFind s l).isSome]) w := by
  obtain ⟨es, clock, hb, hm⟩ := h
  obtain ⟨r, h1, h2⟩ := findNow_at s es.toList l 0 hm
  rw [← h2]
  cases r <;>
    simp [Instr.lookup, run_underlying ht, MapKept.run_getObj_map hb, run_checkKey hk (isKey_str s), run_findKey hk h1, hz, Result.andThen]

theorem fnFind_no {s : ByteArray} : ∀ {l : List (ByteArray × Value)} {ks : List ByteArray}, l.map (·.1) = ks → (∀ x ∈ ks, s ≠ x) → fnFind s l = none
  | [], _, _, _ => rfl
  | p :: l, _, hk, h => by
    subst hk
    have h1 : s ≠ p.1 := h _ (by simp)
    simp only [fnFind, if_neg h1]
    exact fnFind_no rfl fun x hx => h x (by simp only [List.map_cons, List.mem_cons]; exact .inr hx)

/-- An entry of the literal, at the operation. -/
theorem wpList_insert_fn {ops : Array Oper} {rest : List Oper} {o : Oper} {a : Act} {Q : Exit → Act → World → Prop}
    (hg : o.guard = none) (m x v : Operand) (hop : o.op = Op.insert t m x v) (ht : P.underlying t = some (.map k e)) (hk : P.underlying k = some .string)
    (hm : a.eval m = .map (some b)) (h : FnMap w b l) (s : ByteArray) (hx : a.eval x = .string s) (u : Value) (hv : a.eval v = u) (ks : List ByteArray) (hks : l.map (·.1) = ks) (hno : ∀ x ∈ ks, s ≠ x)
    (hK : ∀ w', FnMap w' b (l ++ [(s, u)]) → Below b w w' → w'.heap.size = w.heap.size → (∀ j, j ≠ b → w'.heap[j]? = w.heap[j]?) → wpList P ops Q rest (a.put o.dst undef) w') :
    wpList P ops Q (o :: rest) a w := by
  refine wpList_plain hg fun K' hK' => ?_
  obtain ⟨w', hrun, r1, r2, r3, r4⟩ := h.put ht hk s u (fnFind_no hks hno)
  unfold Oper.wp
  simp [execOp, hop, hm, hx, hv, hrun, Result.andThen]
  exact hK' _ _ (hK w' r1 r2 r3 r4)


/-- Fits where the next operation puts an entry into a map literal, and nowhere else. -/
theorem at_insert {ops : Array Oper} {rest : List Oper} {a : Act} {Q : Exit → Act → World → Prop} {d g f p y} {m x v : Operand}
    (h : wpList P ops Q (Oper.mk d (Op.insert t m x v) g f p y :: rest) a w) : wpList P ops Q (Oper.mk d (Op.insert t m x v) g f p y :: rest) a w := h
/-- Fits where the next operation is a look-up with ok in a map, and nowhere else. -/
theorem at_look {ops : Array Oper} {rest : List Oper} {a : Act} {Q : Exit → Act → World → Prop} {d g f p y} {m x : Operand}
    (h : wpList P ops Q (Oper.mk d (Op.lookup t m x true) g f p y :: rest) a w) : wpList P ops Q (Oper.mk d (Op.lookup t m x true) g f p y :: rest) a w := h

/-- The look-up, at the operation. -/
theorem wpList_look_fn {ops : Array Oper} {rest : List Oper} {o : Oper} {a : Act} {Q : Exit → Act → World → Prop}
    (hg : o.guard = none) (m x : Operand) (hop : o.op = Op.lookup t m x true) (ht : P.underlying t = some (.map k e)) (hk : P.underlying k = some .string)
    (hm : a.eval m = .map (some b)) (h : FnMap w b l) {z : Value} (hz : (zeroValue e).run P w = .ok z w) (s : ByteArray) (hx : a.eval x = .string s) {r : Value} {c : Bool} (hr : (fnFind s l).getD z = r) (hc : (fnFind s l).isSome = c)
    (hK : wpList P ops Q rest (a.put o.dst (.tuple #[r, .bool c])) w) :
    wpList P ops Q (o :: rest) a w := by
  refine wpList_plain hg fun K' hK' => ?_
  have hrun := h.look ht hk hz s
  rw [hr, hc] at hrun
  unfold Oper.wp
  simp [execOp, hop, hm, hx, hrun, Result.andThen]
  exact hK' _ _ hK

end Go.Proofs.HF
