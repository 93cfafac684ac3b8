/- Of no program: what a listed variable of plain data (integers, bools, strings, structs and arrays of these) holds, cell by cell, out of what it reads as. -/
import Derived.WalkKit
import Derived.ProofKit
import Derived.LaidMore
import Derived.OpenShut
set_option linter.unusedVariables false
set_option linter.unusedSimpArgs false
namespace Go.Proofs.HG
open Go.RowKit
variable {H : Type}

/-- The cells of a plain datum, in order. -/
def cellsD : DataW H → List Value
  | .lit (.int k n) => [.int k n]
  | .lit (.bool b) => [.bool b]
  | .lit (.string l) => [.string ⟨l.toArray⟩]
  | .agg ds => cellsL ds
  | _ => []
where cellsL : List (DataW H) → List Value
  | [] => []
  | d :: ds => cellsD d ++ cellsL ds

theorem cellsD_agg (ds : List (DataW H)) : cellsD (.agg ds) = (ds.map cellsD).flatten := by
  rw [cellsD]
  induction ds with
  | nil => rfl
  | cons d r ih => rw [cellsD.cellsL, ih]; rfl

/-- The fields lie one behind the other from cell o to cell m. -/
def tiles (P : Program) : List Field → Nat → Nat → Bool
  | [], o, m => o == m
  | f :: fs, o, m => f.offset == o && tiles P fs (o + P.cellsOf f.type) m

/-- A type of plain data. -/
def plainT (P : Program) : Nat → TypeId → Bool
  | 0, _ => false
  | n + 1, t =>
    match P.underlying t with
    | some .bool => true
    | some (.int _) => true
    | some .string => true
    | some (.struct fs) => tiles P fs.toList 0 (P.cellsOf t) && fs.toList.all fun f => plainT P n f.type
    | some (.array k e) => P.cellsOf t == k * P.cellsOf e && plainT P n e
    | _ => false

variable {enc : TypeId × Value → H} {P : Program} {w : World} {base : Nat} {spare : Nat → Bool} {held : Bool}

theorem mapM_cells {α : Type} (g : α → List Value) (f : α → Option (DataW H × List MemPlace)) : ∀ (l : List α) (xs : List (DataW H × List MemPlace)), l.mapM f = some xs → (∀ a ∈ l, ∀ x, f a = some x → g a = cellsD x.1) →
    (l.map g).flatten = ((xs.map (·.1)).map cellsD).flatten
  | [], xs, h, _ => by simp at h; subst h; rfl
  | a :: l, xs, h, hf => by
    simp only [List.mapM_cons, Option.bind_eq_bind, Option.bind_eq_some_iff, Option.pure_def, Option.some.injEq] at h
    obtain ⟨x, hx, r, hr, rfl⟩ := h
    have ih := mapM_cells g f l r hr (fun b hb => hf b (List.mem_cons_of_mem _ hb))
    simp only [List.map_cons, List.flatten_cons, ih, hf a (List.mem_cons_self ..) x hx]

theorem tiles_cells (cs : List Value) : ∀ (fs : List Field) (o m : Nat), tiles P fs o m = true → m = cs.length → o ≤ cs.length → (fs.map fun f => (cs.drop f.offset).take (P.cellsOf f.type)).flatten = cs.drop o
  | [], o, m, h, hm, _ => by
    simp [tiles] at h
    simp [List.drop_eq_nil_of_le (show cs.length ≤ o by omega)]
  | f :: fs, o, m, h, hm, ho => by
    simp only [tiles, Bool.and_eq_true, beq_iff_eq] at h
    obtain ⟨h1, h2⟩ := h
    have hle : ∀ (fs : List Field) (o : Nat), tiles P fs o m = true → o ≤ m := by
      intro fs
      induction fs with
      | nil => intro o h; simp [tiles] at h; omega
      | cons f r ih =>
        intro o h
        simp only [tiles, Bool.and_eq_true, beq_iff_eq] at h
        have := ih _ h.2
        omega
    have h3 := hle _ _ h2
    have ih := tiles_cells cs fs (o + P.cellsOf f.type) m h2 hm (by omega)
    rw [List.map_cons, List.flatten_cons, ih, h1, ← List.drop_drop]
    exact List.take_append_drop _ _

theorem array_cells (k : Nat) : ∀ (n : Nat) (cs : List Value), cs.length = n * k → ((List.range n).map fun i => (cs.drop (i * k)).take k).flatten = cs
  | 0, cs, h => by simp at h; simp [h]
  | n + 1, cs, h => by
    rw [List.range_succ_eq_map, List.map_cons, List.flatten_cons, List.map_map]
    have ih := array_cells k n (cs.drop k) (by rw [List.length_drop, h, Nat.add_mul]; omega)
    have e : ((fun i => (cs.drop (i * k)).take k) ∘ Nat.succ) = fun i => ((cs.drop k).drop (i * k)).take k := by
      funext i
      simp only [Function.comp, List.drop_drop, Nat.succ_eq_add_one, Nat.add_mul, Nat.one_mul]
      rw [Nat.add_comm]
    rw [e, ih, Nat.zero_mul, List.drop_zero]
    exact List.take_append_drop _ _

/-- WHAT READS AS A PLAIN DATUM HOLDS JUST ITS CELLS. -/
theorem cells_of_plain : ∀ (n : Nat) (t : TypeId), plainT P n t = true → ∀ (fuel : Nat) (cs : List Value) (x : DataW H × List MemPlace), DataW.trod enc P w base spare held fuel t cs = some x → cs = cellsD x.1
  | 0, t, h, _, _, _, _ => by simp [plainT] at h
  | n + 1, t, h, fuel, cs, x, hx => by
    cases fuel with
    | zero => simp [DataW.trod] at hx
    | succ m =>
      rw [plainT] at h
      cases hu : P.underlying t with
      | none => rw [hu] at h; cases h
      | some d =>
        rw [hu] at h
        cases d with
        | bool =>
          unfold DataW.trod at hx
          rw [hu] at hx
          split at hx <;> simp_all
          subst hx; rfl
        | int k =>
          obtain ⟨i, rfl, rfl, _⟩ := DataW.trod_int hu hx
          rfl
        | string =>
          obtain ⟨s, rfl, rfl, _⟩ := DataW.trod_string hu hx
          rfl
        | struct fs =>
          simp only [Bool.and_eq_true, List.all_eq_true] at h
          unfold DataW.trod at hx
          rw [hu] at hx
          simp only at hx
          split at hx
          · rename_i hl
            obtain ⟨xs, hm, rfl⟩ := Option.map_eq_some_iff.1 hx
            have e1 := mapM_cells (fun f : Field => (cs.drop f.offset).take (P.cellsOf f.type)) _ _ _ hm (fun f hf y hy => cells_of_plain n f.type (h.2 f hf) m _ y hy)
            rw [tiles_cells cs _ 0 _ h.1 hl.symm (Nat.zero_le _), List.drop_zero] at e1
            rw [cellsD_agg]; exact e1
          · cases hx
        | array k e =>
          simp only [Bool.and_eq_true, beq_iff_eq] at h
          unfold DataW.trod at hx
          rw [hu] at hx
          simp only at hx
          split at hx
          · rename_i hl
            obtain ⟨xs, hm, rfl⟩ := Option.map_eq_some_iff.1 hx
            have e1 := mapM_cells (fun i : Nat => (cs.drop (i * P.cellsOf e)).take (P.cellsOf e)) _ _ _ hm (fun i _ y hy => cells_of_plain n e h.2 m _ y hy)
            rw [array_cells _ k cs (by omega)] at e1
            rw [cellsD_agg]; exact e1
          · cases hx
        | _ => cases h

/-- A LISTED VARIABLE OF PLAIN DATA: its block. -/
theorem LaidVars.block {P : Program} {w : World} : ∀ {l : List (String × DataW Unit)} {ps : List MemPlace}, DataW.LaidVars P w l ps → ∀ (i : Nat) (nm : String) (d : DataW Unit), l[i]? = some (nm, d) →
    ∀ (g : Nat) (t : TypeId) (n : Nat), P.globalNamed nm = some g → (P.globals[g]?).map (·.type) = some t → plainT P n t = true → ∃ e fr, w.heap[g]? = some (.cells (cellsD d).toArray e fr)
  | [], _, _, i, nm, d, h => by simp at h
  | (n0, d0) :: r, ps, ⟨g0, t0, cs0, f0, p0, q0, hg0, ht0, hv0, hd0, hr, _⟩, i, nm, d, h => by
    intro g t n hg ht hp
    cases i with
    | zero =>
      simp at h
      obtain ⟨rfl, rfl⟩ := h
      obtain rfl := Option.some.inj (hg0.symm.trans hg)
      obtain rfl := Option.some.inj (ht0.symm.trans ht)
      have hc := cells_of_plain n t0 hp _ _ _ hd0
      simp only [World.var?, hg, Option.bind_some] at hv0
      split at hv0
      · rename_i cs e fr hh
        refine ⟨e, fr, ?_⟩
        rw [hh]
        cases hv0
        rw [← hc]
      · cases hv0
    | succ i => exact LaidVars.block hr i nm d (by simpa using h) g t n hg ht hp

end Go.Proofs.HG
