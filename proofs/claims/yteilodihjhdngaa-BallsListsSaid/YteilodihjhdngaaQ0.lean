/- A region that draws its order, walked along the row of its operations as they are numbered: the orders are checked once, by closed facts over numbers. -/
import Derived.Deep.RegionHeld3
import Derived.BigCall
namespace Go.Proofs.Yteilodihjhdngaa
open Go

/-- The last operation that one waits for, and one: 0 if it waits for none. -/
def lastOn (o : Oper) : Nat := o.after.toList.foldr (fun e m => if Region.binds .any e then (if Nat.ble m (e.on + 1) then e.on + 1 else m) else m) 0
def freeNum (ops : Array Oper) (i : Nat) : Bool :=
  match ops[i]? with
  | none => false
  | some oi => (List.range ops.size).all fun j => Nat.ble j i || match ops[j]? with
      | some oj => oj.after.any (fun e => Region.binds .any e && e.on == i) || oi.apart ops oj
      | none => true
/-- The row of the operations as they are numbered: whether each is taken first (it yields its value and nothing else) or comes up alone. -/
def okRow (ops : Array Oper) : List Bool → List Nat → Nat → Bool
  | [], [], _ => true
  | true :: s, m :: ms, i => Nat.ble m i && freeNum ops i && okRow ops s ms (i + 1)
  | false :: s, m :: ms, i => Nat.ble m i && ms.all (fun m => Nat.ble (i + 1) m) && okRow ops s ms (i + 1)
  | _, _, _ => false

theorem ready_wait (i : Nat) (l : List Edge) : (l.all fun e => !Region.binds .any e || decide (e.on < i)) = Nat.ble (l.foldr (fun e m => if Region.binds .any e then (if Nat.ble m (e.on + 1) then e.on + 1 else m) else m) 0) i := by
  induction l with
  | nil => simp [Nat.ble_eq]
  | cons e l ih =>
    rw [List.all_cons, ih, List.foldr_cons]
    generalize l.foldr (fun e m => if Region.binds .any e then (if Nat.ble m (e.on + 1) then e.on + 1 else m) else m) 0 = m
    rw [Bool.eq_iff_iff]
    cases h : Region.binds .any e
    · simp
    · by_cases h2 : Nat.ble m (e.on + 1) = true
      · have := Nat.le_of_ble_eq_true h2
        simp only [h2, if_true, Bool.and_eq_true, Bool.or_eq_true, Bool.not_true, Bool.false_eq_true, false_or, decide_eq_true_eq, Nat.ble_eq]
        omega
      · have : ¬ m ≤ e.on + 1 := fun h => h2 (Nat.ble_eq ▸ h)
        simp only [h2, if_true, Bool.and_eq_true, Bool.or_eq_true, Bool.not_true, Bool.false_eq_true, false_or, decide_eq_true_eq, Nat.ble_eq]
        simp only [if_false]
        omega

/-- The first i of n have come up. -/
def Pre (n i : Nat) (listed : Array Bool) : Prop := listed.size = n ∧ ∀ k, k < n → listed[k]? = some (decide (k < i))
theorem Pre.getD {n i : Nat} {listed : Array Bool} (h : Pre n i listed) (hi : i ≤ n) (k : Nat) : listed.getD k false = decide (k < i) := by
  by_cases hk : k < n
  · rw [Array.getD_eq_getD_getElem?, h.2 k hk]; rfl
  · rw [Array.getD_eq_getD_getElem?, Array.getElem?_eq_none (by rw [h.1]; omega)]; simp; omega
theorem Pre.getT {n i : Nat} {listed : Array Bool} (h : Pre n i listed) (k : Nat) (hk : k < n) : listed.getD k true = decide (k < i) := by
  rw [Array.getD_eq_getD_getElem?, h.2 k hk]; rfl
theorem Pre.next {n i : Nat} {listed : Array Bool} (h : Pre n i listed) (hi : i < n) : Pre n (i + 1) (listed.setIfInBounds i true) := by
  refine ⟨by rw [Array.size_setIfInBounds]; exact h.1, fun k hk => ?_⟩
  by_cases e : i = k
  · subst e
    rw [Array.getElem?_setIfInBounds_self_of_lt (by rw [h.1]; exact hi)]; simp
  · rw [Array.getElem?_setIfInBounds_ne e, h.2 k hk]
    congr 1
    by_cases h2 : k < i <;> simp [h2] <;> omega
theorem Pre.start (n : Nat) : Pre n 0 (Array.replicate n false) := ⟨by simp, fun k hk => by simp [hk]⟩

section
variable {P : Program} {ops : Array Oper} {Q : Exit → Act → World → Prop} {S : World → Prop}

theorem ready_num {i : Nat} {listed : Array Bool} (h : Pre ops.size i listed) (hi : i ≤ ops.size) :
    Region.ready .any ops listed = (List.range ops.size).filter fun j => decide (i ≤ j) && Nat.ble (((ops[j]?).map lastOn).getD 0) i := by
  unfold Region.ready
  refine List.filter_congr fun j hj => ?_
  have hj2 : j < ops.size := List.mem_range.1 hj
  rw [h.getT j hj2, Array.getElem?_eq_getElem hj2]
  simp only [Option.map_some, Option.getD_some]
  have e : (ops[j].after.all fun e => !Region.binds .any e || listed.getD e.on false) = Nat.ble (lastOn ops[j]) i := by
    unfold lastOn
    rw [← ready_wait, ← Array.all_toList]
    refine congrArg (fun f => List.all _ f) (funext fun e => ?_)
    rw [h.getD hi]
  rw [e]
  congr 1
  by_cases h2 : j < i <;> simp [h2] <;> omega

theorem filter_one (i : Nat) : ∀ n, (List.range n).filter (fun j => decide (j = i)) = if i < n then [i] else []
  | 0 => by simp
  | n + 1 => by
    rw [List.range_succ, List.filter_append, filter_one i n]
    by_cases h1 : i < n
    · have : ¬ n = i := by omega
      simp [h1, this]; omega
    · by_cases h2 : n = i
      · subst h2; simp
      · have : ¬ i < n + 1 := by omega
        simp [h1, h2, this]

/-- 'wpOp', the operation written out. -/
def wpO (P : Program) (ops : Array Oper) (Q : Exit → Act → World → Prop) (o : Oper) (K : Act → World → Prop) (a : Act) (w : World) : Prop :=
  if Region.wanted o (yielded ops a.tmps) then o.wp P a w K Q ∨ (o.asks P a w ∧ LetsOut Q) else K (a.put o.dst undef) w
theorem wpO_wpOp {i : Nat} {o : Oper} {K : Act → World → Prop} {a : Act} {w : World} (hi : ops[i]? = some o) (h : wpO P ops Q o K a w) : wpOp P ops Q i K a w := by
  unfold wpOp; rw [hi]; exact h

def WpSeq (P : Program) (ops : Array Oper) (Q : Exit → Act → World → Prop) (S : World → Prop) : List Bool → List Oper → Act → World → Prop
  | true :: bs, o :: os, a, w => ∃ v, YieldsIf P ops S o v a ∧ S w ∧ WpSeq P ops Q S bs os (a.put o.dst v) w
  | false :: bs, o :: os, a, w => wpO P ops Q o (fun a' w' => S w' ∧ WpSeq P ops Q S bs os a' w') a w
  | _, _, a, w => Q .normal a w

theorem free_num {i : Nat} {listed : Array Bool} (h : Pre ops.size i listed) (hf : freeNum ops i = true) : Region.free .any ops listed i = true := by
  unfold freeNum at hf
  unfold Region.free
  cases ho : ops[i]? with
  | none => simp [ho] at hf
  | some oi =>
    simp only [ho, List.all_eq_true, List.mem_range] at hf ⊢
    intro j hj
    have h1 := hf j hj
    rw [h.getT j hj]
    simp only [Bool.or_eq_true, Nat.ble_eq] at h1
    rcases h1 with h1 | h1
    · by_cases e : j = i
      · simp [e]
      · have : j < i := by omega
        simp [this]
    · simp only [Bool.or_eq_true]
      exact .inr h1

theorem wpAnyH_of_row (hs : Region.noSelect ops = true) (hQ : ∀ c d v a w, Q (.panic c) (Act.put a d v) w → Q (.panic c) a w) :
    ∀ (seq : List Bool) (ms : List Nat) (i : Nat) (listed : Array Bool) (a : Act) (w : World), okRow ops seq ms i = true → ms = (ops.toList.map lastOn).drop i → i ≤ ops.size → Pre ops.size i listed → ∀ fuel, ops.size ≤ fuel + i → WpSeq P ops Q S seq (ops.toList.drop i) a w → wpAnyH P .any ops Q S fuel listed a w := by
  intro seq
  induction seq with
  | nil =>
    intro ms i listed a w hok hms hi hp fuel hfu h
    cases ms with
    | cons m ms => simp [okRow] at hok
    | nil =>
      have hn : ops.size ≤ i := by
        have := congrArg List.length hms
        simp at this; omega
      have h2 : Q .normal a w := by simpa [WpSeq] using h
      refine wpAnyH_done ?_ h2 fuel
      rw [ready_num hp hi]
      refine List.filter_eq_nil_iff.2 fun j hj => ?_
      have := List.mem_range.1 hj
      simp; omega
  | cons b r ih =>
    intro ms k listed a w hok hms hi hp fuel hfu h
    cases ms with
    | nil => cases b <;> simp [okRow] at hok
    | cons m ms =>
      have hn : k < ops.size := by
        have := congrArg List.length hms
        simp at this; omega
      have hl : k < (ops.toList.map lastOn).length := by simpa using hn
      rw [List.drop_eq_getElem_cons hl] at hms
      have hm0 : m = lastOn ops[k] := by have := (List.cons.inj hms).1; simpa using this
      have hms' := (List.cons.inj hms).2
      have hdr : ops.toList.drop k = ops[k] :: ops.toList.drop (k + 1) := by rw [List.drop_eq_getElem_cons (by simpa using hn)]; simp
      have hget : ops[k]? = some ops[k] := Array.getElem?_eq_getElem hn
      rw [hdr] at h
      obtain ⟨fuel, rfl⟩ : ∃ f, fuel = f + 1 := ⟨fuel - 1, by omega⟩
      have hok2 : Nat.ble m k = true ∧ (b = true → freeNum ops k = true) ∧ (b = false → ms.all (fun m => Nat.ble (k + 1) m) = true) ∧ okRow ops r ms (k + 1) = true := by
        cases b <;> simp only [okRow, Bool.and_eq_true] at hok <;> exact ⟨hok.1.1, by first | (intro _; exact hok.1.2) | simp, by first | (intro _; exact hok.1.2) | simp, hok.2⟩
      obtain ⟨hm, hfree, hall, hok3⟩ := hok2
      have hself : Nat.ble (((ops[k]?).map lastOn).getD 0) k = true := by rw [hget]; simpa [hm0] using hm
      have hnext := ih ms (k + 1) (listed.setIfInBounds k true)
      cases b with
      | true =>
        obtain ⟨v, hy, hS, h⟩ := h
        refine wpAnyH_take hget hs (free_num hp (hfree rfl)) ?_ (fun c a w => hQ c _ _ a w) hy hS (hnext _ _ hok3 hms' hn (hp.next hn) fuel (by omega) h)
        rw [ready_num hp hi, List.contains_iff_mem]
        refine List.mem_filter.2 ⟨List.mem_range.2 hn, ?_⟩
        rw [hself]; simp
      | false =>
        have hr : Region.ready .any ops listed = [k] := by
          rw [ready_num hp hi]
          rw [← show (List.range ops.size).filter (fun j => decide (j = k)) = [k] by rw [filter_one, if_pos hn]]
          refine List.filter_congr fun j hj => ?_
          have hj2 := List.mem_range.1 hj
          by_cases e : j = k
          · subst e; rw [hself]; simp
          · by_cases h2 : k ≤ j
            · have h3 := List.all_eq_true.1 (hall rfl) (lastOn ops[j]) (by
                rw [hms']
                refine List.mem_iff_getElem.2 ⟨j - (k + 1), by simp; omega, ?_⟩
                simp only [List.getElem_drop, List.getElem_map, Array.getElem_toList]
                congr 2; omega)
              have h4 : ¬ lastOn ops[j] ≤ k := by have := Nat.le_of_ble_eq_true h3; omega
              rw [Array.getElem?_eq_getElem hj2]
              have h5 : Nat.ble (lastOn ops[j]) k = false := by
                cases h6 : Nat.ble (lastOn ops[j]) k with
                | false => rfl
                | true => exact absurd (Nat.le_of_ble_eq_true h6) h4
              simp [h5, e]
            · simp [h2, e]
        refine wpAnyH_ready hr (by simp) ?_
        intro j hj
        obtain rfl : j = k := by simpa using hj
        exact wpOp_mono (fun a' w' hh => ⟨hh.1, hnext _ _ hok3 hms' hn (hp.next hn) fuel (by omega) hh.2⟩) (wpO_wpOp hget h)

theorem wp_region_row {id : Nat} {a : Act} {w : World} {os : List Oper} (seq : List Bool) (ms : List Nat) (hm : P.follows .mixedOrders = true) (hs : Region.noSelect os.toArray = true)
    (hms : ms = os.map lastOn) (hok : okRow os.toArray seq ms 0 = true) (hQ : ∀ c d v a w, Q (.panic c) (Act.put a d v) w → Q (.panic c) a w)
    (h : WpSeq P os.toArray Q S seq os a w.drew) : (Code.region id os.toArray true).wp P Q a w :=
  wp_region_held hm (wpAnyH_of_row hs hQ seq ms 0 _ _ _ hok hms (Nat.zero_le _) (Pre.start _) _ (by omega) h)

theorem WpSeq.done {a : Act} {w : World} (h : Q .normal a w) : WpSeq P ops Q S [] [] a w := h

theorem put_list {l : List Value} {ds : List Deferred} {d : Nat} {v : Value} : Act.put ⟨l.toArray, ds⟩ (some d) v = ⟨(l.set d v).toArray, ds⟩ := by simp [Act.put]
theorem WpSeq.put {bs : List Bool} {os : List Oper} {l : List Value} {ds : List Deferred} {d : Nat} {v : Value} {w : World} (h : WpSeq P ops Q S bs os ⟨(l.set d v).toArray, ds⟩ w) : WpSeq P ops Q S bs os (Act.put ⟨l.toArray, ds⟩ (some d) v) w := by
  rw [put_list]; exact h

/-- An operation that yields its value: taken first, or come up alone. -/
theorem WpSeq.take {b : Bool} {d : Nat} {op : Op} {ty : TypeId} {pos : String} {after : Array Edge} {guard : Option (Nat × Bool)} {v : Value} {bs : List Bool} {os : List Oper} {l : List Value} {ds : List Deferred} {w : World}
    (hw : Region.wanted ⟨some d, op, ty, pos, after, guard⟩ (yielded ops l.toArray) = true)
    (hv : ∀ w, S w → (execOp (Act.mk l.toArray ds).eval ⟨some d, op, ty, pos, after, guard⟩).run P w = .ok (.value v) w)
    (hS : S w) (h : WpSeq P ops Q S bs os ⟨(l.set d v).toArray, ds⟩ w) : WpSeq P ops Q S (b :: bs) (⟨some d, op, ty, pos, after, guard⟩ :: os) ⟨l.toArray, ds⟩ w := by
  have e := put_list (l := l) (ds := ds) (d := d) (v := v)
  cases b
  · show wpO P ops Q _ _ _ _
    unfold wpO
    rw [if_pos (show Region.wanted _ (yielded ops (Act.mk l.toArray ds).tmps) = true from hw)]
    refine .inl ?_
    show Oper.upon P _ _ _ Q ((execOp (Act.mk l.toArray ds).eval ⟨some d, op, ty, pos, after, guard⟩).run P w)
    rw [hv w hS, Oper.upon_value]
    exact ⟨hS, by simpa only [e] using h⟩
  · exact ⟨v, .inl ⟨hw, hv⟩, hS, by simpa only [e] using h⟩

theorem WpSeq.call {o : Oper} {bs : List Bool} {os : List Oper} {l : List Value} {ds : List Deferred} {w : World}
    (hw : Region.wanted o (yielded ops l.toArray) = true)
    (h : ∀ K' : Act → World → Prop, Shut (∀ a w, S w → (S w → WpSeq P ops Q S bs os a w) → K' a w) → Oper.wp P o ⟨l.toArray, ds⟩ w K' Q) : WpSeq P ops Q S (false :: bs) (o :: os) ⟨l.toArray, ds⟩ w := by
  show wpO P ops Q _ _ _ _
  unfold wpO
  rw [if_pos (show Region.wanted o (yielded ops (Act.mk l.toArray ds).tmps) = true from hw)]
  exact .inl (h _ (fun a w hS hW => ⟨hS, hW hS⟩))

/-- A call of a Go function. -/
theorem WpSeq.callF {d f : Nat} {xs : Array Operand} {ats : Array TypeId} {ty : TypeId} {pos : String} {after : Array Edge} {guard : Option (Nat × Bool)} {args : Array Value} {bs : List Bool} {os : List Oper} {l : List Value} {ds : List Deferred} {w : World}
    (hw : Region.wanted ⟨some d, .call { callee := .value (.func f), args := xs, argTypes := ats }, ty, pos, after, guard⟩ (yielded ops l.toArray) = true)
    (hrun : ∀ as w, (callFunc f as).run P w = .ok (.enter f as) w)
    (hargs : #[] ++ xs.map (Act.mk l.toArray ds).eval ++ #[] = args)
    (hc : Calls P f args w fun e w' => ∃ v, e = .returned v ∧ S w' ∧ WpSeq P ops Q S bs os ⟨(l.set d v).toArray, ds⟩ w') :
    WpSeq P ops Q S (false :: bs) (⟨some d, .call { callee := .value (.func f), args := xs, argTypes := ats }, ty, pos, after, guard⟩ :: os) ⟨l.toArray, ds⟩ w := by
  show wpO P ops Q _ _ _ _
  unfold wpO
  rw [if_pos (show Region.wanted _ (yielded ops (Act.mk l.toArray ds).tmps) = true from hw)]
  refine .inl ?_
  show Oper.upon P _ _ _ Q ((execOp (Act.mk l.toArray ds).eval _).run P w)
  rw [execOp_call_go, hargs, hrun, Oper.upon_enter]
  refine Calls.mono hc fun e w' he => ?_
  obtain ⟨v, rfl, hS, h⟩ := he
  exact ⟨hS, by simpa only [put_list] using h⟩

end
end Go.Proofs.Yteilodihjhdngaa
