/- Plain mathematics of conversion tables: what Set makes, told by what the table maps; two valid tables that map alike are equal. -/
import Derived.Test.YtcjpbomdnjmfkaaDoorA8
namespace Go.Proofs.YtcjpbomdnjmfkaaDoor

/-- A valid table: strictly ascending, all pairs good. -/
structure VT (ps : List (Int × Int)) : Prop where
  asc : ps.Pairwise fun p q => p.1 < q.1
  good : ∀ p ∈ ps, goodP p = true

theorem VT.of_GT {ps : List (Int × Int)} (h : GT ps ps.length) : VT ps := by
  refine ⟨?_, fun p hp => ?_⟩
  · rw [List.pairwise_iff_getElem]
    intro i j hi hj hij
    obtain ⟨k, rfl⟩ : ∃ k, j = i + 1 + k := ⟨j - i - 1, by omega⟩
    have a := h.ord i ps[i] (ps[i + 1]'(by omega)) (by omega) (List.getElem?_eq_getElem hi) (List.getElem?_eq_getElem (by omega))
    have b := h.mono (i + 1) k (ps[i + 1]'(by omega)) (ps[i + 1 + k]'hj) (by omega) (List.getElem?_eq_getElem (by omega)) (List.getElem?_eq_getElem hj)
    omega
  · obtain ⟨i, hi, rfl⟩ := List.getElem_of_mem hp
    exact h.good i _ hi (List.getElem?_eq_getElem hi)
theorem VT.gt {ps : List (Int × Int)} (h : VT ps) : GT ps ps.length := by
  refine ⟨fun i p hi hp => ?_, fun i p q hi hp hq => ?_⟩
  · exact h.good p (List.mem_of_getElem? hp)
  · have h2 := List.pairwise_iff_getElem.1 h.asc i (i + 1) (by omega) hi (by omega)
    rw [List.getElem?_eq_getElem (by omega)] at hp hq
    cases hp; cases hq; exact h2
theorem vld_iff {ps : List (Int × Int)} : vld ps = true ↔ VT ps := ⟨fun h => VT.of_GT (GT.of_vld h), fun h => vld_true h.gt⟩

theorem VT.inj {ps : List (Int × Int)} (h : VT ps) {c u v : Int} (hu : (c, u) ∈ ps) (hv : (c, v) ∈ ps) : u = v := by
  have ha := h.asc
  clear h
  induction ps with
  | nil => cases hu
  | cons p r ih =>
    rw [List.pairwise_cons] at ha
    rcases List.mem_cons.1 hu with e1 | e1 <;> rcases List.mem_cons.1 hv with e2 | e2
    · rw [← e1] at e2; cases e2; rfl
    · have := ha.1 _ e2; rw [← e1] at this; simp at this
    · have := ha.1 _ e1; rw [← e2] at this; simp at this
    · exact ih e1 e2 ha.2

/-- The place of a character parts the table. -/
theorem lb_lt {ps : List (Int × Int)} {x : Int} : ∀ p ∈ ps.take (lb ps x), p.1 < x := by
  intro p hp
  have : ps.take (lb ps x) = ps.takeWhile fun p => decide (p.1 < x) := by
    rw [lb]; exact (List.prefix_iff_eq_take.1 (List.takeWhile_prefix _)).symm
  rw [this] at hp
  have := List.all_eq_true.1 (List.all_takeWhile (p := fun p : Int × Int => decide (p.1 < x)) (l := ps)) p hp
  simpa using this
theorem drop_lb {ps : List (Int × Int)} {x : Int} : ps.drop (lb ps x) = ps.dropWhile fun p => decide (p.1 < x) := by
  rw [lb]
  induction ps with
  | nil => rfl
  | cons p r ih =>
    by_cases hp : p.1 < x
    · simp [List.takeWhile_cons, List.dropWhile_cons, hp, ih]
    · simp [List.takeWhile_cons, List.dropWhile_cons, hp]
theorem lb_ge {ps : List (Int × Int)} (h : VT ps) {x : Int} : ∀ p ∈ ps.drop (lb ps x), x ≤ p.1 := by
  intro p hp
  have ha : (ps.drop (lb ps x)).Pairwise fun p q => p.1 < q.1 := h.asc.sublist (List.drop_sublist _ _)
  cases hd : ps.drop (lb ps x) with
  | nil => rw [hd] at hp; cases hp
  | cons q r =>
    have hq : x ≤ q.1 := by
      have h1 := hd
      rw [drop_lb] at h1
      have := List.head_dropWhile_not (fun p : Int × Int => decide (p.1 < x)) (l := ps) (by rw [h1]; simp)
      simp only [h1, List.head_cons, decide_eq_false_iff_not] at this
      omega
    rw [hd] at hp ha
    rw [List.pairwise_cons] at ha
    rcases List.mem_cons.1 hp with rfl | hp
    · exact hq
    · have := ha.1 _ hp; omega

/-- What is left of the table behind the place of x. -/
def rest (ps : List (Int × Int)) (x : Int) : List (Int × Int) := if fnd ps x then ps.drop (lb ps x + 1) else ps.drop (lb ps x)
theorem rest_gt {ps : List (Int × Int)} (h : VT ps) {x : Int} : ∀ p ∈ rest ps x, x < p.1 := by
  intro p hp
  have ha : (ps.drop (lb ps x)).Pairwise fun p q => p.1 < q.1 := h.asc.sublist (List.drop_sublist _ _)
  have hge := lb_ge h (x := x)
  unfold rest at hp
  cases hd : ps.drop (lb ps x) with
  | nil =>
    have : ps.drop (lb ps x + 1) = [] := by rw [← List.drop_drop, hd]; rfl
    rw [this, hd] at hp; simp at hp
  | cons q r =>
    have ht : ps.drop (lb ps x + 1) = r := by rw [← List.drop_drop, hd]; rfl
    rw [ht, hd] at hp
    rw [hd] at ha hge
    rw [List.pairwise_cons] at ha
    have hf : fnd ps x = (q.1 == x) := by
      unfold fnd
      have : ps[lb ps x]? = some q := by rw [← List.head?_drop, hd]; rfl
      rw [this]
    rw [hf] at hp
    split at hp
    · rename_i e
      have := ha.1 _ hp; simp at e; omega
    · rename_i e
      simp at e
      rcases List.mem_cons.1 hp with rfl | hp
      · have := hge p (List.mem_cons_self ..); omega
      · have := ha.1 _ hp; have := hge q (List.mem_cons_self ..); omega
theorem without_eq (ps : List (Int × Int)) (x : Int) : without ps x = ps.take (lb ps x) ++ rest ps x := by
  unfold without rest del
  split
  · rfl
  · exact (List.take_append_drop _ _).symm
theorem setP_eq (ps : List (Int × Int)) (x y : Int) : setP ps x y = ps.take (lb ps x) ++ (if x = y then rest ps x else (x, y) :: rest ps x) := by
  unfold setP
  rw [without_eq]
  have hl : (ps.take (lb ps x)).length = lb ps x := by rw [List.length_take]; have := lb_le ps x; omega
  split
  · rfl
  · unfold ins
    rw [List.take_left' hl, List.drop_left' hl]

theorem mem_rest {ps : List (Int × Int)} (h : VT ps) {x : Int} {p : Int × Int} : p ∈ rest ps x ↔ p ∈ ps ∧ x < p.1 := by
  constructor
  · intro hp
    refine ⟨?_, rest_gt h p hp⟩
    unfold rest at hp
    split at hp
    · exact List.mem_of_mem_drop hp
    · exact List.mem_of_mem_drop hp
  · intro ⟨hp, hx⟩
    have h1 : p ∈ ps.take (lb ps x) ++ ps.drop (lb ps x) := by rw [List.take_append_drop]; exact hp
    rcases List.mem_append.1 h1 with h2 | h2
    · have := lb_lt p h2; omega
    · unfold rest
      split
      · rename_i hf
        obtain ⟨q, hq, e, _⟩ := look_yes hf
        have hd : ps.drop (lb ps x) = q :: ps.drop (lb ps x + 1) := by
          have hl := (List.getElem?_eq_some_iff.1 hq).1
          rw [List.drop_eq_getElem_cons hl]
          rw [List.getElem?_eq_getElem hl] at hq
          rw [Option.some.inj hq]
        rw [hd] at h2
        rcases List.mem_cons.1 h2 with rfl | h2
        · omega
        · exact h2
      · exact h2
theorem mem_take {ps : List (Int × Int)} (h : VT ps) {x : Int} {p : Int × Int} : p ∈ ps.take (lb ps x) ↔ p ∈ ps ∧ p.1 < x := by
  constructor
  · intro hp; exact ⟨List.mem_of_mem_take hp, lb_lt p hp⟩
  · intro ⟨hp, hx⟩
    have h1 : p ∈ ps.take (lb ps x) ++ ps.drop (lb ps x) := by rw [List.take_append_drop]; exact hp
    rcases List.mem_append.1 h1 with h2 | h2
    · exact h2
    · have := lb_ge h p h2; omega
theorem mem_setP {ps : List (Int × Int)} (h : VT ps) {x y : Int} {p : Int × Int} : p ∈ setP ps x y ↔ (p ∈ ps ∧ p.1 ≠ x) ∨ (x ≠ y ∧ p = (x, y)) := by
  rw [setP_eq, List.mem_append, mem_take h]
  by_cases e : x = y
  · rw [if_pos e, mem_rest h]
    constructor
    · rintro (⟨a, b⟩ | ⟨a, b⟩) <;> exact .inl ⟨a, by omega⟩
    · rintro (⟨a, b⟩ | ⟨a, b⟩)
      · rcases Int.lt_or_gt_of_ne b with b | b
        · exact .inl ⟨a, b⟩
        · exact .inr ⟨a, b⟩
      · exact absurd e a
  · rw [if_neg e, List.mem_cons, mem_rest h]
    constructor
    · rintro (⟨a, b⟩ | rfl | ⟨a, b⟩)
      · exact .inl ⟨a, by omega⟩
      · exact .inr ⟨e, rfl⟩
      · exact .inl ⟨a, by omega⟩
    · rintro (⟨a, b⟩ | ⟨a, b⟩)
      · rcases Int.lt_or_gt_of_ne b with b | b
        · exact .inl ⟨a, b⟩
        · exact .inr (.inr ⟨a, b⟩)
      · exact .inr (.inl b)
theorem setP_valid {ps : List (Int × Int)} (h : VT ps) {x y : Int} (hx : isC x = true) (hy : isC y = true) : VT (setP ps x y) := by
  refine ⟨?_, fun p hp => ?_⟩
  · rw [setP_eq, List.pairwise_append]
    have hr : (rest ps x).Pairwise fun p q => p.1 < q.1 := by unfold rest; split <;> exact h.asc.sublist (List.drop_sublist _ _)
    refine ⟨h.asc.sublist (List.take_sublist _ _), ?_, fun p hp q hq => ?_⟩
    · split
      · exact hr
      · rw [List.pairwise_cons]; exact ⟨fun q hq => rest_gt h q hq, hr⟩
    · have h1 := lb_lt p hp
      split at hq
      · have := rest_gt h q hq; omega
      · rcases List.mem_cons.1 hq with rfl | hq
        · exact h1
        · have := rest_gt h q hq; omega
  · rcases (mem_setP h).1 hp with ⟨a, _⟩ | ⟨e, rfl⟩
    · exact h.good p a
    · exact goodP_of hx hy (by simpa using e)

/-- What a valid table maps, by its pairs. -/
theorem mem_iff_look {ps : List (Int × Int)} (h : VT ps) {c v : Int} : (c, v) ∈ ps ↔ look ps c = v ∧ v ≠ c := by
  constructor
  · intro hm
    have hg := h.good _ hm
    have hne : v ≠ c := by
      intro e; subst e
      simp [goodP] at hg
    refine ⟨?_, hne⟩
    have hm2 : (c, v) ∈ ps.drop (lb ps c) := by
      have h1 : (c, v) ∈ ps.take (lb ps c) ++ ps.drop (lb ps c) := by rw [List.take_append_drop]; exact hm
      rcases List.mem_append.1 h1 with h2 | h2
      · have := lb_lt _ h2; simp at this
      · exact h2
    cases hf : fnd ps c with
    | true =>
      obtain ⟨q, hq, e, hl⟩ := look_yes hf
      rw [hl]
      exact h.inj (c := c) (by rw [← e]; exact List.mem_of_getElem? hq) hm
    | false =>
      exfalso
      have : (c, v) ∈ rest ps c := by unfold rest; rw [hf]; exact hm2
      have := rest_gt h _ this
      simp at this
  · intro ⟨hl, hne⟩
    cases hf : fnd ps c with
    | true =>
      obtain ⟨q, hq, e, hl2⟩ := look_yes hf
      have : q = (c, v) := by
        obtain ⟨q1, q2⟩ := q
        simp only at e hl2
        rw [← e, ← hl, hl2, e]
      rw [← this]; exact List.mem_of_getElem? hq
    | false => rw [look_not hf] at hl; exact absurd hl.symm hne

/-- Two strictly ascending lists with the same pairs are equal. -/
theorem asc_ext : ∀ {ps qs : List (Int × Int)}, ps.Pairwise (fun p q => p.1 < q.1) → qs.Pairwise (fun p q => p.1 < q.1) → (∀ p, p ∈ ps ↔ p ∈ qs) → ps = qs
  | [], [], _, _, _ => rfl
  | [], q :: _, _, _, h => by have := (h q).2 (List.mem_cons_self ..); cases this
  | p :: _, [], _, _, h => by have := (h p).1 (List.mem_cons_self ..); cases this
  | p :: ps, q :: qs, h1, h2, h => by
    rw [List.pairwise_cons] at h1 h2
    have e : p = q := by
      rcases List.mem_cons.1 ((h p).1 (List.mem_cons_self ..)) with e | e
      · exact e
      · rcases List.mem_cons.1 ((h q).2 (List.mem_cons_self ..)) with e2 | e2
        · exact e2.symm
        · have := h1.1 _ e2; have := h2.1 _ e; omega
    subst e
    congr 1
    refine asc_ext h1.2 h2.2 fun x => ?_
    constructor
    · intro hx
      rcases List.mem_cons.1 ((h x).1 (List.mem_cons_of_mem _ hx)) with e | e
      · have := h1.1 _ hx; rw [e] at this; omega
      · exact e
    · intro hx
      rcases List.mem_cons.1 ((h x).2 (List.mem_cons_of_mem _ hx)) with e | e
      · have := h2.1 _ hx; rw [e] at this; omega
      · exact e
theorem VT.ext {ps qs : List (Int × Int)} (h1 : VT ps) (h2 : VT qs) (h : ∀ c v, (c, v) ∈ ps ↔ (c, v) ∈ qs) : ps = qs := asc_ext h1.asc h2.asc fun p => h p.1 p.2

/-- After Set the character is converted as set, every other one as before. -/
theorem look_setP {ps : List (Int × Int)} (h : VT ps) {x y : Int} (hx : isC x = true) (hy : isC y = true) (c : Int) : look (setP ps x y) c = if c = x then y else look ps c := by
  have hv := setP_valid h hx hy
  by_cases e : look (setP ps x y) c = c
  · rw [e]
    have hn : ∀ v, (c, v) ∉ setP ps x y := fun v hm => by
      have := (mem_iff_look hv).1 hm; rw [e] at this; exact this.2 this.1.symm
    split
    · rename_i ec; subst ec
      by_cases e2 : c = y
      · exact e2
      · exact absurd ((mem_setP h).2 (.inr ⟨e2, rfl⟩)) (hn y)
    · rename_i ec
      by_cases e2 : look ps c = c
      · exact e2.symm
      · exact absurd ((mem_setP h).2 (.inl ⟨(mem_iff_look h).2 ⟨rfl, e2⟩, ec⟩)) (hn _)
  · have hm : (c, look (setP ps x y) c) ∈ setP ps x y := (mem_iff_look hv).2 ⟨rfl, e⟩
    rcases (mem_setP h).1 hm with ⟨a, b⟩ | ⟨a, b⟩
    · rw [if_neg b]
      exact ((mem_iff_look h).1 a).1.symm
    · have e1 : c = x := congrArg Prod.fst b
      have e2 : look (setP ps x y) c = y := congrArg Prod.snd b
      rw [if_pos e1, e2]

/-- Setting a character back restores the table. -/
theorem set_back {ps : List (Int × Int)} (h : VT ps) {x y : Int} (hx : isC x = true) (hy : isC y = true) (hz : isC (look ps x) = true) : setP (setP ps x y) x (look ps x) = ps := by
  have hv := setP_valid h hx hy
  refine VT.ext (setP_valid hv hx hz) h fun c v => ?_
  rw [mem_setP hv, mem_setP h]
  constructor
  · rintro (⟨⟨a, b⟩ | ⟨a, b⟩, hc⟩ | ⟨a, b⟩)
    · exact a
    · exact absurd (congrArg Prod.fst b) hc
    · rw [b]; exact (mem_iff_look h).2 ⟨rfl, fun e => a e.symm⟩
  · intro hm
    by_cases e : c = x
    · subst e
      have := (mem_iff_look h).1 hm
      exact .inr ⟨fun e => this.2 (by rw [← this.1]; exact e.symm), by rw [this.1]⟩
    · exact .inl ⟨.inl ⟨hm, e⟩, e⟩

/-- Two different characters can be set in either order. -/
theorem set_swap {ps : List (Int × Int)} (h : VT ps) {a x b y : Int} (hab : a ≠ b) (ha : isC a = true) (hx : isC x = true) (hb : isC b = true) (hy : isC y = true) : setP (setP ps a x) b y = setP (setP ps b y) a x := by
  have h1 := setP_valid h ha hx
  have h2 := setP_valid h hb hy
  refine VT.ext (setP_valid h1 hb hy) (setP_valid h2 ha hx) fun c v => ?_
  rw [mem_setP h1, mem_setP h, mem_setP h2, mem_setP h]
  constructor
  · rintro (⟨⟨p, q⟩ | ⟨p, q⟩, r⟩ | ⟨p, q⟩)
    · exact .inl ⟨.inl ⟨p, r⟩, q⟩
    · exact .inr ⟨p, q⟩
    · exact .inl ⟨.inr ⟨p, q⟩, by rw [congrArg Prod.fst q]; exact fun e => hab e.symm⟩
  · rintro (⟨⟨p, q⟩ | ⟨p, q⟩, r⟩ | ⟨p, q⟩)
    · exact .inl ⟨.inl ⟨p, r⟩, q⟩
    · exact .inr ⟨p, q⟩
    · exact .inl ⟨.inr ⟨p, q⟩, by rw [congrArg Prod.fst q]; exact hab⟩

theorem isC_look {ps : List (Int × Int)} (h : VT ps) {c : Int} (hc : isC c = true) : isC (look ps c) = true := by
  by_cases e : look ps c = c
  · rw [e]; exact hc
  · have := h.good _ ((mem_iff_look h).2 ⟨rfl, e⟩)
    simp only [goodP, Bool.and_eq_true] at this
    exact this.1.2

end Go.Proofs.YtcjpbomdnjmfkaaDoor
