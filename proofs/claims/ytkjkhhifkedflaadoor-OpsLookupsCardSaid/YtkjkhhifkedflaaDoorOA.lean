/- Of no program: tables of operators as mathematics: keys in order, valid tables, what is found, what a change leaves. -/
import Derived.WalkKit
import Derived.Laws.Strings
import Derived.Laws.Cover1
import Derived.Lib.Hide
set_option linter.unusedVariables false
set_option linter.unusedSimpArgs false
namespace Go.Proofs.HP

def cmpI (a b : Int) : Int := if a < b then -1 else if b < a then 1 else 0
def orI (a b : Int) : Int := if a = 0 then b else a
def cmpB : List UInt8 → List UInt8 → Int
  | [], [] => 0
  | [], _ :: _ => -1
  | _ :: _, [] => 1
  | a :: x, b :: y => if a < b then -1 else if b < a then 1 else cmpB x y
theorem cmpI_bd (a b : Int) : cmpI a b = -1 ∨ cmpI a b = 0 ∨ cmpI a b = 1 := by unfold cmpI; split <;> (try split) <;> simp
theorem cmpB_bd : ∀ x y : List UInt8, cmpB x y = -1 ∨ cmpB x y = 0 ∨ cmpB x y = 1
  | [], [] => by simp [cmpB]
  | [], _ :: _ => by simp [cmpB]
  | _ :: _, [] => by simp [cmpB]
  | a :: x, b :: y => by
    unfold cmpB
    split
    · simp
    · split
      · simp
      · exact cmpB_bd x y
theorem orI_bd {a b : Int} (h1 : a = -1 ∨ a = 0 ∨ a = 1) (h2 : b = -1 ∨ b = 0 ∨ b = 1) : orI a b = -1 ∨ orI a b = 0 ∨ orI a b = 1 := by unfold orI; split <;> assumption
theorem less_cmpB : ∀ x y : List UInt8, Op.bytesLess x y = decide (cmpB x y < 0)
  | [], [] => by simp [cmpB, Op.bytesLess]
  | [], _ :: _ => by simp [cmpB, Op.bytesLess]
  | _ :: _, [] => by simp [cmpB, Op.bytesLess]
  | a :: x, b :: y => by
    rw [Op.bytesLess, less_cmpB x y, cmpB]
    by_cases h : a < b
    · simp [h]
    · by_cases h2 : b < a
      · have : ¬ a = b := fun e => by rw [e] at h2; exact absurd h2 (by rw [e] at h; exact h)
        simp [h, h2, this]
      · have : a = b := UInt8.le_antisymm (UInt8.not_lt.1 h2) (UInt8.not_lt.1 h)
        simp [this]
theorem eq_cmpB : ∀ x y : List UInt8, (x == y) = decide (cmpB x y = 0)
  | [], [] => by simp [cmpB]
  | [], _ :: _ => by simp [cmpB]
  | _ :: _, [] => by simp [cmpB]
  | a :: x, b :: y => by
    have ih := eq_cmpB x y
    rw [Bool.eq_iff_iff, beq_iff_eq, decide_eq_true_eq] at ih
    rw [Bool.eq_iff_iff, beq_iff_eq, decide_eq_true_eq, cmpB, List.cons.injEq]
    by_cases h : a < b
    · have : ¬ a = b := fun e => by rw [e] at h; exact UInt8.lt_irrefl _ h
      simp [h, this]
    · by_cases h2 : b < a
      · have : ¬ a = b := fun e => by rw [e] at h2; exact UInt8.lt_irrefl _ h2
        simp [h, h2, this]
      · have : a = b := UInt8.le_antisymm (UInt8.not_lt.1 h2) (UInt8.not_lt.1 h)
        simp [this, ih]
theorem cmpI_neg (a b : Int) : cmpI b a = -cmpI a b := by
  unfold cmpI
  repeat' split
  all_goals omega
theorem orI_neg (a b : Int) : orI (-a) (-b) = -orI a b := by unfold orI; split <;> split <;> omega
theorem cmpB_neg : ∀ x y : List UInt8, cmpB y x = -cmpB x y
  | [], [] => by simp [cmpB]
  | [], _ :: _ => by simp [cmpB]
  | _ :: _, [] => by simp [cmpB]
  | a :: x, b :: y => by
    have ih := cmpB_neg x y
    simp only [cmpB]
    by_cases h : a < b
    · have : ¬ b < a := fun h2 => UInt8.lt_irrefl _ (UInt8.lt_trans h h2)
      simp [h, this]
    · by_cases h2 : b < a
      · simp [h, h2]
      · simp [h, h2, ih]
theorem orI_zero' {a b : Int} (h : orI a b = 0) : a = 0 ∧ b = 0 := by
  unfold orI at h
  by_cases h0 : a = 0
  · rw [if_pos h0] at h; exact ⟨h0, h⟩
  · rw [if_neg h0] at h; exact absurd h h0
theorem cmpI_eq {a b : Int} (h : cmpI a b = 0) : a = b := by
  unfold cmpI at h
  by_cases h1 : a < b
  · rw [if_pos h1] at h; omega
  · rw [if_neg h1] at h
    by_cases h2 : b < a
    · rw [if_pos h2] at h; omega
    · omega
theorem cmpI_self (a : Int) : cmpI a a = 0 := by simp [cmpI]
theorem cmpB_eq {x y : List UInt8} (h : cmpB x y = 0) : x = y := by
  have := eq_cmpB x y
  rw [h] at this
  simpa using this
theorem cmpB_self : ∀ x : List UInt8, cmpB x x = 0
  | [] => by simp [cmpB]
  | a :: x => by simp [cmpB, UInt8.lt_irrefl, cmpB_self x]
theorem data_inj {a b : ByteArray} (h : a.data.toList = b.data.toList) : a = b := by
  cases a; cases b
  simpa using h
/-- x, y, z: the order of a and b, of b and c, of a and c. -/
def T3 (x y z : Int) : Prop := (x = 0 → z = y) ∧ (y = 0 → z = x) ∧ (x = -1 → y = -1 → z = -1) ∧ (x = 1 → y = 1 → z = 1)
def Bd (x : Int) : Prop := x = -1 ∨ x = 0 ∨ x = 1
theorem T3.or {x y z x2 y2 z2 : Int} (hx : Bd x) (hy : Bd y) (hz : Bd z) (h : T3 x y z) (h2 : x = 0 → y = 0 → T3 x2 y2 z2) : T3 (orI x x2) (orI y y2) (orI z z2) := by
  unfold Bd at hx hy hz
  unfold T3 at *
  obtain ⟨a1, a2, a3, a4⟩ := h
  rcases hx with rfl | rfl | rfl <;> rcases hy with rfl | rfl | rfl <;> rcases hz with rfl | rfl | rfl <;> simp [orI] at * <;> simp_all
theorem cmpI_T3 (a b c : Int) : T3 (cmpI a b) (cmpI b c) (cmpI a c) := by
  unfold T3 cmpI
  refine ⟨?_, ?_, ?_, ?_⟩ <;> repeat' split
  all_goals omega
theorem cmpB_T3 : ∀ x y z : List UInt8, T3 (cmpB x y) (cmpB y z) (cmpB x z)
  | [], [], [] => by simp [T3, cmpB]
  | [], [], _ :: _ => by simp [T3, cmpB]
  | [], _ :: _, [] => by simp [T3, cmpB]
  | [], _ :: _, _ :: _ => by
    rename_i a y b z
    have := cmpB_bd (a :: y) (b :: z)
    simp only [T3, cmpB] at *
    refine ⟨?_, ?_, ?_, ?_⟩ <;> repeat' split
    all_goals simp_all
  | _ :: _, [], [] => by simp [T3, cmpB]
  | _ :: _, [], _ :: _ => by simp [T3, cmpB]
  | _ :: _, _ :: _, [] => by
    rename_i a x b y
    simp only [T3, cmpB] at *
    refine ⟨?_, ?_, ?_, ?_⟩ <;> repeat' split
    all_goals simp_all
  | a :: x, b :: y, c :: z => by
    have ih := cmpB_T3 x y z
    have e : ∀ (p q : UInt8) (u v : List UInt8), cmpB (p :: u) (q :: v) = orI (cmpI p.toNat q.toNat) (cmpB u v) := fun p q u v => by
      simp only [cmpB, cmpI, orI, UInt8.lt_iff_toNat_lt]
      repeat' split
      all_goals first | rfl | omega
    rw [e, e, e]
    exact T3.or (cmpI_bd _ _) (cmpI_bd _ _) (cmpI_bd _ _) (cmpI_T3 _ _ _) (fun _ _ => ih)

/-- An operator: its name, its type, its priority. -/
abbrev Opd := ByteArray × Int × Int
def nm (l : List UInt8) : ByteArray := ⟨l.toArray⟩
/-- The class of a type. -/
def clsI (t : Int) : Int := if t = 4 ∨ t = 5 then 1 else if 1 ≤ t ∧ t ≤ 3 then 2 else if t = 6 ∨ t = 7 then 3 else 0
def isT (t : Int) : Bool := decide (1 ≤ t) && decide (t ≤ 7)
def riv (c : Int) : Int := if c = 2 then 3 else if c = 3 then 2 else 0
/-- The order of two places: name and class. -/
def kc (m : ByteArray) (c : Int) (n : ByteArray) (d : Int) : Int := orI (cmpB m.data.toList n.data.toList) (cmpI c d)
def oc (o : Opd) : Int := clsI o.2.1
def oneB (o : Opd) : Bool :=
  decide (o.1.size ≤ 100) && isT o.2.1 && decide (1 ≤ o.2.2) && decide (o.2.2 ≤ 1200) && !decide (o.1 = nm [91, 93]) && !decide (o.1 = nm [123, 125]) &&
    (if o.1 = nm [44] then o.2.1 == 2 && o.2.2 == 1000 else if o.1 = nm [124] then oc o == 2 && decide (1001 ≤ o.2.2) else true)
/-- May b stand directly behind a? -/
def okP (a b : Opd) : Bool := !(decide (a.1 = b.1) && oc b == riv (oc a)) && decide (kc a.1 (oc a) b.1 (oc b) < 0)
def chk : Option Opd → List Opd → Bool
  | _, [] => true
  | p, o :: r => oneB o && (match p with | none => true | some q => okP q o) && chk (some o) r
def vld (l : List Opd) : Bool := decide (l.length ≤ 100) && chk none l

theorem kc_bd (m : ByteArray) (c : Int) (n : ByteArray) (d : Int) : Bd (kc m c n d) := orI_bd (cmpB_bd _ _) (cmpI_bd _ _)
theorem kc_neg (m : ByteArray) (c : Int) (n : ByteArray) (d : Int) : kc n d m c = -kc m c n d := by unfold kc; rw [cmpB_neg, cmpI_neg, orI_neg]
theorem kc_T3 (m : ByteArray) (c : Int) (n : ByteArray) (d : Int) (p : ByteArray) (e : Int) : T3 (kc m c n d) (kc n d p e) (kc m c p e) :=
  T3.or (cmpB_bd _ _) (cmpB_bd _ _) (cmpB_bd _ _) (cmpB_T3 _ _ _) (fun _ _ => cmpI_T3 _ _ _)
theorem kc_eq {m : ByteArray} {c : Int} {n : ByteArray} {d : Int} (h : kc m c n d = 0) : m = n ∧ c = d := by
  obtain ⟨h1, h2⟩ := orI_zero' h
  exact ⟨data_inj (cmpB_eq h1), cmpI_eq h2⟩
theorem kc_self (m : ByteArray) (c : Int) : kc m c m c = 0 := by unfold kc; rw [cmpB_self, cmpI_self]; rfl
theorem kc_zero {m : ByteArray} {c : Int} {n : ByteArray} {d : Int} : kc m c n d = 0 ↔ m = n ∧ c = d := ⟨kc_eq, fun ⟨h1, h2⟩ => by rw [h1, h2]; exact kc_self _ _⟩
theorem kc_lt_trans {m : ByteArray} {c : Int} {n : ByteArray} {d : Int} {p : ByteArray} {e : Int} (h1 : kc m c n d < 0) (h2 : kc n d p e < 0) : kc m c p e < 0 := by
  have t := (kc_T3 m c n d p e).2.2.1
  have b1 := kc_bd m c n d
  have b2 := kc_bd n d p e
  unfold Bd at b1 b2
  rw [t (by omega) (by omega)]; decide
theorem kc_lt_le {m : ByteArray} {c : Int} {n : ByteArray} {d : Int} {p : ByteArray} {e : Int} (h1 : kc m c n d < 0) (h2 : kc n d p e ≤ 0) : kc m c p e < 0 := by
  by_cases h : kc n d p e = 0
  · rw [(kc_T3 m c n d p e).2.1 h]; exact h1
  · exact kc_lt_trans h1 (by omega)
theorem kc_le_lt {m : ByteArray} {c : Int} {n : ByteArray} {d : Int} {p : ByteArray} {e : Int} (h1 : kc m c n d ≤ 0) (h2 : kc n d p e < 0) : kc m c p e < 0 := by
  by_cases h : kc m c n d = 0
  · rw [(kc_T3 m c n d p e).1 h]; exact h2
  · exact kc_lt_trans (by omega) h2
/-- At one name the classes decide. -/
theorem kc_name {m : ByteArray} {c d : Int} : kc m c m d = cmpI c d := by unfold kc; rw [cmpB_self]; rfl
theorem cmpI_lt {a b : Int} : cmpI a b < 0 ↔ a < b := by
  unfold cmpI
  by_cases h : a < b
  · simp [h]
  · rw [if_neg h]
    by_cases h2 : b < a
    · simp [h2]; omega
    · simp [h2]; omega

theorem okP_iff {a b : Opd} : okP a b = true ↔ ¬ (a.1 = b.1 ∧ oc b = riv (oc a)) ∧ kc a.1 (oc a) b.1 (oc b) < 0 := by
  simp only [okP, Bool.and_eq_true, Bool.not_eq_true', Bool.and_eq_false_iff, decide_eq_true_eq, decide_eq_false_iff_not, beq_eq_false_iff_ne, ne_eq]
  rw [Classical.not_and_iff_not_or_not]
theorem cls_rng (t : Int) : clsI t = 0 ∨ clsI t = 1 ∨ clsI t = 2 ∨ clsI t = 3 := by
  unfold clsI
  repeat' split
  all_goals simp
theorem cls_isT {t : Int} : isT t = true ↔ clsI t ≠ 0 := by
  unfold isT clsI
  simp only [Bool.and_eq_true, decide_eq_true_eq]
  repeat' split
  all_goals omega
theorem okP_trans {a b c : Opd} (h1 : okP a b = true) (h2 : okP b c = true) : okP a c = true := by
  rw [okP_iff] at *
  refine ⟨fun ⟨e1, e2⟩ => ?_, kc_lt_trans h1.2 h2.2⟩
  have hac := kc_lt_trans h1.2 h2.2
  rw [← e1, kc_name, cmpI_lt, e2] at hac
  have hr : oc a = 2 ∧ oc c = 3 := by
    have ra := cls_rng a.2.1
    unfold oc at *
    unfold riv at hac e2
    rcases ra with r | r | r | r <;> rw [r] at hac e2 <;> simp at hac e2
    exact ⟨r, e2⟩
  -- b lies between
  have hb : a.1 = b.1 := by
    have x1 := cmpB_bd a.1.data.toList b.1.data.toList
    have x2 := cmpB_bd b.1.data.toList c.1.data.toList
    have y1 : cmpB a.1.data.toList b.1.data.toList ≤ 0 := by have := h1.2; unfold kc orI at this; split at this <;> omega
    have y2 : cmpB b.1.data.toList c.1.data.toList ≤ 0 := by have := h2.2; unfold kc orI at this; split at this <;> omega
    rw [← e1, cmpB_neg a.1.data.toList] at y2
    exact data_inj (cmpB_eq (by omega))
  have k1 := h1.2
  have k2 := h2.2
  rw [hb, kc_name, cmpI_lt] at k1
  rw [← e1, hb, kc_name, cmpI_lt] at k2
  omega

/-- The valid tables: all operators are, and each may stand behind each that stands before it. -/
theorem chk_iff : ∀ (l : List Opd) (p : Option Opd), chk p l = true ↔ (∀ o ∈ l, oneB o = true) ∧ l.Pairwise (fun a b => okP a b = true) ∧ (∀ q, p = some q → ∀ o ∈ l, okP q o = true)
  | [], p => by simp [chk]
  | o :: r, p => by
    have ih := chk_iff r (some o)
    simp only [chk, Bool.and_eq_true, ih, List.pairwise_cons, List.mem_cons, forall_eq_or_imp, Option.some.injEq, forall_eq']
    constructor
    · rintro ⟨⟨h1, h2⟩, h3, h4, h5⟩
      refine ⟨⟨h1, h3⟩, ⟨h5, h4⟩, fun q hq => ?_⟩
      subst hq
      exact ⟨h2, fun x hx => okP_trans h2 (h5 x hx)⟩
    · rintro ⟨⟨h1, h3⟩, ⟨h5, h4⟩, h6⟩
      refine ⟨⟨h1, ?_⟩, h3, h4, h5⟩
      cases p with
      | none => rfl
      | some q => exact (h6 q rfl).1
structure Vd (l : List Opd) : Prop where
  le : l.length ≤ 100
  one : ∀ o ∈ l, oneB o = true
  ord : l.Pairwise (fun a b => okP a b = true)
theorem vld_iff {l : List Opd} : vld l = true ↔ Vd l := by
  simp only [vld, Bool.and_eq_true, decide_eq_true_eq, chk_iff]
  exact ⟨fun ⟨h1, h2, h3, _⟩ => ⟨h1, h2, h3⟩, fun h => ⟨h.le, h.one, h.ord, fun _ h => by cases h⟩⟩

/-- Is an operator at a place? -/
def isK (n : ByteArray) (c : Int) (o : Opd) : Bool := decide (o.1 = n) && oc o == c
theorem isK_iff {n : ByteArray} {c : Int} {o : Opd} : isK n c o = true ↔ o.1 = n ∧ oc o = c := by simp [isK]
theorem isK_kc {n : ByteArray} {c : Int} {o : Opd} : isK n c o = true ↔ kc o.1 (oc o) n c = 0 := by rw [isK_iff, kc_zero]
def rem (n : ByteArray) (c : Int) (l : List Opd) : List Opd := l.filter fun o => !isK n c o
/-- Before the place of an operator? -/
def bfr (n : ByteArray) (c : Int) (o : Opd) : Bool := decide (kc o.1 (oc o) n c < 0)
/-- The number of the operators before a place. -/
def lb (l : List Opd) (n : ByteArray) (c : Int) : Nat := (l.takeWhile (bfr n c)).length
def fnd (l : List Opd) (n : ByteArray) (c : Int) : Bool := match l[lb l n c]? with | some o => isK n c o | none => false
def ins (l : List Opd) (at_ : Nat) (o : Opd) : List Opd := l.take at_ ++ o :: l.drop at_
def del (l : List Opd) (at_ : Nat) : List Opd := l.take at_ ++ l.drop (at_ + 1)
/-- With one more, ahead of the first one that stands behind it. -/
def wit (l : List Opd) (o : Opd) : List Opd := match l with
  | [] => [o]
  | x :: r => if kc o.1 (oc o) x.1 (oc x) < 0 then o :: x :: r else x :: wit r o
/-- What is found at a place. -/
def look (l : List Opd) (n : ByteArray) (c : Int) : Option Opd := if vld l then l.find? (isK n c) else none

theorem Vd.tail {o : Opd} {r : List Opd} (h : Vd (o :: r)) : Vd r := ⟨by have := h.le; simp at this; omega, fun x hx => h.one x (List.mem_cons_of_mem _ hx), (List.pairwise_cons.1 h.ord).2⟩
theorem Vd.nil : Vd [] := ⟨by simp, by simp, List.Pairwise.nil⟩

/-- In order, at least by their places. -/
def Asc (l : List Opd) : Prop := l.Pairwise (fun a b => kc a.1 (oc a) b.1 (oc b) < 0)
theorem Vd.asc {l : List Opd} (h : Vd l) : Asc l := h.ord.imp fun h => (okP_iff.1 h).2

theorem asc_look : ∀ (l : List Opd) (n : ByteArray) (c : Int), Asc l → (fnd l n c = true → ∃ o, l[lb l n c]? = some o ∧ l.find? (isK n c) = some o ∧ rem n c l = del l (lb l n c)) ∧ (fnd l n c = false → l.find? (isK n c) = none ∧ rem n c l = l)
  | [], n, c, _ => by simp [fnd, lb, rem]
  | x :: r, n, c, h => by
    have h2 := List.pairwise_cons.1 h
    have ih := asc_look r n c h2.2
    by_cases hb : bfr n c x = true
    · have hlb : lb (x :: r) n c = lb r n c + 1 := by simp [lb, hb]
      have hf : fnd (x :: r) n c = fnd r n c := by unfold fnd; rw [hlb]; rfl
      have hk : isK n c x = false := by
        rw [Bool.eq_false_iff]; intro hk
        rw [isK_kc] at hk
        simp only [bfr, decide_eq_true_eq] at hb
        omega
      have hr : rem n c (x :: r) = x :: rem n c r := by simp [rem, hk]
      have hfi : (x :: r).find? (isK n c) = r.find? (isK n c) := by simp [hk]
      rw [hf, hlb, hr, hfi]
      refine ⟨fun hq => ?_, fun hq => ?_⟩
      · obtain ⟨o, h3, h4, h5⟩ := ih.1 hq
        exact ⟨o, by simpa using h3, h4, by rw [h5]; simp [del]⟩
      · obtain ⟨h3, h4⟩ := ih.2 hq
        exact ⟨h3, by rw [h4]⟩
    · have hlb : lb (x :: r) n c = 0 := by simp [lb, hb]
      have hge : 0 ≤ kc x.1 (oc x) n c := by simp only [bfr, decide_eq_true_eq] at hb; omega
      have hrest : ∀ y ∈ r, isK n c y = false := fun y hy => by
        rw [Bool.eq_false_iff]; intro hk
        rw [isK_iff] at hk
        have := h2.1 y hy
        rw [hk.1, hk.2] at this
        omega
      have hrr : rem n c r = r := by
        unfold rem
        rw [List.filter_eq_self]
        intro y hy
        rw [hrest y hy]; rfl
      have hnone : r.find? (isK n c) = none := by
        rw [List.find?_eq_none]
        intro y hy
        rw [hrest y hy]; decide
      rw [show fnd (x :: r) n c = isK n c x by unfold fnd; rw [hlb]; rfl, hlb]
      refine ⟨fun hq => ⟨x, rfl, by simp [hq], ?_⟩, fun hq => ⟨by simp [hq, hnone], ?_⟩⟩
      · rw [rem, List.filter_cons, hq]; simp only [Bool.not_true, Bool.false_eq_true, if_false]
        show rem n c r = _
        rw [hrr]; simp [del]
      · rw [rem, List.filter_cons, hq]; simp only [Bool.not_false, if_true]
        show x :: rem n c r = _
        rw [hrr]

theorem lb_le (l : List Opd) (n : ByteArray) (c : Int) : lb l n c ≤ l.length := (List.takeWhile_sublist _).length_le

/-- With one more where there is none at its place. -/
theorem wit_ins : ∀ (l : List Opd) (o : Opd), (∀ x ∈ l, isK o.1 (oc o) x = false) → wit l o = ins l (lb l o.1 (oc o)) o
  | [], o, _ => rfl
  | x :: r, o, h => by
    have hx := h x (List.mem_cons_self ..)
    have hne : kc x.1 (oc x) o.1 (oc o) ≠ 0 := fun e => by rw [← isK_kc, hx] at e; cases e
    have hn := kc_neg x.1 (oc x) o.1 (oc o)
    by_cases hb : kc o.1 (oc o) x.1 (oc x) < 0
    · have : bfr o.1 (oc o) x = false := by simp only [bfr, decide_eq_false_iff_not]; omega
      rw [wit, if_pos hb, lb, List.takeWhile_cons_of_neg (by rw [this]; decide)]
      rfl
    · have : bfr o.1 (oc o) x = true := by simp only [bfr, decide_eq_true_eq]; omega
      rw [wit, if_neg hb, wit_ins r o (fun y hy => h y (List.mem_cons_of_mem _ hy))]
      simp [lb, this, ins]
theorem lb_rem (l : List Opd) (n : ByteArray) (c : Int) : lb (rem n c l) n c = lb l n c ∨ True := .inr trivial

/-- What Set makes of a table. -/
def setT (l : List Opd) (p t : Int) (n : ByteArray) : List Opd := if 0 < p then wit (rem n (clsI t) l) (n, t, p) else rem n (clsI t) l
/-- May it be set? -/
def perm (l : List Opd) (p t : Int) (n : ByteArray) : Bool :=
  !(decide (n = nm [44]) || decide (n = nm [91, 93]) || decide (n = nm [123, 125])) && (if n = nm [124] then clsI t == 2 && (p == 0 || decide (1001 ≤ p)) else (p == 0 || !(l.find? (isK n (riv (clsI t)))).isSome))
def argB (l : List Opd) (p t : Int) (n : ByteArray) : Bool := vld l && (decide (0 ≤ p) && decide (p ≤ 1200)) && isT t && decide (n.size ≤ 100)
def setE (l : List Opd) (p t : Int) (n : ByteArray) : Int := if argB l p t n then if perm l p t n then if 100 < (setT l p t n).length then 13 else 0 else 5 else 1
def setR (l : List Opd) (p t : Int) (n : ByteArray) : List Opd := if setE l p t n = 0 then setT l p t n else []

theorem mem_wit {l : List Opd} {o x : Opd} : x ∈ wit l o ↔ x = o ∨ x ∈ l := by
  induction l with
  | nil => simp [wit]
  | cons y r ih =>
    rw [wit]
    split
    · simp
    · simp only [List.mem_cons, ih]
      constructor
      · rintro (h | h | h)
        · exact .inr (.inl h)
        · exact .inl h
        · exact .inr (.inr h)
      · rintro (h | h | h)
        · exact .inr (.inl h)
        · exact .inl h
        · exact .inr (.inr h)
theorem len_wit (l : List Opd) (o : Opd) : (wit l o).length = l.length + 1 := by
  induction l with
  | nil => rfl
  | cons y r ih => rw [wit]; split <;> simp [ih]
theorem mem_rem {n : ByteArray} {c : Int} {l : List Opd} {x : Opd} : x ∈ rem n c l ↔ x ∈ l ∧ isK n c x = false := by simp [rem]

/-- A row with one more is in order, if nothing is at its place or at its rival's. -/
theorem ord_wit : ∀ (l : List Opd) (o : Opd), l.Pairwise (fun a b => okP a b = true) → (∀ x ∈ l, isK o.1 (oc o) x = false) → (∀ x ∈ l, isK o.1 (riv (oc o)) x = false) → (∀ x ∈ l, x.1 = o.1 → oc x ≠ 0) → oc o ≠ 0 → (wit l o).Pairwise (fun a b => okP a b = true)
  | [], o, _, _, _, _, _ => by simp [wit]
  | x :: r, o, h, h1, h2, h3, h4 => by
    have hp := List.pairwise_cons.1 h
    have hx := h1 x (List.mem_cons_self ..)
    have hx2 := h2 x (List.mem_cons_self ..)
    have hx3 := h3 x (List.mem_cons_self ..)
    have hne : kc x.1 (oc x) o.1 (oc o) ≠ 0 := fun e => by rw [← isK_kc, hx] at e; cases e
    have hn := kc_neg x.1 (oc x) o.1 (oc o)
    rw [wit]
    split
    · rename_i hb
      have ho : okP o x = true := by
        rw [okP_iff]
        refine ⟨fun ⟨e1, e2⟩ => ?_, hb⟩
        have : isK o.1 (riv (oc o)) x = true := isK_iff.2 ⟨e1.symm, e2⟩
        rw [hx2] at this; cases this
      refine List.pairwise_cons.2 ⟨fun y hy => ?_, h⟩
      rcases List.mem_cons.1 hy with rfl | hy
      · exact ho
      · exact okP_trans ho (hp.1 y hy)
    · rename_i hb
      have ho : okP x o = true := by
        rw [okP_iff]
        refine ⟨fun ⟨e1, e2⟩ => ?_, by omega⟩
        have hc : oc x = riv (oc o) := by
          have ra := cls_rng x.2.1
          have := hx3 e1
          unfold oc riv at *
          rcases ra with r | r | r | r <;> rw [r] at e2 ⊢ <;> simp_all
        have : isK o.1 (riv (oc o)) x = true := isK_iff.2 ⟨e1, hc⟩
        rw [hx2] at this; cases this
      refine List.pairwise_cons.2 ⟨fun y hy => ?_, ord_wit r o hp.2 (fun y hy => h1 y (List.mem_cons_of_mem _ hy)) (fun y hy => h2 y (List.mem_cons_of_mem _ hy)) (fun y hy => h3 y (List.mem_cons_of_mem _ hy)) h4⟩
      rcases mem_wit.1 hy with rfl | hy
      · exact ho
      · exact hp.1 y hy
theorem one_cls {o : Opd} (h : oneB o = true) : isT o.2.1 = true := by
  simp only [oneB, Bool.and_eq_true] at h
  exact h.1.1.1.1.1.2
theorem one_cls0 {o : Opd} (h : oneB o = true) : oc o ≠ 0 := cls_isT.1 (one_cls h)

/-- What may be set is valid. -/
theorem one_set {l : List Opd} {p t : Int} {n : ByteArray} (ha : argB l p t n = true) (hp : perm l p t n = true) (h0 : 0 < p) : oneB (n, t, p) = true := by
  simp only [argB, Bool.and_eq_true, decide_eq_true_eq] at ha
  simp only [perm, Bool.and_eq_true, Bool.not_eq_true', Bool.or_eq_false_iff] at hp
  obtain ⟨⟨⟨_, h1, h2⟩, h3⟩, h4⟩ := ha
  obtain ⟨⟨⟨q1, q2⟩, q3⟩, q4⟩ := hp
  have p1 : n ≠ nm [44] := of_decide_eq_false q1
  simp only [oneB, oc, Bool.and_eq_true, decide_eq_true_eq, h3, h4, q2, q3, Bool.not_false, true_and, and_true, h2]
  refine ⟨by omega, ?_⟩
  rw [if_neg p1]
  by_cases hb : n = nm [124]
  · rw [if_pos hb] at q4
    rw [if_pos hb]
    simp only [Bool.and_eq_true, Bool.or_eq_true, beq_iff_eq, decide_eq_true_eq] at q4
    simp only [Bool.and_eq_true, beq_iff_eq, decide_eq_true_eq]
    exact ⟨q4.1, by omega⟩
  · rw [if_neg hb]
theorem vd_rem {l : List Opd} (h : Vd l) (n : ByteArray) (c : Int) : Vd (rem n c l) :=
  ⟨Nat.le_trans (List.length_filter_le _ _) h.le, fun o ho => h.one o (mem_rem.1 ho).1, h.ord.filter _⟩

theorem setE_zero {l : List Opd} {p t : Int} {n : ByteArray} (h : setE l p t n = 0) : argB l p t n = true ∧ perm l p t n = true ∧ (setT l p t n).length ≤ 100 := by
  unfold setE at h
  split at h
  · split at h
    · split at h
      · omega
      · exact ⟨‹_›, ‹_›, by omega⟩
    · omega
  · omega
theorem arg_vd {l : List Opd} {p t : Int} {n : ByteArray} (h : argB l p t n = true) : Vd l := by
  simp only [argB, Bool.and_eq_true] at h
  exact vld_iff.1 h.1.1.1
/-- No rival where something is set. -/
theorem no_rival {l : List Opd} {p t : Int} {n : ByteArray} (ha : argB l p t n = true) (hp : perm l p t n = true) (h0 : 0 < p) : ∀ x ∈ l, isK n (riv (clsI t)) x = false := by
  intro x hx
  simp only [perm, Bool.and_eq_true, Bool.not_eq_true', Bool.or_eq_false_iff] at hp
  obtain ⟨_, q4⟩ := hp
  by_cases hb : n = nm [124]
  · rw [if_pos hb] at q4
    simp only [Bool.and_eq_true, beq_iff_eq] at q4
    rw [Bool.eq_false_iff]; intro hk
    rw [isK_iff] at hk
    have h1 := (arg_vd ha).one x hx
    have hn : x.1 = nm [124] := by rw [hk.1]; exact hb
    simp only [oneB, hn, Bool.and_eq_true] at h1
    have h2 := h1.2
    rw [if_neg (by decide), if_pos (by decide)] at h2
    simp only [Bool.and_eq_true, beq_iff_eq] at h2
    rw [hk.2, q4.1] at h2
    exact absurd h2.1 (by decide)
  · rw [if_neg hb] at q4
    simp only [Bool.or_eq_true, beq_iff_eq, Bool.not_eq_true', Option.isSome_eq_false_iff] at q4
    rcases q4 with h | h
    · omega
    · have := Option.isNone_iff_eq_none.1 h
      rw [List.find?_eq_none] at this
      rw [Bool.eq_false_iff]; exact this x hx

/-- THE TABLE THAT SET MAKES IS VALID. -/
theorem vd_set {l : List Opd} {p t : Int} {n : ByteArray} (h : setE l p t n = 0) : Vd (setT l p t n) := by
  obtain ⟨ha, hp, hl⟩ := setE_zero h
  have hv := arg_vd ha
  unfold setT at hl ⊢
  by_cases h0 : 0 < p
  · rw [if_pos h0] at hl ⊢
    have ho := one_set ha hp h0
    refine ⟨hl, fun x hx => ?_, ord_wit _ _ (vd_rem hv _ _).ord (fun x hx => (mem_rem.1 hx).2) (fun x hx => no_rival ha hp h0 x (mem_rem.1 hx).1) (fun x hx _ => one_cls0 (hv.one x (mem_rem.1 hx).1)) (one_cls0 ho)⟩
    rcases mem_wit.1 hx with rfl | hx
    · exact ho
    · exact hv.one x (mem_rem.1 hx).1
  · rw [if_neg h0] at hl ⊢
    exact vd_rem hv _ _

theorem find_rem_ne {l : List Opd} {n m : ByteArray} {c d : Int} (h : ¬ (m = n ∧ d = c)) : (rem n c l).find? (isK m d) = l.find? (isK m d) := by
  unfold rem
  rw [List.find?_filter]
  congr 1
  funext x
  cases hk : isK m d x
  · simp
  · rw [isK_iff] at hk
    have : isK n c x = false := by
      rw [Bool.eq_false_iff]; intro h2
      rw [isK_iff] at h2
      exact h ⟨hk.1.symm.trans h2.1, hk.2.symm.trans h2.2⟩
    simp [this]
theorem find_rem_same (l : List Opd) (n : ByteArray) (c : Int) : (rem n c l).find? (isK n c) = none := by
  rw [List.find?_eq_none]
  intro x hx
  rw [(mem_rem.1 hx).2]; decide
theorem find_wit_ne {l : List Opd} {o : Opd} {m : ByteArray} {d : Int} (h : isK m d o = false) : (wit l o).find? (isK m d) = l.find? (isK m d) := by
  induction l with
  | nil => simp [wit, h]
  | cons x r ih =>
    rw [wit]
    split
    · rw [List.find?_cons_of_neg (by rw [h]; decide)]
    · rw [List.find?_cons, List.find?_cons, ih]
theorem find_wit_same {l : List Opd} {o : Opd} (h : ∀ x ∈ l, isK o.1 (oc o) x = false) : (wit l o).find? (isK o.1 (oc o)) = some o := by
  have hs : isK o.1 (oc o) o = true := isK_iff.2 ⟨rfl, rfl⟩
  induction l with
  | nil => simp [wit, hs]
  | cons x r ih =>
    rw [wit]
    split
    · rw [List.find?_cons_of_pos hs]
    · rw [List.find?_cons_of_neg (by rw [h x (List.mem_cons_self ..)]; decide)]
      exact ih fun y hy => h y (List.mem_cons_of_mem _ hy)
/-- What is found behind Set. -/
theorem find_set {l : List Opd} {p t : Int} {n m : ByteArray} {d : Int} (hp0 : 0 ≤ p) : (setT l p t n).find? (isK m d) = if m = n ∧ d = clsI t then (if 0 < p then some (n, t, p) else none) else l.find? (isK m d) := by
  unfold setT
  by_cases h : m = n ∧ d = clsI t
  · rw [if_pos h]
    obtain ⟨rfl, rfl⟩ := h
    by_cases h0 : 0 < p
    · rw [if_pos h0, if_pos h0]
      exact find_wit_same (o := (m, t, p)) fun x hx => (mem_rem.1 hx).2
    · rw [if_neg h0, if_neg h0]
      exact find_rem_same _ _ _
  · rw [if_neg h]
    by_cases h0 : 0 < p
    · rw [if_pos h0, find_wit_ne, find_rem_ne h]
      rw [Bool.eq_false_iff]; intro hk
      rw [isK_iff] at hk
      exact h ⟨hk.1.symm, hk.2.symm⟩
    · rw [if_neg h0, find_rem_ne h]

theorem rem_wit {l : List Opd} {o : Opd} : rem o.1 (oc o) (wit l o) = rem o.1 (oc o) l := by
  have hs : isK o.1 (oc o) o = true := isK_iff.2 ⟨rfl, rfl⟩
  induction l with
  | nil => simp [wit, rem, hs]
  | cons x r ih =>
    rw [wit]
    split
    · rw [rem, List.filter_cons, hs]; rfl
    · rw [rem, List.filter_cons, rem, List.filter_cons]
      unfold rem at ih
      rw [ih]
theorem rem_rem (l : List Opd) (n : ByteArray) (c : Int) : rem n c (rem n c l) = rem n c l := by
  unfold rem
  rw [List.filter_filter]
  congr 1
  funext x
  simp
theorem rem_set (l : List Opd) (p t : Int) (n : ByteArray) : rem n (clsI t) (setT l p t n) = rem n (clsI t) l := by
  unfold setT
  split
  · exact (rem_wit (o := (n, t, p))).trans (rem_rem _ _ _)
  · exact rem_rem _ _ _
/-- Setting again changes nothing. -/
theorem set_again (l : List Opd) (p t : Int) (n : ByteArray) : setT (setT l p t n) p t n = setT l p t n := by
  conv => lhs; rw [setT]
  rw [rem_set]
  rfl
theorem set_back (l : List Opd) (p t : Int) (n : ByteArray) : setT (setT l p t n) 0 t n = rem n (clsI t) l := by
  rw [setT, if_neg (by decide), rem_set]
theorem rem_none {l : List Opd} {n : ByteArray} {c : Int} (h : l.find? (isK n c) = none) : rem n c l = l := by
  unfold rem
  rw [List.filter_eq_self]
  intro x hx
  rw [List.find?_eq_none] at h
  have := h x hx
  rw [Bool.not_eq_true] at this
  rw [this]; rfl
theorem setE_of {l : List Opd} {p t : Int} {n : ByteArray} (h1 : argB l p t n = true) (h2 : perm l p t n = true) (h3 : (setT l p t n).length ≤ 100) : setE l p t n = 0 := by
  unfold setE
  rw [if_pos h1, if_pos h2, if_neg (by omega)]
theorem again_ok {l : List Opd} {p t : Int} {n : ByteArray} (h : setE l p t n = 0) : setE (setT l p t n) p t n = 0 := by
  have hv := vd_set h
  obtain ⟨ha, hp, hl⟩ := setE_zero h
  refine setE_of ?_ ?_ (by rw [set_again]; exact hl)
  · simp only [argB, Bool.and_eq_true] at ha ⊢
    exact ⟨⟨⟨vld_iff.2 hv, ha.1.1.2⟩, ha.1.2⟩, ha.2⟩
  · have hp0 : 0 ≤ p := by simp only [argB, Bool.and_eq_true, decide_eq_true_eq] at ha; exact ha.1.1.2.1
    unfold perm at hp ⊢
    have hf : (setT l p t n).find? (isK n (riv (clsI t))) = l.find? (isK n (riv (clsI t))) := by
      rw [find_set hp0, if_neg]
      rintro ⟨_, h⟩
      have := cls_isT.1 (show isT t = true by simp only [argB, Bool.and_eq_true] at ha; exact ha.1.2)
      have r := cls_rng t
      unfold riv at h
      rcases r with r | r | r | r <;> rw [r] at h this <;> simp at h this
    rw [hf]; exact hp
theorem back_ok {l : List Opd} {p t : Int} {n : ByteArray} (h : setE l p t n = 0) : setE (setT l p t n) 0 t n = 0 := by
  have hv := vd_set h
  obtain ⟨ha, hp, hl⟩ := setE_zero h
  refine setE_of ?_ ?_ (by rw [set_back]; exact (vd_rem (arg_vd ha) _ _).le)
  · simp only [argB, Bool.and_eq_true, decide_eq_true_eq] at ha ⊢
    exact ⟨⟨⟨vld_iff.2 hv, by omega⟩, ha.1.2⟩, ha.2⟩
  · unfold perm at hp ⊢
    simp only [Bool.and_eq_true] at hp ⊢
    refine ⟨hp.1, ?_⟩
    have h2 := hp.2
    by_cases hb : n = nm [124]
    · rw [if_pos hb] at h2 ⊢
      simp only [Bool.and_eq_true] at h2
      simp [h2.1]
    · rw [if_neg hb]; simp
end Go.Proofs.HP
