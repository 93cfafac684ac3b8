/- Mathematics of canonical forms: a term whose variables are renamed one to one. -/
import Derived.Test.YtdgflagafilobaaS8
import Derived.Test.YtdgflagafilobaaS10
namespace Go.Proofs.Ytdgflagafilobaa
open Go.RowKit Go.Proofs.HT

def rn (s : Int → Int) (n : Int) : Tm := vr (s n)
/-- One to one on a list. -/
def Inj (s : Int → Int) (l : List Int) : Prop := ∀ a ∈ l, ∀ b ∈ l, s a = s b → a = b
theorem Inj.sub {s : Int → Int} {l m : List Int} (h : Inj s m) (hs : ∀ a ∈ l, a ∈ m) : Inj s l := fun a ha b hb e => h a (hs a ha) b (hs b hb) e
theorem addv_map {s : Int → Int} (xs : List Int) (n : Int) (h : Inj s (addv xs n)) : addv (xs.map s) (s n) = (addv xs n).map s := by
  have hm := addv_mem xs n
  have hx : ∀ x ∈ xs, x ∈ addv xs n := fun x hx => (addv_pre xs n).subset hx
  have hiff : posF (xs.map s) (s n) 0 < 0 ↔ posF xs n 0 < 0 := by
    rw [posF_iff, posF_iff]
    constructor
    · intro h2 x hx2 e; exact h2 (s x) (List.mem_map.2 ⟨x, hx2, rfl⟩) (by rw [e])
    · intro h2 y hy e
      obtain ⟨x, hx2, rfl⟩ := List.mem_map.1 hy
      exact h2 x hx2 (h x (hx x hx2) n hm e)
  unfold addv
  by_cases hp : posF xs n 0 < 0
  · rw [if_pos hp, if_pos (hiff.2 hp)]; simp
  · rw [if_neg hp, if_neg (fun h => hp (hiff.1 h))]
theorem varsF_map {s : Int → Int} (t : Tm) : nodesB t = true → ∀ xs : List Int, Inj s (varsF xs t) → varsF (xs.map s) (mapT (rn s) t) = (varsF xs t).map s := by
  induction t using Tm.ind with
  | h k n nm ts ih =>
    intro hn xs hi
    have hnd := nodes_at hn
    by_cases h0 : k = 0
    · subst h0
      obtain ⟨_, _, rfl, hl⟩ := node_var hnd.1
      obtain rfl : ts = [] := List.length_eq_zero_iff.1 hl
      rw [varsF_var] at hi ⊢
      have e : mapT (rn s) (.mk 0 n ⟨#[]⟩ []) = .mk 0 (s n) ⟨#[]⟩ [] := by simp [mapT, rn, vr]
      rw [e, varsF_var]
      exact addv_map xs n hi
    · have key : ∀ (l : List Tm), (∀ t ∈ l, nodesB t = true → ∀ xs : List Int, Inj s (varsF xs t) → varsF (xs.map s) (mapT (rn s) t) = (varsF xs t).map s) → (∀ t ∈ l, nodesB t = true) → ∀ xs : List Int, Inj s (varsL xs l) → varsL (xs.map s) (mapL (rn s) l) = (varsL xs l).map s := by
        intro l
        induction l with
        | nil => intro _ _ xs _; rfl
        | cons x l ih2 =>
          intro h1 h2 xs hi
          rw [varsL] at hi
          rw [mapL, varsL, varsL, h1 x (by simp) (h2 x (by simp)) xs (hi.sub fun a ha => (varsL_pre l _).subset ha)]
          exact ih2 (fun y hy => h1 y (by simp [hy])) (fun y hy => h2 y (by simp [hy])) _ hi
      have e : mapT (rn s) (.mk k n nm ts) = .mk k n nm (mapL (rn s) ts) := by simp [mapT, h0]
      rw [varsF_not xs k n nm ts h0] at hi ⊢
      rw [e, varsF_not _ k n nm _ h0]
      exact key ts ih (fun t ht => by obtain ⟨i, hi2, rfl⟩ := List.getElem_of_mem ht; exact hnd.2 i hi2) xs hi
/-- Two maps, one behind the other. -/
theorem mapT_rn (g : Int → Tm) (s : Int → Int) (t : Tm) : mapT g (mapT (rn s) t) = mapT (fun n => g (s n)) t := by
  induction t using Tm.ind with
  | h k n nm ts ih =>
    by_cases h0 : k = 0
    · subst h0; simp [mapT, rn, vr]
    · have key : ∀ l : List Tm, (∀ t ∈ l, mapT g (mapT (rn s) t) = mapT (fun n => g (s n)) t) → mapL g (mapL (rn s) l) = mapL (fun n => g (s n)) l := by
        intro l
        induction l with
        | nil => intro _; rfl
        | cons x l ih2 => intro h; rw [mapL, mapL, mapL, h x (by simp), ih2 (fun y hy => h y (by simp [hy]))]
      have e : mapT (rn s) (.mk k n nm ts) = .mk k n nm (mapL (rn s) ts) := by simp [mapT, h0]
      have e2 : mapT (fun n => g (s n)) (.mk k n nm ts) = .mk k n nm (mapL (fun n => g (s n)) ts) := by simp [mapT, h0]
      rw [e, e2, mapT, if_neg h0, key ts ih]
/-- Two maps that agree on the variables. -/
theorem mapT_congr {g g' : Int → Tm} (t : Tm) : nodesB t = true → ∀ xs : List Int, (∀ n ∈ varsF xs t, g n = g' n) → mapT g t = mapT g' t := by
  induction t using Tm.ind with
  | h k n nm ts ih =>
    intro hn xs hg
    have hnd := nodes_at hn
    by_cases h0 : k = 0
    · subst h0
      obtain ⟨_, _, rfl, hl⟩ := node_var hnd.1
      obtain rfl : ts = [] := List.length_eq_zero_iff.1 hl
      rw [varsF_var] at hg
      have := hg n (addv_mem xs n)
      simp [mapT, this]
    · have key : ∀ (l : List Tm), (∀ t ∈ l, nodesB t = true → ∀ xs : List Int, (∀ n ∈ varsF xs t, g n = g' n) → mapT g t = mapT g' t) → (∀ t ∈ l, nodesB t = true) → ∀ xs : List Int, (∀ n ∈ varsL xs l, g n = g' n) → mapL g l = mapL g' l := by
        intro l
        induction l with
        | nil => intro _ _ xs _; rfl
        | cons x l ih2 =>
          intro h1 h2 xs hg
          rw [varsL] at hg
          rw [mapL, mapL, h1 x (by simp) (h2 x (by simp)) xs (fun n hn => hg n ((varsL_pre l _).subset hn)), ih2 (fun y hy => h1 y (by simp [hy])) (fun y hy => h2 y (by simp [hy])) _ hg]
      rw [varsF_not xs k n nm ts h0] at hg
      have e : mapT g (.mk k n nm ts) = .mk k n nm (mapL g ts) := by simp [mapT, h0]
      have e2 : mapT g' (.mk k n nm ts) = .mk k n nm (mapL g' ts) := by simp [mapT, h0]
      rw [e, e2, key ts ih (fun t ht => by obtain ⟨i, hi2, rfl⟩ := List.getElem_of_mem ht; exact hnd.2 i hi2) xs hg]
theorem posF_map {s : Int → Int} : ∀ (xs : List Int) (n : Int) (i : Nat), Inj s (n :: xs) → posF (xs.map s) (s n) i = posF xs n i
  | [], _, _, _ => rfl
  | x :: xs, n, i, h => by
    rw [List.map_cons, posF_cons, posF_cons]
    by_cases e : x = n
    · have e2 : s x = s n := by rw [e]
      rw [if_pos e, if_pos e2]
    · have e2 : ¬ s x = s n := fun h2 => e (h x (by simp) n (by simp) h2)
      rw [if_neg e, if_neg e2]
      exact posF_map xs n (i + 1) (h.sub fun a ha => by simp at ha ⊢; rcases ha with h | h <;> simp [h])
/-- A term renamed one to one has the same canonical form. -/
theorem canT_rn {s : Int → Int} (t : Tm) (hn : nodesB t = true) (hi : Inj s (varsF [] t)) : canT (mapT (rn s) t) = canT t := by
  unfold canT
  have h := varsF_map t hn [] hi
  simp only [List.map_nil] at h
  rw [h, mapT_rn]
  refine mapT_congr t hn [] fun n hm => ?_
  show nb _ (s n) = nb _ n
  unfold nb
  rw [posF_map _ n 0 (hi.sub fun a ha => by simp at ha; rcases ha with rfl | h; exact hm; exact h)]
theorem cnt_map_rn (s : Int → Int) (t : Tm) : nodesB t = true → cnt (mapT (rn s) t) = cnt t := by
  induction t using Tm.ind with
  | h k n nm ts ih =>
    intro hn
    have hnd := nodes_at hn
    by_cases h0 : k = 0
    · subst h0
      obtain ⟨_, _, rfl, hl⟩ := node_var hnd.1
      obtain rfl : ts = [] := List.length_eq_zero_iff.1 hl
      rfl
    · have key : ∀ l : List Tm, (∀ t ∈ l, nodesB t = true → cnt (mapT (rn s) t) = cnt t) → (∀ t ∈ l, nodesB t = true) → cntL (mapL (rn s) l) = cntL l := by
        intro l
        induction l with
        | nil => intro _ _; rfl
        | cons x l ih2 => intro h1 h2; rw [mapL, cntL, cntL, h1 x (by simp) (h2 x (by simp)), ih2 (fun y hy => h1 y (by simp [hy])) (fun y hy => h2 y (by simp [hy]))]
      have e : mapT (rn s) (.mk k n nm ts) = .mk k n nm (mapL (rn s) ts) := by simp [mapT, h0]
      rw [e, cnt, cnt, key ts ih (fun t ht => by obtain ⟨i, hi2, rfl⟩ := List.getElem_of_mem ht; exact hnd.2 i hi2)]
theorem nodes_map_rn {s : Int → Int} (t : Tm) : nodesB t = true → ∀ xs : List Int, (∀ n ∈ varsF xs t, numB (s n) = true) → nodesB (mapT (rn s) t) = true := by
  induction t using Tm.ind with
  | h k n nm ts ih =>
    intro hn xs hg
    have hnd := nodes_at hn
    by_cases h0 : k = 0
    · subst h0
      obtain ⟨_, _, rfl, hl⟩ := node_var hnd.1
      obtain rfl : ts = [] := List.length_eq_zero_iff.1 hl
      rw [varsF_var] at hg
      have h2 := numB_iff.1 (hg n (addv_mem xs n))
      simp [mapT, rn, vr, nodesB, nodesL, nodeB, h2]; rfl
    · have key : ∀ (l : List Tm), (∀ t ∈ l, nodesB t = true → ∀ xs : List Int, (∀ n ∈ varsF xs t, numB (s n) = true) → nodesB (mapT (rn s) t) = true) → (∀ t ∈ l, nodesB t = true) → ∀ xs : List Int, (∀ n ∈ varsL xs l, numB (s n) = true) → nodesL (mapL (rn s) l) = true := by
        intro l
        induction l with
        | nil => intro _ _ xs _; rfl
        | cons x l ih2 =>
          intro h1 h2 xs hg
          rw [varsL] at hg
          rw [mapL, nodesL, h1 x (by simp) (h2 x (by simp)) xs (fun n hn => hg n ((varsL_pre l _).subset hn)), ih2 (fun y hy => h1 y (by simp [hy])) (fun y hy => h2 y (by simp [hy])) _ hg]; rfl
      rw [varsF_not xs k n nm ts h0] at hg
      have e : mapT (rn s) (.mk k n nm ts) = .mk k n nm (mapL (rn s) ts) := by simp [mapT, h0]
      rw [e, nodesB, mapL_length, hnd.1, key ts ih (fun t ht => by obtain ⟨i, hi2, rfl⟩ := List.getElem_of_mem ht; exact hnd.2 i hi2) xs hg]; rfl
theorem valid_map_rn {s : Int → Int} (t : Tm) (hv : validB t = true) (hs : ∀ n ∈ varsF [] t, numB (s n) = true) : validB (mapT (rn s) t) = true := by
  have h := validB_nodes hv
  unfold validB
  rw [cnt_map_rn s t h.1, nodes_map_rn t h.1 [] hs]
  simp [h.2]
/-- The list of variables has no number twice. -/
def Once (l : List Int) : Prop := l.Nodup
theorem addv_once {xs : List Int} (n : Int) (h : xs.Nodup) : (addv xs n).Nodup := by
  unfold addv
  by_cases hp : posF xs n 0 < 0
  · rw [if_pos hp]
    rw [posF_iff] at hp
    exact List.nodup_append.2 ⟨h, by simp, fun a ha b hb e => by simp at hb; subst hb; exact hp a ha e⟩
  · rw [if_neg hp]; exact h
theorem varsF_once (t : Tm) : ∀ xs : List Int, xs.Nodup → (varsF xs t).Nodup := by
  induction t using Tm.ind with
  | h k n nm ts ih =>
    intro xs hx
    have key : ∀ (l : List Tm), (∀ t ∈ l, ∀ xs : List Int, xs.Nodup → (varsF xs t).Nodup) → ∀ xs : List Int, xs.Nodup → (varsL xs l).Nodup := by
      intro l
      induction l with
      | nil => intro _ xs h; exact h
      | cons y l ih2 => intro h xs hx; rw [varsL]; exact ih2 (fun z hz => h z (by simp [hz])) _ (h y (by simp) xs hx)
    rw [varsF]
    refine key ts ih _ ?_
    by_cases hc : k = 0 ∧ posF xs n 0 < 0
    · rw [if_pos hc]
      have h := addv_once n hx
      unfold addv at h; rwa [if_pos hc.2] at h
    · rw [if_neg hc]; exact hx
theorem posF_get : ∀ (xs : List Int) (i : Nat) (h : i < xs.length) (j : Nat), xs.Nodup → posF xs xs[i] j = j + i
  | [], i, h, _, _ => absurd h (by simp)
  | x :: xs, 0, _, j, _ => by rw [posF_cons]; simp
  | x :: xs, i + 1, h, j, hn => by
    rw [List.nodup_cons] at hn
    have hi : i < xs.length := by simpa using h
    have hne : ¬ x = (x :: xs)[i + 1] := fun e => hn.1 (by rw [e]; simp)
    rw [posF_cons, if_neg hne]
    have := posF_get xs i hi (j + 1) hn.2
    simp only [List.getElem_cons_succ]
    rw [this]; omega
theorem pos_inj (xs : List Int) (h : xs.Nodup) : Inj (fun n => posF xs n 0) xs := by
  intro a ha b hb e
  obtain ⟨i, hi, rfl⟩ := List.getElem_of_mem ha
  obtain ⟨j, hj, rfl⟩ := List.getElem_of_mem hb
  simp only [posF_get xs i hi 0 h, posF_get xs j hj 0 h] at e
  have : i = j := by omega
  subst this; rfl
theorem canT_rnF (t : Tm) : canT t = mapT (rn fun n => posF (varsF [] t) n 0) t := rfl
theorem vars_can (t : Tm) (hn : nodesB t = true) : varsF [] (canT t) = (varsF [] t).map fun n => posF (varsF [] t) n 0 := by
  rw [canT_rnF]
  exact varsF_map t hn [] (pos_inj _ (varsF_once t [] (by simp)))
theorem vars_can_get (t : Tm) (hn : nodesB t = true) (i : Nat) (h : i < (varsF [] (canT t)).length) : (varsF [] (canT t))[i] = i := by
  have e := vars_can t hn
  have h2 : i < (varsF [] t).length := by rw [e] at h; simpa using h
  have : (varsF [] (canT t))[i] = ((varsF [] t).map fun n => posF (varsF [] t) n 0)[i]'(by simpa using h2) := by simp only [e]
  rw [this, List.getElem_map, posF_get _ i h2 0 (varsF_once t [] (by simp))]; omega
theorem vars_can_len (t : Tm) (hn : nodesB t = true) : (varsF [] (canT t)).length = (varsF [] t).length := by rw [vars_can t hn]; simp
theorem canT_valid (t : Tm) (hv : validB t = true) : validB (canT t) = true := by
  rw [canT_rnF]
  refine valid_map_rn t hv fun n hn => ?_
  have h1 := posF_bd (varsF [] t) n 0
  have h2 := varsF_len t []
  have h3 := (validB_nodes hv).2
  obtain ⟨i, hi, rfl⟩ := List.getElem_of_mem hn
  rw [posF_get _ i hi 0 (varsF_once t [] (by simp))]
  simp at h2
  exact numB_iff.2 ⟨by omega, by omega⟩
theorem canT_can (t : Tm) (hn : nodesB t = true) : canT (canT t) = canT t := by
  have h := canT_rn (s := fun n => posF (varsF [] t) n 0) t hn (pos_inj _ (varsF_once t [] (by simp)))
  rw [← canT_rnF] at h
  exact h
theorem cnt_can (t : Tm) (hn : nodesB t = true) : cnt (canT t) = cnt t := by rw [canT_rnF]; exact cnt_map_rn _ t hn
theorem sh_rn (f : Int) : (sh f) = rn fun n => n + f := rfl
theorem canT_shift (t : Tm) (f : Int) (hn : nodesB t = true) : canT (mapT (sh f) t) = canT t := by
  rw [sh_rn]; exact canT_rn t hn fun a _ b _ e => by simp at e; exact e
theorem shift_valid (t : Tm) (f : Int) (hv : validB t = true) (h : ∀ n ∈ varsF [] t, numB (n + f) = true) : validB (mapT (sh f) t) = true := by rw [sh_rn]; exact valid_map_rn t hv h

end Go.Proofs.Ytdgflagafilobaa
