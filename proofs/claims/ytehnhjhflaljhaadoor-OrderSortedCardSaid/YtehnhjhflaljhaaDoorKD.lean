/- Of no program: stable sorting of lists: insertion, merging, and in place: the insertion sort, exchange of ranges, rotation, the symmetric merge. -/
import Derived.Test.YtehnhjhflaljhaaDoorG5
import Derived.Test.YtehnhjhflaljhaaDoorKA
namespace Go.Proofs.HT

/-- Into its place, behind all that do not come after it. -/
def insL {α : Type} (cf : α → α → Int) (t : α) : List α → List α
  | [] => [t]
  | x :: l => if cf t x < 0 then t :: x :: l else x :: insL cf t l
def foldI {α : Type} (cf : α → α → Int) : List α → List α → List α
  | P, [] => P
  | P, y :: Y => foldI cf (insL cf y P) Y
def stL {α : Type} (cf : α → α → Int) (l : List α) : List α := foldI cf [] l
def mrg {α : Type} (cf : α → α → Int) : List α → List α → List α
  | [], B => B
  | a :: A, [] => a :: A
  | a :: A, b :: B => if cf b a < 0 then b :: mrg cf (a :: A) B else a :: mrg cf A (b :: B)
termination_by A B => A.length + B.length
structure OrdC {α : Type} (cf : α → α → Int) : Prop where
  neg : ∀ a b, cf b a = -cf a b
  tr : ∀ a b c, cf a b ≤ 0 → cf b c ≤ 0 → cf a c ≤ 0
def SortedC {α : Type} (cf : α → α → Int) (l : List α) : Prop := l.Pairwise fun a b => cf a b ≤ 0

section
variable {α : Type} {cf : α → α → Int}
theorem OrdC.le_of_not (h : OrdC cf) {a b : α} (k : ¬ cf b a < 0) : cf a b ≤ 0 := by have := h.neg a b; omega
theorem OrdC.not_of_le (h : OrdC cf) {a b : α} (k : cf a b ≤ 0) : ¬ cf b a < 0 := by have := h.neg a b; omega
theorem mrg_nil_left (B : List α) : mrg cf [] B = B := by rw [mrg]
theorem mrg_nil_right (A : List α) : mrg cf A [] = A := by cases A <;> rw [mrg]
theorem mrg_lt {a b : α} {A B : List α} (h : cf b a < 0) : mrg cf (a :: A) (b :: B) = b :: mrg cf (a :: A) B := by rw [mrg, if_pos h]
theorem mrg_ge {a b : α} {A B : List α} (h : ¬ cf b a < 0) : mrg cf (a :: A) (b :: B) = a :: mrg cf A (b :: B) := by rw [mrg, if_neg h]

theorem mrg_split (A2 B2 : List α) : ∀ (n : Nat) (A1 B1 : List α), A1.length + B1.length ≤ n → (∀ a ∈ A2, ∀ b ∈ B1, cf b a < 0) → (∀ a ∈ A1, ∀ b ∈ B2, ¬ cf b a < 0) → mrg cf (A1 ++ A2) (B1 ++ B2) = mrg cf A1 B1 ++ mrg cf A2 B2
  | n, [], [], _, _, _ => by simp [mrg_nil_left]
  | 0, a :: A1, B1, h, _, _ => by simp at h
  | 0, [], b :: B1, h, _, _ => by simp at h
  | n + 1, [], b :: B1, hn, h1, h2 => by
    have ih := mrg_split A2 B2 n [] B1 (by simp at hn ⊢; omega) (fun a ha c hc => h1 a ha c (List.mem_cons_of_mem _ hc)) h2
    rw [List.nil_append, mrg_nil_left] at ih
    rw [List.nil_append, mrg_nil_left]
    cases A2 with
    | nil => simp [mrg_nil_left]
    | cons a A2 =>
      rw [List.cons_append, mrg_lt (h1 a (by simp) b (by simp)), ih, List.cons_append]
  | n + 1, a :: A1, [], hn, h1, h2 => by
    have ih := mrg_split A2 B2 n A1 [] (by simp at hn ⊢; omega) h1 (fun c hc b hb => h2 c (List.mem_cons_of_mem _ hc) b hb)
    rw [List.nil_append, mrg_nil_right] at ih
    rw [List.nil_append, mrg_nil_right]
    cases B2 with
    | nil => simp [mrg_nil_right]
    | cons b B2 =>
      rw [List.cons_append, mrg_ge (h2 a (by simp) b (by simp)), ih, List.cons_append]
  | n + 1, a :: A1, b :: B1, hn, h1, h2 => by
    by_cases h : cf b a < 0
    · have ih := mrg_split A2 B2 n (a :: A1) B1 (by simp at hn ⊢; omega) (fun a ha c hc => h1 a ha c (List.mem_cons_of_mem _ hc)) h2
      rw [List.cons_append] at ih
      rw [List.cons_append, List.cons_append, mrg_lt h, mrg_lt h, ih, List.cons_append]
    · have ih := mrg_split A2 B2 n A1 (b :: B1) (by simp at hn ⊢; omega) h1 (fun c hc b hb => h2 c (List.mem_cons_of_mem _ hc) b hb)
      rw [List.cons_append] at ih
      rw [List.cons_append, List.cons_append, mrg_ge h, mrg_ge h, ih, List.cons_append]

theorem mrg_one_left (x : α) (B1 B2 : List α) (h1 : ∀ b ∈ B1, cf b x < 0) (h2 : ∀ b ∈ B2, ¬ cf b x < 0) : mrg cf [x] (B1 ++ B2) = B1 ++ x :: B2 := by
  have h := mrg_split (cf := cf) [x] B2 _ [] B1 (Nat.le_refl _) (fun a ha b hb => by obtain rfl := List.mem_singleton.1 ha; exact h1 b hb) (fun a ha => by cases ha)
  rw [List.nil_append, mrg_nil_left] at h
  rw [h]
  cases B2 with
  | nil => rw [mrg_nil_right]
  | cons b B2 => rw [mrg_ge (h2 b (by simp)), mrg_nil_left]
theorem mrg_one_right (y : α) (A1 A2 : List α) (h1 : ∀ a ∈ A1, ¬ cf y a < 0) (h2 : ∀ a ∈ A2, cf y a < 0) : mrg cf (A1 ++ A2) [y] = A1 ++ y :: A2 := by
  have h := mrg_split (cf := cf) A2 [y] _ A1 [] (Nat.le_refl _) (fun a _ b hb => by cases hb) (fun a ha b hb => by obtain rfl := List.mem_singleton.1 hb; exact h1 a ha)
  rw [List.nil_append, mrg_nil_right] at h
  rw [h]
  cases A2 with
  | nil => rw [mrg_nil_left]
  | cons a A2 => rw [mrg_lt (h2 a (by simp)), mrg_nil_right]

theorem mrg_ins (ho : OrdC cf) (y : α) : ∀ (n : Nat) (A B : List α), A.length + B.length ≤ n → mrg cf A (insL cf y B) = insL cf y (mrg cf A B)
  | _, [], B, _ => by rw [mrg_nil_left, mrg_nil_left]
  | 0, a :: A, B, h => by simp at h
  | n + 1, a :: A, [], hn => by
    have ih := mrg_ins ho y n A [] (by simp at hn ⊢; omega)
    rw [mrg_nil_right] at ih
    rw [mrg_nil_right]
    simp only [insL] at ih ⊢
    by_cases h : cf y a < 0
    · rw [mrg_lt h, mrg_nil_right, if_pos h]
    · rw [mrg_ge h, if_neg h, ih]
  | n + 1, a :: A, b :: B, hn => by
    by_cases h1 : cf y b < 0
    · have ih := mrg_ins ho y n A (b :: B) (by simp at hn ⊢; omega)
      simp only [insL, if_pos h1] at ih ⊢
      by_cases h2 : cf y a < 0
      · rw [mrg_lt h2]
        by_cases h3 : cf b a < 0
        · rw [mrg_lt h3]; simp only [insL, if_pos h1]
        · rw [mrg_ge h3]; simp only [insL, if_pos h2]
      · have h3 : ¬ cf b a < 0 := fun h => by
          have e1 := ho.neg y b; have e2 := ho.neg b a; have e3 := ho.neg y a
          have := ho.tr y b a (by omega) (by omega)
          have e5 := ho.tr a y b (by omega) (by omega)
          omega
        rw [mrg_ge h2, mrg_ge h3, ih]
        simp only [insL, if_neg h2]
    · simp only [insL, if_neg h1]
      by_cases h2 : cf b a < 0
      · have ih := mrg_ins ho y n (a :: A) B (by simp at hn ⊢; omega)
        rw [mrg_lt h2, mrg_lt h2, ih]
        simp only [insL, if_neg h1]
      · have ih := mrg_ins ho y n A (b :: B) (by simp at hn ⊢; omega)
        simp only [insL, if_neg h1] at ih
        have h3 : ¬ cf y a < 0 := by
          have := ho.tr a b y (ho.le_of_not h2) (ho.le_of_not h1)
          exact ho.not_of_le this
        rw [mrg_ge h2, mrg_ge h2, ih]
        simp only [insL, if_neg h3]

theorem foldI_snoc (y : α) : ∀ (Y P : List α), foldI cf P (Y ++ [y]) = insL cf y (foldI cf P Y)
  | [], P => rfl
  | z :: Y, P => by rw [List.cons_append, foldI, foldI_snoc y Y, foldI]
theorem foldI_append : ∀ (Y Z P : List α), foldI cf P (Y ++ Z) = foldI cf (foldI cf P Y) Z
  | [], Z, P => rfl
  | z :: Y, Z, P => by rw [List.cons_append, foldI, foldI_append Y Z, foldI]
theorem mrg_foldI (ho : OrdC cf) (A : List α) : ∀ (Y P : List α), mrg cf A (foldI cf P Y) = foldI cf (mrg cf A P) Y
  | [], _ => rfl
  | y :: Y, P => by rw [foldI, foldI, mrg_foldI ho A Y, mrg_ins ho y _ A P (Nat.le_refl _)]
theorem mrg_st (ho : OrdC cf) (A B : List α) : mrg cf (stL cf A) (stL cf B) = stL cf (A ++ B) := by
  unfold stL
  rw [mrg_foldI ho, mrg_nil_right, foldI_append]

theorem mem_ins (y : α) : ∀ (l : List α) (x : α), x ∈ insL cf y l ↔ x = y ∨ x ∈ l
  | [], x => by simp [insL]
  | z :: l, x => by
    have ih := mem_ins y l x
    unfold insL
    split
    · simp
    · simp only [List.mem_cons, ih]
      constructor
      · rintro (h | h | h) <;> simp [h]
      · rintro (h | h | h) <;> simp [h]
theorem ins_perm (y : α) : ∀ l : List α, (insL cf y l).Perm (y :: l)
  | [] => List.Perm.refl _
  | z :: l => by
    unfold insL
    split
    · exact List.Perm.refl _
    · exact ((ins_perm y l).cons z).trans (List.Perm.swap y z l)
theorem foldI_perm : ∀ (Y P : List α), (foldI cf P Y).Perm (P ++ Y)
  | [], P => by simp [foldI]
  | y :: Y, P => by
    rw [foldI]
    refine (foldI_perm Y _).trans ?_
    refine ((ins_perm y P).append_right Y).trans ?_
    rw [List.cons_append]
    exact List.perm_middle.symm
theorem st_perm (l : List α) : (stL cf l).Perm l := by have := foldI_perm (cf := cf) l []; simpa [stL] using this
theorem st_length (l : List α) : (stL cf l).length = l.length := (st_perm l).length_eq
theorem st_mem {l : List α} {x : α} : x ∈ stL cf l ↔ x ∈ l := (st_perm l).mem_iff
theorem ins_sorted (ho : OrdC cf) (y : α) : ∀ l : List α, SortedC cf l → SortedC cf (insL cf y l)
  | [], _ => by simp [insL, SortedC]
  | z :: l, h => by
    have h1 := List.pairwise_cons.1 h
    unfold insL
    split
    · rename_i hc
      refine List.pairwise_cons.2 ⟨fun a ha => ?_, h⟩
      rcases List.mem_cons.1 ha with rfl | ha
      · omega
      · exact ho.tr y z a (by omega) (h1.1 a ha)
    · rename_i hc
      refine List.pairwise_cons.2 ⟨fun a ha => ?_, ins_sorted ho y l h1.2⟩
      rcases (mem_ins y l a).1 ha with rfl | ha
      · exact ho.le_of_not hc
      · exact h1.1 a ha
theorem foldI_sorted (ho : OrdC cf) : ∀ (Y P : List α), SortedC cf P → SortedC cf (foldI cf P Y)
  | [], _, h => h
  | y :: Y, P, h => foldI_sorted ho Y _ (ins_sorted ho y P h)
theorem st_sorted (ho : OrdC cf) (l : List α) : SortedC cf (stL cf l) := foldI_sorted ho l [] List.Pairwise.nil
theorem ins_last (ho : OrdC cf) (y : α) : ∀ (P : List α) (p : α), SortedC cf (P ++ [p]) → ¬ cf y p < 0 → insL cf y (P ++ [p]) = P ++ [p, y]
  | [], p, _, h => by simp [insL, h]
  | z :: P, p, hs, h => by
    rw [List.cons_append] at hs
    have h1 := List.pairwise_cons.1 hs
    have hz : ¬ cf y z < 0 := ho.not_of_le (ho.tr z p y (h1.1 p (by simp)) (ho.le_of_not h))
    rw [List.cons_append, insL, if_neg hz, ins_last ho y P p h1.2 h, List.cons_append]
theorem ins_snoc (y : α) : ∀ (P : List α) (p : α), cf y p < 0 → insL cf y (P ++ [p]) = insL cf y P ++ [p]
  | [], p, h => by simp [insL, h]
  | z :: P, p, h => by
    rw [List.cons_append]
    simp only [insL]
    by_cases hz : cf y z < 0
    · rw [if_pos hz, if_pos hz, List.cons_append, List.cons_append]
    · rw [if_neg hz, if_neg hz, ins_snoc y P p h, List.cons_append]
theorem SortedC.left {A B : List α} (h : SortedC cf (A ++ B)) : SortedC cf A := (List.pairwise_append.1 h).1
theorem SortedC.right {A B : List α} (h : SortedC cf (A ++ B)) : SortedC cf B := (List.pairwise_append.1 h).2.1
theorem SortedC.mid {A B : List α} (h : SortedC cf (A ++ B)) : ∀ a ∈ A, ∀ b ∈ B, cf a b ≤ 0 := (List.pairwise_append.1 h).2.2
end


theorem mrg_perm {α : Type} {cf : α → α → Int} : ∀ (n : Nat) (A B : List α), A.length + B.length ≤ n → (mrg cf A B).Perm (A ++ B)
  | _, [], B, _ => by rw [mrg_nil_left]; exact List.Perm.refl _
  | _, a :: A, [], _ => by rw [mrg_nil_right]; simp
  | 0, a :: A, b :: B, h => by simp at h
  | n + 1, a :: A, b :: B, h => by
    by_cases c : cf b a < 0
    · rw [mrg_lt c]
      exact ((mrg_perm n (a :: A) B (by simp at h ⊢; omega)).cons b).trans List.perm_middle.symm
    · rw [mrg_ge c]
      exact (mrg_perm n A (b :: B) (by simp at h ⊢; omega)).cons a
theorem mrg_length {α : Type} {cf : α → α → Int} (n : Nat) (A B : List α) (h : A.length + B.length ≤ n) : (mrg cf A B).length = A.length + B.length := by
  rw [(mrg_perm n A B h).length_eq, List.length_append]

theorem getD_mid (F : List PV) (u : PV) (H : List PV) (i : Nat) (hi : F.length = i) : (F ++ u :: H).getD i dflt = u := by
  subst hi; simp [List.getD]
theorem swap_two (F G H : List PV) (u v : PV) (i j : Nat) (hi : F.length = i) (hj : i + 1 + G.length = j) :
    (F ++ u :: (G ++ v :: H)).getD i dflt = u ∧ (F ++ u :: (G ++ v :: H)).getD j dflt = v ∧ ((F ++ u :: (G ++ v :: H)).set i v).set j u = F ++ v :: (G ++ u :: H) ∧ ((F ++ u :: (G ++ v :: H)).set j u).set i v = F ++ v :: (G ++ u :: H) := by
  have e1 : (F ++ u :: (G ++ v :: H)).getD j dflt = v := by
    have := getD_mid (F ++ u :: G) v H j (by simp; omega)
    simpa using this
  have s1 : ∀ x y z : PV, (F ++ x :: (G ++ y :: H)).set i z = F ++ z :: (G ++ y :: H) := fun x y z => by subst hi; simp
  have s2 : ∀ x y z : PV, (F ++ x :: (G ++ y :: H)).set j z = F ++ x :: (G ++ z :: H) := fun x y z => by
    have : (F ++ x :: (G ++ y :: H)) = (F ++ x :: G) ++ y :: H := by simp
    rw [this]
    have hj2 : (F ++ x :: G).length = j := by simp; omega
    rw [← hj2]
    simp
  exact ⟨getD_mid F u _ i hi, e1, by rw [s1, s2], by rw [s2, s1]⟩

theorem sink_eq {cf : PV → PV → Int} (ho : OrdC cf) (X : List PV) (y : PV) (a : Nat) (ha : X.length = a) : ∀ (n : Nat) (P S : List PV), P.length = n → SortedC cf P → sink cf a (a + n) (X ++ (P ++ y :: S)) = X ++ (insL cf y P ++ S)
  | 0, P, S, hp, _ => by
    obtain rfl := List.length_eq_zero_iff.1 hp
    have : sink cf a a (X ++ y :: S) = X ++ y :: S := by cases a with | zero => rfl | succ a => rw [sink, if_neg (fun h => Nat.lt_irrefl _ h.1)]
    simpa [insL] using this
  | n + 1, P, S, hp, hs => by
    obtain ⟨Q, p, rfl⟩ : ∃ Q p, P = Q ++ [p] := ⟨P.dropLast, P.getLast (by intro h; subst h; simp at hp), (List.dropLast_concat_getLast _).symm⟩
    have hq : Q.length = n := by simpa using hp
    have e : X ++ ((Q ++ [p]) ++ y :: S) = (X ++ Q) ++ p :: ([] ++ y :: S) := by simp
    obtain ⟨g1, g2, _, g4⟩ := swap_two (X ++ Q) [] S p y (a + n) (a + n + 1) (by simp; omega) (by simp)
    rw [e, show a + (n + 1) = a + n + 1 by omega, sink, g1, g2, g4]
    by_cases h : cf y p < 0
    · rw [if_pos ⟨by omega, h⟩, ins_snoc y Q p h]
      have ih := sink_eq ho X y a ha n Q (p :: S) hq hs.left
      simpa using ih
    · rw [if_neg (fun k => h k.2), ins_last ho y Q p hs h]
      simp
theorem isort_eq {cf : PV → PV → Int} (ho : OrdC cf) (X : List PV) (a : Nat) (ha : X.length = a) (S : List PV) : ∀ (Y P : List PV), SortedC cf P → isort cf a Y.length (a + P.length) (X ++ (P ++ (Y ++ S))) = X ++ (foldI cf P Y ++ S)
  | [], P, _ => by simp [isort, foldI]
  | y :: Y, P, hs => by
    have h1 := sink_eq ho X y a ha P.length P (Y ++ S) rfl hs
    have ih := isort_eq ho X a ha S Y (insL cf y P) (ins_sorted ho y P hs)
    rw [(ins_perm (cf := cf) y P).length_eq] at ih
    rw [List.length_cons, isort, List.cons_append, h1, foldI]
    exact ih
/-- The segment from a to b sorted in place. -/
theorem isort_seg {cf : PV → PV → Int} (ho : OrdC cf) (X Y S : List PV) (a b : Nat) (ha : X.length = a) (hb : a + Y.length = b) : isort cf a (b - (a + 1)) (a + 1) (X ++ (Y ++ S)) = X ++ (stL cf Y ++ S) := by
  cases Y with
  | nil =>
    have : b - (a + 1) = 0 := by simp at hb; omega
    rw [this]; simp [isort, stL, foldI]
  | cons y Y =>
    have h := isort_eq ho X a ha S Y [y] (by simp [SortedC])
    have e : b - (a + 1) = Y.length := by simp at hb; omega
    rw [e]
    simpa [stL, foldI, insL] using h

/-- n elements from a on exchanged with those from b on; the first k are. -/
def swapR (a b : Nat) : Nat → Nat → List PV → List PV
  | 0, _, l => l
  | m + 1, k, l => swapR a b m (k + 1) ((l.set (a + k) (l.getD (b + k) dflt)).set (b + k) (l.getD (a + k) dflt))
theorem swapR_go (P M S : List PV) (a b : Nat) (ha : P.length = a) : ∀ (U2 V2 U1 V1 : List PV) (k : Nat), U2.length = V2.length → U1.length = k → V1.length = k → a + k + U2.length + M.length = b → swapR a b U2.length k (P ++ (V1 ++ (U2 ++ (M ++ (U1 ++ (V2 ++ S)))))) = P ++ (V1 ++ (V2 ++ (M ++ (U1 ++ (U2 ++ S)))))
  | [], [], _, _, _, _, _, _, _ => by simp [swapR]
  | [], _ :: _, _, _, _, h, _, _, _ => by simp at h
  | _ :: _, [], _, _, _, h, _, _, _ => by simp at h
  | u :: U2, v :: V2, U1, V1, k, h, h1, h2, h3 => by
    simp only [List.length_cons] at h h3
    have ih := swapR_go P M S a b ha U2 V2 (U1 ++ [u]) (V1 ++ [v]) (k + 1) (by omega) (by simp; omega) (by simp; omega) (by omega)
    obtain ⟨g1, g2, g3, _⟩ := swap_two (P ++ V1) (U2 ++ (M ++ U1)) (V2 ++ S) u v (a + k) (b + k) (by simp; omega) (by simp; omega)
    have e : P ++ (V1 ++ (u :: U2 ++ (M ++ (U1 ++ (v :: V2 ++ S))))) = (P ++ V1) ++ u :: ((U2 ++ (M ++ U1)) ++ v :: (V2 ++ S)) := by simp
    rw [e, List.length_cons, swapR, g1, g2, g3]
    have e2 : (P ++ V1) ++ v :: ((U2 ++ (M ++ U1)) ++ u :: (V2 ++ S)) = P ++ ((V1 ++ [v]) ++ (U2 ++ (M ++ ((U1 ++ [u]) ++ (V2 ++ S))))) := by simp
    rw [e2, ih]
    simp
theorem swapR_eq (P U M V S : List PV) (a b n : Nat) (ha : P.length = a) (hu : U.length = n) (hv : V.length = n) (hb : a + n + M.length = b) : swapR a b n 0 (P ++ (U ++ (M ++ (V ++ S)))) = P ++ (V ++ (M ++ (U ++ S))) := by
  have := swapR_go P M S a b ha U V [] [] 0 (by omega) rfl rfl (by omega)
  rw [hu] at this
  simpa using this

def rotF : Nat → Nat → Nat → Nat → List PV → List PV
  | 0, _, _, _, l => l
  | f + 1, i, j, m, l => if i = j then swapR (m - i) m i 0 l else if j < i then rotF f (i - j) j m (swapR (m - i) m j 0 l) else rotF f i (j - i) m (swapR (m - i) (m + j - i) i 0 l)
theorem rotF_eq : ∀ (f : Nat) (X U V S : List PV) (i j m : Nat), i + j ≤ f → 0 < i → 0 < j → U.length = i → V.length = j → X.length + i = m → rotF f i j m (X ++ (U ++ (V ++ S))) = X ++ (V ++ (U ++ S))
  | 0, _, _, _, _, _, _, _, h, h1, _, _, _, _ => by omega
  | f + 1, X, U, V, S, i, j, m, hf, hi, hj, hu, hv, hm => by
    rw [rotF]
    by_cases h : i = j
    · subst h
      rw [if_pos rfl]
      have := swapR_eq X U [] V S (m - i) m i (by omega) hu hv (by simp; omega)
      simpa using this
    · rw [if_neg h]
      by_cases h2 : j < i
      · rw [if_pos h2]
        have e : U = U.take j ++ U.drop j := (List.take_append_drop j U).symm
        have l1 : (U.take j).length = j := by simp; omega
        have l2 : (U.drop j).length = i - j := by simp; omega
        generalize U.take j = U1 at *
        generalize U.drop j = U2 at *
        subst e
        have h3 := swapR_eq X U1 U2 V S (m - i) m j (by omega) l1 hv (by omega)
        have ih := rotF_eq f (X ++ V) U2 U1 S (i - j) j m (by omega) (by omega) hj l2 l1 (by simp; omega)
        simp only [List.append_assoc] at h3 ih ⊢
        rw [h3, ih]
      · rw [if_neg h2]
        have e : V = V.take (j - i) ++ V.drop (j - i) := (List.take_append_drop _ V).symm
        have l1 : (V.take (j - i)).length = j - i := by simp; omega
        have l2 : (V.drop (j - i)).length = i := by simp; omega
        generalize V.take (j - i) = V1 at *
        generalize V.drop (j - i) = V2 at *
        subst e
        have h3 := swapR_eq X U V1 V2 S (m - i) (m + j - i) i (by omega) hu l2 (by omega)
        have ih := rotF_eq f X V2 V1 (U ++ S) i (j - i) m (by omega) hi (by omega) l2 l1 (by omega)
        simp only [List.append_assoc] at h3 ih ⊢
        rw [h3, ih]

/-- Halving. -/
def bsr (p : Nat → Bool) : Nat → Nat → Nat → Nat
  | 0, i, _ => i
  | f + 1, i, j => if i < j then (if p ((i + j) / 2) then bsr p f ((i + j) / 2 + 1) j else bsr p f i ((i + j) / 2)) else i
theorem bsr_spec (p : Nat → Bool) : ∀ (f i j : Nat), j - i ≤ f → i ≤ j → (∀ h k, i ≤ h → h < k → k < j → p k = true → p h = true) → i ≤ bsr p f i j ∧ bsr p f i j ≤ j ∧ (∀ k, i ≤ k → k < bsr p f i j → p k = true) ∧ (∀ k, bsr p f i j ≤ k → k < j → p k = false)
  | 0, i, j, hf, hij, _ => by
    simp only [bsr]
    exact ⟨Nat.le_refl _, hij, fun k h1 h2 => by omega, fun k h1 h2 => by omega⟩
  | f + 1, i, j, hf, hij, hm => by
    rw [bsr]
    by_cases h : i < j
    · rw [if_pos h]
      have b1 : i ≤ (i + j) / 2 := by omega
      have b2 : (i + j) / 2 < j := by omega
      generalize (i + j) / 2 = c at *
      by_cases hc : p c = true
      · rw [if_pos hc]
        obtain ⟨g1, g2, g3, g4⟩ := bsr_spec p f (c + 1) j (by omega) (by omega) (fun h k a1 a2 a3 a4 => hm h k (by omega) a2 a3 a4)
        refine ⟨by omega, g2, fun k k1 k2 => ?_, g4⟩
        by_cases e : k < c
        · exact hm k c k1 e b2 hc
        · by_cases e2 : k = c
          · rw [e2]; exact hc
          · exact g3 k (by omega) k2
      · rw [if_neg hc]
        obtain ⟨g1, g2, g3, g4⟩ := bsr_spec p f i c (by omega) b1 (fun h k a1 a2 a3 a4 => hm h k a1 a2 (by omega) a4)
        refine ⟨g1, by omega, g3, fun k k1 k2 => ?_⟩
        by_cases e : k < c
        · exact g4 k k1 e
        · cases hk : p k with
          | false => rfl
          | true =>
            exfalso
            by_cases e2 : k = c
            · rw [e2] at hk; exact hc hk
            · exact hc (hm c k b1 (by omega) k2 hk)
    · rw [if_neg h]
      exact ⟨Nat.le_refl _, hij, fun k h1 h2 => by omega, fun k h1 h2 => by omega⟩
/-- Element k moves up n places. -/
def upF : Nat → Nat → List PV → List PV
  | 0, _, l => l
  | n + 1, k, l => upF n (k + 1) ((l.set k (l.getD (k + 1) dflt)).set (k + 1) (l.getD k dflt))
theorem upF_eq (x : PV) (S : List PV) : ∀ (B X : List PV) (k : Nat), X.length = k → upF B.length k (X ++ x :: (B ++ S)) = X ++ (B ++ x :: S)
  | [], _, _, _ => by simp [upF]
  | b :: B, X, k, hk => by
    have ih := upF_eq x S B (X ++ [b]) (k + 1) (by simp; omega)
    obtain ⟨g1, g2, g3, _⟩ := swap_two X [] (B ++ S) x b k (k + 1) hk (by simp)
    simp only [List.nil_append] at g1 g2 g3
    rw [List.length_cons, upF, List.cons_append, g1, g2, g3]
    simpa using ih
/-- Element k moves down n places. -/
def downF : Nat → Nat → List PV → List PV
  | 0, _, l => l
  | n + 1, k, l => downF n (k - 1) ((l.set k (l.getD (k - 1) dflt)).set (k - 1) (l.getD k dflt))
theorem downF_eq (y : PV) : ∀ (n : Nat) (A X S : List PV) (k : Nat), A.length = n → X.length + n = k → downF n k (X ++ (A ++ y :: S)) = X ++ y :: (A ++ S)
  | 0, A, _, _, _, h, _ => by obtain rfl := List.length_eq_zero_iff.1 h; simp [downF]
  | n + 1, A, X, S, k, h, hk => by
    obtain ⟨Q, p, rfl⟩ : ∃ Q p, A = Q ++ [p] := ⟨A.dropLast, A.getLast (by intro h2; subst h2; simp at h), (List.dropLast_concat_getLast _).symm⟩
    have hq : Q.length = n := by simpa using h
    have ih := downF_eq y n Q X (p :: S) (k - 1) hq (by omega)
    obtain ⟨g1, g2, _, g4⟩ := swap_two (X ++ Q) [] S p y (k - 1) k (by simp; omega) (by simp; omega)
    have e : X ++ ((Q ++ [p]) ++ y :: S) = (X ++ Q) ++ p :: ([] ++ y :: S) := by simp
    rw [e, downF, g1, g2, g4]
    simpa using ih

def symM (cf : PV → PV → Int) : Nat → Nat → Nat → Nat → List PV → List PV
  | 0, _, _, _, l => l
  | f + 1, a, m, b, l =>
    if m - a = 1 then upF (bsr (fun h => decide (cf (l.getD h dflt) (l.getD a dflt) < 0)) (b - m) m b - 1 - a) a l
    else if b - m = 1 then downF (m - bsr (fun h => !decide (cf (l.getD m dflt) (l.getD h dflt) < 0)) (m - a) a m) m l
    else symT f a m b ((a + b) / 2) (if (a + b) / 2 < m then bsr (fun c => !decide (cf (l.getD ((a + b) / 2 + m - 1 - c) dflt) (l.getD c dflt) < 0)) (b - a) ((a + b) / 2 + m - b) ((a + b) / 2) else bsr (fun c => !decide (cf (l.getD ((a + b) / 2 + m - 1 - c) dflt) (l.getD c dflt) < 0)) (b - a) a m) l
where
  symT (f a m b mid s : Nat) (l : List PV) : List PV :=
    let l1 := if s < m ∧ m < mid + m - s then rotF (b - a) (m - s) (mid + m - s - m) m l else l
    let l2 := if a < s ∧ s < mid then symM cf f a s (mid) l1 else l1
    if mid < mid + m - s ∧ mid + m - s < b then symM cf f (mid) (mid + m - s) b l2 else l2

theorem getD_seg (X Y S : List PV) (a k : Nat) (ha : X.length = a) (h1 : a ≤ k) (h2 : k < a + Y.length) : (X ++ (Y ++ S)).getD k dflt = Y[k - a]'(by omega) := by
  subst ha
  have hk : k - X.length < Y.length := by omega
  simp [List.getD, List.getElem?_append_right h1, List.getElem?_append_left hk, List.getElem?_eq_getElem hk]
theorem SortedC.at {cf : PV → PV → Int} {l : List PV} (h : SortedC cf l) (i j : Nat) (hij : i < j) (hj : j < l.length) : cf (l[i]'(by omega)) l[j] ≤ 0 := List.pairwise_iff_getElem.1 h i j (by omega) hj hij

theorem symM_eq {cf : PV → PV → Int} (ho : OrdC cf) : ∀ (f : Nat) (X A B S : List PV) (a m b : Nat), b - a ≤ f → X.length = a → a + A.length = m → m + B.length = b → 0 < A.length → 0 < B.length → SortedC cf A → SortedC cf B →
    symM cf f a m b (X ++ (A ++ (B ++ S))) = X ++ (mrg cf A B ++ S)
  | 0, X, A, B, S, a, m, b, hf, hx, hA, hB, h1, h2, _, _ => by omega
  | f + 1, X, A, B, S, a, m, b, hf, hx, hA, hB, h1, h2, sA, sB => by
    have gA : ∀ k, a ≤ k → (hk : k < m) → (X ++ (A ++ (B ++ S))).getD k dflt = A[k - a]'(by omega) := fun k k1 k2 => getD_seg X A (B ++ S) a k hx k1 (by omega)
    have gB : ∀ k, m ≤ k → (hk : k < b) → (X ++ (A ++ (B ++ S))).getD k dflt = B[k - m]'(by omega) := fun k k1 k2 => by
      have := getD_seg (X ++ A) B S m k (by simp; omega) k1 (by omega)
      simpa using this
    rw [symM]
    by_cases c1 : m - a = 1
    · rw [if_pos c1]
      obtain ⟨x, rfl⟩ := List.length_eq_one_iff.1 (show A.length = 1 by omega)
      have gx : (X ++ ([x] ++ (B ++ S))).getD a dflt = x := by have := gA a (Nat.le_refl _) (by omega); simpa using this
      generalize hp : (fun h => decide (cf ((X ++ ([x] ++ (B ++ S))).getD h dflt) ((X ++ ([x] ++ (B ++ S))).getD a dflt) < 0)) = p
      have pB : ∀ k, m ≤ k → (hk : k < b) → p k = decide (cf (B[k - m]'(by omega)) x < 0) := fun k k1 k2 => by rw [← hp]; simp only [gx, gB k k1 k2]
      have hmono : ∀ h k, m ≤ h → h < k → k < b → p k = true → p h = true := fun h k k1 k2 k3 k4 => by
        rw [pB k (by omega) k3, decide_eq_true_eq] at k4
        rw [pB h k1 (by omega), decide_eq_true_eq]
        have := sB.at (h - m) (k - m) (by omega) (by omega)
        have := ho.tr _ _ _ this (by omega : cf (B[k - m]'(by omega)) x ≤ 0)
        have e1 := ho.neg x (B[k - m]'(by omega)); have e2 := ho.neg (B[h - m]'(by omega)) x
        by_cases e : cf (B[h - m]'(by omega)) x = 0
        · have := ho.tr _ _ _ (by omega : cf x (B[h - m]'(by omega)) ≤ 0) ‹cf (B[h - m]'(by omega)) (B[k - m]'(by omega)) ≤ 0›
          omega
        · omega
      obtain ⟨r1, r2, r3, r4⟩ := bsr_spec p (b - m) m b (Nat.le_refl _) (by omega) hmono
      generalize bsr p (b - m) m b = r at *
      have e : B = B.take (r - m) ++ B.drop (r - m) := (List.take_append_drop _ B).symm
      have l1 : (B.take (r - m)).length = r - m := by simp; omega
      have t1 : ∀ y ∈ B.take (r - m), cf y x < 0 := fun y hy => by
        obtain ⟨k, hk, rfl⟩ := List.mem_iff_getElem.1 hy
        have := r3 (m + k) (by omega) (by omega)
        rw [pB (m + k) (by omega) (by omega), decide_eq_true_eq] at this
        simpa [show m + k - m = k by omega] using this
      have t2 : ∀ y ∈ B.drop (r - m), ¬ cf y x < 0 := fun y hy => by
        obtain ⟨k, hk, rfl⟩ := List.mem_iff_getElem.1 hy
        simp only [List.length_drop] at hk
        have := r4 (r + k) (by omega) (by omega)
        rw [pB (r + k) (by omega) (by omega), decide_eq_false_iff_not] at this
        simpa [show r + k - m = r - m + k by omega] using this
      generalize B.take (r - m) = B1 at *
      generalize B.drop (r - m) = B2 at *
      subst e
      rw [mrg_one_left x B1 B2 t1 t2]
      have e3 : r - 1 - a = B1.length := by omega
      have := upF_eq x (B2 ++ S) B1 X a hx
      rw [e3]
      simpa using this
    · rw [if_neg c1]
      by_cases c2 : b - m = 1
      · rw [if_pos c2]
        obtain ⟨y, rfl⟩ := List.length_eq_one_iff.1 (show B.length = 1 by omega)
        have gy : (X ++ (A ++ ([y] ++ S))).getD m dflt = y := by have := gB m (Nat.le_refl _) (by omega); simpa using this
        generalize hp : (fun h => !decide (cf ((X ++ (A ++ ([y] ++ S))).getD m dflt) ((X ++ (A ++ ([y] ++ S))).getD h dflt) < 0)) = p
        have pA : ∀ k, a ≤ k → (hk : k < m) → p k = !decide (cf y (A[k - a]'(by omega)) < 0) := fun k k1 k2 => by rw [← hp]; simp only [gy, gA k k1 k2]
        have hmono : ∀ h k, a ≤ h → h < k → k < m → p k = true → p h = true := fun h k k1 k2 k3 k4 => by
          rw [pA k (by omega) k3, Bool.not_eq_true', decide_eq_false_iff_not] at k4
          rw [pA h k1 (by omega), Bool.not_eq_true', decide_eq_false_iff_not]
          have := sA.at (h - a) (k - a) (by omega) (by omega)
          exact ho.not_of_le (ho.tr _ _ _ this (ho.le_of_not k4))
        obtain ⟨r1, r2, r3, r4⟩ := bsr_spec p (m - a) a m (Nat.le_refl _) (by omega) hmono
        generalize bsr p (m - a) a m = r at *
        have e : A = A.take (r - a) ++ A.drop (r - a) := (List.take_append_drop _ A).symm
        have l1 : (A.take (r - a)).length = r - a := by simp; omega
        have l2 : (A.drop (r - a)).length = m - r := by simp; omega
        have t1 : ∀ x ∈ A.take (r - a), ¬ cf y x < 0 := fun x hx2 => by
          obtain ⟨k, hk, rfl⟩ := List.mem_iff_getElem.1 hx2
          have := r3 (a + k) (by omega) (by omega)
          rw [pA (a + k) (by omega) (by omega), Bool.not_eq_true', decide_eq_false_iff_not] at this
          simpa [show a + k - a = k by omega] using this
        have t2 : ∀ x ∈ A.drop (r - a), cf y x < 0 := fun x hx2 => by
          obtain ⟨k, hk, rfl⟩ := List.mem_iff_getElem.1 hx2
          simp only [List.length_drop] at hk
          have := r4 (r + k) (by omega) (by omega)
          rw [pA (r + k) (by omega) (by omega), Bool.not_eq_false', decide_eq_true_eq] at this
          simpa [show r + k - a = r - a + k by omega] using this
        generalize A.take (r - a) = A1 at *
        generalize A.drop (r - a) = A2 at *
        subst e
        rw [mrg_one_right y A1 A2 t1 t2]
        have := downF_eq y (m - r) A2 (X ++ A1) S m l2 (by simp; omega)
        simpa using this
      · rw [if_neg c2]
        have hmid1 : a ≤ (a + b) / 2 := by omega
        have hmid2 : (a + b) / 2 < b := by omega
        have hmid3 : 2 * ((a + b) / 2) ≤ a + b := by omega
        have hmid4 : a + b ≤ 2 * ((a + b) / 2) + 1 := by omega
        generalize (a + b) / 2 = mid at *
        generalize hp : (fun c => !decide (cf ((X ++ (A ++ (B ++ S))).getD (mid + m - 1 - c) dflt) ((X ++ (A ++ (B ++ S))).getD c dflt) < 0)) = p
        have pAB : ∀ c, a ≤ c → (h1 : c < m) → (h2 : m ≤ mid + m - 1 - c) → (h3 : mid + m - 1 - c < b) → p c = !decide (cf (B[mid + m - 1 - c - m]'(by omega)) (A[c - a]'(by omega)) < 0) := fun c k1 k2 k3 k4 => by rw [← hp]; simp only [gA c k1 k2, gB _ k3 k4]
        have hmono : ∀ s r, (a ≤ s) → (s + b ≥ mid + m) → r ≤ m → r ≤ mid → ∀ h k, s ≤ h → h < k → k < r → p k = true → p h = true := fun s r q1 q2 q3 q4 h k k1 k2 k3 k4 => by
          rw [pAB k (by omega) (by omega) (by omega) (by omega), Bool.not_eq_true', decide_eq_false_iff_not] at k4
          rw [pAB h (by omega) (by omega) (by omega) (by omega), Bool.not_eq_true', decide_eq_false_iff_not]
          have u1 := sA.at (h - a) (k - a) (by omega) (by omega)
          have u2 := sB.at (mid + m - 1 - k - m) (mid + m - 1 - h - m) (by omega) (by omega)
          exact ho.not_of_le (ho.tr _ _ _ (ho.tr _ _ _ u1 (ho.le_of_not k4)) u2)
        have hs : ∃ s, (if mid < m then bsr p (b - a) (mid + m - b) mid else bsr p (b - a) a m) = s ∧ a ≤ s ∧ s ≤ m ∧ s ≤ mid ∧ mid + m ≤ s + b ∧ (∀ k, a ≤ k → mid + m ≤ k + b → k < s → p k = true) ∧ (∀ k, s ≤ k → k < m → k < mid → p k = false) := by
          by_cases c3 : mid < m
          · rw [if_pos c3]
            obtain ⟨r1, r2, r3, r4⟩ := bsr_spec p (b - a) (mid + m - b) mid (by omega) (by omega) (hmono _ _ (by omega) (by omega) (by omega) (by omega))
            exact ⟨_, rfl, by omega, by omega, by omega, by omega, fun k k1 k2 k3 => r3 k (by omega) k3, fun k k1 k2 k3 => r4 k k1 k3⟩
          · rw [if_neg c3]
            obtain ⟨r1, r2, r3, r4⟩ := bsr_spec p (b - a) a m (by omega) (by omega) (hmono _ _ (by omega) (by omega) (by omega) (by omega))
            exact ⟨_, rfl, by omega, by omega, by omega, by omega, fun k k1 k2 k3 => r3 k k1 k3, fun k k1 k2 k3 => r4 k k1 k2⟩
        obtain ⟨s, hse, s1, s2, s3, s4, s5, s6⟩ := hs
        rw [hse]
        unfold symM.symT
        have eA : A = A.take (s - a) ++ A.drop (s - a) := (List.take_append_drop _ A).symm
        have la1 : (A.take (s - a)).length = s - a := by simp; omega
        have la2 : (A.drop (s - a)).length = m - s := by simp; omega
        have eB : B = B.take (mid - s) ++ B.drop (mid - s) := (List.take_append_drop _ B).symm
        have lb1 : (B.take (mid - s)).length = mid - s := by simp; omega
        have lb2 : (B.drop (mid - s)).length = b - m - (mid - s) := by simp; omega
        have tA : ∀ x ∈ A.take (s - a), ∀ y ∈ B.drop (mid - s), ¬ cf y x < 0 := fun x hx2 y hy => by
          obtain ⟨k, hk, rfl⟩ := List.mem_iff_getElem.1 hx2
          obtain ⟨k2, hk2, rfl⟩ := List.mem_iff_getElem.1 hy
          simp only [List.length_drop] at hk2
          have h5 := s5 (s - 1) (by omega) (by omega) (by omega)
          rw [pAB (s - 1) (by omega) (by omega) (by omega) (by omega), Bool.not_eq_true', decide_eq_false_iff_not] at h5
          have u1 : cf (A[k]'(by omega)) (A[s - 1 - a]'(by omega)) ≤ 0 := by
            by_cases e : k = s - 1 - a
            · subst e; have := ho.neg (A[s - 1 - a]'(by omega)) (A[s - 1 - a]'(by omega)); omega
            · exact sA.at k (s - 1 - a) (by omega) (by omega)
          have u2 : cf (B[mid + m - 1 - (s - 1) - m]'(by omega)) (B[mid - s + k2]'(by omega)) ≤ 0 := by
            by_cases e : k2 = 0
            · subst e
              have : mid + m - 1 - (s - 1) - m = mid - s + 0 := by omega
              simp only [this]
              have := ho.neg (B[mid - s + 0]'(by omega)) (B[mid - s + 0]'(by omega)); omega
            · exact sB.at _ _ (by omega) (by omega)
          have := ho.not_of_le (ho.tr _ _ _ (ho.tr _ _ _ u1 (ho.le_of_not h5)) u2)
          simpa using this
        have tB : ∀ x ∈ A.drop (s - a), ∀ y ∈ B.take (mid - s), cf y x < 0 := fun x hx2 y hy => by
          obtain ⟨k, hk, rfl⟩ := List.mem_iff_getElem.1 hx2
          obtain ⟨k2, hk2, rfl⟩ := List.mem_iff_getElem.1 hy
          simp only [List.length_drop] at hk
          have h6 := s6 s (Nat.le_refl _) (by omega) (by omega)
          rw [pAB s (by omega) (by omega) (by omega) (by omega), Bool.not_eq_false', decide_eq_true_eq] at h6
          have u1 : cf (A[s - a]'(by omega)) (A[s - a + k]'(by omega)) ≤ 0 := by
            by_cases e : k = 0
            · subst e
              have := ho.neg (A[s - a + 0]'(by omega)) (A[s - a + 0]'(by omega)); simp only [Nat.add_zero] at *; omega
            · exact sA.at _ _ (by omega) (by omega)
          have u2 : cf (B[k2]'(by omega)) (B[mid + m - 1 - s - m]'(by omega)) ≤ 0 := by
            by_cases e : k2 = mid + m - 1 - s - m
            · subst e; have := ho.neg (B[mid + m - 1 - s - m]'(by omega)) (B[mid + m - 1 - s - m]'(by omega)); omega
            · exact sB.at _ _ (by omega) (by omega)
          have u3 := ho.tr _ _ _ u2 (by omega : cf (B[mid + m - 1 - s - m]'(by omega)) (A[s - a]'(by omega)) ≤ 0)
          have u4 := ho.tr _ _ _ u3 u1
          have n1 := ho.neg (B[k2]'(by omega)) (A[s - a + k]'(by omega))
          by_cases e : cf (B[k2]'(by omega)) (A[s - a + k]'(by omega)) = 0
          · have v1 := ho.tr _ _ _ u1 (by omega : cf (A[s - a + k]'(by omega)) (B[k2]'(by omega)) ≤ 0)
            have v2 := ho.tr _ _ _ v1 u2
            have := ho.neg (B[mid + m - 1 - s - m]'(by omega)) (A[s - a]'(by omega))
            omega
          · have : cf (B[k2]'(by omega)) (A[s - a + k]'(by omega)) < 0 := by omega
            simpa using this
        have sA1 : SortedC cf (A.take (s - a)) := by rw [eA] at sA; exact sA.left
        have sA2 : SortedC cf (A.drop (s - a)) := by rw [eA] at sA; exact sA.right
        have sB1 : SortedC cf (B.take (mid - s)) := by rw [eB] at sB; exact sB.left
        have sB2 : SortedC cf (B.drop (mid - s)) := by rw [eB] at sB; exact sB.right
        clear hmono s5 s6 pAB hp gA gB hse sA sB
        generalize A.take (s - a) = A1 at *
        generalize A.drop (s - a) = A2 at *
        generalize B.take (mid - s) = B1 at *
        generalize B.drop (mid - s) = B2 at *
        subst eA
        subst eB
        simp only [List.length_append] at hA hB h1 h2
        rw [mrg_split A2 B2 _ A1 B1 (Nat.le_refl _) tB tA]
        have step1 : (if s < m ∧ m < mid + m - s then rotF (b - a) (m - s) (mid + m - s - m) m (X ++ (A1 ++ A2 ++ (B1 ++ B2 ++ S))) else X ++ (A1 ++ A2 ++ (B1 ++ B2 ++ S))) = X ++ (A1 ++ (B1 ++ (A2 ++ (B2 ++ S)))) := by
          by_cases c : s < m ∧ m < mid + m - s
          · rw [if_pos c]
            have := rotF_eq (b - a) (X ++ A1) A2 B1 (B2 ++ S) (m - s) (mid + m - s - m) m (by omega) (by omega) (by omega) (by omega) (by omega) (by simp; omega)
            simpa using this
          · rw [if_neg c]
            by_cases c3 : s < m
            · obtain rfl : B1 = [] := List.length_eq_zero_iff.1 (by omega)
              simp
            · obtain rfl : A2 = [] := List.length_eq_zero_iff.1 (by omega)
              simp
        have step2 : (if a < s ∧ s < mid then symM cf f a s mid (X ++ (A1 ++ (B1 ++ (A2 ++ (B2 ++ S))))) else X ++ (A1 ++ (B1 ++ (A2 ++ (B2 ++ S))))) = X ++ (mrg cf A1 B1 ++ (A2 ++ (B2 ++ S))) := by
          by_cases c : a < s ∧ s < mid
          · rw [if_pos c]
            exact symM_eq ho f X A1 B1 (A2 ++ (B2 ++ S)) a s mid (by omega) hx (by omega) (by omega) (by omega) (by omega) sA1 sB1
          · rw [if_neg c]
            by_cases c3 : a < s
            · obtain rfl : B1 = [] := List.length_eq_zero_iff.1 (by omega)
              rw [mrg_nil_right]; simp
            · obtain rfl : A1 = [] := List.length_eq_zero_iff.1 (by omega)
              rw [mrg_nil_left]; simp
        have step3 : (if mid < mid + m - s ∧ mid + m - s < b then symM cf f mid (mid + m - s) b (X ++ (mrg cf A1 B1 ++ (A2 ++ (B2 ++ S)))) else X ++ (mrg cf A1 B1 ++ (A2 ++ (B2 ++ S)))) = X ++ (mrg cf A1 B1 ++ (mrg cf A2 B2 ++ S)) := by
          have lm : (mrg cf A1 B1).length = A1.length + B1.length := by
            have := mrg_length (cf := cf) _ A1 B1 (Nat.le_refl _)
            exact this
          by_cases c : mid < mid + m - s ∧ mid + m - s < b
          · rw [if_pos c]
            have := symM_eq ho f (X ++ mrg cf A1 B1) A2 B2 S mid (mid + m - s) b (by omega) (by simp; omega) (by omega) (by omega) (by omega) (by omega) sA2 sB2
            simpa using this
          · rw [if_neg c]
            by_cases c3 : mid < mid + m - s
            · obtain rfl : B2 = [] := List.length_eq_zero_iff.1 (by omega)
              rw [mrg_nil_right]; simp
            · obtain rfl : A2 = [] := List.length_eq_zero_iff.1 (by omega)
              rw [mrg_nil_left]; simp
        simp only []
        rw [step1, step2, step3]
        simp

end Go.Proofs.HT

/- Of the stable sort: exchange of ranges, rotation. -/
namespace Go.Proofs.YtehnhjhflaljhaaDoor
open Go.RowKit Go.Proofs.HT

set_option maxHeartbeats 8000000 in
theorem swapr_any (blk c n cap a b m : Nat) (L l0 : List PV) (pad : List Value) (w : World) (hrow : RowAt w blk l0 pad 24) (hn : l0.length = n) (_hcap : n ≤ cap) (hab : a + m ≤ b) (hbn : b + m ≤ n) (hn2 : n ≤ 1000000)
    (HV : Hid (∀ p ∈ L, ∃ a c, p.2 = .slice a p.1.args.length c)) (HL : Hid (∀ p ∈ l0, p ∈ L)) :
    Calls Tryd.prog 88 #[.slice (some ⟨blk, 0, none⟩) n cap, .int .i64 a, .int .i64 b, .int .i64 m, .func (.func 71) #[] #[.pointer (some ⟨c, 0, none⟩)]] w fun e w' => e = .returned (.tuple #[]) ∧ RowAt w' blk (swapR a b m 0 l0) pad 24 ∧ Near blk w w' := by
  obtain ⟨R, hR⟩ : ∃ R, swapR a b m 0 l0 = R := ⟨_, rfl⟩
  rw [hR]
  have HR := Lib.hid hR
  have HROW := Lib.hid hrow
  have HN := Lib.hid hn
  clear hR hrow hn
  go_enter Tryd.func88, Tryd.ntmps88
  go_wp2_with fail
  go_loopw [10] (fun i wr => ∃ (k : Nat) (l : List PV), k ≤ m ∧ i = .int .i64 k ∧ Hid (RowAt wr blk l pad 24) ∧ Hid (Near blk w wr) ∧ Hid (l.length = n ∧ (∀ p ∈ l, p ∈ L) ∧ swapR a b (m - k) k l = R)) (fun i _ => m - (intOf i).toNat)
  case atStart => exact ⟨0, l0, by omega, rfl, HROW, Lib.hid (Near.refl _ _), Lib.hid ⟨HN.out, HL.out, HR.out⟩⟩
  case round =>
    obtain ⟨k, l, hk, rfl, hr, hnr, hl⟩ := hrel
    by_cases hlt : k < m
    · obtain ⟨x, hx⟩ : ∃ x : Nat, x = a + k := ⟨_, rfl⟩
      obtain ⟨y, hy⟩ : ∃ y : Nat, y = b + k := ⟨_, rfl⟩
      have hX : (a : Int) + (k : Int) = (x : Int) := by omega
      have hY : (b : Int) + (k : Int) = (y : Int) := by omega
      have hxn : x < n := by omega
      have hyn : y < n := by omega
      have HXY := Lib.hid (And.intro hx hy)
      clear hx hy
      have hkp : x < l.length := by have := hl.out.1; omega
      have cp := hr.out.cells x hkp
      have mp := hl.out.2.1 _ (List.getElem_mem hkp)
      have gp := getD_at l x hkp
      obtain ⟨pp, hep⟩ : ∃ p, l[x] = p := ⟨_, rfl⟩
      rw [hep] at cp mp gp
      obtain ⟨tp, vp⟩ := pp
      obtain ⟨ap, kp, ev⟩ := HV.out _ mp
      obtain rfl : vp = .slice ap tp.args.length kp := ev
      obtain ⟨sp0, sp1, sp2, sp3⟩ := cp
      have HMp := Lib.hid mp
      have HGp := Lib.hid gp
      have HKp := Lib.hid hkp
      clear hep mp gp hkp
      have hkq : y < l.length := by have := hl.out.1; omega
      have cq := hr.out.cells y hkq
      have mq := hl.out.2.1 _ (List.getElem_mem hkq)
      have gq := getD_at l y hkq
      obtain ⟨pq, heq⟩ : ∃ p, l[y] = p := ⟨_, rfl⟩
      rw [heq] at cq mq gq
      obtain ⟨tq, vq⟩ := pq
      obtain ⟨aq, kq, ev⟩ := HV.out _ mq
      obtain rfl : vq = .slice aq tq.args.length kq := ev
      obtain ⟨sq0, sq1, sq2, sq3⟩ := cq
      have HMq := Lib.hid mq
      have HGq := Lib.hid gq
      have HKq := Lib.hid hkq
      clear heq mq gq hkq
      have wr_x : IntKind.i64.wrap (x : Int) = (x : Int) := IntWalk.i64_in _ (by omega)
      have lo_x : (0 : Int) ≤ (x : Int) := by omega
      have hi_x : (x : Int) < (n : Int) := by omega
      have wr_y : IntKind.i64.wrap (y : Int) = (y : Int) := IntWalk.i64_in _ (by omega)
      have lo_y : (0 : Int) ≤ (y : Int) := by omega
      have hi_y : (y : Int) < (n : Int) := by omega
      have fp0 := frozen_of_row _ _ (x * 4) _ _ hr.out
      have fp1 := frozen_of_row _ _ (x * 4 + 1) _ _ hr.out
      have fp2 := frozen_of_row _ _ (x * 4 + 2) _ _ hr.out
      have fp3 := frozen_of_row _ _ (x * 4 + 3) _ _ hr.out
      have fq0 := frozen_of_row _ _ (y * 4) _ _ hr.out
      have fq1 := frozen_of_row _ _ (y * 4 + 1) _ _ hr.out
      have fq2 := frozen_of_row _ _ (y * 4 + 2) _ _ hr.out
      have fq3 := frozen_of_row _ _ (y * 4 + 3) _ _ hr.out
      go_wp2_with fail
      go_region_law (fail)
      all_goals
        go_wp2_with fail
        go_roundw
        case rel =>
          refine ⟨k + 1, (l.set x (tq, .slice aq tq.args.length kq)).set y (tp, .slice ap tp.args.length kp), by omega, by go_num, Lib.hid ?_, Lib.hid ?_, Lib.hid ⟨by simp; exact hl.out.1, fun p hp => ?_, ?_⟩⟩
          · exact RowAt.drew (RowAt.set (RowAt.set hr.out x HKp.out (tq, .slice aq tq.args.length kq)) y (by rw [List.length_set]; exact HKq.out) (tp, .slice ap tp.args.length kp))
          · exact Near.drew (hnr.out.trans ((RowAt.near x (tq, .slice aq tq.args.length kq)).trans (RowAt.near y (tp, .slice ap tp.args.length kp))))
          · rcases List.mem_or_eq_of_mem_set hp with h | rfl
            · rcases List.mem_or_eq_of_mem_set h with h | rfl
              · exact hl.out.2.1 p h
              · exact HMq.out
            · exact HMp.out
          · have h1 := hl.out.2.2
            rw [show m - k = (m - (k + 1)) + 1 by omega, swapR, ← HXY.out.1, ← HXY.out.2, HGp.out, HGq.out] at h1
            exact h1
        case measure => simp [intOf]; omega
    · have e : k = m := by omega
      have HE : Hid (l = R) := by
        have h1 := hl.out.2.2
        rw [e, Nat.sub_self] at h1
        exact h1
      go_wp2_with fail
      go_end0
      exact ⟨rfl, by rw [← HE.out]; exact hr.out, hnr.out⟩

theorem swapR_length (a b : Nat) : ∀ m k l, (swapR a b m k l).length = l.length
  | 0, _, _ => rfl
  | m + 1, k, l => by rw [swapR, swapR_length a b m]; simp
theorem getD_mem (l : List PV) (j : Nat) (h : j < l.length) : l.getD j dflt ∈ l := by rw [getD_at l j h]; exact List.getElem_mem h
theorem swapR_mem (a b : Nat) : ∀ m k l, a + k + m ≤ l.length → b + k + m ≤ l.length → ∀ p ∈ swapR a b m k l, p ∈ l
  | 0, _, _, _, _, _, hp => hp
  | m + 1, k, l, h1, h2, p, hp => by
    rw [swapR] at hp
    have := swapR_mem a b m (k + 1) _ (by simp; omega) (by simp; omega) p hp
    rcases List.mem_or_eq_of_mem_set this with h | rfl
    · rcases List.mem_or_eq_of_mem_set h with h | rfl
      · exact h
      · exact getD_mem l _ (by omega)
    · exact getD_mem l _ (by omega)

set_option maxHeartbeats 8000000 in
theorem rot_any (blk c n cap a m b : Nat) (L l0 : List PV) (pad : List Value) (w : World) (hrow : RowAt w blk l0 pad 24) (hn : l0.length = n) (hcap : n ≤ cap) (ham : a < m) (hmb : m < b) (hbn : b ≤ n) (hn2 : n ≤ 1000000) (f : Nat) (hf : b - a ≤ f)
    (HV : Hid (∀ p ∈ L, ∃ a c, p.2 = .slice a p.1.args.length c)) (HL : Hid (∀ p ∈ l0, p ∈ L)) :
    Calls Tryd.prog 87 #[.slice (some ⟨blk, 0, none⟩) n cap, .int .i64 a, .int .i64 m, .int .i64 b, .func (.func 71) #[] #[.pointer (some ⟨c, 0, none⟩)]] w fun e w' => e = .returned (.tuple #[]) ∧ RowAt w' blk (rotF f (m - a) (b - m) m l0) pad 24 ∧ Near blk w w' ∧ Hid ((rotF f (m - a) (b - m) m l0).length = n ∧ ∀ p ∈ rotF f (m - a) (b - m) m l0, p ∈ L) := by
  obtain ⟨R, hR⟩ : ∃ R, rotF f (m - a) (b - m) m l0 = R := ⟨_, rfl⟩
  rw [hR]
  obtain ⟨i0, hi0⟩ : ∃ i0 : Nat, i0 = m - a := ⟨_, rfl⟩
  obtain ⟨j0, hj0⟩ : ∃ j0 : Nat, j0 = b - m := ⟨_, rfl⟩
  rw [← hi0, ← hj0] at hR
  have hI : (m : Int) - (a : Int) = (i0 : Int) := by omega
  have hJ : (b : Int) - (m : Int) = (j0 : Int) := by omega
  have h1 : 0 < i0 := by omega
  have h2 : 0 < j0 := by omega
  have h3 : i0 ≤ m := by omega
  have h4 : m + j0 ≤ n := by omega
  have h5 : i0 + j0 ≤ f := by omega
  have HR := Lib.hid hR
  have HROW := Lib.hid hrow
  have HN := Lib.hid hn
  clear hR hrow hn hi0 hj0 hf
  go_enter Tryd.func87, Tryd.ntmps87
  go_wp2_with fail
  clear hI hJ
  go_loopw [10, 11] (fun vi vj wr => ∃ (i j g : Nat) (l : List PV), 0 < i ∧ 0 < j ∧ i ≤ m ∧ m + j ≤ n ∧ i + j ≤ g ∧ vi = .int .i64 i ∧ vj = .int .i64 j ∧ Hid (RowAt wr blk l pad 24) ∧ Hid (Near blk w wr) ∧ Hid (l.length = n ∧ (∀ p ∈ l, p ∈ L) ∧ rotF g i j m l = R)) (fun vi vj _ => (intOf vi).toNat + (intOf vj).toNat)
  case atStart => exact ⟨i0, j0, f, l0, h1, h2, h3, h4, h5, rfl, rfl, HROW, Lib.hid (Near.refl _ _), Lib.hid ⟨HN.out, HL.out, HR.out⟩⟩
  case round =>
    clear h1 h2 h3 h4 h5
    obtain ⟨i, j, g, l, hi, hj, him, hjn, hg, rfl, rfl, hr, hnr, hl⟩ := hrel
    obtain ⟨g, rfl⟩ : ∃ g', g = g' + 1 := ⟨g - 1, by omega⟩
    obtain ⟨x, hx⟩ : ∃ x : Nat, x = m - i := ⟨_, rfl⟩
    have hX : (m : Int) - (i : Int) = (x : Int) := by omega
    have HXD := Lib.hid hx
    by_cases hij : i = j
    · subst hij
      have HE : Hid (swapR x m i 0 l = R) := by
        have h1 := hl.out.2.2
        rw [rotF, if_pos rfl] at h1
        rw [hx]; exact h1
      have HO : Hid (R.length = n ∧ ∀ p ∈ R, p ∈ L) := by
        rw [← HE.out]
        exact Lib.hid ⟨by rw [swapR_length]; exact hl.out.1, fun p hp => hl.out.2.1 p (swapR_mem x m i 0 l (by have := hl.out.1; omega) (by have := hl.out.1; omega) p hp)⟩
      have H88 := Lib.hid (swapr_any blk c n cap x m i L l pad wr hr.out hl.out.1 hcap (by omega) (by omega) hn2 HV (Lib.hid hl.out.2.1))
      rw [HE.out] at H88
      clear hx
      go_wp2_with (first | (go_at_call 88; refine H88.out.mono ?_; rintro e w1 ⟨rfl, h1, h2⟩))
      go_end0
      exact ⟨rfl, h1, hnr.out.trans h2, HO⟩
    · have hne : ((i : Int) == (j : Int)) = false := by simp; omega
      have hne2 : ((i : Int) != (j : Int)) = true := by simp; omega
      by_cases hlt : j < i
      · have d1 : decide ((j : Int) < (i : Int)) = true := by simp; omega
        have d2 : decide (j < i) = true := by simp; omega
        have H88 := Lib.hid (swapr_any blk c n cap x m j L l pad wr hr.out hl.out.1 hcap (by omega) (by omega) hn2 HV (Lib.hid hl.out.2.1))
        obtain ⟨z, hz⟩ : ∃ z : Nat, z = i - j := ⟨_, rfl⟩
        have hZ : (i : Int) - (j : Int) = (z : Int) := by omega
        have HM : Hid (∀ p ∈ swapR x m j 0 l, p ∈ L) := fun p hp => hl.out.2.1 p (swapR_mem x m j 0 l (by have := hl.out.1; omega) (by have := hl.out.1; omega) p hp)
        have hz1 : 0 < z := by omega
        have hz2 : z + j ≤ g := by omega
        have hz3 : z ≤ m := by omega
        have hz4 : z < i := by omega
        have HE : Hid (rotF g z j m (swapR x m j 0 l) = R) := by
          have h1 := hl.out.2.2
          rw [rotF, if_neg hij, if_pos hlt, ← HXD.out, ← hz] at h1
          exact h1
        clear hx hz
        go_wp2_with (first | (go_at_call 88; refine H88.out.mono ?_; rintro e w1 ⟨rfl, h1, h2⟩))
        go_roundw
        case rel => exact ⟨z, j, g, _, hz1, hj, hz3, hjn, hz2, by go_num, rfl, Lib.hid h1, Lib.hid (hnr.out.trans h2), Lib.hid ⟨by rw [swapR_length]; exact hl.out.1, HM.out, HE.out⟩⟩
        case measure => simp [intOf]; omega
      · have d1 : decide ((j : Int) < (i : Int)) = false := by simp; omega
        have d2 : decide (j < i) = false := by simp; omega
        obtain ⟨y, hy⟩ : ∃ y : Nat, y = m + j - i := ⟨_, rfl⟩
        obtain ⟨s, hs⟩ : ∃ s : Nat, s = m + j := ⟨_, rfl⟩
        have hS : (m : Int) + (j : Int) = (s : Int) := by omega
        have hY : (s : Int) - (i : Int) = (y : Int) := by omega
        have H88 := Lib.hid (swapr_any blk c n cap x y i L l pad wr hr.out hl.out.1 hcap (by omega) (by omega) hn2 HV (Lib.hid hl.out.2.1))
        obtain ⟨z, hz⟩ : ∃ z : Nat, z = j - i := ⟨_, rfl⟩
        have hZ : (j : Int) - (i : Int) = (z : Int) := by omega
        have HM : Hid (∀ p ∈ swapR x y i 0 l, p ∈ L) := fun p hp => hl.out.2.1 p (swapR_mem x y i 0 l (by have := hl.out.1; omega) (by have := hl.out.1; omega) p hp)
        have hz1 : 0 < z := by omega
        have hz2 : i + z ≤ g := by omega
        have hz3 : m + z ≤ n := by omega
        have hz4 : z < j := by omega
        have hs1 : s ≤ n := by omega
        have HE : Hid (rotF g i z m (swapR x y i 0 l) = R) := by
          have h1 := hl.out.2.2
          rw [rotF, if_neg hij, if_neg hlt, ← HXD.out, ← hz, ← hy] at h1
          exact h1
        clear hx hz hy hs
        go_wp2_with (first | (go_at_call 88; refine H88.out.mono ?_; rintro e w1 ⟨rfl, h1, h2⟩))
        go_roundw
        case rel => exact ⟨i, z, g, _, hi, hz1, him, hz3, hz2, rfl, by go_num, Lib.hid h1, Lib.hid (hnr.out.trans h2), Lib.hid ⟨by rw [swapR_length]; exact hl.out.1, HM.out, HE.out⟩⟩
        case measure => simp [intOf]; omega

theorem rotF_length : ∀ f i j m l, (rotF f i j m l).length = l.length
  | 0, _, _, _, _ => rfl
  | f + 1, i, j, m, l => by
    rw [rotF]
    split
    · rw [swapR_length]
    · split
      · rw [rotF_length f, swapR_length]
      · rw [rotF_length f, swapR_length]
theorem rotF_mem : ∀ f i j m l, i ≤ m → m + j ≤ l.length → ∀ p ∈ rotF f i j m l, p ∈ l
  | 0, _, _, _, _, _, _, _, hp => hp
  | f + 1, i, j, m, l, h1, h2, p, hp => by
    rw [rotF] at hp
    split at hp
    · exact swapR_mem _ _ _ _ l (by omega) (by omega) p hp
    · split at hp
      · exact swapR_mem _ _ _ _ l (by omega) (by omega) p (rotF_mem f _ _ _ _ (by omega) (by rw [swapR_length]; omega) p hp)
      · exact swapR_mem _ _ _ _ l (by omega) (by omega) p (rotF_mem f _ _ _ _ (by omega) (by rw [swapR_length]; omega) p hp)

end Go.Proofs.YtehnhjhflaljhaaDoor
