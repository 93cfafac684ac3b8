/- Of no program: the predefined operators; a sorted row is one. -/
import Derived.Test.YtkjkhhifkedflaaDoorOA
import Derived.Sort.Statements
set_option linter.unusedVariables false
set_option linter.unusedSimpArgs false
namespace Go.Proofs.HP

def ops (p t : Int) (ns : List (List UInt8)) : List Opd := ns.map fun n => (nm n, t, p)
/-- The predefined operators, in the order of the program's groups. -/
def U0 : List Opd :=
  ops 1200 1 [[58, 45], [45, 45, 62]] ++ ops 1200 5 [[58, 45], [63, 45]] ++ ops 1100 2 [[59]] ++ ops 1050 2 [[45, 62]] ++ ops 1000 2 [[44]] ++ ops 900 4 [[92, 43]] ++
  ops 700 1 [[61], [92, 61], [61, 61], [92, 61, 61], [64, 60], [64, 61, 60], [64, 62], [64, 62, 61], [61, 46, 46], [105, 115], [61, 58, 61], [61, 92, 61], [60], [61, 60], [62], [62, 61]] ++
  ops 500 3 [[43], [45], [47, 92], [92, 47]] ++ ops 400 3 [[42], [47], [47, 47], [114, 101, 109], [109, 111, 100], [100, 105, 118], [60, 60], [62, 62]] ++ ops 200 1 [[42, 42]] ++ ops 200 2 [[94]] ++ ops 200 4 [[43], [45], [92]]
def D0 : List Opd := U0.foldl wit []
theorem U0_len : U0.length = 41 := by decide +kernel
theorem D0_len : D0.length = 41 := by decide +kernel
theorem D0_vld : vld D0 = true := by decide +kernel
theorem wit_perm (l : List Opd) (o : Opd) : (wit l o).Perm (o :: l) := by
  induction l with
  | nil => exact List.Perm.refl _
  | cons x r ih =>
    rw [wit]
    split
    · exact List.Perm.refl _
    · exact (List.Perm.cons x ih).trans (List.Perm.swap o x r)
theorem fold_perm : ∀ (l a : List Opd), (l.foldl wit a).Perm (a ++ l)
  | [], a => by simp
  | o :: l, a => by
    rw [List.foldl_cons]
    refine (fold_perm l (wit a o)).trans ?_
    refine ((wit_perm a o).append_right l).trans ?_
    rw [List.cons_append]
    exact List.perm_middle.symm
theorem D0_perm : D0.Perm U0 := by
  have h := fold_perm U0 []
  rw [List.nil_append] at h
  exact h

/-- A row in strict order is the only one of its elements in which none stands behind a greater one. -/
theorem asc_unique : ∀ (L M : List Opd), Asc L → M.Pairwise (fun a b => ¬ kc b.1 (oc b) a.1 (oc a) < 0) → L.Perm M → L = M
  | [], M, _, _, hp => by simpa using hp.symm.eq_nil
  | a :: L, [], _, _, hp => by have := hp.length_eq; simp at this
  | a :: L, b :: M, hL, hM, hp => by
    have h1 := List.pairwise_cons.1 hL
    have h2 := List.pairwise_cons.1 hM
    have e : a = b := by
      by_cases e : a = b
      · exact e
      · have ha : a ∈ M := by
          have : a ∈ b :: M := hp.mem_iff.1 (List.mem_cons_self ..)
          rcases List.mem_cons.1 this with h | h
          · exact absurd h e
          · exact h
        have hb : b ∈ L := by
          have : b ∈ a :: L := hp.mem_iff.2 (List.mem_cons_self ..)
          rcases List.mem_cons.1 this with h | h
          · exact absurd h.symm e
          · exact h
        exact absurd (h1.1 b hb) (h2.1 a ha)
    subst e
    rw [asc_unique L M h1.2 h2.2 (List.perm_cons a |>.1 hp)]
def cfK (a b : Opd) : Int := kc a.1 (oc a) b.1 (oc b)
theorem sorted_D0 {d' : Array Opd} (hp : Sort.PermIn 0 41 U0.toArray d') (hs : Sort.SortedIn (fun a b => decide (cfK a b < 0)) 0 41 d') : d'.toList = D0 := by
  have hsz : d'.size = 41 := by rw [hp.1]; simpa using U0_len
  have hP := hp.2.2
  rw [show (d'.extract 0 41) = d' by rw [← hsz]; simp, show (U0.toArray.extract 0 41) = U0.toArray by rw [show 41 = U0.toArray.size by simpa using U0_len.symm]; simp] at hP
  refine (asc_unique D0 d'.toList (vld_iff.1 D0_vld).asc ?_ (D0_perm.trans (by simpa using hP.symm))).symm
  rw [List.pairwise_iff_getElem]
  intro i j hi hj hij
  have := hs i j (Nat.zero_le _) hij (by simpa [hsz] using hj)
  have this := of_decide_eq_false this
  unfold cfK at this
  have ei : d'[i]! = d'.toList[i] := by simp at hi; simp [hi]
  have ej : d'[j]! = d'.toList[j] := by simp at hj; simp [hj]
  rw [ei, ej] at this
  exact this
theorem swo : Sort.SWO (fun a b : Opd => decide (cfK a b < 0)) where
  irrefl x := by simp [cfK, kc_self]
  trans x y z h1 h2 := by
    have h1 := of_decide_eq_true h1
    have h2 := of_decide_eq_true h2
    exact decide_eq_true (kc_lt_trans h1 h2)
  ntrans x y z h1 h2 := by
    have h1 : ¬ kc x.1 (oc x) y.1 (oc y) < 0 := of_decide_eq_false h1
    have h2 : ¬ kc y.1 (oc y) z.1 (oc z) < 0 := of_decide_eq_false h2
    refine decide_eq_false fun h => ?_
    rcases Int.lt_or_le (kc y.1 (oc y) z.1 (oc z)) 0 with h3 | h3
    · exact h2 h3
    · have h4 : kc z.1 (oc z) y.1 (oc y) ≤ 0 := by rw [kc_neg y.1 (oc y) z.1 (oc z)]; omega
      exact h1 (kc_lt_le h h4)
end Go.Proofs.HP
