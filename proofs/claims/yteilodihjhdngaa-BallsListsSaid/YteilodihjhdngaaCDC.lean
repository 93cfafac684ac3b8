/- BallsLists: all cases. -/
import Derived.Test.YteilodihjhdngaaCD4
import Derived.Test.YteilodihjhdngaaCD5
import Derived.Test.YteilodihjhdngaaCD6
import Derived.Test.YteilodihjhdngaaCD7
import Derived.Test.YteilodihjhdngaaCD8
import Derived.Test.YteilodihjhdngaaCD9
import Derived.Test.YteilodihjhdngaaCDA
import Derived.Test.YteilodihjhdngaaCDB
set_option linter.unusedVariables false
set_option linter.unusedSimpArgs false
namespace Go.Proofs.Yteilodihjhdngaa
open Go.RowKit Go.Proofs.HT

theorem lists_walk (ts : List Tm) (T : Tm) (a v : Value) (w : World) (ha : LiesA w ts a) (hv : LiesT w T v) : Calls Try.prog 9 #[a, tv T v] w fun e w' => e = .returned (.bool true) ∧ Below w.heap.size w w' := by
  by_cases h0 : ts.length = 0
  · exact lists_none ts T a v w ha hv h0
  · cases hval : validB (listT ts T)
    · exact lists_bad ts T a v w ha hv h0 hval
    · have hne : ts ≠ [] := fun h => h0 (by rw [h]; rfl)
      by_cases hk : T.kind = 0
      · exact lists_var ts T a v w ha hv hne hval hk
      · cases hs : sameV T nilT
        · cases hp : isPairB T
          · have hx : ((T.kind == 3) = false) ∨ ((T.kind == 3) = true ∧ (T.name.toList == [46]) = false) ∨ ((T.kind == 3) = true ∧ (T.name.toList == [46]) = true ∧ ((T.args.length : Int) == 2) = false) := by
              cases e9 : (T.kind == 3)
              · exact .inl rfl
              · cases e10 : (T.name.toList == [46])
                · exact .inr (.inl ⟨rfl, rfl⟩)
                · cases e11 : ((T.args.length : Int) == 2)
                  · exact .inr (.inr ⟨rfl, rfl, rfl⟩)
                  · exfalso
                    rw [Lib.toList_data] at e10
                    have h1 : T.kind = 3 := by simpa using e9
                    have h2 : T.name = dot := by apply ByteArray.ext; exact Array.toList_inj.1 ((eq_of_beq e10).trans rfl)
                    have h3 : T.args.length = 2 := by have h := of_decide_eq_true (p := (T.args.length : Int) = 2) (by simpa using e11); omega
                    unfold isPairB at hp
                    rw [h1, h2, h3] at hp
                    exact absurd hp (by decide)
            by_cases hb : 2000 < 4 + cnt (listT ts T)
            · rcases hx with e9 | ⟨e9, e10⟩ | ⟨e9, e10, e11⟩
              · exact lists_big_a ts T a v w ha hv hne hval hp hs hk e9 hb
              · exact lists_big_b ts T a v w ha hv hne hval hp hs hk e9 e10 hb
              · exact lists_big_c ts T a v w ha hv hne hval hp hs hk e9 e10 e11 hb
            · have hb2 : 4 + cnt (listT ts T) ≤ 2000 := by omega
              rcases hx with e9 | ⟨e9, e10⟩ | ⟨e9, e10, e11⟩
              · exact lists_small_a ts T a v w ha hv hne hval hp hs hk e9 hb2
              · exact lists_small_b ts T a v w ha hv hne hval hp hs hk e9 e10 hb2
              · exact lists_small_c ts T a v w ha hv hne hval hp hs hk e9 e10 e11 hb2
          · cases hq : isNil (elemsT T).2
            · cases hk0 : ((elemsT T).2.kind == 0)
              · exact lists_odd ts T a v w ha hv hne hval hp hq hk0
              · exact lists_open ts T a v w ha hv hne hval hp hq hk0
            · exact lists_more ts T a v w ha hv hne hval hp hq
        · exact lists_nil ts T a v w ha hv hne hval hs
end Go.Proofs.Yteilodihjhdngaa
