/- The contract of ops.Default: it makes the predefined operators, sorted. -/
import Derived.Test.YtkjkhhifkedflaaDoorOL
set_option linter.unusedVariables false
set_option linter.unusedSimpArgs false
namespace Go.Proofs.YtkjkhhifkedflaaDoor
open Go.RowKit Go.Proofs.HP Go.BigFrame

/-- An operator whose type is one. -/
abbrev TOp := { o : Opd // isT o.2.1 = true }
instance : Inhabited TOp := ⟨⟨(⟨#[]⟩, 1, 0), rfl⟩⟩
def encO (o : TOp) : List Value := [.string o.1.1, .int .i64 o.1.2.1, .int .i64 o.1.2.2]
abbrev unT (l : List TOp) : List Opd := l.map Subtype.val
theorem mod3 (j : Nat) : j % 3 = 0 ∨ j % 3 = 1 ∨ j % 3 = 2 := by omega
theorem holds_of_own {w : World} {base : Nat} {v : Value} {l : List TOp} (h : OwnO w base v (unT l)) (h0 : 0 < l.length) : ∃ g cap, v = .slice (some ⟨g, 0, none⟩) l.length cap ∧ base ≤ g ∧ g < w.heap.size ∧ Go.Sort.HoldsK encO 3 w g 0 l.toArray := by
  obtain ⟨h1, h2⟩ := h
  have hln : (unT l).length = l.length := List.length_map ..
  rcases h2 with ⟨rfl, h3⟩ | ⟨g, cap, cur, rfl, h3, h4, h5, h6, h7, h8⟩
  · omega
  · refine ⟨g, cap, by rw [hln], h3, (Array.getElem?_eq_some_iff.1 h4).1, fun j hj => ?_⟩
    have hj2 : j < l.length * 3 := by simpa using hj
    obtain ⟨o, ho⟩ : ∃ o, l[j / 3]? = some o := ⟨_, List.getElem?_eq_getElem (by omega)⟩
    have e : (l.toArray[j / 3]!) = o := by
      have := (List.getElem?_eq_some_iff.1 ho).1
      simp [this, (List.getElem?_eq_some_iff.1 ho).2]
    obtain ⟨e0, e1, e2⟩ := flatO_get (unT l) (j / 3) o.1 (by rw [List.getElem?_map, ho]; rfl)
    have get : ∀ u, (flatO (unT l))[j]? = some u → w.cell? ⟨g, 0 + j, none⟩ = some u := fun u hu => by
      rw [Nat.zero_add, cell_of_row w g j cur _ (0, 0) h4]
      rw [← h8, List.getElem?_take, if_pos (by rw [hln]; exact hj2)] at hu
      simpa using hu
    refine ⟨?_, frozen_of_row _ _ _ _ _ h4⟩
    rw [Go.Sort.get_flatK _ _ _ _ (by simpa using hj2), e]
    rcases mod3 j with m | m | m
    · rw [m]; exact get _ (by rw [show j = j / 3 * 3 by omega]; exact e0)
    · rw [m]; exact get _ (by rw [show j = j / 3 * 3 + 1 by omega]; exact e1)
    · rw [m]; exact get _ (by rw [show j = j / 3 * 3 + 2 by omega]; exact e2)
theorem pro_of_holds {w : World} {g : Nat} {d : Array TOp} (h : Go.Sort.HoldsK encO 3 w g 0 d) : PRO w (some ⟨g, 0, none⟩) (unT d.toList) := fun i o ho => by
  rw [List.getElem?_map] at ho
  obtain ⟨x, hx, rfl⟩ := Option.map_eq_some_iff.1 ho
  have hi : i < d.size := by have := (List.getElem?_eq_some_iff.1 hx).1; simpa using this
  have e : d[i]! = x := by
    have := (List.getElem?_eq_some_iff.1 hx).2
    simp at this
    simp [hi, this]
  have c0 := (Go.Sort.HoldsK.cell h hi (show 0 < 3 by omega)).1
  have c1 := (Go.Sort.HoldsK.cell h hi (show 1 < 3 by omega)).1
  have c2 := (Go.Sort.HoldsK.cell h hi (show 2 < 3 by omega)).1
  rw [e] at c0 c1 c2
  exact ⟨g, 0, rfl, c0, c1, c2⟩
theorem below_sort {w : World} {g base m : Nat} {d : Array TOp} {os : Array Obj} (hg : base ≤ g) (hl : g < w.heap.size) : Below base w (sortWorldK encO 3 w g 0 m d os) := by
  refine ⟨rfl, rfl, rfl, size_sortWorldK_c encO 3 w g 0 m d os, fun k hk => ?_⟩
  unfold sortWorldK Go.Sort.grow Go.Sort.putRowK Go.Sort.putRow Go.Sort.mapBlock Go.Sort.ahead
  simp only
  have hne : g ≠ k := by omega
  rw [Array.getElem?_append_left (by rw [Array.size_modify]; omega), Array.getElem?_modify, if_neg hne]

def DefEnd (w : World) (e : Ending) (w' : World) : Prop := ∃ g cap, e = .returned (.slice (some ⟨g, 0, none⟩) 41 cap) ∧ PRO w' (some ⟨g, 0, none⟩) D0 ∧ Below w.heap.size w w'
theorem isT_U0 : ∀ o ∈ U0, isT o.2.1 = true := by decide +kernel
def U0T : List TOp := U0.attach.map fun o => ⟨o.1, isT_U0 o.1 o.2⟩
theorem U0T_un : unT U0T = U0 := by
  unfold unT U0T
  rw [List.map_map]
  exact List.attach_map_subtype_val U0
theorem U0T_len : U0T.length = 41 := by
  have := congrArg List.length U0T_un
  rw [List.length_map, U0_len] at this
  exact this
theorem sortedT {d' : Array TOp} (hp : Go.Sort.PermIn 0 U0T.toArray.size U0T.toArray d') (hs : Go.Sort.SortedIn (ltOf fun x y : TOp => cfK x.1 y.1) 0 U0T.toArray.size d') : unT d'.toList = D0 := by
  have hsz : d'.size = U0T.toArray.size := hp.1
  have hP := hp.2.2
  rw [show (d'.extract 0 U0T.toArray.size) = d' by rw [← hsz]; simp, show (U0T.toArray.extract 0 U0T.toArray.size) = U0T.toArray by simp] at hP
  have hP2 : (unT d'.toList).Perm U0 := by
    rw [← U0T_un]
    exact List.Perm.map _ (by simpa using hP)
  refine (asc_unique D0 (unT d'.toList) (vld_iff.1 D0_vld).asc ?_ (D0_perm.trans hP2.symm)).symm
  rw [List.pairwise_map, List.pairwise_iff_getElem]
  intro i j hi hj hij
  have := hs i j (Nat.zero_le _) hij (by rw [← hsz]; simpa using hj)
  have this := of_decide_eq_false this
  unfold cfK at this
  have ei : d'[i]! = d'.toList[i] := by simp at hi; simp [hi]
  have ej : d'[j]! = d'.toList[j] := by simp at hj; simp [hj]
  rw [ei, ej] at this
  exact this
theorem swoT : Go.Sort.SWO (ltOf fun x y : TOp => cfK x.1 y.1) where
  irrefl x := swo.irrefl x.1
  trans x y z h1 h2 := swo.trans x.1 y.1 z.1 h1 h2
  ntrans x y z h1 h2 := swo.ntrans x.1 y.1 z.1 h1 h2
theorem KLaid.lt {w : World} (h : KLaid w) : 1 < w.heap.size := by
  obtain ⟨t, fr, hg⟩ := h.kinds
  exact lt_of_some hg
theorem KLaid.belowB {B : Nat} {w w' : World} (h : KLaid w) (hb : Below B w w') (hB : 1 < B) : KLaid w' := by
  obtain ⟨t, fr, hg⟩ := h.kinds
  exact ⟨t, fr, (hb.block _ hB).trans hg⟩
/-- slices.SortFunc at the predefined operators, in a row of the call's own. -/
theorem sort_any (w0 w : World) (v : Value) (hL : KLaid w0) (hb : Below w0.heap.size w0 w) (hO : OwnO w w0.heap.size v U0) :
    Calls Tryd.prog 35 #[v, .func (.func 36) #[] #[]] w fun e w' => e = .returned (.tuple #[]) ∧ ∃ g cap, v = .slice (some ⟨g, 0, none⟩) 41 cap ∧ PRO w' (some ⟨g, 0, none⟩) D0 ∧ Below w0.heap.size w0 w' := by
  rw [← U0T_un] at hO
  obtain ⟨g, cap, rfl, hg, hl, hH⟩ := holds_of_own hO (by rw [U0T_len]; omega)
  have eg : ∀ args w, (callFunc 36 args).run Tryd.prog w = .ok (.enter 36 args) w := enters_of Tryd.func36 (by kernel_rfl) rfl
  have hcmp : CmpLays Tryd.prog 36 #[] encO 3 (fun x y : TOp => cfK x.1 y.1) g 0 U0T.toArray.size w := fun m os dk _ x y => by
    have hk : KLaid (sortWorldK encO 3 w g 0 m dk os) := hL.belowB (hb.trans (below_sort hg hl)) hL.lt
    exact (default1_any x.1 y.1 x.2 y.2 _ hk).mono fun _ _ ⟨he, hgw⟩ => ⟨he, hgw.grow⟩
  have h := AnyQ.slices_SortFunc Tryd.sortOps 3 Tryd.isAgg26 Tryd.sizeOf26 encO (fun _ => rfl) (fun x v hv => by simp [encO] at hv; rcases hv with rfl | rfl | rfl <;> rfl) (fun x y : TOp => cfK x.1 y.1) swoT 36 #[] g 0 cap U0T.toArray w eg hcmp hH hl (by simp [U0T_len])
  refine Calls.mono h fun e w' ⟨he, d', n, os, hp, hs, hw⟩ => ⟨he, g, cap, ?_, ?_, ?_⟩
  · rw [U0T_len]
  · rw [hw, ← sortedT hp hs]
    exact pro_of_holds (holdsK_sortWorldK_c encO 3 w g 0 U0T.toArray d' n os hH hl hp.1)
  · rw [hw]; exact hb.trans (below_sort hg hl)
end Go.Proofs.YtkjkhhifkedflaaDoor
