/- The law BallsIndicators. -/
import Derived.Test.YteilodihjhdngaaBZ
import Derived.Deep.DeepCutAuto
set_option linter.unusedVariables false
set_option linter.unusedSimpArgs false
set_option linter.unusedVariables false
set_option linter.unusedSimpArgs false
namespace Go.Proofs.Yteilodihjhdngaa
open Go.RowKit Go.Proofs.HT

theorem inst_err : instT = errT (atmT ⟨#[105, 110, 115, 116, 97, 110, 116, 105, 97, 116, 105, 111, 110, 95, 101, 114, 114, 111, 114]⟩) := by rfl
theorem maxa_err : reprT ⟨#[109, 97, 120, 95, 97, 114, 105, 116, 121]⟩ = errT (.mk 3 0 ⟨#[114, 101, 112, 114, 101, 115, 101, 110, 116, 97, 116, 105, 111, 110, 95, 101, 114, 114, 111, 114]⟩ [atmT ⟨#[109, 97, 120, 95, 97, 114, 105, 116, 121]⟩]) := by rfl
theorem int_shape {D : Tm} (h : validB D = true) (hk : (D.kind == 1) = true) : D.args = [] := by
  match D, h, hk with
  | .mk k n s ts, h, hk =>
    have hk : k = 1 := by simpa [Tm.kind] using hk
    subst hk
    simp only [validB, Bool.and_eq_true] at h
    have hn := (nodes_at h.2).1
    simp [nodeB] at hn
    simpa [Tm.args] using hn.2
theorem dom_err {D : Tm} (h : validB D = true) (hk : (D.kind == 1) = true) : withT D ⟨#[100, 111, 109, 97, 105, 110, 95, 101, 114, 114, 111, 114]⟩ [⟨#[110, 111, 116, 95, 108, 101, 115, 115, 95, 116, 104, 97, 110, 95, 122, 101, 114, 111]⟩] = errT (.mk 3 0 ⟨#[100, 111, 109, 97, 105, 110, 95, 101, 114, 114, 111, 114]⟩ [atmT ⟨#[110, 111, 116, 95, 108, 101, 115, 115, 95, 116, 104, 97, 110, 95, 122, 101, 114, 111]⟩, D]) := by
  have hc : cnt D = 1 := by rw [cnt_eq, int_shape h hk]; rfl
  have hn : nodesB D = true := by simp only [validB, Bool.and_eq_true] at h; exact h.2
  have e1 : culT D 1 = D := by unfold culT; rw [hc]; rfl
  have e2 : validB (errT (.mk 3 0 ⟨#[100, 111, 109, 97, 105, 110, 95, 101, 114, 114, 111, 114]⟩ [atmT ⟨#[110, 111, 116, 95, 108, 101, 115, 115, 95, 116, 104, 97, 110, 95, 122, 101, 114, 111]⟩, D])) = true := by
    unfold errT validB
    rw [Bool.and_eq_true]
    constructor
    · simp only [cnt, cntL, hc]; rfl
    · simp only [nodesB, nodesL, hn, Bool.and_true]; rfl
  have e3 : withT D ⟨#[100, 111, 109, 97, 105, 110, 95, 101, 114, 114, 111, 114]⟩ [⟨#[110, 111, 116, 95, 108, 101, 115, 115, 95, 116, 104, 97, 110, 95, 122, 101, 114, 111]⟩] = vz (errT (.mk 3 0 ⟨#[100, 111, 109, 97, 105, 110, 95, 101, 114, 114, 111, 114]⟩ [atmT ⟨#[110, 111, 116, 95, 108, 101, 115, 115, 95, 116, 104, 97, 110, 95, 122, 101, 114, 111]⟩, culT D 1])) := by unfold withT; rw [if_pos h]; rfl
  rw [e3, e1]
  unfold vz; rw [if_pos e2]
theorem ind_facts {A D : Tm} (hv : validB (.mk 3 0 ⟨#[47]⟩ [A, D]) = true) : inC (.mk 3 0 ⟨#[47]⟩ [A, D]) = true ∧ validB A = true ∧ validB D = true :=
  ⟨by unfold inC chkO; rw [hv]; rfl, valid_arg hv 0 (by simp [Tm.args]), valid_arg hv 1 (by simp [Tm.args])⟩
theorem ind_vals {A D : Tm} (hv : validB (.mk 3 0 ⟨#[47]⟩ [A, D]) = true) : indB (.mk 3 0 ⟨#[47]⟩ [A, D]) = (if ((A.kind == 0) || (D.kind == 0)) = true then instT else if chkO A (A.kind == 2) = true then arB D else chkB A ⟨#[97, 116, 111, 109]⟩ (A.kind == 2)) ∧
    indO (.mk 3 0 ⟨#[47]⟩ [A, D]) = ((!((A.kind == 0) || (D.kind == 0))) && (chkO A (A.kind == 2) && arO D)) ∧ indS (.mk 3 0 ⟨#[47]⟩ [A, D]) = (if indO (.mk 3 0 ⟨#[47]⟩ [A, D]) = true then A.name else ⟨#[]⟩) ∧ indN (.mk 3 0 ⟨#[47]⟩ [A, D]) = (if indO (.mk 3 0 ⟨#[47]⟩ [A, D]) = true then D.num else 0) := by
  have hc := (ind_facts hv).1
  refine ⟨?_, ?_, rfl, rfl⟩
  · unfold indB inV; rw [hc]; rfl
  · unfold indO inV; rw [hc]; rfl
/-- An error term whose two arguments lie in a new block. -/
def RowE (c : Tm) (v : Value) (w : World) (e : Ending) (w' : World) : Prop := ∃ g, w.heap.size ≤ g ∧ e = .returned (pv 3 0 ⟨#[101, 114, 114, 111, 114]⟩ (.slice (some ⟨g, 0, none⟩) 2 2)) ∧ w'.heap[g]? = some (.cells (flat [(c, v), (nilT, .slice none 0 0)]).toArray 24 (0, 0)) ∧ Below w.heap.size w w'
set_option maxHeartbeats 4000000 in
theorem error1_row (c : Tm) (v : Value) (w : World) (h : LiesT w c v) : Calls Try.prog 56 #[tv c v] w (RowE c v w) := by
  obtain ⟨va, vc, rfl⟩ : ∃ a k, v = .slice a c.args.length k := h.slice
  have F0 := Lib.hid (Fr.start w c (.slice va c.args.length vc))
  have H := Lib.hid h
  clear h
  simp only [tv]
  go_enter Try.func56, Try.ntmps56
  go_wp2_with fail
  obtain ⟨W, hW⟩ : ∃ W, ((w.alloc (.cells #[.int .i64 c.kind, .int .i64 c.num, .string c.name, .slice va c.args.length vc] 24)).alloc (.cells #[.int .i64 0, .int .i64 0, .string ⟨#[]⟩, .slice none 0 0] 24)) = W := ⟨_, rfl⟩
  rw [hW] at F0 ⊢
  clear hW
  have hS0 : Below W.heap.size W W.drew := (Below.refl _ _).drew
  have HSS : Hid (∀ w', Below W.heap.size W w' → (fun w' => Below w.heap.size w w' ∧ w'.cell? ⟨w.heap.size, 0, none⟩ = some (.int .i64 c.kind) ∧ w'.cell? ⟨w.heap.size, 1, none⟩ = some (.int .i64 c.num) ∧ w'.cell? ⟨w.heap.size, 2, none⟩ = some (.string c.name) ∧ w'.cell? ⟨w.heap.size, 3, none⟩ = some (.slice va c.args.length vc)) w') := Lib.hid (fun w' h => ⟨(F0.out.step h).b, (F0.out.step h).p.cells⟩)
  obtain ⟨p0, p1, p2, p3⟩ := F0.out.p.cells
  go_region_held3 (fun w' => Below w.heap.size w w' ∧ w'.cell? ⟨w.heap.size, 0, none⟩ = some (.int .i64 c.kind) ∧ w'.cell? ⟨w.heap.size, 1, none⟩ = some (.int .i64 c.num) ∧ w'.cell? ⟨w.heap.size, 2, none⟩ = some (.string c.name) ∧ w'.cell? ⟨w.heap.size, 3, none⟩ = some (.slice va c.args.length vc))
    (first | exact HS9 | exact HSS.out _ h6 | exact HSS.out _ h5 | exact HSS.out _ (h5.alloc h5.size _) | exact HSS.out _ hS0 | go_keep)
    (first
      | (go_at_call 53; ((with_reducible refine (a_any _ _).mono ?_); rintro e w2 ⟨rfl, hb2⟩; have h5 : Below W.heap.size W w2 := hS0.trans (hb2.mono hS0.size)))
      | (go_at_call 58; refine (f_any _ _ _ _ _).mono ?_; rintro e w7 ⟨rfl, hb3⟩; have h6 : Below W.heap.size W w7 := h5.trans ((al hb3).mono h5.size); have F8 := Lib.hid (F0.out.step h6); have G8 : Hid (w7.heap[w2.heap.size]? = some (.cells (flat [(c, .slice va c.args.length vc), (nilT, .slice none 0 0)]).toArray 24 (0, 0))) := Lib.hid ((hb3.block w2.heap.size (by simp)).trans (heap_alloc_new _ _)); have Z2 : Hid (w.heap.size + 2 ≤ w2.heap.size) := Lib.hid (by have hz8 := F0.out.z; have hz9 := h5.size; omega); obtain ⟨c0, c1, c2, c3⟩ : w7.cell? ⟨w.heap.size + 1, 0, none⟩ = some (.int .i64 0) ∧ w7.cell? ⟨w.heap.size + 1, 1, none⟩ = some (.int .i64 0) ∧ w7.cell? ⟨w.heap.size + 1, 2, none⟩ = some (.string ⟨#[]⟩) ∧ w7.cell? ⟨w.heap.size + 1, 3, none⟩ = some (.slice none 0 0) := F8.out.r.cells; obtain ⟨f0, f1, f2, f3⟩ := F8.out.r.froz; have HF9 := F8.out.putR (errT c) (.slice (some ⟨w2.heap.size, 0, none⟩) 2 2) _ rfl; have HS9 : (fun w' => Below w.heap.size w w' ∧ w'.cell? ⟨w.heap.size, 0, none⟩ = some (.int .i64 c.kind) ∧ w'.cell? ⟨w.heap.size, 1, none⟩ = some (.int .i64 c.num) ∧ w'.cell? ⟨w.heap.size, 2, none⟩ = some (.string c.name) ∧ w'.cell? ⟨w.heap.size, 3, none⟩ = some (.slice va c.args.length vc)) (((((w7.setCell ⟨w.heap.size + 1, 0, none⟩ (.int .i64 3)).setCell ⟨w.heap.size + 1, 1, none⟩ (.int .i64 0)).setCell ⟨w.heap.size + 1, 2, none⟩ (.string ⟨#[101, 114, 114, 111, 114]⟩)).setCell ⟨w.heap.size + 1, 3, none⟩ (.slice (some ⟨w2.heap.size, 0, none⟩) 2 2))) := ⟨HF9.b, HF9.p.cells⟩; clear HF9))
  clear p0 p1 p2 p3 hb3 hb2
  go_wp2_with fail
  clear HS9 c0 c1 c2 c3 f0 f1 f2 f3
  have F9 : Hid (Fr w (((((w7.setCell ⟨w.heap.size + 1, 0, none⟩ (.int .i64 3)).setCell ⟨w.heap.size + 1, 1, none⟩ (.int .i64 0)).setCell ⟨w.heap.size + 1, 2, none⟩ (.string ⟨#[101, 114, 114, 111, 114]⟩)).setCell ⟨w.heap.size + 1, 3, none⟩ (.slice (some ⟨w2.heap.size, 0, none⟩) 2 2))) c (.slice va c.args.length vc) (errT c) (.slice (some ⟨w2.heap.size, 0, none⟩) 2 2)) := Lib.hid (F8.out.putR (errT c) (.slice (some ⟨w2.heap.size, 0, none⟩) 2 2) _ rfl)
  have G9 : Hid (((((w7.setCell ⟨w.heap.size + 1, 0, none⟩ (.int .i64 3)).setCell ⟨w.heap.size + 1, 1, none⟩ (.int .i64 0)).setCell ⟨w.heap.size + 1, 2, none⟩ (.string ⟨#[101, 114, 114, 111, 114]⟩)).setCell ⟨w.heap.size + 1, 3, none⟩ (.slice (some ⟨w2.heap.size, 0, none⟩) 2 2)).heap[w2.heap.size]? = some (.cells (flat [(c, .slice va c.args.length vc), (nilT, .slice none 0 0)]).toArray 24 (0, 0))) := Lib.hid (((four F8.out.r _ _ _ _).2.1 _ (by have := Z2.out; omega)).trans G8.out)
  generalize ((((w7.setCell ⟨w.heap.size + 1, 0, none⟩ (.int .i64 3)).setCell ⟨w.heap.size + 1, 1, none⟩ (.int .i64 0)).setCell ⟨w.heap.size + 1, 2, none⟩ (.string ⟨#[101, 114, 114, 111, 114]⟩)).setCell ⟨w.heap.size + 1, 3, none⟩ (.slice (some ⟨w2.heap.size, 0, none⟩) 2 2)) = WE at *
  obtain ⟨k0, k1, k2, k3⟩ : WE.cell? ⟨w.heap.size + 1, 0, none⟩ = some (.int .i64 3) ∧ WE.cell? ⟨w.heap.size + 1, 1, none⟩ = some (.int .i64 0) ∧ WE.cell? ⟨w.heap.size + 1, 2, none⟩ = some (.string ⟨#[101, 114, 114, 111, 114]⟩) ∧ WE.cell? ⟨w.heap.size + 1, 3, none⟩ = some (.slice (some ⟨w2.heap.size, 0, none⟩) 2 2) := F9.out.r.cells
  exact bodyPost_ret (v := pv 3 0 ⟨#[101, 114, 114, 111, 114]⟩ (.slice (some ⟨w2.heap.size, 0, none⟩) 2 2)) (by simp [results, Try.results56, go_sem, k0, k1, k2, k3]) rfl ⟨_, by have := Z2.out; omega, rfl, G9.out, F9.out.b⟩

/-- The error term made of a term: it lies wherever the blocks that are new since, and the term itself, lie. -/
def LieX (c : Tm) (v : Value) (Q : Tm) (w : World) (e : Ending) (w' : World) : Prop := ∃ x, e = .returned (tv Q x) ∧ LiesT w' Q x ∧ Below w.heap.size w w' ∧ ∀ w2, (∀ b, w.heap.size ≤ b → b < w'.heap.size → w2.heap[b]? = w'.heap[b]?) → LiesT w2 c v → LiesT w2 Q x
theorem error1_x (c : Tm) (v : Value) (w : World) (Q : Tm) (h : LiesT w c v) (hq : errT c = Q) : Calls Try.prog 56 #[tv c v] w (LieX c v Q w) := (error1_row c v w h).mono (by
  subst hq
  rintro e w' ⟨g, hg, rfl, hr, hb⟩
  have key : ∀ w2 : World, (∀ b, w.heap.size ≤ b → b < w'.heap.size → w2.heap[b]? = w'.heap[b]?) → LiesT w2 c v → LiesT w2 (errT c) (.slice (some ⟨g, 0, none⟩) 2 2) := fun w2 hk hc => by
    have hr2 := (hk g hg (Array.getElem?_eq_some_iff.1 hr).1).trans hr
    exact struct_lies (nm := ⟨#[101, 114, 114, 111, 114]⟩) (by simp [ByteArray.size]) (lies_at [(c, v), (nilT, .slice none 0 0)] hr2 (by intro p hp; simp only [List.mem_cons, List.not_mem_nil, or_false] at hp; rcases hp with rfl | rfl; exact hc; exact atom_lies (by simp [ByteArray.size])) (by simp))
  exact ⟨.slice (some ⟨g, 0, none⟩) 2 2, rfl, key w' (fun _ _ _ => rfl) (h.below hb), hb, key⟩)
theorem name_self (a : ByteArray) : (a.toList == a.toList) = true := by simp

set_option maxRecDepth 4000 in
set_option maxHeartbeats 32000000 in
theorem indicators_walk (A D : Tm) (x y : Value) (w : World) (hA : LiesT w A x) (hD : LiesT w D y) : Calls Try.prog 10 #[tv A x, tv D y] w fun e w' => e = .returned (.bool true) ∧ Below w.heap.size w w' := by
  obtain ⟨va, ca, rfl⟩ : ∃ a k, x = .slice a A.args.length k := hA.slice
  obtain ⟨vd, cd, rfl⟩ : ∃ a k, y = .slice a D.args.length k := hD.slice
  have BB := Lib.hid (Below.refl w.heap.size w)
  have LL1 := Lib.hid (hA)
  have LL2 := Lib.hid (hD)
  have LL1 := Lib.hid (LL1.out.below (al0 w (.cells #[.int .i64 A.kind, .int .i64 A.num, .string A.name, .slice va A.args.length ca] 24)))
  have LL2 := Lib.hid (LL2.out.below (al0 w (.cells #[.int .i64 A.kind, .int .i64 A.num, .string A.name, .slice va A.args.length ca] 24)))
  have RR3 := Lib.hid (RowT.new w A (.slice va A.args.length ca))
  have BB := Lib.hid (BB.out.alloc BB.out.size (.cells #[.int .i64 A.kind, .int .i64 A.num, .string A.name, .slice va A.args.length ca] 24))
  have RR3 := Lib.hid (RR3.out.below (al0 (w.alloc (.cells #[.int .i64 A.kind, .int .i64 A.num, .string A.name, .slice va A.args.length ca] 24)) (.cells #[.int .i64 D.kind, .int .i64 D.num, .string D.name, .slice vd D.args.length cd] 24)))
  have LL1 := Lib.hid (LL1.out.below (al0 (w.alloc (.cells #[.int .i64 A.kind, .int .i64 A.num, .string A.name, .slice va A.args.length ca] 24)) (.cells #[.int .i64 D.kind, .int .i64 D.num, .string D.name, .slice vd D.args.length cd] 24)))
  have LL2 := Lib.hid (LL2.out.below (al0 (w.alloc (.cells #[.int .i64 A.kind, .int .i64 A.num, .string A.name, .slice va A.args.length ca] 24)) (.cells #[.int .i64 D.kind, .int .i64 D.num, .string D.name, .slice vd D.args.length cd] 24)))
  have RR4 := Lib.hid (RowT.new (w.alloc (.cells #[.int .i64 A.kind, .int .i64 A.num, .string A.name, .slice va A.args.length ca] 24)) D (.slice vd D.args.length cd))
  have BB := Lib.hid (BB.out.alloc BB.out.size (.cells #[.int .i64 D.kind, .int .i64 D.num, .string D.name, .slice vd D.args.length cd] 24))
  have RR4 : Hid (RowT ((w.alloc (.cells #[.int .i64 A.kind, .int .i64 A.num, .string A.name, .slice va A.args.length ca] 24)).alloc (.cells #[.int .i64 D.kind, .int .i64 D.num, .string D.name, .slice vd D.args.length cd] 24)) (w.heap.size + 1) D (.slice vd D.args.length cd)) := Lib.hid (by have h := RR4.out; rw [show (w.alloc (.cells #[.int .i64 A.kind, .int .i64 A.num, .string A.name, .slice va A.args.length ca] 24)).heap.size = w.heap.size + 1 by simp] at h; exact h)
  obtain ⟨X, hX⟩ : ∃ X, ((w.alloc (.cells #[.int .i64 A.kind, .int .i64 A.num, .string A.name, .slice va A.args.length ca] 24)).alloc (.cells #[.int .i64 D.kind, .int .i64 D.num, .string D.name, .slice vd D.args.length cd] 24)) = X := ⟨_, rfl⟩
  have HG : Hid (∃ g : Nat, w.heap.size = g) := Lib.hid ⟨_, rfl⟩
  have LS : Hid (∀ w1, Below (X.alloc (.cells #[.int .i64 A.kind, .int .i64 A.num, .string A.name, .slice va A.args.length ca, .int .i64 D.kind, .int .i64 D.num, .string D.name, .slice vd D.args.length cd] 24)).heap.size (X.alloc (.cells #[.int .i64 A.kind, .int .i64 A.num, .string A.name, .slice va A.args.length ca, .int .i64 D.kind, .int .i64 D.num, .string D.name, .slice vd D.args.length cd] 24)) w1 → LiesT w1 (.mk 3 0 ⟨#[47]⟩ [A, D]) (.slice (some ⟨X.heap.size, 0, none⟩) 2 2)) := Lib.hid (by
    rw [← hX]
    intro w1 hb
    have h := lies_new (w := ((w.alloc (.cells #[.int .i64 A.kind, .int .i64 A.num, .string A.name, .slice va A.args.length ca] 24)).alloc (.cells #[.int .i64 D.kind, .int .i64 D.num, .string D.name, .slice vd D.args.length cd] 24))) (g := ((w.alloc (.cells #[.int .i64 A.kind, .int .i64 A.num, .string A.name, .slice va A.args.length ca] 24)).alloc (.cells #[.int .i64 D.kind, .int .i64 D.num, .string D.name, .slice vd D.args.length cd] 24)).heap.size) (ty := 24) rfl [(A, .slice va A.args.length ca), (D, .slice vd D.args.length cd)] (by simp only [EnvT]; exact ⟨LL1.out, LL2.out, trivial⟩) (by simp)
    exact (struct_lies (nm := ⟨#[47]⟩) (by simp [ByteArray.size]) h).below hb)
  rw [hX] at RR3 RR4 LL1 LL2 BB
  clear hA hD HG
  have HX := Lib.hid hX
  clear hX
  simp only [tv]
  go_enter Try.func10, Try.ntmps10
  go_wp2_with fail
  have hsz : w.heap.size + 1 + 1 = X.heap.size := by rw [← HX.out]; simp
  rw [HX.out, hsz]
  clear HX hsz
  have RR3 := Lib.hid (RR3.out.below (al0 X (.cells #[.int .i64 A.kind, .int .i64 A.num, .string A.name, .slice va A.args.length ca, .int .i64 D.kind, .int .i64 D.num, .string D.name, .slice vd D.args.length cd] 24)))
  have RR4 := Lib.hid (RR4.out.below (al0 X (.cells #[.int .i64 A.kind, .int .i64 A.num, .string A.name, .slice va A.args.length ca, .int .i64 D.kind, .int .i64 D.num, .string D.name, .slice vd D.args.length cd] 24)))
  have LL1 := Lib.hid (LL1.out.below (al0 X (.cells #[.int .i64 A.kind, .int .i64 A.num, .string A.name, .slice va A.args.length ca, .int .i64 D.kind, .int .i64 D.num, .string D.name, .slice vd D.args.length cd] 24)))
  have LL2 := Lib.hid (LL2.out.below (al0 X (.cells #[.int .i64 A.kind, .int .i64 A.num, .string A.name, .slice va A.args.length ca, .int .i64 D.kind, .int .i64 D.num, .string D.name, .slice vd D.args.length cd] 24)))
  have BB := Lib.hid (BB.out.alloc BB.out.size (.cells #[.int .i64 A.kind, .int .i64 A.num, .string A.name, .slice va A.args.length ca, .int .i64 D.kind, .int .i64 D.num, .string D.name, .slice vd D.args.length cd] 24))
  refine (f_any _ _ _ _ _).mono ?_
  rintro e w1 ⟨rfl, hb1⟩
  have LQT := Lib.hid (LS.out _ hb1)
  have RR3 := Lib.hid (RR3.out.below hb1)
  have RR4 := Lib.hid (RR4.out.below hb1)
  have LL1 := Lib.hid (LL1.out.below hb1)
  have LL2 := Lib.hid (LL2.out.below hb1)
  have BB := Lib.hid (BB.out.trans (hb1.mono BB.out.size))
  clear hb1
  clear LS
  obtain ⟨gs, hgs⟩ : ∃ g, X.heap.size = g := ⟨_, rfl⟩
  rw [hgs] at LQT ⊢
  clear hgs
  have RR3 := Lib.hid (RR3.out.below (al0 w1 (.cells #[.int .i64 3, .int .i64 0, .string ⟨#[47]⟩, .slice (some ⟨gs, 0, none⟩) 2 2] 24)))
  have RR4 := Lib.hid (RR4.out.below (al0 w1 (.cells #[.int .i64 3, .int .i64 0, .string ⟨#[47]⟩, .slice (some ⟨gs, 0, none⟩) 2 2] 24)))
  have LL1 := Lib.hid (LL1.out.below (al0 w1 (.cells #[.int .i64 3, .int .i64 0, .string ⟨#[47]⟩, .slice (some ⟨gs, 0, none⟩) 2 2] 24)))
  have LL2 := Lib.hid (LL2.out.below (al0 w1 (.cells #[.int .i64 3, .int .i64 0, .string ⟨#[47]⟩, .slice (some ⟨gs, 0, none⟩) 2 2] 24)))
  have LQT := Lib.hid (LQT.out.below (al0 w1 (.cells #[.int .i64 3, .int .i64 0, .string ⟨#[47]⟩, .slice (some ⟨gs, 0, none⟩) 2 2] 24)))
  have BB := Lib.hid (BB.out.alloc BB.out.size (.cells #[.int .i64 3, .int .i64 0, .string ⟨#[47]⟩, .slice (some ⟨gs, 0, none⟩) 2 2] 24))
  have R5 : Hid (RowT (w1.alloc (.cells #[.int .i64 3, .int .i64 0, .string ⟨#[47]⟩, .slice (some ⟨gs, 0, none⟩) 2 2] 24)) w1.heap.size (.mk 3 0 ⟨#[47]⟩ [A, D]) (.slice (some ⟨gs, 0, none⟩) 2 2)) := Lib.hid (RowT.new w1 (.mk 3 0 ⟨#[47]⟩ [A, D]) (.slice (some ⟨gs, 0, none⟩) 2 2))
  cases hv : validB (.mk 3 0 ⟨#[47]⟩ [A, D])
  · skip
    go_wp2_with fail
    refine (valid_is (.mk 3 0 ⟨#[47]⟩ [A, D]) _ false hv _ LQT.out).mono ?_
    rintro e w2 ⟨rfl, hb2⟩
    have RR3 := Lib.hid (RR3.out.below hb2)
    have RR4 := Lib.hid (RR4.out.below hb2)
    have R5 := Lib.hid (R5.out.below hb2)
    have LL1 := Lib.hid (LL1.out.below hb2)
    have LL2 := Lib.hid (LL2.out.below hb2)
    have LQT := Lib.hid (LQT.out.below hb2)
    have BB := Lib.hid (BB.out.trans (hb2.mono BB.out.size))
    clear hb2
    go_wp2_with fail
    refine (awake_any _).mono ?_
    rintro e w3 ⟨rfl, hb3⟩
    have RR3 := Lib.hid (RR3.out.below hb3)
    have RR4 := Lib.hid (RR4.out.below hb3)
    have R5 := Lib.hid (R5.out.below hb3)
    have LL1 := Lib.hid (LL1.out.below hb3)
    have LL2 := Lib.hid (LL2.out.below hb3)
    have LQT := Lib.hid (LQT.out.below hb3)
    have BB := Lib.hid (BB.out.trans (hb3.mono BB.out.size))
    clear hb3
    go_wp2_with fail
    go_ret
    exact ⟨rfl, BB.out⟩
  · skip
    obtain ⟨hC, hVA, hVD⟩ := ind_facts hv
    obtain ⟨hB, hO, hS, hN⟩ := ind_vals hv
    have HV := Lib.hid hv
    have VA := Lib.hid hVA
    have VD := Lib.hid hVD
    obtain ⟨RB, hRB⟩ : ∃ r, indB (.mk 3 0 ⟨#[47]⟩ [A, D]) = r := ⟨_, rfl⟩
    obtain ⟨RO, hRO⟩ : ∃ r, indO (.mk 3 0 ⟨#[47]⟩ [A, D]) = r := ⟨_, rfl⟩
    obtain ⟨RS, hRS⟩ : ∃ r, indS (.mk 3 0 ⟨#[47]⟩ [A, D]) = r := ⟨_, rfl⟩
    obtain ⟨RN, hRN⟩ : ∃ r, indN (.mk 3 0 ⟨#[47]⟩ [A, D]) = r := ⟨_, rfl⟩
    have HIN : Hid (∀ w0, LiesT w0 (.mk 3 0 ⟨#[47]⟩ [A, D]) (.slice (some ⟨gs, 0, none⟩) 2 2) → Calls Try.prog 49 #[tv (.mk 3 0 ⟨#[47]⟩ [A, D]) (.slice (some ⟨gs, 0, none⟩) 2 2)] w0 (Chk2 (.string RS) (.int .i64 RN) RB RO w0)) := Lib.hid (fun w0 h => by rw [← hRB, ← hRO, ← hRS, ← hRN]; exact Indicator_any (.mk 3 0 ⟨#[47]⟩ [A, D]) _ w0 h)
    have VB : Hid (validB RB = true) := Lib.hid (by rw [← hRB]; exact indB_valid _)
    rw [hRB] at hB
    rw [hRO] at hO hS hN
    rw [hRS] at hS
    rw [hRN] at hN
    have HB := Lib.hid hB
    have HO := Lib.hid hO
    have HS := Lib.hid hS
    have HN := Lib.hid hN
    clear hv hC hVA hVD hB hO hS hN hRB hRO hRS hRN
    go_wp2_with fail
    refine (valid_is (.mk 3 0 ⟨#[47]⟩ [A, D]) _ true HV.out _ LQT.out).mono ?_
    rintro e w2 ⟨rfl, hb2⟩
    have RR3 := Lib.hid (RR3.out.below hb2)
    have RR4 := Lib.hid (RR4.out.below hb2)
    have R5 := Lib.hid (R5.out.below hb2)
    have LL1 := Lib.hid (LL1.out.below hb2)
    have LL2 := Lib.hid (LL2.out.below hb2)
    have LQT := Lib.hid (LQT.out.below hb2)
    have BB := Lib.hid (BB.out.trans (hb2.mono BB.out.size))
    clear hb2
    obtain ⟨xR5_0, xR5_1, xR5_2, xR5_3⟩ : w2.cell? ⟨w1.heap.size, 0, none⟩ = some (.int .i64 3) ∧ w2.cell? ⟨w1.heap.size, 1, none⟩ = some (.int .i64 0) ∧ w2.cell? ⟨w1.heap.size, 2, none⟩ = some (.string ⟨#[47]⟩) ∧ w2.cell? ⟨w1.heap.size, 3, none⟩ = some (.slice (some ⟨gs, 0, none⟩) 2 2) := R5.out.cells
    go_wp2_with fail
    refine (HIN.out _ LQT.out).mono ?_
    rintro e w3 ⟨yB, rfl, hyB, hb3⟩
    clear xR5_0 xR5_1 xR5_2 xR5_3
    have RR3 := Lib.hid (RR3.out.below hb3)
    have RR4 := Lib.hid (RR4.out.below hb3)
    have R5 := Lib.hid (R5.out.below hb3)
    have LL1 := Lib.hid (LL1.out.below hb3)
    have LL2 := Lib.hid (LL2.out.below hb3)
    have LQT := Lib.hid (LQT.out.below hb3)
    have BB := Lib.hid (BB.out.trans (hb3.mono BB.out.size))
    obtain ⟨ab, cb, rfl⟩ := hyB.slice
    have LL5 := Lib.hid (OwnT.lies _ _ hyB)
    clear hyB HIN
    clear hb3
    clear R5 LQT
    have RR3 := Lib.hid (RR3.out.below (al0 w3 (.cells #[.int .i64 RB.kind, .int .i64 RB.num, .string RB.name, .slice ab RB.args.length cb] 24)))
    have RR4 := Lib.hid (RR4.out.below (al0 w3 (.cells #[.int .i64 RB.kind, .int .i64 RB.num, .string RB.name, .slice ab RB.args.length cb] 24)))
    have LL1 := Lib.hid (LL1.out.below (al0 w3 (.cells #[.int .i64 RB.kind, .int .i64 RB.num, .string RB.name, .slice ab RB.args.length cb] 24)))
    have LL2 := Lib.hid (LL2.out.below (al0 w3 (.cells #[.int .i64 RB.kind, .int .i64 RB.num, .string RB.name, .slice ab RB.args.length cb] 24)))
    have LL5 := Lib.hid (LL5.out.below (al0 w3 (.cells #[.int .i64 RB.kind, .int .i64 RB.num, .string RB.name, .slice ab RB.args.length cb] 24)))
    have RR6 := Lib.hid (RowT.new w3 RB (.slice ab RB.args.length cb))
    have BB := Lib.hid (BB.out.alloc BB.out.size (.cells #[.int .i64 RB.kind, .int .i64 RB.num, .string RB.name, .slice ab RB.args.length cb] 24))
    go_wp2_with fail
    refine (a_any _ _).mono ?_
    rintro e w4 ⟨rfl, hb4⟩
    have RR3 := Lib.hid (RR3.out.below hb4)
    have RR4 := Lib.hid (RR4.out.below hb4)
    have RR6 := Lib.hid (RR6.out.below hb4)
    have LL1 := Lib.hid (LL1.out.below hb4)
    have LL2 := Lib.hid (LL2.out.below hb4)
    have LL5 := Lib.hid (LL5.out.below hb4)
    have BB := Lib.hid (BB.out.trans (hb4.mono BB.out.size))
    clear hb4
    go_wp2_with fail
    refine (error1_any (atmT ⟨#[105, 110, 115, 116, 97, 110, 116, 105, 97, 116, 105, 111, 110, 95, 101, 114, 114, 111, 114]⟩) _ _ (atom_lies (by simp [ByteArray.size]))).mono ?_
    rintro e w5 ⟨yW, rfl, hyW, hb5⟩
    have RR3 := Lib.hid (RR3.out.below hb5)
    have RR4 := Lib.hid (RR4.out.below hb5)
    have RR6 := Lib.hid (RR6.out.below hb5)
    have LL1 := Lib.hid (LL1.out.below hb5)
    have LL2 := Lib.hid (LL2.out.below hb5)
    have LL5 := Lib.hid (LL5.out.below hb5)
    have BB := Lib.hid (BB.out.trans (hb5.mono BB.out.size))
    obtain ⟨WI, hWI⟩ : ∃ W, errT (atmT ⟨#[105, 110, 115, 116, 97, 110, 116, 105, 97, 116, 105, 111, 110, 95, 101, 114, 114, 111, 114]⟩) = W := ⟨_, rfl⟩
    rw [hWI] at hyW ⊢
    obtain ⟨aw, cw, rfl⟩ := hyW.slice
    have LL7 := Lib.hid (hyW)
    have HWI := Lib.hid hWI
    clear hyW hWI
    clear hb5
    have S0 := Lib.hid (al0 w5 (.cells #[.int .i64 WI.kind, .int .i64 WI.num, .string WI.name, .slice aw WI.args.length cw] 24))
    have R10 := Lib.hid (RowT.new w5 WI (.slice aw WI.args.length cw))
    have LW0 := Lib.hid (LL7.out.below (al0 w5 (.cells #[.int .i64 WI.kind, .int .i64 WI.num, .string WI.name, .slice aw WI.args.length cw] 24)))
    have RA0 := Lib.hid (RR3.out.below (al0 w5 (.cells #[.int .i64 WI.kind, .int .i64 WI.num, .string WI.name, .slice aw WI.args.length cw] 24)))
    have RD0 := Lib.hid (RR4.out.below (al0 w5 (.cells #[.int .i64 WI.kind, .int .i64 WI.num, .string WI.name, .slice aw WI.args.length cw] 24)))
    have LAK := LL1
    have LDK := LL2
    have BBK := BB
    have R8K := RR6
    have LBK := LL5
    have NE10 : Hid (w.heap.size + 1 ≠ w5.heap.size) := Lib.hid (by have h := RR4.out.lt; omega)
    rcases Bool.eq_false_or_eq_true (A.kind == 0) with ha | ha
    · have hd : ((A.kind == 0) || (D.kind == 0)) = true := by rw [ha]; rfl
      obtain rfl : RO = false := by rw [HO.out, hd]; rfl
      obtain rfl : RB = WI := by rw [HB.out, if_pos hd, ← HWI.out]; exact inst_err
      obtain rfl : RS = ⟨#[]⟩ := by rw [HS.out]; rfl
      obtain rfl : RN = 0 := by rw [HN.out]; rfl
      obtain ⟨p0, p1, p2, p3⟩ := RA0.out.cells
      obtain ⟨q0, q1, q2, q3⟩ := RD0.out.cells
      have R8z := Lib.hid (R8K.out.below S0.out)
      have LBz := Lib.hid (LBK.out.below S0.out)
      have BBz := Lib.hid (BBK.out.trans (S0.out.mono BBK.out.size))
      obtain ⟨m0, m1, m2, m3⟩ := R8z.out.cells
      obtain ⟨n0, n1, n2, n3⟩ := R10.out.cells
      go_wp2_with fail
      refine (lsame_self RB _ _ _ VB.out LBz.out LW0.out).mono ?_
      rintro e w91 ⟨rfl, hb91⟩
      have B91 := Lib.hid (BBz.out.trans (hb91.mono BBz.out.size))
      clear m0 m1 m2 m3 n0 n1 n2 n3
      go_wp2_with fail
      refine (awake_any _).mono ?_
      rintro e w92 ⟨rfl, hb92⟩
      go_wp2_with fail
      go_ret
      exact ⟨rfl, B91.out.trans (hb92.mono B91.out.size)⟩
    · rcases Bool.eq_false_or_eq_true (D.kind == 0) with hd0 | hd0
      · have hd : ((A.kind == 0) || (D.kind == 0)) = true := by rw [ha, hd0]; rfl
        obtain rfl : RO = false := by rw [HO.out, hd]; rfl
        obtain rfl : RB = WI := by rw [HB.out, if_pos hd, ← HWI.out]; exact inst_err
        obtain rfl : RS = ⟨#[]⟩ := by rw [HS.out]; rfl
        obtain rfl : RN = 0 := by rw [HN.out]; rfl
        obtain ⟨p0, p1, p2, p3⟩ := RA0.out.cells
        obtain ⟨q0, q1, q2, q3⟩ := RD0.out.cells
        have R8z := Lib.hid (R8K.out.below S0.out)
        have LBz := Lib.hid (LBK.out.below S0.out)
        have BBz := Lib.hid (BBK.out.trans (S0.out.mono BBK.out.size))
        obtain ⟨m0, m1, m2, m3⟩ := R8z.out.cells
        obtain ⟨n0, n1, n2, n3⟩ := R10.out.cells
        go_wp2_with fail
        refine (lsame_self RB _ _ _ VB.out LBz.out LW0.out).mono ?_
        rintro e w91 ⟨rfl, hb91⟩
        have B91 := Lib.hid (BBz.out.trans (hb91.mono BBz.out.size))
        clear m0 m1 m2 m3 n0 n1 n2 n3
        go_wp2_with fail
        refine (awake_any _).mono ?_
        rintro e w92 ⟨rfl, hb92⟩
        go_wp2_with fail
        go_ret
        exact ⟨rfl, B91.out.trans (hb92.mono B91.out.size)⟩
      · have hd : ((A.kind == 0) || (D.kind == 0)) = false := by rw [ha, hd0]; rfl
        have HOV2 : Hid (RO = (chkO A (A.kind == 2) && arO D)) := Lib.hid (by rw [HO.out, hd]; rfl)
        have HBV2 : Hid (RB = if chkO A (A.kind == 2) = true then arB D else chkB A ⟨#[97, 116, 111, 109]⟩ (A.kind == 2)) := Lib.hid (by rw [HB.out, hd]; rfl)
        obtain ⟨p0, p1, p2, p3⟩ := RA0.out.cells
        obtain ⟨q0, q1, q2, q3⟩ := RD0.out.cells
        clear HO HB hd
        rcases Bool.eq_false_or_eq_true (A.kind == 2) with ha2 | ha2
        rotate_left
        · have hc : chkO A (A.kind == 2) = false := by unfold chkO; rw [ha2]; simp
          have h9 : (A.kind != 2) = true := by simp [bne, ha2]
          obtain rfl : RO = false := by rw [HOV2.out, hc]; rfl
          obtain rfl : RB = typeT ⟨#[97, 116, 111, 109]⟩ A := by rw [HBV2.out, hc, ha2]; unfold chkB; rw [if_neg (by simp), if_pos VA.out, if_neg (by rw [ha]; simp), if_neg (by simp)]
          obtain rfl : RS = ⟨#[]⟩ := by rw [HS.out]; rfl
          obtain rfl : RN = 0 := by rw [HN.out]; rfl
          have HC1 : Hid (∀ w0, Below w5.heap.size w5 w0 → Calls Try.prog 14 #[.string ⟨#[97, 116, 111, 109]⟩, tv A (.slice va A.args.length ca)] w0 (MadeEnd (typeT ⟨#[97, 116, 111, 109]⟩ A) w0)) := Lib.hid (fun w0 hb => Type_any A _ ⟨#[97, 116, 111, 109]⟩ w0 (LAK.out.below hb) (by simp [ByteArray.size]))
          clear hc
          go_wp2_with fail
          refine (HC1.out _ S0.out).mono ?_
          rintro e w80 ⟨y, rfl, hy, hb80⟩
          obtain ⟨ya, yc, rfl⟩ := hy.slice
          have S1 := Lib.hid (S0.out.trans (hb80.mono S0.out.size))
          have T10 := Lib.hid (R10.out.below hb80)
          have HY := Lib.hid hy
          clear hb80 hy p0 p1 p2 p3 q0 q1 q2 q3
          obtain ⟨c0, c1, c2, c3⟩ := T10.out.cells
          obtain ⟨f0, f1, f2, f3⟩ := T10.out.froz
          go_upto_region 16 with fail
          have S2 : Hid (Below w5.heap.size w5 ((((w80.setCell ⟨w5.heap.size, 0, none⟩ (.int .i64 (typeT ⟨#[97, 116, 111, 109]⟩ A).kind)).setCell ⟨w5.heap.size, 1, none⟩ (.int .i64 (typeT ⟨#[97, 116, 111, 109]⟩ A).num)).setCell ⟨w5.heap.size, 2, none⟩ (.string (typeT ⟨#[97, 116, 111, 109]⟩ A).name)).setCell ⟨w5.heap.size, 3, none⟩ (.slice ya (typeT ⟨#[97, 116, 111, 109]⟩ A).args.length yc))) := Lib.hid ((four T10.out _ _ _ _).2.2.2 _ _ (Nat.le_refl _) S1.out)
          have T10Z : Hid (RowT ((((w80.setCell ⟨w5.heap.size, 0, none⟩ (.int .i64 (typeT ⟨#[97, 116, 111, 109]⟩ A).kind)).setCell ⟨w5.heap.size, 1, none⟩ (.int .i64 (typeT ⟨#[97, 116, 111, 109]⟩ A).num)).setCell ⟨w5.heap.size, 2, none⟩ (.string (typeT ⟨#[97, 116, 111, 109]⟩ A).name)).setCell ⟨w5.heap.size, 3, none⟩ (.slice ya (typeT ⟨#[97, 116, 111, 109]⟩ A).args.length yc)) w5.heap.size (typeT ⟨#[97, 116, 111, 109]⟩ A) (.slice ya (typeT ⟨#[97, 116, 111, 109]⟩ A).args.length yc)) := Lib.hid (T10.out.put (typeT ⟨#[97, 116, 111, 109]⟩ A) (.slice ya (typeT ⟨#[97, 116, 111, 109]⟩ A).args.length yc))
          have LQ : Hid (LiesT ((((w80.setCell ⟨w5.heap.size, 0, none⟩ (.int .i64 (typeT ⟨#[97, 116, 111, 109]⟩ A).kind)).setCell ⟨w5.heap.size, 1, none⟩ (.int .i64 (typeT ⟨#[97, 116, 111, 109]⟩ A).num)).setCell ⟨w5.heap.size, 2, none⟩ (.string (typeT ⟨#[97, 116, 111, 109]⟩ A).name)).setCell ⟨w5.heap.size, 3, none⟩ (.slice ya (typeT ⟨#[97, 116, 111, 109]⟩ A).args.length yc)) (typeT ⟨#[97, 116, 111, 109]⟩ A) (.slice ya (typeT ⟨#[97, 116, 111, 109]⟩ A).args.length yc)) := Lib.hid (OwnT.lies (S := fun b => w5.heap.size < b) _ _ (HY.out.keep (fun b hb => (four T10.out _ _ _ _).2.1 b (by have h1 := hb.1; have h2 := (al0 w5 (.cells #[.int .i64 WI.kind, .int .i64 WI.num, .string WI.name, .slice aw WI.args.length cw] 24)).size; have h3 := R10.out.lt; omega)) (fun b hb _ => by have h1 := hb.1; have h3 := R10.out.lt; omega)))
          generalize ((((w80.setCell ⟨w5.heap.size, 0, none⟩ (.int .i64 (typeT ⟨#[97, 116, 111, 109]⟩ A).kind)).setCell ⟨w5.heap.size, 1, none⟩ (.int .i64 (typeT ⟨#[97, 116, 111, 109]⟩ A).num)).setCell ⟨w5.heap.size, 2, none⟩ (.string (typeT ⟨#[97, 116, 111, 109]⟩ A).name)).setCell ⟨w5.heap.size, 3, none⟩ (.slice ya (typeT ⟨#[97, 116, 111, 109]⟩ A).args.length yc)) = Z at *
          have LBz := Lib.hid (LBK.out.below S2.out)
          have BBz := Lib.hid (BBK.out.trans (S2.out.mono BBK.out.size))
          clear c0 c1 c2 c3 f0 f1 f2 f3
          obtain ⟨m0, m1, m2, m3⟩ := (R8K.out.below S2.out).cells
          obtain ⟨n0, n1, n2, n3⟩ := T10Z.out.cells
          go_wp2_with fail
          clear m0 m1 m2 m3 n0 n1 n2 n3
          refine (lsame_self _ _ _ _ VB.out LBz.out LQ.out).mono ?_
          rintro e w91 ⟨rfl, hb91⟩
          have B91 := Lib.hid (BBz.out.trans (hb91.mono BBz.out.size))
          go_wp2_with fail
          refine (awake_any _).mono ?_
          rintro e w92 ⟨rfl, hb92⟩
          go_wp2_with fail
          go_ret
          exact ⟨rfl, B91.out.trans (hb92.mono B91.out.size)⟩
        · have h9 : (A.kind != 2) = false := by simp [bne, ha2]
          have hc : chkO A (A.kind == 2) = true := by unfold chkO; rw [VA.out, ha2]; simp [bne, ha]
          have HBV3 : Hid (RB = arB D) := Lib.hid (by rw [HBV2.out, hc]; rfl)
          have HOV3 : Hid (RO = arO D) := Lib.hid (by rw [HOV2.out, hc]; rfl)
          clear HOV2 HBV2 hc
          rcases Bool.eq_false_or_eq_true (D.kind == 1) with hd1 | hd1
          rotate_left
          · have hc : chkO D (D.kind == 1) = false := by unfold chkO; rw [hd1]; simp
            have h10 : (D.kind != 1) = true := by simp [bne, hd1]
            obtain rfl : RO = false := by rw [HOV3.out]; unfold arO; rw [hc]; rfl
            obtain rfl : RB = typeT ⟨#[105, 110, 116, 101, 103, 101, 114]⟩ D := by rw [HBV3.out]; unfold arB; rw [hc, hd1]; unfold chkB; rw [if_neg (by simp), if_pos VD.out, if_neg (by rw [hd0]; simp), if_neg (by simp)]
            obtain rfl : RS = ⟨#[]⟩ := by rw [HS.out]; rfl
            obtain rfl : RN = 0 := by rw [HN.out]; rfl
            have HC1 : Hid (∀ w0, Below w5.heap.size w5 w0 → Calls Try.prog 14 #[.string ⟨#[105, 110, 116, 101, 103, 101, 114]⟩, tv D (.slice vd D.args.length cd)] w0 (MadeEnd (typeT ⟨#[105, 110, 116, 101, 103, 101, 114]⟩ D) w0)) := Lib.hid (fun w0 hb => Type_any D _ ⟨#[105, 110, 116, 101, 103, 101, 114]⟩ w0 (LDK.out.below hb) (by simp [ByteArray.size]))
            clear hc
            go_wp2_with fail
            refine (HC1.out _ S0.out).mono ?_
            rintro e w80 ⟨y, rfl, hy, hb80⟩
            obtain ⟨ya, yc, rfl⟩ := hy.slice
            have S1 := Lib.hid (S0.out.trans (hb80.mono S0.out.size))
            have T10 := Lib.hid (R10.out.below hb80)
            have HY := Lib.hid hy
            clear hb80 hy p0 p1 p2 p3 q0 q1 q2 q3
            obtain ⟨c0, c1, c2, c3⟩ := T10.out.cells
            obtain ⟨f0, f1, f2, f3⟩ := T10.out.froz
            go_upto_region 16 with fail
            have S2 : Hid (Below w5.heap.size w5 ((((w80.setCell ⟨w5.heap.size, 0, none⟩ (.int .i64 (typeT ⟨#[105, 110, 116, 101, 103, 101, 114]⟩ D).kind)).setCell ⟨w5.heap.size, 1, none⟩ (.int .i64 (typeT ⟨#[105, 110, 116, 101, 103, 101, 114]⟩ D).num)).setCell ⟨w5.heap.size, 2, none⟩ (.string (typeT ⟨#[105, 110, 116, 101, 103, 101, 114]⟩ D).name)).setCell ⟨w5.heap.size, 3, none⟩ (.slice ya (typeT ⟨#[105, 110, 116, 101, 103, 101, 114]⟩ D).args.length yc))) := Lib.hid ((four T10.out _ _ _ _).2.2.2 _ _ (Nat.le_refl _) S1.out)
            have T10Z : Hid (RowT ((((w80.setCell ⟨w5.heap.size, 0, none⟩ (.int .i64 (typeT ⟨#[105, 110, 116, 101, 103, 101, 114]⟩ D).kind)).setCell ⟨w5.heap.size, 1, none⟩ (.int .i64 (typeT ⟨#[105, 110, 116, 101, 103, 101, 114]⟩ D).num)).setCell ⟨w5.heap.size, 2, none⟩ (.string (typeT ⟨#[105, 110, 116, 101, 103, 101, 114]⟩ D).name)).setCell ⟨w5.heap.size, 3, none⟩ (.slice ya (typeT ⟨#[105, 110, 116, 101, 103, 101, 114]⟩ D).args.length yc)) w5.heap.size (typeT ⟨#[105, 110, 116, 101, 103, 101, 114]⟩ D) (.slice ya (typeT ⟨#[105, 110, 116, 101, 103, 101, 114]⟩ D).args.length yc)) := Lib.hid (T10.out.put (typeT ⟨#[105, 110, 116, 101, 103, 101, 114]⟩ D) (.slice ya (typeT ⟨#[105, 110, 116, 101, 103, 101, 114]⟩ D).args.length yc))
            have LQ : Hid (LiesT ((((w80.setCell ⟨w5.heap.size, 0, none⟩ (.int .i64 (typeT ⟨#[105, 110, 116, 101, 103, 101, 114]⟩ D).kind)).setCell ⟨w5.heap.size, 1, none⟩ (.int .i64 (typeT ⟨#[105, 110, 116, 101, 103, 101, 114]⟩ D).num)).setCell ⟨w5.heap.size, 2, none⟩ (.string (typeT ⟨#[105, 110, 116, 101, 103, 101, 114]⟩ D).name)).setCell ⟨w5.heap.size, 3, none⟩ (.slice ya (typeT ⟨#[105, 110, 116, 101, 103, 101, 114]⟩ D).args.length yc)) (typeT ⟨#[105, 110, 116, 101, 103, 101, 114]⟩ D) (.slice ya (typeT ⟨#[105, 110, 116, 101, 103, 101, 114]⟩ D).args.length yc)) := Lib.hid (OwnT.lies (S := fun b => w5.heap.size < b) _ _ (HY.out.keep (fun b hb => (four T10.out _ _ _ _).2.1 b (by have h1 := hb.1; have h2 := (al0 w5 (.cells #[.int .i64 WI.kind, .int .i64 WI.num, .string WI.name, .slice aw WI.args.length cw] 24)).size; have h3 := R10.out.lt; omega)) (fun b hb _ => by have h1 := hb.1; have h3 := R10.out.lt; omega)))
            generalize ((((w80.setCell ⟨w5.heap.size, 0, none⟩ (.int .i64 (typeT ⟨#[105, 110, 116, 101, 103, 101, 114]⟩ D).kind)).setCell ⟨w5.heap.size, 1, none⟩ (.int .i64 (typeT ⟨#[105, 110, 116, 101, 103, 101, 114]⟩ D).num)).setCell ⟨w5.heap.size, 2, none⟩ (.string (typeT ⟨#[105, 110, 116, 101, 103, 101, 114]⟩ D).name)).setCell ⟨w5.heap.size, 3, none⟩ (.slice ya (typeT ⟨#[105, 110, 116, 101, 103, 101, 114]⟩ D).args.length yc)) = Z at *
            have LBz := Lib.hid (LBK.out.below S2.out)
            have BBz := Lib.hid (BBK.out.trans (S2.out.mono BBK.out.size))
            clear c0 c1 c2 c3 f0 f1 f2 f3
            obtain ⟨m0, m1, m2, m3⟩ := (R8K.out.below S2.out).cells
            obtain ⟨n0, n1, n2, n3⟩ := T10Z.out.cells
            go_wp2_with fail
            clear m0 m1 m2 m3 n0 n1 n2 n3
            refine (lsame_self _ _ _ _ VB.out LBz.out LQ.out).mono ?_
            rintro e w91 ⟨rfl, hb91⟩
            have B91 := Lib.hid (BBz.out.trans (hb91.mono BBz.out.size))
            go_wp2_with fail
            refine (awake_any _).mono ?_
            rintro e w92 ⟨rfl, hb92⟩
            go_wp2_with fail
            go_ret
            exact ⟨rfl, B91.out.trans (hb92.mono B91.out.size)⟩
          · have h10 : (D.kind != 1) = false := by simp [bne, hd1]
            have hc : chkO D (D.kind == 1) = true := by unfold chkO; rw [VD.out, hd1]; simp [bne, hd0]
            obtain ⟨n, hn⟩ : ∃ n, D.num = n := ⟨_, rfl⟩
            have HBV4 : Hid (RB = if n < 0 then withT D ⟨#[100, 111, 109, 97, 105, 110, 95, 101, 114, 114, 111, 114]⟩ [⟨#[110, 111, 116, 95, 108, 101, 115, 115, 95, 116, 104, 97, 110, 95, 122, 101, 114, 111]⟩] else if 8 < n then reprT ⟨#[109, 97, 120, 95, 97, 114, 105, 116, 121]⟩ else z0) := Lib.hid (by rw [HBV3.out]; unfold arB; rw [hc, hn, if_pos rfl])
            have HOV4 : Hid (RO = decide (0 ≤ n ∧ n ≤ 8)) := Lib.hid (by rw [HOV3.out]; unfold arO; rw [hc, hn]; rfl)
            have HNV4 : Hid (RN = if RO = true then n else 0) := Lib.hid (by rw [HN.out, hn])
            have HDE : Hid (withT D ⟨#[100, 111, 109, 97, 105, 110, 95, 101, 114, 114, 111, 114]⟩ [⟨#[110, 111, 116, 95, 108, 101, 115, 115, 95, 116, 104, 97, 110, 95, 122, 101, 114, 111]⟩] = errT (.mk 3 0 ⟨#[100, 111, 109, 97, 105, 110, 95, 101, 114, 114, 111, 114]⟩ [atmT ⟨#[110, 111, 116, 95, 108, 101, 115, 115, 95, 116, 104, 97, 110, 95, 122, 101, 114, 111]⟩, D])) := Lib.hid (dom_err VD.out hd1)
            rw [hn] at q1
            have HNQ := Lib.hid hn
            clear hc HBV3 HOV3 HN hn
            rcases Int.lt_or_le n 0 with hlo | hlo
            · have d1 : decide (n < 0) = true := by simpa using hlo
              obtain rfl : RO = false := by rw [HOV4.out, decide_eq_false (by omega)]
              have HQ : Hid (errT (.mk 3 0 ⟨#[100, 111, 109, 97, 105, 110, 95, 101, 114, 114, 111, 114]⟩ [atmT ⟨#[110, 111, 116, 95, 108, 101, 115, 115, 95, 116, 104, 97, 110, 95, 122, 101, 114, 111]⟩, D]) = RB) := Lib.hid (by rw [HBV4.out, if_pos hlo, HDE.out])
              obtain rfl : RS = ⟨#[]⟩ := by rw [HS.out]; rfl
              obtain rfl : RN = 0 := by rw [HNV4.out]; rfl
              clear HBV4 HOV4 HNV4 HDE
              obtain rfl := HNQ.out
              go_wp2_with fail
              clear p0 p1 p2 p3 q0 q1 q2 q3
              obtain ⟨W0, hW0⟩ : ∃ W, w5.alloc (.cells #[.int .i64 WI.kind, .int .i64 WI.num, .string WI.name, .slice aw WI.args.length cw] 24) = W := ⟨_, rfl⟩
              rw [hW0] at S0 R10 RD0 ⊢
              clear hW0
              have LD0 := Lib.hid (LDK.out.below S0.out)
              obtain ⟨q0, q1, q2, q3⟩ := RD0.out.cells
              have hS0 : Below W0.heap.size W0 W0.drew := (Below.refl _ _).drew
              have HSS : Hid (∀ w', Below W0.heap.size W0 w' → (fun w' => w'.cell? ⟨w.heap.size + 1, 0, none⟩ = some (.int .i64 D.kind) ∧ w'.cell? ⟨w.heap.size + 1, 1, none⟩ = some (.int .i64 D.num) ∧ w'.cell? ⟨w.heap.size + 1, 2, none⟩ = some (.string D.name) ∧ w'.cell? ⟨w.heap.size + 1, 3, none⟩ = some (.slice vd D.args.length cd)) w') := Lib.hid (fun w' h => (RD0.out.below h).cells)
              go_region_held3 (fun w' => w'.cell? ⟨w.heap.size + 1, 0, none⟩ = some (.int .i64 D.kind) ∧ w'.cell? ⟨w.heap.size + 1, 1, none⟩ = some (.int .i64 D.num) ∧ w'.cell? ⟨w.heap.size + 1, 2, none⟩ = some (.string D.name) ∧ w'.cell? ⟨w.heap.size + 1, 3, none⟩ = some (.slice vd D.args.length cd))
                (first | exact HS9 | exact HSS.out _ h7 | exact HSS.out _ h6 | exact HSS.out _ h5 | exact HSS.out _ (h5.alloc h5.size _) | exact HSS.out _ hS0 | go_keep)
                (first
                  | (go_at_call 53; ((with_reducible refine (a_any _ _).mono ?_); rintro e w6 ⟨rfl, hb6⟩; have h5 : Below W0.heap.size W0 w6 := hS0.trans (hb6.mono hS0.size)))
                  | (go_at_call 58; refine (f_any _ _ _ _ _).mono ?_; rintro e w7 ⟨rfl, hb7⟩; have h6 : Below W0.heap.size W0 w7 := h5.trans ((al hb7).mono h5.size); have G7 : Hid (w7.heap[w6.heap.size]? = some (.cells (flat [(atmT ⟨#[110, 111, 116, 95, 108, 101, 115, 115, 95, 116, 104, 97, 110, 95, 122, 101, 114, 111]⟩, .slice none 0 0), (D, .slice vd D.args.length cd)]).toArray 24 (0, 0))) := Lib.hid ((hb7.block w6.heap.size (by simp)).trans (heap_alloc_new _ _)); have LT : Hid (LiesT w7 (.mk 3 0 ⟨#[100, 111, 109, 97, 105, 110, 95, 101, 114, 114, 111, 114]⟩ [atmT ⟨#[110, 111, 116, 95, 108, 101, 115, 115, 95, 116, 104, 97, 110, 95, 122, 101, 114, 111]⟩, D]) (.slice (some ⟨w6.heap.size, 0, none⟩) 2 2)) := Lib.hid ((struct_lies (nm := ⟨#[100, 111, 109, 97, 105, 110, 95, 101, 114, 114, 111, 114]⟩) (by simp [ByteArray.size]) (lies_new (w := w6) (g := w6.heap.size) (ty := 24) rfl [(atmT ⟨#[110, 111, 116, 95, 108, 101, 115, 115, 95, 116, 104, 97, 110, 95, 122, 101, 114, 111]⟩, .slice none 0 0), (D, .slice vd D.args.length cd)] (by simp only [EnvT]; exact ⟨atom_lies (by simp [ByteArray.size]), LD0.out.below h5, trivial⟩) (by simp))).below hb7); have G8L : Hid (w5.heap.size < w6.heap.size) := Lib.hid (by have h1 := R10.out.lt; have h2 := h5.size; omega); have G7L : Hid (w6.heap.size < w7.heap.size) := Lib.hid ((Array.getElem?_eq_some_iff.1 G7.out).1))
                  | (go_at_call 56; refine (error1_x (.mk 3 0 ⟨#[100, 111, 109, 97, 105, 110, 95, 101, 114, 114, 111, 114]⟩ [atmT ⟨#[110, 111, 116, 95, 108, 101, 115, 115, 95, 116, 104, 97, 110, 95, 122, 101, 114, 111]⟩, D]) (.slice (some ⟨w6.heap.size, 0, none⟩) 2 2) _ RB LT.out HQ.out).mono ?_; rintro e w8 ⟨y, rfl, hyl, hb8, hx8⟩; obtain ⟨ya, yc, rfl⟩ := hyl.slice; have h7 : Below W0.heap.size W0 w8 := h6.trans (hb8.mono h6.size); have S1 : Hid (Below w5.heap.size w5 w8) := Lib.hid (S0.out.trans (h7.mono S0.out.size)); have T10 := Lib.hid (R10.out.below h7); have HX8 := Lib.hid hx8; have G8 := Lib.hid ((hb8.block w6.heap.size G7L.out).trans G7.out); obtain ⟨c0, c1, c2, c3⟩ := T10.out.cells; obtain ⟨f0, f1, f2, f3⟩ := T10.out.froz; have HS9 : (fun w' => w'.cell? ⟨w.heap.size + 1, 0, none⟩ = some (.int .i64 D.kind) ∧ w'.cell? ⟨w.heap.size + 1, 1, none⟩ = some (.int .i64 D.num) ∧ w'.cell? ⟨w.heap.size + 1, 2, none⟩ = some (.string D.name) ∧ w'.cell? ⟨w.heap.size + 1, 3, none⟩ = some (.slice vd D.args.length cd)) (((((w8.setCell ⟨w5.heap.size, 0, none⟩ (.int .i64 RB.kind)).setCell ⟨w5.heap.size, 1, none⟩ (.int .i64 RB.num)).setCell ⟨w5.heap.size, 2, none⟩ (.string RB.name)).setCell ⟨w5.heap.size, 3, none⟩ (.slice ya RB.args.length yc))) := (RowT.apart (RD0.out.below h7) T10.out NE10.out _ _ _ _).cells))
              clear q0 q1 q2 q3 hb6 hb7 hb8 hyl hx8
              go_upto_region 16 with fail
              have T10Z : Hid (RowT ((((w8.setCell ⟨w5.heap.size, 0, none⟩ (.int .i64 RB.kind)).setCell ⟨w5.heap.size, 1, none⟩ (.int .i64 RB.num)).setCell ⟨w5.heap.size, 2, none⟩ (.string RB.name)).setCell ⟨w5.heap.size, 3, none⟩ (.slice ya RB.args.length yc)) w5.heap.size RB (.slice ya RB.args.length yc)) := Lib.hid (T10.out.put RB (.slice ya RB.args.length yc))
              have S2 : Hid (Below w5.heap.size w5 ((((w8.setCell ⟨w5.heap.size, 0, none⟩ (.int .i64 RB.kind)).setCell ⟨w5.heap.size, 1, none⟩ (.int .i64 RB.num)).setCell ⟨w5.heap.size, 2, none⟩ (.string RB.name)).setCell ⟨w5.heap.size, 3, none⟩ (.slice ya RB.args.length yc))) := Lib.hid ((four T10.out _ _ _ _).2.2.2 _ _ (Nat.le_refl _) S1.out)
              have G9 : Hid (((((w8.setCell ⟨w5.heap.size, 0, none⟩ (.int .i64 RB.kind)).setCell ⟨w5.heap.size, 1, none⟩ (.int .i64 RB.num)).setCell ⟨w5.heap.size, 2, none⟩ (.string RB.name)).setCell ⟨w5.heap.size, 3, none⟩ (.slice ya RB.args.length yc)).heap[w6.heap.size]? = some (.cells (flat [(atmT ⟨#[110, 111, 116, 95, 108, 101, 115, 115, 95, 116, 104, 97, 110, 95, 122, 101, 114, 111]⟩, .slice none 0 0), (D, .slice vd D.args.length cd)]).toArray 24 (0, 0))) := Lib.hid (((four T10.out _ _ _ _).2.1 _ (by have h1 := G8L.out; omega)).trans G8.out)
              have LQ : Hid (LiesT ((((w8.setCell ⟨w5.heap.size, 0, none⟩ (.int .i64 RB.kind)).setCell ⟨w5.heap.size, 1, none⟩ (.int .i64 RB.num)).setCell ⟨w5.heap.size, 2, none⟩ (.string RB.name)).setCell ⟨w5.heap.size, 3, none⟩ (.slice ya RB.args.length yc)) RB (.slice ya RB.args.length yc)) := Lib.hid (HX8.out _ (fun b hb _ => (four T10.out _ _ _ _).2.1 b (by have h1 := G8L.out; have h2 := G7L.out; omega)) (struct_lies (by simp [ByteArray.size]) (lies_at [(atmT ⟨#[110, 111, 116, 95, 108, 101, 115, 115, 95, 116, 104, 97, 110, 95, 122, 101, 114, 111]⟩, .slice none 0 0), (D, .slice vd D.args.length cd)] G9.out (by intro p hp; simp only [List.mem_cons, List.not_mem_nil, or_false] at hp; rcases hp with rfl | rfl; exact atom_lies (by simp [ByteArray.size]); exact LDK.out.below S2.out) (by simp))))
              clear HS9
              generalize ((((w8.setCell ⟨w5.heap.size, 0, none⟩ (.int .i64 RB.kind)).setCell ⟨w5.heap.size, 1, none⟩ (.int .i64 RB.num)).setCell ⟨w5.heap.size, 2, none⟩ (.string RB.name)).setCell ⟨w5.heap.size, 3, none⟩ (.slice ya RB.args.length yc)) = Z at *
              have LBz := Lib.hid (LBK.out.below S2.out)
              have BBz := Lib.hid (BBK.out.trans (S2.out.mono BBK.out.size))
              clear c0 c1 c2 c3 f0 f1 f2 f3
              obtain ⟨m0, m1, m2, m3⟩ := (R8K.out.below S2.out).cells
              obtain ⟨n0, n1, n2, n3⟩ := T10Z.out.cells
              go_wp2_with fail
              clear m0 m1 m2 m3 n0 n1 n2 n3
              refine (lsame_self _ _ _ _ VB.out LBz.out LQ.out).mono ?_
              rintro e w91 ⟨rfl, hb91⟩
              have B91 := Lib.hid (BBz.out.trans (hb91.mono BBz.out.size))
              go_wp2_with fail
              refine (awake_any _).mono ?_
              rintro e w92 ⟨rfl, hb92⟩
              go_wp2_with fail
              go_ret
              exact ⟨rfl, B91.out.trans (hb92.mono B91.out.size)⟩
            · have d1 : decide (n < 0) = false := by simp; omega
              have d3 : ¬ n < 0 := by omega
              by_cases hgt : 8 < n
              · have d2 : decide (8 < n) = true := by simpa using hgt
                obtain rfl : RO = false := by rw [HOV4.out, decide_eq_false (by omega)]
                have HQ : Hid (errT (.mk 3 0 ⟨#[114, 101, 112, 114, 101, 115, 101, 110, 116, 97, 116, 105, 111, 110, 95, 101, 114, 114, 111, 114]⟩ [atmT ⟨#[109, 97, 120, 95, 97, 114, 105, 116, 121]⟩]) = RB) := Lib.hid (by rw [HBV4.out, if_neg d3, if_pos hgt, maxa_err])
                obtain rfl : RS = ⟨#[]⟩ := by rw [HS.out]; rfl
                obtain rfl : RN = 0 := by rw [HNV4.out]; rfl
                clear HBV4 HOV4 HNV4 HDE
                obtain rfl := HNQ.out
                go_wp2_with fail
                clear p0 p1 p2 p3 q0 q1 q2 q3
                obtain ⟨W0, hW0⟩ : ∃ W, w5.alloc (.cells #[.int .i64 WI.kind, .int .i64 WI.num, .string WI.name, .slice aw WI.args.length cw] 24) = W := ⟨_, rfl⟩
                rw [hW0] at S0 R10 RD0 ⊢
                clear hW0
                have LD0 := Lib.hid (LDK.out.below S0.out)
                have hS0 : Below W0.heap.size W0 W0 := Below.refl _ _
                refine (a_any _ _).mono ?_
                rintro e w6 ⟨rfl, hb6⟩
                have h5 : Below W0.heap.size W0 w6 := hS0.trans (hb6.mono hS0.size)
                have H5 := Lib.hid h5
                clear h5 hb6
                go_wp2_with fail
                have h5 := H5.out
                refine (f_any _ _ _ _ _).mono ?_
                rintro e w7 ⟨rfl, hb7⟩
                have h6 : Below W0.heap.size W0 w7 := h5.trans ((al hb7).mono h5.size)
                have G7 : Hid (w7.heap[w6.heap.size]? = some (.cells (flat [(atmT ⟨#[109, 97, 120, 95, 97, 114, 105, 116, 121]⟩, .slice none 0 0)]).toArray 24 (0, 0))) := Lib.hid ((hb7.block w6.heap.size (by simp)).trans (heap_alloc_new _ _))
                have LT : Hid (LiesT w7 (.mk 3 0 ⟨#[114, 101, 112, 114, 101, 115, 101, 110, 116, 97, 116, 105, 111, 110, 95, 101, 114, 114, 111, 114]⟩ [atmT ⟨#[109, 97, 120, 95, 97, 114, 105, 116, 121]⟩]) (.slice (some ⟨w6.heap.size, 0, none⟩) 1 1)) := Lib.hid ((struct_lies (nm := ⟨#[114, 101, 112, 114, 101, 115, 101, 110, 116, 97, 116, 105, 111, 110, 95, 101, 114, 114, 111, 114]⟩) (by simp [ByteArray.size]) (lies_new (w := w6) (g := w6.heap.size) (ty := 24) rfl [(atmT ⟨#[109, 97, 120, 95, 97, 114, 105, 116, 121]⟩, .slice none 0 0)] (by simp only [EnvT]; exact ⟨atom_lies (by simp [ByteArray.size]), trivial⟩) (by simp))).below hb7)
                have G8L : Hid (w5.heap.size < w6.heap.size) := Lib.hid (by have h1 := R10.out.lt; have h2 := h5.size; omega)
                have G7L : Hid (w6.heap.size < w7.heap.size) := Lib.hid ((Array.getElem?_eq_some_iff.1 G7.out).1)
                have H6 := Lib.hid h6
                clear h5 h6 hb7
                go_wp2_with fail
                have h6 := H6.out
                refine (error1_x (.mk 3 0 ⟨#[114, 101, 112, 114, 101, 115, 101, 110, 116, 97, 116, 105, 111, 110, 95, 101, 114, 114, 111, 114]⟩ [atmT ⟨#[109, 97, 120, 95, 97, 114, 105, 116, 121]⟩]) (.slice (some ⟨w6.heap.size, 0, none⟩) 1 1) _ RB LT.out HQ.out).mono ?_
                rintro e w8 ⟨y, rfl, hyl, hb8, hx8⟩
                obtain ⟨ya, yc, rfl⟩ := hyl.slice
                have h7 : Below W0.heap.size W0 w8 := h6.trans (hb8.mono h6.size)
                have S1 : Hid (Below w5.heap.size w5 w8) := Lib.hid (S0.out.trans (h7.mono S0.out.size))
                have T10 := Lib.hid (R10.out.below h7)
                have HX8 := Lib.hid hx8
                have G8 := Lib.hid ((hb8.block w6.heap.size G7L.out).trans G7.out)
                obtain ⟨c0, c1, c2, c3⟩ := T10.out.cells
                obtain ⟨f0, f1, f2, f3⟩ := T10.out.froz
                clear h6 h7 hyl hb8 hx8
                go_upto_region 16 with fail
                have T10Z : Hid (RowT ((((w8.setCell ⟨w5.heap.size, 0, none⟩ (.int .i64 RB.kind)).setCell ⟨w5.heap.size, 1, none⟩ (.int .i64 RB.num)).setCell ⟨w5.heap.size, 2, none⟩ (.string RB.name)).setCell ⟨w5.heap.size, 3, none⟩ (.slice ya RB.args.length yc)) w5.heap.size RB (.slice ya RB.args.length yc)) := Lib.hid (T10.out.put RB (.slice ya RB.args.length yc))
                have S2 : Hid (Below w5.heap.size w5 ((((w8.setCell ⟨w5.heap.size, 0, none⟩ (.int .i64 RB.kind)).setCell ⟨w5.heap.size, 1, none⟩ (.int .i64 RB.num)).setCell ⟨w5.heap.size, 2, none⟩ (.string RB.name)).setCell ⟨w5.heap.size, 3, none⟩ (.slice ya RB.args.length yc))) := Lib.hid ((four T10.out _ _ _ _).2.2.2 _ _ (Nat.le_refl _) S1.out)
                have G9 : Hid (((((w8.setCell ⟨w5.heap.size, 0, none⟩ (.int .i64 RB.kind)).setCell ⟨w5.heap.size, 1, none⟩ (.int .i64 RB.num)).setCell ⟨w5.heap.size, 2, none⟩ (.string RB.name)).setCell ⟨w5.heap.size, 3, none⟩ (.slice ya RB.args.length yc)).heap[w6.heap.size]? = some (.cells (flat [(atmT ⟨#[109, 97, 120, 95, 97, 114, 105, 116, 121]⟩, .slice none 0 0)]).toArray 24 (0, 0))) := Lib.hid (((four T10.out _ _ _ _).2.1 _ (by have h1 := G8L.out; omega)).trans G8.out)
                have LQ : Hid (LiesT ((((w8.setCell ⟨w5.heap.size, 0, none⟩ (.int .i64 RB.kind)).setCell ⟨w5.heap.size, 1, none⟩ (.int .i64 RB.num)).setCell ⟨w5.heap.size, 2, none⟩ (.string RB.name)).setCell ⟨w5.heap.size, 3, none⟩ (.slice ya RB.args.length yc)) RB (.slice ya RB.args.length yc)) := Lib.hid (HX8.out _ (fun b hb _ => (four T10.out _ _ _ _).2.1 b (by have h1 := G8L.out; have h2 := G7L.out; omega)) (struct_lies (by simp [ByteArray.size]) (lies_at [(atmT ⟨#[109, 97, 120, 95, 97, 114, 105, 116, 121]⟩, .slice none 0 0)] G9.out (by intro p hp; simp only [List.mem_cons, List.not_mem_nil, or_false] at hp; subst hp; exact atom_lies (by simp [ByteArray.size])) (by simp))))
                generalize ((((w8.setCell ⟨w5.heap.size, 0, none⟩ (.int .i64 RB.kind)).setCell ⟨w5.heap.size, 1, none⟩ (.int .i64 RB.num)).setCell ⟨w5.heap.size, 2, none⟩ (.string RB.name)).setCell ⟨w5.heap.size, 3, none⟩ (.slice ya RB.args.length yc)) = Z at *
                have LBz := Lib.hid (LBK.out.below S2.out)
                have BBz := Lib.hid (BBK.out.trans (S2.out.mono BBK.out.size))
                clear c0 c1 c2 c3 f0 f1 f2 f3
                obtain ⟨m0, m1, m2, m3⟩ := (R8K.out.below S2.out).cells
                obtain ⟨n0, n1, n2, n3⟩ := T10Z.out.cells
                go_wp2_with fail
                clear m0 m1 m2 m3 n0 n1 n2 n3
                refine (lsame_self _ _ _ _ VB.out LBz.out LQ.out).mono ?_
                rintro e w91 ⟨rfl, hb91⟩
                have B91 := Lib.hid (BBz.out.trans (hb91.mono BBz.out.size))
                go_wp2_with fail
                refine (awake_any _).mono ?_
                rintro e w92 ⟨rfl, hb92⟩
                go_wp2_with fail
                go_ret
                exact ⟨rfl, B91.out.trans (hb92.mono B91.out.size)⟩
              · have d2 : decide (8 < n) = false := by simpa using hgt
                obtain rfl : RO = true := by rw [HOV4.out, decide_eq_true (by omega)]
                obtain rfl : RB = z0 := by rw [HBV4.out, if_neg d3, if_neg hgt]
                obtain rfl : RS = A.name := by rw [HS.out]; rfl
                obtain rfl : n = RN := by rw [HNV4.out]; rfl
                have e1 := name_self A.name
                obtain ⟨m0, m1, m2, m3⟩ := (R8K.out.below S0.out).cells
                have BBz := Lib.hid (BBK.out.trans (S0.out.mono BBK.out.size))
                have LBz := Lib.hid (LBK.out.below S0.out)
                have e2 : (n == n) = true := by simp
                go_wp2_with fail
                refine (lsame_self z0 _ (.slice none 0 0) _ z0_valid LBz.out (OwnT.lies (S := fun _ => True) _ _ zero_own)).mono ?_
                rintro e w91 ⟨rfl, hb91⟩
                have B91 := Lib.hid (BBz.out.trans (hb91.mono BBz.out.size))
                clear m0 m1 m2 m3
                go_wp2_with fail
                refine (awake_any _).mono ?_
                rintro e w92 ⟨rfl, hb92⟩
                go_wp2_with fail
                go_ret
                exact ⟨rfl, B91.out.trans (hb92.mono B91.out.size)⟩

end Go.Proofs.Yteilodihjhdngaa
