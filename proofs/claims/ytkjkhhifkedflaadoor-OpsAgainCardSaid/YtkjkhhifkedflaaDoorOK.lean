/- Slices of operators that a call makes by append; the specification's with and without. -/
import Derived.Test.YtkjkhhifkedflaaDoorOJ
import Derived.Laws.AppendOwn
import Derived.Laws.AppendOwnNone
set_option linter.unusedVariables false
set_option linter.unusedSimpArgs false
namespace Go.Proofs.YtkjkhhifkedflaaDoor
open Go.RowKit Go.Proofs.HP Go.BigFrame

def flatO (l : List Opd) : List Value := l.flatMap fun o => [.string o.1, .int .i64 o.2.1, .int .i64 o.2.2]
theorem flatO_len (l : List Opd) : (flatO l).length = l.length * 3 := by
  induction l with
  | nil => rfl
  | cons p r ih => simp [flatO] at ih ⊢; omega
theorem flatO_app (a b : List Opd) : flatO (a ++ b) = flatO a ++ flatO b := by simp [flatO]
theorem flatO_one (l : List Opd) : ∀ v ∈ flatO l, v.oneCell' = true := by
  intro v hv
  simp only [flatO, List.mem_flatMap] at hv
  obtain ⟨p, _, hv⟩ := hv
  simp at hv
  rcases hv with rfl | rfl | rfl <;> rfl
theorem flatO_get : ∀ (l : List Opd) (i : Nat) (o : Opd), l[i]? = some o → (flatO l)[i * 3]? = some (.string o.1) ∧ (flatO l)[i * 3 + 1]? = some (.int .i64 o.2.1) ∧ (flatO l)[i * 3 + 2]? = some (.int .i64 o.2.2)
  | [], i, o, h => by simp at h
  | q :: r, 0, o, h => by simp at h; subst h; exact ⟨rfl, rfl, rfl⟩
  | q :: r, i + 1, o, h => by
    have := flatO_get r i o (by simpa using h)
    have e : flatO (q :: r) = .string q.1 :: .int .i64 q.2.1 :: .int .i64 q.2.2 :: flatO r := rfl
    rw [e, show (i + 1) * 3 = i * 3 + 3 by omega]
    exact this
/-- A row of operators of the call's own. -/
def OwnO (w : World) (base : Nat) (v : Value) (l : List Opd) : Prop := w.ownsRow base 26 3 v l.length (flatO l)
theorem OwnO.none (w : World) (base : Nat) : OwnO w base (.slice none 0 0) [] := ⟨rfl, .inl ⟨rfl, rfl⟩⟩
theorem OwnO.alloc {w : World} {base : Nat} {v : Value} {l : List Opd} (h : OwnO w base v l) (o : Obj) : OwnO (w.alloc o) base v l := World.ownsRow.alloc h o
theorem OwnO.below {w w' : World} {base : Nat} {v : Value} {l : List Opd} (h : OwnO w base v l) (hb : Below w.heap.size w w') : OwnO w' base v l := by
  refine ⟨h.1, ?_⟩
  rcases h.2 with h2 | ⟨g, cap, cur, rfl, h3, h4, rest⟩
  · exact .inl h2
  · exact .inr ⟨g, cap, cur, rfl, h3, (hb.block g (Array.getElem?_eq_some_iff.1 h4).1).trans h4, rest⟩
/-- What a row of the call's own reads as. -/
theorem OwnO.read {w : World} {base : Nat} {v : Value} {l : List Opd} (h : OwnO w base v l) : ∃ A cap, v = .slice A l.length cap ∧ PRO w A l ∧ l.length ≤ cap ∧ (∀ b f, A = some ⟨b, f, Option.none⟩ → base ≤ b) := by
  obtain ⟨h1, h2⟩ := h
  rcases h2 with ⟨rfl, h3⟩ | ⟨g, cap, cur, rfl, h3, h4, h5, h6, h7, h8⟩
  · refine ⟨Option.none, 0, by rw [h3], fun i o ho => ?_, by omega, fun _ _ h => by cases h⟩
    rw [List.length_eq_zero_iff.1 h3] at ho
    simp at ho
  · refine ⟨some ⟨g, 0, Option.none⟩, cap, rfl, fun i o ho => ?_, h5, fun b f e => by cases e; exact h3⟩
    have hi := (List.getElem?_eq_some_iff.1 ho).1
    obtain ⟨e0, e1, e2⟩ := flatO_get l i o ho
    have get : ∀ j u, (flatO l)[j]? = some u → w.cell? ⟨g, j, Option.none⟩ = some u := fun j u hu => by
      rw [cell_of_row w g j cur _ (0, 0) h4]
      rw [← h8, List.getElem?_take] at hu
      split at hu
      · simpa using hu
      · cases hu
    refine ⟨g, 0, rfl, ?_, ?_, ?_⟩
    · rw [Nat.zero_add]; exact get _ _ e0
    · rw [Nat.zero_add]; exact get _ _ e1
    · rw [Nat.zero_add]; exact get _ _ e2
theorem infoOp : (Tryd.prog.info? 26).map (fun i => (i.zero, i.size, i.bytes)) = some (some (.agg #[.string ⟨#[]⟩, .int .i64 0, .int .i64 0]), 3, 32) := by kernel_rfl
theorem own_below {w w' : World} {base : Nat} {v : Value} {n : Nat} {xs : List Value} (h : w.ownsRow base 26 3 v n xs) (hg : w.grownBy w' v.ownBlock) (hb : base ≤ w.heap.size) : Below base w w' :=
  (Below.refl base w).grown hg hb (fun k hk => by
    rcases h.2 with h2 | ⟨g, cap, cur, e, h3, _⟩
    · rw [h2.1] at hk; simp [Value.ownBlock] at hk
    · rw [e] at hk; simp [Value.ownBlock] at hk; omega)
theorem wp_appO {ops : Array Oper} {rest : List Oper} {o : Oper} {a : Act} {Q : Exit → Act → World → Prop} (hgd : o.guard = none) (s x : Operand) (ho : o.op = .call { callee := .builtin .append, args := #[s, x], argTypes := #[23, 23] }) (w : World)
    (base : Nat) (v : Value) (l : List Opd) (p : Opd) (hs : a.eval s = v) (hown : Hid (OwnO w base v l)) (g : Nat) (hx : a.eval x = .slice (some ⟨g, 0, none⟩) 1 1)
    (hm : Hid (RowO w g p)) (hsz : l.length + 1 ≤ 1000000) (hbase : base ≤ w.heap.size)
    (h : ∀ v' w', Hid (OwnO w' base v' (l ++ [p])) → Hid (Below base w w') → wpList Tryd.prog ops Q rest (a.put o.dst v') w') : wpList Tryd.prog ops Q (o :: rest) a w := by
  obtain ⟨i0, hi0, hz0, hz1, hz2⟩ := info_parts infoOp
  refine wpList_append_own w hgd s x 23 ho base 26 i0 _ 3 32 Tryd.underlying23 hi0 hz0 hz1 hz2 rfl (by omega) v l.length (flatO l) hs hown.out ⟨g, 0, none⟩ 1 1 (flatO [p]) hx rfl ?_ (flatO_one _) (by simp only [maxLen]; omega) (by omega) hbase ?_
  · intro j u hu
    have e : (⟨g, 0, none⟩ : Addr).add j = ⟨g, j, none⟩ := by unfold Addr.add; split <;> simp_all
    rw [e, cell_of_row _ _ _ _ _ _ hm.out]
    simpa [flatO] using hu
  · intro v' w' h2 h3 h4
    refine h v' w' (Lib.hid ?_) (Lib.hid (own_below hown.out h3 hbase))
    unfold OwnO
    rw [flatO_app, List.length_append]; exact h2
/-- A slice of operators as a result. -/
def SlEnd (l : List Opd) (w : World) (e : Ending) (w' : World) : Prop := ∃ A cap, e = .returned (.slice A l.length cap) ∧ PRO w' A l ∧ Below w.heap.size w w'
theorem ret_sl {A : Option Addr} {a b c : Nat} (h : a = b) : Ending.returned (.slice A a c) = .returned (.slice A b c) := by rw [h]
theorem rem_step {l : List Opd} {n : ByteArray} {c : Int} {k : Nat} {o : Opd} (h : l[k]? = some o) : rem n c (l.take (k + 1)) = rem n c (l.take k) ++ (if isK n c o then [] else [o]) := by
  rw [List.take_add_one, h]
  simp only [rem, List.filter_append, Option.toList]
  congr 1
  rcases Bool.eq_false_or_eq_true (isK n c o) with h2 | h2 <;> simp [h2]
theorem rem_len (l : List Opd) (n : ByteArray) (c : Int) (k : Nat) : (rem n c (l.take k)).length ≤ k := Nat.le_trans (List.length_filter_le _ _) (List.length_take_le _ _)

set_option maxHeartbeats 4000000 in
theorem without_any (A : Option Addr) (n cap : Nat) (l : List Opd) (c : Int) (m : ByteArray) (w : World) (hn : l.length = n) (hm : n ≤ 1000) (hP : PRO w A l) :
    Calls Tryd.prog 55 #[.slice A n cap, .int .i64 c, .string m] w (SlEnd (rem m c l) w) := by
  have HP := Lib.hid hP
  have Hn := Lib.hid hn
  clear hP hn
  go_enter Tryd.func55, Tryd.ntmps55
  go_wp2_with fail
  go_loopw [7, 8] (fun vo vi wr => ∃ (vq : Value) (k : Nat), k ≤ n ∧ vq = vo ∧ vi = .int .i64 k ∧ Hid (OwnO wr w.heap.size vq (rem m c (l.take k))) ∧ Hid (Below w.heap.size w wr)) (fun _ vi _ => n - (intOf vi).toNat)
  case atStart => exact ⟨_, 0, Nat.zero_le _, rfl, rfl, Lib.hid (OwnO.none _ _), Lib.hid (Below.refl _ _)⟩
  case round =>
    obtain ⟨vo, k, hk, rfl, rfl, hO, hb⟩ := hrel
    by_cases hlt : k < n
    · obtain ⟨⟨s, t, p⟩, ho⟩ : ∃ o, l[k]? = some o := ⟨_, List.getElem?_eq_getElem (by have := Hn.out; omega)⟩
      obtain ⟨g, f, rfl, c0, c1, c2⟩ := HP.out.below hb.out k _ ho
      have HS := Lib.hid (rem_step (n := m) (c := c) ho)
      have HLN := Lib.hid (rem_len l m c k)
      obtain ⟨d, hd⟩ : ∃ d, clsI t = d := ⟨_, rfl⟩
      have H1 : Hid (∀ w, Calls Tryd.prog 32 #[.int .i64 t] w fun e w' => e = .returned (.int .i64 d) ∧ w = w') := fun w => by rw [← hd]; exact (class_any t w).mono fun _ _ h => ⟨h.1, h.2.symm⟩
      have hK : isK m c (s, t, p) = (decide (s = m) && d == c) := by rw [← hd]; rfl
      have he := toList_eq s m
      have q1 : (k : Int) < (n : Int) := by omega
      have q2 : (0 : Int) ≤ (k : Int) := by omega
      simp only at c0 c1 c2
      clear ho hd
      rcases Bool.eq_false_or_eq_true (d == c) with hdc | hdc
      · have hdc' : (d != c) = false := by rw [bne, hdc]; rfl
        rcases Bool.eq_false_or_eq_true (s.toList == m.toList) with hsm | hsm
        · have hsm' : (s.toList != m.toList) = false := by rw [bne, hsm]; rfl
          have HN : Hid (rem m c (l.take (k + 1)) = rem m c (l.take k)) := by show _ = _; rw [HS.out, hK, ← he, hsm, hdc]; simp
          clear hK he
          go_wp2_with (go_at_call 32; ((with_reducible refine (H1.out _).mono ?_); rintro e w1 ⟨rfl, rfl⟩))
          go_roundw
          case rel => exact ⟨_, k + 1, by omega, rfl, by go_num, by rw [HN.out]; exact hO, hb⟩
          case measure => simp [intOf]; omega
        · have hsm' : (s.toList != m.toList) = true := by rw [bne, hsm]; rfl
          have HN : Hid (rem m c (l.take (k + 1)) = rem m c (l.take k) ++ [(s, t, p)]) := by show _ = _; rw [HS.out, hK, ← he, hsm]; simp
          clear hK he
          have HO2 := Lib.hid (hO.out.alloc (.cells #[.string s, .int .i64 t, .int .i64 p] 26))
          have HB2 := Lib.hid (hb.out.alloc hb.out.size (.cells #[.string s, .int .i64 t, .int .i64 p] 26))
          have HRW := Lib.hid (RowO.new wr (s, t, p))
          go_wp2_with (first | (go_at_call 32; ((with_reducible refine (H1.out _).mono ?_); rintro e w1 ⟨rfl, rfl⟩)) | (at_builtin; refine wp_appO rfl _ _ rfl _ w.heap.size vo (rem m c (l.take k)) (s, t, p) rfl HO2 wr.heap.size rfl HRW (by have := HLN.out; omega) HB2.out.size ?_; intro v' w' hO3 hb3))
          go_roundw
          case rel => exact ⟨_, k + 1, by omega, rfl, by go_num, by rw [HN.out]; exact hO3, Lib.hid (HB2.out.trans (hb3.out))⟩
          case measure => simp [intOf]; omega
      · have hdc' : (d != c) = true := by rw [bne, hdc]; rfl
        have HN : Hid (rem m c (l.take (k + 1)) = rem m c (l.take k) ++ [(s, t, p)]) := by show _ = _; rw [HS.out, hK, hdc]; simp
        clear hK he
        have HO2 := Lib.hid (hO.out.alloc (.cells #[.string s, .int .i64 t, .int .i64 p] 26))
        have HB2 := Lib.hid (hb.out.alloc hb.out.size (.cells #[.string s, .int .i64 t, .int .i64 p] 26))
        have HRW := Lib.hid (RowO.new wr (s, t, p))
        go_wp2_with (first | (go_at_call 32; ((with_reducible refine (H1.out _).mono ?_); rintro e w1 ⟨rfl, rfl⟩)) | (at_builtin; refine wp_appO rfl _ _ rfl _ w.heap.size vo (rem m c (l.take k)) (s, t, p) rfl HO2 wr.heap.size rfl HRW (by have := HLN.out; omega) HB2.out.size ?_; intro v' w' hO3 hb3))
        go_roundw
        case rel => exact ⟨_, k + 1, by omega, rfl, by go_num, by rw [HN.out]; exact hO3, Lib.hid (HB2.out.trans (hb3.out))⟩
        case measure => simp [intOf]; omega
    · obtain rfl : k = n := by omega
      have HE : Hid (l.take k = l) := Lib.hid (List.take_of_length_le (by have := Hn.out; omega))
      have HO2 : Hid (OwnO wr w.heap.size vo (rem m c l)) := by have h := hO.out; rw [HE.out] at h; exact h
      obtain ⟨A2, cap2, rfl, hr, _, _⟩ := HO2.out.read
      have HR2 := Lib.hid hr
      clear hr
      go_wp2_with fail
      go_ret
      exact ⟨A2, cap2, rfl, HR2.out, hb.out⟩

theorem at_slot (d : Nat) {P : Program} {ops : Array Oper} {Q : Exit → Act → World → Prop} {op : Op} {ty : TypeId} {pos : String} {af : Array Edge} {g : Option (Nat × Bool)} {rest : List Oper} {a : Act} {w : World} (h : wpList P ops Q (⟨some d, op, ty, pos, af, g⟩ :: rest) a w) : wpList P ops Q (⟨some d, op, ty, pos, af, g⟩ :: rest) a w := h
theorem cells_at {W0 w : World} {g f : Nat} {l : List Opd} {k : Nat} {o : Opd} (h : Hid (PRO W0 (some ⟨g, f, none⟩) l)) (hb : Below W0.heap.size W0 w) (ho : Hid (l[k]? = some o)) :
    w.cell? ⟨g, f + k * 3, none⟩ = some (.string o.1) ∧ w.cell? ⟨g, f + k * 3 + 1, none⟩ = some (.int .i64 o.2.1) ∧ w.cell? ⟨g, f + k * 3 + 2, none⟩ = some (.int .i64 o.2.2) := by
  obtain ⟨b', f', e, c0, c1, c2⟩ := h.out.below hb k o ho.out
  cases e
  exact ⟨c0, c1, c2⟩
/-- The state of 'with': what lies there, and whether the operator does. -/
def witR (o : Opd) (d : Bool) (r : List Opd) : List Opd := if d then r else wit r o
theorem wit_put {l : List Opd} {o x : Opd} {k : Nat} (h : l[k]? = some x) (hb : befB o x = true) : witR o false (l.drop k) = o :: x :: witR o true (l.drop (k + 1)) := by
  have hk := (List.getElem?_eq_some_iff.1 h).1
  have e : l.drop k = x :: l.drop (k + 1) := by rw [List.drop_eq_getElem_cons hk]; congr 1; exact (List.getElem?_eq_some_iff.1 h).2
  rw [witR, if_neg (by decide), e, wit, if_pos (of_decide_eq_true hb)]; rfl
theorem wit_pass {l : List Opd} {o x : Opd} {k : Nat} (h : l[k]? = some x) (hb : befB o x = false) : witR o false (l.drop k) = x :: witR o false (l.drop (k + 1)) := by
  have hk := (List.getElem?_eq_some_iff.1 h).1
  have e : l.drop k = x :: l.drop (k + 1) := by rw [List.drop_eq_getElem_cons hk]; congr 1; exact (List.getElem?_eq_some_iff.1 h).2
  rw [witR, if_neg (by decide), e, wit, if_neg (of_decide_eq_false hb)]; rfl
theorem wit_done {l : List Opd} {o x : Opd} {k : Nat} (h : l[k]? = some x) : witR o true (l.drop k) = x :: witR o true (l.drop (k + 1)) := by
  have hk := (List.getElem?_eq_some_iff.1 h).1
  have e : l.drop k = x :: l.drop (k + 1) := by rw [List.drop_eq_getElem_cons hk]; congr 1; exact (List.getElem?_eq_some_iff.1 h).2
  rw [witR, if_pos rfl, e]; rfl
set_option maxHeartbeats 8000000 in
theorem with_any (A : Option Addr) (n cap : Nat) (l : List Opd) (o : Opd) (w : World) (hn : l.length = n) (hm : n ≤ 1000) (hP : PRO w A l) :
    Calls Tryd.prog 56 #[.slice A n cap, opV o] w (SlEnd (wit l o) w) := by
  obtain ⟨s0, t0, p0⟩ := o
  have mixed : Tryd.prog.follows .mixedOrders = true := by kernel_rfl
  have HP0 := Lib.hid (hP.below (al0 w (.cells #[.string s0, .int .i64 t0, .int .i64 p0] 26)))
  have HR0 := Lib.hid (RowO.new w (s0, t0, p0))
  have HG := Lib.hid (al0 w (.cells #[.string s0, .int .i64 t0, .int .i64 p0] 26))
  have Hn := Lib.hid hn
  clear hP hn
  go_enter Tryd.func56, Tryd.ntmps56
  go_wp2_with fail
  generalize w.alloc (.cells #[.string s0, .int .i64 t0, .int .i64 p0] 26) = W0 at *
  go_loopw [5, 6, 7] (fun vo vd vi wr => ∃ (vq : Value) (k : Nat) (d : Bool) (out : List Opd), k ≤ n ∧ vq = vo ∧ vi = .int .i64 k ∧ vd = .bool d ∧ Hid (OwnO wr W0.heap.size vq out) ∧ Hid (wit l (s0, t0, p0) = out ++ witR (s0, t0, p0) d (l.drop k)) ∧ Hid (out.length ≤ 2 * k) ∧ Hid (Below W0.heap.size W0 wr)) (fun _ _ vi _ => n - (intOf vi).toNat)
  case atStart => exact ⟨_, 0, false, [], Nat.zero_le _, rfl, rfl, rfl, Lib.hid (OwnO.none _ _), Lib.hid (by simp [witR]), Lib.hid (by simp), Lib.hid (Below.refl _ _)⟩
  case round =>
    obtain ⟨vo, k, d, out, hk, rfl, rfl, rfl, hO, hW, hL, hb⟩ := hrel
    have HRB := Lib.hid (HR0.out.below hb.out)
    obtain ⟨b0, b1, b2⟩ := HRB.out.cells
    simp only at b0 b1 b2
    by_cases hlt : k < n
    · obtain ⟨⟨s, t, p⟩, ho⟩ : ∃ o, l[k]? = some o := ⟨_, List.getElem?_eq_getElem (by have := Hn.out; omega)⟩
      have HOO := Lib.hid ho
      obtain ⟨g, f, rfl, c0, c1, c2⟩ := HP0.out.below hb.out k _ ho
      have q1 : (k : Int) < (n : Int) := by omega
      have q2 : (0 : Int) ≤ (k : Int) := by omega
      simp only at c0 c1 c2
      clear ho
      cases d
      · obtain ⟨q, hq⟩ : ∃ q, befB (s0, t0, p0) (s, t, p) = q := ⟨_, rfl⟩
        have H1 : Hid (∀ w, Calls Tryd.prog 54 #[opV (s0, t0, p0), opV (s, t, p)] w fun e w' => e = .returned (.bool q) ∧ Gw w w') := fun w => by rw [← hq]; exact before_any _ _ w
        have z0 := cg b0
        have z1 := cg b1
        have z2 := cg b2
        have v0 := cg c0
        have v1 := cg c1
        have v2 := cg c2
        clear c0 c1 c2 b0 b1 b2
        cases q
        · have HN : Hid (wit l (s0, t0, p0) = (out ++ [(s, t, p)]) ++ witR (s0, t0, p0) false (l.drop (k + 1))) := by show _ = _; rw [hW.out, wit_pass HOO.out hq]; simp
          clear hq
          go_wp2_with fail
          refine wp_region_quiet_grown (by assumption) (by kernel_rfl) ?_
          repeat (go_big_quiet_step ((go_at_call 54; ((with_reducible refine gq (H1.out _))))))
          refine wpQuiet_nil ?_
          intro _ hw'
          obtain ⟨⟨nq, osq⟩, hw''⟩ := hw'
          subst hw''
          have HB2 := Lib.hid (hb.out.trans ((gw_grow wr nq osq).b.mono hb.out.size))
          have HO2 := Lib.hid (hO.out.below (gw_grow wr nq osq).b)
          clear z0 z1 z2 v0 v1 v2 HRB hO hb
          generalize Go.Sort.grow (wr.drewN nq) osq = W2 at *
          obtain ⟨g', f', e', c0, c1, c2⟩ := HP0.out.below HB2.out k (s, t, p) HOO.out
          cases e'
          have HO4 := Lib.hid (HO2.out.alloc (.cells #[.string s, .int .i64 t, .int .i64 p] 26))
          have HB4 := Lib.hid (HB2.out.alloc HB2.out.size (.cells #[.string s, .int .i64 t, .int .i64 p] 26))
          have HRW := Lib.hid (RowO.new W2 (s, t, p))
          simp only at c0 c1 c2
          go_wp2_with (at_builtin; refine wp_appO rfl _ _ rfl _ W0.heap.size vo out (s, t, p) rfl HO4 W2.heap.size rfl HRW (by have := hL.out; omega) HB4.out.size ?_; intro v' w' hO3 hb3)
          go_roundw
          case rel => exact ⟨_, k + 1, false, out ++ [(s, t, p)], by omega, rfl, by go_num, rfl, hO3, HN, Lib.hid (by have := hL.out; simp; omega), Lib.hid (HB4.out.trans hb3.out)⟩
          case measure => simp [intOf]; omega
        · have HN : Hid (wit l (s0, t0, p0) = (out ++ [(s0, t0, p0)] ++ [(s, t, p)]) ++ witR (s0, t0, p0) true (l.drop (k + 1))) := by show _ = _; rw [hW.out, wit_put HOO.out hq]; simp
          clear hq
          go_wp2_with fail
          refine wp_region_quiet_grown (by assumption) (by kernel_rfl) ?_
          repeat (go_big_quiet_step ((go_at_call 54; ((with_reducible refine gq (H1.out _))))))
          refine wpQuiet_nil ?_
          intro _ hw'
          obtain ⟨⟨nq, osq⟩, hw''⟩ := hw'
          subst hw''
          have HB2 := Lib.hid (hb.out.trans ((gw_grow wr nq osq).b.mono hb.out.size))
          have HO2 := Lib.hid (hO.out.below (gw_grow wr nq osq).b)
          clear z0 z1 z2 v0 v1 v2 HRB hO hb
          generalize Go.Sort.grow (wr.drewN nq) osq = W2 at *
          obtain ⟨b0, b1, b2⟩ := (HR0.out.below HB2.out).cells
          simp only at b0 b1 b2
          have HO4 := Lib.hid (HO2.out.alloc (.cells #[.string s0, .int .i64 t0, .int .i64 p0] 26))
          have HB4 := Lib.hid (HB2.out.alloc HB2.out.size (.cells #[.string s0, .int .i64 t0, .int .i64 p0] 26))
          have HRW := Lib.hid (RowO.new W2 (s0, t0, p0))
          go_wp2_with (first | (at_builtin; (with_reducible refine at_slot 27 ?_); refine wp_appO rfl _ _ rfl _ W0.heap.size vo out (s0, t0, p0) rfl HO4 W2.heap.size rfl HRW (by have := hL.out; omega) HB4.out.size ?_; intro v3 w3 hO3 hb3; obtain ⟨d0, d1, d2⟩ := cells_at HP0 (HB4.out.trans hb3.out) HOO; have HB6 := Lib.hid ((HB4.out.trans hb3.out).alloc (HB4.out.trans hb3.out).size (.cells #[.string s, .int .i64 t, .int .i64 p] 26)); have HO6 := Lib.hid (hO3.out.alloc (.cells #[.string s, .int .i64 t, .int .i64 p] 26)); have HRX := Lib.hid (RowO.new w3 (s, t, p))) | (at_builtin; (with_reducible refine at_slot 34 ?_); refine wp_appO rfl _ _ rfl _ W0.heap.size v3 (out ++ [(s0, t0, p0)]) (s, t, p) rfl HO6 w3.heap.size rfl HRX (by have := hL.out; simp; omega) HB6.out.size ?_; intro v5 w5 hO5 hb5))
          go_roundw
          case rel => exact ⟨_, k + 1, true, out ++ [(s0, t0, p0)] ++ [(s, t, p)], by omega, rfl, by go_num, rfl, hO5, HN, Lib.hid (by have := hL.out; simp; omega), Lib.hid (HB6.out.trans hb5.out)⟩
          case measure => simp [intOf]; omega
      · have HN : Hid (wit l (s0, t0, p0) = (out ++ [(s, t, p)]) ++ witR (s0, t0, p0) true (l.drop (k + 1))) := by show _ = _; rw [hW.out, wit_done HOO.out]; simp
        clear c0 c1 c2 b0 b1 b2
        go_wp2_with fail
        refine wp_region_quiet_grown (by assumption) (by kernel_rfl) ?_
        repeat (go_big_quiet_step (fail))
        refine wpQuiet_nil ?_
        intro _ hw'
        obtain ⟨⟨nq, osq⟩, hw''⟩ := hw'
        subst hw''
        have HB2 := Lib.hid (hb.out.trans ((gw_grow wr nq osq).b.mono hb.out.size))
        have HO2 := Lib.hid (hO.out.below (gw_grow wr nq osq).b)
        clear HRB hO hb
        generalize Go.Sort.grow (wr.drewN nq) osq = W2 at *
        obtain ⟨c0, c1, c2⟩ := cells_at HP0 HB2.out HOO
        have HO4 := Lib.hid (HO2.out.alloc (.cells #[.string s, .int .i64 t, .int .i64 p] 26))
        have HB4 := Lib.hid (HB2.out.alloc HB2.out.size (.cells #[.string s, .int .i64 t, .int .i64 p] 26))
        have HRW := Lib.hid (RowO.new W2 (s, t, p))
        simp only at c0 c1 c2
        go_wp2_with (at_builtin; refine wp_appO rfl _ _ rfl _ W0.heap.size vo out (s, t, p) rfl HO4 W2.heap.size rfl HRW (by have := hL.out; omega) HB4.out.size ?_; intro v' w' hO3 hb3)
        go_roundw
        case rel => exact ⟨_, k + 1, true, out ++ [(s, t, p)], by omega, rfl, by go_num, rfl, hO3, HN, Lib.hid (by have := hL.out; simp; omega), Lib.hid (HB4.out.trans hb3.out)⟩
        case measure => simp [intOf]; omega
    · obtain rfl : k = n := by omega
      have HD : Hid (l.drop k = []) := Lib.hid (List.drop_eq_nil_of_le (by have := Hn.out; omega))
      cases d
      · have HE : Hid (wit l (s0, t0, p0) = out ++ [(s0, t0, p0)]) := by show _ = _; rw [hW.out, HD.out]; rfl
        have HO4 := Lib.hid (hO.out.alloc (.cells #[.string s0, .int .i64 t0, .int .i64 p0] 26))
        have HB4 := Lib.hid (hb.out.alloc hb.out.size (.cells #[.string s0, .int .i64 t0, .int .i64 p0] 26))
        have HRW := Lib.hid (RowO.new wr (s0, t0, p0))
        go_wp2_with (at_builtin; refine wp_appO rfl _ _ rfl _ W0.heap.size vo out (s0, t0, p0) rfl HO4 wr.heap.size rfl HRW (by have := hL.out; omega) HB4.out.size ?_; intro v' w' hO3 hb3)
        obtain ⟨A2, cap2, rfl, hr, _, _⟩ := hO3.out.read
        have HR2 := Lib.hid hr
        clear hr
        go_ret
        exact ⟨A2, cap2, ret_sl (by rw [HE.out]), by rw [HE.out]; exact HR2.out, HG.out.trans ((HB4.out.trans hb3.out).mono HG.out.size)⟩
      · have HE : Hid (wit l (s0, t0, p0) = out) := by show _ = _; rw [hW.out, HD.out]; simp [witR]
        obtain ⟨A2, cap2, rfl, hr, _, _⟩ := hO.out.read
        have HR2 := Lib.hid hr
        clear hr
        go_wp2_with fail
        go_ret
        exact ⟨A2, cap2, ret_sl (by rw [HE.out]), by rw [HE.out]; exact HR2.out, HG.out.trans (hb.out.mono HG.out.size)⟩

/-- A row of names. -/
def PRS (w : World) (b : Nat) (ns : List ByteArray) : Prop := ∀ (i : Nat) s, ns[i]? = some s → w.cell? ⟨b, i, none⟩ = some (.string s)
theorem PRS.below {w w' : World} {b : Nat} {ns : List ByteArray} (h : PRS w b ns) (hb : Below w.heap.size w w') : PRS w' b ns := fun i s hs => cell_below hb _ _ (h i s hs)
def putL (l : List Opd) (p t : Int) (ns : List ByteArray) : List Opd := ns.foldl (fun a s => wit a (s, t, p)) l
theorem putL_step {l : List Opd} {p t : Int} {ns : List ByteArray} {k : Nat} {s : ByteArray} (h : ns[k]? = some s) : putL l p t (ns.take (k + 1)) = wit (putL l p t (ns.take k)) (s, t, p) := by
  rw [List.take_add_one, h, putL, List.foldl_append]; rfl
theorem putL_len (l : List Opd) (p t : Int) (ns : List ByteArray) : (putL l p t ns).length = l.length + ns.length := by
  induction ns generalizing l with
  | nil => simp [putL]
  | cons s r ih => rw [putL, List.foldl_cons]; show (putL _ p t r).length = _; rw [ih, len_wit]; simp; omega
set_option maxHeartbeats 4000000 in
theorem put_any (A : Option Addr) (n cap : Nat) (l : List Opd) (p t : Int) (b m : Nat) (ns : List ByteArray) (w : World) (hn : l.length = n) (hm : n ≤ 500) (hP : PRO w A l) (hns : ns.length = m) (hmm : m ≤ 100) (hS : PRS w b ns) :
    Calls Tryd.prog 50 #[.slice A n cap, .int .i64 p, .int .i64 t, .slice (some ⟨b, 0, none⟩) m m] w (SlEnd (putL l p t ns) w) := by
  have HP := Lib.hid hP
  have HS := Lib.hid hS
  have Hn := Lib.hid hn
  have Hs := Lib.hid hns
  clear hP hS hn hns
  go_enter Tryd.func50, Tryd.ntmps50
  go_wp2_with fail
  go_loopw [0, 9] (fun vl vi wr => ∃ (A' : Option Addr) (n' cap' k : Nat), k ≤ m ∧ vi = .int .i64 k ∧ vl = .slice A' n' cap' ∧ Hid ((putL l p t (ns.take k)).length = n') ∧ Hid (PRO wr A' (putL l p t (ns.take k))) ∧ Hid (Below w.heap.size w wr)) (fun _ vi _ => m - (intOf vi).toNat)
  case atStart => exact ⟨A, n, cap, 0, Nat.zero_le _, rfl, rfl, Lib.hid Hn.out, HP, Lib.hid (Below.refl _ _)⟩
  case round =>
    obtain ⟨A', n', cap', k, hk, rfl, rfl, hn', hP', hb⟩ := hrel
    by_cases hlt : k < m
    · obtain ⟨s, hs⟩ : ∃ s, ns[k]? = some s := ⟨_, List.getElem?_eq_getElem (by have := Hs.out; omega)⟩
      have c0 := HS.out.below hb.out k s hs
      have HST := Lib.hid (putL_step (l := l) (p := p) (t := t) hs)
      have HL : Hid ((putL l p t (ns.take k)).length ≤ 600) := Lib.hid (by rw [putL_len]; have := Hn.out; have := List.length_take_le k ns; omega)
      have H1 := Lib.hid (with_any A' n' cap' (putL l p t (ns.take k)) (s, t, p) wr hn'.out (by have := hn'.out; have := HL.out; omega) hP'.out)
      have q1 : (k : Int) < (m : Int) := by omega
      have q2 : (0 : Int) ≤ (k : Int) := by omega
      clear hs
      go_wp2_with (go_at_call 56; ((with_reducible refine (H1.out).mono ?_); rintro e w1 ⟨A2, cap2, rfl, hr, hb1⟩))
      go_roundw
      case rel => exact ⟨A2, _, cap2, k + 1, by omega, by go_num, rfl, Lib.hid (by rw [HST.out]), Lib.hid (by rw [HST.out]; exact hr), Lib.hid (hb.out.trans (hb1.mono hb.out.size))⟩
      case measure => simp [intOf]; omega
    · obtain rfl : k = m := by omega
      have HE : Hid (ns.take k = ns) := Lib.hid (List.take_of_length_le (by have := Hs.out; omega))
      go_wp2_with fail
      go_ret
      exact ⟨A', cap', ret_sl (by rw [← hn'.out, HE.out]), by have h := hP'.out; rw [HE.out] at h; exact h, hb.out⟩
end Go.Proofs.YtkjkhhifkedflaaDoor
