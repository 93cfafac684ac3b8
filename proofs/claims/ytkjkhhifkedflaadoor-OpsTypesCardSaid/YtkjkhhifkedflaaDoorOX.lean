/- The contracts of the specification's Same and Clone. -/
import Derived.Test.YtkjkhhifkedflaaDoorOW
import Derived.Laws.StructEq
set_option linter.unusedVariables false
set_option linter.unusedSimpArgs false
namespace Go.Proofs.YtkjkhhifkedflaaDoor
open Go.RowKit Go.Proofs.HP Go.BigFrame

theorem opUnder : Tryd.prog.underlying 26 = some (.struct (Tryd.prog.fieldsOf 26)) := by kernel_rfl
theorem opHeld : Tryd.prog.stoodInHeld 26 = false := by kernel_rfl
theorem opFields : (Tryd.prog.fieldsOf 26).toList.map (fun f => (f.name ≠ "_" : Bool)) = [true, true, true] ∧ (Tryd.prog.fieldsOf 26).toList.map (fun f => (f.type, f.offset)) = [(9, 0), (3, 1), (3, 2)] := by constructor <;> kernel_rfl
theorem opGuard : Tryd.prog.eqGuardType Tryd.prog.depth 26 = false := by kernel_rfl
def sameO (a : ByteArray) (b c : Int) (d : ByteArray) (e f : Int) : Bool := a.toList == d.toList && b == e && c == f
theorem eq_fields (a : ByteArray) (b c : Int) (d : ByteArray) (e f : Int) (w : World) (n : Nat) : (Op.eqFields (n + 1) #[.string a, .int .i64 b, .int .i64 c] #[.string d, .int .i64 e, .int .i64 f] (Tryd.prog.fieldsOf 26).toList).run Tryd.prog w = .ok (sameO a b c d e f) w := by
  obtain ⟨h1, h2⟩ := opFields
  generalize (Tryd.prog.fieldsOf 26).toList = l at h1 h2
  have hl : l.length = 3 := by simpa using congrArg List.length h2
  obtain ⟨x, y, z, rfl⟩ : ∃ x y z, l = [x, y, z] := by
    match l, hl with
    | [x, y, z], _ => exact ⟨x, y, z, rfl⟩
  simp only [List.map_cons, List.map_nil, List.cons.injEq, Prod.mk.injEq, decide_eq_true_eq, and_true] at h1 h2
  obtain ⟨n1, n2, n3⟩ := h1
  obtain ⟨⟨t1, o1⟩, ⟨t2, o2⟩, t3, o3⟩ := h2
  have p1 : ∀ a0 a1 a2 : Value, (part 9 #[a0, a1, a2] 0).run Tryd.prog w = .ok a0 w := fun _ _ _ => by kernel_rfl
  have p2 : ∀ a0 a1 a2 : Value, (part 3 #[a0, a1, a2] 1).run Tryd.prog w = .ok a1 w := fun _ _ _ => by kernel_rfl
  have p3 : ∀ a0 a1 a2 : Value, (part 3 #[a0, a1, a2] 2).run Tryd.prog w = .ok a2 w := fun _ _ _ => by kernel_rfl
  simp only [Op.eqFields, n1, n2, n3, t1, t2, t3, o1, o2, o3, ne_eq, not_false_eq_true, if_true, Sem.run_bind, p1, p2, p3, Result.andThen_ok, Sem.run_ite, Sem.run_pure, run_equalIn_string _ _ _ _ _ Tryd.underlying9, run_equalIn_int _ _ _ _ _ _ _ Tryd.underlying3]
  unfold sameO
  generalize (a.toList == d.toList) = g1
  generalize (b == e) = g2
  generalize (c == f) = g3
  cases g1 <;> cases g2 <;> cases g3 <;> rfl
theorem neq_op (a : ByteArray) (b c : Int) (d : ByteArray) (e f : Int) (w : World) : (binOp .neq 26 (.agg #[.string a, .int .i64 b, .int .i64 c]) (.agg #[.string d, .int .i64 e, .int .i64 f])).run Tryd.prog w = .ok (.bool (!sameO a b c d e f)) w := by
  rw [run_neq_struct, show (10000 : Nat) = 9999 + 1 from rfl, run_equalIn_agg _ _ _ _ _ opUnder opHeld, show (9999 : Nat) = 9998 + 1 from rfl, eq_fields]
  rfl
theorem eql_op (a : ByteArray) (b c : Int) (d : ByteArray) (e f : Int) (w : World) : (binOp .eql 26 (.agg #[.string a, .int .i64 b, .int .i64 c]) (.agg #[.string d, .int .i64 e, .int .i64 f])).run Tryd.prog w = .ok (.bool (sameO a b c d e f)) w := by
  rw [run_eql_struct, show (10000 : Nat) = 9999 + 1 from rfl, run_equalIn_agg _ _ _ _ _ opUnder opHeld, show (9999 : Nat) = 9998 + 1 from rfl, eq_fields]
  rfl
theorem guard_op (op : BinOp) (x y : Operand) (xs ys : Array Value) (w : World) : (eqGuard op 26 x y (.agg xs) (.agg ys)).run Tryd.prog w = .ok () w := run_eqGuard_agg w op _ x y xs ys opGuard
theorem sameO_iff (a : ByteArray) (b c : Int) (d : ByteArray) (e f : Int) : sameO a b c d e f = decide ((a, b, c) = (d, e, f)) := by
  unfold sameO
  rw [toList_eq, Bool.eq_iff_iff]
  simp [and_assoc]
set_option maxHeartbeats 4000000 in
theorem same_any (A B : Option Addr) (n n2 cap cap2 : Nat) (l l2 : List Opd) (w : World) (hn : l.length = n) (hn2 : l2.length = n2) (hm : n ≤ 1000) (hP : PRO w A l) (hP2 : PRO w B l2) :
    Calls Tryd.prog 21 #[.slice A n cap, .slice B n2 cap2] w (BEnd (decide (l = l2)) w) := by
  have mixed : Tryd.prog.follows .mixedOrders = true := by kernel_rfl
  have HP := Lib.hid hP
  have HP2 := Lib.hid hP2
  have Hn := Lib.hid hn
  have Hn2 := Lib.hid hn2
  clear hP hP2 hn hn2
  by_cases hnn : n = n2
  · subst hnn
    go_enter Tryd.func21, Tryd.ntmps21
    go_wp2_with fail
    go_loopw [5] (fun vi wr => ∃ k : Nat, k ≤ n ∧ vi = .int .i64 k ∧ Hid (l.take k = l2.take k) ∧ Hid (Gw w wr)) (fun vi _ => n - (intOf vi).toNat)
    case atStart => exact ⟨0, Nat.zero_le _, rfl, Lib.hid rfl, Lib.hid (Gw.refl _)⟩
    case round =>
      obtain ⟨k, hk, rfl, hI, hb⟩ := hrel
      by_cases hlt : k < n
      · obtain ⟨⟨s, t, p⟩, ho⟩ : ∃ o, l[k]? = some o := ⟨_, List.getElem?_eq_getElem (by have := Hn.out; omega)⟩
        obtain ⟨⟨s2, t2, p2⟩, ho2⟩ : ∃ o, l2[k]? = some o := ⟨_, List.getElem?_eq_getElem (by have := Hn2.out; omega)⟩
        obtain ⟨b, f, rfl, c0, c1, c2⟩ := HP.out.below hb.out.b k _ ho
        obtain ⟨b2, f2, rfl, d0, d1, d2⟩ := HP2.out.below hb.out.b k _ ho2
        have q1 : (k : Int) < (n : Int) := by omega
        have q2 : (0 : Int) ≤ (k : Int) := by omega
        simp only at c0 c1 c2 d0 d1 d2
        go_wp2_with fail
        have z0 := cg c0
        have z1 := cg c1
        have z2 := cg c2
        have v0 := cg d0
        have v1 := cg d1
        have v2 := cg d2
        clear c0 c1 c2 d0 d1 d2
        have u1 := neq_op s t p s2 t2 p2
        have u2 := guard_op
        obtain ⟨q, hq⟩ : ∃ q, sameO s t p s2 t2 p2 = q := ⟨_, rfl⟩
        rw [hq] at u1
        refine wp_region_quiet_grown (by assumption) (by kernel_rfl) ?_
        repeat (go_big_quiet_step (fail))
        refine wpQuiet_nil ?_
        intro _ hw'
        obtain ⟨⟨nq, osq⟩, hw''⟩ := hw'
        subst hw''
        have HG2 := Lib.hid (hb.out.trans (gw_grow wr nq osq))
        clear z0 z1 z2 v0 v1 v2 u1 u2
        generalize Go.Sort.grow (wr.drewN nq) osq = W2 at *
        have HT1 : l.take (k + 1) = l.take k ++ [(s, t, p)] := by rw [List.take_add_one, ho]; rfl
        have HT2 : l2.take (k + 1) = l2.take k ++ [(s2, t2, p2)] := by rw [List.take_add_one, ho2]; rfl
        have hqq := hq
        rw [sameO_iff] at hqq
        cases q
        · have hne : (s, t, p) ≠ (s2, t2, p2) := of_decide_eq_false hqq
          have HF : Hid (decide (l = l2) = false) := Lib.hid (decide_eq_false fun e => by
            subst e; rw [ho] at ho2; exact hne (Option.some.inj ho2))
          clear HT1 HT2 hqq hq ho ho2 hne
          go_wp2_with fail
          go_ret
          exact ⟨ret_bool HF.out.symm, HG2.out⟩
        · have heq : (s, t, p) = (s2, t2, p2) := of_decide_eq_true hqq
          have HN : Hid (l.take (k + 1) = l2.take (k + 1)) := Lib.hid (by rw [HT1, HT2, hI.out, heq])
          clear HT1 HT2 hqq hq ho ho2 heq
          go_wp2_with fail
          go_roundw
          case rel => exact ⟨k + 1, by omega, by go_num, HN, HG2⟩
          case measure => simp [intOf]; omega
      · obtain rfl : k = n := by omega
        have HE : Hid (decide (l = l2) = true) := Lib.hid (decide_eq_true (by
          have h := hI.out
          rw [List.take_of_length_le (by have := Hn.out; omega), List.take_of_length_le (by have := Hn2.out; omega)] at h
          exact h))
        go_wp2_with fail
        go_ret
        exact ⟨ret_bool HE.out.symm, hb.out⟩
  · have HE : Hid (decide (l = l2) = false) := Lib.hid (decide_eq_false fun e => hnn (by rw [← Hn.out, ← Hn2.out, e]))
    have h1 : ((n : Int) != (n2 : Int)) = true := by simp; omega
    have h2 : ((n : Int) == (n2 : Int)) = false := by simp; omega
    clear hnn
    go_enter Tryd.func21, Tryd.ntmps21
    go_wp2_with fail
    go_ret
    exact ⟨ret_bool HE.out.symm, Gw.refl _⟩

theorem clone_nil (n cap : Nat) (l : List Opd) (w : World) (hn : l.length = n) (h0 : n = 0) (A : Option Addr) :
    Calls Tryd.prog 24 #[.slice A n cap] w (SlEnd l w) := by
  subst h0
  obtain rfl : l = [] := List.length_eq_zero_iff.1 hn
  obtain ⟨i0, hi, hz0, hz1, hz2⟩ := info_parts infoOp
  clear hn
  go_enter Tryd.func24, Tryd.ntmps24
  go_wp2_with (at_builtin; refine HG.wpList_append_k rfl (.tmp 3) (.tmp 4) 23 rfl 26 i0 3 Tryd.underlying23 hi hz1 w.heap.size 0 0 0 rfl [] 26 (heap_alloc_new _ _) A 0 cap rfl [] rfl (fun h => absurd h (by omega)) (fun _ h => by cases h) (by omega) (by simp) w.heap.size w (al0 w _) (Nat.le_refl _) ?_; intro w3 hg3 ho3 hb3)
  go_ret
  exact ⟨_, _, rfl, fun i o h => by simp at h, hb3⟩
set_option maxHeartbeats 4000000 in
theorem clone_any (A : Option Addr) (n cap : Nat) (l : List Opd) (w : World) (hn : l.length = n) (hm : n ≤ 1000) (hP : PRO w A l) :
    Calls Tryd.prog 24 #[.slice A n cap] w (SlEnd l w) := by
  by_cases h0 : n = 0
  · exact clone_nil n cap l w hn h0 A
  · obtain ⟨ad, rfl, hc⟩ := hP.flat (by omega)
    have HC : Hid (∀ j u, (flatO l)[j]? = some u → (w.alloc (.cells #[] 26)).cell? (ad.add j) = some u) := Lib.hid (fun j u h => cell_below (al0 w _) _ _ (hc j u h))
    have HO : Hid ((w.alloc (.cells #[] 26)).ownsRow w.heap.size 26 3 (.slice (some ⟨w.heap.size, 0, none⟩) 0 0) 0 []) := Lib.hid ⟨rfl, .inr ⟨w.heap.size, 0, #[], rfl, Nat.le_refl _, heap_alloc_new _ _, Nat.le_refl _, by simp [maxLen], by simp, by simp⟩⟩
    have HL : Hid ((flatO l).length = n * 3) := Lib.hid (by rw [flatO_len, hn])
    have Hn := Lib.hid hn
    obtain ⟨i0, hi0, hz0, hz1, hz2⟩ := info_parts infoOp
    clear hc hn hP
    go_enter Tryd.func24, Tryd.ntmps24
    go_wp2_with (at_builtin; refine wpList_append_own _ rfl (.tmp 3) (.tmp 4) 23 rfl w.heap.size 26 i0 _ 3 32 Tryd.underlying23 hi0 hz0 hz1 hz2 rfl (by omega) (.slice (some ⟨w.heap.size, 0, none⟩) 0 0) 0 [] rfl HO.out ad n cap (flatO l) rfl HL.out HC.out (flatO_one _) (by simp only [maxLen]; omega) (by omega) (by simp) ?_; intro v' w' h2 h3 h4)
    have HB := Lib.hid ((al0 w (.cells #[] 26)).trans (own_below HO.out h3 (by simp)))
    have HO2 : OwnO w' w.heap.size v' l := by
      unfold OwnO
      rw [Hn.out]
      simpa using h2
    obtain ⟨A2, cap2, rfl, hr, _, _⟩ := HO2.read
    have HR2 := Lib.hid hr
    clear hr HO2 h2 h3 h4
    go_wp2_with fail
    go_ret
    exact ⟨A2, cap2, rfl, HR2.out, HB.out⟩
end Go.Proofs.YtkjkhhifkedflaaDoor
