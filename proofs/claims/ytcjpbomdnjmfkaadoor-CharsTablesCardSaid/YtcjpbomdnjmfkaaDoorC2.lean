/- The contract of the specification's Same: it reports whether two tables are equal. -/
import Derived.Test.YtcjpbomdnjmfkaaDoorA3
namespace Go.Proofs.YtcjpbomdnjmfkaaDoor
open Go.RowKit

theorem neq_pair (a b c d : Int) (w : World) : (binOp .neq 30 (.agg #[.int .i64 a, .int .i64 b]) (.agg #[.int .i64 c, .int .i64 d])).run Tryd.prog w = .ok (.bool (!(a == c && b == d))) w := by
  have hs := run_equalIn_struct (P := Tryd.prog) (w := w) 9999 30 #[.int .i64 a, .int .i64 b] #[.int .i64 c, .int .i64 d] (by kernel_rfl) (by kernel_rfl)
  have hf : (Tryd.prog.fieldsOf 30).toList = _ := congrArg (fun x : Option TypeDesc => match x with | some (.struct fs) => fs.toList | _ => []) Tryd.underlying30
  simp only at hf
  have he : ∀ (x y : Int) (w : World), (Op.equalIn 9999 3 (.int .i64 x) (.int .i64 y)).run Tryd.prog w = .ok (x == y) w := fun x y w => run_equalIn_int (P := Tryd.prog) (w := w) 9998 3 .i64 .i64 x y Tryd.underlying3
  have hp0 : ∀ (x y : Value) (w : World), (part 3 #[x, y] 0).run Tryd.prog w = .ok x w := fun x y w => by simp [part, Tryd.isAgg3]
  have hp1 : ∀ (x y : Value) (w : World), (part 3 #[x, y] 1).run Tryd.prog w = .ok y w := fun x y w => by simp [part, Tryd.isAgg3]
  simp only [binOp]
  simp only [hf] at hs
  simp [Op.equal, Op.maxDepth, hs, Op.eqFields, hp0, hp1, he]
  by_cases h1 : a = c <;> by_cases h2 : b = d <;> simp [h1, h2]

theorem take_next {ps : List (Int × Int)} {k : Nat} {p : Int × Int} (h : ps[k]? = some p) : ps.take (k + 1) = ps.take k ++ [p] := by
  rw [List.take_add_one, h]; rfl

set_option maxHeartbeats 400000 in
theorem same_any (A A' : Option Addr) (n n' cap cap' : Nat) (ps qs : List (Int × Int)) (w : World) (hn : ps.length = n) (hn' : qs.length = n') (hm : n ≤ 9223372036854775807) (hm' : n' ≤ 9223372036854775807) (hP : PR w A ps) (hQ : PR w A' qs) :
    Calls Tryd.prog 26 #[.slice A n cap, .slice A' n' cap'] w fun e w' => e = .returned (.bool (decide (ps = qs))) ∧ Below w.heap.size w w' := by
  have HP := Lib.hid hP
  have HQ := Lib.hid hQ
  have Hn := Lib.hid hn
  have Hn' := Lib.hid hn'
  clear hP hQ hn hn'
  by_cases hnn : n = n'
  · subst hnn
    go_enter Tryd.func26, Tryd.ntmps26
    go_wp2
    go_loopw [5] (fun i wr => ∃ k : Nat, k ≤ n ∧ i = .int .i64 k ∧ Hid (ps.take k = qs.take k) ∧ Below w.heap.size w wr) (fun i _ => n - (intOf i).toNat)
    case atStart => exact ⟨0, by omega, rfl, by show _ = _; simp, Below.refl _ _⟩
    case round =>
      obtain ⟨k, hk, rfl, hC, hb⟩ := hrel
      by_cases hlt : k < n
      · obtain ⟨p, hp⟩ : ∃ p, ps[k]? = some p := ⟨_, List.getElem?_eq_getElem (by have := Hn.out; omega)⟩
        obtain ⟨q, hq⟩ : ∃ q, qs[k]? = some q := ⟨_, List.getElem?_eq_getElem (by have := Hn'.out; omega)⟩
        obtain ⟨b, o, rfl, hc1, hc2⟩ := HP.out.below hb k p hp
        obtain ⟨b', o', rfl, hd1, hd2⟩ := HQ.out.below hb k q hq
        have hneq := fun w => neq_pair p.1 p.2 q.1 q.2 w
        by_cases he : p = q
        · have hN : Hid (ps.take (k + 1) = qs.take (k + 1)) := by show _ = _; rw [take_next hp, take_next hq, hC.out, he]
          subst he
          clear hp hq hC
          go_wp2_with fail
          go_quiet (fail)
          go_wp2
          go_roundw
          case rel => exact ⟨k + 1, by omega, by go_num, hN, below_drewN hb _⟩
          case measure => simp [intOf]; omega
        · have hN : Hid (decide (ps = qs) = false) := by
            show _ = _
            rw [decide_eq_false_iff_not]
            intro e; subst e; rw [hp] at hq; exact he (Option.some.inj hq)
          have hpq : (p.1 == q.1 && p.2 == q.2) = false := by
            rw [Bool.and_eq_false_iff]
            by_cases e1 : p.1 = q.1
            · right; simp only [beq_eq_false_iff_ne]; exact fun e2 => he (Prod.ext e1 e2)
            · left; simpa using e1
          clear hp hq hC he
          go_wp2_with fail
          go_quiet (fail)
          go_wp2
          go_ret
          exact ⟨ret_bool hN.out.symm, below_drewN hb _⟩
      · have hN : Hid (decide (ps = qs) = true) := by
          show _ = _
          rw [decide_eq_true_eq]
          have := hC.out
          rwa [List.take_of_length_le (by have := Hn.out; omega), List.take_of_length_le (by have := Hn'.out; omega)] at this
        go_wp2
        go_ret
        exact ⟨ret_bool hN.out.symm, hb⟩
  · have hN : Hid (decide (ps = qs) = false) := by
      show _ = _
      rw [decide_eq_false_iff_not]
      intro e; subst e; exact hnn (Hn.out.symm.trans Hn'.out)
    have hq : ((n : Int) != (n' : Int)) = true := by rw [bne_iff_ne]; omega
    go_enter Tryd.func26, Tryd.ntmps26
    go_wp2
    go_ret
    exact ⟨ret_bool hN.out.symm, Below.refl _ _⟩

end Go.Proofs.YtcjpbomdnjmfkaaDoor
