/- The contract of ops.Default. -/
import Derived.Test.YtkjkhhifkedflaaDoorOM
import Derived.Maps.AppendAt
set_option linter.unusedVariables false
set_option linter.unusedSimpArgs false
namespace Go.Proofs.YtkjkhhifkedflaaDoor
open Go.RowKit Go.Proofs.HP Go.BigFrame

theorem gO_step {k j : Nat} {s : List UInt8} (h : (gF k)[j]? = some s) : (gO k).take (j + 1) = (gO k).take j ++ [(nm s, gT k, gP k)] := by
  rw [List.take_add_one, gO, List.getElem?_map, h]; rfl
theorem OwnO.blk {w : World} {base : Nat} {v : Value} {l : List Opd} (h : OwnO w base v l) : ∀ b, v.ownBlock = some b → b < w.heap.size := by
  intro b hb
  rcases h.2 with h2 | ⟨g, cap, cur, rfl, h3, h4, _⟩
  · rw [h2.1] at hb; simp [Value.ownBlock] at hb
  · simp [Value.ownBlock] at hb; subst hb; exact (Array.getElem?_eq_some_iff.1 h4).1
theorem wp_appO2 {ops : Array Oper} {rest : List Oper} {o : Oper} {a : Act} {Q : Exit → Act → World → Prop} (hgd : o.guard = none) (s x : Operand) (ho : o.op = .call { callee := .builtin .append, args := #[s, x], argTypes := #[23, 23] }) (w : World)
    (base : Nat) (v : Value) (l : List Opd) (p : Opd) (hs : a.eval s = v) (hown : Hid (OwnO w base v l)) (g : Nat) (hx : a.eval x = .slice (some ⟨g, 0, none⟩) 1 1)
    (hm : Hid (RowO w g p)) (hsz : l.length + 1 ≤ 1000000) (hbase : base ≤ w.heap.size)
    (h : ∀ v' w', Hid (OwnO w' base v' (l ++ [p])) → Hid (Below base w w') → Hid (∀ b, b < w.heap.size → v.ownBlock ≠ some b → w'.heap[b]? = w.heap[b]? ∧ v'.ownBlock ≠ some b) → wpList Tryd.prog ops Q rest (a.put o.dst v') w') : wpList Tryd.prog ops Q (o :: rest) a w := by
  obtain ⟨i0, hi0, hz0, hz1, hz2⟩ := info_parts infoOp
  refine wpList_append_own_at w hgd s x 23 ho base 26 i0 _ 3 32 Tryd.underlying23 hi0 hz0 hz1 hz2 rfl (by omega) v l.length (flatO l) hs hown.out ⟨g, 0, none⟩ 1 1 (flatO [p]) hx rfl ?_ (flatO_one _) (by simp only [maxLen]; omega) (by omega) hbase ?_
  · intro j u hu
    have e : (⟨g, 0, none⟩ : Addr).add j = ⟨g, j, none⟩ := by unfold Addr.add; split <;> simp_all
    rw [e, cell_of_row _ _ _ _ _ _ hm.out]
    simpa [flatO] using hu
  · intro v' w' h2 h3 h4 h5
    refine h v' w' (Lib.hid ?_) (Lib.hid (own_below hown.out h3 hbase)) (Lib.hid fun b hb hne => ⟨h3.block b hb (fun e => hne e.symm), ?_⟩)
    · unfold OwnO
      rw [flatO_app, List.length_append]; exact h2
    · rcases h5 with h5 | h5
      · rw [h5]; exact hne
      · rw [h5]; intro e; cases e; omega
set_option maxHeartbeats 4000000 in
theorem default_any (w : World) (hL : Laid w) : Calls Tryd.prog 12 #[] w (DefEnd w) := by
  have HL := Lib.hid hL
  obtain ⟨t, fr, hg⟩ := hL.grp
  have HSO : Hid (∀ w2 v, Below w.heap.size w w2 → OwnO w2 w.heap.size v U0 → Calls Tryd.prog 35 #[v, .func (.func 36) #[] #[]] w2 fun e w' => e = .returned (.tuple #[]) ∧ ∃ g cap, v = .slice (some ⟨g, 0, none⟩) 41 cap ∧ PRO w' (some ⟨g, 0, none⟩) D0 ∧ Below w.heap.size w w') := fun w2 v hb hO => sort_any w w2 v hL.kl hb hO
  clear hL
  go_enter Tryd.func12, Tryd.ntmps12
  go_wp2_with (refine wpList_load_row rfl 49 _ rfl 0 rfl t _ fr _ hg Tryd.underlying49 rfl (by kernel_rfl) ?_)
  clear hg
  go_loopw [0, 6] (fun vl vi wr => ∃ (vq : Value) (k : Nat), k ≤ 12 ∧ vq = vl ∧ vi = .int .i64 k ∧ Hid (OwnO wr w.heap.size vq (pre k)) ∧ Hid (Below w.heap.size w wr)) (fun _ vi _ => 12 - (intOf vi).toNat)
  case atStart => exact ⟨_, 0, Nat.zero_le _, rfl, rfl, Lib.hid (OwnO.none _ _), Lib.hid (Below.refl _ _)⟩
  case round =>
    obtain ⟨vl, k, hk, rfl, rfl, hO, hb⟩ := hrel
    obtain ⟨wo, rfl⟩ : ∃ wo : World, wo = wr := ⟨_, rfl⟩
    by_cases hlt : k < 12
    · have hidx := idx k hlt
      have HB1 := Lib.hid (hb.out.alloc hb.out.size (.cells #[.int .i64 (gP k), .int .i64 (gT k), .string (gS k)] 48))
      have HF := Lib.hid (fields_any k hlt (wo.alloc (.cells #[.int .i64 (gP k), .int .i64 (gT k), .string (gS k)] 48)) (HL.out.below HB1.out))
      have HO1 := Lib.hid (hO.out.alloc (.cells #[.int .i64 (gP k), .int .i64 (gT k), .string (gS k)] 48))
      have HFL := Lib.hid (gF_len k hlt)
      have HPL := Lib.hid (pre_len k hk)
      obtain ⟨P, hP⟩ : ∃ x, gP k = x := ⟨_, rfl⟩
      obtain ⟨T, hT⟩ : ∃ x, gT k = x := ⟨_, rfl⟩
      obtain ⟨S, hS⟩ : ∃ x, gS k = x := ⟨_, rfl⟩
      obtain ⟨F, hF⟩ : ∃ x, gF k = x := ⟨_, rfl⟩
      have hG : gO k = F.map fun s => (nm s, T, P) := by rw [gO, hF, hT, hP]
      obtain ⟨G, hGG⟩ : ∃ x, gO k = x := ⟨_, rfl⟩
      have HPRE : Hid (pre (k + 1) = pre k ++ G) := by show _ = _; rw [← hGG]; rfl
      rw [hGG] at hG
      have HGE := Lib.hid hG
      obtain ⟨X, hX⟩ : ∃ x, pre k = x := ⟨_, rfl⟩
      simp only [hP, hT, hS, hF] at hidx HB1 HF HO1 HFL
      rw [hX] at HO1 HPL HPRE
      have hOb := Lib.hid hO.out.blk
      clear hP hT hS hF hG hGG hX hO hb
      have q1 : (k : Int) < 12 := by omega
      go_wp2_with (go_at_call 34; ((with_reducible refine (HF.out).mono ?_); rintro e w1 ⟨rfl, rfl⟩))
      have hz1 : (wo.alloc (.cells #[.int .i64 P, .int .i64 T, .string S] 48)).heap.size = wo.heap.size + 1 := by simp
      have HO2 := Lib.hid (HO1.out.alloc (.cells ((F.map fun l => Value.string ⟨l.toArray⟩).toArray) 9))
      have HB2 := Lib.hid (HB1.out.alloc HB1.out.size (.cells ((F.map fun l => Value.string ⟨l.toArray⟩).toArray) 9))
      have HG1 : Hid ((((wo.alloc (.cells #[.int .i64 P, .int .i64 T, .string S] 48)).alloc (.cells ((F.map fun l => Value.string ⟨l.toArray⟩).toArray) 9))).heap[wo.heap.size]? = some (.cells #[.int .i64 P, .int .i64 T, .string S] 48 (0, 0))) := Lib.hid (by rw [(al0 _ _).block _ (by simp)]; exact heap_alloc_new _ _)
      have HG2 : Hid ((((wo.alloc (.cells #[.int .i64 P, .int .i64 T, .string S] 48)).alloc (.cells ((F.map fun l => Value.string ⟨l.toArray⟩).toArray) 9))).heap[wo.heap.size + 1]? = some (.cells ((F.map fun l => Value.string ⟨l.toArray⟩).toArray) 9 (0, 0))) := Lib.hid (by
        have h := heap_alloc_new (wo.alloc (.cells #[.int .i64 P, .int .i64 T, .string S] 48)) (.cells ((F.map fun l => Value.string ⟨l.toArray⟩).toArray) 9)
        rw [hz1] at h; exact h)
      have HNE : Hid (vl.ownBlock ≠ some wo.heap.size ∧ vl.ownBlock ≠ some (wo.heap.size + 1)) := Lib.hid (by
        have hh := hOb.out
        exact ⟨fun e => by have := hh _ e; omega, fun e => by have := hh _ e; omega⟩)
      clear hz1 HO1 HB1 HF hidx hOb
      obtain ⟨W2, hW2⟩ : ∃ W2, ((wo.alloc (.cells #[.int .i64 P, .int .i64 T, .string S] 48)).alloc (.cells ((F.map fun l => Value.string ⟨l.toArray⟩).toArray) 9)) = W2 := ⟨_, rfl⟩
      rw [hW2] at HO2 HB2 HG1 HG2 ⊢
      clear hW2
      go_loopw [0, 4, 13] (fun v0 _ vj wr => ∃ (vq : Value) (j : Nat), j ≤ F.length ∧ vq = v0 ∧ vj = .int .i64 j ∧ Hid (OwnO wr w.heap.size vq (X ++ G.take j)) ∧ Hid (Below w.heap.size w wr) ∧ Hid (wr.heap[wo.heap.size]? = some (.cells #[.int .i64 P, .int .i64 T, .string S] 48 (0, 0))) ∧ Hid (wr.heap[wo.heap.size + 1]? = some (.cells ((F.map fun l => Value.string ⟨l.toArray⟩).toArray) 9 (0, 0))) ∧ Hid (vq.ownBlock ≠ some wo.heap.size ∧ vq.ownBlock ≠ some (wo.heap.size + 1))) (fun _ _ vj _ => F.length - (intOf vj).toNat)
      case atStart => exact ⟨_, 0, Nat.zero_le _, rfl, rfl, Lib.hid (by simpa using HO2.out), HB2, HG1, HG2, HNE⟩
      case round =>
        obtain ⟨v0, j, hj, rfl, rfl, hOj, hbj, g1, g2, hne⟩ := hrel
        by_cases hlj : j < F.length
        · obtain ⟨s, hs⟩ : ∃ s, F[j]? = some s := ⟨_, List.getElem?_eq_getElem hlj⟩
          have HST : Hid (X ++ G.take (j + 1) = (X ++ G.take j) ++ [(nm s, T, P)]) := by show _ = _; rw [HGE.out, List.take_add_one, List.getElem?_map, hs]; simp
          have c0 : wr.cell? ⟨wo.heap.size + 1, j, none⟩ = some (.string (nm s)) := by
            rw [cell_of_row _ _ _ _ _ _ g2.out]
            have : (F.map fun l => Value.string ⟨l.toArray⟩)[j]? = some (.string (nm s)) := by rw [List.getElem?_map, hs]; rfl
            simpa using this
          have d0 : wr.cell? ⟨wo.heap.size, 0, none⟩ = some (.int .i64 P) := by rw [cell_of_row _ _ _ _ _ _ g1.out]; rfl
          have d1 : wr.cell? ⟨wo.heap.size, 1, none⟩ = some (.int .i64 T) := by rw [cell_of_row _ _ _ _ _ _ g1.out]; rfl
          have l1 := lt_of_some g1.out
          have l2 := lt_of_some g2.out
          obtain ⟨nn, hnn⟩ : ∃ x, nm s = x := ⟨_, rfl⟩
          rw [hnn] at c0 HST
          have HOk := Lib.hid (hOj.out.alloc (.cells #[.string nn, .int .i64 T, .int .i64 P] 26))
          have HBk := Lib.hid (hbj.out.alloc hbj.out.size (.cells #[.string nn, .int .i64 T, .int .i64 P] 26))
          have HRW := Lib.hid (RowO.new wr (nn, T, P))
          have HLEN : Hid ((X ++ G.take j).length ≤ 100) := Lib.hid (by rw [List.length_append]; have := List.length_take_le j G; have := HPL.out; have := HFL.out; omega)
          have HA1 := Lib.hid ((al0 wr (.cells #[.string nn, .int .i64 T, .int .i64 P] 26)).block _ l1)
          have HA2 := Lib.hid ((al0 wr (.cells #[.string nn, .int .i64 T, .int .i64 P] 26)).block _ l2)
          have l1' : wo.heap.size < (wr.alloc (.cells #[.string nn, .int .i64 T, .int .i64 P] 26)).heap.size := by simp; omega
          have l2' : wo.heap.size + 1 < (wr.alloc (.cells #[.string nn, .int .i64 T, .int .i64 P] 26)).heap.size := by simp; omega
          have HL12 := Lib.hid (And.intro l1' l2')
          have q3 : F.length ≤ 16 := HFL.out
          have q1 : (j : Int) < (F.length : Int) := by omega
          have q2 : (0 : Int) ≤ (j : Int) := by omega
          clear hs hnn l1 l2 l1' l2'
          go_wp2_with (at_builtin; refine wp_appO2 rfl _ _ rfl _ w.heap.size v0 (X ++ G.take j) (nn, T, P) rfl HOk wr.heap.size rfl HRW (by have := HLEN.out; omega) HBk.out.size ?_; intro v' w' hO3 hb3 hk3)
          go_roundw
          case rel =>
            obtain ⟨e1, n1⟩ := hk3.out _ HL12.out.1 hne.out.1
            obtain ⟨e2, n2⟩ := hk3.out _ HL12.out.2 hne.out.2
            exact ⟨_, j + 1, by omega, rfl, by go_num, by rw [HST.out]; exact hO3, Lib.hid (HBk.out.trans hb3.out), Lib.hid (e1.trans (HA1.out.trans g1.out)), Lib.hid (e2.trans (HA2.out.trans g2.out)), Lib.hid ⟨n1, n2⟩⟩
          case measure => simp [intOf]; omega
        · obtain rfl : j = F.length := by omega
          have HE : Hid (G.take F.length = G) := Lib.hid (List.take_of_length_le (by rw [HGE.out, List.length_map]; exact Nat.le_refl _))
          have HOF : Hid (OwnO wr w.heap.size v0 (pre (k + 1))) := by have h := hOj.out; rw [HE.out, ← HPRE.out] at h; exact h
          go_wp2_with fail
          go_roundw
          case rel => exact ⟨_, k + 1, by omega, rfl, by go_num, HOF, hbj⟩
          case measure => simp [intOf]; omega
    · obtain rfl : k = 12 := by omega
      have HOU : Hid (OwnO wo w.heap.size vl U0) := by have h := hO.out; rw [pre12] at h; exact h
      go_wp2_with (go_at_call 35; ((with_reducible refine (HSO.out _ _ hb.out HOU.out).mono ?_); rintro e w2 ⟨rfl, g, cap, rfl, hr, hb2⟩))
      go_ret
      exact ⟨g, cap, rfl, hr, hb2⟩
end Go.Proofs.YtkjkhhifkedflaaDoor
