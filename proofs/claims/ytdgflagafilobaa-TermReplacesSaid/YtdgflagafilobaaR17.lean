/- The contract of the specification's put. -/
import Derived.Test.YtdgflagafilobaaR16
namespace Go.Proofs.Ytdgflagafilobaa
open Go.RowKit Go.Proofs.HT

theorem boxes4 (w : World) (o1 o2 o3 o4 : Obj) : Below w.heap.size w ((((w.alloc o1).alloc o2).alloc o3).alloc o4) ∧ ((((w.alloc o1).alloc o2).alloc o3).alloc o4).heap[w.heap.size]? = some o1 ∧ ((((w.alloc o1).alloc o2).alloc o3).alloc o4).heap[w.heap.size + 1]? = some o2 ∧ ((((w.alloc o1).alloc o2).alloc o3).alloc o4).heap[w.heap.size + 1 + 1]? = some o3 ∧ ((((w.alloc o1).alloc o2).alloc o3).alloc o4).heap[w.heap.size + 1 + 1 + 1]? = some o4 := by
  refine ⟨((((Below.refl w.heap.size w).alloc (Nat.le_refl _) _).alloc (by simp) _).alloc (by simp <;> omega) _).alloc (by simp <;> omega) _, ?_, ?_, ?_, ?_⟩
  · rw [Below.heap_alloc _ _ _ (by simp <;> omega), Below.heap_alloc _ _ _ (by simp <;> omega), Below.heap_alloc _ _ _ (by simp), heap_alloc_new]
  · rw [Below.heap_alloc _ _ _ (by simp <;> omega), Below.heap_alloc _ _ _ (by simp)]; have h := heap_alloc_new (w.alloc o1) o2; simpa using h
  · rw [Below.heap_alloc _ _ _ (by simp)]; have h := heap_alloc_new ((w.alloc o1).alloc o2) o3; simpa using h
  · have h := heap_alloc_new (((w.alloc o1).alloc o2).alloc o3) o4; simpa using h
theorem boxes3 (w : World) (o1 o2 o3 : Obj) : Below w.heap.size w (((w.alloc o1).alloc o2).alloc o3) ∧ (((w.alloc o1).alloc o2).alloc o3).heap[w.heap.size]? = some o1 ∧ (((w.alloc o1).alloc o2).alloc o3).heap[w.heap.size + 1]? = some o2 ∧ (((w.alloc o1).alloc o2).alloc o3).heap[w.heap.size + 1 + 1]? = some o3 := by
  refine ⟨(((Below.refl w.heap.size w).alloc (Nat.le_refl _) _).alloc (by simp) _).alloc (by simp <;> omega) _, ?_, ?_, ?_⟩
  · rw [Below.heap_alloc _ _ _ (by simp <;> omega), Below.heap_alloc _ _ _ (by simp), heap_alloc_new]
  · rw [Below.heap_alloc _ _ _ (by simp)]; have h := heap_alloc_new (w.alloc o1) o2; simpa using h
  · have h := heap_alloc_new ((w.alloc o1).alloc o2) o3; simpa using h
theorem made_endb {w w2 : World} {b c : Nat} {T : Tm} {y : Value} {a0 a1 a2 a3 : Value} (hc : w.heap.size ≤ b) (hcb : b < c) (hb : Below w.heap.size w w2) (hy : OwnT (fun b => c ≤ b ∧ b < w2.heap.size) w2 T y) (h : w2.heap[b]? = some (.cells #[a0, a1, a2, a3] 24 (0, 0)))
    (w3 : World) (e : w3 = ((((w2.setCell ⟨b, 0, none⟩ (.int .i64 T.kind)).setCell ⟨b, 1, none⟩ (.int .i64 T.num)).setCell ⟨b, 2, none⟩ (.string T.name)).setCell ⟨b, 3, none⟩ y)) :
    MadeEnd T w (.returned (tv T y)) w3 := by
  obtain ⟨v, h1, h2, h3⟩ := made_e (n := 0) hc hcb hb hy h w3 e
  cases h1
  exact ⟨y, rfl, h2, h3⟩

theorem put_var_no (x n : Int) (d : Tm) (h : (n == x) = false) : mapT (gR x d) (.mk 0 n ⟨#[]⟩ []) = .mk 0 n ⟨#[]⟩ [] := by
  have h2 : ¬ n = x := by simpa using h
  rw [mapT, if_pos rfl, gR, if_neg h2]; rfl
theorem put_var_yes (n : Int) (d : Tm) : mapT (gR n d) (.mk 0 n ⟨#[]⟩ []) = d := by rw [mapT, if_pos rfl, gR, if_pos rfl]

set_option maxHeartbeats 100000000 in
theorem put_any (vx : Int) (d : Tm) (bv : Value) (hcd : cnt d ≤ 1000000) (t : Tm) : ∀ (v : Value) (w : World), LiesT w t v → LiesT w d bv → cnt t ≤ 1000000 → nodesB t = true → Calls Try.prog 54 #[tv t v, .int .i64 vx, tv d bv] w (MadeEnd (mapT (gR vx d) t) w) := by
  obtain ⟨i0, hi0, hz0, hz1, hz2⟩ := info_parts info24
  induction t using Tm.ind with
  | h k n s ts ih =>
    intro v w hv hd hcnt hnod
    have hlen : ts.length ≤ 1000000 := (cnt_bounds hcnt).1
    rcases hv.len with ⟨rfl, a, cap, rfl⟩ | ⟨b, o, cap, rfl, hpos, hlc, hcap, hl⟩
    · have hI : Hid (I64 k ∧ I64 n ∧ s.size ≤ 9223372036854775807) := by
        show _ ∧ _
        simp only [LiesT] at hv
        exact ⟨hv.1, hv.2.1, hv.2.2.1⟩
      have BL : Hid (∀ o1 o2 o3 o4, Below w.heap.size w ((((w.alloc o1).alloc o2).alloc o3).alloc o4)) := fun o1 o2 o3 o4 => (boxes4 w o1 o2 o3 o4).1
      by_cases hk : k = 0
      · subst hk
        obtain ⟨n0, n1, rfl, _⟩ := node_var (nodes_at hnod).1
        by_cases hn : n = vx
        · have hnb : (n == vx) = true := by simpa using hn
          have hm : mapT (gR vx d) (.mk 0 n ⟨#[]⟩ []) = d := by rw [hn]; exact put_var_yes vx d
          rw [hm]
          clear hm hn
          have HD := Lib.hid hd
          show Calls Try.prog 54 #[.agg #[.int .i64 0, .int .i64 n, .string ⟨#[]⟩, .slice a 0 cap], .int .i64 vx, .agg #[.int .i64 d.kind, .int .i64 d.num, .string d.name, bv]] w _
          clear ih hv hnod hd
          go_enter Try.func54, Try.ntmps54
          go_wp2_with fail
          have HB := boxes3 w (.cells #[.int .i64 0, .int .i64 n, .string ⟨#[]⟩, .slice a 0 cap] 24) (.cells #[.int .i64 d.kind, .int .i64 d.num, .string d.name, bv] 24) (.cells #[.int .i64 0, .int .i64 0, .string ⟨#[]⟩, .slice none 0 0] 24)
          refine (copied_any d bv _ (HD.out.below HB.1) hcd).mono ?_
          rintro e w3 ⟨y, rfl, hy, hb3⟩
          obtain ⟨ya, yc, rfl⟩ := hy.slice
          have K3 := Lib.hid ((hb3.block (w.heap.size + 1 + 1) (by simp)).trans HB.2.2.2)
          have B3 := Lib.hid (HB.1.trans (hb3.mono (by simp <;> omega)))
          have z3 := hb3.size
          have HY := Lib.hid (hy.keep (S' := fun b => w.heap.size + 1 + 1 + 1 ≤ b ∧ b < w3.heap.size) (w' := w3) (fun _ _ => rfl) (fun b hb _ => ⟨by have := hb.1; simp at this; omega, hb.2⟩))
          clear hb3 hy HB
          have c0 : w3.cell? ⟨w.heap.size + 1 + 1, 0, none⟩ = some (.int .i64 0) := by rw [cell_of_row _ _ _ _ _ _ K3.out]; rfl
          have c1 : w3.cell? ⟨w.heap.size + 1 + 1, 1, none⟩ = some (.int .i64 0) := by rw [cell_of_row _ _ _ _ _ _ K3.out]; rfl
          have c2 : w3.cell? ⟨w.heap.size + 1 + 1, 2, none⟩ = some (.string ⟨#[]⟩) := by rw [cell_of_row _ _ _ _ _ _ K3.out]; rfl
          have c3 : w3.cell? ⟨w.heap.size + 1 + 1, 3, none⟩ = some (.slice none 0 0) := by rw [cell_of_row _ _ _ _ _ _ K3.out]; rfl
          have cf0 := frozen_of_row _ _ 0 _ _ K3.out
          have cf1 := frozen_of_row _ _ 1 _ _ K3.out
          have cf2 := frozen_of_row _ _ 2 _ _ K3.out
          have cf3 := frozen_of_row _ _ 3 _ _ K3.out
          go_wp2_with fail
          have FO := four K3.out (.int .i64 d.kind) (.int .i64 d.num) (.string d.name) (.slice ya d.args.length yc)
          have PE := made_endb (b := w.heap.size + 1 + 1) (c := w.heap.size + 1 + 1 + 1) (T := d) (by omega) (by omega) B3.out HY.out K3.out _ rfl
          generalize ((((w3.setCell ⟨w.heap.size + 1 + 1, 0, none⟩ (.int .i64 d.kind)).setCell ⟨w.heap.size + 1 + 1, 1, none⟩ (.int .i64 d.num)).setCell ⟨w.heap.size + 1 + 1, 2, none⟩ (.string d.name)).setCell ⟨w.heap.size + 1 + 1, 3, none⟩ (.slice ya d.args.length yc)) = W3 at *
          have k0 : W3.cell? ⟨w.heap.size + 1 + 1, 0, none⟩ = some (.int .i64 d.kind) := by rw [cell_of_row _ _ _ _ _ _ FO.1]; rfl
          have k1 : W3.cell? ⟨w.heap.size + 1 + 1, 1, none⟩ = some (.int .i64 d.num) := by rw [cell_of_row _ _ _ _ _ _ FO.1]; rfl
          have k2 : W3.cell? ⟨w.heap.size + 1 + 1, 2, none⟩ = some (.string d.name) := by rw [cell_of_row _ _ _ _ _ _ FO.1]; rfl
          have k3 : W3.cell? ⟨w.heap.size + 1 + 1, 3, none⟩ = some (.slice ya d.args.length yc) := by rw [cell_of_row _ _ _ _ _ _ FO.1]; rfl
          exact bodyPost_ret (v := tv d (.slice ya d.args.length yc)) (by simp [results, Try.results54, go_sem, k0, k1, k2, k3]) rfl PE
        · have hnb : (n == vx) = false := by simpa using hn
          rw [put_var_no vx n d hnb]
          show Calls Try.prog 54 #[.agg #[.int .i64 0, .int .i64 n, .string ⟨#[]⟩, .slice a 0 cap], .int .i64 vx, .agg #[.int .i64 d.kind, .int .i64 d.num, .string d.name, bv]] w _
          clear ih hv hnod hd
          go_enter Try.func54, Try.ntmps54
          go_wp2_with fail
          refine wp_loop_rounds 1 ?_
          rw [rounds_succ]
          go_wp2_with fail
          exact bodyPost_ret (v := .agg #[.int .i64 0, .int .i64 n, .string ⟨#[]⟩, .slice none 0 0]) (by simp [results, Try.results54, go_sem]) rfl ⟨_, rfl, by unfold OwnT; exact ⟨hI.out.1, hI.out.2.1, hI.out.2.2, .inl ⟨rfl, rfl⟩⟩, BL.out _ _ _ _⟩
      · have e : mapT (gR vx d) (.mk k n s []) = .mk k n s [] := by rw [mapT, if_neg hk]; rfl
        rw [e]
        have kz : (k == 0) = false := by simpa using hk
        show Calls Try.prog 54 #[.agg #[.int .i64 k, .int .i64 n, .string s, .slice a 0 cap], .int .i64 vx, .agg #[.int .i64 d.kind, .int .i64 d.num, .string d.name, bv]] w _
        clear ih hv hnod e hd
        go_enter Try.func54, Try.ntmps54
        go_wp2_with fail
        refine wp_loop_rounds 1 ?_
        rw [rounds_succ]
        go_wp2_with fail
        exact bodyPost_ret (v := .agg #[.int .i64 k, .int .i64 n, .string s, .slice none 0 0]) (by simp [results, Try.results54, go_sem]) rfl ⟨_, rfl, by unfold OwnT; exact ⟨hI.out.1, hI.out.2.1, hI.out.2.2, .inl ⟨rfl, rfl⟩⟩, BL.out _ _ _ _⟩
    · have hk : ¬ k = 0 := by
        rintro rfl
        have := (node_var (nodes_at hnod).1).2.2.2
        omega
      have e : mapT (gR vx d) (.mk k n s ts) = .mk k n s (mapL (gR vx d) ts) := by rw [mapT, if_neg hk]
      rw [e]
      clear e
      have kz : (k == 0) = false := by simpa using hk
      have HI : Hid (∀ i (hi : i < ts.length) (v : Value) (w : World), LiesT w ts[i] v → LiesT w d bv → Calls Try.prog 54 #[tv ts[i] v, .int .i64 vx, tv d bv] w (MadeEnd (mapT (gR vx d) ts[i]) w)) := fun i hi v w h h2 => ih _ (List.getElem_mem hi) v w h h2 ((cnt_bounds hcnt).2 i hi) ((nodes_at hnod).2 i hi)
      have HL := Lib.hid hl
      have HD := Lib.hid hd
      have hI : Hid (I64 k ∧ I64 n ∧ s.size ≤ 9223372036854775807) := by
        show _ ∧ _
        simp only [LiesT] at hv
        exact ⟨hv.1, hv.2.1, hv.2.2.1⟩
      show Calls Try.prog 54 #[.agg #[.int .i64 k, .int .i64 n, .string s, .slice (some ⟨b, o, none⟩) ts.length cap], .int .i64 vx, .agg #[.int .i64 d.kind, .int .i64 d.num, .string d.name, bv]] w _
      clear ih hv hl hnod hd
      go_enter Try.func54, Try.ntmps54
      go_wp2_with fail
      go_loopw [8] (fun i wr => ∃ (j : Nat) (l : List (Tm × Value)) (x : Value), j ≤ ts.length ∧ i = .int .i64 j ∧ Hid (l.map Prod.fst = (mapL (gR vx d) ts).take j) ∧ Hid (Below w.heap.size w wr) ∧
        Hid (wr.heap[w.heap.size]? = some (.cells #[.int .i64 k, .int .i64 n, .string s, .slice (some ⟨b, o, none⟩) ts.length cap] 24 (0, 0))) ∧
        Hid (wr.heap[w.heap.size + 1]? = some (.cells #[.int .i64 d.kind, .int .i64 d.num, .string d.name, bv] 24 (0, 0))) ∧
        Hid (wr.heap[w.heap.size + 1 + 1]? = some (.cells #[.int .i64 0, .int .i64 0, .string ⟨#[]⟩, .slice none 0 0] 24 (0, 0))) ∧
        Hid (wr.heap[w.heap.size + 1 + 1 + 1]? = some (.cells #[.int .i64 k, .int .i64 n, .string s, x] 24 (0, 0))) ∧
        Hid (wr.ownsRow (w.heap.size + 1 + 1 + 1 + 1) 24 4 x j (flat l)) ∧ Hid (∀ p ∈ l, OwnT (fun b => w.heap.size + 1 + 1 + 1 + 1 ≤ b ∧ b < wr.heap.size ∧ x.ownBlock ≠ some b) wr p.1 p.2)) (fun i _ => ts.length - (intOf i).toNat)
      case atStart =>
        have HB := boxes4 w (.cells #[.int .i64 k, .int .i64 n, .string s, .slice (some ⟨b, o, none⟩) ts.length cap] 24) (.cells #[.int .i64 d.kind, .int .i64 d.num, .string d.name, bv] 24) (.cells #[.int .i64 0, .int .i64 0, .string ⟨#[]⟩, .slice none 0 0] 24) (.cells #[.int .i64 k, .int .i64 n, .string s, .slice none 0 0] 24)
        exact ⟨0, [], .slice none 0 0, by omega, rfl, Lib.hid (by simp), Lib.hid HB.1, Lib.hid HB.2.1, Lib.hid HB.2.2.1, Lib.hid HB.2.2.2.1, Lib.hid HB.2.2.2.2, Lib.hid (World.ownsRow_nil _ _ _ _), Lib.hid (by simp)⟩
      case round =>
        obtain ⟨j, l, x, hj, rfl, hfst, hb, r0, r4, r1, r2, hown, hp⟩ := hrel
        have q0 : wr.cell? ⟨w.heap.size, 3, none⟩ = some (.slice (some ⟨b, o, none⟩) ts.length cap) := by rw [cell_of_row _ _ _ _ _ _ r0.out]; rfl
        by_cases hlt : j < ts.length
        · obtain ⟨u, c0, c1, c2, c3, hu⟩ := HL.out.at j hlt
          have d0 := cell_below hb.out _ _ c0
          have d1 := cell_below hb.out _ _ c1
          have d2 := cell_below hb.out _ _ c2
          have d3 := cell_below hb.out _ _ c3
          have b0 : wr.cell? ⟨w.heap.size + 1, 0, none⟩ = some (.int .i64 d.kind) := by rw [cell_of_row _ _ _ _ _ _ r4.out]; rfl
          have b1 : wr.cell? ⟨w.heap.size + 1, 1, none⟩ = some (.int .i64 d.num) := by rw [cell_of_row _ _ _ _ _ _ r4.out]; rfl
          have b2 : wr.cell? ⟨w.heap.size + 1, 2, none⟩ = some (.string d.name) := by rw [cell_of_row _ _ _ _ _ _ r4.out]; rfl
          have b3 : wr.cell? ⟨w.heap.size + 1, 3, none⟩ = some bv := by rw [cell_of_row _ _ _ _ _ _ r4.out]; rfl
          have HY := Lib.hid (LiesT.keep (w := wr) (w' := wr.drew) (fun _ _ h => h) _ _ (HD.out.below hb.out))
          have HU := Lib.hid (LiesT.keep (w := wr) (w' := wr.drew) (fun _ _ h => h) _ _ (hu.below hb.out))
          have q2 : wr.cell? ⟨w.heap.size + 1 + 1 + 1, 3, none⟩ = some x := by rw [cell_of_row _ _ _ _ _ _ r2.out]; rfl
          clear c0 c1 c2 c3 hu
          have hz : w.heap.size + 1 + 1 + 1 + 1 ≤ wr.heap.size := (Array.getElem?_eq_some_iff.1 r2.out).1
          have m1 : j + 1 ≤ maxLen := by simp only [maxLen]; omega
          have m2 : (j + 1) * 56 ≤ 140737488355328 := by omega
          go_wp2_with fail
          have HR := Lib.hid (fun k hk => hown.out.lt k hk)
          go_region_law (first
            | (go_simp; refine (HI.out j hlt u _ HU.out HY.out).mono ?_; rintro e w1 ⟨y, rfl, hy, hb1⟩; have hy1 := Lib.hid hy.one; have hown1 := Lib.hid (own_below (w := wr.drew) hown.out.drew hb1); have hb1c : Hid (Below wr.heap.size wr w1) := ⟨hb1.os, hb1.tape, hb1.output, hb1.size, hb1.block⟩; have z1 : wr.heap.size ≤ w1.heap.size := hb1.size; have s2 := Lib.hid (block_below (w := wr.drew) hb1 r2.out)
               have p2 : w1.cell? ⟨w.heap.size + 1 + 1 + 1, 3, none⟩ = some x := cell_below (w := wr.drew) hb1 _ _ q2
               have p2b : ∀ ob, (w1.alloc ob).cell? ⟨w.heap.size + 1 + 1 + 1, 3, none⟩ = some x := fun ob => by rw [cell_of_row _ _ _ _ _ _ (alloc_keep s2.out)]; rfl)
            | (refine step_append_lies _ rfl (.tmp 35) (.tmp 44) 22 rfl (w.heap.size + 1 + 1 + 1 + 1) 24 i0 _ 4 56 under22 hi0 hz0 hz1 hz2 rfl (by omega) x j (flat l) (by rfl) (hown1.out.alloc _)
                ⟨w1.heap.size, 0, none⟩ 1 1 [.int .i64 (mapT (gR vx d) ts[j]).kind, .int .i64 (mapT (gR vx d) ts[j]).num, .string (mapT (gR vx d) ts[j]).name, y] (by rfl) (by rfl)
                (World.news_of_block (cs := #[.int .i64 (mapT (gR vx d) ts[j]).kind, .int .i64 (mapT (gR vx d) ts[j]).num, .string (mapT (gR vx d) ts[j]).name, y]) (t := 24) (fr := (0, 0)) (heap_alloc_new w1 _)) (by intro q hq; simp at hq; rcases hq with rfl | rfl | rfl | rfl <;> first | rfl | exact hy1.out)
                (by omega) m1 m2 (by simp at z1 ⊢; omega) (w1.heap.size + 1) (by simp) ?_; intro g cap2 w2 hown2 hgrow hat hgs
               have t2 := grown_keep hgrow (base := w.heap.size + 1 + 1 + 1 + 1) (fun k hk => (HR.out k hk).1) (by omega) (alloc_keep s2.out)
               have p3 : w2.cell? ⟨w.heap.size + 1 + 1 + 1, 3, none⟩ = some x := by rw [cell_of_row _ _ _ _ _ _ t2]; rfl
               have p4 := frozen_of_row _ _ 3 _ _ t2))
          all_goals
            have HG := Lib.hid hgrow
            have HO2 := Lib.hid hown2
            clear hgrow hown2 p2b p2 p3 p4 t2 hb1
            go_wp2
            go_roundw
            case rel =>
              have hr := fun k hk => (HR.out k hk).1
              have kp : ∀ q ob, q < w.heap.size + 1 + 1 + 1 → wr.heap[q]? = some ob → (w2.setCell ⟨w.heap.size + 1 + 1 + 1, 3, none⟩ (.slice (some ⟨g, 0, none⟩) (j + 1) cap2)).heap[q]? = some ob := fun q ob hq h => by
                rw [Below.heap_setCell _ _ _ _ (by simp; omega)]
                exact grown_keep HG.out hr (by omega) (alloc_keep (block_below hb1c.out h))
              have RO := round_own (c := w.heap.size + 1 + 1 + 1) (j := 3) (u := .slice (some ⟨g, 0, none⟩) (j + 1) cap2) hb1c.out hz HR.out HG.out hat (by omega)
              refine ⟨j + 1, l ++ [(mapT (gR vx d) ts[j], y)], .slice (some ⟨g, 0, none⟩) (j + 1) cap2, by omega, by go_num, Lib.hid (take_succ_map (gR vx d) ts j hlt l hfst.out y), Lib.hid ?_, Lib.hid (kp _ _ (by omega) r0.out), Lib.hid (kp _ _ (by omega) r4.out), Lib.hid (kp _ _ (by omega) r1.out), Lib.hid ?_, Lib.hid ?_, Lib.hid ?_⟩
              · exact (((hb.out.trans (hb1c.out.mono hb.out.size)).alloc (by omega) _).grown HG.out (by simp; omega) (fun k hk => by have := hr k hk; omega)).setCell (by simp; omega) _
              · have h := heap_setCell_same w2 _ 3 _ _ (.slice (some ⟨g, 0, none⟩) (j + 1) cap2) (grown_keep HG.out hr (show w.heap.size + 1 + 1 + 1 < _ by omega) (alloc_keep s2.out))
                simpa using h
              · rw [flat_append]
                exact ownsRow_setCell_below HO2.out (by simp) _
              · intro p hq
                rw [List.mem_append] at hq
                rcases hq with hq | hq
                · exact RO.1 _ _ (hp.out p hq)
                · obtain rfl := List.mem_singleton.1 hq
                  exact RO.2 _ _ hy
            case measure => simp [intOf]; omega
        · have e : j = ts.length := by omega
          subst e
          have hx : OwnT (fun b => w.heap.size + 1 + 1 + 1 + 1 ≤ b ∧ b < wr.heap.size) wr (.mk k n s (mapL (gR vx d) ts)) x := by
            have hln : ts.length = l.length := by
              have := congrArg List.length hfst.out
              rw [List.take_of_length_le (by rw [mapL_length]; exact Nat.le_refl _), mapL_length, List.length_map] at this
              exact this.symm
            have h1 := OwnT.of_row (S := fun b => w.heap.size + 1 + 1 + 1 + 1 ≤ b ∧ b < wr.heap.size) hI.out.1 hI.out.2.1 hI.out.2.2 hln hown.out (fun b hb => by have := hown.out.lt b hb; exact ⟨by omega, this.2⟩)
              (fun p hq => (hp.out p hq).keep (fun _ _ => rfl) (fun b hb _ => ⟨by have := hb.1; omega, hb.2.1⟩))
            rw [hfst.out, List.take_of_length_le (by rw [mapL_length]; exact Nat.le_refl _)] at h1
            exact h1
          have e0 : wr.cell? ⟨w.heap.size + 1 + 1 + 1, 0, none⟩ = some (.int .i64 k) := by rw [cell_of_row _ _ _ _ _ _ r2.out]; rfl
          have e1 : wr.cell? ⟨w.heap.size + 1 + 1 + 1, 1, none⟩ = some (.int .i64 n) := by rw [cell_of_row _ _ _ _ _ _ r2.out]; rfl
          have e2 : wr.cell? ⟨w.heap.size + 1 + 1 + 1, 2, none⟩ = some (.string s) := by rw [cell_of_row _ _ _ _ _ _ r2.out]; rfl
          have e3 : wr.cell? ⟨w.heap.size + 1 + 1 + 1, 3, none⟩ = some x := by rw [cell_of_row _ _ _ _ _ _ r2.out]; rfl
          have f0 : wr.cell? ⟨w.heap.size + 1 + 1, 0, none⟩ = some (.int .i64 0) := by rw [cell_of_row _ _ _ _ _ _ r1.out]; rfl
          have f1 : wr.cell? ⟨w.heap.size + 1 + 1, 1, none⟩ = some (.int .i64 0) := by rw [cell_of_row _ _ _ _ _ _ r1.out]; rfl
          have f2 : wr.cell? ⟨w.heap.size + 1 + 1, 2, none⟩ = some (.string ⟨#[]⟩) := by rw [cell_of_row _ _ _ _ _ _ r1.out]; rfl
          have f3 : wr.cell? ⟨w.heap.size + 1 + 1, 3, none⟩ = some (.slice none 0 0) := by rw [cell_of_row _ _ _ _ _ _ r1.out]; rfl
          have g0 := frozen_of_row _ _ 0 _ _ r1.out
          have g1 := frozen_of_row _ _ 1 _ _ r1.out
          have g2 := frozen_of_row _ _ 2 _ _ r1.out
          have g3 := frozen_of_row _ _ 3 _ _ r1.out
          obtain ⟨xa, xc, hxe⟩ := (OwnT.lies _ _ hx).slice
          simp only [Tm.args, mapL_length] at hxe
          subst hxe
          have HX := Lib.hid hx
          clear hx
          go_wp2_with fail
          have W4 := heap_setCell_same _ _ 3 _ _ (.slice xa ts.length xc) (heap_setCell_same _ _ 2 _ _ (.string s) (heap_setCell_same _ _ 1 _ _ (.int .i64 n) (heap_setCell_same _ _ 0 _ _ (.int .i64 k) r1.out)))
          simp only [Array.setIfInBounds, List.size_toArray, List.length_cons, List.length_nil, Nat.reduceAdd, Nat.reduceLT, dite_true, List.set_toArray, List.set_cons_zero, List.set_cons_succ, Array.set] at W4
          have BL := Lib.hid ((((hb.out.setCell (p := ⟨w.heap.size + 1 + 1, 0, none⟩) (by simp <;> omega) (.int .i64 k)).setCell (p := ⟨w.heap.size + 1 + 1, 1, none⟩) (by simp <;> omega) (.int .i64 n)).setCell (p := ⟨w.heap.size + 1 + 1, 2, none⟩) (by simp <;> omega) (.string s)).setCell (p := ⟨w.heap.size + 1 + 1, 3, none⟩) (by simp <;> omega) (.slice xa ts.length xc))
          have OW := Lib.hid (HX.out.keep (S' := fun b => w.heap.size ≤ b ∧ b < wr.heap.size) (w' := (((wr.setCell ⟨w.heap.size + 1 + 1, 0, none⟩ (.int .i64 k)).setCell ⟨w.heap.size + 1 + 1, 1, none⟩ (.int .i64 n)).setCell ⟨w.heap.size + 1 + 1, 2, none⟩ (.string s)).setCell ⟨w.heap.size + 1 + 1, 3, none⟩ (.slice xa ts.length xc))
            (fun b hb => by rw [Below.heap_setCell _ _ _ _ (by simp; omega), Below.heap_setCell _ _ _ _ (by simp; omega), Below.heap_setCell _ _ _ _ (by simp; omega), Below.heap_setCell _ _ _ _ (by simp; omega)]) (fun b hb _ => ⟨by omega, hb.2⟩))
          have ZZ : wr.heap.size = ((((wr.setCell ⟨w.heap.size + 1 + 1, 0, none⟩ (.int .i64 k)).setCell ⟨w.heap.size + 1 + 1, 1, none⟩ (.int .i64 n)).setCell ⟨w.heap.size + 1 + 1, 2, none⟩ (.string s)).setCell ⟨w.heap.size + 1 + 1, 3, none⟩ (.slice xa ts.length xc)).heap.size := by simp [World.setCell]
          rw [ZZ] at OW
          generalize ((((wr.setCell ⟨w.heap.size + 1 + 1, 0, none⟩ (.int .i64 k)).setCell ⟨w.heap.size + 1 + 1, 1, none⟩ (.int .i64 n)).setCell ⟨w.heap.size + 1 + 1, 2, none⟩ (.string s)).setCell ⟨w.heap.size + 1 + 1, 3, none⟩ (.slice xa ts.length xc)) = W at *
          have k0 : W.cell? ⟨w.heap.size + 1 + 1, 0, none⟩ = some (.int .i64 k) := by rw [cell_of_row _ _ _ _ _ _ W4]; rfl
          have k1 : W.cell? ⟨w.heap.size + 1 + 1, 1, none⟩ = some (.int .i64 n) := by rw [cell_of_row _ _ _ _ _ _ W4]; rfl
          have k2 : W.cell? ⟨w.heap.size + 1 + 1, 2, none⟩ = some (.string s) := by rw [cell_of_row _ _ _ _ _ _ W4]; rfl
          have k3 : W.cell? ⟨w.heap.size + 1 + 1, 3, none⟩ = some (.slice xa ts.length xc) := by rw [cell_of_row _ _ _ _ _ _ W4]; rfl
          exact bodyPost_ret (v := .agg #[.int .i64 k, .int .i64 n, .string s, .slice xa ts.length xc]) (by simp [results, Try.results54, go_sem, k0, k1, k2, k3]) rfl ⟨_, rfl, OW.out, BL.out⟩

end Go.Proofs.Ytdgflagafilobaa
