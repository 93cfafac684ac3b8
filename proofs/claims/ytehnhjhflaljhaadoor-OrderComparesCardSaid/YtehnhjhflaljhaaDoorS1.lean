/- The program's substitute with the function hornbeam/term.Var. -/
import Derived.Test.YtehnhjhflaljhaaDoorS0
import Derived.Laws.EntriesVeiled
namespace Go.Proofs.YtehnhjhflaljhaaDoor
open Go.RowKit Go.Proofs.HT

set_option maxHeartbeats 4000000 in
theorem subst_var (V : List Int → (Nat → Prop) → World → Prop) (hk : VisKeep V) (W : World) (own : Nat → Prop) (g : Int → Tm) (L : List Int) 
    (HS : Hid (∀ xs n w, V xs own w → numB n = true → Below W.heap.size W w → addv xs n <+: L → Calls Tryd.prog 82 #[.int .i64 n] w (PutEnd V W own (g n) (addv xs n) w))) (t : Tm) :
    ∀ (v : Value) (xs : List Int) (w : World), LiesT W t v → V xs own w → Below W.heap.size W w → nodesB t = true → varsF xs t <+: L →
    Calls Tryd.prog 81 #[tv t v, .func (.func 82) #[] #[]] w (PutEnd V W own (mapT g t) (varsF xs t) w) := by
  obtain ⟨i0, hi0, hz0, hz1, hz2⟩ := info_parts info24
  induction t using Tm.ind with
  | h k n s ts ih =>
    intro v xs w hv hV hb hnod hpre
    have hbz := hb.size
    have LT := Lib.hid (fun g hg => hk.lt xs own w g hV hg)
    have V2 : Hid (∀ o1 o2, V xs own ((w.alloc o1).alloc o2)) := fun o1 o2 => hk.keep _ _ _ _ hV (fun g hg => by rw [Below.heap_alloc _ _ _ (by have := LT.out g hg; simp; omega), Below.heap_alloc _ _ _ (LT.out g hg)]) (by simp; omega)
    have B2 : Hid (∀ o1 o2, Below W.heap.size W ((w.alloc o1).alloc o2)) := fun o1 o2 => (hb.alloc hbz _).alloc (by simp; omega) _
    have R2 : Hid (∀ o1 o2, ((w.alloc o1).alloc o2).heap[w.heap.size]? = some o1 ∧ ((w.alloc o1).alloc o2).heap[w.heap.size + 1]? = some o2 ∧ ((w.alloc o1).alloc o2).heap.size = w.heap.size + 2 ∧ ∀ g, g < w.heap.size → ((w.alloc o1).alloc o2).heap[g]? = w.heap[g]?) := fun o1 o2 =>
      ⟨by rw [Below.heap_alloc _ _ _ (by simp), heap_alloc_new], by have h := heap_alloc_new (w.alloc o1) o2; simpa using h, by simp, fun g hg => by rw [Below.heap_alloc _ _ _ (by simp; omega), Below.heap_alloc _ _ _ hg]⟩
    have HK := Lib.hid hk
    have hnd := (nodes_at hnod).1
    by_cases h0 : k = 0
    · subst h0
      obtain ⟨n0, n1, rfl, hl0⟩ := node_var hnd
      obtain rfl : ts = [] := List.length_eq_zero_iff.1 hl0
      have hq : numB n = true := numB_iff.2 ⟨n0, n1⟩
      have HPRE : Hid (addv xs n <+: L) := by show _; rw [← varsF_var xs n ⟨#[]⟩]; exact hpre
      have E0 : Hid (varsF xs (.mk 0 n ⟨#[]⟩ []) = addv xs n) := varsF_var xs n ⟨#[]⟩
      have E1 : Hid (mapT g (.mk 0 n ⟨#[]⟩ []) = g n) := by show _ = _; simp [mapT]
      clear hnd hnod hpre hV hb ih hv hk
      rw [E0.out, E1.out]
      simp only [tv, Tm.kind, Tm.num, Tm.name]
      go_enter Tryd.func81, Tryd.ntmps81
      go_wp2_with (go_at_call 82; refine (HS.out xs n _ (V2.out _ _) hq (B2.out _ _) HPRE.out).mono ?_; rintro e w2 ⟨y, rfl, hy, hV2, hz2, hf2, hb2⟩; obtain ⟨ya, yc, rfl⟩ := hy.slice; have Z2 := Lib.hid hz2; have K1 := Lib.hid ((hf2 (w.heap.size + 1) (by simp) (fun h => by have := LT.out _ h; omega)).trans (R2.out _ _).2.1); have KF : Hid (∀ g, g < w.heap.size → ¬ own g → w2.heap[g]? = w.heap[g]?) := fun g hg ho => (hf2 g (by simp; omega) ho).trans ((R2.out _ _).2.2.2 g hg); have KV := Lib.hid hV2; have KB := Lib.hid hb2; have KY := Lib.hid hy; have c0 : w2.cell? ⟨w.heap.size + 1, 0, none⟩ = some (.int .i64 0) := (by rw [cell_of_row _ _ _ _ _ _ K1.out]; rfl); have c1 : w2.cell? ⟨w.heap.size + 1, 1, none⟩ = some (.int .i64 0) := (by rw [cell_of_row _ _ _ _ _ _ K1.out]; rfl); have c2 : w2.cell? ⟨w.heap.size + 1, 2, none⟩ = some (.string ⟨#[]⟩) := (by rw [cell_of_row _ _ _ _ _ _ K1.out]; rfl); have c3 : w2.cell? ⟨w.heap.size + 1, 3, none⟩ = some (.slice none 0 0) := (by rw [cell_of_row _ _ _ _ _ _ K1.out]; rfl); have f0 := frozen_of_row _ _ 0 _ _ K1.out; have f1 := frozen_of_row _ _ 1 _ _ K1.out; have f2 := frozen_of_row _ _ 2 _ _ K1.out; have f3 := frozen_of_row _ _ 3 _ _ K1.out; clear hy hV2 hz2 hf2 hb2)
      have FO := four K1.out (.int .i64 (g n).kind) (.int .i64 (g n).num) (.string (g n).name) (.slice ya (g n).args.length yc)
      have PE := put_end (T := g n) HK.out (fun g hg => LT.out g hg) hbz (by have := Z2.out; simp at this; omega) (KY.out.keep (fun _ _ => rfl) (fun b hb _ => by have := hb.1; simp at this; exact ⟨by omega, hb.2⟩)) KV.out KF.out KB.out K1.out _ rfl
      generalize ((((w2.setCell ⟨w.heap.size + 1, 0, none⟩ (.int .i64 (g n).kind)).setCell ⟨w.heap.size + 1, 1, none⟩ (.int .i64 (g n).num)).setCell ⟨w.heap.size + 1, 2, none⟩ (.string (g n).name)).setCell ⟨w.heap.size + 1, 3, none⟩ (.slice ya (g n).args.length yc)) = W3 at *
      have k0 : W3.cell? ⟨w.heap.size + 1, 0, none⟩ = some (.int .i64 (g n).kind) := by rw [cell_of_row _ _ _ _ _ _ FO.1]; rfl
      have k1 : W3.cell? ⟨w.heap.size + 1, 1, none⟩ = some (.int .i64 (g n).num) := by rw [cell_of_row _ _ _ _ _ _ FO.1]; rfl
      have k2 : W3.cell? ⟨w.heap.size + 1, 2, none⟩ = some (.string (g n).name) := by rw [cell_of_row _ _ _ _ _ _ FO.1]; rfl
      have k3 : W3.cell? ⟨w.heap.size + 1, 3, none⟩ = some (.slice ya (g n).args.length yc) := by rw [cell_of_row _ _ _ _ _ _ FO.1]; rfl
      exact bodyPost_ret (v := tv (g n) (.slice ya (g n).args.length yc)) (by simp [results, Tryd.results81, go_sem, k0, k1, k2, k3]) rfl PE
    · have E0 : Hid (varsF xs (.mk k n s ts) = varsL xs ts) := varsF_not xs k n s ts h0
      have E1 : Hid (mapT g (.mk k n s ts) = .mk k n s (mapL g ts)) := by show _ = _; simp [mapT, h0]
      by_cases h3 : k = 3
      · subst h3
        have hlen : 1 ≤ ts.length ∧ ts.length ≤ 8 ∧ n = 0 := by simp only [nodeB] at hnd; simp at hnd; omega
        obtain ⟨hl1, hl8, rfl⟩ := hlen
        have HPRE : Hid (varsL xs ts <+: L) := by show _; rw [← E0.out]; exact hpre
        have HI : Hid (∀ (i : Nat) (hi : i < ts.length) (v : Value) (xs : List Int) (w : World), LiesT W ts[i] v → V xs own w → Below W.heap.size W w → nodesB ts[i] = true → varsF xs ts[i] <+: L →
    Calls Tryd.prog 81 #[tv ts[i] v, .func (.func 82) #[] #[]] w (PutEnd V W own (mapT g ts[i]) (varsF xs ts[i]) w)) := fun i hi => ih _ (List.getElem_mem hi)
        have HNOD := Lib.hid (nodes_at hnod).2
        have hI : Hid (s.size ≤ 9223372036854775807) := by
          show _
          simp only [LiesT] at hv
          exact hv.2.2.1
        rcases hv.len with ⟨rfl, a, cap, rfl⟩ | ⟨b, o, cap, rfl, hpos, hlc, hcap, hl⟩
        · simp at hl1
        · have HL := Lib.hid hl
          have hmk : ∀ w, (Instr.makeSlice 22 (.int .i64 ts.length) (.int .i64 ts.length)).run Tryd.prog w = .ok (.slice (some ⟨w.heap.size, 0, none⟩) ts.length ts.length) (w.alloc (.cells (mk0 ts.length) 24)) := fun w => by
            have h := run_make (P := Tryd.prog) w 22 24 i0 _ under22 hi0 hz0 .i64 .i64 ts.length ts.length (by omega) (by omega) (by rw [hz2]; omega) (by omega)
            simp only [Int.toNat_natCast, hz1] at h
            exact h
          have V3 : Hid (∀ o1 o2 o3, V xs own (((w.alloc o1).alloc o2).alloc o3)) := fun o1 o2 o3 => HK.out.keep _ _ _ _ (V2.out o1 o2) (fun g hg => by rw [Below.heap_alloc _ _ _ (by have := LT.out g hg; simp; omega)]) (by simp)
          have B3 : Hid (∀ o1 o2 o3, Below W.heap.size W (((w.alloc o1).alloc o2).alloc o3)) := fun o1 o2 o3 => (B2.out o1 o2).alloc (by simp; omega) _
          have R3 : Hid (∀ o1 o2 o3, (((w.alloc o1).alloc o2).alloc o3).heap[w.heap.size]? = some o1 ∧ (((w.alloc o1).alloc o2).alloc o3).heap[w.heap.size + 1]? = some o2 ∧ (((w.alloc o1).alloc o2).alloc o3).heap[w.heap.size + 1 + 1]? = some o3 ∧ ∀ g, g < w.heap.size → (((w.alloc o1).alloc o2).alloc o3).heap[g]? = w.heap[g]?) := fun o1 o2 o3 =>
            ⟨by rw [Below.heap_alloc _ _ _ (by simp; omega)]; exact (R2.out o1 o2).1, by rw [Below.heap_alloc _ _ _ (by simp)]; exact (R2.out o1 o2).2.1, by have h := heap_alloc_new ((w.alloc o1).alloc o2) o3; simpa using h, fun g hg => by rw [Below.heap_alloc _ _ _ (by simp; omega)]; exact (R2.out o1 o2).2.2.2 g hg⟩
          clear hnd hnod hpre hV hb ih hv hk hl hi0 hz0 hz1 hz2 h0
          rw [E0.out, E1.out]
          simp only [tv, Tm.kind, Tm.num, Tm.name]
          go_enter Tryd.func81, Tryd.ntmps81
          go_wp2_with fail
          go_loopw [25] (fun i wr => ∃ (j : Nat) (l : List (Tm × Value)) (cs : Array Value), j ≤ ts.length ∧ i = .int .i64 j ∧ Hid (l.map Prod.fst = (mapL g ts).take j) ∧ Hid (Below W.heap.size W wr) ∧ Hid (w.heap.size + 3 ≤ wr.heap.size) ∧
            Hid (wr.heap[w.heap.size]? = some (.cells #[.int .i64 3, .int .i64 0, .string s, .slice (some ⟨b, o, none⟩) ts.length cap] 24 (0, 0))) ∧
            Hid (wr.heap[w.heap.size + 1]? = some (.cells #[.int .i64 0, .int .i64 0, .string ⟨#[]⟩, .slice none 0 0] 24 (0, 0))) ∧
            Hid (wr.heap[w.heap.size + 1 + 1]? = some (.cells cs 24 (0, 0))) ∧ Hid (cs.size = ts.length * 4) ∧ Hid (∀ (k : Nat) (u : Value), (flat l)[k]? = some u → cs[k]? = some u) ∧
            Hid (∀ p ∈ l, OwnT (fun x => w.heap.size + 3 ≤ x ∧ x < wr.heap.size) wr p.1 p.2) ∧ Hid (V (varsL xs (ts.take j)) own wr) ∧ Hid (∀ g, g < w.heap.size → ¬ own g → wr.heap[g]? = w.heap[g]?)) (fun i _ => ts.length - (intOf i).toNat)
          case atStart =>
            exact ⟨0, [], _, by omega, rfl, Lib.hid (by simp), B3.out _ _ _, Lib.hid (by simp), (R3.out _ _ _).1, (R3.out _ _ _).2.1, (R3.out _ _ _).2.2.1, mk0_size _, Lib.hid (by simp [flat]), Lib.hid (by simp), Lib.hid (by simpa [varsL] using V3.out _ _ _), fun g hg _ => (R3.out _ _ _).2.2.2 g hg⟩
          case round =>
            obtain ⟨j, l, cs, hj, rfl, hfst, rB, rz, r0, r1, r2, rcs, rfl2, rp, rV, rF⟩ := hrel
            by_cases hlt : j < ts.length
            · obtain ⟨u, c0, c1, c2, c3, hu⟩ := HL.out.at j hlt
              obtain ⟨ua, uc, rfl⟩ := hu.slice
              have d0 := cell_below rB.out _ _ c0
              have d1 := cell_below rB.out _ _ c1
              have d2 := cell_below rB.out _ _ c2
              have d3 := cell_below rB.out _ _ c3
              have HU := Lib.hid hu
              clear hu c0 c1 c2 c3
              have VA : Hid (∀ O, V (varsL xs (ts.take j)) own (wr.alloc O)) := fun O => HK.out.keep _ _ _ _ rV.out (fun g hg => Below.heap_alloc _ _ _ (HK.out.lt _ _ _ _ rV.out hg)) (by simp)
              have BA : Hid (∀ O, Below W.heap.size W (wr.alloc O)) := fun O => rB.out.alloc rB.out.size O
              have HKP : Hid (∀ O g, g < wr.heap.size → (wr.alloc O).heap[g]? = wr.heap[g]?) := fun O g h => Below.heap_alloc _ _ _ h
              have HP : Hid (varsF (varsL xs (ts.take j)) ts[j] <+: L) := by show _; rw [← varsL_take xs ts j hlt]; exact (varsL_take_pre xs ts (j + 1)).trans HPRE.out
              have hcs := rcs.out
              have hj4 : j * 4 + 3 < cs.size := by omega
              have ZR := rz.out
              have z0 : w.heap.size < wr.heap.size := by omega
              have z1 : w.heap.size + 1 < wr.heap.size := by omega
              have z2 : w.heap.size + 1 + 1 < wr.heap.size := by omega
              go_wp2_with (go_at_call 81; refine (HI.out j hlt _ (varsL xs (ts.take j)) _ HU.out (VA.out _) (BA.out _) (HNOD.out j hlt) HP.out).mono ?_; rintro e w3 ⟨y, rfl, hy, hV3, hz3, hf3, hb3⟩; obtain ⟨ya, yc, rfl⟩ := hy.slice; have Z3 := Lib.hid (show wr.heap.size + 1 ≤ w3.heap.size by simpa using hz3); have F3 : Hid (∀ g, g < wr.heap.size → ¬ own g → w3.heap[g]? = wr.heap[g]?) := fun g hg ho => (hf3 g (by simp; omega) ho).trans (HKP.out _ g hg); have K2 := Lib.hid ((F3.out (w.heap.size + 1 + 1) z2 (fun h => by have := LT.out _ h; omega)).trans r2.out); have KV := Lib.hid hV3; have KB := Lib.hid hb3; have KY := Lib.hid hy; have e0 : w3.cell? ⟨w.heap.size + 1 + 1, j * 4, none⟩ = some (cs[j * 4]'(by omega)) := (by rw [cell_of_row _ _ _ _ _ _ K2.out]; exact Array.getElem?_eq_getElem _); have e1 : w3.cell? ⟨w.heap.size + 1 + 1, j * 4 + 1, none⟩ = some (cs[j * 4 + 1]'(by omega)) := (by rw [cell_of_row _ _ _ _ _ _ K2.out]; exact Array.getElem?_eq_getElem _); have e2 : w3.cell? ⟨w.heap.size + 1 + 1, j * 4 + 2, none⟩ = some (cs[j * 4 + 2]'(by omega)) := (by rw [cell_of_row _ _ _ _ _ _ K2.out]; exact Array.getElem?_eq_getElem _); have e3 : w3.cell? ⟨w.heap.size + 1 + 1, j * 4 + 3, none⟩ = some (cs[j * 4 + 3]'(by omega)) := (by rw [cell_of_row _ _ _ _ _ _ K2.out]; exact Array.getElem?_eq_getElem _); have f0 := frozen_of_row _ _ (j * 4) _ _ K2.out; have f1 := frozen_of_row _ _ (j * 4 + 1) _ _ K2.out; have f2 := frozen_of_row _ _ (j * 4 + 2) _ _ K2.out; have f3 := frozen_of_row _ _ (j * 4 + 3) _ _ K2.out; clear hy hV3 hz3 hf3 hb3)
              go_roundw
              case rel =>
                obtain ⟨⟨cs', A0, A1, A2, A3, A4, A5, A6⟩, FB, FC, FD⟩ := fourAt K2.out j hj4 (.int .i64 (mapT g ts[j]).kind) (.int .i64 (mapT g ts[j]).num) (.string (mapT g ts[j]).name) (.slice ya (mapT g ts[j]).args.length yc)
                have hll : l.length = j := by
                  have h := congrArg List.length hfst.out
                  simp [mapL_length] at h; omega
                have Z3 := Z3.out
                refine ⟨j + 1, l ++ [(mapT g ts[j], .slice ya (mapT g ts[j]).args.length yc)], cs', by omega, by go_num, Lib.hid (take_succ_map g ts j hlt l hfst.out _), Lib.hid (FD _ _ (by omega) KB.out), Lib.hid (by omega), Lib.hid ?_, Lib.hid ?_, Lib.hid A0, Lib.hid (by omega), Lib.hid ?_, Lib.hid ?_, Lib.hid ?_, Lib.hid ?_⟩
                · exact (FB _ (by omega)).trans ((F3.out _ z0 (fun h => by have := LT.out _ h; omega)).trans r0.out)
                · exact (FB _ (by omega)).trans ((F3.out _ z1 (fun h => by have := LT.out _ h; omega)).trans r1.out)
                · intro k u hku
                  rw [flat_append] at hku
                  have hfl := flat_length l
                  by_cases hk : k < (flat l).length
                  · rw [List.getElem?_append_left hk] at hku
                    rw [A6 k (by omega)]; exact rfl2.out k u hku
                  · rw [List.getElem?_append_right (by omega)] at hku
                    have hk4 : k - (flat l).length < 4 := by
                      have := (List.getElem?_eq_some_iff.1 hku).1
                      simpa [flat] using this
                    have hkk : k = j * 4 ∨ k = j * 4 + 1 ∨ k = j * 4 + 2 ∨ k = j * 4 + 3 := by omega
                    rcases hkk with rfl | rfl | rfl | rfl
                    · rw [show j * 4 - (flat l).length = 0 by omega] at hku; rw [A2, ← hku]; rfl
                    · rw [show j * 4 + 1 - (flat l).length = 1 by omega] at hku; rw [A3, ← hku]; rfl
                    · rw [show j * 4 + 2 - (flat l).length = 2 by omega] at hku; rw [A4, ← hku]; rfl
                    · rw [show j * 4 + 3 - (flat l).length = 3 by omega] at hku; rw [A5, ← hku]; rfl
                · intro p hp
                  rw [List.mem_append] at hp
                  rcases hp with hp | hp
                  · refine (rp.out p hp).keep (fun b hb => (FB b (by omega)).trans (F3.out b hb.2 (fun h => by have := LT.out _ h; omega))) (fun b hb _ => ⟨hb.1, by omega⟩)
                  · obtain rfl := List.mem_singleton.1 hp
                    refine KY.out.keep (fun b hb => FB b (by have := hb.1; simp at this; omega)) (fun b hb _ => by have := hb.1; simp at this; exact ⟨by omega, by omega⟩)
                · rw [varsL_take xs ts j hlt]
                  exact HK.out.keep _ _ _ _ KV.out (fun g hg => FB g (by have := LT.out g hg; omega)) (by omega)
                · intro g hg ho
                  exact (FB g (by omega)).trans ((F3.out g (by omega) ho).trans (rF.out g hg ho))
              case measure => simp [intOf]; omega
            · have e : j = ts.length := by omega
              subst e
              have q0 : wr.cell? ⟨w.heap.size, 2, none⟩ = some (.string s) := by rw [cell_of_row _ _ _ _ _ _ r0.out]; rfl
              go_wp2_with (go_at_call 84; refine (structure_any _ _ _ _ _).mono ?_; rintro e w3 ⟨rfl, hb3⟩; have K1 := Lib.hid ((hb3.block (w.heap.size + 1) (by have := rz.out; omega)).trans r1.out); have KB := Lib.hid hb3; have c0 : w3.cell? ⟨w.heap.size + 1, 0, none⟩ = some (.int .i64 0) := (by rw [cell_of_row _ _ _ _ _ _ K1.out]; rfl); have c1 : w3.cell? ⟨w.heap.size + 1, 1, none⟩ = some (.int .i64 0) := (by rw [cell_of_row _ _ _ _ _ _ K1.out]; rfl); have c2 : w3.cell? ⟨w.heap.size + 1, 2, none⟩ = some (.string ⟨#[]⟩) := (by rw [cell_of_row _ _ _ _ _ _ K1.out]; rfl); have c3 : w3.cell? ⟨w.heap.size + 1, 3, none⟩ = some (.slice none 0 0) := (by rw [cell_of_row _ _ _ _ _ _ K1.out]; rfl); have f0 := frozen_of_row _ _ 0 _ _ K1.out; have f1 := frozen_of_row _ _ 1 _ _ K1.out; have f2 := frozen_of_row _ _ 2 _ _ K1.out; have f3 := frozen_of_row _ _ 3 _ _ K1.out; clear hb3)
              have hll : l.length = ts.length := by
                have h := congrArg List.length hfst.out
                simp [mapL_length] at h; omega
              have hz3 := KB.out.size
              have ZR := rz.out
              have OW : OwnT (fun b => w.heap.size + 2 ≤ b ∧ b < w3.heap.size) w3 (.mk 3 0 s (mapL g ts)) (.slice (some ⟨w.heap.size + 1 + 1, 0, none⟩) ts.length ts.length) := by
                unfold OwnT
                refine ⟨⟨by omega, by omega⟩, ⟨by omega, by omega⟩, hI.out, .inr ⟨w.heap.size + 1 + 1, ts.length, by rw [mapL_length], by rw [mapL_length]; omega, by omega, ⟨by omega, by omega⟩, ⟨cs, _, (KB.out.block _ (by omega)).trans r2.out⟩, ?_⟩⟩
                have h := OwnL.of_cells (S := fun b => w.heap.size + 2 ≤ b ∧ b < w3.heap.size) (w := w3) (g := w.heap.size + 1 + 1) l 0 (fun k u hk => by
                  rw [Nat.zero_add, cell_of_row _ _ _ _ _ _ ((KB.out.block _ (by omega)).trans r2.out)]; exact rfl2.out k u hk)
                  (fun p hp => (rp.out p hp).keep (fun b hb => KB.out.block b hb.2) (fun b hb _ => ⟨by omega, by omega⟩))
                rw [hfst.out, List.take_of_length_le (by rw [mapL_length]; omega)] at h
                exact h
              have VW : V (varsL xs ts) own w3 := by
                have h := rV.out
                rw [List.take_length] at h
                exact HK.out.keep _ _ _ _ h (fun g hg => KB.out.block g (HK.out.lt _ _ _ _ h hg)) hz3
              have FO := four K1.out (.int .i64 3) (.int .i64 0) (.string s) (.slice (some ⟨w.heap.size + 1 + 1, 0, none⟩) ts.length ts.length)
              have PE := put_end (T := .mk 3 0 s (mapL g ts)) HK.out (fun g hg => LT.out g hg) hbz (by omega) OW VW (fun g hg ho => (KB.out.block g (by omega)).trans (rF.out g hg ho)) (rB.out.trans (KB.out.mono rB.out.size)) K1.out _ rfl
              simp only [Tm.kind, Tm.num, Tm.name] at PE
              generalize ((((w3.setCell ⟨w.heap.size + 1, 0, none⟩ (.int .i64 3)).setCell ⟨w.heap.size + 1, 1, none⟩ (.int .i64 0)).setCell ⟨w.heap.size + 1, 2, none⟩ (.string s)).setCell ⟨w.heap.size + 1, 3, none⟩ (.slice (some ⟨w.heap.size + 1 + 1, 0, none⟩) ts.length ts.length)) = W3 at *
              have k0 : W3.cell? ⟨w.heap.size + 1, 0, none⟩ = some (.int .i64 3) := by rw [cell_of_row _ _ _ _ _ _ FO.1]; rfl
              have k1 : W3.cell? ⟨w.heap.size + 1, 1, none⟩ = some (.int .i64 0) := by rw [cell_of_row _ _ _ _ _ _ FO.1]; rfl
              have k2 : W3.cell? ⟨w.heap.size + 1, 2, none⟩ = some (.string s) := by rw [cell_of_row _ _ _ _ _ _ FO.1]; rfl
              have k3 : W3.cell? ⟨w.heap.size + 1, 3, none⟩ = some (.slice (some ⟨w.heap.size + 1 + 1, 0, none⟩) ts.length ts.length) := by rw [cell_of_row _ _ _ _ _ _ FO.1]; rfl
              exact bodyPost_ret (v := pv 3 0 s (.slice (some ⟨w.heap.size + 1 + 1, 0, none⟩) ts.length ts.length)) (by simp [results, Tryd.results81, go_sem, k0, k1, k2, k3]) rfl PE
      · have hts : ts = [] := by
          simp only [nodeB] at hnd
          rw [if_neg h0] at hnd
          by_cases h1 : k = 1
          · rw [if_pos h1] at hnd; simp at hnd; exact hnd.2
          · rw [if_neg h1] at hnd
            by_cases h2 : k = 2
            · rw [if_pos h2] at hnd; simp at hnd; exact hnd.2.2
            · rw [if_neg h2, if_neg h3] at hnd; cases hnd
        subst hts
        have hI : Hid (I64 k ∧ I64 n ∧ s.size ≤ 9223372036854775807) := by
          show _ ∧ _
          simp only [LiesT] at hv
          exact ⟨hv.1, hv.2.1, hv.2.2.1⟩
        have E2 : Hid (mapT g (.mk k n s []) = .mk k n s []) := by show _ = _; rw [E1.out]; rfl
        have E3 : Hid (varsF xs (.mk k n s []) = xs) := by show _ = _; rw [E0.out]; rfl
        have hk0 : (k == 0) = false := by simpa using h0
        have hk3 : (k == 3) = false := by simpa using h3
        clear hnd hnod hpre hV hb ih hv hk
        rw [E2.out, E3.out]
        simp only [tv, Tm.kind, Tm.num, Tm.name]
        go_enter Tryd.func81, Tryd.ntmps81
        go_wp2_with fail
        exact bodyPost_ret (v := pv k n s (.slice none 0 0)) (by simp [results, Tryd.results81, go_sem]) rfl ⟨.slice none 0 0, rfl, by unfold OwnT; exact ⟨hI.out.1, hI.out.2.1, hI.out.2.2, .inl ⟨rfl, rfl⟩⟩, V2.out _ _, by simp <;> omega, fun g hg _ => (R2.out _ _).2.2.2 g hg, B2.out _ _⟩

end Go.Proofs.YtehnhjhflaljhaaDoor
