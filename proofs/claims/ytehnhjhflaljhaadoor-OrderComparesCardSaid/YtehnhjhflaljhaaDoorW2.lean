/- The walk over the nodes of a term with the visitor hornbeam/term.Valid$1. -/
import Derived.Test.YtehnhjhflaljhaaDoorP
import Derived.Test.YtehnhjhflaljhaaDoorTm
import Derived.Laws.EntriesVeiled
namespace Go.Proofs.YtehnhjhflaljhaaDoor
open Go.RowKit Go.Proofs.HT

set_option maxHeartbeats 2000000 in
theorem enter_valid (V : List Tm → (Nat → Prop) → World → Prop) (hk : VisKeep V) (W : World) (P0 : Value) (b c d : Nat) (hbc : ¬ c = b) (hbd : ¬ d = b) (hB : W.heap.size ≤ b)
    (HS : Hid (∀ ns own t v w, ns.length < 2001 → V ns own w → LiesT W t v → Below W.heap.size W w → Calls Tryd.prog 57 #[tv t v, P0] w (VisitEnd V W (ns ++ [t]) own w))) (t : Tm) :
    ∀ (v : Value) (m : Int) (ns : List Tm) (own : Nat → Prop) (w : World), LiesT W t v → 1 ≤ m → (ns.length : Int) + m ≤ 2001 → V ns own w → Below W.heap.size W w → ¬ own b → ¬ own c → ¬ own d → b < w.heap.size → c < w.heap.size → d < w.heap.size →
    w.heap[b]? = some (.cells #[.int .i64 m] 3 (0, 0)) → w.heap[c]? = some (.cells #[.func (.func 57) #[] #[P0]] 55 (0, 0)) →
    w.heap[d]? = some (.cells #[.func (.func 75) #[] #[.pointer (some ⟨b, 0, none⟩), .pointer (some ⟨c, 0, none⟩), .pointer (some ⟨d, 0, none⟩)]] 55 (0, 0)) →
    Calls Tryd.prog 75 #[tv t v, .pointer (some ⟨b, 0, none⟩), .pointer (some ⟨c, 0, none⟩), .pointer (some ⟨d, 0, none⟩)] w (EnterEnd V W b (m - cntM t m) (ns ++ (pre t).take m.toNat) own w) := by
  induction t using Tm.ind with
  | h k n s ts ih =>
    intro v m ns own w hv hm0 hm1 hV hb nb nc nd lb lc ld rb rc rd
    rcases hv.len with ⟨rfl, a, cap, rfl⟩ | ⟨lb2, lo, cap, rfl, hpos, hlc, hcap, hl⟩
    · have E0 : Hid ((ns ++ [Tm.mk k n s []]) = ns ++ (pre (.mk k n s [])).take m.toNat) := by
        show _ = _
        obtain ⟨q, hq⟩ : ∃ q, m.toNat = q + 1 := ⟨m.toNat - 1, by omega⟩
        rw [hq]; simp [pre, preL]
      have E1 : Hid (cntM (.mk k n s []) m = 1) := by show _ = _; simp [cntM, cnt, cntL, hm0]
      clear ih
      have HK := Lib.hid hk
      have HV := Lib.hid hv
      have VO := vis_open (x := .int .i64 (m - 1)) (o := .cells #[.int .i64 k, .int .i64 n, .string s, .slice a 0 cap] 24) HK.out hV hb hB nb
      have HVO := Lib.hid VO.1
      have HBO := Lib.hid VO.2
      have hs1 : ((w.setCell ⟨b, 0, none⟩ (.int .i64 (m - 1))).alloc (.cells #[.int .i64 k, .int .i64 n, .string s, .slice a 0 cap] 24)).heap.size = w.heap.size + 1 := by simp [World.setCell]
      have g0 : ((w.setCell ⟨b, 0, none⟩ (.int .i64 (m - 1))).alloc (.cells #[.int .i64 k, .int .i64 n, .string s, .slice a 0 cap] 24)).heap[w.heap.size]? = some (.cells #[.int .i64 k, .int .i64 n, .string s, .slice a 0 cap] 24 (0, 0)) := by
        have h := heap_alloc_new (w.setCell ⟨b, 0, none⟩ (.int .i64 (m - 1))) (.cells #[.int .i64 k, .int .i64 n, .string s, .slice a 0 cap] 24)
        simpa [World.setCell] using h
      have g1 : ((w.setCell ⟨b, 0, none⟩ (.int .i64 (m - 1))).alloc (.cells #[.int .i64 k, .int .i64 n, .string s, .slice a 0 cap] 24)).heap[b]? = some (.cells #[.int .i64 (m - 1)] 3 (0, 0)) := by
        rw [Below.heap_alloc _ _ _ (by simpa [World.setCell] using lb)]
        have h := heap_setCell_same w b 0 _ _ (.int .i64 (m - 1)) rb
        simpa using h
      have g2 : ∀ g, g < w.heap.size → ¬ g = b → ((w.setCell ⟨b, 0, none⟩ (.int .i64 (m - 1))).alloc (.cells #[.int .i64 k, .int .i64 n, .string s, .slice a 0 cap] 24)).heap[g]? = w.heap[g]? := fun g hg hn => by
        rw [Below.heap_alloc _ _ _ (by simpa [World.setCell] using hg), Below.heap_setCell _ _ _ _ hn]
      have G0 := Lib.hid g0
      have G1 := Lib.hid g1
      have G2 := Lib.hid g2
      have HS1 := Lib.hid hs1
      have LT := Lib.hid (fun g hg => HK.out.lt ns own w g hV hg)
      have qb : w.cell? ⟨b, 0, none⟩ = some (.int .i64 m) := by rw [cell_of_row _ _ _ _ _ _ rb]; rfl
      have qbf := frozen_of_row _ _ 0 _ _ rb
      have qc : w.cell? ⟨c, 0, none⟩ = some (.func (.func 57) #[] #[P0]) := by rw [cell_of_row _ _ _ _ _ _ rc]; rfl
      have RC := Lib.hid rc
      have RD := Lib.hid rd
      have LB := Lib.hid lb
      clear VO g0 g1 g2 hs1 hv hV hb rb rc rd hk
      simp only [tv, Tm.kind, Tm.num, Tm.name]
      go_enter Tryd.func75, Tryd.ntmps75
      go_wp2_with (go_at_call 57; refine (HS.out ns own (.mk k n s []) (.slice a 0 cap) _ (by omega) HVO.out HV.out HBO.out).mono ?_; rintro e w2 ⟨rfl, own2, hV2, ho2, hz2, hf2, hb2⟩; have z2 : w.heap.size + 1 ≤ w2.heap.size := (by have := HS1.out; omega); have K0 := Lib.hid ((hf2 w.heap.size (by have := HS1.out; omega) (fun h => by have := LT.out _ h; omega)).trans G0.out); have K1 := Lib.hid ((hf2 b (by have := HS1.out; omega) nb).trans G1.out); have KC := Lib.hid ((hf2 c (by have := HS1.out; omega) nc).trans ((G2.out c lc hbc).trans RC.out)); have KD := Lib.hid ((hf2 d (by have := HS1.out; omega) nd).trans ((G2.out d ld hbd).trans RD.out)); have KF : Hid (∀ g, g < w.heap.size → g ≠ b → ¬ own g → w2.heap[g]? = w.heap[g]?) := fun g hg hn ho => (hf2 g (by have := HS1.out; omega) ho).trans (G2.out g hg hn); have KO : Hid (∀ g, own2 g → own g ∨ w.heap.size ≤ g) := fun g hg => (ho2 g hg).imp id (fun h => by have := HS1.out; omega); have KV := Lib.hid hV2; have KB := Lib.hid hb2; have p3 : w2.cell? ⟨w.heap.size, 3, none⟩ = some (.slice a 0 cap) := (by rw [cell_of_row _ _ _ _ _ _ K0.out]; rfl); clear hV2 ho2 hz2 hf2 hb2)
      refine wp_loop_rounds 1 ?_
      rw [rounds_succ]
      go_wp2_with fail
      go_end0
      exact ⟨rfl, own2, by rw [← E0.out]; exact KV.out, KO.out, by omega, KF.out, by rw [E1.out]; exact K1.out, KB.out⟩
    · have HI : Hid (∀ (i : Nat) (hi : i < ts.length) (v : Value) (m : Int) (ns : List Tm) (own : Nat → Prop) (w : World), LiesT W ts[i] v → 1 ≤ m → (ns.length : Int) + m ≤ 2001 → V ns own w → Below W.heap.size W w → ¬ own b → ¬ own c → ¬ own d → b < w.heap.size → c < w.heap.size → d < w.heap.size →
    w.heap[b]? = some (.cells #[.int .i64 m] 3 (0, 0)) → w.heap[c]? = some (.cells #[.func (.func 57) #[] #[P0]] 55 (0, 0)) →
    w.heap[d]? = some (.cells #[.func (.func 75) #[] #[.pointer (some ⟨b, 0, none⟩), .pointer (some ⟨c, 0, none⟩), .pointer (some ⟨d, 0, none⟩)]] 55 (0, 0)) →
    Calls Tryd.prog 75 #[tv ts[i] v, .pointer (some ⟨b, 0, none⟩), .pointer (some ⟨c, 0, none⟩), .pointer (some ⟨d, 0, none⟩)] w (EnterEnd V W b (m - cntM ts[i] m) (ns ++ (pre ts[i]).take m.toNat) own w)) := fun i hi => ih _ (List.getElem_mem hi)
      have HL := Lib.hid hl
      have HLEN := Lib.hid hpos
      have VL := Lib.hid (fun j => vsd_len k n s ts m j hm0)
      have SZ := Lib.hid (vsd_zero (Tm.mk k n s ts) m hm0)
      have SS := Lib.hid (fun j hj => vsd_step k n s ts m j hj)
      have SA := Lib.hid (vsd_all k n s ts m)
      have SF := Lib.hid (fun j => vsd_full k n s ts m j)
      have CZ := Lib.hid (cntP_zero ts m hm0)
      have CB := Lib.hid (fun j => cntP_bd ts m hm0 j)
      have CS := Lib.hid (fun j hj => cntP_step ts m j hj)
      have CA := Lib.hid (cntP_all k n s ts m)
      have CF := Lib.hid (fun j => cntP_full k n s ts m j)
      clear hl ih
      have HK := Lib.hid hk
      have HV := Lib.hid hv
      have VO := vis_open (x := .int .i64 (m - 1)) (o := .cells #[.int .i64 k, .int .i64 n, .string s, .slice (some ⟨lb2, lo, none⟩) ts.length cap] 24) HK.out hV hb hB nb
      have HVO := Lib.hid VO.1
      have HBO := Lib.hid VO.2
      have hs1 : ((w.setCell ⟨b, 0, none⟩ (.int .i64 (m - 1))).alloc (.cells #[.int .i64 k, .int .i64 n, .string s, .slice (some ⟨lb2, lo, none⟩) ts.length cap] 24)).heap.size = w.heap.size + 1 := by simp [World.setCell]
      have g0 : ((w.setCell ⟨b, 0, none⟩ (.int .i64 (m - 1))).alloc (.cells #[.int .i64 k, .int .i64 n, .string s, .slice (some ⟨lb2, lo, none⟩) ts.length cap] 24)).heap[w.heap.size]? = some (.cells #[.int .i64 k, .int .i64 n, .string s, .slice (some ⟨lb2, lo, none⟩) ts.length cap] 24 (0, 0)) := by
        have h := heap_alloc_new (w.setCell ⟨b, 0, none⟩ (.int .i64 (m - 1))) (.cells #[.int .i64 k, .int .i64 n, .string s, .slice (some ⟨lb2, lo, none⟩) ts.length cap] 24)
        simpa [World.setCell] using h
      have g1 : ((w.setCell ⟨b, 0, none⟩ (.int .i64 (m - 1))).alloc (.cells #[.int .i64 k, .int .i64 n, .string s, .slice (some ⟨lb2, lo, none⟩) ts.length cap] 24)).heap[b]? = some (.cells #[.int .i64 (m - 1)] 3 (0, 0)) := by
        rw [Below.heap_alloc _ _ _ (by simpa [World.setCell] using lb)]
        have h := heap_setCell_same w b 0 _ _ (.int .i64 (m - 1)) rb
        simpa using h
      have g2 : ∀ g, g < w.heap.size → ¬ g = b → ((w.setCell ⟨b, 0, none⟩ (.int .i64 (m - 1))).alloc (.cells #[.int .i64 k, .int .i64 n, .string s, .slice (some ⟨lb2, lo, none⟩) ts.length cap] 24)).heap[g]? = w.heap[g]? := fun g hg hn => by
        rw [Below.heap_alloc _ _ _ (by simpa [World.setCell] using hg), Below.heap_setCell _ _ _ _ hn]
      have G0 := Lib.hid g0
      have G1 := Lib.hid g1
      have G2 := Lib.hid g2
      have HS1 := Lib.hid hs1
      have LT := Lib.hid (fun g hg => HK.out.lt ns own w g hV hg)
      have qb : w.cell? ⟨b, 0, none⟩ = some (.int .i64 m) := by rw [cell_of_row _ _ _ _ _ _ rb]; rfl
      have qbf := frozen_of_row _ _ 0 _ _ rb
      have qc : w.cell? ⟨c, 0, none⟩ = some (.func (.func 57) #[] #[P0]) := by rw [cell_of_row _ _ _ _ _ _ rc]; rfl
      have RC := Lib.hid rc
      have RD := Lib.hid rd
      have LB := Lib.hid lb
      clear VO g0 g1 g2 hs1 hv hV hb rb rc rd hk
      simp only [tv, Tm.kind, Tm.num, Tm.name]
      go_enter Tryd.func75, Tryd.ntmps75
      go_wp2_with (go_at_call 57; refine (HS.out ns own (.mk k n s ts) (.slice (some ⟨lb2, lo, none⟩) ts.length cap) _ (by omega) HVO.out HV.out HBO.out).mono ?_; rintro e w2 ⟨rfl, own2, hV2, ho2, hz2, hf2, hb2⟩; have z2 : w.heap.size + 1 ≤ w2.heap.size := (by have := HS1.out; omega); have K0 := Lib.hid ((hf2 w.heap.size (by have := HS1.out; omega) (fun h => by have := LT.out _ h; omega)).trans G0.out); have K1 := Lib.hid ((hf2 b (by have := HS1.out; omega) nb).trans G1.out); have KC := Lib.hid ((hf2 c (by have := HS1.out; omega) nc).trans ((G2.out c lc hbc).trans RC.out)); have KD := Lib.hid ((hf2 d (by have := HS1.out; omega) nd).trans ((G2.out d ld hbd).trans RD.out)); have KF : Hid (∀ g, g < w.heap.size → g ≠ b → ¬ own g → w2.heap[g]? = w.heap[g]?) := fun g hg hn ho => (hf2 g (by have := HS1.out; omega) ho).trans (G2.out g hg hn); have KO : Hid (∀ g, own2 g → own g ∨ w.heap.size ≤ g) := fun g hg => (ho2 g hg).imp id (fun h => by have := HS1.out; omega); have KV := Lib.hid hV2; have KB := Lib.hid hb2; have p3 : w2.cell? ⟨w.heap.size, 3, none⟩ = some (.slice (some ⟨lb2, lo, none⟩) ts.length cap) := (by rw [cell_of_row _ _ _ _ _ _ K0.out]; rfl); clear hV2 ho2 hz2 hf2 hb2)
      go_loopw [15] (fun i wr => ∃ (j : Nat) (q : Int) (ownr : Nat → Prop), j ≤ ts.length ∧ i = .int .i64 j ∧ Hid (q = m - cntP ts m j) ∧ 0 ≤ q ∧ q ≤ 2001 ∧ Hid (V (ns ++ vsd (Tm.mk k n s ts) m j) ownr wr) ∧ Hid (∀ g, ownr g → own g ∨ w.heap.size ≤ g) ∧
        Hid (w.heap.size + 1 ≤ wr.heap.size) ∧ Hid (∀ g, g < w.heap.size → g ≠ b → ¬ own g → wr.heap[g]? = w.heap[g]?) ∧ Hid (wr.heap[b]? = some (.cells #[.int .i64 q] 3 (0, 0))) ∧ Hid (wr.heap[d]? = w.heap[d]?) ∧ Hid (wr.heap[c]? = w.heap[c]?) ∧ Hid (Below W.heap.size W wr)) (fun i _ => ts.length - (intOf i).toNat)
      case atStart =>
        refine ⟨0, m - 1, own2, by omega, rfl, Lib.hid (by rw [CZ.out]), by omega, by omega, Lib.hid (by rw [SZ.out]; exact KV.out), KO, Lib.hid z2, KF, K1, Lib.hid (KD.out.trans RD.out.symm), Lib.hid (KC.out.trans RC.out.symm), KB⟩
      case round =>
        obtain ⟨j, q, ownr, hj, rfl, hq, q0, q1, rV, rO, rz, rF, rb, rd, rc, rB⟩ := hrel
        have qb2 : wr.cell? ⟨b, 0, none⟩ = some (.int .i64 q) := by rw [cell_of_row _ _ _ _ _ _ rb.out]; rfl
        have qd2 : wr.cell? ⟨d, 0, none⟩ = some (.func (.func 75) #[] #[.pointer (some ⟨b, 0, none⟩), .pointer (some ⟨c, 0, none⟩), .pointer (some ⟨d, 0, none⟩)]) := by rw [cell_of_row _ _ _ _ _ _ (rd.out.trans RD.out)]; rfl
        have hbz : b < wr.heap.size := by have := rz.out; omega
        have hdz : d < wr.heap.size := by have := rz.out; omega
        by_cases hlt : j < ts.length
        · obtain ⟨u, c0, c1, c2, c3, hu⟩ := HL.out.at j hlt
          obtain ⟨ua, uc, rfl⟩ := hu.slice
          have d0 := cell_below rB.out _ _ c0
          have d1 := cell_below rB.out _ _ c1
          have d2 := cell_below rB.out _ _ c2
          have d3 := cell_below rB.out _ _ c3
          have HU := Lib.hid hu
          clear hu c0 c1 c2 c3
          by_cases hz : q = 0
          · have E0 : Hid (cntP ts m j = m) := by show _ = _; have := hq.out; omega
            subst hz
            have hzb : (0 == 0) = true := rfl
            go_wp2_with fail
            refine bodyPost_ret (results_none rfl _ _ _) rfl ?_
            refine ⟨rfl, ownr, ?_, rO.out, ?_, ?_, ?_, rB.out.alloc rB.out.size _⟩
            · rw [← SF.out j E0.out]
              exact HK.out.keep _ _ _ _ rV.out (fun g hg => Below.heap_alloc _ _ _ (HK.out.lt _ _ _ _ rV.out hg)) (by simp)
            · have := rz.out; simp; omega
            · intro g hg hn ho
              rw [Below.heap_alloc _ _ _ (by have := rz.out; omega)]; exact rF.out g hg hn ho
            · have e : m - cntM (.mk k n s ts) m = 0 := by have := CF.out j E0.out; omega
              rw [Below.heap_alloc _ _ _ hbz, rb.out, e]
          · have hz1 : (q == 0) = false := by simpa using hz
            have NB : Hid (¬ ownr b) := fun h => (rO.out _ h).elim nb (fun h => by omega)
            have NC : Hid (¬ ownr c) := fun h => (rO.out _ h).elim nc (fun h => by omega)
            have ND : Hid (¬ ownr d) := fun h => (rO.out _ h).elim nd (fun h => by omega)
            have HVA : Hid (∀ O, V (ns ++ vsd (Tm.mk k n s ts) m j) ownr (wr.alloc O)) := fun O => HK.out.keep _ _ _ _ rV.out (fun g hg => Below.heap_alloc _ _ _ (HK.out.lt _ _ _ _ rV.out hg)) (by simp)
            have HBA : Hid (∀ O, Below W.heap.size W (wr.alloc O)) := fun O => rB.out.alloc rB.out.size O
            have HSZ : Hid (∀ O, (wr.alloc O).heap.size = wr.heap.size + 1) := fun O => by simp
            have HKP : Hid (∀ O g, g < wr.heap.size → (wr.alloc O).heap[g]? = wr.heap[g]?) := fun O g h => Below.heap_alloc _ _ _ h
            have BM := Lib.hid (cntM_bd ts[j] q (by omega))
            go_wp2_with (go_at_call 75; refine (HI.out j hlt _ q (ns ++ vsd (Tm.mk k n s ts) m j) ownr _ HU.out (by omega) (by have h := VL.out j; have h2 := hq.out; simp only [List.length_append]; omega) (HVA.out _) (HBA.out _) NB.out NC.out ND.out (by have := HSZ.out (.cells #[] 3); simp; omega) (by have := rz.out; simp; omega) (by have := rz.out; simp; omega) ((HKP.out _ b hbz).trans rb.out) ((HKP.out _ c (by have := rz.out; omega)).trans (rc.out.trans RC.out)) ((HKP.out _ d hdz).trans (rd.out.trans RD.out))).mono ?_; rintro e w3 ⟨rfl, own3, hV3, ho3, hz3, hf3, hb3, hB3⟩; have XV := Lib.hid hV3; have XO := Lib.hid ho3; have XZ := Lib.hid hz3; have XF := Lib.hid hf3; have XB := Lib.hid hb3; have XW := Lib.hid hB3; clear hV3 ho3 hz3 hf3 hb3 hB3)
            go_roundw
            case rel =>
              have hc1 := CS.out j hlt (by have := hq.out; omega)
              rw [← hq.out] at hc1
              have hz4 : wr.heap.size + 1 ≤ w3.heap.size := by have := XZ.out; simp at this; omega
              have rz1 := rz.out
              have bm := BM.out
              have hq1 := hq.out
              have keepB : ∀ g, g < w.heap.size → g ≠ b → ¬ own g → w3.heap[g]? = wr.heap[g]? := fun g hg hn ho => (XF.out g (by simp; omega) hn (fun h => (rO.out _ h).elim ho (fun h => by omega))).trans (HKP.out _ g (by omega))
              refine ⟨j + 1, q - cntM ts[j] q, own3, by omega, by go_num, Lib.hid (by omega), by omega, by omega, Lib.hid ?_, Lib.hid ?_, Lib.hid (by omega), Lib.hid ?_, XB, Lib.hid ?_, Lib.hid ?_, XW⟩
              · have h := XV.out
                have h2 := SS.out j hlt (by omega)
                rw [← hq1] at h2
                rw [List.append_assoc, h2] at h
                exact h
              · intro g hg
                rcases XO.out g hg with h | h
                · exact rO.out g h
                · right; simp at h; omega
              · intro g hg hn ho
                exact (keepB g hg hn ho).trans (rF.out g hg hn ho)
              · exact (keepB d ld hbd nd).trans rd.out
              · exact (keepB c lc hbc nc).trans rc.out
            case measure => simp [intOf]; omega
        · have e : j = ts.length := by omega
          subst e
          go_wp2_with fail
          go_end0
          refine ⟨rfl, ownr, by rw [← SA.out]; exact rV.out, rO.out, by have := rz.out; omega, rF.out, ?_, rB.out⟩
          rw [rb.out, hq.out, CA.out]

set_option maxHeartbeats 2000000 in
theorem walk_valid (V : List Tm → (Nat → Prop) → World → Prop) (hk : VisKeep V) (W : World) (P0 : Value) 
    (HS : Hid (∀ ns own t v w, ns.length < 2001 → V ns own w → LiesT W t v → Below W.heap.size W w → Calls Tryd.prog 57 #[tv t v, P0] w (VisitEnd V W (ns ++ [t]) own w))) (t : Tm)
    (v : Value) (own : Nat → Prop) (w : World) (hv : LiesT W t v) (hV : V [] own w) (hb : Below W.heap.size W w) :
    Calls Tryd.prog 56 #[tv t v, .func (.func 57) #[] #[P0]] w (WalkEnd V W t own w) := by
  have hz := hb.size
  have LT := Lib.hid (fun g hg => hk.lt _ own w g hV hg)
  have V4 : Hid (∀ o1 o2 o3 o4, V [] own ((((w.alloc o1).alloc o2).alloc o3).alloc o4)) := fun o1 o2 o3 o4 => hk.keep _ _ _ _ hV (fun g hg => (rows4 w o1 o2 o3 o4).2.2.2.2.2 g (LT.out g hg)) (by have := (rows4 w o1 o2 o3 o4).2.2.2.2.1; omega)
  have B4 : Hid (∀ o1 o2 o3 o4, Below W.heap.size W ((((w.alloc o1).alloc o2).alloc o3).alloc o4)) := fun o1 o2 o3 o4 => (((hb.alloc hz _).alloc (by simp; omega) _).alloc (by simp; omega) _).alloc (by simp; omega) _
  have R4 := Lib.hid (rows4 w)
  have HV := Lib.hid hv
  have HK := Lib.hid hk
  have HN : Hid (∀ g, w.heap.size ≤ g → ¬ own g) := fun g hg ho => by have := LT.out g ho; omega
  clear hV hb hv hk
  simp only [tv]
  go_enter Tryd.func56, Tryd.ntmps56
  go_wp2_with (go_at_call 75; refine (enter_valid V HK.out W P0 (w.heap.size + 1 + 1) (w.heap.size + 1) (w.heap.size + 1 + 1 + 1) (by omega) (by omega) (by omega) HS t v 2001 [] own _ HV.out (by omega) (by simp) (V4.out _ _ _ _) (B4.out _ _ _ _) (HN.out _ (by omega)) (HN.out _ (by omega)) (HN.out _ (by omega)) (by have := (R4.out (.cells #[] 3) (.cells #[] 3) (.cells #[] 3) (.cells #[] 3)).2.2.2.2.1; simp <;> omega) (by simp <;> omega) (by simp <;> omega) (R4.out _ _ _ _).2.2.1 (R4.out _ _ _ _).2.1 (R4.out _ _ _ _).2.2.2.1).mono ?_; rintro e w3 ⟨rfl, own3, hV3, ho3, hz3, hf3, hb3, hB3⟩; have XV := Lib.hid hV3; have XO := Lib.hid ho3; have XZ := Lib.hid hz3; have XF := Lib.hid hf3; have XW := Lib.hid hB3; have q0 : w3.cell? ⟨w.heap.size + 1 + 1, 0, none⟩ = some (.int .i64 (2001 - cntM t 2001)) := (by rw [cell_of_row _ _ _ _ _ _ hb3]; rfl); have bm := cntM_bd t 2001 (by omega); clear hV3 ho3 hz3 hf3 hb3 hB3)
  go_ret
  have hz4 := XZ.out
  rw [(R4.out _ _ _ _).2.2.2.2.1] at hz4
  refine ⟨ret_int (by omega), own3, XV.out, fun g hg => (XO.out g hg).imp id (fun h => by rw [(R4.out _ _ _ _).2.2.2.2.1] at h; omega), by omega, fun g hg ho => (XF.out g (by rw [(R4.out _ _ _ _).2.2.2.2.1]; omega) (by omega) ho).trans ((R4.out _ _ _ _).2.2.2.2.2 g hg), XW.out⟩

end Go.Proofs.YtehnhjhflaljhaaDoor
