/- Words for the program's substitute. -/
import Derived.Test.YteilodihjhdngaaPW
import Derived.Laws.EntriesVeiled
import Derived.Deep.RegionHeld3
import Derived.Deep.DeepCutAuto
namespace Go.Proofs.Yteilodihjhdngaa
open Go.RowKit Go.Proofs.HT

def addv (xs : List Int) (n : Int) : List Int := if posF xs n 0 < 0 then xs ++ [n] else xs
theorem addv_pre (xs : List Int) (n : Int) : xs <+: addv xs n := by
  unfold addv; split
  · exact List.prefix_append _ _
  · exact List.prefix_refl _
theorem varsF_var (xs : List Int) (n : Int) (s : ByteArray) : varsF xs (.mk 0 n s []) = addv xs n := by simp [varsF, varsL, addv]
theorem varsF_not (xs : List Int) (k n : Int) (s : ByteArray) (ts : List Tm) (h : ¬ k = 0) : varsF xs (.mk k n s ts) = varsL xs ts := by simp [varsF, h]
theorem varsF_pre (t : Tm) : ∀ xs, xs <+: varsF xs t := by
  induction t using Tm.ind with
  | h k n s ts ih =>
    intro xs
    have key : ∀ (l : List Tm), (∀ t ∈ l, ∀ xs, xs <+: varsF xs t) → ∀ xs, xs <+: varsL xs l := by
      intro l
      induction l with
      | nil => intro _ xs; exact List.prefix_refl _
      | cons x l ih2 => intro h xs; rw [varsL]; exact (h x (by simp) xs).trans (ih2 (fun y hy => h y (by simp [hy])) _)
    rw [varsF]
    refine List.IsPrefix.trans ?_ (key ts ih _)
    split
    · exact List.prefix_append _ _
    · exact List.prefix_refl _
theorem varsL_pre (l : List Tm) : ∀ xs, xs <+: varsL xs l := by
  induction l with
  | nil => intro xs; exact List.prefix_refl _
  | cons x l ih => intro xs; rw [varsL]; exact (varsF_pre x xs).trans (ih _)
theorem varsL_drop (xs : List Int) (ts : List Tm) (j : Nat) : varsL (varsL xs (ts.take j)) (ts.drop j) = varsL xs ts := by
  rw [← varsL_append, List.take_append_drop]
theorem varsL_take_pre (xs : List Int) (ts : List Tm) (j : Nat) : varsL xs (ts.take j) <+: varsL xs ts := by
  rw [← varsL_drop xs ts j]; exact varsL_pre _ _

/-- A call that returns a term, the state moved on. (own: the blocks of the state.) -/
def PutEnd (V : List Int → (Nat → Prop) → World → Prop) (W : World) (own : Nat → Prop) (T : Tm) (xs : List Int) (w : World) (e : Ending) (w' : World) : Prop :=
  ∃ v, e = .returned (tv T v) ∧ OwnT (fun b => w.heap.size ≤ b ∧ b < w'.heap.size) w' T v ∧ V xs own w' ∧ w.heap.size ≤ w'.heap.size ∧ (∀ g, g < w.heap.size → ¬ own g → w'.heap[g]? = w.heap[g]?) ∧ Below W.heap.size W w'

theorem _root_.Go.Proofs.HT.OwnT.slice {S : Nat → Prop} {w : World} {t : Tm} {v : Value} (h : OwnT S w t v) : ∃ a cap, v = .slice a t.args.length cap := (OwnT.lies _ _ h).slice

def mk0 (n : Nat) : Array Value := madeCells #[.int .i64 0, .int .i64 0, .string ⟨#[]⟩, .slice none 0 0] (n * 4)
theorem mk0_size (n : Nat) : (mk0 n).size = n * 4 := size_madeCells _ _

/-- The end of substitute at a value: it is stored in the result's cell. -/
theorem put_end {V : List Int → (Nat → Prop) → World → Prop} (hk : VisKeep V) {W w w2 : World} {own : Nat → Prop} {T : Tm} {xs : List Int} {y : Value} {a0 a1 a2 a3 : Value}
    (hl : ∀ g, own g → g < w.heap.size) (hB : W.heap.size ≤ w.heap.size) (hz : w.heap.size + 2 ≤ w2.heap.size) (hy : OwnT (fun b => w.heap.size + 2 ≤ b ∧ b < w2.heap.size) w2 T y) (hV : V xs own w2)
    (hf : ∀ g, g < w.heap.size → ¬ own g → w2.heap[g]? = w.heap[g]?) (hb : Below W.heap.size W w2) (h : w2.heap[w.heap.size + 1]? = some (.cells #[a0, a1, a2, a3] 24 (0, 0)))
    (w3 : World) (e : w3 = ((((w2.setCell ⟨w.heap.size + 1, 0, none⟩ (.int .i64 T.kind)).setCell ⟨w.heap.size + 1, 1, none⟩ (.int .i64 T.num)).setCell ⟨w.heap.size + 1, 2, none⟩ (.string T.name)).setCell ⟨w.heap.size + 1, 3, none⟩ y)) :
    PutEnd V W own T xs w (.returned (tv T y)) w3 := by
  obtain ⟨F1, F2, F3, F4⟩ := four h (.int .i64 T.kind) (.int .i64 T.num) (.string T.name) y
  rw [← e] at F1 F2 F3 F4
  refine ⟨y, rfl, hy.keep (fun b hb => F2 b (by omega)) (fun b hb _ => ⟨by omega, by omega⟩) , hk.keep _ _ _ _ hV (fun g hg => F2 g (by have := hl g hg; omega)) (by omega), by omega, fun g hg hn => (F2 g (by omega)).trans (hf g hg hn), F4 _ _ (by omega) hb⟩

end Go.Proofs.Yteilodihjhdngaa

/- The program's substitute with the function hornbeam/term.Var. -/
namespace Go.Proofs.Yteilodihjhdngaa
open Go.RowKit Go.Proofs.HT

set_option maxHeartbeats 4000000 in
theorem subst_var (V : List Int → (Nat → Prop) → World → Prop) (hk : VisKeep V) (W : World) (own : Nat → Prop) (g : Int → Tm) (L : List Int) 
    (HS : Hid (∀ xs n w, V xs own w → numB n = true → Below W.heap.size W w → addv xs n <+: L → Calls Try.prog 88 #[.int .i64 n] w (PutEnd V W own (g n) (addv xs n) w))) (t : Tm) :
    ∀ (v : Value) (xs : List Int) (w : World), LiesT W t v → V xs own w → Below W.heap.size W w → nodesB t = true → varsF xs t <+: L →
    Calls Try.prog 87 #[tv t v, .func (.func 88) #[] #[]] w (PutEnd V W own (mapT g t) (varsF xs t) w) := by
  obtain ⟨i0, hi0, hz0, hz1, hz2⟩ := info_parts info24
  induction t using Tm.ind with
  | h k n s ts ih =>
    intro v xs w hv hV hb hnod hpre
    have hbz := hb.size
    have LT := Lib.hid (fun g hg => hk.lt xs own w g hV hg)
    have V2 : Hid (∀ o1 o2, V xs own ((w.alloc o1).alloc o2)) := fun o1 o2 => hk.keep _ _ _ _ hV (fun g hg => by rw [Below.heap_alloc _ _ _ (by have := LT.out g hg; simp; omega), Below.heap_alloc _ _ _ (LT.out g hg)]) (by simp; omega)
    have B2 : Hid (∀ o1 o2, Below W.heap.size W ((w.alloc o1).alloc o2)) := fun o1 o2 => (hb.alloc hbz _).alloc (by simp; omega) _
    have R2 : Hid (∀ o1 o2, ((w.alloc o1).alloc o2).heap[w.heap.size]? = some o1 ∧ ((w.alloc o1).alloc o2).heap[w.heap.size + 1]? = some o2 ∧ ((w.alloc o1).alloc o2).heap.size = w.heap.size + 2 ∧ ∀ g, g < w.heap.size → ((w.alloc o1).alloc o2).heap[g]? = w.heap[g]?) := fun o1 o2 =>
      ⟨by rw [Below.heap_alloc _ _ _ (by simp), heap_alloc_new], by have h := heap_alloc_new (w.alloc o1) o2; simpa using h, by simp, fun g hg => by rw [Below.heap_alloc _ _ _ (by simp; omega), Below.heap_alloc _ _ _ hg]⟩
    have HK := Lib.hid hk
    have hnd := (nodes_at hnod).1
    by_cases h0 : k = 0
    · subst h0
      obtain ⟨n0, n1, rfl, hl0⟩ := node_var hnd
      obtain rfl : ts = [] := List.length_eq_zero_iff.1 hl0
      have hq : numB n = true := numB_iff.2 ⟨n0, n1⟩
      have HPRE : Hid (addv xs n <+: L) := by show _; rw [← varsF_var xs n ⟨#[]⟩]; exact hpre
      have E0 : Hid (varsF xs (.mk 0 n ⟨#[]⟩ []) = addv xs n) := varsF_var xs n ⟨#[]⟩
      have E1 : Hid (mapT g (.mk 0 n ⟨#[]⟩ []) = g n) := by show _ = _; simp [mapT]
      clear hnd hnod hpre hV hb ih hv hk
      rw [E0.out, E1.out]
      simp only [tv, Tm.kind, Tm.num, Tm.name]
      go_enter Try.func87, Try.ntmps87
      go_wp2_with (go_at_call 88; refine (HS.out xs n _ (V2.out _ _) hq (B2.out _ _) HPRE.out).mono ?_; rintro e w2 ⟨y, rfl, hy, hV2, hz2, hf2, hb2⟩; obtain ⟨ya, yc, rfl⟩ := hy.slice; have Z2 := Lib.hid hz2; have K1 := Lib.hid ((hf2 (w.heap.size + 1) (by simp) (fun h => by have := LT.out _ h; omega)).trans (R2.out _ _).2.1); have KF : Hid (∀ g, g < w.heap.size → ¬ own g → w2.heap[g]? = w.heap[g]?) := fun g hg ho => (hf2 g (by simp; omega) ho).trans ((R2.out _ _).2.2.2 g hg); have KV := Lib.hid hV2; have KB := Lib.hid hb2; have KY := Lib.hid hy; have c0 : w2.cell? ⟨w.heap.size + 1, 0, none⟩ = some (.int .i64 0) := (by rw [cell_of_row _ _ _ _ _ _ K1.out]; rfl); have c1 : w2.cell? ⟨w.heap.size + 1, 1, none⟩ = some (.int .i64 0) := (by rw [cell_of_row _ _ _ _ _ _ K1.out]; rfl); have c2 : w2.cell? ⟨w.heap.size + 1, 2, none⟩ = some (.string ⟨#[]⟩) := (by rw [cell_of_row _ _ _ _ _ _ K1.out]; rfl); have c3 : w2.cell? ⟨w.heap.size + 1, 3, none⟩ = some (.slice none 0 0) := (by rw [cell_of_row _ _ _ _ _ _ K1.out]; rfl); have f0 := frozen_of_row _ _ 0 _ _ K1.out; have f1 := frozen_of_row _ _ 1 _ _ K1.out; have f2 := frozen_of_row _ _ 2 _ _ K1.out; have f3 := frozen_of_row _ _ 3 _ _ K1.out; clear hy hV2 hz2 hf2 hb2)
      have FO := four K1.out (.int .i64 (g n).kind) (.int .i64 (g n).num) (.string (g n).name) (.slice ya (g n).args.length yc)
      have PE := put_end (T := g n) HK.out (fun g hg => LT.out g hg) hbz (by have := Z2.out; simp at this; omega) (KY.out.keep (fun _ _ => rfl) (fun b hb _ => by have := hb.1; simp at this; exact ⟨by omega, hb.2⟩)) KV.out KF.out KB.out K1.out _ rfl
      generalize ((((w2.setCell ⟨w.heap.size + 1, 0, none⟩ (.int .i64 (g n).kind)).setCell ⟨w.heap.size + 1, 1, none⟩ (.int .i64 (g n).num)).setCell ⟨w.heap.size + 1, 2, none⟩ (.string (g n).name)).setCell ⟨w.heap.size + 1, 3, none⟩ (.slice ya (g n).args.length yc)) = W3 at *
      have k0 : W3.cell? ⟨w.heap.size + 1, 0, none⟩ = some (.int .i64 (g n).kind) := by rw [cell_of_row _ _ _ _ _ _ FO.1]; rfl
      have k1 : W3.cell? ⟨w.heap.size + 1, 1, none⟩ = some (.int .i64 (g n).num) := by rw [cell_of_row _ _ _ _ _ _ FO.1]; rfl
      have k2 : W3.cell? ⟨w.heap.size + 1, 2, none⟩ = some (.string (g n).name) := by rw [cell_of_row _ _ _ _ _ _ FO.1]; rfl
      have k3 : W3.cell? ⟨w.heap.size + 1, 3, none⟩ = some (.slice ya (g n).args.length yc) := by rw [cell_of_row _ _ _ _ _ _ FO.1]; rfl
      exact bodyPost_ret (v := tv (g n) (.slice ya (g n).args.length yc)) (by simp [results, Try.results87, go_sem, k0, k1, k2, k3]) rfl PE
    · have E0 : Hid (varsF xs (.mk k n s ts) = varsL xs ts) := varsF_not xs k n s ts h0
      have E1 : Hid (mapT g (.mk k n s ts) = .mk k n s (mapL g ts)) := by show _ = _; simp [mapT, h0]
      by_cases h3 : k = 3
      · subst h3
        have hlen : 1 ≤ ts.length ∧ ts.length ≤ 8 ∧ n = 0 := by simp only [nodeB] at hnd; simp at hnd; omega
        obtain ⟨hl1, hl8, rfl⟩ := hlen
        have HPRE : Hid (varsL xs ts <+: L) := by show _; rw [← E0.out]; exact hpre
        have HI : Hid (∀ (i : Nat) (hi : i < ts.length) (v : Value) (xs : List Int) (w : World), LiesT W ts[i] v → V xs own w → Below W.heap.size W w → nodesB ts[i] = true → varsF xs ts[i] <+: L →
    Calls Try.prog 87 #[tv ts[i] v, .func (.func 88) #[] #[]] w (PutEnd V W own (mapT g ts[i]) (varsF xs ts[i]) w)) := fun i hi => ih _ (List.getElem_mem hi)
        have HNOD := Lib.hid (nodes_at hnod).2
        have hI : Hid (s.size ≤ 9223372036854775807) := by
          show _
          simp only [LiesT] at hv
          exact hv.2.2.1
        rcases hv.len with ⟨rfl, a, cap, rfl⟩ | ⟨b, o, cap, rfl, hpos, hlc, hcap, hl⟩
        · simp at hl1
        · have HL := Lib.hid hl
          have hmk : ∀ w, (Instr.makeSlice 22 (.int .i64 ts.length) (.int .i64 ts.length)).run Try.prog w = .ok (.slice (some ⟨w.heap.size, 0, none⟩) ts.length ts.length) (w.alloc (.cells (mk0 ts.length) 24)) := fun w => by
            have h := run_make (P := Try.prog) w 22 24 i0 _ under22 hi0 hz0 .i64 .i64 ts.length ts.length (by omega) (by omega) (by rw [hz2]; omega) (by omega)
            simp only [Int.toNat_natCast, hz1] at h
            exact h
          have V3 : Hid (∀ o1 o2 o3, V xs own (((w.alloc o1).alloc o2).alloc o3)) := fun o1 o2 o3 => HK.out.keep _ _ _ _ (V2.out o1 o2) (fun g hg => by rw [Below.heap_alloc _ _ _ (by have := LT.out g hg; simp; omega)]) (by simp)
          have B3 : Hid (∀ o1 o2 o3, Below W.heap.size W (((w.alloc o1).alloc o2).alloc o3)) := fun o1 o2 o3 => (B2.out o1 o2).alloc (by simp; omega) _
          have R3 : Hid (∀ o1 o2 o3, (((w.alloc o1).alloc o2).alloc o3).heap[w.heap.size]? = some o1 ∧ (((w.alloc o1).alloc o2).alloc o3).heap[w.heap.size + 1]? = some o2 ∧ (((w.alloc o1).alloc o2).alloc o3).heap[w.heap.size + 1 + 1]? = some o3 ∧ ∀ g, g < w.heap.size → (((w.alloc o1).alloc o2).alloc o3).heap[g]? = w.heap[g]?) := fun o1 o2 o3 =>
            ⟨by rw [Below.heap_alloc _ _ _ (by simp; omega)]; exact (R2.out o1 o2).1, by rw [Below.heap_alloc _ _ _ (by simp)]; exact (R2.out o1 o2).2.1, by have h := heap_alloc_new ((w.alloc o1).alloc o2) o3; simpa using h, fun g hg => by rw [Below.heap_alloc _ _ _ (by simp; omega)]; exact (R2.out o1 o2).2.2.2 g hg⟩
          clear hnd hnod hpre hV hb ih hv hk hl hi0 hz0 hz1 hz2 h0
          rw [E0.out, E1.out]
          simp only [tv, Tm.kind, Tm.num, Tm.name]
          go_enter Try.func87, Try.ntmps87
          go_wp2_with fail
          go_loopw [25] (fun i wr => ∃ (j : Nat) (l : List (Tm × Value)) (cs : Array Value), j ≤ ts.length ∧ i = .int .i64 j ∧ Hid (l.map Prod.fst = (mapL g ts).take j) ∧ Hid (Below W.heap.size W wr) ∧ Hid (w.heap.size + 3 ≤ wr.heap.size) ∧
            Hid (wr.heap[w.heap.size]? = some (.cells #[.int .i64 3, .int .i64 0, .string s, .slice (some ⟨b, o, none⟩) ts.length cap] 24 (0, 0))) ∧
            Hid (wr.heap[w.heap.size + 1]? = some (.cells #[.int .i64 0, .int .i64 0, .string ⟨#[]⟩, .slice none 0 0] 24 (0, 0))) ∧
            Hid (wr.heap[w.heap.size + 1 + 1]? = some (.cells cs 24 (0, 0))) ∧ Hid (cs.size = ts.length * 4) ∧ Hid (∀ (k : Nat) (u : Value), (flat l)[k]? = some u → cs[k]? = some u) ∧
            Hid (∀ p ∈ l, OwnT (fun x => w.heap.size + 3 ≤ x ∧ x < wr.heap.size) wr p.1 p.2) ∧ Hid (V (varsL xs (ts.take j)) own wr) ∧ Hid (∀ g, g < w.heap.size → ¬ own g → wr.heap[g]? = w.heap[g]?)) (fun i _ => ts.length - (intOf i).toNat)
          case atStart =>
            exact ⟨0, [], _, by omega, rfl, Lib.hid (by simp), B3.out _ _ _, Lib.hid (by simp), (R3.out _ _ _).1, (R3.out _ _ _).2.1, (R3.out _ _ _).2.2.1, mk0_size _, Lib.hid (by simp [flat]), Lib.hid (by simp), Lib.hid (by simpa [varsL] using V3.out _ _ _), fun g hg _ => (R3.out _ _ _).2.2.2 g hg⟩
          case round =>
            obtain ⟨j, l, cs, hj, rfl, hfst, rB, rz, r0, r1, r2, rcs, rfl2, rp, rV, rF⟩ := hrel
            by_cases hlt : j < ts.length
            · obtain ⟨u, c0, c1, c2, c3, hu⟩ := HL.out.at j hlt
              obtain ⟨ua, uc, rfl⟩ := hu.slice
              have d0 := cell_below rB.out _ _ c0
              have d1 := cell_below rB.out _ _ c1
              have d2 := cell_below rB.out _ _ c2
              have d3 := cell_below rB.out _ _ c3
              have HU := Lib.hid hu
              clear hu c0 c1 c2 c3
              have VA : Hid (∀ O, V (varsL xs (ts.take j)) own (wr.alloc O)) := fun O => HK.out.keep _ _ _ _ rV.out (fun g hg => Below.heap_alloc _ _ _ (HK.out.lt _ _ _ _ rV.out hg)) (by simp)
              have BA : Hid (∀ O, Below W.heap.size W (wr.alloc O)) := fun O => rB.out.alloc rB.out.size O
              have HKP : Hid (∀ O g, g < wr.heap.size → (wr.alloc O).heap[g]? = wr.heap[g]?) := fun O g h => Below.heap_alloc _ _ _ h
              have HP : Hid (varsF (varsL xs (ts.take j)) ts[j] <+: L) := by show _; rw [← varsL_take xs ts j hlt]; exact (varsL_take_pre xs ts (j + 1)).trans HPRE.out
              have hcs := rcs.out
              have hj4 : j * 4 + 3 < cs.size := by omega
              have ZR := rz.out
              have z0 : w.heap.size < wr.heap.size := by omega
              have z1 : w.heap.size + 1 < wr.heap.size := by omega
              have z2 : w.heap.size + 1 + 1 < wr.heap.size := by omega
              go_wp2_with (go_at_call 87; refine (HI.out j hlt _ (varsL xs (ts.take j)) _ HU.out (VA.out _) (BA.out _) (HNOD.out j hlt) HP.out).mono ?_; rintro e w3 ⟨y, rfl, hy, hV3, hz3, hf3, hb3⟩; obtain ⟨ya, yc, rfl⟩ := hy.slice; have Z3 := Lib.hid (show wr.heap.size + 1 ≤ w3.heap.size by simpa using hz3); have F3 : Hid (∀ g, g < wr.heap.size → ¬ own g → w3.heap[g]? = wr.heap[g]?) := fun g hg ho => (hf3 g (by simp; omega) ho).trans (HKP.out _ g hg); have K2 := Lib.hid ((F3.out (w.heap.size + 1 + 1) z2 (fun h => by have := LT.out _ h; omega)).trans r2.out); have KV := Lib.hid hV3; have KB := Lib.hid hb3; have KY := Lib.hid hy; have e0 : w3.cell? ⟨w.heap.size + 1 + 1, j * 4, none⟩ = some (cs[j * 4]'(by omega)) := (by rw [cell_of_row _ _ _ _ _ _ K2.out]; exact Array.getElem?_eq_getElem _); have e1 : w3.cell? ⟨w.heap.size + 1 + 1, j * 4 + 1, none⟩ = some (cs[j * 4 + 1]'(by omega)) := (by rw [cell_of_row _ _ _ _ _ _ K2.out]; exact Array.getElem?_eq_getElem _); have e2 : w3.cell? ⟨w.heap.size + 1 + 1, j * 4 + 2, none⟩ = some (cs[j * 4 + 2]'(by omega)) := (by rw [cell_of_row _ _ _ _ _ _ K2.out]; exact Array.getElem?_eq_getElem _); have e3 : w3.cell? ⟨w.heap.size + 1 + 1, j * 4 + 3, none⟩ = some (cs[j * 4 + 3]'(by omega)) := (by rw [cell_of_row _ _ _ _ _ _ K2.out]; exact Array.getElem?_eq_getElem _); have f0 := frozen_of_row _ _ (j * 4) _ _ K2.out; have f1 := frozen_of_row _ _ (j * 4 + 1) _ _ K2.out; have f2 := frozen_of_row _ _ (j * 4 + 2) _ _ K2.out; have f3 := frozen_of_row _ _ (j * 4 + 3) _ _ K2.out; clear hy hV3 hz3 hf3 hb3)
              go_roundw
              case rel =>
                obtain ⟨⟨cs', A0, A1, A2, A3, A4, A5, A6⟩, FB, FC, FD⟩ := fourAt K2.out j hj4 (.int .i64 (mapT g ts[j]).kind) (.int .i64 (mapT g ts[j]).num) (.string (mapT g ts[j]).name) (.slice ya (mapT g ts[j]).args.length yc)
                have hll : l.length = j := by
                  have h := congrArg List.length hfst.out
                  simp [mapL_length] at h; omega
                have Z3 := Z3.out
                refine ⟨j + 1, l ++ [(mapT g ts[j], .slice ya (mapT g ts[j]).args.length yc)], cs', by omega, by go_num, Lib.hid (take_succ_map g ts j hlt l hfst.out _), Lib.hid (FD _ _ (by omega) KB.out), Lib.hid (by omega), Lib.hid ?_, Lib.hid ?_, Lib.hid A0, Lib.hid (by omega), Lib.hid ?_, Lib.hid ?_, Lib.hid ?_, Lib.hid ?_⟩
                · exact (FB _ (by omega)).trans ((F3.out _ z0 (fun h => by have := LT.out _ h; omega)).trans r0.out)
                · exact (FB _ (by omega)).trans ((F3.out _ z1 (fun h => by have := LT.out _ h; omega)).trans r1.out)
                · intro k u hku
                  rw [flat_append] at hku
                  have hfl := flat_length l
                  by_cases hk : k < (flat l).length
                  · rw [List.getElem?_append_left hk] at hku
                    rw [A6 k (by omega)]; exact rfl2.out k u hku
                  · rw [List.getElem?_append_right (by omega)] at hku
                    have hk4 : k - (flat l).length < 4 := by
                      have := (List.getElem?_eq_some_iff.1 hku).1
                      simpa [flat] using this
                    have hkk : k = j * 4 ∨ k = j * 4 + 1 ∨ k = j * 4 + 2 ∨ k = j * 4 + 3 := by omega
                    rcases hkk with rfl | rfl | rfl | rfl
                    · rw [show j * 4 - (flat l).length = 0 by omega] at hku; rw [A2, ← hku]; rfl
                    · rw [show j * 4 + 1 - (flat l).length = 1 by omega] at hku; rw [A3, ← hku]; rfl
                    · rw [show j * 4 + 2 - (flat l).length = 2 by omega] at hku; rw [A4, ← hku]; rfl
                    · rw [show j * 4 + 3 - (flat l).length = 3 by omega] at hku; rw [A5, ← hku]; rfl
                · intro p hp
                  rw [List.mem_append] at hp
                  rcases hp with hp | hp
                  · refine (rp.out p hp).keep (fun b hb => (FB b (by omega)).trans (F3.out b hb.2 (fun h => by have := LT.out _ h; omega))) (fun b hb _ => ⟨hb.1, by omega⟩)
                  · obtain rfl := List.mem_singleton.1 hp
                    refine KY.out.keep (fun b hb => FB b (by have := hb.1; simp at this; omega)) (fun b hb _ => by have := hb.1; simp at this; exact ⟨by omega, by omega⟩)
                · rw [varsL_take xs ts j hlt]
                  exact HK.out.keep _ _ _ _ KV.out (fun g hg => FB g (by have := LT.out g hg; omega)) (by omega)
                · intro g hg ho
                  exact (FB g (by omega)).trans ((F3.out g (by omega) ho).trans (rF.out g hg ho))
              case measure => simp [intOf]; omega
            · have e : j = ts.length := by omega
              subst e
              have q0 : wr.cell? ⟨w.heap.size, 2, none⟩ = some (.string s) := by rw [cell_of_row _ _ _ _ _ _ r0.out]; rfl
              go_wp2_with (go_at_call 92; refine (structure_any _ _ _ _ _).mono ?_; rintro e w3 ⟨rfl, hb3⟩; have K1 := Lib.hid ((hb3.block (w.heap.size + 1) (by have := rz.out; omega)).trans r1.out); have KB := Lib.hid hb3; have c0 : w3.cell? ⟨w.heap.size + 1, 0, none⟩ = some (.int .i64 0) := (by rw [cell_of_row _ _ _ _ _ _ K1.out]; rfl); have c1 : w3.cell? ⟨w.heap.size + 1, 1, none⟩ = some (.int .i64 0) := (by rw [cell_of_row _ _ _ _ _ _ K1.out]; rfl); have c2 : w3.cell? ⟨w.heap.size + 1, 2, none⟩ = some (.string ⟨#[]⟩) := (by rw [cell_of_row _ _ _ _ _ _ K1.out]; rfl); have c3 : w3.cell? ⟨w.heap.size + 1, 3, none⟩ = some (.slice none 0 0) := (by rw [cell_of_row _ _ _ _ _ _ K1.out]; rfl); have f0 := frozen_of_row _ _ 0 _ _ K1.out; have f1 := frozen_of_row _ _ 1 _ _ K1.out; have f2 := frozen_of_row _ _ 2 _ _ K1.out; have f3 := frozen_of_row _ _ 3 _ _ K1.out; clear hb3)
              have hll : l.length = ts.length := by
                have h := congrArg List.length hfst.out
                simp [mapL_length] at h; omega
              have hz3 := KB.out.size
              have ZR := rz.out
              have OW : OwnT (fun b => w.heap.size + 2 ≤ b ∧ b < w3.heap.size) w3 (.mk 3 0 s (mapL g ts)) (.slice (some ⟨w.heap.size + 1 + 1, 0, none⟩) ts.length ts.length) := by
                unfold OwnT
                refine ⟨⟨by omega, by omega⟩, ⟨by omega, by omega⟩, hI.out, .inr ⟨w.heap.size + 1 + 1, ts.length, by rw [mapL_length], by rw [mapL_length]; omega, by omega, ⟨by omega, by omega⟩, ⟨cs, _, (KB.out.block _ (by omega)).trans r2.out⟩, ?_⟩⟩
                have h := OwnL.of_cells (S := fun b => w.heap.size + 2 ≤ b ∧ b < w3.heap.size) (w := w3) (g := w.heap.size + 1 + 1) l 0 (fun k u hk => by
                  rw [Nat.zero_add, cell_of_row _ _ _ _ _ _ ((KB.out.block _ (by omega)).trans r2.out)]; exact rfl2.out k u hk)
                  (fun p hp => (rp.out p hp).keep (fun b hb => KB.out.block b hb.2) (fun b hb _ => ⟨by omega, by omega⟩))
                rw [hfst.out, List.take_of_length_le (by rw [mapL_length]; omega)] at h
                exact h
              have VW : V (varsL xs ts) own w3 := by
                have h := rV.out
                rw [List.take_length] at h
                exact HK.out.keep _ _ _ _ h (fun g hg => KB.out.block g (HK.out.lt _ _ _ _ h hg)) hz3
              have FO := four K1.out (.int .i64 3) (.int .i64 0) (.string s) (.slice (some ⟨w.heap.size + 1 + 1, 0, none⟩) ts.length ts.length)
              have PE := put_end (T := .mk 3 0 s (mapL g ts)) HK.out (fun g hg => LT.out g hg) hbz (by omega) OW VW (fun g hg ho => (KB.out.block g (by omega)).trans (rF.out g hg ho)) (rB.out.trans (KB.out.mono rB.out.size)) K1.out _ rfl
              simp only [Tm.kind, Tm.num, Tm.name] at PE
              generalize ((((w3.setCell ⟨w.heap.size + 1, 0, none⟩ (.int .i64 3)).setCell ⟨w.heap.size + 1, 1, none⟩ (.int .i64 0)).setCell ⟨w.heap.size + 1, 2, none⟩ (.string s)).setCell ⟨w.heap.size + 1, 3, none⟩ (.slice (some ⟨w.heap.size + 1 + 1, 0, none⟩) ts.length ts.length)) = W3 at *
              have k0 : W3.cell? ⟨w.heap.size + 1, 0, none⟩ = some (.int .i64 3) := by rw [cell_of_row _ _ _ _ _ _ FO.1]; rfl
              have k1 : W3.cell? ⟨w.heap.size + 1, 1, none⟩ = some (.int .i64 0) := by rw [cell_of_row _ _ _ _ _ _ FO.1]; rfl
              have k2 : W3.cell? ⟨w.heap.size + 1, 2, none⟩ = some (.string s) := by rw [cell_of_row _ _ _ _ _ _ FO.1]; rfl
              have k3 : W3.cell? ⟨w.heap.size + 1, 3, none⟩ = some (.slice (some ⟨w.heap.size + 1 + 1, 0, none⟩) ts.length ts.length) := by rw [cell_of_row _ _ _ _ _ _ FO.1]; rfl
              exact bodyPost_ret (v := pv 3 0 s (.slice (some ⟨w.heap.size + 1 + 1, 0, none⟩) ts.length ts.length)) (by simp [results, Try.results87, go_sem, k0, k1, k2, k3]) rfl PE
      · have hts : ts = [] := by
          simp only [nodeB] at hnd
          rw [if_neg h0] at hnd
          by_cases h1 : k = 1
          · rw [if_pos h1] at hnd; simp at hnd; exact hnd.2
          · rw [if_neg h1] at hnd
            by_cases h2 : k = 2
            · rw [if_pos h2] at hnd; simp at hnd; exact hnd.2.2
            · rw [if_neg h2, if_neg h3] at hnd; cases hnd
        subst hts
        have hI : Hid (I64 k ∧ I64 n ∧ s.size ≤ 9223372036854775807) := by
          show _ ∧ _
          simp only [LiesT] at hv
          exact ⟨hv.1, hv.2.1, hv.2.2.1⟩
        have E2 : Hid (mapT g (.mk k n s []) = .mk k n s []) := by show _ = _; rw [E1.out]; rfl
        have E3 : Hid (varsF xs (.mk k n s []) = xs) := by show _ = _; rw [E0.out]; rfl
        have hk0 : (k == 0) = false := by simpa using h0
        have hk3 : (k == 3) = false := by simpa using h3
        clear hnd hnod hpre hV hb ih hv hk
        rw [E2.out, E3.out]
        simp only [tv, Tm.kind, Tm.num, Tm.name]
        go_enter Try.func87, Try.ntmps87
        go_wp2_with fail
        exact bodyPost_ret (v := pv k n s (.slice none 0 0)) (by simp [results, Try.results87, go_sem]) rfl ⟨.slice none 0 0, rfl, by unfold OwnT; exact ⟨hI.out.1, hI.out.2.1, hI.out.2.2, .inl ⟨rfl, rfl⟩⟩, V2.out _ _, by simp <;> omega, fun g hg _ => (R2.out _ _).2.2.2 g hg, B2.out _ _⟩

end Go.Proofs.Yteilodihjhdngaa

/- The program's substitute with the function hornbeam/term.Canon$1. -/
namespace Go.Proofs.Yteilodihjhdngaa
open Go.RowKit Go.Proofs.HT

end Go.Proofs.Yteilodihjhdngaa

/- The program's substitute with the function hornbeam/term.Rename$2. -/
namespace Go.Proofs.Yteilodihjhdngaa
open Go.RowKit Go.Proofs.HT

end Go.Proofs.Yteilodihjhdngaa

/- The program's substitute with the function hornbeam/term.Replace$2. -/
namespace Go.Proofs.Yteilodihjhdngaa
open Go.RowKit Go.Proofs.HT

end Go.Proofs.Yteilodihjhdngaa

/- The functions that substitute is handed: Var, and those of Rename and Replace; Clone. -/
namespace Go.Proofs.Yteilodihjhdngaa
open Go.RowKit Go.Proofs.HT

def vr (n : Int) : Tm := .mk 0 n ⟨#[]⟩ []
theorem vr_own {S : Nat → Prop} {w : World} {n : Int} (h : I64 n) : OwnT S w (vr n) (.slice none 0 0) := by
  unfold vr OwnT
  exact ⟨⟨by omega, by omega⟩, h, by simp [ByteArray.size], .inl ⟨rfl, rfl⟩⟩
theorem numB_i64 {n : Int} (h : numB n = true) : I64 n := by have := numB_iff.1 h; exact ⟨by omega, by omega⟩
theorem vr_end {V : List Int → (Nat → Prop) → World → Prop} (hk : VisKeep V) {W w w' : World} {own : Nat → Prop} {xs : List Int} {n : Int} (hn : I64 n) (hV : V xs own w) (hB : Below W.heap.size W w) (hb : Below w.heap.size w w') :
    PutEnd V W own (vr n) xs w (.returned (pv 0 n ⟨#[]⟩ (.slice none 0 0))) w' :=
  ⟨.slice none 0 0, rfl, vr_own hn, hk.keep _ _ _ _ hV (fun g hg => hb.block g (hk.lt _ _ _ _ hV hg)) hb.size, hb.size, fun g hg _ => hb.block g hg, hB.trans (hb.mono hB.size)⟩
theorem mapT_vr (t : Tm) : nodesB t = true → mapT vr t = t := by
  induction t using Tm.ind with
  | h k n s ts ih =>
    intro h
    have hn := nodes_at h
    by_cases h0 : k = 0
    · subst h0
      obtain ⟨_, _, rfl, hl⟩ := node_var hn.1
      obtain rfl : ts = [] := List.length_eq_zero_iff.1 hl
      simp [mapT, vr]
    · have key : ∀ l : List Tm, (∀ t ∈ l, mapT vr t = t) → mapL vr l = l := by
        intro l
        induction l with
        | nil => intro _; rfl
        | cons x l ih2 => intro h; rw [mapL, h x (by simp), ih2 (fun y hy => h y (by simp [hy]))]
      rw [mapT, if_neg h0, key ts (fun t ht => by
        obtain ⟨i, hi, rfl⟩ := List.getElem_of_mem ht
        exact ih _ ht (hn.2 i hi))]

/-! Var. -/
def V0 (_ : List Int) (own : Nat → Prop) (_ : World) : Prop := ∀ g, ¬ own g
theorem V0_keep : VisKeep V0 := ⟨fun _ _ _ _ h _ _ => h, fun _ _ _ g h ho => absurd ho (h g)⟩
theorem var_put (W : World) (L : List Int) : Hid (∀ xs n w, V0 xs (fun _ => False) w → numB n = true → Below W.heap.size W w → addv xs n <+: L → Calls Try.prog 88 #[.int .i64 n] w (PutEnd V0 W (fun _ => False) (vr n) (addv xs n) w)) :=
  fun xs n w hV hn hb _ => (Var_yes n w hn).mono fun e w' h => by
    rw [h.1]; exact vr_end V0_keep (numB_i64 hn) (xs := addv xs n) hV hb h.2

/-- Substitute with Var: a copy. -/
theorem copy_any (W : World) (t : Tm) (v : Value) (w : World) (h : LiesT W t v) (hb : Below W.heap.size W w) (hn : nodesB t = true) :
    Calls Try.prog 87 #[tv t v, .func (.func 88) #[] #[]] w (MadeEnd t w) :=
  (subst_var V0 V0_keep W (fun _ => False) vr (varsF [] t) (var_put W _) t v [] w h (fun _ h => h) hb hn (List.prefix_refl _)).mono fun e w' ⟨y, he, hy, _, hz, hf, hb2⟩ => by
    rw [mapT_vr t hn] at he hy
    exact ⟨y, he, hy, ⟨hb2.os.trans hb.os.symm, hb2.tape.trans hb.tape.symm, hb2.output.trans hb.output.symm, hz, fun g hg => hf g hg (fun h => h)⟩⟩

/-! Rename's function. -/
def V1 (f : Int) (fb : Nat) (_ : List Int) (own : Nat → Prop) (w : World) : Prop := (∀ g, own g ↔ g = fb) ∧ w.heap[fb]? = some (.cells #[.int .i64 f] 2 (0, 0))
theorem V1_keep (f : Int) (fb : Nat) : VisKeep (V1 f fb) := ⟨fun _ _ _ _ h k _ => ⟨h.1, by rw [k fb ((h.1 fb).2 rfl)]; exact h.2⟩, fun _ _ _ g h ho => by rw [(h.1 g).1 ho]; exact (Array.getElem?_eq_some_iff.1 h.2).1⟩
theorem addv_mem (xs : List Int) (n : Int) : n ∈ addv xs n := by
  unfold addv
  by_cases h : posF xs n 0 < 0
  · rw [if_pos h]; simp
  · rw [if_neg h]
    rw [posF_iff] at h
    simp at h; exact h

theorem addv_step (xs : List Int) (n : Int) : addv xs n = xs ∨ addv xs n = xs ++ [n] := by unfold addv; split <;> simp

end Go.Proofs.Yteilodihjhdngaa

/- Replace's function, Canon's function. -/
namespace Go.Proofs.Yteilodihjhdngaa
open Go.RowKit Go.Proofs.HT

/-- A term is stored in the result's cell, the first block of the call. -/
theorem put_end1 {V : List Int → (Nat → Prop) → World → Prop} (hk : VisKeep V) {W w w2 : World} {own : Nat → Prop} {T : Tm} {xs : List Int} {y : Value} {a0 a1 a2 a3 : Value}
    (hV : V xs own w) (hB : Below W.heap.size W w) (hb : Below w.heap.size w w2) (hy : OwnT (fun b => w.heap.size + 1 ≤ b ∧ b < w2.heap.size) w2 T y) (h : w2.heap[w.heap.size]? = some (.cells #[a0, a1, a2, a3] 24 (0, 0)))
    (w3 : World) (e : w3 = ((((w2.setCell ⟨w.heap.size, 0, none⟩ (.int .i64 T.kind)).setCell ⟨w.heap.size, 1, none⟩ (.int .i64 T.num)).setCell ⟨w.heap.size, 2, none⟩ (.string T.name)).setCell ⟨w.heap.size, 3, none⟩ y)) :
    PutEnd V W own T xs w (.returned (tv T y)) w3 := by
  obtain ⟨F1, F2, F3, F4⟩ := four h (.int .i64 T.kind) (.int .i64 T.num) (.string T.name) y
  rw [← e] at F1 F2 F3 F4
  have hb3 := F4 _ _ (Nat.le_refl _) hb
  exact ⟨y, rfl, hy.keep (fun b hb => F2 b (by omega)) (fun b hb _ => ⟨by omega, by omega⟩), hk.keep _ _ _ _ hV (fun g hg => hb3.block g (hk.lt _ _ _ _ hV hg)) hb3.size, hb3.size, fun g hg _ => hb3.block g hg, hB.trans (hb3.mono hB.size)⟩

def V2 (x : Int) (t : Tm) (bv : Value) (vb bb : Nat) (_ : List Int) (own : Nat → Prop) (w : World) : Prop :=
  (∀ g, own g ↔ g = vb ∨ g = bb) ∧ w.heap[vb]? = some (.cells #[.int .i64 x] 2 (0, 0)) ∧ w.heap[bb]? = some (.cells #[.int .i64 t.kind, .int .i64 t.num, .string t.name, bv] 24 (0, 0))
theorem V2_keep (x : Int) (t : Tm) (bv : Value) (vb bb : Nat) : VisKeep (V2 x t bv vb bb) := ⟨fun _ _ _ _ h k _ => ⟨h.1, by rw [k vb ((h.1 vb).2 (.inl rfl))]; exact h.2.1, by rw [k bb ((h.1 bb).2 (.inr rfl))]; exact h.2.2⟩,
  fun _ _ _ g h ho => by rcases (h.1 g).1 ho with rfl | rfl; exact (Array.getElem?_eq_some_iff.1 h.2.1).1; exact (Array.getElem?_eq_some_iff.1 h.2.2).1⟩
def gR (x : Int) (t : Tm) (n : Int) : Tm := if n = x then t else vr n

end Go.Proofs.Yteilodihjhdngaa

/- Canon's function. -/
namespace Go.Proofs.Yteilodihjhdngaa
open Go.RowKit Go.Proofs.HT

/-- The entries of a numbering. -/
def idx : List Int → Nat → List (Int × Value)
  | [], _ => []
  | x :: xs, i => (x, .int .i64 i) :: idx xs (i + 1)
theorem idx_len : ∀ (xs : List Int) (i : Nat), (idx xs i).length = xs.length
  | [], _ => rfl
  | x :: xs, i => by simp [idx, idx_len xs]
theorem idx_snoc : ∀ (xs : List Int) (n : Int) (i : Nat), idx (xs ++ [n]) i = idx xs i ++ [(n, .int .i64 (i + xs.length : Nat))]
  | [], n, i => by simp [idx]
  | x :: xs, n, i => by simp [idx, idx_snoc xs n (i + 1)]; omega
theorem posF_cons (x : Int) (xs : List Int) (n : Int) (i : Nat) : posF (x :: xs) n i = if x = n then (i : Int) else posF xs n (i + 1) := by rw [posF]
theorem findI_idx : ∀ (xs : List Int) (n : Int) (i : Nat), findI n (idx xs i) = if posF xs n i < 0 then none else some (.int .i64 (posF xs n i))
  | [], n, i => by simp [idx, findI, posF]
  | x :: xs, n, i => by
    have h := findI_idx xs n (i + 1)
    rw [posF_cons]
    simp only [idx, findI]
    by_cases e : n = x
    · have e' : x = n := e.symm
      rw [if_pos e, if_pos e', if_neg (by omega)]
    · have e' : ¬ x = n := fun h => e h.symm
      rw [if_neg e, if_neg e', h]
theorem posF_pre : ∀ (xs ys : List Int) (n : Int) (i : Nat), ¬ posF xs n i < 0 → posF (xs ++ ys) n i = posF xs n i
  | [], ys, n, i, h => by simp [posF] at h
  | x :: xs, ys, n, i, h => by
    rw [posF_cons] at h
    rw [List.cons_append, posF_cons, posF_cons]
    by_cases e : x = n
    · rw [if_pos e, if_pos e]
    · rw [if_neg e] at h
      rw [if_neg e, if_neg e]; exact posF_pre xs ys n (i + 1) h
theorem posF_snoc : ∀ (xs : List Int) (n : Int) (i : Nat), posF xs n i < 0 → posF (xs ++ [n]) n i = i + xs.length
  | [], n, i, _ => by simp [posF]
  | x :: xs, n, i, h => by
    rw [posF_cons] at h
    rw [List.cons_append, posF_cons]
    by_cases e : x = n
    · rw [if_pos e] at h; omega
    · rw [if_neg e] at h
      rw [if_neg e, posF_snoc xs n (i + 1) h]; simp; omega
theorem posF_of_pre {xs L : List Int} {n : Int} (h : xs <+: L) (hn : n ∈ xs) : posF L n 0 = posF xs n 0 := by
  obtain ⟨ys, rfl⟩ := h
  refine posF_pre xs ys n 0 fun h => ?_
  exact (posF_iff xs n 0).1 h n hn rfl

theorem zeroI (w : World) : (zeroValue 2).run Try.prog w = .ok (.int .i64 0) w := by kernel_rfl

end Go.Proofs.Yteilodihjhdngaa

/- The program's Clone and Canon. -/
namespace Go.Proofs.Yteilodihjhdngaa
open Go.RowKit Go.Proofs.HT

theorem validB_nodes {t : Tm} (h : validB t = true) : nodesB t = true ∧ cnt t ≤ 2000 := by unfold validB at h; simp at h; exact ⟨h.2, h.1⟩
/-- A term is stored in the result's cell, the second block of the call. -/
theorem made_end {w w2 : World} {T : Tm} {y : Value} {a0 a1 a2 a3 : Value} (hb : Below w.heap.size w w2) (hy : OwnT (fun b => w.heap.size + 2 ≤ b ∧ b < w2.heap.size) w2 T y) (h : w2.heap[w.heap.size + 1]? = some (.cells #[a0, a1, a2, a3] 24 (0, 0)))
    (w3 : World) (e : w3 = ((((w2.setCell ⟨w.heap.size + 1, 0, none⟩ (.int .i64 T.kind)).setCell ⟨w.heap.size + 1, 1, none⟩ (.int .i64 T.num)).setCell ⟨w.heap.size + 1, 2, none⟩ (.string T.name)).setCell ⟨w.heap.size + 1, 3, none⟩ y)) :
    MadeEnd T w (.returned (tv T y)) w3 := by
  obtain ⟨F1, F2, F3, F4⟩ := four h (.int .i64 T.kind) (.int .i64 T.num) (.string T.name) y
  rw [← e] at F1 F2 F3 F4
  exact ⟨y, rfl, hy.keep (fun b hb => F2 b (by omega)) (fun b hb _ => ⟨by omega, by omega⟩), F4 _ _ (by omega) hb⟩

set_option maxHeartbeats 1000000 in
theorem Clone_no (t : Tm) (v : Value) (w : World) (h : LiesT w t v) (hval : validB t = false) : Calls Try.prog 73 #[tv t v] w fun e w' => e = .returned zv ∧ Below w.heap.size w w' := by
  have HH := Lib.hid h
  have HB : Hid (∀ o1 o2, Below w.heap.size w ((w.alloc o1).alloc o2)) := fun o1 o2 => ((Below.refl w.heap.size w).alloc (Nat.le_refl _) _).alloc (by simp) _
  have HL : Hid (∀ o1 o2, LiesT ((w.alloc o1).alloc o2) t v) := fun o1 o2 => HH.out.below (HB.out o1 o2)
  have HR : Hid (∀ o1 o2, ((w.alloc o1).alloc o2).heap[w.heap.size]? = some o1 ∧ ((w.alloc o1).alloc o2).heap[w.heap.size + 1]? = some o2) := fun o1 o2 => ⟨by rw [Below.heap_alloc _ _ _ (by simp), heap_alloc_new], by have h := heap_alloc_new (w.alloc o1) o2; simpa using h⟩
  have HVL := Lib.hid hval
  clear h hval
  simp only [tv]
  go_enter Try.func73, Try.ntmps73
  go_wp2_with (go_at_call 71; refine (Valid_any t v _ (HL.out _ _)).mono ?_; rintro e w1 ⟨rfl, hb1⟩; have z1 : w.heap.size + 2 ≤ w1.heap.size := (by have := hb1.size; simp at this; omega); have z0 : w.heap.size < w1.heap.size := (by omega); have K0 := Lib.hid ((hb1.block w.heap.size (by simp; omega)).trans (HR.out _ _).1); have K1 := Lib.hid ((hb1.block (w.heap.size + 1) (by simp)).trans (HR.out _ _).2); have B1 := Lib.hid ((HB.out _ _).trans (hb1.mono (by simp; omega))); have hv1 := HVL.out; have p0 : w1.cell? ⟨w.heap.size, 0, none⟩ = some (.int .i64 t.kind) := (by rw [cell_of_row _ _ _ _ _ _ K0.out]; rfl); have p1 : w1.cell? ⟨w.heap.size, 1, none⟩ = some (.int .i64 t.num) := (by rw [cell_of_row _ _ _ _ _ _ K0.out]; rfl); have p2 : w1.cell? ⟨w.heap.size, 2, none⟩ = some (.string t.name) := (by rw [cell_of_row _ _ _ _ _ _ K0.out]; rfl); have p3 : w1.cell? ⟨w.heap.size, 3, none⟩ = some (v) := (by rw [cell_of_row _ _ _ _ _ _ K0.out]; rfl); have c0 : w1.cell? ⟨w.heap.size + 1, 0, none⟩ = some (.int .i64 0) := (by rw [cell_of_row _ _ _ _ _ _ K1.out]; rfl); have c1 : w1.cell? ⟨w.heap.size + 1, 1, none⟩ = some (.int .i64 0) := (by rw [cell_of_row _ _ _ _ _ _ K1.out]; rfl); have c2 : w1.cell? ⟨w.heap.size + 1, 2, none⟩ = some (.string ⟨#[]⟩) := (by rw [cell_of_row _ _ _ _ _ _ K1.out]; rfl); have c3 : w1.cell? ⟨w.heap.size + 1, 3, none⟩ = some (.slice none 0 0) := (by rw [cell_of_row _ _ _ _ _ _ K1.out]; rfl); have cf0 := frozen_of_row _ _ 0 _ _ K1.out; have cf1 := frozen_of_row _ _ 1 _ _ K1.out; have cf2 := frozen_of_row _ _ 2 _ _ K1.out; have cf3 := frozen_of_row _ _ 3 _ _ K1.out; clear hb1)
  have FO := four K1.out (.int .i64 0) (.int .i64 0) (.string ⟨#[]⟩) (.slice none 0 0)
  have PE := FO.2.2.2 _ _ (by omega) B1.out
  generalize ((((w1.setCell ⟨w.heap.size + 1, 0, none⟩ (.int .i64 0)).setCell ⟨w.heap.size + 1, 1, none⟩ (.int .i64 0)).setCell ⟨w.heap.size + 1, 2, none⟩ (.string ⟨#[]⟩)).setCell ⟨w.heap.size + 1, 3, none⟩ (.slice none 0 0)) = W3 at *
  have k0 : W3.cell? ⟨w.heap.size + 1, 0, none⟩ = some (.int .i64 0) := by rw [cell_of_row _ _ _ _ _ _ FO.1]; rfl
  have k1 : W3.cell? ⟨w.heap.size + 1, 1, none⟩ = some (.int .i64 0) := by rw [cell_of_row _ _ _ _ _ _ FO.1]; rfl
  have k2 : W3.cell? ⟨w.heap.size + 1, 2, none⟩ = some (.string ⟨#[]⟩) := by rw [cell_of_row _ _ _ _ _ _ FO.1]; rfl
  have k3 : W3.cell? ⟨w.heap.size + 1, 3, none⟩ = some (.slice none 0 0) := by rw [cell_of_row _ _ _ _ _ _ FO.1]; rfl
  exact bodyPost_ret (v := zv) (by simp [results, Try.results73, go_sem, k0, k1, k2, k3]) rfl ⟨rfl, PE⟩

set_option maxHeartbeats 1000000 in
theorem Clone_yes (t : Tm) (v : Value) (w : World) (h : LiesT w t v) (hval : validB t = true) : Calls Try.prog 73 #[tv t v] w (MadeEnd t w) := by
  have HH := Lib.hid h
  have HB : Hid (∀ o1 o2, Below w.heap.size w ((w.alloc o1).alloc o2)) := fun o1 o2 => ((Below.refl w.heap.size w).alloc (Nat.le_refl _) _).alloc (by simp) _
  have HL : Hid (∀ o1 o2, LiesT ((w.alloc o1).alloc o2) t v) := fun o1 o2 => HH.out.below (HB.out o1 o2)
  have HR : Hid (∀ o1 o2, ((w.alloc o1).alloc o2).heap[w.heap.size]? = some o1 ∧ ((w.alloc o1).alloc o2).heap[w.heap.size + 1]? = some o2) := fun o1 o2 => ⟨by rw [Below.heap_alloc _ _ _ (by simp), heap_alloc_new], by have h := heap_alloc_new (w.alloc o1) o2; simpa using h⟩
  have HVL := Lib.hid hval
  have HN := Lib.hid (validB_nodes hval).1
  clear h hval
  simp only [tv]
  go_enter Try.func73, Try.ntmps73
  go_wp2_with (first
    | (go_at_call 71; refine (Valid_any t v _ (HL.out _ _)).mono ?_; rintro e w1 ⟨rfl, hb1⟩; have z1 : w.heap.size + 2 ≤ w1.heap.size := (by have := hb1.size; simp at this; omega); have z0 : w.heap.size < w1.heap.size := (by omega); have K0 := Lib.hid ((hb1.block w.heap.size (by simp; omega)).trans (HR.out _ _).1); have K1 := Lib.hid ((hb1.block (w.heap.size + 1) (by simp)).trans (HR.out _ _).2); have B1 := Lib.hid ((HB.out _ _).trans (hb1.mono (by simp; omega))); have hv1 := HVL.out; have p0 : w1.cell? ⟨w.heap.size, 0, none⟩ = some (.int .i64 t.kind) := (by rw [cell_of_row _ _ _ _ _ _ K0.out]; rfl); have p1 : w1.cell? ⟨w.heap.size, 1, none⟩ = some (.int .i64 t.num) := (by rw [cell_of_row _ _ _ _ _ _ K0.out]; rfl); have p2 : w1.cell? ⟨w.heap.size, 2, none⟩ = some (.string t.name) := (by rw [cell_of_row _ _ _ _ _ _ K0.out]; rfl); have p3 : w1.cell? ⟨w.heap.size, 3, none⟩ = some (v) := (by rw [cell_of_row _ _ _ _ _ _ K0.out]; rfl); clear hb1)
    | (go_at_call 87; refine (copy_any w t v _ HH.out B1.out HN.out).mono ?_; rintro e w2 ⟨y, rfl, hy, hb2⟩; obtain ⟨ya, yc, rfl⟩ := hy.slice; have K2 := Lib.hid ((hb2.block (w.heap.size + 1) (by omega)).trans K1.out); have KB := Lib.hid (B1.out.trans (hb2.mono B1.out.size)); have KY := Lib.hid hy; have d0 : w2.cell? ⟨w.heap.size + 1, 0, none⟩ = some (.int .i64 0) := (by rw [cell_of_row _ _ _ _ _ _ K2.out]; rfl); have d1 : w2.cell? ⟨w.heap.size + 1, 1, none⟩ = some (.int .i64 0) := (by rw [cell_of_row _ _ _ _ _ _ K2.out]; rfl); have d2 : w2.cell? ⟨w.heap.size + 1, 2, none⟩ = some (.string ⟨#[]⟩) := (by rw [cell_of_row _ _ _ _ _ _ K2.out]; rfl); have d3 : w2.cell? ⟨w.heap.size + 1, 3, none⟩ = some (.slice none 0 0) := (by rw [cell_of_row _ _ _ _ _ _ K2.out]; rfl); have df0 := frozen_of_row _ _ 0 _ _ K2.out; have df1 := frozen_of_row _ _ 1 _ _ K2.out; have df2 := frozen_of_row _ _ 2 _ _ K2.out; have df3 := frozen_of_row _ _ 3 _ _ K2.out; clear hb2 hy))
  have FO := four K2.out (.int .i64 t.kind) (.int .i64 t.num) (.string t.name) (.slice ya t.args.length yc)
  have PE := made_end (T := t) KB.out (KY.out.keep (fun _ _ => rfl) (fun b hb _ => ⟨by omega, hb.2⟩)) K2.out _ rfl
  generalize ((((w2.setCell ⟨w.heap.size + 1, 0, none⟩ (.int .i64 t.kind)).setCell ⟨w.heap.size + 1, 1, none⟩ (.int .i64 t.num)).setCell ⟨w.heap.size + 1, 2, none⟩ (.string t.name)).setCell ⟨w.heap.size + 1, 3, none⟩ (.slice ya t.args.length yc)) = W3 at *
  have k0 : W3.cell? ⟨w.heap.size + 1, 0, none⟩ = some (.int .i64 t.kind) := by rw [cell_of_row _ _ _ _ _ _ FO.1]; rfl
  have k1 : W3.cell? ⟨w.heap.size + 1, 1, none⟩ = some (.int .i64 t.num) := by rw [cell_of_row _ _ _ _ _ _ FO.1]; rfl
  have k2 : W3.cell? ⟨w.heap.size + 1, 2, none⟩ = some (.string t.name) := by rw [cell_of_row _ _ _ _ _ _ FO.1]; rfl
  have k3 : W3.cell? ⟨w.heap.size + 1, 3, none⟩ = some (.slice ya t.args.length yc) := by rw [cell_of_row _ _ _ _ _ _ FO.1]; rfl
  exact bodyPost_ret (v := .agg #[.int .i64 t.kind, .int .i64 t.num, .string t.name, .slice ya t.args.length yc]) (by simp [results, Try.results73, go_sem, k0, k1, k2, k3]) rfl PE

/-- The canonical form. -/
def canT (t : Tm) : Tm := mapT (nb (varsF [] t)) t
end Go.Proofs.Yteilodihjhdngaa

/- slices.ContainsFunc with Rename's test. -/
namespace Go.Proofs.Yteilodihjhdngaa
open Go.RowKit Go.Proofs.HT

/-- The index of the first number that can't be shifted, or -1. -/
def badF (f : Int) : List Int → Nat → Int
  | [], _ => -1
  | x :: xs, i => if numB (x + f) = true then badF f xs (i + 1) else i
theorem badF_drop (f : Int) (xs : List Int) (j : Nat) (hj : j < xs.length) : badF f (xs.drop j) j = if numB (xs[j] + f) = true then badF f (xs.drop (j + 1)) (j + 1) else (j : Int) := by
  rw [List.drop_eq_getElem_cons hj, badF]
theorem badF_iff (f : Int) : ∀ (xs : List Int) (i : Nat), (0 ≤ badF f xs i) ↔ ¬ ∀ x ∈ xs, numB (x + f) = true
  | [], i => by simp [badF]
  | x :: xs, i => by
    have h := badF_iff f xs (i + 1)
    rw [badF]
    by_cases e : numB (x + f) = true
    · rw [if_pos e, h]; simp [e]
    · rw [if_neg e]; simp [e]

end Go.Proofs.Yteilodihjhdngaa

/- The program's Rename. -/
namespace Go.Proofs.Yteilodihjhdngaa
open Go.RowKit Go.Proofs.HT

theorem rows3 (w : World) (o1 o2 o3 : Obj) : (((w.alloc o1).alloc o2).alloc o3).heap[w.heap.size]? = some o1 ∧ (((w.alloc o1).alloc o2).alloc o3).heap[w.heap.size + 1]? = some o2 ∧ (((w.alloc o1).alloc o2).alloc o3).heap[w.heap.size + 1 + 1]? = some o3 := by
  refine ⟨?_, ?_, ?_⟩
  · rw [Below.heap_alloc _ _ _ (by simp <;> omega), Below.heap_alloc _ _ _ (by simp), heap_alloc_new]
  · rw [Below.heap_alloc _ _ _ (by simp)]
    have h := heap_alloc_new (w.alloc o1) o2; simpa using h
  · have h := heap_alloc_new ((w.alloc o1).alloc o2) o3; simpa using h

theorem varsF_num (t : Tm) : nodesB t = true → ∀ xs : List Int, (∀ x ∈ xs, numB x = true) → ∀ x ∈ varsF xs t, numB x = true := by
  induction t using Tm.ind with
  | h k n s ts ih =>
    intro h xs hxs
    have hn := nodes_at h
    have key : ∀ (l : List Tm), (∀ t ∈ l, ∀ xs : List Int, (∀ x ∈ xs, numB x = true) → ∀ x ∈ varsF xs t, numB x = true) → ∀ xs : List Int, (∀ x ∈ xs, numB x = true) → ∀ x ∈ varsL xs l, numB x = true := by
      intro l
      induction l with
      | nil => intro _ xs h; exact h
      | cons y l ih2 => intro h xs hxs; rw [varsL]; exact ih2 (fun z hz => h z (by simp [hz])) _ (h y (by simp) xs hxs)
    rw [varsF]
    refine key ts (fun t ht => by obtain ⟨i, hi, rfl⟩ := List.getElem_of_mem ht; exact ih _ ht (hn.2 i hi)) _ ?_
    split
    · rename_i hc
      intro x hx
      rw [List.mem_append, List.mem_singleton] at hx
      rcases hx with hx | rfl
      · exact hxs x hx
      · obtain ⟨rfl, _⟩ := hc
        have := node_var hn.1
        exact numB_iff.2 ⟨this.1, this.2.1⟩
    · exact hxs

/-- A term of the call's own and an error code. -/
def MadeE (t : Tm) (c : Int) (w : World) (e : Ending) (w' : World) : Prop := ∃ v, e = .returned (.tuple #[tv t v, .int .i64 c]) ∧ OwnT (fun b => w.heap.size ≤ b ∧ b < w'.heap.size) w' t v ∧ Below w.heap.size w w'
def z0 : Tm := .mk 0 0 ⟨#[]⟩ []
theorem zero_own {S : Nat → Prop} {w : World} : OwnT S w z0 (.slice none 0 0) := vr_own (n := 0) ⟨by omega, by omega⟩

theorem made_e {w w2 : World} {b c : Nat} {T : Tm} {y : Value} {n : Int} {a0 a1 a2 a3 : Value} (hc : w.heap.size ≤ b) (hcb : b < c) (hb : Below w.heap.size w w2) (hy : OwnT (fun b => c ≤ b ∧ b < w2.heap.size) w2 T y) (h : w2.heap[b]? = some (.cells #[a0, a1, a2, a3] 24 (0, 0)))
    (w3 : World) (e : w3 = ((((w2.setCell ⟨b, 0, none⟩ (.int .i64 T.kind)).setCell ⟨b, 1, none⟩ (.int .i64 T.num)).setCell ⟨b, 2, none⟩ (.string T.name)).setCell ⟨b, 3, none⟩ y)) :
    MadeE T n w (.returned (.tuple #[tv T y, .int .i64 n])) w3 := by
  obtain ⟨F1, F2, F3, F4⟩ := four h (.int .i64 T.kind) (.int .i64 T.num) (.string T.name) y
  rw [← e] at F1 F2 F3 F4
  exact ⟨y, rfl, hy.keep (fun b hb => F2 b (by omega)) (fun b hb _ => ⟨by omega, by omega⟩), F4 _ _ hc hb⟩

end Go.Proofs.Yteilodihjhdngaa

/- The program's Replace. -/
namespace Go.Proofs.Yteilodihjhdngaa
open Go.RowKit Go.Proofs.HT

/-- How often a variable occurs. -/
def occT (x : Int) (t : Tm) : Nat := occN x (pre t)
theorem vr_start (x : Int) (w w2 : World) (z : w.heap.size + 2 ≤ w2.heap.size) (h : w2.heap[w.heap.size + 1]? = some (.cells #[.int .i64 x] 2 (0, 0))) :
    VR x (w.heap.size + 1) w2.heap.size [] (fun g => g = w.heap.size + 1 ∨ g = w2.heap.size) (w2.alloc (.cells #[.int .i64 0] 3)) :=
  ⟨fun _ => Iff.rfl, by rw [Below.heap_alloc _ _ _ (by omega)]; exact h, by rw [heap_alloc_new]; rfl⟩
/-- The size of the result. -/
def repN (t d : Tm) (x : Int) : Int := cnt t + occT x t * ((cnt d : Int) - 1)
theorem cntM_val {t : Tm} (h : cnt t ≤ 2000) : cntM t 2001 = cnt t := by unfold cntM; rw [if_pos (by omega)]
theorem prod_bd (o q : Nat) (ho : o ≤ 2001) (hq : q ≤ 2000) : 0 ≤ (o : Int) * (q : Int) ∧ (o : Int) * (q : Int) ≤ 10000000 := by
  have h := Nat.mul_le_mul ho hq
  have h2 : ((o * q : Nat) : Int) = (o : Int) * (q : Int) := by simp
  omega

end Go.Proofs.Yteilodihjhdngaa
