/- The contract of slices.Insert at pairs, for one pair, into a row of the caller's own that has room. -/
import Derived.Test.YtcjpbomdnjmfkaaDoorA6
import Derived.Lib.Overlaps
namespace Go.Proofs.YtcjpbomdnjmfkaaDoor
open Go.RowKit

theorem splice2 {α : Type} (cur X Y : List α) (a c : Nat) (hY : Y.length = c) (hf : a + c + X.length ≤ cur.length) :
    (splice (splice cur (a + c) X) a Y).take (a + c + X.length) = cur.take a ++ (Y ++ X) := by
  subst hY
  have e1 : (splice cur (a + Y.length) X).take a = cur.take a := splice_take _ _ _ _ (by omega) (by omega)
  have e2 : (splice cur (a + Y.length) X).drop (a + Y.length) = X ++ cur.drop (a + Y.length + X.length) := by
    simp only [splice]
    rw [List.drop_left' (by rw [List.length_take]; omega)]
  have e3 : splice (splice cur (a + Y.length) X) a Y = (cur.take a ++ (Y ++ X)) ++ cur.drop (a + Y.length + X.length) := by
    show (splice cur (a + Y.length) X).take a ++ (Y ++ (splice cur (a + Y.length) X).drop (a + Y.length)) = _
    rw [e1, e2]; simp
  rw [e3, List.take_left' (by simp only [List.length_append, List.length_take]; omega)]

def ins (ps : List (Int × Int)) (at_ : Nat) (p : Int × Int) : List (Int × Int) := ps.take at_ ++ p :: ps.drop at_
theorem ins_len (ps : List (Int × Int)) (at_ : Nat) (p : Int × Int) (h : at_ ≤ ps.length) : (ins ps at_ p).length = ps.length + 1 := by
  simp only [ins, List.length_append, List.length_take, List.length_cons, List.length_drop]; omega

theorem own_end {w w' : World} {g cap : Nat} {ps : List (Int × Int)} {cur : List Value} (h : Own w g cap ps cur) (p : Int × Int) {n : Nat} (hn : ps.length = n) (hc : n < cap)
    (hg : w'.heap[g]? = some (.cells (splice cur (0 + n * 2) [.int .i64 p.1, .int .i64 p.2]).toArray 30 (0, 0))) : Owns w' g cap (ins ps n p) := by
  have hl := h.len
  have e0 : ins ps n p = ps ++ [p] := by simp [ins, List.take_of_length_le (Nat.le_of_eq hn), List.drop_eq_nil_of_le (Nat.le_of_eq hn)]
  refine ⟨_, hg, ?_, ?_, ?_⟩
  · rw [length_splice _ _ _ (by rw [hl]; simp only [List.length_cons, List.length_nil]; omega), hl]
  · rw [e0]; simp; omega
  · rw [e0, splice_take2 _ _ _ _ (by omega) (by simp; omega), flat_app, Nat.zero_add, ← hn, h.take]
    rfl

theorem own_mid {w w' : World} {g cap : Nat} {ps : List (Int × Int)} {cur : List Value} (h : Own w g cap ps cur) (p : Int × Int) {at_ n : Nat} (hn : ps.length = n) (ha : at_ < n) (hc : n < cap)
    (hg : w'.heap[g]? = some (.cells (splice (splice cur ((at_ + 1) * 2) (flat (ps.drop at_))) (at_ * 2) [.int .i64 p.1, .int .i64 p.2]).toArray 30 (0, 0))) : Owns w' g cap (ins ps at_ p) := by
  have hl := h.len
  have hd : (flat (ps.drop at_)).length = (n - at_) * 2 := by rw [flat_len, List.length_drop, hn]
  have hi := ins_len ps at_ p (by omega)
  have e1 : (splice cur ((at_ + 1) * 2) (flat (ps.drop at_))).length = cap * 2 := by rw [length_splice _ _ _ (by rw [hd, hl]; omega), hl]
  refine ⟨_, hg, ?_, by omega, ?_⟩
  · rw [length_splice _ _ _ (by rw [e1]; simp only [List.length_cons, List.length_nil]; omega), e1]
  · rw [hi, hn, show (n + 1) * 2 = at_ * 2 + 2 + (flat (ps.drop at_)).length by rw [hd]; omega, show (at_ + 1) * 2 = at_ * 2 + 2 by omega,
      splice2 cur _ _ (at_ * 2) 2 rfl (by rw [hd, hl]; omega)]
    have : ins ps at_ p = ps.take at_ ++ ([p] ++ ps.drop at_) := rfl
    rw [this, flat_app, flat_app]
    congr 1
    rw [← flat_take, ← h.take, List.take_take]
    congr 1
    omega

set_option maxHeartbeats 1000000 in
theorem insert_end (g gv n cap : Nat) (ps : List (Int × Int)) (p : Int × Int) (w : World) (B : Nat) (hB : B ≤ g) (hn : ps.length = n) (hc : n < cap) (hm : cap ≤ 4611686018427387903) (hO : Owns w g cap ps)
    (hv : w.heap[gv]? = some (.cells #[.int .i64 p.1, .int .i64 p.2] 30 (0, 0))) :
    Calls Tryd.prog 33 #[.slice (some ⟨g, 0, none⟩) n cap, .int .i64 n, .slice (some ⟨gv, 0, none⟩) 1 1] w fun e w' => e = .returned (.slice (some ⟨g, 0, none⟩) (n + 1) cap) ∧ Below B w w' ∧ Owns w' g cap (ins ps n p) := by
  obtain ⟨cur, hO⟩ := hO
  have HO := Lib.hid hO
  have Hn := Lib.hid hn
  clear hO hn
  obtain ⟨i0, hi, hz0, hz1, hz2⟩ := info_parts (show (Tryd.prog.info? 30).map (fun i => (i.zero, i.size, i.bytes)) = some (some (.agg #[.int .i64 0, .int .i64 0]), 2, 16) by kernel_rfl)
  have hcells : ∀ (j : Nat) (u : Value), [Value.int IntKind.i64 p.1, Value.int IntKind.i64 p.2][j]? = some u → w.cell? ((⟨gv, 0, none⟩ : Addr).add j) = some u := fun j u hu => by
    have e : (⟨gv, 0, none⟩ : Addr).add j = ⟨gv, j, none⟩ := by rw [HG.add_at, Nat.zero_add]
    rw [e, cell_of_row w gv j _ 30 (0, 0) hv]
    simpa using hu
  have HCe := Lib.hid hcells
  have HF : Hid (0 + n * 2 + [Value.int IntKind.i64 p.1, Value.int IntKind.i64 p.2].length ≤ cur.length) := by
    show _ ≤ _
    rw [HO.out.len]; simp only [List.length_cons, List.length_nil]; omega
  clear hcells hv
  go_enter Tryd.func33, Tryd.ntmps33
  go_wp2_with (at_builtin; refine HG.wpList_append_k rfl (.tmp 23) (.tmp 24) 31 rfl 30 i0 2 Tryd.underlying31 hi hz1 g 0 n cap rfl cur 30 HO.out.heap (some ⟨gv, 0, none⟩) 1 1 rfl [.int .i64 p.1, .int .i64 p.2] rfl (fun _ => ⟨_, rfl, HCe.out⟩) (by intro v hv; simp at hv; rcases hv with rfl | rfl <;> rfl) (by omega) HF.out B w (Below.refl _ _) hB ?_; intro w3 hg3 ho3 hb3)
  go_ret
  exact ⟨rfl, hb3, own_end HO.out p Hn.out hc hg3.out⟩

set_option maxRecDepth 100000 in
set_option maxHeartbeats 2000000 in
theorem insert_mid (g gv at_ n cap : Nat) (ps : List (Int × Int)) (p : Int × Int) (w : World) (B : Nat) (hB : B ≤ g) (hn : ps.length = n) (ha : at_ < n) (hc : n < cap) (hm : cap ≤ 4611686018427387903) (hO : Owns w g cap ps)
    (hv : w.heap[gv]? = some (.cells #[.int .i64 p.1, .int .i64 p.2] 30 (0, 0))) (hgv : gv ≠ g) :
    Calls Tryd.prog 33 #[.slice (some ⟨g, 0, none⟩) n cap, .int .i64 at_, .slice (some ⟨gv, 0, none⟩) 1 1] w fun e w' => e = .returned (.slice (some ⟨g, 0, none⟩) (n + 1) cap) ∧ Below B w w' ∧ Owns w' g cap (ins ps at_ p) := by
  obtain ⟨cur, hO⟩ := hO
  have HO := Lib.hid hO
  have Hn := Lib.hid hn
  clear hO hn
  have hov : ∀ lb cb, (callFunc 41 #[.slice (some ⟨gv, 0, none⟩) 1 1, .slice (some ⟨g, (at_ + 1) * 2, none⟩) lb cb]).run Tryd.prog w = .ok (.value (.bool false)) w := fun lb cb => by
    rw [run_callFunc_extern Tryd.func41 (by kernel_rfl) (by kernel_rfl) (by kernel_rfl) (e := Extern.SlicesOverlaps.overlaps #[31, 31] #[4]) (by kernel_rfl),
      Lib.run_overlaps_apart w 31 4 30 Tryd.underlying31 2 (fun w => by kernel_rfl) ⟨gv, 0, none⟩ ⟨g, (at_ + 1) * 2, none⟩ 1 1 lb cb hgv 30 30 2 (cap * 2) (by simp [World.shape?, hv]) (by simp [World.shape?, HO.out.heap, HO.out.len]) (by omega) (by simp [World.frozen?, hv]) (by simp [World.frozen?, hv])]
    rfl
  have hd : (flat (ps.drop at_)).length = (n - at_) * 2 := by rw [flat_len, List.length_drop, Hn.out]
  have hcp : ∀ (j : Nat) (u : Value), (flat (ps.drop at_))[j]? = some u → w.drew.cell? ((⟨g, at_ * 2, none⟩ : Addr).add j) = some u := fun j u hu => by
    have e : (⟨g, at_ * 2, none⟩ : Addr).add j = ⟨g, at_ * 2 + j, none⟩ := HG.add_at _ _ _
    rw [e]
    refine HO.out.cell _ _ ?_
    rw [← flat_drop, List.getElem?_drop] at hu
    exact hu
  have hmin1 : (flat (ps.drop at_)).length = Nat.min (n + 1 - at_) (n - at_) * 2 := by
    rw [hd]
    rw [show Nat.min (n + 1 - at_) (n - at_) = n - at_ from Nat.min_eq_right (by omega)]
  have hmin2 : [Value.int IntKind.i64 p.1, Value.int IntKind.i64 p.2].length = Nat.min 1 (n + 1 - at_) * 2 := by
    rw [show Nat.min 1 (n + 1 - at_) = 1 from Nat.min_eq_left (by omega)]; rfl
  have hf1 : (at_ + 1) * 2 + (flat (ps.drop at_)).length ≤ cur.length := by have := HO.out.len; omega
  have hf2 : at_ * 2 + [Value.int IntKind.i64 p.1, Value.int IntKind.i64 p.2].length ≤ (splice cur ((at_ + 1) * 2) (flat (ps.drop at_))).length := by
    rw [length_splice _ _ _ hf1, HO.out.len]; simp only [List.length_cons, List.length_nil]; omega
  have hcv : ∀ w' : World, w'.heap[gv]? = w.heap[gv]? → ∀ (j : Nat) (u : Value), [Value.int IntKind.i64 p.1, Value.int IntKind.i64 p.2][j]? = some u → w'.cell? ((⟨gv, 0, none⟩ : Addr).add j) = some u := fun w' hw j u hu => by
    have e : (⟨gv, 0, none⟩ : Addr).add j = ⟨gv, j, none⟩ := by rw [HG.add_at, Nat.zero_add]
    rw [e, cell_of_row w' gv j _ 30 (0, 0) (hw.trans hv)]
    simpa using hu
  have HD := Lib.hid hd
  have HCp := Lib.hid hcp
  have HM1 := Lib.hid hmin1
  have HM2 := Lib.hid hmin2
  have HF1 := Lib.hid hf1
  have HF2 := Lib.hid hf2
  have HCv := Lib.hid hcv
  have Hov := Lib.hid hov
  have h1 : ¬ ((at_ : Int) = (n : Int)) := by omega
  have h2 : ¬ (cap = at_ + 1) := by omega
  have h3 : ¬ (cap = at_) := by omega
  have h4 : at_ + 1 ≤ n + 1 := by omega
  have h5 : at_ ≤ n + 1 := by omega
  have h6 : (at_ : Int) + 1 ≤ (n : Int) + 1 := by omega
  have h7 : (0 : Int) ≤ (at_ : Int) + 1 := by omega
  have h8 : ((at_ : Int) + 1).toNat = at_ + 1 := by omega
  have h9 : (at_ : Int) ≤ (n : Int) + 1 := by omega
  clear hd hcp hmin1 hmin2 hf1 hf2 hcv hv Hov
  go_enter Tryd.func33, Tryd.ntmps33
  go_wp2_with fail
  have hw1 : IntKind.i64.wrap ((at_ : Int) + 1) = (at_ : Int) + 1 := by rw [IntKind.wrap_i64]; omega
  go_region_law (refine HG.step_copy_k rfl (.tmp 73) (.tmp 76) 31 31 rfl 30 2 Tryd.underlying31 (by kernel_rfl) (some ⟨g, (at_ + 1) * 2, none⟩) (some ⟨g, at_ * 2, none⟩) (n - at_) (cap - (at_ + 1)) (n + 1 - at_) (cap - at_) (by simp [Act.eval, Act.put]) (by simp [Act.eval, Act.put]) g ((at_ + 1) * 2) cur 30 HO.out.heap (flat (ps.drop at_)) HM1.out (fun _ => ⟨rfl, _, rfl, HCp.out⟩) HF1.out (flat_one _) B w ((Below.refl _ _).drew) hB ?_; intro w3 hg3 ho3 hb3)
  clear hw1
  go_wp2_with (refine HG.wpList_copy_k rfl (.tmp 80) (.tmp 81) 31 31 rfl 30 2 Tryd.underlying31 (by kernel_rfl) (some ⟨g, at_ * 2, none⟩) (some ⟨gv, 0, none⟩) (n + 1 - at_) (cap - at_) 1 1 rfl rfl g (at_ * 2) (splice cur ((at_ + 1) * 2) (flat (ps.drop at_))) 30 hg3.out [.int .i64 p.1, .int .i64 p.2] HM2.out (fun _ => ⟨rfl, _, rfl, HCv.out _ (ho3.out gv hgv)⟩) HF2.out (by intro v hv; simp at hv; rcases hv with rfl | rfl <;> rfl) B w hb3 hB ?_; intro w4 hg4 ho4 hb4)
  go_ret
  exact ⟨rfl, hb4, own_mid HO.out p Hn.out ha hc hg4.out⟩

end Go.Proofs.YtcjpbomdnjmfkaaDoor
