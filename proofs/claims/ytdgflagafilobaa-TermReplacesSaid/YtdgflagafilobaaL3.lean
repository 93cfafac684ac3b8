/- The program's List, for every slice of terms; Atom, Struct, Indicator. -/
import Derived.Test.YtdgflagafilobaaL2
namespace Go.Proofs.Ytdgflagafilobaa
open Go.RowKit Go.Proofs.HT

/-- A slice of terms. -/
abbrev LiesA (w : World) (ts : List Tm) (v : Value) : Prop := LiesT w (.mk 3 0 ⟨#[]⟩ ts) v
theorem collectG {α : Type} {p : Nat → α → Prop} : ∀ n, (∀ i, i < n → ∃ t, p i t) → ∃ ts : List α, ts.length = n ∧ ∀ (i : Nat) (h : i < ts.length), p i ts[i]
  | 0, _ => ⟨[], rfl, fun i h => absurd h (by simp)⟩
  | n + 1, h => by
    obtain ⟨ts, h1, h2⟩ := collectG n fun i hi => h i (by omega)
    obtain ⟨t, ht⟩ := h n (by omega)
    refine ⟨ts ++ [t], by simp [h1], fun i hi => ?_⟩
    by_cases e : i < ts.length
    · rw [List.getElem_append_left e]; exact h2 i e
    · obtain rfl : i = n := by simp at hi; omega
      rw [List.getElem_append_right (by omega)]
      simpa [h1] using ht
theorem els_of {w : World} {ts : List Tm} {v : Value} (h : LiesA w ts v) : ∃ (els : List (El w)) (a : Option Addr) (cap : Nat), v = .slice a els.length cap ∧ els.map (fun x => x.1.1) = ts ∧ (els = [] ∨ ∃ b off, a = some ⟨b, off, none⟩ ∧ LiesE w els b off) := by
  rcases h.len with ⟨rfl, a, cap, rfl⟩ | ⟨b, o, cap, rfl, hpos, hlc, hcap, hl⟩
  · exact ⟨[], a, cap, rfl, rfl, .inl rfl⟩
  · obtain ⟨els, hlen, hp⟩ := collectG (α := El w) (p := fun i x => ∃ hi : i < ts.length, x.1.1 = ts[i] ∧ w.cell? ⟨b, o + i * 4, none⟩ = some (.int .i64 x.1.1.kind) ∧ w.cell? ⟨b, o + i * 4 + 1, none⟩ = some (.int .i64 x.1.1.num) ∧ w.cell? ⟨b, o + i * 4 + 2, none⟩ = some (.string x.1.1.name) ∧ w.cell? ⟨b, o + i * 4 + 3, none⟩ = some (.slice x.1.2.1 x.1.1.args.length x.1.2.2)) ts.length (fun i hi => by
      obtain ⟨u, c0, c1, c2, c3, hu⟩ := hl.at i hi
      obtain ⟨ua, uc, rfl⟩ := hu.slice
      exact ⟨⟨(ts[i], ua, uc), hu⟩, hi, rfl, c0, c1, c2, c3⟩)
    refine ⟨els, _, cap, by rw [hlen], ?_, .inr ⟨b, o, rfl, fun i hi => (hp i hi).2.2⟩⟩
    refine List.ext_getElem (by simp [hlen]) fun i h1 h2 => ?_
    rw [List.getElem_map]
    exact (hp i (by simpa using h1)).2.1

theorem cnt_listT (T : Tm) : ∀ ts : List Tm, ts.length < cnt (listT ts T)
  | [] => by have := cnt_pos T; simp [listT]; omega
  | t :: ts => by
    have h := cnt_listT T ts
    have h2 := cnt_pos t
    simp only [listT, List.foldr_cons, consT, cnt, cntL, List.length_cons] at h ⊢
    omega

set_option maxHeartbeats 1000000 in
theorem List_big (a : Option Addr) (l cap : Nat) (T : Tm) (v : Value) (w : World) (hT : LiesT w T v) (hl : 2000 < l) : Calls Try.prog 33 #[.slice a l cap, tv T v] w fun e w' => e = .returned zv ∧ Below w.heap.size w w' := by
  obtain ⟨va, vc, rfl⟩ := hT.slice
  have hd : decide (2000 < (l : Int)) = true := by simp; omega
  have fr : Hid (∀ o p, Below w.heap.size w ((w.alloc o).alloc p)) := fun o p => ((Below.refl _ _).alloc (Nat.le_refl _) _).alloc (by simp) _
  clear hT
  simp only [tv]
  go_enter Try.func33, Try.ntmps33
  go_wp2_with fail
  exact bodyPost_ret (v := zv) (by simp [results, Try.results33, go_sem]) rfl ⟨rfl, fr.out _ _⟩

theorem List_no (ts : List Tm) (T : Tm) (lv v : Value) (w : World) (hl : LiesA w ts lv) (hT : LiesT w T v) (hval : validB (listT ts T) = false) : Calls Try.prog 33 #[lv, tv T v] w fun e w' => e = .returned zv ∧ Below w.heap.size w w' := by
  obtain ⟨els, a, cap, rfl, rfl, hE⟩ := els_of hl
  by_cases h : els.length ≤ 2000
  · exact callsIn_wide.1 (list_no w els T v a cap hT h hE _ rfl (by rw [lp_all]; exact hval))
  · exact List_big a _ cap T v w hT (by omega)
theorem List_yes (ts : List Tm) (T : Tm) (lv v : Value) (w : World) (hl : LiesA w ts lv) (hT : LiesT w T v) (hval : validB (listT ts T) = true) : Calls Try.prog 33 #[lv, tv T v] w (MadeEnd (listT ts T) w) := by
  obtain ⟨els, a, cap, rfl, rfl, hE⟩ := els_of hl
  have h := cnt_listT T (els.map fun x => x.1.1)
  have h2 := (validB_nodes hval).2
  simp only [List.length_map] at h
  exact callsIn_wide.1 (list_yes w els T v a cap hT (by omega) hE _ (lp_all T els) hval)

theorem atom_lies {w : World} {nm : ByteArray} (h : nm.size ≤ 9223372036854775807) : LiesT w (.mk 2 0 nm []) (.slice none 0 0) := by
  unfold LiesT; exact ⟨⟨by omega, by omega⟩, ⟨by omega, by omega⟩, h, .inl ⟨rfl, rfl⟩⟩
/-- A call that returns a term if it is valid, else the zero term. -/
def MadeV (t : Tm) (w : World) (e : Ending) (w' : World) : Prop := MadeEnd (if validB t = true then t else z0) w e w'
theorem MadeV.yes {t : Tm} {w w' : World} {e : Ending} (hv : validB t = true) (h : MadeEnd t w e w') : MadeV t w e w' := by unfold MadeV; rw [if_pos hv]; exact h
theorem MadeV.no {t : Tm} {w w' : World} {e : Ending} (hv : validB t = false) (h : e = .returned zv ∧ Below w.heap.size w w') : MadeV t w e w' := by
  unfold MadeV; rw [if_neg (by rw [hv]; simp)]
  exact ⟨.slice none 0 0, h.1, zero_own, h.2⟩
theorem Clone_v (t : Tm) (v : Value) (w : World) (h : LiesT w t v) : Calls Try.prog 55 #[tv t v] w (MadeV t w) := by
  rcases Bool.eq_false_or_eq_true (validB t) with hv | hv
  · exact (Clone_yes t v w h hv).mono fun e w' => MadeV.yes hv
  · exact (Clone_no t v w h hv).mono fun e w' => MadeV.no hv
theorem List_v (ts : List Tm) (T : Tm) (lv v : Value) (w : World) (hl : LiesA w ts lv) (hT : LiesT w T v) : Calls Try.prog 33 #[lv, tv T v] w (MadeV (listT ts T) w) := by
  rcases Bool.eq_false_or_eq_true (validB (listT ts T)) with hv | hv
  · exact (List_yes ts T lv v w hl hT hv).mono fun e w' => MadeV.yes hv
  · exact (List_no ts T lv v w hl hT hv).mono fun e w' => MadeV.no hv
theorem made_end1 {w w2 : World} {T : Tm} {y : Value} {a0 a1 a2 a3 : Value} (hb : Below w.heap.size w w2) (hy : OwnT (fun b => w.heap.size + 1 ≤ b ∧ b < w2.heap.size) w2 T y) (h : w2.heap[w.heap.size]? = some (.cells #[a0, a1, a2, a3] 24 (0, 0)))
    (w3 : World) (e : w3 = ((((w2.setCell ⟨w.heap.size, 0, none⟩ (.int .i64 T.kind)).setCell ⟨w.heap.size, 1, none⟩ (.int .i64 T.num)).setCell ⟨w.heap.size, 2, none⟩ (.string T.name)).setCell ⟨w.heap.size, 3, none⟩ y)) :
    MadeEnd T w (.returned (tv T y)) w3 := by
  obtain ⟨F1, F2, F3, F4⟩ := four h (.int .i64 T.kind) (.int .i64 T.num) (.string T.name) y
  rw [← e] at F1 F2 F3 F4
  exact ⟨y, rfl, hy.keep (fun b hb => F2 b (by omega)) (fun b hb _ => ⟨by omega, by omega⟩), F4 _ _ (by omega) hb⟩

set_option maxHeartbeats 1000000 in
theorem Atom_v (nm : ByteArray) (w : World) (hn : nm.size ≤ 9223372036854775807) : Calls Try.prog 24 #[.string nm] w (MadeV (.mk 2 0 nm []) w) := by
  obtain ⟨Q, hQ⟩ : ∃ Q, (if validB (.mk 2 0 nm []) = true then (.mk 2 0 nm []) else z0) = Q := ⟨_, rfl⟩
  unfold MadeV
  rw [hQ]
  have HQ := Lib.hid hQ
  clear hQ
  have HN := Lib.hid hn
  clear hn
  have BX : Hid (∀ o, Below w.heap.size w (w.alloc o)) := fun o => (Below.refl _ _).alloc (Nat.le_refl _) o
  have R1 : Hid (∀ o, (w.alloc o).heap[w.heap.size]? = some o) := fun o => heap_alloc_new w o
  go_enter Try.func24, Try.ntmps24
  go_wp2_with (first
    | (go_at_call 58; refine (atom_any _ _).mono ?_; rintro e w1 ⟨rfl, hb1⟩; have z1 : w.heap.size + 1 ≤ w1.heap.size := (by have := hb1.size; simp at this; omega); have K1 := Lib.hid ((hb1.block w.heap.size (by simp)).trans (R1.out _)); have B1 := Lib.hid ((BX.out _).trans (hb1.mono (by simp))); clear hb1)
    | (go_at_call 55; refine (Clone_v (.mk 2 0 nm []) _ _ (atom_lies HN.out)).mono ?_; rintro e w2 ⟨y, rfl, hy, hb2⟩; rw [HQ.out] at hy; rw [HQ.out]; obtain ⟨ya, yc, rfl⟩ := hy.slice; have K2 := Lib.hid ((hb2.block w.heap.size (by omega)).trans K1.out); have KB := Lib.hid (B1.out.trans (hb2.mono B1.out.size)); have KY := Lib.hid hy; have KS : Hid (w.heap.size + 1 ≤ w1.heap.size) := z1; have d0 : w2.cell? ⟨w.heap.size, 0, none⟩ = some (.int .i64 0) := (by rw [cell_of_row _ _ _ _ _ _ K2.out]; rfl); have d1 : w2.cell? ⟨w.heap.size, 1, none⟩ = some (.int .i64 0) := (by rw [cell_of_row _ _ _ _ _ _ K2.out]; rfl); have d2 : w2.cell? ⟨w.heap.size, 2, none⟩ = some (.string ⟨#[]⟩) := (by rw [cell_of_row _ _ _ _ _ _ K2.out]; rfl); have d3 : w2.cell? ⟨w.heap.size, 3, none⟩ = some (.slice none 0 0) := (by rw [cell_of_row _ _ _ _ _ _ K2.out]; rfl); have df0 := frozen_of_row _ _ 0 _ _ K2.out; have df1 := frozen_of_row _ _ 1 _ _ K2.out; have df2 := frozen_of_row _ _ 2 _ _ K2.out; have df3 := frozen_of_row _ _ 3 _ _ K2.out; clear hb2 hy))
  have FO := four K2.out (.int .i64 Q.kind) (.int .i64 Q.num) (.string Q.name) (.slice ya Q.args.length yc)
  have PE := made_end1 (T := Q) KB.out (KY.out.keep (fun _ _ => rfl) (fun b hb _ => by have := hb.1; have := KS.out; exact ⟨by omega, hb.2⟩)) K2.out _ rfl
  generalize ((((w2.setCell ⟨w.heap.size, 0, none⟩ (.int .i64 Q.kind)).setCell ⟨w.heap.size, 1, none⟩ (.int .i64 Q.num)).setCell ⟨w.heap.size, 2, none⟩ (.string Q.name)).setCell ⟨w.heap.size, 3, none⟩ (.slice ya Q.args.length yc)) = W3 at *
  have k0 : W3.cell? ⟨w.heap.size, 0, none⟩ = some (.int .i64 Q.kind) := by rw [cell_of_row _ _ _ _ _ _ FO.1]; rfl
  have k1 : W3.cell? ⟨w.heap.size, 1, none⟩ = some (.int .i64 Q.num) := by rw [cell_of_row _ _ _ _ _ _ FO.1]; rfl
  have k2 : W3.cell? ⟨w.heap.size, 2, none⟩ = some (.string Q.name) := by rw [cell_of_row _ _ _ _ _ _ FO.1]; rfl
  have k3 : W3.cell? ⟨w.heap.size, 3, none⟩ = some (.slice ya Q.args.length yc) := by rw [cell_of_row _ _ _ _ _ _ FO.1]; rfl
  exact bodyPost_ret (v := .agg #[.int .i64 Q.kind, .int .i64 Q.num, .string Q.name, .slice ya Q.args.length yc]) (by simp [results, Try.results24, go_sem, k0, k1, k2, k3]) rfl PE

theorem struct_lies {w : World} {nm : ByteArray} {ts : List Tm} {v : Value} (hn : nm.size ≤ 9223372036854775807) (h : LiesA w ts v) : LiesT w (.mk 3 0 nm ts) v := by
  unfold LiesA at h
  unfold LiesT at h ⊢
  exact ⟨h.1, h.2.1, hn, h.2.2.2⟩

set_option maxHeartbeats 1000000 in
theorem Struct_some (nm : ByteArray) (ts : List Tm) (a : Option Addr) (cap : Nat) (w : World) (hn : nm.size ≤ 9223372036854775807) (hl : LiesA w ts (.slice a ts.length cap)) (hz : ¬ ts = []) : Calls Try.prog 19 #[.string nm, .slice a ts.length cap] w (MadeV (.mk 3 0 nm ts) w) := by
  obtain ⟨Q, hQ⟩ : ∃ Q, (if validB (.mk 3 0 nm ts) = true then (.mk 3 0 nm ts) else z0) = Q := ⟨_, rfl⟩
  unfold MadeV
  rw [hQ]
  have HQ := Lib.hid hQ
  clear hQ
  have HN := Lib.hid hn
  have HL := Lib.hid hl
  have hz1 : ((ts.length : Int) == 0) = false := by have := List.length_pos_iff.2 hz; simp; omega
  clear hn hl hz
  have BX : Hid (∀ o, Below w.heap.size w (w.alloc o)) := fun o => (Below.refl _ _).alloc (Nat.le_refl _) o
  have R1 : Hid (∀ o, (w.alloc o).heap[w.heap.size]? = some o) := fun o => heap_alloc_new w o
  go_enter Try.func19, Try.ntmps19
  go_wp2_with (first
    | (go_at_call 56; refine (structure_any _ _ _ _ _).mono ?_; rintro e w1 ⟨rfl, hb1⟩; have z1 : w.heap.size + 1 ≤ w1.heap.size := (by have := hb1.size; simp at this; omega); have K1 := Lib.hid ((hb1.block w.heap.size (by simp)).trans (R1.out _)); have B1 := Lib.hid ((BX.out _).trans (hb1.mono (by simp))); clear hb1)
    | (go_at_call 55; refine (Clone_v (.mk 3 0 nm ts) _ _ (struct_lies HN.out (HL.out.below B1.out))).mono ?_; rintro e w2 ⟨y, rfl, hy, hb2⟩; rw [HQ.out] at hy; rw [HQ.out]; obtain ⟨ya, yc, rfl⟩ := hy.slice; have K2 := Lib.hid ((hb2.block w.heap.size (by omega)).trans K1.out); have KB := Lib.hid (B1.out.trans (hb2.mono B1.out.size)); have KY := Lib.hid hy; have KS : Hid (w.heap.size + 1 ≤ w1.heap.size) := z1; have d0 : w2.cell? ⟨w.heap.size, 0, none⟩ = some (.int .i64 0) := (by rw [cell_of_row _ _ _ _ _ _ K2.out]; rfl); have d1 : w2.cell? ⟨w.heap.size, 1, none⟩ = some (.int .i64 0) := (by rw [cell_of_row _ _ _ _ _ _ K2.out]; rfl); have d2 : w2.cell? ⟨w.heap.size, 2, none⟩ = some (.string ⟨#[]⟩) := (by rw [cell_of_row _ _ _ _ _ _ K2.out]; rfl); have d3 : w2.cell? ⟨w.heap.size, 3, none⟩ = some (.slice none 0 0) := (by rw [cell_of_row _ _ _ _ _ _ K2.out]; rfl); have df0 := frozen_of_row _ _ 0 _ _ K2.out; have df1 := frozen_of_row _ _ 1 _ _ K2.out; have df2 := frozen_of_row _ _ 2 _ _ K2.out; have df3 := frozen_of_row _ _ 3 _ _ K2.out; clear hb2 hy))
  have FO := four K2.out (.int .i64 Q.kind) (.int .i64 Q.num) (.string Q.name) (.slice ya Q.args.length yc)
  have PE := made_end1 (T := Q) KB.out (KY.out.keep (fun _ _ => rfl) (fun b hb _ => by have := hb.1; have := KS.out; exact ⟨by omega, hb.2⟩)) K2.out _ rfl
  generalize ((((w2.setCell ⟨w.heap.size, 0, none⟩ (.int .i64 Q.kind)).setCell ⟨w.heap.size, 1, none⟩ (.int .i64 Q.num)).setCell ⟨w.heap.size, 2, none⟩ (.string Q.name)).setCell ⟨w.heap.size, 3, none⟩ (.slice ya Q.args.length yc)) = W3 at *
  have k0 : W3.cell? ⟨w.heap.size, 0, none⟩ = some (.int .i64 Q.kind) := by rw [cell_of_row _ _ _ _ _ _ FO.1]; rfl
  have k1 : W3.cell? ⟨w.heap.size, 1, none⟩ = some (.int .i64 Q.num) := by rw [cell_of_row _ _ _ _ _ _ FO.1]; rfl
  have k2 : W3.cell? ⟨w.heap.size, 2, none⟩ = some (.string Q.name) := by rw [cell_of_row _ _ _ _ _ _ FO.1]; rfl
  have k3 : W3.cell? ⟨w.heap.size, 3, none⟩ = some (.slice ya Q.args.length yc) := by rw [cell_of_row _ _ _ _ _ _ FO.1]; rfl
  exact bodyPost_ret (v := .agg #[.int .i64 Q.kind, .int .i64 Q.num, .string Q.name, .slice ya Q.args.length yc]) (by simp [results, Try.results19, go_sem, k0, k1, k2, k3]) rfl PE

set_option maxHeartbeats 1000000 in
theorem Struct_none (nm : ByteArray) (a : Option Addr) (cap : Nat) (w : World) (hn : nm.size ≤ 9223372036854775807) : Calls Try.prog 19 #[.string nm, .slice a 0 cap] w (MadeV (.mk 2 0 nm []) w) := by
  obtain ⟨Q, hQ⟩ : ∃ Q, (if validB (.mk 2 0 nm []) = true then (.mk 2 0 nm []) else z0) = Q := ⟨_, rfl⟩
  unfold MadeV
  rw [hQ]
  have HQ := Lib.hid hQ
  clear hQ
  have HN := Lib.hid hn
  clear hn
  have BX : Hid (∀ o, Below w.heap.size w (w.alloc o)) := fun o => (Below.refl _ _).alloc (Nat.le_refl _) o
  have R1 : Hid (∀ o, (w.alloc o).heap[w.heap.size]? = some o) := fun o => heap_alloc_new w o
  go_enter Try.func19, Try.ntmps19
  go_wp2_with (first
    | (go_at_call 24; refine (Atom_v nm _ HN.out).mono ?_; rintro e w2 ⟨y, rfl, hy, hb2⟩; rw [HQ.out] at hy; rw [HQ.out]; obtain ⟨ya, yc, rfl⟩ := hy.slice; have K2 := Lib.hid ((hb2.block w.heap.size (by simp)).trans (R1.out _)); have KB := Lib.hid ((BX.out _).trans (hb2.mono (by simp))); have KY := Lib.hid hy; have KS : Hid (∀ o, w.heap.size + 1 ≤ (w.alloc o).heap.size) := fun o => (by simp); have d0 : w2.cell? ⟨w.heap.size, 0, none⟩ = some (.int .i64 0) := (by rw [cell_of_row _ _ _ _ _ _ K2.out]; rfl); have d1 : w2.cell? ⟨w.heap.size, 1, none⟩ = some (.int .i64 0) := (by rw [cell_of_row _ _ _ _ _ _ K2.out]; rfl); have d2 : w2.cell? ⟨w.heap.size, 2, none⟩ = some (.string ⟨#[]⟩) := (by rw [cell_of_row _ _ _ _ _ _ K2.out]; rfl); have d3 : w2.cell? ⟨w.heap.size, 3, none⟩ = some (.slice none 0 0) := (by rw [cell_of_row _ _ _ _ _ _ K2.out]; rfl); have df0 := frozen_of_row _ _ 0 _ _ K2.out; have df1 := frozen_of_row _ _ 1 _ _ K2.out; have df2 := frozen_of_row _ _ 2 _ _ K2.out; have df3 := frozen_of_row _ _ 3 _ _ K2.out; clear hb2 hy))
  have FO := four K2.out (.int .i64 Q.kind) (.int .i64 Q.num) (.string Q.name) (.slice ya Q.args.length yc)
  have PE := made_end1 (T := Q) KB.out (KY.out.keep (fun _ _ => rfl) (fun b hb _ => by have := hb.1; simp at this; exact ⟨by omega, hb.2⟩)) K2.out _ rfl
  generalize ((((w2.setCell ⟨w.heap.size, 0, none⟩ (.int .i64 Q.kind)).setCell ⟨w.heap.size, 1, none⟩ (.int .i64 Q.num)).setCell ⟨w.heap.size, 2, none⟩ (.string Q.name)).setCell ⟨w.heap.size, 3, none⟩ (.slice ya Q.args.length yc)) = W3 at *
  have k0 : W3.cell? ⟨w.heap.size, 0, none⟩ = some (.int .i64 Q.kind) := by rw [cell_of_row _ _ _ _ _ _ FO.1]; rfl
  have k1 : W3.cell? ⟨w.heap.size, 1, none⟩ = some (.int .i64 Q.num) := by rw [cell_of_row _ _ _ _ _ _ FO.1]; rfl
  have k2 : W3.cell? ⟨w.heap.size, 2, none⟩ = some (.string Q.name) := by rw [cell_of_row _ _ _ _ _ _ FO.1]; rfl
  have k3 : W3.cell? ⟨w.heap.size, 3, none⟩ = some (.slice ya Q.args.length yc) := by rw [cell_of_row _ _ _ _ _ _ FO.1]; rfl
  exact bodyPost_ret (v := .agg #[.int .i64 Q.kind, .int .i64 Q.num, .string Q.name, .slice ya Q.args.length yc]) (by simp [results, Try.results19, go_sem, k0, k1, k2, k3]) rfl PE

end Go.Proofs.Ytdgflagafilobaa
