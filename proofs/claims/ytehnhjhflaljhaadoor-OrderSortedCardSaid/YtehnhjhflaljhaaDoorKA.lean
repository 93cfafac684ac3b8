/- The contracts of whole, key, and of the sort's comparison. -/
import Derived.Test.YtehnhjhflaljhaaDoorCB
import Derived.Test.YtehnhjhflaljhaaDoorG5
import Derived.Lib.SliceRun
import Derived.Deep.LoopGhost
namespace Go.Proofs.YtehnhjhflaljhaaDoor
open Go.RowKit Go.Proofs.HT

def KeyEnd (u : Tm) (w : World) (e : Ending) (w' : World) : Prop := ∃ x, e = .returned (tv u x) ∧ LiesT w' u x ∧ Below w.heap.size w w'

theorem whole_any (t : Tm) (v : Value) (w : World) (h : LiesT w t v) : Calls Tryd.prog 43 #[tv t v] w (KeyEnd t w) := by
  have HB : Hid (∀ o1 o2, Below w.heap.size w ((w.alloc o1).alloc o2)) := fun o1 o2 => ((Below.refl w.heap.size w).alloc (Nat.le_refl _) _).alloc (by simp) _
  have HH := Lib.hid h
  obtain ⟨a, c, rfl⟩ : ∃ a c, v = .slice a t.args.length c := h.slice
  simp only [tv]
  go_enter Tryd.func43, Tryd.ntmps43
  go_wp2_with fail
  exact bodyPost_ret (v := tv t (.slice a t.args.length c)) (by simp [results, Tryd.results43, go_sem, tv]) rfl ⟨_, rfl, HH.out.below (HB.out _ _), HB.out _ _⟩

theorem key_any (k n : Int) (s : ByteArray) (u : Tm) (us : List Tm) (v : Value) (w : World) (h : LiesT w (.mk k n s (u :: us)) v) : Calls Tryd.prog 46 #[tv (.mk k n s (u :: us)) v] w (KeyEnd u w) := by
  have HB : Hid (∀ o1 o2, Below w.heap.size w ((w.alloc o1).alloc o2)) := fun o1 o2 => ((Below.refl w.heap.size w).alloc (Nat.le_refl _) _).alloc (by simp) _
  rcases h.len with ⟨h0, _⟩ | ⟨b, o, cap, rfl, hpos, hlc, hcap, hl⟩
  · simp at h0
  obtain ⟨x, c0, c1, c2, c3, hx⟩ := hl.at 0 (by simp)
  simp only [List.getElem_cons_zero, Nat.zero_mul, Nat.add_zero] at c0 c1 c2 c3 hx
  obtain ⟨xa, xc, rfl⟩ : ∃ a c, x = .slice a u.args.length c := hx.slice
  have zb := World.block_lt_of_cell? _ _ c0
  have HX := Lib.hid hx
  have hlen : 1 ≤ (u :: us).length := by simp
  obtain ⟨m, hm⟩ : ∃ m, (u :: us).length = m := ⟨_, rfl⟩
  show Calls Tryd.prog 46 #[.agg #[.int .i64 k, .int .i64 n, .string s, .slice (some ⟨b, o, none⟩) (u :: us).length cap]] w _
  rw [hm] at hlen hlc ⊢
  have hm1 : (1 : Int) ≤ (m : Int) := by omega
  have hm0 : (0 : Int) < (m : Int) := by omega
  clear h hl hpos hcap hx hm
  go_enter Tryd.func46, Tryd.ntmps46
  go_wp2_with fail
  exact bodyPost_ret (v := tv u (.slice xa u.args.length xc)) (by simp [results, Tryd.results46, go_sem, tv]) rfl ⟨_, rfl, HX.out.below (HB.out _ _), HB.out _ _⟩

end Go.Proofs.YtehnhjhflaljhaaDoor

/- The sort's comparison. -/
namespace Go.Proofs.YtehnhjhflaljhaaDoor
open Go.RowKit Go.Proofs.HT

set_option maxHeartbeats 4000000 in
theorem s1_whole (t u : Tm) (v x : Value) (c : Nat) (w : World) (h : LiesT w t v) (hx : LiesT w u x) (hp : Places w) (hc : w.cell? ⟨c, 0, none⟩ = some (.func (.func 43) #[] #[])) (nt : nodesB t = true) (nu : nodesB u = true) :
    Calls Tryd.prog 71 #[tv t v, tv u x, .pointer (some ⟨c, 0, none⟩)] w fun e w' => e = .returned (.int .i64 (cT t u)) ∧ Below w.heap.size w w' := by
  obtain ⟨q, hq⟩ : ∃ q, cT t u = q := ⟨_, rfl⟩
  rw [hq]
  have HC1 : Hid (∀ w, LiesT w t v → Calls Tryd.prog 43 #[tv t v] w (KeyEnd t w)) := fun w h => whole_any t _ w h
  have HC2 : Hid (∀ w, LiesT w u x → Calls Tryd.prog 43 #[tv u x] w (KeyEnd u w)) := fun w h => whole_any u _ w h
  have HC3 : Hid (∀ y z w, LiesT w t y → LiesT w u z → Places w → Calls Tryd.prog 37 #[tv t y, tv u z] w fun e w' => e = .returned (.int .i64 q) ∧ Below w.heap.size w w') := fun y z w h1 h2 h3 => by rw [← hq]; exact compare_any _ _ y z w h1 h2 nt nu h3
  have HX := Lib.hid (fun o1 o2 => boxesC h hx o1 o2)
  have HH := Lib.hid h
  have HU := Lib.hid hx
  have HP := Lib.hid hp
  have HCC := Lib.hid hc
  clear h hx hp hc hq
  simp only [tv]
  go_enter Tryd.func71, Tryd.ntmps71
  go_wp2_with fail
  have HXX := HX.out (.cells #[.int .i64 t.kind, .int .i64 t.num, .string t.name, v] 24) (.cells #[.int .i64 u.kind, .int .i64 u.num, .string u.name, x] 24)
  generalize ((w.alloc (.cells #[.int .i64 t.kind, .int .i64 t.num, .string t.name, v] 24)).alloc (.cells #[.int .i64 u.kind, .int .i64 u.num, .string u.name, x] 24)) = W0 at *
  have B0 := Lib.hid HXX.2.2.1
  have p0 : W0.cell? ⟨w.heap.size, 0, none⟩ = some (.int .i64 t.kind) := by rw [cell_of_row _ _ _ _ _ _ HXX.2.2.2.1]; rfl
  have p1 : W0.cell? ⟨w.heap.size, 1, none⟩ = some (.int .i64 t.num) := by rw [cell_of_row _ _ _ _ _ _ HXX.2.2.2.1]; rfl
  have p2 : W0.cell? ⟨w.heap.size, 2, none⟩ = some (.string t.name) := by rw [cell_of_row _ _ _ _ _ _ HXX.2.2.2.1]; rfl
  have p3 : W0.cell? ⟨w.heap.size, 3, none⟩ = some (v) := by rw [cell_of_row _ _ _ _ _ _ HXX.2.2.2.1]; rfl
  have q0 : W0.cell? ⟨w.heap.size + 1, 0, none⟩ = some (.int .i64 u.kind) := by rw [cell_of_row _ _ _ _ _ _ HXX.2.2.2.2]; rfl
  have q1 : W0.cell? ⟨w.heap.size + 1, 1, none⟩ = some (.int .i64 u.num) := by rw [cell_of_row _ _ _ _ _ _ HXX.2.2.2.2]; rfl
  have q2 : W0.cell? ⟨w.heap.size + 1, 2, none⟩ = some (.string u.name) := by rw [cell_of_row _ _ _ _ _ _ HXX.2.2.2.2]; rfl
  have q3 : W0.cell? ⟨w.heap.size + 1, 3, none⟩ = some (x) := by rw [cell_of_row _ _ _ _ _ _ HXX.2.2.2.2]; rfl
  have r0 := cell_below B0.out _ _ HCC.out
  have hS0 : Below W0.heap.size W0 W0.drew := (Below.refl _ _).drew
  have HS : Hid (∀ w', Below W0.heap.size W0 w' → (fun w' => Below W0.heap.size W0 w' ∧ w'.cell? ⟨w.heap.size, 0, none⟩ = some (.int .i64 t.kind) ∧ w'.cell? ⟨w.heap.size, 1, none⟩ = some (.int .i64 t.num) ∧ w'.cell? ⟨w.heap.size, 2, none⟩ = some (.string t.name) ∧ w'.cell? ⟨w.heap.size, 3, none⟩ = some (v) ∧ w'.cell? ⟨w.heap.size + 1, 0, none⟩ = some (.int .i64 u.kind) ∧ w'.cell? ⟨w.heap.size + 1, 1, none⟩ = some (.int .i64 u.num) ∧ w'.cell? ⟨w.heap.size + 1, 2, none⟩ = some (.string u.name) ∧ w'.cell? ⟨w.heap.size + 1, 3, none⟩ = some (x) ∧ w'.cell? ⟨c, 0, none⟩ = some (.func (.func 43) #[] #[])) w') := fun w' h => ⟨h, cell_below h _ _ p0, cell_below h _ _ p1, cell_below h _ _ p2, cell_below h _ _ p3, cell_below h _ _ q0, cell_below h _ _ q1, cell_below h _ _ q2, cell_below h _ _ q3, cell_below h _ _ r0⟩
  clear HXX
  go_region_held3 (fun w' => Below W0.heap.size W0 w' ∧ w'.cell? ⟨w.heap.size, 0, none⟩ = some (.int .i64 t.kind) ∧ w'.cell? ⟨w.heap.size, 1, none⟩ = some (.int .i64 t.num) ∧ w'.cell? ⟨w.heap.size, 2, none⟩ = some (.string t.name) ∧ w'.cell? ⟨w.heap.size, 3, none⟩ = some (v) ∧ w'.cell? ⟨w.heap.size + 1, 0, none⟩ = some (.int .i64 u.kind) ∧ w'.cell? ⟨w.heap.size + 1, 1, none⟩ = some (.int .i64 u.num) ∧ w'.cell? ⟨w.heap.size + 1, 2, none⟩ = some (.string u.name) ∧ w'.cell? ⟨w.heap.size + 1, 3, none⟩ = some (x) ∧ w'.cell? ⟨c, 0, none⟩ = some (.func (.func 43) #[] #[]))
    (first | exact HS.out _ h5 | exact HS.out _ hS0 | assumption | go_keep)
    (first
      | (go_at_call_of 43 (Value.agg #[.int .i64 t.kind, .int .i64 t.num, .string t.name, v]); refine (HC1.out _ (HH.out.below (B0.out.trans (Below.mono (by assumption : Below W0.heap.size W0 _) B0.out.size)))).mono ?_; rintro e w3 ⟨y, rfl, hy, hb3⟩; have HY := Lib.hid hy; clear hy; have h5 : Below W0.heap.size W0 w3 := Below.trans (by assumption : Below W0.heap.size W0 _) (hb3.mono (Below.size (by assumption : Below W0.heap.size W0 _))))
      | (go_at_call_of 43 (Value.agg #[.int .i64 u.kind, .int .i64 u.num, .string u.name, x]); refine (HC2.out _ (HU.out.below (B0.out.trans (Below.mono (by assumption : Below W0.heap.size W0 _) B0.out.size)))).mono ?_; rintro e w4 ⟨z, rfl, hz, hb4⟩; have HZ := Lib.hid hz; have HY2 := Lib.hid (HY.out.below hb4); clear hz HY; have h5 : Below W0.heap.size W0 w4 := Below.trans (by assumption : Below W0.heap.size W0 _) (hb4.mono (Below.size (by assumption : Below W0.heap.size W0 _))))
      | (go_at_call 37; refine (HC3.out _ _ _ HY2.out HZ.out (HP.out.below (B0.out.trans (Below.mono (by assumption : Below W0.heap.size W0 _) B0.out.size)))).mono ?_; rintro e w6 ⟨rfl, hb6⟩; have h5 : Below W0.heap.size W0 w6 := Below.trans (by assumption : Below W0.heap.size W0 _) (hb6.mono (Below.size (by assumption : Below W0.heap.size W0 _)))))
  go_wp2_with fail
  go_ret
  exact ⟨rfl, B0.out.trans (Below.mono (by assumption : Below W0.heap.size W0 _) B0.out.size)⟩

theorem nodes_first {k n : Int} {s : ByteArray} {u : Tm} {us : List Tm} (h : nodesB (.mk k n s (u :: us)) = true) : nodesB u = true := (nodes_at h).2 0 (by simp)
def pairT : Tm → Bool
  | .mk _ _ _ (_ :: _) => true
  | _ => false
def keyT : Tm → Tm
  | .mk _ _ _ (u :: _) => u
  | t => t
theorem keyF_any (t : Tm) (hk : pairT t = true) (v : Value) (w : World) (h : LiesT w t v) : Calls Tryd.prog 46 #[tv t v] w (KeyEnd (keyT t) w) := by
  match t, hk, h with
  | .mk k n s (u :: us), _, h => exact key_any k n s u us v w h
theorem key_nodes {t : Tm} (hk : pairT t = true) (h : nodesB t = true) : nodesB (keyT t) = true := by
  match t, hk, h with
  | .mk k n s (u :: us), _, h => exact nodes_first h

set_option maxHeartbeats 4000000 in
theorem s1_key (t u : Tm) (v x : Value) (c : Nat) (w : World) (h : LiesT w t v) (hx : LiesT w u x) (hp : Places w) (hc : w.cell? ⟨c, 0, none⟩ = some (.func (.func 46) #[] #[])) (nt : nodesB t = true) (nu : nodesB u = true) (hkt : pairT t = true) (hku : pairT u = true) :
    Calls Tryd.prog 71 #[tv t v, tv u x, .pointer (some ⟨c, 0, none⟩)] w fun e w' => e = .returned (.int .i64 (cT (keyT t) (keyT u))) ∧ Below w.heap.size w w' := by
  obtain ⟨q, hq⟩ : ∃ q, cT (keyT t) (keyT u) = q := ⟨_, rfl⟩
  rw [hq]
  have HC1 : Hid (∀ w, LiesT w t v → Calls Tryd.prog 46 #[tv t v] w (KeyEnd (keyT t) w)) := fun w h => keyF_any t hkt _ w h
  have HC2 : Hid (∀ w, LiesT w u x → Calls Tryd.prog 46 #[tv u x] w (KeyEnd (keyT u) w)) := fun w h => keyF_any u hku _ w h
  have HC3 : Hid (∀ y z w, LiesT w (keyT t) y → LiesT w (keyT u) z → Places w → Calls Tryd.prog 37 #[tv (keyT t) y, tv (keyT u) z] w fun e w' => e = .returned (.int .i64 q) ∧ Below w.heap.size w w') := fun y z w h1 h2 h3 => by rw [← hq]; exact compare_any _ _ y z w h1 h2 (key_nodes hkt nt) (key_nodes hku nu) h3
  have HX := Lib.hid (fun o1 o2 => boxesC h hx o1 o2)
  have HH := Lib.hid h
  have HU := Lib.hid hx
  have HP := Lib.hid hp
  have HCC := Lib.hid hc
  clear h hx hp hc hq
  simp only [tv]
  go_enter Tryd.func71, Tryd.ntmps71
  go_wp2_with fail
  have HXX := HX.out (.cells #[.int .i64 t.kind, .int .i64 t.num, .string t.name, v] 24) (.cells #[.int .i64 u.kind, .int .i64 u.num, .string u.name, x] 24)
  generalize ((w.alloc (.cells #[.int .i64 t.kind, .int .i64 t.num, .string t.name, v] 24)).alloc (.cells #[.int .i64 u.kind, .int .i64 u.num, .string u.name, x] 24)) = W0 at *
  have B0 := Lib.hid HXX.2.2.1
  have p0 : W0.cell? ⟨w.heap.size, 0, none⟩ = some (.int .i64 t.kind) := by rw [cell_of_row _ _ _ _ _ _ HXX.2.2.2.1]; rfl
  have p1 : W0.cell? ⟨w.heap.size, 1, none⟩ = some (.int .i64 t.num) := by rw [cell_of_row _ _ _ _ _ _ HXX.2.2.2.1]; rfl
  have p2 : W0.cell? ⟨w.heap.size, 2, none⟩ = some (.string t.name) := by rw [cell_of_row _ _ _ _ _ _ HXX.2.2.2.1]; rfl
  have p3 : W0.cell? ⟨w.heap.size, 3, none⟩ = some (v) := by rw [cell_of_row _ _ _ _ _ _ HXX.2.2.2.1]; rfl
  have q0 : W0.cell? ⟨w.heap.size + 1, 0, none⟩ = some (.int .i64 u.kind) := by rw [cell_of_row _ _ _ _ _ _ HXX.2.2.2.2]; rfl
  have q1 : W0.cell? ⟨w.heap.size + 1, 1, none⟩ = some (.int .i64 u.num) := by rw [cell_of_row _ _ _ _ _ _ HXX.2.2.2.2]; rfl
  have q2 : W0.cell? ⟨w.heap.size + 1, 2, none⟩ = some (.string u.name) := by rw [cell_of_row _ _ _ _ _ _ HXX.2.2.2.2]; rfl
  have q3 : W0.cell? ⟨w.heap.size + 1, 3, none⟩ = some (x) := by rw [cell_of_row _ _ _ _ _ _ HXX.2.2.2.2]; rfl
  have r0 := cell_below B0.out _ _ HCC.out
  have hS0 : Below W0.heap.size W0 W0.drew := (Below.refl _ _).drew
  have HS : Hid (∀ w', Below W0.heap.size W0 w' → (fun w' => Below W0.heap.size W0 w' ∧ w'.cell? ⟨w.heap.size, 0, none⟩ = some (.int .i64 t.kind) ∧ w'.cell? ⟨w.heap.size, 1, none⟩ = some (.int .i64 t.num) ∧ w'.cell? ⟨w.heap.size, 2, none⟩ = some (.string t.name) ∧ w'.cell? ⟨w.heap.size, 3, none⟩ = some (v) ∧ w'.cell? ⟨w.heap.size + 1, 0, none⟩ = some (.int .i64 u.kind) ∧ w'.cell? ⟨w.heap.size + 1, 1, none⟩ = some (.int .i64 u.num) ∧ w'.cell? ⟨w.heap.size + 1, 2, none⟩ = some (.string u.name) ∧ w'.cell? ⟨w.heap.size + 1, 3, none⟩ = some (x) ∧ w'.cell? ⟨c, 0, none⟩ = some (.func (.func 46) #[] #[])) w') := fun w' h => ⟨h, cell_below h _ _ p0, cell_below h _ _ p1, cell_below h _ _ p2, cell_below h _ _ p3, cell_below h _ _ q0, cell_below h _ _ q1, cell_below h _ _ q2, cell_below h _ _ q3, cell_below h _ _ r0⟩
  clear HXX
  go_region_held3 (fun w' => Below W0.heap.size W0 w' ∧ w'.cell? ⟨w.heap.size, 0, none⟩ = some (.int .i64 t.kind) ∧ w'.cell? ⟨w.heap.size, 1, none⟩ = some (.int .i64 t.num) ∧ w'.cell? ⟨w.heap.size, 2, none⟩ = some (.string t.name) ∧ w'.cell? ⟨w.heap.size, 3, none⟩ = some (v) ∧ w'.cell? ⟨w.heap.size + 1, 0, none⟩ = some (.int .i64 u.kind) ∧ w'.cell? ⟨w.heap.size + 1, 1, none⟩ = some (.int .i64 u.num) ∧ w'.cell? ⟨w.heap.size + 1, 2, none⟩ = some (.string u.name) ∧ w'.cell? ⟨w.heap.size + 1, 3, none⟩ = some (x) ∧ w'.cell? ⟨c, 0, none⟩ = some (.func (.func 46) #[] #[]))
    (first | exact HS.out _ h5 | exact HS.out _ hS0 | assumption | go_keep)
    (first
      | (go_at_call_of 46 (Value.agg #[.int .i64 t.kind, .int .i64 t.num, .string t.name, v]); refine (HC1.out _ (HH.out.below (B0.out.trans (Below.mono (by assumption : Below W0.heap.size W0 _) B0.out.size)))).mono ?_; rintro e w3 ⟨y, rfl, hy, hb3⟩; have HY := Lib.hid hy; clear hy; have h5 : Below W0.heap.size W0 w3 := Below.trans (by assumption : Below W0.heap.size W0 _) (hb3.mono (Below.size (by assumption : Below W0.heap.size W0 _))))
      | (go_at_call_of 46 (Value.agg #[.int .i64 u.kind, .int .i64 u.num, .string u.name, x]); refine (HC2.out _ (HU.out.below (B0.out.trans (Below.mono (by assumption : Below W0.heap.size W0 _) B0.out.size)))).mono ?_; rintro e w4 ⟨z, rfl, hz, hb4⟩; have HZ := Lib.hid hz; have HY2 := Lib.hid (HY.out.below hb4); clear hz HY; have h5 : Below W0.heap.size W0 w4 := Below.trans (by assumption : Below W0.heap.size W0 _) (hb4.mono (Below.size (by assumption : Below W0.heap.size W0 _))))
      | (go_at_call 37; refine (HC3.out _ _ _ HY2.out HZ.out (HP.out.below (B0.out.trans (Below.mono (by assumption : Below W0.heap.size W0 _) B0.out.size)))).mono ?_; rintro e w6 ⟨rfl, hb6⟩; have h5 : Below W0.heap.size W0 w6 := Below.trans (by assumption : Below W0.heap.size W0 _) (hb6.mono (Below.size (by assumption : Below W0.heap.size W0 _)))))
  go_wp2_with fail
  go_ret
  exact ⟨rfl, B0.out.trans (Below.mono (by assumption : Below W0.heap.size W0 _) B0.out.size)⟩

end Go.Proofs.YtehnhjhflaljhaaDoor

/- The insertion sort of a row of terms. -/
namespace Go.Proofs.YtehnhjhflaljhaaDoor
open Go.RowKit Go.Proofs.HT

theorem getD_at (l : List PV) (j : Nat) (h : j < l.length) : l.getD j dflt = l[j] := by simp [List.getD, List.getElem?_eq_getElem h]
theorem sink_stop (cf : PV → PV → Int) (a j : Nat) (l : List PV) (h : ¬ a < j) : sink cf a j l = l := by
  cases j with
  | zero => rfl
  | succ j => rw [sink, if_neg (fun h2 => h h2.1)]
theorem sink_less (cf : PV → PV → Int) (a j : Nat) (l : List PV) (h1 : a < j + 1) (h2 : cf (l.getD (j + 1) dflt) (l.getD j dflt) < 0) : sink cf a (j + 1) l = sink cf a j ((l.set (j + 1) (l.getD j dflt)).set j (l.getD (j + 1) dflt)) := by rw [sink, if_pos ⟨h1, h2⟩]
theorem sink_done (cf : PV → PV → Int) (a j : Nat) (l : List PV) (h2 : ¬ cf (l.getD (j + 1) dflt) (l.getD j dflt) < 0) : sink cf a (j + 1) l = l := by rw [sink, if_neg (fun h => h2 h.2)]

set_option maxHeartbeats 8000000 in
theorem ins_any (blk c n cap a b : Nat) (cf : PV → PV → Int) (l0 : List PV) (pad : List Value) (w : World) (hrow : RowAt w blk l0 pad 24) (hn : l0.length = n) (_hcap : n ≤ cap) (hab : b ≤ n) (hn2 : n ≤ 1000000) (han : a ≤ 1000000)
    (HV : Hid (∀ p ∈ l0, ∃ a c, p.2 = .slice a p.1.args.length c))
    (HC : Hid (∀ p ∈ l0, ∀ q ∈ l0, ∀ w', Near blk w w' → Calls Tryd.prog 71 #[tv p.1 p.2, tv q.1 q.2, .pointer (some ⟨c, 0, none⟩)] w' fun e w'' => e = .returned (.int .i64 (cf p q)) ∧ Below w'.heap.size w' w'')) :
    Calls Tryd.prog 85 #[.slice (some ⟨blk, 0, none⟩) n cap, .int .i64 a, .int .i64 b, .func (.func 71) #[] #[.pointer (some ⟨c, 0, none⟩)]] w fun e w' => e = .returned (.tuple #[]) ∧ RowAt w' blk (isort cf a (b - (a + 1)) (a + 1) l0) pad 24 ∧ Near blk w w' := by
  obtain ⟨R, hR⟩ : ∃ R, isort cf a (b - (a + 1)) (a + 1) l0 = R := ⟨_, rfl⟩
  rw [hR]
  have HR := Lib.hid hR
  have HROW := Lib.hid hrow
  have HN := Lib.hid hn
  have ha1 : -9223372036854775808 ≤ (a : Int) + 1 := by omega
  clear hR hrow hn
  by_cases hA : a + 1 ≤ b
  · have ha2 : (a : Int) + 1 ≤ 9223372036854775807 := by omega
    go_enter Tryd.func85, Tryd.ntmps85
    go_wp2_with fail
    go_loopw [8] (fun i wr => ∃ (j : Nat) (l : List PV), a + 1 ≤ j ∧ j ≤ b ∧ i = .int .i64 j ∧ Hid (RowAt wr blk l pad 24) ∧ Hid (Near blk w wr) ∧ Hid (l.length = n ∧ (∀ p ∈ l, p ∈ l0) ∧ isort cf a (b - j) j l = R)) (fun i _ => b - (intOf i).toNat)
    case atStart => exact ⟨a + 1, l0, by omega, hA, by go_num, HROW, Lib.hid (Near.refl _ _), Lib.hid ⟨HN.out, fun _ h => h, HR.out⟩⟩
    case round =>
      obtain ⟨i, l, hi1, hi2, rfl, hr, hnr, hl⟩ := hrel
      by_cases hlt : i < b
      · go_wp2_with fail
        have HL2 : Hid (isort cf a (b - (i + 1)) (i + 1) (sink cf a i l) = R) := by
          have h1 := hl.out.2.2
          rw [show b - i = (b - (i + 1)) + 1 by omega, isort] at h1
          exact h1
        go_loopw [9] (fun j w2 => ∃ (k : Nat) (m : List PV), k ≤ i ∧ j = .int .i64 k ∧ Hid (RowAt w2 blk m pad 24) ∧ Hid (Near blk w w2) ∧ Hid (m.length = n ∧ (∀ p ∈ m, p ∈ l0) ∧ isort cf a (b - (i + 1)) (i + 1) (sink cf a k m) = R)) (fun j _ => (intOf j).toNat)
        case atStart => exact ⟨i, l, by omega, rfl, hr, hnr, Lib.hid ⟨hl.out.1, hl.out.2.1, HL2.out⟩⟩
        case round =>
          obtain ⟨k, m, hk, rfl, hr2, hn3, hm⟩ := hrel
          by_cases hak : a < k
          · obtain ⟨k, rfl⟩ : ∃ k', k = k' + 1 := ⟨k - 1, by omega⟩
            have hm1 := hm.out.1
            have hkl : k + 1 < m.length := by omega
            have hkl0 : k < m.length := by omega
            have cp := hr2.out.cells (k + 1) hkl
            have cq := hr2.out.cells k hkl0
            have mp := hm.out.2.1 _ (List.getElem_mem hkl)
            have mq := hm.out.2.1 _ (List.getElem_mem hkl0)
            have gp := getD_at m (k + 1) hkl
            have gq := getD_at m k hkl0
            obtain ⟨pp, hpe⟩ : ∃ p, m[k + 1] = p := ⟨_, rfl⟩
            obtain ⟨qq, hqe⟩ : ∃ p, m[k] = p := ⟨_, rfl⟩
            rw [hpe] at cp mp gp
            rw [hqe] at cq mq gq
            obtain ⟨tp, vp⟩ := pp
            obtain ⟨tq, vq⟩ := qq
            obtain ⟨pa, pc, ev⟩ := HV.out _ mp
            obtain rfl : vp = .slice pa tp.args.length pc := ev
            obtain ⟨qa, qc, ev⟩ := HV.out _ mq
            obtain rfl : vq = .slice qa tq.args.length qc := ev
            obtain ⟨z, hz⟩ : ∃ z, cf (tp, .slice pa tp.args.length pc) (tq, .slice qa tq.args.length qc) = z := ⟨_, rfl⟩
            have HCC : Hid (∀ w', Near blk w w' → Calls Tryd.prog 71 #[tv tp (.slice pa tp.args.length pc), tv tq (.slice qa tq.args.length qc), .pointer (some ⟨c, 0, none⟩)] w' fun e w'' => e = .returned (.int .i64 z) ∧ Below w'.heap.size w' w'') := fun w' h => by rw [← hz]; exact HC.out _ mp _ mq w' h
            have HM := Lib.hid (And.intro mp mq)
            have HG := Lib.hid (And.intro gp gq)
            have HZ := Lib.hid hz
            have HKL := Lib.hid hkl
            obtain ⟨p0, p1, p2, p3⟩ := cp
            obtain ⟨q0, q1, q2, q3⟩ := cq
            have hkn : k + 1 < n := by omega
            clear mp mq gp gq hpe hqe hz hm1 hkl hkl0
            have d1 : decide ((a : Int) < (k : Int) + 1) = true := by simp; omega
            have d2 : decide (a < k + 1) = true := by simp; omega
            have b0 : (0 : Int) ≤ (k : Int) + 1 := by omega
            have b1 : (k : Int) + 1 < (n : Int) := by omega
            have b2 : (k : Int) < (n : Int) := by omega
            have w1 : IntKind.i64.wrap ((k : Int) + 1 - 1) = (k : Int) := by rw [show (k : Int) + 1 - 1 = (k : Int) by omega]; exact IntWalk.i64_in _ (by omega)
            have w3 : (k : Int) + 1 - 1 = (k : Int) := by omega
            have w4 : IntKind.i64.wrap (k : Int) = (k : Int) := IntWalk.i64_in _ (by omega)
            have v1 : -9223372036854775808 ≤ (k : Int) := by omega
            have v2 : (k : Int) ≤ 9223372036854775807 := by omega
            have hS0 : Below wr.heap.size wr wr.drew := (Below.refl _ _).drew
            have HS : Hid (∀ w', Below wr.heap.size wr w' → (fun w' => Below wr.heap.size wr w' ∧ w'.cell? ⟨blk, (k + 1) * 4, none⟩ = some (.int .i64 tp.kind) ∧ w'.cell? ⟨blk, (k + 1) * 4 + 1, none⟩ = some (.int .i64 tp.num) ∧ w'.cell? ⟨blk, (k + 1) * 4 + 2, none⟩ = some (.string tp.name) ∧ w'.cell? ⟨blk, (k + 1) * 4 + 3, none⟩ = some (.slice pa tp.args.length pc) ∧ w'.cell? ⟨blk, k * 4, none⟩ = some (.int .i64 tq.kind) ∧ w'.cell? ⟨blk, k * 4 + 1, none⟩ = some (.int .i64 tq.num) ∧ w'.cell? ⟨blk, k * 4 + 2, none⟩ = some (.string tq.name) ∧ w'.cell? ⟨blk, k * 4 + 3, none⟩ = some (.slice qa tq.args.length qc)) w') := fun w' h => ⟨h, cell_below h _ _ p0, cell_below h _ _ p1, cell_below h _ _ p2, cell_below h _ _ p3, cell_below h _ _ q0, cell_below h _ _ q1, cell_below h _ _ q2, cell_below h _ _ q3⟩
            by_cases hzn : z < 0
            · have e1 : decide (z < 0) = true := by simpa using hzn
              go_wp2_with fail
              go_region_held3 (fun w' => Below wr.heap.size wr w' ∧ w'.cell? ⟨blk, (k + 1) * 4, none⟩ = some (.int .i64 tp.kind) ∧ w'.cell? ⟨blk, (k + 1) * 4 + 1, none⟩ = some (.int .i64 tp.num) ∧ w'.cell? ⟨blk, (k + 1) * 4 + 2, none⟩ = some (.string tp.name) ∧ w'.cell? ⟨blk, (k + 1) * 4 + 3, none⟩ = some (.slice pa tp.args.length pc) ∧ w'.cell? ⟨blk, k * 4, none⟩ = some (.int .i64 tq.kind) ∧ w'.cell? ⟨blk, k * 4 + 1, none⟩ = some (.int .i64 tq.num) ∧ w'.cell? ⟨blk, k * 4 + 2, none⟩ = some (.string tq.name) ∧ w'.cell? ⟨blk, k * 4 + 3, none⟩ = some (.slice qa tq.args.length qc))
                (first | exact HS.out _ h5 | exact HS.out _ hS0 | assumption | go_keep)
                (first
                  | (go_at_call 71; refine (HCC.out _ (hn3.out.trans (Near.of_below (by assumption : Below wr.heap.size wr _)))).mono ?_; rintro e w4 ⟨rfl, hb4⟩; have h5 : Below wr.heap.size wr w4 := Below.trans (by assumption : Below wr.heap.size wr _) (hb4.mono (Below.size (by assumption : Below wr.heap.size wr _)))))
              have RW := Lib.hid (hr2.out.keep h5)
              have N4 := Lib.hid (hn3.out.trans (Near.of_below h5))
              have s0 := cell_below h5 _ _ p0
              have t0 := cell_below h5 _ _ q0
              have f0 := frozen_of_row _ _ ((k + 1) * 4) _ _ RW.out
              have g0 := frozen_of_row _ _ (k * 4) _ _ RW.out
              have s1 := cell_below h5 _ _ p1
              have t1 := cell_below h5 _ _ q1
              have f1 := frozen_of_row _ _ ((k + 1) * 4 + 1) _ _ RW.out
              have g1 := frozen_of_row _ _ (k * 4 + 1) _ _ RW.out
              have s2 := cell_below h5 _ _ p2
              have t2 := cell_below h5 _ _ q2
              have f2 := frozen_of_row _ _ ((k + 1) * 4 + 2) _ _ RW.out
              have g2 := frozen_of_row _ _ (k * 4 + 2) _ _ RW.out
              have s3 := cell_below h5 _ _ p3
              have t3 := cell_below h5 _ _ q3
              have f3 := frozen_of_row _ _ ((k + 1) * 4 + 3) _ _ RW.out
              have g3 := frozen_of_row _ _ (k * 4 + 3) _ _ RW.out
              clear p0 p1 p2 p3 q0 q1 q2 q3 h5 hS0 HS
              go_wp2_with fail
              go_region_law (fail)
              all_goals
                go_wp2_with fail
                go_roundw
                case rel =>
                  have hkl := HKL.out
                  refine ⟨k, (m.set (k + 1) (tq, .slice qa tq.args.length qc)).set k (tp, .slice pa tp.args.length pc), by omega, by go_num, Lib.hid ?_, Lib.hid ?_, Lib.hid ⟨by simp; exact hm.out.1, fun p hp => ?_, ?_⟩⟩
                  · exact RowAt.drew (RowAt.set (RowAt.set RW.out (k + 1) hkl (tq, .slice qa tq.args.length qc)) k (by rw [List.length_set]; exact Nat.lt_of_succ_lt hkl) (tp, .slice pa tp.args.length pc))
                  · exact Near.drew (N4.out.trans ((RowAt.near (k + 1) (tq, .slice qa tq.args.length qc)).trans (RowAt.near k (tp, .slice pa tp.args.length pc))))
                  · refine hm.out.2.1 p (swap_mem hkl ?_)
                    rw [HG.out.1, HG.out.2]; exact hp
                  · have h1 := hm.out.2.2
                    rw [sink_less cf a k m (by omega) (by rw [HG.out.1, HG.out.2, HZ.out]; exact hzn), HG.out.1, HG.out.2] at h1
                    exact h1
                case measure => simp [intOf]
            · have e1 : decide (z < 0) = false := by simpa using hzn
              go_wp2_with fail
              go_region_held3 (fun w' => Below wr.heap.size wr w' ∧ w'.cell? ⟨blk, (k + 1) * 4, none⟩ = some (.int .i64 tp.kind) ∧ w'.cell? ⟨blk, (k + 1) * 4 + 1, none⟩ = some (.int .i64 tp.num) ∧ w'.cell? ⟨blk, (k + 1) * 4 + 2, none⟩ = some (.string tp.name) ∧ w'.cell? ⟨blk, (k + 1) * 4 + 3, none⟩ = some (.slice pa tp.args.length pc) ∧ w'.cell? ⟨blk, k * 4, none⟩ = some (.int .i64 tq.kind) ∧ w'.cell? ⟨blk, k * 4 + 1, none⟩ = some (.int .i64 tq.num) ∧ w'.cell? ⟨blk, k * 4 + 2, none⟩ = some (.string tq.name) ∧ w'.cell? ⟨blk, k * 4 + 3, none⟩ = some (.slice qa tq.args.length qc))
                (first | exact HS.out _ h5 | exact HS.out _ hS0 | assumption | go_keep)
                (first
                  | (go_at_call 71; refine (HCC.out _ (hn3.out.trans (Near.of_below (by assumption : Below wr.heap.size wr _)))).mono ?_; rintro e w4 ⟨rfl, hb4⟩; have h5 : Below wr.heap.size wr w4 := Below.trans (by assumption : Below wr.heap.size wr _) (hb4.mono (Below.size (by assumption : Below wr.heap.size wr _)))))
              have RW := Lib.hid (hr2.out.keep h5)
              have N4 := Lib.hid (hn3.out.trans (Near.of_below h5))
              clear p0 p1 p2 p3 q0 q1 q2 q3 h5 hS0 HS
              go_wp2_with fail
              go_roundw
              case rel =>
                refine ⟨i + 1, m, by omega, by omega, by go_num, RW, N4, Lib.hid ⟨hm.out.1, hm.out.2.1, ?_⟩⟩
                have h1 := hm.out.2.2
                rw [sink_done cf a k m (by rw [HG.out.1, HG.out.2, HZ.out]; omega)] at h1
                exact h1
              case measure => simp [intOf]; omega
          · have d1 : decide ((a : Int) < (k : Int)) = false := by simp; omega
            have d2 : decide (a < k) = false := by simp; omega
            go_wp2_with fail
            go_quiet (fail)
            go_wp2_with fail
            go_roundw
            case rel =>
              refine ⟨i + 1, m, by omega, by omega, by go_num, Lib.hid (hr2.out.drewN _), Lib.hid (hn3.out.drewN _), Lib.hid ⟨hm.out.1, hm.out.2.1, ?_⟩⟩
              have h1 := hm.out.2.2
              rw [sink_stop cf a k m hak] at h1
              exact h1
            case measure => simp [intOf]; omega
      · have e : i = b := by omega
        have HE : Hid (l = R) := by
          have h1 := hl.out.2.2
          rw [e, Nat.sub_self] at h1
          exact h1
        go_wp2_with fail
        go_end0
        exact ⟨rfl, by rw [← HE.out]; exact hr.out, hnr.out⟩
  · have HE : Hid (l0 = R) := by
      have h1 := HR.out
      rw [show b - (a + 1) = 0 by omega] at h1
      exact h1
    have ha2 : (a : Int) + 1 ≤ 9223372036854775807 := by omega
    have d1 : decide ((a : Int) + 1 < (b : Int)) = false := by simp; omega
    have d2 : (b : Int) ≤ (a : Int) + 1 := by omega
    clear hA
    go_enter Tryd.func85, Tryd.ntmps85
    go_wp2_with fail
    refine wp_loop_rounds 1 ?_
    rw [rounds_succ]
    go_wp2_with fail
    go_end0
    exact ⟨rfl, by rw [← HE.out]; exact HROW.out, Near.refl _ _⟩

end Go.Proofs.YtehnhjhflaljhaaDoor

/- slices.Clone of a row of terms; the stable sort of fewer than 20; sorted. -/
namespace Go.Proofs.YtehnhjhflaljhaaDoor
open Go.RowKit Go.Proofs.HT

theorem flat_one : ∀ (l : List PV), (∀ p ∈ l, ∃ a c, p.2 = .slice a p.1.args.length c) → ∀ u ∈ flat l, u.oneCell' = true
  | [], _, u, hu => by simp [flat] at hu
  | p :: l, h, u, hu => by
    obtain ⟨a, c, e⟩ := h p (by simp)
    simp only [flat, List.mem_cons] at hu
    rcases hu with rfl | rfl | rfl | rfl | hu
    · rfl
    · rfl
    · rfl
    · rw [e]; rfl
    · exact flat_one l (fun q hq => h q (by simp [hq])) u hu

set_option maxHeartbeats 2000000 in
theorem clonerow_any (b off n c : Nat) (l : List PV) (w : World) (hn : l.length = n) (hn2 : n ≤ 1000000) (hc : ∀ j u, (flat l)[j]? = some u → w.cell? ⟨b, off + j, none⟩ = some u) (h1 : ∀ p ∈ l, ∃ a c, p.2 = .slice a p.1.args.length c) :
    Calls Tryd.prog 69 #[.slice (some ⟨b, off, none⟩) n c] w fun e w' => ∃ v', e = .returned v' ∧ w'.ownsRow w.heap.size 24 4 v' n (flat l) ∧ v' ≠ .slice none 0 0 ∧ Below w.heap.size w w' := by
  obtain ⟨i0, hi0, hz0, hz1, hz2⟩ := info_parts info24
  have HC := Lib.hid hc
  have HO : Hid (∀ u ∈ flat l, u.oneCell' = true) := flat_one l h1
  have HL : Hid ((flat l).length = n * 4) := by show _ = _; rw [flat_length, hn]
  clear hc hn h1
  have q22 : ∀ (w : World) (a : Option Addr) (n c n' c' : Nat), (binOp .eql 22 (.slice a n c) (.slice none n' c')).run Tryd.prog w = .ok (.bool a.isNone) w := fun w a n c n' c' => Lib.run_eql_slice_nil w _ _ a n c n' c' under22
  go_enter Tryd.func69, Tryd.ntmps69
  go_wp2_with (at_builtin; refine wpList_append_own _ rfl _ _ 22 rfl w.heap.size 24 i0 _ 4 56 under22 hi0 hz0 hz1 hz2 rfl (by omega) _ _ _ rfl (World.ownsRow_made w #[] 0 (Nat.le_refl _) (Nat.zero_le _) (by simp)) ⟨b, off, none⟩ n c (flat l) rfl ?qc1 ?qc2 ?qc3 ?qc4 ?qc5 ?qc6 ?_)
  case qc1 => exact HL.out
  case qc2 =>
    intro j u hj
    rw [Addr.add_lit]
    exact Lib.cell?_alloc_some _ (HC.out j u hj)
  case qc3 => exact HO.out
  case qc4 => rw [Nat.zero_add]; simp only [maxLen]; omega
  case qc5 => rw [Nat.zero_add]; omega
  case qc6 => simp
  intro v' w1 hown hgrow hnil
  go_wp2
  go_ret
  refine ⟨v', rfl, by simpa using hown, hnil, ?_⟩
  exact ((Below.refl _ w).alloc (Nat.le_refl _) _).grown hgrow (by simp) (by intro k hk; simp [Value.ownBlock] at hk; omega)
theorem clonerow_nil (n c : Nat) (w : World) : Calls Tryd.prog 69 #[.slice none n c] w fun e w' => e = .returned (.slice none 0 0) ∧ w = w' := by
  have q22 : ∀ (w : World) (a : Option Addr) (n c n' c' : Nat), (binOp .eql 22 (.slice a n c) (.slice none n' c')).run Tryd.prog w = .ok (.bool a.isNone) w := fun w a n c n' c' => Lib.run_eql_slice_nil w _ _ a n c n' c' under22
  go_enter Tryd.func69, Tryd.ntmps69
  go_wp2_with fail
  go_ret
  exact ⟨rfl, rfl⟩

end Go.Proofs.YtehnhjhflaljhaaDoor

/- The stable sort of a row of fewer than 20 terms. -/
namespace Go.Proofs.YtehnhjhflaljhaaDoor
open Go.RowKit Go.Proofs.HT

set_option maxHeartbeats 4000000 in
theorem stable_small (blk c n cap : Nat) (cf : PV → PV → Int) (l0 : List PV) (pad : List Value) (w : World) (hrow : RowAt w blk l0 pad 24) (hn : l0.length = n) (hcap : n ≤ cap) (hn2 : n < 20)
    (HV : Hid (∀ p ∈ l0, ∃ a c, p.2 = .slice a p.1.args.length c))
    (HC : Hid (∀ p ∈ l0, ∀ q ∈ l0, ∀ w', Near blk w w' → Calls Tryd.prog 71 #[tv p.1 p.2, tv q.1 q.2, .pointer (some ⟨c, 0, none⟩)] w' fun e w'' => e = .returned (.int .i64 (cf p q)) ∧ Below w'.heap.size w' w'')) :
    Calls Tryd.prog 70 #[.slice (some ⟨blk, 0, none⟩) n cap, .func (.func 71) #[] #[.pointer (some ⟨c, 0, none⟩)]] w fun e w' => e = .returned (.tuple #[]) ∧ RowAt w' blk (isort cf 0 (n - 1) 1 l0) pad 24 ∧ Near blk w w' := by
  have hI := ins_any blk c n cap 0 n cf l0 pad w hrow hn hcap (Nat.le_refl _) (by omega) (by omega) HV HC
  rw [Nat.zero_add] at hI
  have HI := Lib.hid hI
  have h2 : Calls Tryd.prog 83 #[.slice (some ⟨blk, 0, none⟩) n cap, .int .i64 n, .func (.func 71) #[] #[.pointer (some ⟨c, 0, none⟩)]] w fun e w' => e = .returned (.tuple #[]) ∧ RowAt w' blk (isort cf 0 (n - 1) 1 l0) pad 24 ∧ Near blk w w' := by
    have d1 : decide ((20 : Int) ≤ (n : Int)) = false := by simp; omega
    have d2 : decide ((20 : Int) < (n : Int)) = false := by simp; omega
    have d3 : (n : Int) < 20 := by omega
    have d4 : ¬ (20 : Int) ≤ (n : Int) := by omega
    clear hI hrow hn hcap hn2 HV HC
    go_enter Tryd.func83, Tryd.ntmps83
    go_wp2_with fail
    refine wp_loop_rounds 1 ?_
    rw [rounds_succ]
    go_wp2_with (first | (go_at_call 85; refine HI.out.mono ?_; rintro e w1 ⟨rfl, hr, hnr⟩))
    refine wp_loop_rounds 1 ?_
    rw [rounds_succ]
    go_wp2_with fail
    go_end0
    exact ⟨rfl, hr, hnr⟩
  have H2 := Lib.hid h2
  clear h2 hI HI hrow hn hcap HV HC
  go_enter Tryd.func70, Tryd.ntmps70
  go_wp2_with (first | (go_at_call 83; refine H2.out.mono ?_; rintro e w1 ⟨rfl, hr, hnr⟩))
  go_end0
  exact ⟨rfl, hr, hnr⟩

end Go.Proofs.YtehnhjhflaljhaaDoor

/- sorted: a row of fewer than 20 terms, by themselves, by their keys. -/
namespace Go.Proofs.YtehnhjhflaljhaaDoor
open Go.RowKit Go.Proofs.HT

def cfW (p q : PV) : Int := cT p.1 q.1
def cfK (p q : PV) : Int := cT (keyT p.1) (keyT q.1)
/-- A row of the call's own, the rest of its memory unturned. -/
def RowEnd (l : List PV) (w : World) (e : Ending) (w' : World) : Prop := ∃ g cap pad, e = .returned (.slice (some ⟨g, 0, none⟩) l.length cap) ∧ l.length ≤ cap ∧ w.heap.size ≤ g ∧ RowAt w' g l pad 24 ∧ Below w.heap.size w w'
/-- The cells of a row that lies somewhere. -/
def RowIn (w : World) (b off : Nat) (l : List PV) : Prop := ∀ j u, (flat l)[j]? = some u → w.cell? ⟨b, off + j, none⟩ = some u
theorem RowIn.below {w w' : World} {b off : Nat} {l : List PV} (h : RowIn w b off l) (hb : Below w.heap.size w w') : RowIn w' b off l := fun j u hj => cell_below hb _ _ (h j u hj)
theorem row_of_own {w : World} {base : Nat} {v : Value} {n : Nat} {l : List PV} (h : w.ownsRow base 24 4 v n (flat l)) (hne : v ≠ .slice none 0 0) (_hn : l.length = n) : ∃ g cap pad, v = .slice (some ⟨g, 0, none⟩) n cap ∧ n ≤ cap ∧ base ≤ g ∧ RowAt w g l pad 24 := by
  obtain ⟨g, cap, cur, e, hb, hg, hc, _, _, ht⟩ := h.2.resolve_left (fun h => hne h.1)
  refine ⟨g, cap, cur.toList.drop (n * 4), e, hc, hb, ?_⟩
  unfold RowAt
  rw [hg, ← ht, List.take_append_drop]

set_option maxHeartbeats 4000000 in
theorem sorted_whole (b off n cap : Nat) (l : List PV) (w : World) (hn : l.length = n) (hn2 : n < 20) (hrow : RowIn w b off l) (hl : ∀ p ∈ l, LiesT w p.1 p.2 ∧ nodesB p.1 = true) (hp : Places w) :
    Calls Tryd.prog 42 #[.slice (some ⟨b, off, none⟩) n cap, .func (.func 43) #[] #[]] w (RowEnd (isort cfW 0 (n - 1) 1 l) w) := by
  have HV : Hid (∀ p ∈ l, ∃ a c, p.2 = .slice a p.1.args.length c) := fun p hp => (hl p hp).1.slice
  have HR := Lib.hid hrow
  have HL := Lib.hid hl
  have HP := Lib.hid hp
  have HN := Lib.hid hn
  clear hrow hl hp hn
  go_enter Tryd.func42, Tryd.ntmps42
  go_wp2_with fail
  have HB0 : Below w.heap.size w (w.alloc (.cells #[.func (.func 43) #[] #[]] 34)) := (Below.refl _ _).alloc (Nat.le_refl _) _
  refine (clonerow_any b off n cap l _ HN.out (by omega) (HR.out.below HB0) HV.out).mono ?_
  rintro e w2 ⟨v2, rfl, hown, hne, hb2⟩
  obtain ⟨g, cap2, pad, rfl, hc2, hg, hrw⟩ := row_of_own hown hne HN.out
  have hg1 : w.heap.size + 1 ≤ g := by simpa using hg
  have B2 := Lib.hid (HB0.trans (hb2.mono HB0.size))
  have HC0 : Hid (w2.cell? ⟨w.heap.size, 0, none⟩ = some (.func (.func 43) #[] #[])) := cell_below hb2 _ _ (by rw [cell_of_row _ _ _ _ _ _ (heap_alloc_new _ _)]; rfl)
  have Z2 : w.heap.size + 1 ≤ w2.heap.size := by have := hb2.size; simpa using this
  have HS := stable_small g w.heap.size n cap2 cfW l pad w2 hrw HN.out hc2 hn2 HV (Lib.hid (fun p hp q hq w' hnr => by
    have hb3 : Below w.heap.size w w' := hnr.below B2.out (by omega) B2.out.size
    obtain ⟨lp, np⟩ := HL.out p hp
    obtain ⟨lq, nq⟩ := HL.out q hq
    have hcc : w'.cell? ⟨w.heap.size, 0, none⟩ = some (.func (.func 43) #[] #[]) := by
      rw [World.cell?_of_block (hnr.block w.heap.size (by omega) (by omega))]; exact HC0.out
    exact s1_whole p.1 q.1 p.2 q.2 w.heap.size w' (lp.below hb3) (lq.below hb3) (HP.out.below hb3) hcc np nq))
  have HST := Lib.hid HS
  clear HS hrw hown hne hb2 HB0
  go_wp2_with (first | (go_at_call 70; refine HST.out.mono ?_; rintro e w3 ⟨rfl, hr3, hn3⟩))
  go_ret
  exact ⟨g, cap2, pad, by rw [isort_length, HN.out]; rfl, by rw [isort_length, HN.out]; exact hc2, by omega, hr3, hn3.below B2.out (by omega) B2.out.size⟩

set_option maxHeartbeats 4000000 in
theorem sorted_key (b off n cap : Nat) (l : List PV) (w : World) (hn : l.length = n) (hn2 : n < 20) (hrow : RowIn w b off l) (hl : ∀ p ∈ l, LiesT w p.1 p.2 ∧ nodesB p.1 = true) (hp : Places w) (hk : ∀ p ∈ l, pairT p.1 = true) :
    Calls Tryd.prog 42 #[.slice (some ⟨b, off, none⟩) n cap, .func (.func 46) #[] #[]] w (RowEnd (isort cfK 0 (n - 1) 1 l) w) := by
  have HV : Hid (∀ p ∈ l, ∃ a c, p.2 = .slice a p.1.args.length c) := fun p hp => (hl p hp).1.slice
  have HR := Lib.hid hrow
  have HL := Lib.hid hl
  have HP := Lib.hid hp
  have HN := Lib.hid hn
  have HK := Lib.hid hk
  clear hrow hl hp hn
  go_enter Tryd.func42, Tryd.ntmps42
  go_wp2_with fail
  have HB0 : Below w.heap.size w (w.alloc (.cells #[.func (.func 46) #[] #[]] 34)) := (Below.refl _ _).alloc (Nat.le_refl _) _
  refine (clonerow_any b off n cap l _ HN.out (by omega) (HR.out.below HB0) HV.out).mono ?_
  rintro e w2 ⟨v2, rfl, hown, hne, hb2⟩
  obtain ⟨g, cap2, pad, rfl, hc2, hg, hrw⟩ := row_of_own hown hne HN.out
  have hg1 : w.heap.size + 1 ≤ g := by simpa using hg
  have B2 := Lib.hid (HB0.trans (hb2.mono HB0.size))
  have HC0 : Hid (w2.cell? ⟨w.heap.size, 0, none⟩ = some (.func (.func 46) #[] #[])) := cell_below hb2 _ _ (by rw [cell_of_row _ _ _ _ _ _ (heap_alloc_new _ _)]; rfl)
  have Z2 : w.heap.size + 1 ≤ w2.heap.size := by have := hb2.size; simpa using this
  have HS := stable_small g w.heap.size n cap2 cfK l pad w2 hrw HN.out hc2 hn2 HV (Lib.hid (fun p hp q hq w' hnr => by
    have hb3 : Below w.heap.size w w' := hnr.below B2.out (by omega) B2.out.size
    obtain ⟨lp, np⟩ := HL.out p hp
    obtain ⟨lq, nq⟩ := HL.out q hq
    have hcc : w'.cell? ⟨w.heap.size, 0, none⟩ = some (.func (.func 46) #[] #[]) := by
      rw [World.cell?_of_block (hnr.block w.heap.size (by omega) (by omega))]; exact HC0.out
    exact s1_key p.1 q.1 p.2 q.2 w.heap.size w' (lp.below hb3) (lq.below hb3) (HP.out.below hb3) hcc np nq (HK.out p hp) (HK.out q hq)))
  have HST := Lib.hid HS
  clear HS hrw hown hne hb2 HB0
  go_wp2_with (first | (go_at_call 70; refine HST.out.mono ?_; rintro e w3 ⟨rfl, hr3, hn3⟩))
  go_ret
  exact ⟨g, cap2, pad, by rw [isort_length, HN.out]; rfl, by rw [isort_length, HN.out]; exact hc2, by omega, hr3, hn3.below B2.out (by omega) B2.out.size⟩

end Go.Proofs.YtehnhjhflaljhaaDoor
