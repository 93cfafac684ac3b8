/- The contracts of ops.placeOf, mayFollow and of the two closures. -/
import Derived.Test.YtkjkhhifkedflaaDoorOD
import Derived.RegionTactic
import Derived.Deep.RegionWith
set_option linter.unusedVariables false
set_option linter.unusedSimpArgs false
namespace Go.Proofs.YtkjkhhifkedflaaDoor
open Go.RowKit Go.Proofs.HP

theorem toList_eq (n m : ByteArray) : (n.toList == m.toList) = decide (n = m) := by
  rw [Bool.eq_iff_iff, beq_iff_eq, decide_eq_true_eq, Lib.toList_data, Lib.toList_data]
  exact ⟨data_inj, fun h => by rw [h]⟩
theorem toList_ne (n m : ByteArray) : (n.toList != m.toList) = !decide (n = m) := by
  rw [bne, toList_eq]
theorem Gw.drewN {a b : World} (h : Gw a b) (n : Nat) : Gw a (b.drewN n) := ⟨below_drewN h.b n, Nat.le_trans h.d (Nat.le_add_right _ _)⟩
def PlEnd (n : ByteArray) (c : Int) (w : World) (e : Ending) (w' : World) : Prop := e = .returned (plV n c) ∧ Gw w w'
set_option maxHeartbeats 2000000 in
theorem placeOf_any (o : Opd) (ht : isT o.2.1 = true) (w : World) (hL : KLaid w) :
    Calls Tryd.prog 38 #[opV o] w (PlEnd o.1 (oc o) w) := by
  obtain ⟨n, t, p⟩ := o
  simp only at ht
  have HL := Lib.hid hL
  obtain ⟨c, hc⟩ : ∃ c, clsI t = c := ⟨_, rfl⟩
  have HC : Hid (∀ w, KLaid w → Calls Tryd.prog 64 #[.int .i64 t] w fun e w' => e = .returned (.int .i64 c) ∧ w' = w) := fun w h => by rw [← hc]; exact classOf_any t ht w h
  have HE : Hid (oc (n, t, p) = c) := hc
  have HB : Hid (Gw w ((w.alloc (.cells #[.string n, .int .i64 t, .int .i64 p] 26)).alloc (.cells #[.string ⟨#[]⟩, .int .i64 0] 55))) := Lib.hid (((Gw.refl w).alloc _).alloc _)
  have HK : Hid (KLaid ((w.alloc (.cells #[.string n, .int .i64 t, .int .i64 p] 26)).alloc (.cells #[.string ⟨#[]⟩, .int .i64 0] 55)).drew) := Lib.hid (hL.below HB.out.drew.b)
  clear hL hc ht
  go_enter Tryd.func38, Tryd.ntmps38
  go_wp2_with fail
  go_region_with ((go_at_call 64; refine (HC.out _ HK.out).mono ?_; rintro e w1 ⟨rfl, rfl⟩))
  all_goals (go_wp2_with fail)
  all_goals exact bodyPost_ret (v := plV n c) (by simp [results, Tryd.results38, go_sem]) rfl ⟨by rw [HE.out], ((Gw.refl w).alloc _).alloc _ |>.drew⟩

def CmpEnd (k : Int) (w : World) (e : Ending) (w' : World) : Prop := e = .returned (.int .i64 k) ∧ Gw w w'
set_option maxHeartbeats 4000000 in
theorem default1_any (a b : Opd) (ha : isT a.2.1 = true) (hb : isT b.2.1 = true) (w : World) (hL : KLaid w) :
    Calls Tryd.prog 36 #[opV a, opV b] w (CmpEnd (kc a.1 (oc a) b.1 (oc b)) w) := by
  obtain ⟨k, hk⟩ : ∃ k, kc a.1 (oc a) b.1 (oc b) = k := ⟨_, rfl⟩
  obtain ⟨ca, hca⟩ : ∃ c, oc a = c := ⟨_, rfl⟩
  obtain ⟨cb, hcb⟩ : ∃ c, oc b = c := ⟨_, rfl⟩
  rw [hk]
  have HA : Hid (∀ w, KLaid w → Calls Tryd.prog 38 #[opV a] w (PlEnd a.1 ca w)) := fun w h => by rw [← hca]; exact placeOf_any a ha w h
  have HB : Hid (∀ w, KLaid w → Calls Tryd.prog 38 #[opV b] w (PlEnd b.1 cb w)) := fun w h => by rw [← hcb]; exact placeOf_any b hb w h
  have HC : Hid (∀ w, Calls Tryd.prog 37 #[plV a.1 ca, plV b.1 cb] w (CmpEnd k w)) := fun w => by rw [← hk, hca, hcb]; exact compare_any _ _ _ _ w
  obtain ⟨n, t, p⟩ := a
  obtain ⟨m, u, q⟩ := b
  simp only at HA HB HC
  have HG := Lib.hid (((Gw.refl w).alloc (.cells #[.string n, .int .i64 t, .int .i64 p] 26)).alloc (.cells #[.string m, .int .i64 u, .int .i64 q] 26))
  have HK := Lib.hid (hL.below HG.out.b)
  clear hk hca hcb hL ha hb
  go_enter Tryd.func36, Tryd.ntmps36
  go_wp2_with fail
  have x0 : ((w.alloc (.cells #[.string n, .int .i64 t, .int .i64 p] 26)).alloc (.cells #[.string m, .int .i64 u, .int .i64 q] 26)).cell? ⟨w.heap.size, 0, none⟩ = some (.string n) := by simp
  have x1 : ((w.alloc (.cells #[.string n, .int .i64 t, .int .i64 p] 26)).alloc (.cells #[.string m, .int .i64 u, .int .i64 q] 26)).cell? ⟨w.heap.size, 1, none⟩ = some (.int .i64 t) := by simp
  have x2 : ((w.alloc (.cells #[.string n, .int .i64 t, .int .i64 p] 26)).alloc (.cells #[.string m, .int .i64 u, .int .i64 q] 26)).cell? ⟨w.heap.size, 2, none⟩ = some (.int .i64 p) := by simp
  have y0 : ((w.alloc (.cells #[.string n, .int .i64 t, .int .i64 p] 26)).alloc (.cells #[.string m, .int .i64 u, .int .i64 q] 26)).cell? ⟨w.heap.size + 1, 0, none⟩ = some (.string m) := by simp
  have y1 : ((w.alloc (.cells #[.string n, .int .i64 t, .int .i64 p] 26)).alloc (.cells #[.string m, .int .i64 u, .int .i64 q] 26)).cell? ⟨w.heap.size + 1, 1, none⟩ = some (.int .i64 u) := by simp
  have y2 : ((w.alloc (.cells #[.string n, .int .i64 t, .int .i64 p] 26)).alloc (.cells #[.string m, .int .i64 u, .int .i64 q] 26)).cell? ⟨w.heap.size + 1, 2, none⟩ = some (.int .i64 q) := by simp
  generalize ((w.alloc (.cells #[.string n, .int .i64 t, .int .i64 p] 26)).alloc (.cells #[.string m, .int .i64 u, .int .i64 q] 26)) = W0 at *
  have HS : Hid (∀ w', Gw W0 w' → (fun w' => Gw W0 w' ∧ w'.cell? ⟨w.heap.size, 0, none⟩ = some (.string n) ∧ w'.cell? ⟨w.heap.size, 1, none⟩ = some (.int .i64 t) ∧ w'.cell? ⟨w.heap.size, 2, none⟩ = some (.int .i64 p) ∧ w'.cell? ⟨w.heap.size + 1, 0, none⟩ = some (.string m) ∧ w'.cell? ⟨w.heap.size + 1, 1, none⟩ = some (.int .i64 u) ∧ w'.cell? ⟨w.heap.size + 1, 2, none⟩ = some (.int .i64 q)) w') :=
    fun w' h => ⟨h, cell_below h.b _ _ x0, cell_below h.b _ _ x1, cell_below h.b _ _ x2, cell_below h.b _ _ y0, cell_below h.b _ _ y1, cell_below h.b _ _ y2⟩
  have hS0 : Gw W0 W0.drew := (Gw.refl _).drew
  go_region_held3 (fun w' => Gw W0 w' ∧ w'.cell? ⟨w.heap.size, 0, none⟩ = some (.string n) ∧ w'.cell? ⟨w.heap.size, 1, none⟩ = some (.int .i64 t) ∧ w'.cell? ⟨w.heap.size, 2, none⟩ = some (.int .i64 p) ∧ w'.cell? ⟨w.heap.size + 1, 0, none⟩ = some (.string m) ∧ w'.cell? ⟨w.heap.size + 1, 1, none⟩ = some (.int .i64 u) ∧ w'.cell? ⟨w.heap.size + 1, 2, none⟩ = some (.int .i64 q))
    (first | assumption | exact HS.out _ hS0 | exact HS.out _ ‹Gw W0 _› | go_keep)
    (first
      | (go_at_call 38; ((with_reducible refine (HA.out _ (HK.out.below (Gw.b ‹Gw W0 _›))).mono ?_); rintro e w1 ⟨rfl, g1⟩; have g2 := Gw.trans ‹Gw W0 _› g1; clear g1))
      | (go_at_call 38; ((with_reducible refine (HB.out _ (HK.out.below (Gw.b ‹Gw W0 _›))).mono ?_); rintro e w1 ⟨rfl, g1⟩; have g2 := Gw.trans ‹Gw W0 _› g1; clear g1))
      | (go_at_call 37; ((with_reducible refine (HC.out _).mono ?_); rintro e w1 ⟨rfl, g1⟩; have g2 := Gw.trans ‹Gw W0 _› g1; clear g1)))
  all_goals (go_wp2_with fail)
  all_goals (go_ret)
  all_goals exact ⟨rfl, HG.out.trans (by assumption)⟩

set_option maxHeartbeats 4000000 in
theorem find1_any (a : Opd) (ha : isT a.2.1 = true) (m : ByteArray) (d : Int) (w : World) (hL : KLaid w) :
    Calls Tryd.prog 67 #[opV a, plV m d] w (CmpEnd (kc a.1 (oc a) m d) w) := by
  obtain ⟨k, hk⟩ : ∃ k, kc a.1 (oc a) m d = k := ⟨_, rfl⟩
  obtain ⟨ca, hca⟩ : ∃ c, oc a = c := ⟨_, rfl⟩
  rw [hk]
  have HA : Hid (∀ w, KLaid w → Calls Tryd.prog 38 #[opV a] w (PlEnd a.1 ca w)) := fun w h => by rw [← hca]; exact placeOf_any a ha w h
  have HC : Hid (∀ w, Calls Tryd.prog 37 #[plV a.1 ca, plV m d] w (CmpEnd k w)) := fun w => by rw [← hk, hca]; exact compare_any _ _ _ _ w
  obtain ⟨n, t, p⟩ := a
  simp only at HA HC
  have HG := Lib.hid (((Gw.refl w).alloc (.cells #[.string n, .int .i64 t, .int .i64 p] 26)).alloc (.cells #[.string m, .int .i64 d] 55))
  have HK := Lib.hid (hL.below HG.out.b)
  clear hk hca hL ha
  go_enter Tryd.func67, Tryd.ntmps67
  go_wp2_with fail
  have x0 : ((w.alloc (.cells #[.string n, .int .i64 t, .int .i64 p] 26)).alloc (.cells #[.string m, .int .i64 d] 55)).cell? ⟨w.heap.size, 0, none⟩ = some (.string n) := by simp
  have x1 : ((w.alloc (.cells #[.string n, .int .i64 t, .int .i64 p] 26)).alloc (.cells #[.string m, .int .i64 d] 55)).cell? ⟨w.heap.size, 1, none⟩ = some (.int .i64 t) := by simp
  have x2 : ((w.alloc (.cells #[.string n, .int .i64 t, .int .i64 p] 26)).alloc (.cells #[.string m, .int .i64 d] 55)).cell? ⟨w.heap.size, 2, none⟩ = some (.int .i64 p) := by simp
  have y0 : ((w.alloc (.cells #[.string n, .int .i64 t, .int .i64 p] 26)).alloc (.cells #[.string m, .int .i64 d] 55)).cell? ⟨w.heap.size + 1, 0, none⟩ = some (.string m) := by simp
  have y1 : ((w.alloc (.cells #[.string n, .int .i64 t, .int .i64 p] 26)).alloc (.cells #[.string m, .int .i64 d] 55)).cell? ⟨w.heap.size + 1, 1, none⟩ = some (.int .i64 d) := by simp
  generalize ((w.alloc (.cells #[.string n, .int .i64 t, .int .i64 p] 26)).alloc (.cells #[.string m, .int .i64 d] 55)) = W0 at *
  have HS : Hid (∀ w', Gw W0 w' → (fun w' => Gw W0 w' ∧ w'.cell? ⟨w.heap.size, 0, none⟩ = some (.string n) ∧ w'.cell? ⟨w.heap.size, 1, none⟩ = some (.int .i64 t) ∧ w'.cell? ⟨w.heap.size, 2, none⟩ = some (.int .i64 p) ∧ w'.cell? ⟨w.heap.size + 1, 0, none⟩ = some (.string m) ∧ w'.cell? ⟨w.heap.size + 1, 1, none⟩ = some (.int .i64 d)) w') :=
    fun w' h => ⟨h, cell_below h.b _ _ x0, cell_below h.b _ _ x1, cell_below h.b _ _ x2, cell_below h.b _ _ y0, cell_below h.b _ _ y1⟩
  have hS0 : Gw W0 W0.drew := (Gw.refl _).drew
  go_region_held3 (fun w' => Gw W0 w' ∧ w'.cell? ⟨w.heap.size, 0, none⟩ = some (.string n) ∧ w'.cell? ⟨w.heap.size, 1, none⟩ = some (.int .i64 t) ∧ w'.cell? ⟨w.heap.size, 2, none⟩ = some (.int .i64 p) ∧ w'.cell? ⟨w.heap.size + 1, 0, none⟩ = some (.string m) ∧ w'.cell? ⟨w.heap.size + 1, 1, none⟩ = some (.int .i64 d))
    (first | assumption | exact HS.out _ hS0 | exact HS.out _ ‹Gw W0 _› | go_keep)
    (first
      | (go_at_call 38; ((with_reducible refine (HA.out _ (HK.out.below (Gw.b ‹Gw W0 _›))).mono ?_); rintro e w1 ⟨rfl, g1⟩; have g2 := Gw.trans ‹Gw W0 _› g1; clear g1))
      | (go_at_call 37; ((with_reducible refine (HC.out _).mono ?_); rintro e w1 ⟨rfl, g1⟩; have g2 := Gw.trans ‹Gw W0 _› g1; clear g1)))
  all_goals (go_wp2_with fail)
  all_goals (go_ret)
  all_goals exact ⟨rfl, HG.out.trans (by assumption)⟩

def BoolEnd (b : Bool) (w : World) (e : Ending) (w' : World) : Prop := e = .returned (.bool b) ∧ Gw w w'
def mfB (n : ByteArray) (c : Int) (m : ByteArray) (d : Int) : Bool := !(decide (n = m) && d == riv c) && decide (kc n c m d < 0)
set_option maxHeartbeats 4000000 in
theorem mayFollow_any (n : ByteArray) (c : Int) (m : ByteArray) (d : Int) (w : World) :
    Calls Tryd.prog 52 #[plV n c, plV m d] w (BoolEnd (mfB n c m d) w) := by
  obtain ⟨k, hk⟩ : ∃ k, kc n c m d = k := ⟨_, rfl⟩
  obtain ⟨r, hr⟩ : ∃ r, riv c = r := ⟨_, rfl⟩
  have he := toList_eq n m
  have HC : Hid (∀ w, Calls Tryd.prog 37 #[plV n c, plV m d] w (CmpEnd k w)) := fun w => by rw [← hk]; exact compare_any _ _ _ _ w
  have HR : Hid (∀ w, Calls Tryd.prog 65 #[.int .i64 c] w fun e w' => e = .returned (.int .i64 r) ∧ w' = w) := fun w => by rw [← hr]; exact rival_any _ _
  have HQ : Hid (mfB n c m d = (!(decide (n = m) && d == r) && decide (k < 0))) := by show _ = _; rw [mfB, hk, hr]
  have HG := Lib.hid (((Gw.refl w).alloc (.cells #[.string n, .int .i64 c] 55)).alloc (.cells #[.string m, .int .i64 d] 55))
  by_cases hnm : n = m
  · have h1 : (n.toList == m.toList) = true := by rw [he]; simpa using hnm
    have h1' : (n.toList != m.toList) = false := by rw [bne, h1]; rfl
    have HN : Hid (decide (n = m) = true) := Lib.hid (by simpa using hnm)
    clear hk hr he hnm
    rcases Bool.eq_false_or_eq_true (d == r) with h2 | h2
    · have HE : Hid (mfB n c m d = false) := by show _ = _; rw [HQ.out, HN.out, h2]; rfl
      go_enter Tryd.func52, Tryd.ntmps52
      go_wp2_with fail
      go_quiet ((go_at_call 65; exact Calls.quiet_of_same (HR.out _)))
      go_wp2_with fail
      go_ret
      exact ⟨ret_bool HE.out.symm, by first | exact HG.out.drew | exact ⟨below_drewN HG.out.b _, by simp [World.drewN]⟩⟩
    · have HE : Hid (mfB n c m d = decide (k < 0)) := by show _ = _; rw [HQ.out, HN.out, h2]; rfl
      go_enter Tryd.func52, Tryd.ntmps52
      go_wp2_with fail
      go_quiet ((go_at_call 65; exact Calls.quiet_of_same (HR.out _)))
      go_wp2_with (first | (go_at_call 37; ((with_reducible refine (HC.out _).mono ?_); rintro e w1 ⟨rfl, g1⟩)))
      go_ret
      exact ⟨ret_bool (HE.out.symm ▸ by first | rfl | simp), (HG.out.drewN _).trans g1⟩
  · have h1 : (n.toList == m.toList) = false := by rw [he]; simpa using hnm
    have h1' : (n.toList != m.toList) = true := by rw [bne, h1]; rfl
    have HN : Hid (decide (n = m) = false) := Lib.hid (by simpa using hnm)
    have HE : Hid (mfB n c m d = decide (k < 0)) := by show _ = _; rw [HQ.out, HN.out]; rfl
    clear hk hr he hnm
    go_enter Tryd.func52, Tryd.ntmps52
    go_wp2_with fail
    go_quiet (fail)
    go_wp2_with (first | (go_at_call 37; ((with_reducible refine (HC.out _).mono ?_); rintro e w1 ⟨rfl, g1⟩)))
    go_ret
    exact ⟨ret_bool (HE.out.symm ▸ by first | rfl | simp), (HG.out.drewN _).trans g1⟩

end Go.Proofs.YtkjkhhifkedflaaDoor
