/- The contracts of ops.lookUp, Prefix, Infix, Postfix, Is, and of the law's find. -/
import Derived.Test.YtkjkhhifkedflaaDoorOH
set_option linter.unusedVariables false
set_option linter.unusedSimpArgs false
namespace Go.Proofs.YtkjkhhifkedflaaDoor
open Go.RowKit Go.Proofs.HP Go.BigFrame

abbrev put3 (w : World) (b : Nat) (a0 a1 a2 : Value) : World := ((w.setCell ⟨b, 0, none⟩ a0).setCell ⟨b, 1, none⟩ a1).setCell ⟨b, 2, none⟩ a2
theorem three {w : World} {c : Nat} {a0 a1 a2 : Value} {ty : TypeId} (h : w.heap[c]? = some (.cells #[a0, a1, a2] ty (0, 0))) (b0 b1 b2 : Value) :
    (put3 w c b0 b1 b2).heap[c]? = some (.cells #[b0, b1, b2] ty (0, 0)) ∧ (∀ g, g ≠ c → (put3 w c b0 b1 b2).heap[g]? = w.heap[g]?) ∧ (put3 w c b0 b1 b2).heap.size = w.heap.size ∧ (∀ B W0, B ≤ c → Below B W0 w → Below B W0 (put3 w c b0 b1 b2)) := by
  refine ⟨?_, fun g hg => by unfold put3; rw [Below.heap_setCell _ _ _ _ hg, Below.heap_setCell _ _ _ _ hg, Below.heap_setCell _ _ _ _ hg], by simp [put3, World.setCell], fun B W0 hB hb => ((hb.setCell (p := ⟨c, 0, none⟩) hB b0).setCell (p := ⟨c, 1, none⟩) hB b1).setCell (p := ⟨c, 2, none⟩) hB b2⟩
  have W4 := heap_setCell_same _ _ 2 _ _ b2 (heap_setCell_same _ _ 1 _ _ b1 (heap_setCell_same _ _ 0 _ _ b0 h))
  simpa [put3, Array.setIfInBounds] using W4
/-- A block that holds an operator. -/
def RowO (w : World) (b : Nat) (o : Opd) : Prop := w.heap[b]? = some (.cells #[.string o.1, .int .i64 o.2.1, .int .i64 o.2.2] 26 (0, 0))
theorem RowO.below {w w' : World} {b : Nat} {o : Opd} (h : RowO w b o) (hb : Below w.heap.size w w') : RowO w' b o := (hb.block b (lt_of_some h)).trans h
theorem RowO.cells {w : World} {b : Nat} {o : Opd} (h : RowO w b o) : w.cell? ⟨b, 0, none⟩ = some (.string o.1) ∧ w.cell? ⟨b, 1, none⟩ = some (.int .i64 o.2.1) ∧ w.cell? ⟨b, 2, none⟩ = some (.int .i64 o.2.2) := by
  refine ⟨?_, ?_, ?_⟩ <;> (rw [cell_of_row _ _ _ _ _ _ h]; rfl)
theorem RowO.froz {w : World} {b : Nat} {o : Opd} (h : RowO w b o) : w.frozen? ⟨b, 0, none⟩ = false ∧ w.frozen? ⟨b, 1, none⟩ = false ∧ w.frozen? ⟨b, 2, none⟩ = false :=
  ⟨frozen_of_row _ _ 0 _ _ h, frozen_of_row _ _ 1 _ _ h, frozen_of_row _ _ 2 _ _ h⟩
theorem RowO.new (w : World) (o : Opd) : RowO (w.alloc (.cells #[.string o.1, .int .i64 o.2.1, .int .i64 o.2.2] 26)) w.heap.size o := heap_alloc_new _ _
theorem RowO.lt {w : World} {b : Nat} {o : Opd} (h : RowO w b o) : b < w.heap.size := lt_of_some h
def zO : Opd := (⟨#[]⟩, 0, 0)
def lkO (l : List Opd) (m : ByteArray) (c : Int) : Opd := (HP.look l m c).getD zO
def lkB (l : List Opd) (m : ByteArray) (c : Int) : Bool := (HP.look l m c).isSome
def LkEnd (o : Opd) (b : Bool) (w : World) (e : Ending) (w' : World) : Prop := e = .returned (.tuple #[opV o, .bool b]) ∧ Below w.heap.size w w'
theorem lk_bad {l : List Opd} {m : ByteArray} {c : Int} (h : vld l = false) : lkO l m c = zO ∧ lkB l m c = false := by simp [lkO, lkB, HP.look, h]
theorem lk_no {l : List Opd} {m : ByteArray} {c : Int} (h : Vd l) (hf : fnd l m c = false) : lkO l m c = zO ∧ lkB l m c = false := by
  have := ((asc_look l m c h.asc).2 hf).1
  simp [lkO, lkB, HP.look, vld_iff.2 h, this]
theorem lk_yes {l : List Opd} {m : ByteArray} {c : Int} (h : Vd l) (hf : fnd l m c = true) : l[lb l m c]? = some (lkO l m c) ∧ lkB l m c = true := by
  obtain ⟨o, h1, h2, _⟩ := (asc_look l m c h.asc).1 hf
  simp [lkO, lkB, HP.look, vld_iff.2 h, h1, h2]

set_option maxHeartbeats 4000000 in
theorem lookUp_any (A : Option Addr) (n cap : Nat) (l : List Opd) (m : ByteArray) (c : Int) (w : World) (hn : l.length = n) (hm : n ≤ 4611686018427387903) (hP : PRO w A l) (hL : KLaid w) :
    Calls Tryd.prog 39 #[.slice A n cap, plV m c] w (LkEnd (lkO l m c) (lkB l m c) w) := by
  have HG := Lib.hid (((Gw.refl w).alloc (.cells #[.string m, .int .i64 c] 55)).alloc (.cells #[.string ⟨#[]⟩, .int .i64 0, .int .i64 0] 26))
  have HR : Hid (RowO ((w.alloc (.cells #[.string m, .int .i64 c] 55)).alloc (.cells #[.string ⟨#[]⟩, .int .i64 0, .int .i64 0] 26)) (w.heap.size + 1) zO) := Lib.hid (by
    have h := RowO.new (w.alloc (.cells #[.string m, .int .i64 c] 55)) zO
    rw [show (w.alloc (.cells #[.string m, .int .i64 c] 55)).heap.size = w.heap.size + 1 by simp] at h
    exact h)
  have HP := Lib.hid (hP.below HG.out.b)
  have HL := Lib.hid (hL.below HG.out.b)
  have Hn := Lib.hid hn
  clear hP hL hn
  go_enter Tryd.func39, Tryd.ntmps39
  go_wp2_with fail
  have m0 : ((w.alloc (.cells #[.string m, .int .i64 c] 55)).alloc (.cells #[.string ⟨#[]⟩, .int .i64 0, .int .i64 0] 26)).cell? ⟨w.heap.size, 0, none⟩ = some (.string m) := by simp
  have m1 : ((w.alloc (.cells #[.string m, .int .i64 c] 55)).alloc (.cells #[.string ⟨#[]⟩, .int .i64 0, .int .i64 0] 26)).cell? ⟨w.heap.size, 1, none⟩ = some (.int .i64 c) := by simp
  have HM := Lib.hid (And.intro m0 m1)
  clear m0 m1
  generalize (w.alloc (.cells #[.string m, .int .i64 c] 55)).alloc (.cells #[.string ⟨#[]⟩, .int .i64 0, .int .i64 0] 26) = W0 at *
  refine (valid_any A n cap l _ Hn.out (by omega) HP.out HL.out).mono ?_
  rintro e w1 ⟨rfl, g1⟩
  have G1 := Lib.hid (HG.out.trans g1)
  have R1 := Lib.hid (HR.out.below g1.b)
  have m0 := cell_below g1.b _ _ HM.out.1
  have m1 := cell_below g1.b _ _ HM.out.2
  have HP1 := Lib.hid (HP.out.below g1.b)
  have HL1 := Lib.hid (HL.out.below g1.b)
  clear g1 HP HL HM HR HG
  rcases Bool.eq_false_or_eq_true (vld l) with hv | hv
  · have HV := Lib.hid (vld_iff.1 hv)
    go_wp2_with fail
    refine (find_any A n cap l m c _ Hn.out hm HP1.out HV.out HL1.out).mono ?_
    rintro e w2 ⟨rfl, g2⟩
    have G2 := Lib.hid (G1.out.trans g2)
    have R2 := Lib.hid (R1.out.below g2.b)
    have HP2 := Lib.hid (HP1.out.below g2.b)
    clear g2 m0 m1 G1 R1 HP1 HL1 hv
    obtain ⟨b0, b1, b2⟩ := R2.out.cells
    obtain ⟨f0, f1, f2⟩ := R2.out.froz
    have hw0 : w.heap.size ≤ w.heap.size + 1 := by omega
    rcases Bool.eq_false_or_eq_true (fnd l m c) with hf | hf
    · obtain ⟨e1, e2⟩ := lk_yes HV.out hf
      obtain ⟨⟨s, t, p⟩, hq⟩ : ∃ o, lkO l m c = o := ⟨_, rfl⟩
      obtain ⟨k, hk⟩ : ∃ k, lb l m c = k := ⟨_, rfl⟩
      rw [hq, hk] at e1
      have hkn : k < n := by have := (List.getElem?_eq_some_iff.1 e1).1; have := Hn.out; omega
      obtain ⟨b, f, rfl, c0, c1, c2⟩ := HP2.out k _ e1
      have HE : Hid (lkO l m c = (s, t, p) ∧ lkB l m c = true) := Lib.hid ⟨hq, e2⟩
      rw [hf, hk]
      simp only at c0 c1 c2
      have q2 : (0 : Int) ≤ (k : Int) := by omega
      have q3 : (k : Int) < (n : Int) := by omega
      have F3 := three R2.out (.string s) (.int .i64 t) (.int .i64 p)
      have HF3 := Lib.hid (And.intro F3.1 (F3.2.2.2 _ _ hw0 G2.out.b))
      clear hf e1 e2 hq hk F3
      go_wp2_with fail
      have k0 : (put3 w2 (w.heap.size + 1) (.string s) (.int .i64 t) (.int .i64 p)).cell? ⟨w.heap.size + 1, 0, none⟩ = some (.string s) := by rw [cell_of_row _ _ _ _ _ _ HF3.out.1]; rfl
      have k1 : (put3 w2 (w.heap.size + 1) (.string s) (.int .i64 t) (.int .i64 p)).cell? ⟨w.heap.size + 1, 1, none⟩ = some (.int .i64 t) := by rw [cell_of_row _ _ _ _ _ _ HF3.out.1]; rfl
      have k2 : (put3 w2 (w.heap.size + 1) (.string s) (.int .i64 t) (.int .i64 p)).cell? ⟨w.heap.size + 1, 2, none⟩ = some (.int .i64 p) := by rw [cell_of_row _ _ _ _ _ _ HF3.out.1]; rfl
      exact bodyPost_ret (v := .tuple #[opV (s, t, p), .bool true]) (by simp [results, Tryd.results39, go_sem, k0, k1, k2]) rfl ⟨by rw [HE.out.1, HE.out.2], HF3.out.2⟩
    · obtain ⟨e1, e2⟩ := lk_no HV.out hf
      have HE : Hid (lkO l m c = zO ∧ lkB l m c = false) := Lib.hid ⟨e1, e2⟩
      rw [hf]
      have F3 := three R2.out (.string ⟨#[]⟩) (.int .i64 0) (.int .i64 0)
      have HF3 := Lib.hid (And.intro F3.1 (F3.2.2.2 _ _ hw0 G2.out.b))
      clear hf e1 e2 F3
      go_wp2_with fail
      have k0 : (put3 w2 (w.heap.size + 1) (.string ⟨#[]⟩) (.int .i64 0) (.int .i64 0)).cell? ⟨w.heap.size + 1, 0, none⟩ = some (.string ⟨#[]⟩) := by rw [cell_of_row _ _ _ _ _ _ HF3.out.1]; rfl
      have k1 : (put3 w2 (w.heap.size + 1) (.string ⟨#[]⟩) (.int .i64 0) (.int .i64 0)).cell? ⟨w.heap.size + 1, 1, none⟩ = some (.int .i64 0) := by rw [cell_of_row _ _ _ _ _ _ HF3.out.1]; rfl
      have k2 : (put3 w2 (w.heap.size + 1) (.string ⟨#[]⟩) (.int .i64 0) (.int .i64 0)).cell? ⟨w.heap.size + 1, 2, none⟩ = some (.int .i64 0) := by rw [cell_of_row _ _ _ _ _ _ HF3.out.1]; rfl
      exact bodyPost_ret (v := .tuple #[opV zO, .bool false]) (by simp [results, Tryd.results39, go_sem, k0, k1, k2, zO]) rfl ⟨by rw [HE.out.1, HE.out.2], HF3.out.2⟩
  · obtain ⟨e1, e2⟩ := lk_bad (m := m) (c := c) hv
    have HE : Hid (lkO l m c = zO ∧ lkB l m c = false) := Lib.hid ⟨e1, e2⟩
    obtain ⟨b0, b1, b2⟩ := R1.out.cells
    obtain ⟨f0, f1, f2⟩ := R1.out.froz
    have F3 := three R1.out (.string ⟨#[]⟩) (.int .i64 0) (.int .i64 0)
    have HF3 := Lib.hid (And.intro F3.1 (F3.2.2.2 _ _ (by omega) G1.out.b))
    clear e1 e2 F3
    go_wp2_with fail
    have k0 : (put3 w1 (w.heap.size + 1) (.string ⟨#[]⟩) (.int .i64 0) (.int .i64 0)).cell? ⟨w.heap.size + 1, 0, none⟩ = some (.string ⟨#[]⟩) := by rw [cell_of_row _ _ _ _ _ _ HF3.out.1]; rfl
    have k1 : (put3 w1 (w.heap.size + 1) (.string ⟨#[]⟩) (.int .i64 0) (.int .i64 0)).cell? ⟨w.heap.size + 1, 1, none⟩ = some (.int .i64 0) := by rw [cell_of_row _ _ _ _ _ _ HF3.out.1]; rfl
    have k2 : (put3 w1 (w.heap.size + 1) (.string ⟨#[]⟩) (.int .i64 0) (.int .i64 0)).cell? ⟨w.heap.size + 1, 2, none⟩ = some (.int .i64 0) := by rw [cell_of_row _ _ _ _ _ _ HF3.out.1]; rfl
    exact bodyPost_ret (v := .tuple #[opV zO, .bool false]) (by simp [results, Tryd.results39, go_sem, k0, k1, k2, zO]) rfl ⟨by rw [HE.out.1, HE.out.2], HF3.out.2⟩

set_option maxHeartbeats 4000000 in
theorem prefix_any (A : Option Addr) (n cap : Nat) (l : List Opd) (m : ByteArray) (w : World) (hn : l.length = n) (hm : n ≤ 4611686018427387903) (hP : PRO w A l) (hL : KLaid w) :
    Calls Tryd.prog 17 #[.slice A n cap, .string m] w (LkEnd (lkO l m 1) (lkB l m 1) w) := by
  have HG := Lib.hid ((Below.refl w.heap.size w).alloc (Nat.le_refl _) (.cells #[.string ⟨#[]⟩, .int .i64 0, .int .i64 0] 26))
  have HR := Lib.hid (RowO.new w zO)
  have HC := Lib.hid (lookUp_any A n cap l m 1 (w.alloc (.cells #[.string ⟨#[]⟩, .int .i64 0, .int .i64 0] 26)) hn hm (hP.below HG.out) (hL.below HG.out))
  obtain ⟨⟨s, t, p⟩, hq⟩ : ∃ o, lkO l m 1 = o := ⟨_, rfl⟩
  obtain ⟨b, hb⟩ : ∃ b, lkB l m 1 = b := ⟨_, rfl⟩
  rw [hq, hb] at HC ⊢
  clear hP hL hn hq hb
  go_enter Tryd.func17, Tryd.ntmps17
  go_wp2_with fail
  refine (HC.out).mono ?_
  rintro e w2 ⟨rfl, g2⟩
  have R2 := Lib.hid (HR.out.below g2)
  have G2 := Lib.hid (HG.out.trans (g2.mono HG.out.size))
  clear g2 HR HC HG
  obtain ⟨b0, b1, b2⟩ := R2.out.cells
  obtain ⟨f0, f1, f2⟩ := R2.out.froz
  have F3 := three R2.out (.string s) (.int .i64 t) (.int .i64 p)
  have HF3 := Lib.hid (And.intro F3.1 (F3.2.2.2 _ _ (Nat.le_refl _) G2.out))
  clear F3
  go_wp2_with fail
  have k0 : (put3 w2 w.heap.size (.string s) (.int .i64 t) (.int .i64 p)).cell? ⟨w.heap.size, 0, none⟩ = some (.string s) := by rw [cell_of_row _ _ _ _ _ _ HF3.out.1]; rfl
  have k1 : (put3 w2 w.heap.size (.string s) (.int .i64 t) (.int .i64 p)).cell? ⟨w.heap.size, 1, none⟩ = some (.int .i64 t) := by rw [cell_of_row _ _ _ _ _ _ HF3.out.1]; rfl
  have k2 : (put3 w2 w.heap.size (.string s) (.int .i64 t) (.int .i64 p)).cell? ⟨w.heap.size, 2, none⟩ = some (.int .i64 p) := by rw [cell_of_row _ _ _ _ _ _ HF3.out.1]; rfl
  exact bodyPost_ret (v := .tuple #[opV (s, t, p), .bool b]) (by simp [results, Tryd.results17, go_sem, k0, k1, k2]) rfl ⟨rfl, HF3.out.2⟩

set_option maxHeartbeats 4000000 in
theorem infix_any (A : Option Addr) (n cap : Nat) (l : List Opd) (m : ByteArray) (w : World) (hn : l.length = n) (hm : n ≤ 4611686018427387903) (hP : PRO w A l) (hL : KLaid w) :
    Calls Tryd.prog 16 #[.slice A n cap, .string m] w (LkEnd (lkO l m 2) (lkB l m 2) w) := by
  have HG := Lib.hid ((Below.refl w.heap.size w).alloc (Nat.le_refl _) (.cells #[.string ⟨#[]⟩, .int .i64 0, .int .i64 0] 26))
  have HR := Lib.hid (RowO.new w zO)
  have HC := Lib.hid (lookUp_any A n cap l m 2 (w.alloc (.cells #[.string ⟨#[]⟩, .int .i64 0, .int .i64 0] 26)) hn hm (hP.below HG.out) (hL.below HG.out))
  obtain ⟨⟨s, t, p⟩, hq⟩ : ∃ o, lkO l m 2 = o := ⟨_, rfl⟩
  obtain ⟨b, hb⟩ : ∃ b, lkB l m 2 = b := ⟨_, rfl⟩
  rw [hq, hb] at HC ⊢
  clear hP hL hn hq hb
  go_enter Tryd.func16, Tryd.ntmps16
  go_wp2_with fail
  refine (HC.out).mono ?_
  rintro e w2 ⟨rfl, g2⟩
  have R2 := Lib.hid (HR.out.below g2)
  have G2 := Lib.hid (HG.out.trans (g2.mono HG.out.size))
  clear g2 HR HC HG
  obtain ⟨b0, b1, b2⟩ := R2.out.cells
  obtain ⟨f0, f1, f2⟩ := R2.out.froz
  have F3 := three R2.out (.string s) (.int .i64 t) (.int .i64 p)
  have HF3 := Lib.hid (And.intro F3.1 (F3.2.2.2 _ _ (Nat.le_refl _) G2.out))
  clear F3
  go_wp2_with fail
  have k0 : (put3 w2 w.heap.size (.string s) (.int .i64 t) (.int .i64 p)).cell? ⟨w.heap.size, 0, none⟩ = some (.string s) := by rw [cell_of_row _ _ _ _ _ _ HF3.out.1]; rfl
  have k1 : (put3 w2 w.heap.size (.string s) (.int .i64 t) (.int .i64 p)).cell? ⟨w.heap.size, 1, none⟩ = some (.int .i64 t) := by rw [cell_of_row _ _ _ _ _ _ HF3.out.1]; rfl
  have k2 : (put3 w2 w.heap.size (.string s) (.int .i64 t) (.int .i64 p)).cell? ⟨w.heap.size, 2, none⟩ = some (.int .i64 p) := by rw [cell_of_row _ _ _ _ _ _ HF3.out.1]; rfl
  exact bodyPost_ret (v := .tuple #[opV (s, t, p), .bool b]) (by simp [results, Tryd.results16, go_sem, k0, k1, k2]) rfl ⟨rfl, HF3.out.2⟩

set_option maxHeartbeats 4000000 in
theorem postfix_any (A : Option Addr) (n cap : Nat) (l : List Opd) (m : ByteArray) (w : World) (hn : l.length = n) (hm : n ≤ 4611686018427387903) (hP : PRO w A l) (hL : KLaid w) :
    Calls Tryd.prog 13 #[.slice A n cap, .string m] w (LkEnd (lkO l m 3) (lkB l m 3) w) := by
  have HG := Lib.hid ((Below.refl w.heap.size w).alloc (Nat.le_refl _) (.cells #[.string ⟨#[]⟩, .int .i64 0, .int .i64 0] 26))
  have HR := Lib.hid (RowO.new w zO)
  have HC := Lib.hid (lookUp_any A n cap l m 3 (w.alloc (.cells #[.string ⟨#[]⟩, .int .i64 0, .int .i64 0] 26)) hn hm (hP.below HG.out) (hL.below HG.out))
  obtain ⟨⟨s, t, p⟩, hq⟩ : ∃ o, lkO l m 3 = o := ⟨_, rfl⟩
  obtain ⟨b, hb⟩ : ∃ b, lkB l m 3 = b := ⟨_, rfl⟩
  rw [hq, hb] at HC ⊢
  clear hP hL hn hq hb
  go_enter Tryd.func13, Tryd.ntmps13
  go_wp2_with fail
  refine (HC.out).mono ?_
  rintro e w2 ⟨rfl, g2⟩
  have R2 := Lib.hid (HR.out.below g2)
  have G2 := Lib.hid (HG.out.trans (g2.mono HG.out.size))
  clear g2 HR HC HG
  obtain ⟨b0, b1, b2⟩ := R2.out.cells
  obtain ⟨f0, f1, f2⟩ := R2.out.froz
  have F3 := three R2.out (.string s) (.int .i64 t) (.int .i64 p)
  have HF3 := Lib.hid (And.intro F3.1 (F3.2.2.2 _ _ (Nat.le_refl _) G2.out))
  clear F3
  go_wp2_with fail
  have k0 : (put3 w2 w.heap.size (.string s) (.int .i64 t) (.int .i64 p)).cell? ⟨w.heap.size, 0, none⟩ = some (.string s) := by rw [cell_of_row _ _ _ _ _ _ HF3.out.1]; rfl
  have k1 : (put3 w2 w.heap.size (.string s) (.int .i64 t) (.int .i64 p)).cell? ⟨w.heap.size, 1, none⟩ = some (.int .i64 t) := by rw [cell_of_row _ _ _ _ _ _ HF3.out.1]; rfl
  have k2 : (put3 w2 w.heap.size (.string s) (.int .i64 t) (.int .i64 p)).cell? ⟨w.heap.size, 2, none⟩ = some (.int .i64 p) := by rw [cell_of_row _ _ _ _ _ _ HF3.out.1]; rfl
  exact bodyPost_ret (v := .tuple #[opV (s, t, p), .bool b]) (by simp [results, Tryd.results13, go_sem, k0, k1, k2]) rfl ⟨rfl, HF3.out.2⟩

end Go.Proofs.YtkjkhhifkedflaaDoor
