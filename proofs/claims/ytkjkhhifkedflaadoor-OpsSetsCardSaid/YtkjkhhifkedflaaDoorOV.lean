/- The contracts of the specification's Find, Is, Sides, TypeName, TypeOf, Same, Clone. -/
import Derived.Test.YtkjkhhifkedflaaDoorOU
set_option linter.unusedVariables false
set_option linter.unusedSimpArgs false
namespace Go.Proofs.YtkjkhhifkedflaaDoor
open Go.RowKit Go.Proofs.HP Go.BigFrame

theorem fnd_step {l : List Opd} {m : ByteArray} {c : Int} {k : Nat} {o : Opd} (h : l[k]? = some o) : (l.drop k).find? (isK m c) = if isK m c o then some o else (l.drop (k + 1)).find? (isK m c) := by
  have hk := (List.getElem?_eq_some_iff.1 h).1
  have e : l.drop k = o :: l.drop (k + 1) := by rw [List.drop_eq_getElem_cons hk]; congr 1; exact (List.getElem?_eq_some_iff.1 h).2
  rw [e, List.find?_cons]
  cases isK m c o <;> rfl
theorem put_ret {w w2 : World} {b : Nat} {z : Opd} {s : ByteArray} {t p : Int} (h : RowO w2 b z) (hb : w.heap.size ≤ b) (hw : Below w.heap.size w w2) :
    (put3 w2 b (.string s) (.int .i64 t) (.int .i64 p)).cell? ⟨b, 0, none⟩ = some (.string s) ∧ (put3 w2 b (.string s) (.int .i64 t) (.int .i64 p)).cell? ⟨b, 1, none⟩ = some (.int .i64 t) ∧ (put3 w2 b (.string s) (.int .i64 t) (.int .i64 p)).cell? ⟨b, 2, none⟩ = some (.int .i64 p) ∧
      Below w.heap.size w (put3 w2 b (.string s) (.int .i64 t) (.int .i64 p)) ∧ RowO (put3 w2 b (.string s) (.int .i64 t) (.int .i64 p)) b (s, t, p) := by
  have F3 := three h (.string s) (.int .i64 t) (.int .i64 p)
  refine ⟨?_, ?_, ?_, F3.2.2.2 _ _ hb hw, F3.1⟩ <;> (rw [cell_of_row _ _ _ _ _ _ F3.1]; rfl)
set_option maxHeartbeats 8000000 in
theorem rfind_any (A : Option Addr) (n cap : Nat) (l : List Opd) (m : ByteArray) (c : Int) (w : World) (hn : l.length = n) (hm : n ≤ 4611686018427387903) (hP : PRO w A l) :
    Calls Tryd.prog 25 #[.slice A n cap, .int .i64 c, .string m] w (LkEnd (lkO l m c) (lkB l m c) w) := by
  have HG := Lib.hid (al0 w (.cells #[.string ⟨#[]⟩, .int .i64 0, .int .i64 0] 26))
  have HR : Hid (RowO (w.alloc (.cells #[.string ⟨#[]⟩, .int .i64 0, .int .i64 0] 26)) w.heap.size zO) := Lib.hid (RowO.new w zO)
  have HP := Lib.hid (hP.below HG.out)
  have Hn := Lib.hid hn
  clear hP hn
  go_enter Tryd.func25, Tryd.ntmps25
  go_wp2_with fail
  generalize w.alloc (.cells #[.string ⟨#[]⟩, .int .i64 0, .int .i64 0] 26) = W0 at *
  refine (rvalid_any A n cap l _ Hn.out (by omega) HP.out).mono ?_
  rintro e w1 ⟨rfl, g1⟩
  have G1 := Lib.hid (HG.out.trans (g1.b.mono HG.out.size))
  have R1 := Lib.hid (HR.out.below g1.b)
  have HP1 := Lib.hid (HP.out.below g1.b)
  clear g1 HP HR HG
  rcases Bool.eq_false_or_eq_true (vld l) with hv | hv
  · have HLK : Hid (lkO l m c = (l.find? (isK m c)).getD zO ∧ lkB l m c = (l.find? (isK m c)).isSome) := by
      refine Lib.hid ⟨?_, ?_⟩
      · unfold lkO HP.look; rw [if_pos hv]
      · unfold lkB HP.look; rw [if_pos hv]
    rw [hv]
    clear hv
    go_wp2_with fail
    go_loopw [8] (fun vi wr => ∃ k : Nat, k ≤ n ∧ vi = .int .i64 k ∧ Hid (l.find? (isK m c) = (l.drop k).find? (isK m c)) ∧ Hid (Below w1.heap.size w1 wr)) (fun vi _ => n - (intOf vi).toNat)
    case atStart => exact ⟨0, Nat.zero_le _, rfl, Lib.hid rfl, Lib.hid (Below.refl _ _)⟩
    case round =>
      obtain ⟨k, hk, rfl, hI, hb⟩ := hrel
      have R2 := Lib.hid (R1.out.below hb.out)
      have G2 := Lib.hid (G1.out.trans (hb.out.mono G1.out.size))
      obtain ⟨b0, b1, b2⟩ := R2.out.cells
      obtain ⟨f0, f1, f2⟩ := R2.out.froz
      by_cases hlt : k < n
      · obtain ⟨⟨s, t, p⟩, ho⟩ : ∃ o, l[k]? = some o := ⟨_, List.getElem?_eq_getElem (by have := Hn.out; omega)⟩
        obtain ⟨b, f, rfl, c0, c1, c2⟩ := HP1.out.below hb.out k _ ho
        have HST := Lib.hid (fnd_step (m := m) (c := c) ho)
        obtain ⟨d, hd⟩ : ∃ d, clsI t = d := ⟨_, rfl⟩
        have H1 : Hid (∀ w, Calls Tryd.prog 32 #[.int .i64 t] w fun e w' => e = .returned (.int .i64 d) ∧ w = w') := fun w => by rw [← hd]; exact (class_any t w).mono fun _ _ h => ⟨h.1, h.2.symm⟩
        have hK : isK m c (s, t, p) = (decide (s = m) && d == c) := by rw [← hd]; rfl
        have he := toList_eq s m
        have q1 : (k : Int) < (n : Int) := by omega
        have q2 : (0 : Int) ≤ (k : Int) := by omega
        simp only at c0 c1 c2
        clear ho hd
        rcases Bool.eq_false_or_eq_true (d == c) with hdc | hdc
        · rcases Bool.eq_false_or_eq_true (s.toList == m.toList) with hsm | hsm
          · have HE : Hid (lkO l m c = (s, t, p) ∧ lkB l m c = true) := by
              have : l.find? (isK m c) = some (s, t, p) := by rw [hI.out, HST.out, hK, ← he, hsm, hdc]; rfl
              exact Lib.hid ⟨by rw [HLK.out.1, this]; rfl, by rw [HLK.out.2, this]; rfl⟩
            have HPR := Lib.hid (put_ret (s := s) (t := t) (p := p) R2.out (Nat.le_refl _) G2.out)
            clear hK he HST HLK
            go_wp2_with (go_at_call 32; ((with_reducible refine (H1.out _).mono ?_); rintro e w3 ⟨rfl, rfl⟩))
            obtain ⟨k0, k1, k2, _, _⟩ := HPR.out
            exact bodyPost_ret (v := .tuple #[opV (s, t, p), .bool true]) (by simp [results, Tryd.results25, go_sem, k0, k1, k2]) rfl ⟨by rw [HE.out.1, HE.out.2], HPR.out.2.2.2.1⟩
          · have HN : Hid (l.find? (isK m c) = (l.drop (k + 1)).find? (isK m c)) := by show _ = _; rw [hI.out, HST.out, hK, ← he, hsm]; rfl
            clear hK he HST HLK
            go_wp2_with (go_at_call 32; ((with_reducible refine (H1.out _).mono ?_); rintro e w3 ⟨rfl, rfl⟩))
            go_roundw
            case rel => exact ⟨k + 1, by omega, by go_num, HN, hb⟩
            case measure => simp [intOf]; omega
        · have HN : Hid (l.find? (isK m c) = (l.drop (k + 1)).find? (isK m c)) := by show _ = _; rw [hI.out, HST.out, hK, hdc]; simp
          clear hK he HST HLK
          go_wp2_with (go_at_call 32; ((with_reducible refine (H1.out _).mono ?_); rintro e w3 ⟨rfl, rfl⟩))
          go_roundw
          case rel => exact ⟨k + 1, by omega, by go_num, HN, hb⟩
          case measure => simp [intOf]; omega
      · obtain rfl : k = n := by omega
        have HE : Hid (lkO l m c = zO ∧ lkB l m c = false) := by
          have : l.find? (isK m c) = none := by rw [hI.out, List.drop_eq_nil_of_le (by have := Hn.out; omega)]; rfl
          exact Lib.hid ⟨by rw [HLK.out.1, this]; rfl, by rw [HLK.out.2, this]; rfl⟩
        have HPR := Lib.hid (put_ret (s := ⟨#[]⟩) (t := 0) (p := 0) R2.out (Nat.le_refl _) G2.out)
        clear HLK
        go_wp2_with fail
        obtain ⟨k0, k1, k2, _, _⟩ := HPR.out
        exact bodyPost_ret (v := .tuple #[opV zO, .bool false]) (by simp [results, Tryd.results25, go_sem, k0, k1, k2, zO]) rfl ⟨by rw [HE.out.1, HE.out.2], HPR.out.2.2.2.1⟩
  · obtain ⟨e1, e2⟩ := lk_bad (m := m) (c := c) hv
    have HE : Hid (lkO l m c = zO ∧ lkB l m c = false) := Lib.hid ⟨e1, e2⟩
    obtain ⟨b0, b1, b2⟩ := R1.out.cells
    obtain ⟨f0, f1, f2⟩ := R1.out.froz
    have HPR := Lib.hid (put_ret (s := ⟨#[]⟩) (t := 0) (p := 0) R1.out (Nat.le_refl _) G1.out)
    rw [hv]
    clear e1 e2 hv
    go_wp2_with fail
    obtain ⟨k0, k1, k2, _, _⟩ := HPR.out
    exact bodyPost_ret (v := .tuple #[opV zO, .bool false]) (by simp [results, Tryd.results25, go_sem, k0, k1, k2, zO]) rfl ⟨by rw [HE.out.1, HE.out.2], HPR.out.2.2.2.1⟩
end Go.Proofs.YtkjkhhifkedflaaDoor
