/- The contract of ops.Set. -/
import Derived.Test.YtkjkhhifkedflaaDoorOQ
set_option linter.unusedVariables false
set_option linter.unusedSimpArgs false
namespace Go.Proofs.YtkjkhhifkedflaaDoor
open Go.RowKit Go.Proofs.HP Go.BigFrame

theorem PRO.flat {w : World} {A : Option Addr} {l : List Opd} (h : PRO w A l) (hn : 0 < l.length) : ∃ ad, A = some ad ∧ ∀ (j : Nat) (v : Value), (flatO l)[j]? = some v → w.cell? (ad.add j) = some v := by
  obtain ⟨o0, ho0⟩ : ∃ o, l[0]? = some o := ⟨_, List.getElem?_eq_getElem hn⟩
  obtain ⟨b, f, rfl, _⟩ := h 0 o0 ho0
  refine ⟨_, rfl, fun j v hv => ?_⟩
  have hj : j < l.length * 3 := by have := (List.getElem?_eq_some_iff.1 hv).1; rw [flatO_len] at this; exact this
  obtain ⟨o, ho⟩ : ∃ o, l[j / 3]? = some o := ⟨_, List.getElem?_eq_getElem (by omega)⟩
  obtain ⟨b', f', e, c0, c1, c2⟩ := h _ o ho
  cases e
  obtain ⟨e0, e1, e2⟩ := flatO_get l _ o ho
  rw [HG.add_at]
  rcases (show j % 3 = 0 ∨ j % 3 = 1 ∨ j % 3 = 2 by omega) with m | m | m
  · rw [show j / 3 * 3 = j by omega, hv] at e0; cases e0; rw [show f + j = f + j / 3 * 3 by omega]; exact c0
  · rw [show j / 3 * 3 + 1 = j by omega, hv] at e1; cases e1; rw [show f + j = f + j / 3 * 3 + 1 by omega]; exact c1
  · rw [show j / 3 * 3 + 2 = j by omega, hv] at e2; cases e2; rw [show f + j = f + j / 3 * 3 + 2 by omega]; exact c2
theorem op_stays2 {w3 w4 : World} {b g : Nat} {o : Opd} {x : Obj} (h : RowO w3 b o) (ho : ∀ k, k ≠ w3.heap.size → w4.heap[k]? = (w3.alloc x).heap[k]?) : RowO w4 b o := by
  have hl := h.lt
  unfold RowO
  rw [ho b (by omega), (al0 w3 x).block b hl]
  exact h
theorem op_stays {w3 w4 : World} {b : Nat} {s : ByteArray} {t p : Int} {x : Obj} (h : RowO w3 b (s, t, p)) (ho : ∀ k, k ≠ w3.heap.size → w4.heap[k]? = (w3.alloc x).heap[k]?) :
    w4.cell? ⟨b, 0, none⟩ = some (.string s) ∧ w4.cell? ⟨b, 1, none⟩ = some (.int .i64 t) ∧ w4.cell? ⟨b, 2, none⟩ = some (.int .i64 p) := (op_stays2 (g := 0) h ho).cells
theorem ret_sz {A : Option Addr} {a b c : Nat} {x y : Int} (h : a = b) (h2 : x = y) : Ending.returned (.tuple #[.slice A a c, .int .i64 x]) = .returned (.tuple #[.slice A b c, .int .i64 y]) := by rw [h, h2]
def SetEnd (l : List Opd) (p t : Int) (s : ByteArray) (w : World) (e : Ending) (w' : World) : Prop :=
  ∃ A cap, e = .returned (.tuple #[.slice A (setR l p t s).length cap, .int .i64 (setE l p t s)]) ∧ PRO w' A (setR l p t s) ∧ Below w.heap.size w w'
theorem pro_nil (w : World) : PRO w none [] := fun i o h => by simp at h
theorem set_bad {l : List Opd} {p t : Int} {s : ByteArray} {k : Int} (h : setE l p t s = k) (hk : k ≠ 0) : setR l p t s = [] := by
  unfold setR; rw [if_neg (by rw [h]; exact hk)]
theorem ret_set {l : List Opd} {p t : Int} {s : ByteArray} {k : Int} {w w' : World} (h : setE l p t s = k) (hk : k ≠ 0) (hb : Below w.heap.size w w') : SetEnd l p t s w (.returned (.tuple #[.slice none 0 0, .int .i64 k])) w' :=
  ⟨none, 0, by rw [set_bad h hk, h]; rfl, by rw [set_bad h hk]; exact pro_nil _, hb⟩

set_option maxHeartbeats 4000000 in
theorem set_noarg (A : Option Addr) (n cap : Nat) (l : List Opd) (p t : Int) (s : ByteArray) (w : World) (hn : l.length = n) (hm : n ≤ 1000) (hP : PRO w A l) (hL : KLaid w) (ha : argB l p t s = false) :
    Calls Tryd.prog 15 #[.slice A n cap, .int .i64 p, .int .i64 t, .string s] w (SetEnd l p t s w) := by
  have HE : Hid (setE l p t s = 1) := by show _ = _; rw [setE, ha]; rfl
  have HP := Lib.hid hP
  have HL := Lib.hid hL
  obtain ⟨b1, hb1⟩ : ∃ b, vld l = b := ⟨_, rfl⟩
  have H1 : Hid (∀ w, PRO w A l → KLaid w → Calls Tryd.prog 23 #[.slice A n cap] w (BEnd b1 w)) := fun w h1 h2 => by rw [← hb1]; exact valid_any A n cap l w hn (by omega) h1 h2
  obtain ⟨b2, hb2⟩ : ∃ b, isPr p = b := ⟨_, rfl⟩
  have H2 : Hid (∀ w, Calls Tryd.prog 41 #[.int .i64 p] w fun e w' => e = .returned (.bool b2) ∧ w' = w) := fun w => by rw [← hb2]; exact isPriority_any _ _
  obtain ⟨b3, hb3⟩ : ∃ b, isT t = b := ⟨_, rfl⟩
  have H3 : Hid (∀ w, Calls Tryd.prog 40 #[.int .i64 t] w fun e w' => e = .returned (.bool b3) ∧ w' = w) := fun w => by rw [← hb3]; exact isType_any _ _
  obtain ⟨b4, hb4⟩ : ∃ b, decide (s.size ≤ 100) = b := ⟨_, rfl⟩
  have H4 : Hid (∀ w, Calls Tryd.prog 43 #[.string s] w fun e w' => e = .returned (.bool b4) ∧ w' = w) := fun w => by rw [← hb4]; exact isName_any _ _
  have hq : (b1 && b2 && b3 && b4) = false := by rw [← hb1, ← hb2, ← hb3, ← hb4]; exact ha
  clear hP hL hn ha hb1 hb2 hb3 hb4
  cases b1
  · go_enter Tryd.func15, Tryd.ntmps15
    go_wp2_with (go_at_call 23; ((with_reducible refine (H1.out _ HP.out HL.out).mono ?_); rintro e w1 ⟨rfl, g1⟩))
    go_ret2
    exact ret_set HE.out (by decide) g1.b
  · cases b2
    · go_enter Tryd.func15, Tryd.ntmps15
      go_wp2_with (first | (go_at_call 23; ((with_reducible refine (H1.out _ HP.out HL.out).mono ?_); rintro e w1 ⟨rfl, g1⟩)) | (go_at_call 41; ((with_reducible refine (H2.out _).mono ?_); rintro e w2 ⟨rfl, rfl⟩)))
      go_ret2
      exact ret_set HE.out (by decide) g1.b
    · cases b3
      · go_enter Tryd.func15, Tryd.ntmps15
        go_wp2_with (first | (go_at_call 23; ((with_reducible refine (H1.out _ HP.out HL.out).mono ?_); rintro e w1 ⟨rfl, g1⟩)) | (go_at_call 41; ((with_reducible refine (H2.out _).mono ?_); rintro e w2 ⟨rfl, rfl⟩)) | (go_at_call 40; ((with_reducible refine (H3.out _).mono ?_); rintro e w2 ⟨rfl, rfl⟩)))
        go_ret2
        exact ret_set HE.out (by decide) g1.b
      · cases b4
        · clear hq
          go_enter Tryd.func15, Tryd.ntmps15
          go_wp2_with (first | (go_at_call 23; ((with_reducible refine (H1.out _ HP.out HL.out).mono ?_); rintro e w1 ⟨rfl, g1⟩)) | (go_at_call 41; ((with_reducible refine (H2.out _).mono ?_); rintro e w2 ⟨rfl, rfl⟩)) | (go_at_call 40; ((with_reducible refine (H3.out _).mono ?_); rintro e w2 ⟨rfl, rfl⟩)) | (go_at_call 43; ((with_reducible refine (H4.out _).mono ?_); rintro e w2 ⟨rfl, rfl⟩)))
          go_ret2
          exact ret_set HE.out (by decide) g1.b
        · cases hq

set_option maxHeartbeats 8000000 in
theorem set_arg (A : Option Addr) (n cap : Nat) (l : List Opd) (p t : Int) (s : ByteArray) (w : World) (hn : l.length = n) (hm : n ≤ 1000) (hP : PRO w A l) (hL : KLaid w) (ha : argB l p t s = true) :
    Calls Tryd.prog 15 #[.slice A n cap, .int .i64 p, .int .i64 t, .string s] w (SetEnd l p t s w) := by
  have hV := arg_vd ha
  have HV := Lib.hid hV
  have HP := Lib.hid hP
  have HL := Lib.hid hL
  have Hn := Lib.hid hn
  have hta : isT t = true := by simp only [argB, Bool.and_eq_true] at ha; exact ha.1.2
  have hsa : decide (s.size ≤ 100) = true := by simp only [argB, Bool.and_eq_true] at ha; exact ha.2
  have hpa : isPr p = true := by simp only [argB, Bool.and_eq_true] at ha; simp only [isPr, Bool.and_eq_true]; exact ha.1.1.2
  have hp0 : 0 ≤ p ∧ p ≤ 1200 := by simp only [isPr, Bool.and_eq_true, decide_eq_true_eq] at hpa; exact hpa
  have H1 : Hid (∀ w, PRO w A l → KLaid w → Calls Tryd.prog 23 #[.slice A n cap] w (BEnd true w)) := fun w h1 h2 => by rw [← vld_iff.2 hV]; exact valid_any A n cap l w hn (by omega) h1 h2
  have H2 : Hid (∀ w, Calls Tryd.prog 41 #[.int .i64 p] w fun e w' => e = .returned (.bool true) ∧ w = w') := fun w => by rw [← hpa]; exact (isPriority_any _ _).mono fun _ _ h => ⟨h.1, h.2.symm⟩
  have H3 : Hid (∀ w, Calls Tryd.prog 40 #[.int .i64 t] w fun e w' => e = .returned (.bool true) ∧ w = w') := fun w => by rw [← hta]; exact (isType_any _ _).mono fun _ _ h => ⟨h.1, h.2.symm⟩
  have H4 : Hid (∀ w, Calls Tryd.prog 43 #[.string s] w fun e w' => e = .returned (.bool true) ∧ w = w') := fun w => by rw [← hsa]; exact (isName_any _ _).mono fun _ _ h => ⟨h.1, h.2.symm⟩
  obtain ⟨q, hq⟩ : ∃ q, perm l p t s = q := ⟨_, rfl⟩
  have H5 : Hid (∀ w, PRO w A l → KLaid w → Calls Tryd.prog 44 #[.slice A n cap, opV (s, t, p)] w (BEnd q w)) := fun w h1 h2 => by rw [← hq]; exact isPermitted_any A n cap l s t p w hn (by omega) h1 hV hta h2
  obtain ⟨c, hc⟩ : ∃ c, clsI t = c := ⟨_, rfl⟩
  have H6 : Hid (∀ w, KLaid w → Calls Tryd.prog 38 #[opV (s, t, p)] w fun e w' => e = .returned (plV s c) ∧ Gw w w') := fun w h => by rw [← hc]; exact placeOf_any (s, t, p) hta w h
  have HQ := Lib.hid hq
  have HA := Lib.hid ha
  have HC := Lib.hid hc
  have HTA := Lib.hid hta
  clear hP hL hn hV ha hta hsa hpa hq hc
  go_enter Tryd.func15, Tryd.ntmps15
  cases q
  · have HE : Hid (setE l p t s = 5) := by show _ = _; rw [setE, HA.out, HQ.out]; rfl
    go_wp2_with (first | (go_at_call 23; ((with_reducible refine (H1.out _ HP.out HL.out).mono ?_); rintro e w1 ⟨rfl, g1⟩; have HG2 := Lib.hid (g1.alloc (.cells #[.string s, .int .i64 t, .int .i64 p] 26)); have HP2 := Lib.hid (HP.out.below HG2.out.b); have HL2 := Lib.hid (HL.out.below HG2.out.b))) | (go_at_call 41; ((with_reducible refine (H2.out _).mono ?_); rintro e w2 ⟨rfl, rfl⟩)) | (go_at_call 40; ((with_reducible refine (H3.out _).mono ?_); rintro e w2 ⟨rfl, rfl⟩)) | (go_at_call 43; ((with_reducible refine (H4.out _).mono ?_); rintro e w2 ⟨rfl, rfl⟩)) | (go_at_call 44; ((with_reducible refine (H5.out _ HP2.out HL2.out).mono ?_); rintro e w3 ⟨rfl, g3⟩)))
    go_ret2
    exact ret_set HE.out (by decide) (HG2.out.trans g3).b
  · obtain ⟨i0, hi, hz0, hz1, hz2⟩ := info_parts infoOp
    obtain ⟨zrow, hzl, hmk⟩ : ∃ zrow : List Value, zrow.length = (n + 1) * 3 ∧ ∀ w : World, (Instr.makeSlice 23 (.int .i64 (n : Int)) (.int .i64 ((n : Int) + 1))).run Tryd.prog w = .ok (.slice (some ⟨w.heap.size, 0, none⟩) n (n + 1)) (w.alloc (.cells zrow.toArray 26)) := by
      refine ⟨(madeCells (Value.agg #[.string ⟨#[]⟩, .int .i64 0, .int .i64 0]).cells ((n + 1) * 3)).toList, by rw [Array.length_toList, size_madeCells], fun w => ?_⟩
      have := run_makeSlice (P := Tryd.prog) w 23 26 i0 _ Tryd.underlying23 hi hz0 .i64 .i64 (n : Int) ((n : Int) + 1) (by omega) (by omega) (by rw [hz1]; omega) (by rw [hz2]; omega) (by omega)
      rw [this, hz1]
      simp only [Int.toNat_natCast, Array.toArray_toList]
      rw [show ((n : Int) + 1).toNat = n + 1 by omega]
    have Hz := Lib.hid hzl
    clear hzl hi hz0 hz1 hz2
    have HS : Hid ((flatO l).length = Nat.min n n * 3) := by
      show _ = _
      rw [flatO_len, Hn.out, show Nat.min n n = n from Nat.min_self n]
    have HF : Hid (0 + (flatO l).length ≤ zrow.length) := by
      show _ ≤ _
      rw [flatO_len, Hn.out, Hz.out]; omega
    go_wp2_with (first | (go_at_call 23; ((with_reducible refine (H1.out _ HP.out HL.out).mono ?_); rintro e w1 ⟨rfl, g1⟩; have HRO := Lib.hid (RowO.new w1 (s, t, p)); have HG2 := Lib.hid (g1.alloc (.cells #[.string s, .int .i64 t, .int .i64 p] 26)); have HP2 := Lib.hid (HP.out.below HG2.out.b); have HL2 := Lib.hid (HL.out.below HG2.out.b))) | (go_at_call 41; ((with_reducible refine (H2.out _).mono ?_); rintro e w2 ⟨rfl, rfl⟩)) | (go_at_call 40; ((with_reducible refine (H3.out _).mono ?_); rintro e w2 ⟨rfl, rfl⟩)) | (go_at_call 43; ((with_reducible refine (H4.out _).mono ?_); rintro e w2 ⟨rfl, rfl⟩)) | (go_at_call 44; ((with_reducible refine (H5.out _ HP2.out HL2.out).mono ?_); rintro e w3 ⟨rfl, g3⟩; have HG3 := Lib.hid (HG2.out.trans g3); have HRO3 := Lib.hid (HRO.out.below g3.b); have HZN := Lib.hid (heap_alloc_new w3 (.cells zrow.toArray 26)); have HPZ := Lib.hid (HP.out.below (HG3.out.alloc (.cells zrow.toArray 26)).b))) | (refine HG.wpList_copy_k rfl (.tmp 45) (.tmp 46) 23 23 rfl 26 3 Tryd.underlying23 (by kernel_rfl) (some ⟨w3.heap.size, 0, none⟩) A n (n + 1) n cap rfl rfl w3.heap.size 0 zrow 26 HZN.out (flatO l) HS.out (fun h => ⟨rfl, (PRO.flat HPZ.out (by have := Hn.out; have e : Nat.min n n = n := Nat.min_self n; omega))⟩) HF.out (flatO_one _) w.heap.size w (HG3.out.alloc (.cells zrow.toArray 26)).b HG3.out.b.size ?_; intro w4 hg4 ho4 hb4; obtain ⟨x0, x1, x2⟩ := op_stays HRO3.out ho4.out))
    have HO4 : Hid (Owns w4 w3.heap.size (n + 1) l) := Lib.hid (by
      refine ⟨_, hg4.out, ?_, by rw [Hn.out]; omega, ?_⟩
      · rw [length_splice _ _ _ HF.out, Hz.out]
      · rw [splice_take2 _ _ _ _ (by omega) (by rw [flatO_len]; omega)]; rfl)
    have HR4 : Hid (RowO w4 w1.heap.size (s, t, p)) := Lib.hid (op_stays2 (g := 0) HRO3.out ho4.out)
    have HGB : w.heap.size ≤ w3.heap.size := HG3.out.b.size
    have HNE : w.heap.size ≤ w1.heap.size ∧ w1.heap.size < w3.heap.size := ⟨g1.b.size, HRO3.out.lt⟩
    have HK4 := Lib.hid (HL.out.below hb4)
    clear hg4 ho4 HZN HPZ HRO3 HRO HG2 HP2 HL2 g1 g3 HG3 HS HF hmk Hz x0 x1 x2
    obtain ⟨g, hg⟩ : ∃ g, w3.heap.size = g := ⟨_, rfl⟩
    obtain ⟨gv, hgv⟩ : ∃ g, w1.heap.size = g := ⟨_, rfl⟩
    rw [hg] at HO4 HGB HNE ⊢
    rw [hgv] at HR4 HNE ⊢
    obtain ⟨HV0, HV1⟩ := HNE
    clear hg hgv
    refine (H6.out _ HK4.out).mono ?_
    rintro e w5 ⟨rfl, g5⟩
    have HO5 := Lib.hid (HO4.out.below g5.b)
    have HR5 := Lib.hid (HR4.out.below g5.b)
    have HK5 := Lib.hid (HK4.out.below g5.b)
    have HB5 := Lib.hid (hb4.trans (g5.b.mono hb4.size))
    clear HO4 HR4 HK4 g5 hb4
    go_wp2_with fail
    refine (find_any _ n (n + 1) l s c w5 Hn.out (by omega) HO5.out.pr HV.out HK5.out).mono ?_
    rintro e w6 ⟨rfl, g6⟩
    have HO6 := Lib.hid (HO5.out.below g6.b)
    have HR6 := Lib.hid (HR5.out.below g6.b)
    have HB6 := Lib.hid (HB5.out.trans (g6.b.mono HB5.out.size))
    clear HO5 HR5 HK5 HB5 g6
    have HLE : lb l s c ≤ n := by have := lb_le l s c; have := Hn.out; omega
    obtain ⟨a, Ha⟩ : ∃ a, Hid (lb l s c = a) := ⟨_, rfl⟩
    rw [Ha.out] at HLE ⊢
    have HEE : Hid (setE l p t s = if 100 < (setT l p t s).length then 13 else 0) := by show _ = _; rw [setE, HA.out, HQ.out]; rfl
    rcases Bool.eq_false_or_eq_true (fnd l s c) with hf | hf
    · obtain ⟨hr, hlt⟩ := rem_yes HV.out hf
      rw [Ha.out] at hr hlt
      have hlt : a < n := by have := Hn.out; omega
      have Hw : Hid (rem s c l = del l a) := Lib.hid hr
      rw [hf]
      clear hf hr
      go_wp2_with fail
      refine (delete_any g a n (n + 1) l w6 (gv + 1) HV1 Hn.out hlt (by omega) (by omega) HO6.out).mono ?_
      rintro e w7 ⟨rfl, hb7, hO7⟩
      have HB7 := Lib.hid (HB6.out.trans (hb7.mono (by omega)))
      have HD1 : Hid ((del l a).length = n - 1) := by show _ = _; rw [del, List.length_append, List.length_take, List.length_drop, Hn.out]; omega
      have HO7 : Hid (Owns w7 g (n + 1) (del l a)) := Lib.hid hO7
      have HR7 : Hid (RowO w7 gv (s, t, p)) := Lib.hid ((hb7.block gv (by omega)).trans HR6.out)
      clear hO7 hb7 HB6 HO6
      by_cases hp : 0 < p
      · obtain ⟨x0, x1, x2⟩ := HR7.out.cells
        have HT : Hid (setT l p t s = ins (del l a) a (s, t, p)) := by show _ = _; rw [setT_pos HV.out hp, HC.out, Ha.out, Hw.out]
        have HLN : Hid ((setT l p t s).length = n - 1 + 1) := by show _ = _; rw [HT.out, ins_len _ _ _ (by rw [HD1.out]; omega), HD1.out]
        have hlt5 := HO7.out.lt
        have HVV := Lib.hid (heap_alloc_new w7 (.cells #[.string s, .int .i64 t, .int .i64 p] 26))
        have HOA := Lib.hid (HO7.out.alloc (.cells #[.string s, .int .i64 t, .int .i64 p] 26))
        have HBA := Lib.hid (HB7.out.alloc HB7.out.size (.cells #[.string s, .int .i64 t, .int .i64 p] 26))
        simp only at x0 x1 x2
        go_wp2_with fail
        refine (insert_any g w7.heap.size a (n - 1) (n + 1) (del l a) (s, t, p) _ w.heap.size HGB HD1.out (by omega) (by omega) (by omega) HOA.out HVV.out (by omega)).mono ?_
        rintro e w8 ⟨rfl, hb8, hO8⟩
        have HB8 := Lib.hid (HBA.out.trans hb8)
        have HO8 : Hid (Owns w8 g (n + 1) (setT l p t s)) := by show Owns _ _ _ _; rw [HT.out]; exact hO8
        clear hO8 hb8 x0 x1 x2
        by_cases h100 : 100 < n - 1 + 1
        · have HE : Hid (setE l p t s = 13) := by show _ = _; rw [HEE.out, HLN.out, if_pos h100]
          go_wp2_with fail
          go_ret2
          exact ret_set HE.out (by decide) HB8.out
        · have HE : Hid (setE l p t s = 0) := by show _ = _; rw [HEE.out, HLN.out, if_neg h100]
          have HRR : Hid (setR l p t s = setT l p t s) := by show _ = _; rw [setR, if_pos HE.out]
          go_wp2_with fail
          go_ret2
          exact ⟨some ⟨g, 0, none⟩, n + 1, ret_sz (by rw [HRR.out, HLN.out]) HE.out.symm, by rw [HRR.out]; exact HO8.out.pr, HB8.out⟩
      · have HT : Hid (setT l p t s = del l a) := by show _ = _; rw [setT, if_neg hp, HC.out, Hw.out]
        have HLN : Hid ((setT l p t s).length = n - 1) := by show _ = _; rw [HT.out, HD1.out]
        have HO8 : Hid (Owns w7 g (n + 1) (setT l p t s)) := by show Owns _ _ _ _; rw [HT.out]; exact HO7.out
        have hp2 : ¬ (0 < p) := hp
        by_cases h100 : 100 < n - 1
        · have HE : Hid (setE l p t s = 13) := by show _ = _; rw [HEE.out, HLN.out, if_pos h100]
          go_wp2_with fail
          go_ret2
          exact ret_set HE.out (by decide) HB7.out
        · have HE : Hid (setE l p t s = 0) := by show _ = _; rw [HEE.out, HLN.out, if_neg h100]
          have HRR : Hid (setR l p t s = setT l p t s) := by show _ = _; rw [setR, if_pos HE.out]
          go_wp2_with fail
          go_ret2
          exact ⟨some ⟨g, 0, none⟩, n + 1, ret_sz (by rw [HRR.out, HLN.out]) HE.out.symm, by rw [HRR.out]; exact HO8.out.pr, HB7.out⟩
    · have Hw : Hid (rem s c l = l) := Lib.hid (rem_no HV.out hf)
      rw [hf]
      clear hf
      by_cases hp : 0 < p
      · obtain ⟨x0, x1, x2⟩ := HR6.out.cells
        have HT : Hid (setT l p t s = ins (l) a (s, t, p)) := by show _ = _; rw [setT_pos HV.out hp, HC.out, Ha.out, Hw.out]
        have HLN : Hid ((setT l p t s).length = n + 1) := by show _ = _; rw [HT.out, ins_len _ _ _ (by rw [Hn.out]; omega), Hn.out]
        have hlt5 := HO6.out.lt
        have HVV := Lib.hid (heap_alloc_new w6 (.cells #[.string s, .int .i64 t, .int .i64 p] 26))
        have HOA := Lib.hid (HO6.out.alloc (.cells #[.string s, .int .i64 t, .int .i64 p] 26))
        have HBA := Lib.hid (HB6.out.alloc HB6.out.size (.cells #[.string s, .int .i64 t, .int .i64 p] 26))
        simp only at x0 x1 x2
        go_wp2_with fail
        refine (insert_any g w6.heap.size a (n) (n + 1) (l) (s, t, p) _ w.heap.size HGB Hn.out (by omega) (by omega) (by omega) HOA.out HVV.out (by omega)).mono ?_
        rintro e w8 ⟨rfl, hb8, hO8⟩
        have HB8 := Lib.hid (HBA.out.trans hb8)
        have HO8 : Hid (Owns w8 g (n + 1) (setT l p t s)) := by show Owns _ _ _ _; rw [HT.out]; exact hO8
        clear hO8 hb8 x0 x1 x2
        by_cases h100 : 100 < n + 1
        · have HE : Hid (setE l p t s = 13) := by show _ = _; rw [HEE.out, HLN.out, if_pos h100]
          go_wp2_with fail
          go_ret2
          exact ret_set HE.out (by decide) HB8.out
        · have HE : Hid (setE l p t s = 0) := by show _ = _; rw [HEE.out, HLN.out, if_neg h100]
          have HRR : Hid (setR l p t s = setT l p t s) := by show _ = _; rw [setR, if_pos HE.out]
          go_wp2_with fail
          go_ret2
          exact ⟨some ⟨g, 0, none⟩, n + 1, ret_sz (by rw [HRR.out, HLN.out]) HE.out.symm, by rw [HRR.out]; exact HO8.out.pr, HB8.out⟩
      · have HT : Hid (setT l p t s = l) := by show _ = _; rw [setT, if_neg hp, HC.out, Hw.out]
        have HLN : Hid ((setT l p t s).length = n) := by show _ = _; rw [HT.out, Hn.out]
        have HO8 : Hid (Owns w6 g (n + 1) (setT l p t s)) := by show Owns _ _ _ _; rw [HT.out]; exact HO6.out
        have hp2 : ¬ (0 < p) := hp
        by_cases h100 : 100 < n
        · have HE : Hid (setE l p t s = 13) := by show _ = _; rw [HEE.out, HLN.out, if_pos h100]
          go_wp2_with fail
          go_ret2
          exact ret_set HE.out (by decide) HB6.out
        · have HE : Hid (setE l p t s = 0) := by show _ = _; rw [HEE.out, HLN.out, if_neg h100]
          have HRR : Hid (setR l p t s = setT l p t s) := by show _ = _; rw [setR, if_pos HE.out]
          go_wp2_with fail
          go_ret2
          exact ⟨some ⟨g, 0, none⟩, n + 1, ret_sz (by rw [HRR.out, HLN.out]) HE.out.symm, by rw [HRR.out]; exact HO8.out.pr, HB6.out⟩

theorem set_any (A : Option Addr) (n cap : Nat) (l : List Opd) (p t : Int) (s : ByteArray) (w : World) (hn : l.length = n) (hm : n ≤ 1000) (hP : PRO w A l) (hL : KLaid w) :
    Calls Tryd.prog 15 #[.slice A n cap, .int .i64 p, .int .i64 t, .string s] w (SetEnd l p t s w) := by
  rcases Bool.eq_false_or_eq_true (argB l p t s) with h | h
  · exact set_arg A n cap l p t s w hn hm hP hL h
  · exact set_noarg A n cap l p t s w hn hm hP hL h
end Go.Proofs.YtkjkhhifkedflaaDoor
