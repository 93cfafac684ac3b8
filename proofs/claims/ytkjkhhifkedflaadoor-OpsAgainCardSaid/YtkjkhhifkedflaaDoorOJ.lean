/- The contracts of slices.IndexFunc and ContainsFunc at operators, of ops.Is, Sides, TypeName, TypeOf, and of the law's find. -/
import Derived.Test.YtkjkhhifkedflaaDoorOI
set_option linter.unusedVariables false
set_option linter.unusedSimpArgs false
namespace Go.Proofs.YtkjkhhifkedflaaDoor
open Go.RowKit Go.Proofs.HP Go.BigFrame

theorem is1_any (o : Opd) (b : Nat) (m : ByteArray) (w : World) (hc : w.cell? ⟨b, 0, none⟩ = some (.string m)) :
    Calls Tryd.prog 49 #[opV o, .pointer (some ⟨b, 0, none⟩)] w fun e w' => e = .returned (.bool (decide (o.1 = m))) ∧ Gw w w' := by
  obtain ⟨n, t, p⟩ := o
  have HE := Lib.hid (toList_eq n m)
  have HG := Lib.hid ((Gw.refl w).alloc (.cells #[.string n, .int .i64 t, .int .i64 p] 26))
  have hc1 := cell_below HG.out.b _ _ hc
  clear hc
  go_enter Tryd.func49, Tryd.ntmps49
  go_wp2_with fail
  go_ret
  exact ⟨ret_bool HE.out, HG.out⟩
def idxI (l : List Opd) (m : ByteArray) : Int := if l.any (fun o => decide (o.1 = m)) then ((l.takeWhile fun o => !decide (o.1 = m)).length : Int) else -1
def IdxEnd (l : List Opd) (m : ByteArray) (w : World) (e : Ending) (w' : World) : Prop := ∃ i : Int, e = .returned (.int .i64 i) ∧ decide (0 ≤ i) = l.any (fun o => decide (o.1 = m)) ∧ Gw w w'
theorem any_at {l : List Opd} {m : ByteArray} {k : Nat} {o : Opd} (ho : l[k]? = some o) (h : decide (o.1 = m) = true) : l.any (fun o => decide (o.1 = m)) = true := by
  rw [List.any_eq_true]; exact ⟨o, List.mem_of_getElem? ho, h⟩
theorem any_none {l : List Opd} {m : ByteArray} (h : ∀ i o, i < l.length → l[i]? = some o → decide (o.1 = m) = false) : l.any (fun o => decide (o.1 = m)) = false := by
  rw [List.any_eq_false]
  intro o ho
  obtain ⟨i, hi⟩ := List.getElem?_of_mem ho
  rw [h i o (List.getElem?_eq_some_iff.1 hi).1 hi]; decide
set_option maxHeartbeats 4000000 in
theorem indexFunc_any (A : Option Addr) (n cap : Nat) (l : List Opd) (b : Nat) (m : ByteArray) (w : World) (hn : l.length = n) (hm : n ≤ 4611686018427387903) (hP : PRO w A l) (hc : w.cell? ⟨b, 0, none⟩ = some (.string m)) :
    Calls Tryd.prog 70 #[.slice A n cap, .func (.func 49) #[] #[.pointer (some ⟨b, 0, none⟩)]] w (IdxEnd l m w) := by
  have HP := Lib.hid hP
  have Hn := Lib.hid hn
  have HC := Lib.hid hc
  clear hP hn hc
  go_enter Tryd.func70, Tryd.ntmps70
  go_wp2_with fail
  go_loopw [8] (fun vi wr => ∃ k : Nat, k ≤ n ∧ vi = .int .i64 k ∧ Hid (∀ i o, i < k → l[i]? = some o → decide (o.1 = m) = false) ∧ Hid (Gw w wr)) (fun vi _ => n - (intOf vi).toNat)
  case atStart => exact ⟨0, Nat.zero_le _, rfl, Lib.hid (fun _ _ h => absurd h (by omega)), Lib.hid (Gw.refl _)⟩
  case round =>
    obtain ⟨k, hk, rfl, hI, hb⟩ := hrel
    by_cases hlt : k < n
    · obtain ⟨⟨s, t, p⟩, ho⟩ : ∃ o, l[k]? = some o := ⟨_, List.getElem?_eq_getElem (by have := Hn.out; omega)⟩
      obtain ⟨g, f, rfl, c0, c1, c2⟩ := HP.out.below hb.out.b k _ ho
      have HO := Lib.hid ho
      obtain ⟨v, hv⟩ : ∃ v, decide (s = m) = v := ⟨_, rfl⟩
      have H1 : Hid (∀ w, w.cell? ⟨b, 0, none⟩ = some (.string m) → Calls Tryd.prog 49 #[opV (s, t, p), .pointer (some ⟨b, 0, none⟩)] w fun e w' => e = .returned (.bool v) ∧ Gw w w') := fun w h => by rw [← hv]; exact is1_any (s, t, p) b m w h
      have HV := Lib.hid hv
      have HC1 := Lib.hid (cell_below hb.out.b _ _ HC.out)
      simp only at c0 c1 c2
      have q1 : (k : Int) < (n : Int) := by omega
      have q2 : (0 : Int) ≤ (k : Int) := by omega
      clear ho hv
      cases v
      · have HI : Hid (∀ i o, i < k + 1 → l[i]? = some o → decide (o.1 = m) = false) := fun i o hi ho => by
          by_cases e : i = k
          · subst e; rw [HO.out] at ho; cases ho; exact HV.out
          · exact hI.out i o (by omega) ho
        go_wp2_with (go_at_call 49; ((with_reducible refine (H1.out _ HC1.out).mono ?_); rintro e w1 ⟨rfl, g1⟩))
        go_roundw
        case rel => exact ⟨k + 1, by omega, by go_num, HI, Lib.hid (hb.out.trans g1)⟩
        case measure => simp [intOf]; omega
      · go_wp2_with (go_at_call 49; ((with_reducible refine (H1.out _ HC1.out).mono ?_); rintro e w1 ⟨rfl, g1⟩))
        go_ret
        exact ⟨k, rfl, by rw [any_at HO.out HV.out]; simp, hb.out.trans g1⟩
    · obtain rfl : k = n := by omega
      have HA := Lib.hid (any_none (l := l) (m := m) (fun i o hi ho => hI.out i o (by have := Hn.out; omega) ho))
      go_wp2_with fail
      go_ret
      exact ⟨-1, rfl, by rw [HA.out]; rfl, hb.out⟩
theorem containsFunc_any (A : Option Addr) (n cap : Nat) (l : List Opd) (b : Nat) (m : ByteArray) (w : World) (hn : l.length = n) (hm : n ≤ 4611686018427387903) (hP : PRO w A l) (hc : w.cell? ⟨b, 0, none⟩ = some (.string m)) :
    Calls Tryd.prog 48 #[.slice A n cap, .func (.func 49) #[] #[.pointer (some ⟨b, 0, none⟩)]] w (BEnd (l.any (fun o => decide (o.1 = m))) w) := by
  have HI := Lib.hid (indexFunc_any A n cap l b m w hn hm hP hc)
  clear hP hn hc
  go_enter Tryd.func48, Tryd.ntmps48
  go_wp2_with fail
  refine (HI.out).mono ?_
  rintro e w1 ⟨i, rfl, hi, g1⟩
  have H1 := Lib.hid hi
  clear hi
  go_wp2_with fail
  go_ret
  exact ⟨ret_bool H1.out, g1⟩
def isB (l : List Opd) (m : ByteArray) : Bool := vld l && l.any (fun o => decide (o.1 = m))
set_option maxHeartbeats 4000000 in
theorem is_any (A : Option Addr) (n cap : Nat) (l : List Opd) (m : ByteArray) (w : World) (hn : l.length = n) (hm : n ≤ 4611686018427387903) (hP : PRO w A l) (hL : KLaid w) :
    Calls Tryd.prog 20 #[.slice A n cap, .string m] w (BEnd (isB l m) w) := by
  have HG := Lib.hid ((Gw.refl w).alloc (.cells #[.string m] 9))
  have HP := Lib.hid (hP.below HG.out.b)
  have HL := Lib.hid (hL.below HG.out.b)
  have Hn := Lib.hid hn
  have m0 : (w.alloc (.cells #[.string m] 9)).cell? ⟨w.heap.size, 0, none⟩ = some (.string m) := by simp
  have HM := Lib.hid m0
  obtain ⟨v, hv⟩ : ∃ v, vld l = v := ⟨_, rfl⟩
  have HV : Hid (∀ w, PRO w A l → KLaid w → Calls Tryd.prog 23 #[.slice A n cap] w (BEnd v w)) := fun w h1 h2 => by rw [← hv]; exact valid_any A n cap l w hn (by omega) h1 h2
  have HE : Hid (isB l m = (v && l.any (fun o => decide (o.1 = m)))) := by show _ = _; rw [isB, hv]
  clear hP hL hn hv m0
  go_enter Tryd.func20, Tryd.ntmps20
  cases v
  · go_wp2_with (go_at_call 23; ((with_reducible refine (HV.out _ HP.out HL.out).mono ?_); rintro e w1 ⟨rfl, g1⟩))
    go_ret
    exact ⟨ret_bool HE.out.symm, HG.out.trans g1⟩
  · obtain ⟨v2, hv2⟩ : ∃ v, l.any (fun o => decide (o.1 = m)) = v := ⟨_, rfl⟩
    have HV2 : Hid (∀ b w, PRO w A l → w.cell? ⟨b, 0, none⟩ = some (.string m) → Calls Tryd.prog 48 #[.slice A n cap, .func (.func 49) #[] #[.pointer (some ⟨b, 0, none⟩)]] w (BEnd v2 w)) := fun b w h1 h2 => by rw [← hv2]; exact containsFunc_any A n cap l b m w Hn.out hm h1 h2
    have HE2 : Hid (isB l m = v2) := by show _ = _; rw [HE.out, hv2]; rfl
    clear hv2
    go_wp2_with (go_at_call 23; ((with_reducible refine (HV.out _ HP.out HL.out).mono ?_); rintro e w1 ⟨rfl, g1⟩))
    refine (HV2.out _ _ (HP.out.below g1.b) (cell_below g1.b _ _ HM.out)).mono ?_
    rintro e w2 ⟨rfl, g2⟩
    go_wp2_with fail
    go_ret
    exact ⟨ret_bool HE2.out.symm, (HG.out.trans g1).trans g2⟩

theorem typeName_any (t : Int) (w : World) (hL : KLaid w) : Calls Tryd.prog 18 #[.int .i64 t] w fun e w' => e = .returned (.tuple #[.string (if isT t then kN t else ⟨#[]⟩), .bool (isT t)]) ∧ w' = w := by
  obtain ⟨v, hv⟩ : ∃ v, isT t = v := ⟨_, rfl⟩
  have H1 : Hid (∀ w, Calls Tryd.prog 40 #[.int .i64 t] w fun e w' => e = .returned (.bool v) ∧ w' = w) := fun w => by rw [← hv]; exact isType_any _ _
  cases v
  · rw [hv]
    clear hv hL
    go_enter Tryd.func18, Tryd.ntmps18
    go_wp2_with (go_at_call 40; ((with_reducible refine (H1.out _).mono ?_); rintro e w1 ⟨rfl, rfl⟩))
    go_ret2
    exact ⟨rfl, rfl⟩
  · have ht := hv
    simp only [isT, Bool.and_eq_true, decide_eq_true_eq] at ht
    obtain ⟨k, rfl⟩ : ∃ k : Nat, t = k := ⟨t.toNat, by omega⟩
    obtain ⟨hc, _, _, _⟩ := hL.cell k (by omega)
    have h0 : (0 : Int) ≤ (k : Int) := by omega
    have h1 : (k : Int) < 8 := by omega
    rw [hv]
    clear hL hv ht
    go_enter Tryd.func18, Tryd.ntmps18
    go_wp2_with (go_at_call 40; ((with_reducible refine (H1.out _).mono ?_); rintro e w1 ⟨rfl, rfl⟩))
    go_ret2
    exact ⟨rfl, rfl⟩
/-- The loop of TypeOf. -/
def tyO (s : ByteArray) : Nat → Int → Option Int
  | 0, _ => none
  | f + 1, t => if kN t = s then some t else tyO s f (t + 1)
def tyV (s : ByteArray) : Int := (tyO s 7 1).getD 0
def tyB (s : ByteArray) : Bool := (tyO s 7 1).isSome
theorem tyO_yes {s : ByteArray} {k f : Nat} (h : decide (kN k = s) = true) : tyO s (f + 1) k = some (k : Int) := by rw [tyO, if_pos (of_decide_eq_true h)]
theorem tyO_no {s : ByteArray} {k f : Nat} (h : decide (kN k = s) = false) : tyO s (f + 1) k = tyO s f ((k + 1 : Nat) : Int) := by rw [tyO, if_neg (of_decide_eq_false h)]; rfl
set_option maxHeartbeats 4000000 in
theorem typeOf_any (s : ByteArray) (w : World) (hL : KLaid w) : Calls Tryd.prog 19 #[.string s] w fun e w' => e = .returned (.tuple #[.int .i64 (tyV s), .bool (tyB s)]) ∧ w' = w := by
  have HL := Lib.hid hL
  clear hL
  go_enter Tryd.func19, Tryd.ntmps19
  go_wp2_with fail
  go_loopw [2] (fun vi wr => ∃ k : Nat, 1 ≤ k ∧ k ≤ 8 ∧ vi = .int .i64 k ∧ Hid (tyO s 7 1 = tyO s (8 - k) k) ∧ wr = w) (fun vi _ => 8 - (intOf vi).toNat)
  case atStart => exact ⟨1, by omega, by omega, rfl, Lib.hid rfl, rfl⟩
  case round =>
    obtain ⟨k, hk1, hk, rfl, hI, rfl⟩ := hrel
    by_cases hlt : k < 8
    · have ht : isT (k : Int) = true := by simp [isT]; omega
      have H1 : Hid (∀ w, Calls Tryd.prog 40 #[.int .i64 k] w fun e w' => e = .returned (.bool true) ∧ w' = w) := fun w => by rw [← ht]; exact isType_any _ _
      obtain ⟨hc, _, _, _⟩ := HL.out.cell k hlt
      obtain ⟨q, hq⟩ : ∃ q, kN (k : Int) = q := ⟨_, rfl⟩
      have he := toList_eq q s
      rw [hq] at hc
      have h0 : (0 : Int) ≤ (k : Int) := by omega
      have h1 : (k : Int) < 8 := by omega
      have e8 : 8 - k = (8 - (k + 1)) + 1 := by omega
      have HE8 := Lib.hid e8
      by_cases hqs : q = s
      · have HR : Hid (tyO s 7 1 = some (k : Int)) := by show _ = _; rw [hI.out, HE8.out]; exact tyO_yes (by rw [hq]; simpa using hqs)
        have g1 : (q.toList == s.toList) = true := by rw [he]; simpa using hqs
        clear ht he hqs hq e8
        go_wp2_with (go_at_call 40; ((with_reducible refine (H1.out _).mono ?_); rintro e w1 ⟨rfl, rfl⟩))
        go_ret2
        exact ⟨by rw [tyV, tyB, HR.out]; rfl, rfl⟩
      · have HR : Hid (tyO s 7 1 = tyO s (8 - (k + 1)) ((k + 1 : Nat) : Int)) := by show _ = _; rw [hI.out, HE8.out]; exact tyO_no (by rw [hq]; simpa using hqs)
        have g1 : (q.toList == s.toList) = false := by rw [he]; simpa using hqs
        clear ht he hqs hq e8
        go_wp2_with (go_at_call 40; ((with_reducible refine (H1.out _).mono ?_); rintro e w1 ⟨rfl, rfl⟩))
        go_roundw
        case rel => exact ⟨k + 1, by omega, by omega, by go_num, HR, by first | rfl | trivial⟩
        case measure => simp [intOf]; omega
    · obtain rfl : k = 8 := by omega
      have ht : isT 8 = false := by decide
      have H1 : Hid (∀ w, Calls Tryd.prog 40 #[.int .i64 8] w fun e w' => e = .returned (.bool false) ∧ w' = w) := fun w => by rw [← ht]; exact isType_any _ _
      clear ht
      go_wp2_with (go_at_call 40; ((with_reducible refine (H1.out _).mono ?_); rintro e w1 ⟨rfl, rfl⟩))
      go_ret2
      exact ⟨by rw [tyV, tyB, hI.out]; rfl, rfl⟩

def sdL (o : Opd) : Int := if isT o.2.1 && !(o.2.2 == 0) && isPr o.2.2 then grt (kL o.2.1) o.2.2 else 0
def sdR (o : Opd) : Int := if isT o.2.1 && !(o.2.2 == 0) && isPr o.2.2 then grt (kR o.2.1) o.2.2 else 0
def SdEnd (o : Opd) (w : World) (e : Ending) (w' : World) : Prop := e = .returned (.tuple #[.int .i64 (sdL o), .int .i64 (sdR o)]) ∧ Gw w w'
theorem ret_ii {a b c d : Int} (h : a = c) (h2 : b = d) : Ending.returned (.tuple #[.int .i64 a, .int .i64 b]) = .returned (.tuple #[.int .i64 c, .int .i64 d]) := by rw [h, h2]
set_option maxHeartbeats 4000000 in
theorem sides_any (o : Opd) (w : World) (hL : KLaid w) : Calls Tryd.prog 14 #[opV o] w (SdEnd o w) := by
  obtain ⟨n, t, p⟩ := o
  have mixed : Tryd.prog.follows .mixedOrders = true := by kernel_rfl
  have HG := Lib.hid ((Gw.refl w).alloc (.cells #[.string n, .int .i64 t, .int .i64 p] 26))
  obtain ⟨b2, hb2⟩ : ∃ b, isT t = b := ⟨_, rfl⟩
  have H2 : Hid (∀ w, Calls Tryd.prog 40 #[.int .i64 t] w fun e w' => e = .returned (.bool b2) ∧ w' = w) := fun w => by rw [← hb2]; exact isType_any _ _
  obtain ⟨b3, hb3⟩ : ∃ b, isPr p = b := ⟨_, rfl⟩
  have H3 : Hid (∀ w, Calls Tryd.prog 41 #[.int .i64 p] w fun e w' => e = .returned (.bool b3) ∧ w' = w) := fun w => by rw [← hb3]; exact isPriority_any _ _
  have HSL : Hid (sdL (n, t, p) = if b2 && !(p == 0) && b3 then grt (kL t) p else 0) := by show _ = _; rw [← hb2, ← hb3]; rfl
  have HSR : Hid (sdR (n, t, p) = if b2 && !(p == 0) && b3 then grt (kR t) p else 0) := by show _ = _; rw [← hb2, ← hb3]; rfl
  cases b2
  · clear hb2 hb3 hL
    go_enter Tryd.func14, Tryd.ntmps14
    go_wp2_with (go_at_call 40; ((with_reducible refine (H2.out _).mono ?_); rintro e w1 ⟨rfl, rfl⟩))
    go_ret2
    exact ⟨ret_ii (by rw [HSL.out]; rfl) (by rw [HSR.out]; rfl), HG.out⟩
  · rcases Bool.eq_false_or_eq_true (p == 0) with hp | hp
    · have HSL2 : Hid (sdL (n, t, p) = 0) := by show _ = _; rw [HSL.out, hp]; rfl
      have HSR2 : Hid (sdR (n, t, p) = 0) := by show _ = _; rw [HSR.out, hp]; rfl
      clear hb2 hb3 hL
      go_enter Tryd.func14, Tryd.ntmps14
      go_wp2_with (go_at_call 40; ((with_reducible refine (H2.out _).mono ?_); rintro e w1 ⟨rfl, rfl⟩))
      go_ret2
      exact ⟨ret_ii HSL2.out.symm HSR2.out.symm, HG.out⟩
    · cases b3
      · have HSL2 : Hid (sdL (n, t, p) = 0) := by show _ = _; rw [HSL.out, hp]; rfl
        have HSR2 : Hid (sdR (n, t, p) = 0) := by show _ = _; rw [HSR.out, hp]; rfl
        clear hb2 hb3 hL
        go_enter Tryd.func14, Tryd.ntmps14
        go_wp2_with (first | (go_at_call 40; ((with_reducible refine (H2.out _).mono ?_); rintro e w1 ⟨rfl, rfl⟩)) | (go_at_call 41; ((with_reducible refine (H3.out _).mono ?_); rintro e w1 ⟨rfl, rfl⟩)))
        go_ret2
        exact ⟨ret_ii HSL2.out.symm HSR2.out.symm, HG.out⟩
      · have hpr := hb3
        simp only [isPr, Bool.and_eq_true, decide_eq_true_eq] at hpr
        have ht := hb2
        simp only [isT, Bool.and_eq_true, decide_eq_true_eq] at ht
        obtain ⟨k, rfl⟩ : ∃ k : Nat, t = k := ⟨t.toNat, by omega⟩
        obtain ⟨c0, c1, c2, c3⟩ := (hL.below HG.out.b).cell k (by omega)
        have h0 : (0 : Int) ≤ (k : Int) := by omega
        have h1 : (k : Int) < 8 := by omega
        obtain ⟨x0, hx0⟩ : ∃ x, kN (k : Int) = x := ⟨_, rfl⟩
        obtain ⟨x1, hx1⟩ : ∃ x, clsI (k : Int) = x := ⟨_, rfl⟩
        obtain ⟨x2, hx2⟩ : ∃ x, kL (k : Int) = x := ⟨_, rfl⟩
        obtain ⟨x3, hx3⟩ : ∃ x, kR (k : Int) = x := ⟨_, rfl⟩
        obtain ⟨y2, hy2⟩ : ∃ y, grt x2 p = y := ⟨_, rfl⟩
        obtain ⟨y3, hy3⟩ : ∃ y, grt x3 p = y := ⟨_, rfl⟩
        have HA : Hid (∀ w, Calls Tryd.prog 42 #[.int .i64 x2, .int .i64 p] w fun e w' => e = .returned (.int .i64 y2) ∧ w' = w) := fun w => by rw [← hy2]; exact greatest_any _ _ hpr.1 hpr.2 w
        have HB : Hid (∀ w, Calls Tryd.prog 42 #[.int .i64 x3, .int .i64 p] w fun e w' => e = .returned (.int .i64 y3) ∧ w' = w) := fun w => by rw [← hy3]; exact greatest_any _ _ hpr.1 hpr.2 w
        have HSL2 : Hid (sdL (n, (k : Int), p) = y2) := by show _ = _; rw [HSL.out, hp, hx2, hy2]; rfl
        have HSR2 : Hid (sdR (n, (k : Int), p) = y3) := by show _ = _; rw [HSR.out, hp, hx3, hy3]; rfl
        rw [hx0] at c0
        rw [hx1] at c1
        rw [hx2] at c2
        rw [hx3] at c3
        clear hb2 hb3 hL ht hpr hx0 hx1 hx2 hx3 hy2 hy3 HSL HSR
        go_enter Tryd.func14, Tryd.ntmps14
        go_wp2_with (first | (go_at_call 40; ((with_reducible refine (H2.out _).mono ?_); rintro e w1 ⟨rfl, rfl⟩)) | (go_at_call 41; ((with_reducible refine (H3.out _).mono ?_); rintro e w1 ⟨rfl, rfl⟩)))
        go_quiet ((first | (go_at_call_of 42 (Value.int .i64 x2); exact Calls.quiet_of_same (HA.out _)) | (go_at_call_of 42 (Value.int .i64 x3); exact Calls.quiet_of_same (HB.out _))))
        go_wp2_with fail
        go_ret2
        exact ⟨ret_ii HSL2.out.symm HSR2.out.symm, (HG.out.alloc _).drewN _⟩

end Go.Proofs.YtkjkhhifkedflaaDoor
