/- Slices of operators in memory; the contract of ops.Valid. -/
import Derived.Test.YtkjkhhifkedflaaDoorOF
import Derived.Shelf.SlSortCmp.QuietGrown
set_option linter.unusedVariables false
set_option linter.unusedSimpArgs false
namespace Go.Proofs.YtkjkhhifkedflaaDoor
open Go.RowKit Go.Proofs.HP Go.BigFrame

/-- The slice with first cell A reads as these operators. -/
def PRO (w : World) (A : Option Addr) (l : List Opd) : Prop :=
  ∀ i o, l[i]? = some o → ∃ b f, A = some ⟨b, f, none⟩ ∧ w.cell? ⟨b, f + i * 3, none⟩ = some (.string o.1) ∧ w.cell? ⟨b, f + i * 3 + 1, none⟩ = some (.int .i64 o.2.1) ∧ w.cell? ⟨b, f + i * 3 + 2, none⟩ = some (.int .i64 o.2.2)
theorem PRO.below {w w' : World} {A : Option Addr} {l : List Opd} (h : PRO w A l) (hb : Below w.heap.size w w') : PRO w' A l := fun i o ho => by
  obtain ⟨b, f, e, h1, h2, h3⟩ := h i o ho
  exact ⟨b, f, e, cell_below hb _ _ h1, cell_below hb _ _ h2, cell_below hb _ _ h3⟩
def prv (l : List Opd) (k : Nat) : Option Opd := if k = 0 then none else l[k - 1]?
theorem chk_step {l : List Opd} {k : Nat} {o : Opd} (h : l[k]? = some o) : chk (prv l k) (l.drop k) = (oneB o && (match prv l k with | none => true | some q => okP q o) && chk (prv l (k + 1)) (l.drop (k + 1))) := by
  have hk := (List.getElem?_eq_some_iff.1 h).1
  have e : l.drop k = o :: l.drop (k + 1) := by
    rw [List.drop_eq_getElem_cons hk]
    congr 1
    exact (List.getElem?_eq_some_iff.1 h).2
  have e2 : prv l (k + 1) = some o := by simp [prv, h]
  rw [e, e2]
  conv => lhs; unfold chk
  cases prv l k <;> rfl
theorem chk_bad1 {l : List Opd} {k : Nat} {o : Opd} (h : l[k]? = some o) (h1 : oneB o = false) : chk (prv l k) (l.drop k) = false := by rw [chk_step h, h1]; rfl
theorem chk_zero {l : List Opd} {o : Opd} (h : l[0]? = some o) (h1 : oneB o = true) : chk (prv l 0) (l.drop 0) = chk (prv l 1) (l.drop 1) := by rw [chk_step h, h1]; simp [prv]
theorem chk_pos {l : List Opd} {k : Nat} {q o : Opd} (hk : 0 < k) (hq : l[k - 1]? = some q) (h : l[k]? = some o) (h1 : oneB o = true) : chk (prv l k) (l.drop k) = (okP q o && chk (prv l (k + 1)) (l.drop (k + 1))) := by
  have : prv l k = some q := by rw [prv, if_neg (by omega), hq]
  rw [chk_step h, h1, this]; simp
theorem vld_len {l : List Opd} (h : l.length ≤ 100) : vld l = chk (prv l 0) (l.drop 0) := by simp [vld, h, prv]
theorem chk_end (l : List Opd) (p : Option Opd) : chk p (l.drop l.length) = true := by simp [chk]

/-- A callee that only lays blocks and draws, in a world behind blocks and draws. -/
theorem gq {f : FuncId} {args : Array Value} {w : World} {n : Nat} {os : Array Obj} {v : Value}
    (h : Calls Tryd.prog f args (Go.Sort.grow (w.drewN n) os) fun e w' => e = .returned v ∧ Gw (Go.Sort.grow (w.drewN n) os) w') : Calls Tryd.prog f args (Go.Sort.grow (w.drewN n) os) fun e w'' => e = .returned v ∧ ∃ p : GrownBy, w'' = Go.Sort.grow (w.drewN p.n) p.os :=
  Calls.grown_of (h.mono fun _ _ ⟨he, hg⟩ => ⟨he, hg.grow⟩)
theorem gw_grow (w : World) (n : Nat) (os : Array Obj) : Gw w (Go.Sort.grow (w.drewN n) os) := by
  refine ⟨⟨rfl, rfl, rfl, by simp [Go.Sort.grow, World.drewN], fun k hk => ?_⟩, by simp [Go.Sort.grow, World.drewN]⟩
  simp only [Go.Sort.grow, World.drewN]
  rw [Array.getElem?_append_left hk]
theorem cg {w : World} {a : Addr} {v : Value} (h : w.cell? a = some v) (n : Nat) (os : Array Obj) : (Go.Sort.grow (w.drewN n) os).cell? a = some v := cell_below (gw_grow w n os).b _ _ h

set_option maxHeartbeats 8000000 in
theorem valid_any (A : Option Addr) (n cap : Nat) (l : List Opd) (w : World) (hn : l.length = n) (hm : n ≤ 9223372036854775807) (hP : PRO w A l) (hL : KLaid w) :
    Calls Tryd.prog 23 #[.slice A n cap] w (BEnd (vld l) w) := by
  have mixed : Tryd.prog.follows .mixedOrders = true := by kernel_rfl
  have HP := Lib.hid hP
  have HL := Lib.hid hL
  have Hn := Lib.hid hn
  clear hP hL hn
  by_cases h100 : n ≤ 100
  · have HV : Hid (vld l = chk (prv l 0) (l.drop 0)) := Lib.hid (vld_len (by have := Hn.out; omega))
    go_enter Tryd.func23, Tryd.ntmps23
    go_wp2_with fail
    go_loopw [10] (fun vi wr => ∃ k : Nat, k ≤ n ∧ vi = .int .i64 k ∧ Hid (vld l = chk (prv l k) (l.drop k)) ∧ Hid (∀ q, prv l k = some q → isT q.2.1 = true) ∧ Hid (Gw w wr)) (fun vi _ => n - (intOf vi).toNat)
    case atStart => exact ⟨0, Nat.zero_le _, rfl, HV, Lib.hid (fun q h => by simp [prv] at h), Lib.hid (Gw.refl _)⟩
    case round =>
      obtain ⟨k, hk, rfl, hC, hT, hb⟩ := hrel
      by_cases hlt : k < n
      · obtain ⟨⟨s, t, p⟩, ho⟩ : ∃ o, l[k]? = some o := ⟨_, List.getElem?_eq_getElem (by have := Hn.out; omega)⟩
        obtain ⟨b, f, rfl, c0, c1, c2⟩ := HP.out.below hb.out.b k _ ho
        have HO := Lib.hid ho
        have HB := Lib.hid (hb.out.alloc (.cells #[.string s, .int .i64 t, .int .i64 p] 26))
        have HK := Lib.hid (HL.out.below HB.out.b)
        obtain ⟨v, hv⟩ : ∃ v, oneB (s, t, p) = v := ⟨_, rfl⟩
        have H1 : Hid (∀ w, KLaid w → Calls Tryd.prog 51 #[opV (s, t, p)] w (BEnd v w)) := fun w h => by rw [← hv]; exact isValid_any _ _ h
        have HVV := Lib.hid hv
        have hlz : (k : Int) < (n : Int) := by omega
        clear ho hv
        simp only at c0 c1 c2 H1
        cases v
        · have HF : Hid (vld l = false) := by show _ = _; rw [hC.out]; exact chk_bad1 HO.out HVV.out
          go_wp2_with fail
          have HZ : Hid (wr.heap.size = wr.heap.size) := Lib.hid rfl
          have y0 : (wr.alloc (.cells #[.string s, .int .i64 t, .int .i64 p] 26)).cell? ⟨wr.heap.size, 0, none⟩ = some (.string s) := by simp
          have y1 : (wr.alloc (.cells #[.string s, .int .i64 t, .int .i64 p] 26)).cell? ⟨wr.heap.size, 1, none⟩ = some (.int .i64 t) := by simp
          have y2 : (wr.alloc (.cells #[.string s, .int .i64 t, .int .i64 p] 26)).cell? ⟨wr.heap.size, 2, none⟩ = some (.int .i64 p) := by simp
          generalize wr.alloc (.cells #[.string s, .int .i64 t, .int .i64 p] 26) = W0 at *
          have z0 := cg y0
          have z1 := cg y1
          have z2 := cg y2
          clear y0 y1 y2 c0 c1 c2
          refine wp_region_quiet_grown (by assumption) (by kernel_rfl) ?_
          repeat (go_big_quiet_step ((go_at_call 51; exact gq (H1.out _ (HK.out.below (gw_grow _ _ _).b)))))
          refine wpQuiet_nil ?_
          intro _ hw'
          obtain ⟨⟨nq, osq⟩, hw''⟩ := hw'
          subst hw''
          go_wp2_with fail
          go_ret
          exact ⟨ret_bool HF.out.symm, HB.out.trans (gw_grow _ _ _)⟩
        · have HTT : Hid (isT t = true) := Lib.hid (one_cls HVV.out)
          by_cases hk0 : k = 0
          · subst hk0
            simp only [Nat.zero_mul, Nat.add_zero] at c0 c1 c2
            have HF : Hid (vld l = chk (prv l 1) (l.drop 1)) := by show _ = _; rw [hC.out]; exact chk_zero HO.out HVV.out
            go_wp2_with fail
            have y0 : (wr.alloc (.cells #[.string s, .int .i64 t, .int .i64 p] 26)).cell? ⟨wr.heap.size, 0, none⟩ = some (.string s) := by simp
            have y1 : (wr.alloc (.cells #[.string s, .int .i64 t, .int .i64 p] 26)).cell? ⟨wr.heap.size, 1, none⟩ = some (.int .i64 t) := by simp
            have y2 : (wr.alloc (.cells #[.string s, .int .i64 t, .int .i64 p] 26)).cell? ⟨wr.heap.size, 2, none⟩ = some (.int .i64 p) := by simp
            generalize wr.alloc (.cells #[.string s, .int .i64 t, .int .i64 p] 26) = W0 at *
            have z0 := cg y0
            have z1 := cg y1
            have z2 := cg y2
            clear y0 y1 y2 c0 c1 c2
            refine wp_region_quiet_grown (by assumption) (by kernel_rfl) ?_
            repeat (go_big_quiet_step ((go_at_call 51; exact gq (H1.out _ (HK.out.below (gw_grow _ _ _).b)))))
            refine wpQuiet_nil ?_
            intro _ hw'
            obtain ⟨⟨nq, osq⟩, hw''⟩ := hw'
            subst hw''
            go_wp2_with fail
            go_roundw
            case rel => exact ⟨1, by omega, by go_num, HF, Lib.hid (fun q h => by simp only [prv, Nat.one_ne_zero, if_false, Nat.sub_self] at h; rw [HO.out] at h; cases h; exact HTT.out), Lib.hid (HB.out.trans (gw_grow _ _ _))⟩
            case measure => simp [intOf]; omega
          · obtain ⟨⟨s2, t2, p2⟩, hq⟩ : ∃ o, l[k - 1]? = some o := ⟨_, List.getElem?_eq_getElem (by have := Hn.out; omega)⟩
            obtain ⟨b', f', e', d0, d1, d2⟩ := HP.out.below hb.out.b (k - 1) _ hq
            cases e'
            have HT2 : Hid (isT t2 = true) := Lib.hid (hT.out (s2, t2, p2) (by rw [prv, if_neg hk0, hq]))
            obtain ⟨u, hu⟩ : ∃ u, okP (s2, t2, p2) (s, t, p) = u := ⟨_, rfl⟩
            have HF : Hid (vld l = (u && chk (prv l (k + 1)) (l.drop (k + 1)))) := by show _ = _; rw [hC.out, ← hu]; exact chk_pos (by omega) hq HO.out HVV.out
            obtain ⟨ca, hca⟩ : ∃ c, oc (s2, t2, p2) = c := ⟨_, rfl⟩
            obtain ⟨cb, hcb⟩ : ∃ c, oc (s, t, p) = c := ⟨_, rfl⟩
            have H2 : Hid (∀ w, KLaid w → Calls Tryd.prog 38 #[opV (s2, t2, p2)] w fun e w' => e = .returned (plV s2 ca) ∧ Gw w w') := fun w h => by rw [← hca]; exact placeOf_any _ HT2.out w h
            have H3 : Hid (∀ w, KLaid w → Calls Tryd.prog 38 #[opV (s, t, p)] w fun e w' => e = .returned (plV s cb) ∧ Gw w w') := fun w h => by rw [← hcb]; exact placeOf_any _ HTT.out w h
            have H4 : Hid (∀ w, Calls Tryd.prog 52 #[plV s2 ca, plV s cb] w (BoolEnd u w)) := fun w => by rw [← hu, ← hca, ← hcb]; exact mayFollow_any _ _ _ _ w
            clear hq hu hca hcb
            simp only at d0 d1 d2
            have hkz : (0 : Int) < (k : Int) := by omega
            have hkz' : decide ((0 : Int) < (k : Int)) = true := by simpa using hkz
            have hkz2 : 0 < k := by omega
            have hk1 : (0 : Int) ≤ (k : Int) - 1 := by omega
            have hk2 : (k : Int) - 1 < (n : Int) := by omega
            have hk3 : ((k : Int) - 1).toNat = k - 1 := by omega
            have hk5 : (1 : Int) ≤ (k : Int) := by omega
            have hk4 : IntKind.i64.wrap ((k : Int) - 1) = (k : Int) - 1 := IntWalk.i64_in _ ⟨by omega, by omega⟩
            go_wp2_with fail
            have y0 : (wr.alloc (.cells #[.string s, .int .i64 t, .int .i64 p] 26)).cell? ⟨wr.heap.size, 0, none⟩ = some (.string s) := by simp
            have y1 : (wr.alloc (.cells #[.string s, .int .i64 t, .int .i64 p] 26)).cell? ⟨wr.heap.size, 1, none⟩ = some (.int .i64 t) := by simp
            have y2 : (wr.alloc (.cells #[.string s, .int .i64 t, .int .i64 p] 26)).cell? ⟨wr.heap.size, 2, none⟩ = some (.int .i64 p) := by simp
            have x0 := cell_below (al0 wr (.cells #[.string s, .int .i64 t, .int .i64 p] 26)) _ _ d0
            have x1 := cell_below (al0 wr (.cells #[.string s, .int .i64 t, .int .i64 p] 26)) _ _ d1
            have x2 := cell_below (al0 wr (.cells #[.string s, .int .i64 t, .int .i64 p] 26)) _ _ d2
            generalize wr.alloc (.cells #[.string s, .int .i64 t, .int .i64 p] 26) = W0 at *
            have z0 := cg y0
            have z1 := cg y1
            have z2 := cg y2
            have v0 := cg x0
            have v1 := cg x1
            have v2 := cg x2
            clear y0 y1 y2 c0 c1 c2 x0 x1 x2 d0 d1 d2
            refine wp_region_quiet_grown (by assumption) (by kernel_rfl) ?_
            repeat (go_big_quiet_step (first | (go_at_call 51; exact gq (H1.out _ (HK.out.below (gw_grow _ _ _).b))) | (go_at_call 38; ((with_reducible refine gq (H2.out _ ?_)); exact HK.out.below (gw_grow _ _ _).b)) | (go_at_call 38; ((with_reducible refine gq (H3.out _ ?_)); exact HK.out.below (gw_grow _ _ _).b)) | (go_at_call 52; exact gq (H4.out _))))
            refine wpQuiet_nil ?_
            intro _ hw'
            obtain ⟨⟨nq, osq⟩, hw''⟩ := hw'
            subst hw''
            clear v0 v1 v2 z0 z1 z2 hk4
            cases u
            · go_wp2_with fail
              go_ret
              exact ⟨ret_bool (by rw [HF.out]; rfl), HB.out.trans (gw_grow _ _ _)⟩
            · go_wp2_with fail
              go_roundw
              case rel => exact ⟨k + 1, by omega, by go_num, Lib.hid (by rw [HF.out]; rfl), Lib.hid (fun q h => by simp only [prv, Nat.add_one_ne_zero, if_false, Nat.add_sub_cancel] at h; rw [HO.out] at h; cases h; exact HTT.out), Lib.hid (HB.out.trans (gw_grow _ _ _))⟩
              case measure => simp [intOf]; omega
      · obtain rfl : k = n := by omega
        have HF : Hid (vld l = true) := by show _ = _; rw [hC.out]; have := Hn.out; subst this; exact chk_end l _
        go_wp2_with fail
        go_ret
        exact ⟨ret_bool HF.out.symm, hb.out⟩
  · have HF : Hid (vld l = false) := by show _ = _; have := Hn.out; unfold vld; rw [decide_eq_false (by omega)]; rfl
    have h2 : (100 : Int) < (n : Int) := by omega
    go_enter Tryd.func23, Tryd.ntmps23
    go_wp2_with fail
    go_ret
    exact ⟨ret_bool HF.out.symm, Gw.refl _⟩
end Go.Proofs.YtkjkhhifkedflaaDoor
