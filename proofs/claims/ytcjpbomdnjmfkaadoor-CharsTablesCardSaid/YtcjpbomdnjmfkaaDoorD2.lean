/- The contracts of the specification's Set and Clone. -/
import Derived.Test.YtcjpbomdnjmfkaaDoorD1
import Derived.Test.YtcjpbomdnjmfkaaDoorM2
import Derived.Laws.AppendOwnNone
namespace Go.Proofs.YtcjpbomdnjmfkaaDoor
open Go.RowKit

def RefSetOk (w : World) (ps : List (Int × Int)) (e : Ending) (w' : World) : Prop :=
  ∃ A' cap', e = .returned (.tuple #[.slice A' ps.length cap', .int .i64 0]) ∧ PR w' A' ps ∧ Below w.heap.size w w'
def CloneOk (w : World) (n : Nat) (ps : List (Int × Int)) (e : Ending) (w' : World) : Prop :=
  ∃ A' cap', e = .returned (.slice A' n cap') ∧ PR w' A' ps ∧ Below w.heap.size w w'

theorem refset_no (A : Option Addr) (n cap : Nat) (ps : List (Int × Int)) (x y : Int) (w : World) (hn : ps.length = n) (hm : n ≤ 9223372036854775807) (hP : PR w A ps) (h : vld ps = false ∨ isC x = false ∨ isC y = false) :
    Calls Tryd.prog 23 #[.slice A n cap, .int .i64 x, .int .i64 y] w fun e w' => e = .returned (.tuple #[.slice none 0 0, .int .i64 1]) ∧ Below w.heap.size w w' := by
  have HP := Lib.hid hP
  have Hn := Lib.hid hn
  have H := Lib.hid h
  clear hP hn h
  go_enter Tryd.func23, Tryd.ntmps23
  go_wp2_with fail
  refine (refvalid_any A n cap ps _ Hn.out hm HP.out).mono ?_
  rintro e w1 ⟨rfl, hb1⟩
  rcases Bool.eq_false_or_eq_true (vld ps) with hv | hv
  · go_wp2_with fail
    refine (is_any _ _).mono ?_
    rintro e w2 ⟨rfl, rfl⟩
    rcases Bool.eq_false_or_eq_true (isC x) with hc | hc
    · go_wp2_with fail
      refine (is_any _ _).mono ?_
      rintro e w2 ⟨rfl, rfl⟩
      have hd : isC y = false := by
        rcases H.out with h | h | h
        · rw [hv] at h; cases h
        · rw [hc] at h; cases h
        · exact h
      go_wp2_with fail
      go_ret2
      exact ⟨rfl, hb1⟩
    · go_wp2_with fail
      go_ret2
      exact ⟨rfl, hb1⟩
  · go_wp2_with fail
    go_ret2
    exact ⟨rfl, hb1⟩

set_option maxHeartbeats 2000000 in
theorem refset_yes (A : Option Addr) (n cap : Nat) (ps : List (Int × Int)) (x y : Int) (w : World) (hn : ps.length = n) (hm : n ≤ 9223372036854775807) (hP : PR w A ps) (hv : vld ps = true) (hx : isC x = true) (hy : isC y = true) :
    Calls Tryd.prog 23 #[.slice A n cap, .int .i64 x, .int .i64 y] w (RefSetOk w (setP ps x y)) := by
  have HP := Lib.hid hP
  have Hn := Lib.hid hn
  have V := vld_iff.1 hv
  obtain ⟨qs, Hq⟩ : ∃ qs, Hid (setP ps x y = qs) := ⟨_, rfl⟩
  have VQ : VT qs := by rw [← Hq.out]; exact setP_valid V hx hy
  obtain ⟨f, Hf⟩ : ∃ f, Hid (look qs = f) := ⟨_, rfl⟩
  have HFX : Hid (f x = y) := by show _ = _; rw [← Hf.out, ← Hq.out, look_setP V hx hy, if_pos rfl]
  have HFN : Hid (∀ c, isC c = true → ¬ c = x → conv ps c = f c) := by
    intro c hc hcx
    rw [← Hf.out, ← Hq.out, look_setP V hx hy, if_neg hcx, conv_ok hv hc]
  have HE : Hid (listF f 256 = qs) := by show _ = _; rw [← Hf.out]; exact listF_all VQ
  have HGE : Hid ((vld ps = true) ∧ VT qs) := ⟨hv, VQ⟩
  have Hx := Lib.hid hx
  have Hy := Lib.hid hy
  obtain ⟨i0, hi, hz0, hz1, hz2⟩ := info_parts (show (Tryd.prog.info? 30).map (fun i => (i.zero, i.size, i.bytes)) = some (some (.agg #[.int .i64 0, .int .i64 0]), 2, 16) by kernel_rfl)
  clear hP hn V VQ hv hx hy
  rw [Hq.out]
  go_enter Tryd.func23, Tryd.ntmps23
  go_wp2_with fail
  refine (refvalid_any A n cap ps _ Hn.out hm HP.out).mono ?_
  rintro e w1 ⟨rfl, hb1⟩
  rw [HGE.out.1]
  go_wp2_with fail
  refine (isr Hx.out _).mono ?_
  rintro e w2 ⟨rfl, rfl⟩
  go_wp2_with fail
  refine (isr Hy.out _).mono ?_
  rintro e w2 ⟨rfl, rfl⟩
  go_wp2_with fail
  go_loopw [8, 9] (fun out c wr => ∃ k : Nat, k ≤ 256 ∧ c = .int .i64 k ∧ Hid (wr.ownsRow w.heap.size 30 2 out (listF f k).length (flat (listF f k))) ∧ Below w.heap.size w wr) (fun _ c _ => 256 - (intOf c).toNat)
  case atStart => exact ⟨0, by omega, rfl, World.ownsRow_nil _ _ _ _, hb1⟩
  case round =>
    obtain ⟨k, hk, rfl, hR, hb⟩ := hrel
    by_cases hlt : k < 256
    · have hck : isC (k : Int) = true := isC_yes (by omega) (by omega)
      have hle : (k : Int) ≤ 255 := by omega
      have Hck := Lib.hid hck
      clear hck
      go_wp2_with fail
      refine (refconvert_any A n cap ps k _ Hn.out hm (HP.out.below hb)).mono ?_
      rintro e w3 ⟨rfl, hb2⟩
      have hb3 : Below w.heap.size w w3 := hb.trans (hb2.mono hb.size)
      have HR := Lib.hid (row_below hR.out hb2)
      clear hb2 hR hb
      have hlen := listF_len f k
      obtain ⟨m, Hm⟩ : ∃ m, Hid ((listF f k).length = m) := ⟨_, rfl⟩
      rw [Hm.out] at hlen HR
      obtain ⟨v, Hv⟩ : ∃ v, Hid (f k = v) := ⟨_, rfl⟩
      have Hno : v = k → (listF f (k + 1)).length = m ∧ flat (listF f (k + 1)) = flat (listF f k) := fun h => by rw [listF_no (by rw [Hv.out]; exact h)]; exact ⟨Hm.out, rfl⟩
      have Hyes : ¬ v = k → (listF f (k + 1)).length = m + 1 ∧ flat (listF f (k + 1)) = flat (listF f k) ++ [.int .i64 k, .int .i64 v] := fun h => by
        rw [listF_yes (by rw [Hv.out]; exact h), Hv.out, flat_app, List.length_append, Hm.out]
        exact ⟨rfl, rfl⟩
      have HNo := Lib.hid Hno
      have HYes := Lib.hid Hyes
      clear Hno Hyes
      have hbase := (hb3.alloc hb3.size (.cells #[.int .i64 (k : Int), .int .i64 v] 30)).size
      by_cases hvk : v = (k : Int)
      · have HW := Lib.hid (HNo.out hvk)
        clear HNo HYes
        by_cases hkx : (k : Int) = x
        case' pos => (have hxv : y = v := (by rw [← HFX.out, ← hkx]; exact Hv.out); subst hxv; subst hkx; subst hvk)
        case' neg => (rw [HFN.out k Hck.out hkx, Hv.out])
        all_goals
          go_wp2
          go_roundw
          all_goals first
          | exact ⟨k + 1, by omega, by go_num, (by show World.ownsRow _ _ _ _ _ _ _; rw [HW.out.1, HW.out.2]; exact HR.out), hb3⟩
          | (simp [intOf]; omega)
      · have HW := Lib.hid (HYes.out hvk)
        clear HNo HYes
        by_cases hkx : (k : Int) = x
        case' pos => (have hxv : y = v := (by rw [← HFX.out, ← hkx]; exact Hv.out); subst hxv; subst hkx)
        case' neg => (rw [HFN.out k Hck.out hkx, Hv.out])
        all_goals
          go_wp2_with first
            | (refine wpList_append_own _ rfl (.tmp 38) (.tmp 42) 31 rfl w.heap.size 30 i0 _ 2 16 Tryd.underlying31 hi hz0 hz1 hz2 rfl (by omega) _ m (flat (listF f k)) rfl (HR.out.alloc _) ⟨w3.heap.size, 0, none⟩ 1 1 [.int .i64 (k : Int), .int .i64 v] rfl rfl (pair_new _ _ _) (pair_one _ _) (by unfold maxLen; omega) (by omega) hbase ?_; intro v' w' ho hg _)
            | (refine wpList_append_own _ rfl (.tmp 38) (.tmp 42) 31 rfl w.heap.size 30 i0 _ 2 16 Tryd.underlying31 hi hz0 hz1 hz2 rfl (by omega) _ m (flat (listF f k)) rfl (HR.out.alloc _) ⟨w3.heap.size, 0, none⟩ 1 1 [.int .i64 (k : Int), .int .i64 y] rfl rfl (pair_new _ _ _) (pair_one _ _) (by unfold maxLen; omega) (by omega) hbase ?_; intro v' w' ho hg _)
          go_roundw
          all_goals first
          | exact ⟨k + 1, by omega, by go_num, (by show World.ownsRow _ _ _ _ _ _ _; rw [HW.out.1, HW.out.2]; exact ho), (hb3.alloc hb3.size _).grown hg hbase (fun k' hk' => (HR.out.lt k' hk').1)⟩
          | (simp [intOf]; omega)
    · obtain rfl : k = 256 := by omega
      go_wp2_with fail
      rw [HE.out] at hR
      obtain ⟨A', cap', rfl, hPR⟩ := pr_of_row hR.out rfl rfl
      go_ret2
      exact ⟨A', cap', rfl, hPR, hb⟩

theorem clone_any (A : Option Addr) (n cap : Nat) (ps : List (Int × Int)) (w : World) (hn : ps.length = n) (hm : n ≤ 1000) (hP : PR w A ps) (hz : A = none → n = 0 ∧ cap = 0) :
    Calls Tryd.prog 21 #[.slice A n cap] w (CloneOk w n ps) := by
  have HP := Lib.hid hP
  have Hn := Lib.hid hn
  clear hP hn
  obtain ⟨i0, hi, hz0, hz1, hz2⟩ := info_parts (show (Tryd.prog.info? 30).map (fun i => (i.zero, i.size, i.bytes)) = some (some (.agg #[.int .i64 0, .int .i64 0]), 2, 16) by kernel_rfl)
  have HR : Hid ((w.alloc (.cells #[] 30)).ownsRow w.heap.size 30 2 (.slice (some ⟨w.heap.size, 0, none⟩) 0 0) 0 []) := World.ownsRow_made w #[] 0 (Nat.le_refl _) (Nat.zero_le _) rfl
  have hb0 : Below w.heap.size w (w.alloc (.cells #[] 30)) := (Below.refl _ _).alloc (Nat.le_refl _) _
  have HB0 := Lib.hid hb0
  have hs := hb0.size
  clear hb0
  cases A with
  | none =>
    obtain ⟨rfl, rfl⟩ := hz rfl
    go_enter Tryd.func21, Tryd.ntmps21
    go_wp2_with (refine wpList_append_own_none rfl (.tmp 3) (.tmp 4) 31 rfl w.heap.size 30 i0 2 Tryd.underlying31 hi _ 0 [] rfl HR.out rfl ?_)
    go_ret
    exact ⟨some ⟨w.heap.size, 0, none⟩, 0, rfl, fun i p hp => by have := (List.getElem?_eq_some_iff.1 hp).1; have := Hn.out; omega, HB0.out⟩
  | some ad =>
    clear hz
    have HF : Hid ((flat ps).length = n * 2) := by show _ = _; rw [flat_len, Hn.out]
    have HQ : Hid (∀ (j : Nat) (u : Value), (flat ps)[j]? = some u → (w.alloc (.cells #[] 30)).cell? (ad.add j) = some u) := by
      intro j u hj
      by_cases h0 : 0 < ps.length
      · obtain ⟨ad', e, h⟩ := HP.out.flat h0
        cases e
        exact cell_later HB0.out (h j u hj)
      · have := (List.getElem?_eq_some_iff.1 hj).1
        rw [flat_len] at this
        omega
    go_enter Tryd.func21, Tryd.ntmps21
    go_wp2_with (refine wpList_append_own _ rfl (.tmp 3) (.tmp 4) 31 rfl w.heap.size 30 i0 _ 2 16 Tryd.underlying31 hi hz0 hz1 hz2 rfl (by omega) _ 0 [] rfl HR.out ad n cap (flat ps) rfl HF.out HQ.out (flat_one _) (by unfold maxLen; omega) (by omega) hs ?_; intro v' w' ho hg _)
    rw [Nat.zero_add, List.nil_append] at ho
    obtain ⟨A', cap', rfl, hPR⟩ := pr_of_row ho rfl Hn.out
    go_ret
    exact ⟨A', cap', rfl, hPR, HB0.out.grown hg hs (fun k hk => by cases hk; exact Nat.le_refl _)⟩

end Go.Proofs.YtcjpbomdnjmfkaaDoor
