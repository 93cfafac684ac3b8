/- The contract of chars.Set. -/
import Derived.Test.YtcjpbomdnjmfkaaDoorA7
import Derived.Laws.MakeOwn
namespace Go.Proofs.YtcjpbomdnjmfkaaDoor
open Go.RowKit

theorem flat_split (ps : List (Int × Int)) : ∀ (j : Nat) (v : Value), (flat ps)[j]? = some v → ∃ p, ps[j / 2]? = some p ∧ ((j % 2 = 0 ∧ v = .int .i64 p.1) ∨ (j % 2 = 1 ∧ v = .int .i64 p.2)) := by
  intro j v h
  have hl : j < (flat ps).length := (List.getElem?_eq_some_iff.1 h).1
  rw [flat_len] at hl
  obtain ⟨p, hp⟩ : ∃ p, ps[j / 2]? = some p := ⟨_, List.getElem?_eq_getElem (by omega)⟩
  obtain ⟨h1, h2⟩ := flat_get ps _ p hp
  refine ⟨p, hp, ?_⟩
  rcases (show j % 2 = 0 ∨ j % 2 = 1 by omega) with e | e
  · rw [show j / 2 * 2 = j by omega, h] at h1; exact .inl ⟨e, Option.some.inj h1⟩
  · rw [show j / 2 * 2 + 1 = j by omega, h] at h2; exact .inr ⟨e, Option.some.inj h2⟩

theorem PR.flat {w : World} {A : Option Addr} {ps : List (Int × Int)} (h : PR w A ps) (hn : 0 < ps.length) : ∃ ad, A = some ad ∧ ∀ (j : Nat) (v : Value), (flat ps)[j]? = some v → w.cell? (ad.add j) = some v := by
  obtain ⟨p0, hp0⟩ : ∃ p, ps[0]? = some p := ⟨_, List.getElem?_eq_getElem hn⟩
  obtain ⟨b, o, rfl, _, _⟩ := h 0 p0 hp0
  refine ⟨_, rfl, fun j v hv => ?_⟩
  obtain ⟨p, hp, hc⟩ := flat_split ps j v hv
  obtain ⟨b', o', e, h1, h2⟩ := h _ p hp
  cases e
  rw [HG.add_at]
  rcases hc with ⟨e, rfl⟩ | ⟨e, rfl⟩
  · rw [show o + j = o + j / 2 * 2 by omega]; exact h1
  · rw [show o + j = o + j / 2 * 2 + 1 by omega]; exact h2

theorem Owns.lt {w : World} {g cap : Nat} {ps : List (Int × Int)} (h : Owns w g cap ps) : g < w.heap.size := by
  obtain ⟨cur, h⟩ := h
  rcases Nat.lt_or_ge g w.heap.size with h' | h'
  · exact h'
  · have := h.heap; rw [Array.getElem?_eq_none h'] at this; cases this
theorem Owns.below {w w' : World} {g cap : Nat} {ps : List (Int × Int)} (h : Owns w g cap ps) (hb : Below w.heap.size w w') : Owns w' g cap ps := by
  have hl := h.lt
  obtain ⟨cur, h⟩ := h
  exact ⟨cur, (hb.block g hl).trans h.heap, h.len, h.le, h.take⟩
theorem Owns.alloc {w : World} {g cap : Nat} {ps : List (Int × Int)} (h : Owns w g cap ps) (o : Obj) : Owns (w.alloc o) g cap ps := h.below ((Below.refl _ _).alloc (Nat.le_refl _) o)
theorem Owns.le {w : World} {g cap : Nat} {ps : List (Int × Int)} (h : Owns w g cap ps) : ps.length ≤ cap := by obtain ⟨cur, h⟩ := h; exact h.le

theorem ret_sn {A : Option Addr} {a b c : Nat} {v : Value} (h : a = b) : Ending.returned (.tuple #[.slice A a c, v]) = .returned (.tuple #[.slice A b c, v]) := by rw [h]
theorem insert_any (g gv at_ n cap : Nat) (ps : List (Int × Int)) (p : Int × Int) (w : World) (B : Nat) (hB : B ≤ g) (hn : ps.length = n) (ha : at_ ≤ n) (hc : n < cap) (hm : cap ≤ 4611686018427387903) (hO : Owns w g cap ps)
    (hv : w.heap[gv]? = some (.cells #[.int .i64 p.1, .int .i64 p.2] 30 (0, 0))) (hgv : gv ≠ g) :
    Calls Tryd.prog 33 #[.slice (some ⟨g, 0, none⟩) n cap, .int .i64 at_, .slice (some ⟨gv, 0, none⟩) 1 1] w fun e w' => e = .returned (.slice (some ⟨g, 0, none⟩) (n + 1) cap) ∧ Below B w w' ∧ Owns w' g cap (ins ps at_ p) := by
  by_cases h : at_ = n
  · subst h; exact insert_end g gv at_ cap ps p w B hB hn hc hm hO hv
  · exact insert_mid g gv at_ n cap ps p w B hB hn (by omega) hc hm hO hv hgv

/-- The table that Set makes. -/
def del (ps : List (Int × Int)) (at_ : Nat) : List (Int × Int) := ps.take at_ ++ ps.drop (at_ + 1)
def without (ps : List (Int × Int)) (x : Int) : List (Int × Int) := if fnd ps x then del ps (lb ps x) else ps
def setP (ps : List (Int × Int)) (x y : Int) : List (Int × Int) := if x = y then without ps x else ins (without ps x) (lb ps x) (x, y)
def SetOk (w : World) (n : Nat) (ps : List (Int × Int)) (x y : Int) (e : Ending) (w' : World) : Prop :=
  ∃ g, e = .returned (.tuple #[.slice (some ⟨g, 0, none⟩) (setP ps x y).length (n + 1), .int .i64 0]) ∧ w.heap.size ≤ g ∧ Owns w' g (n + 1) (setP ps x y) ∧ Below w.heap.size w w'

theorem set_no (A : Option Addr) (n cap : Nat) (ps : List (Int × Int)) (x y : Int) (w : World) (hn : ps.length = n) (hm : n ≤ 4611686018427387903) (hP : PR w A ps) (h : vld ps = false ∨ isC x = false ∨ isC y = false) :
    Calls Tryd.prog 15 #[.slice A n cap, .int .i64 x, .int .i64 y] w fun e w' => e = .returned (.tuple #[.slice none 0 0, .int .i64 1]) ∧ Below w.heap.size w w' := by
  have HP := Lib.hid hP
  have Hn := Lib.hid hn
  have H := Lib.hid h
  clear hP hn h
  go_enter Tryd.func15, Tryd.ntmps15
  go_wp2_with fail
  refine (valid_any A n cap ps _ Hn.out (by omega) HP.out).mono ?_
  rintro e w1 ⟨rfl, hb1⟩
  rcases Bool.eq_false_or_eq_true (vld ps) with hv | hv
  · go_wp2_with fail
    refine (isChar_any _ _).mono ?_
    rintro e w2 ⟨rfl, rfl⟩
    rcases Bool.eq_false_or_eq_true (isC x) with hc | hc
    · go_wp2_with fail
      refine (isChar_any _ _).mono ?_
      rintro e w2 ⟨rfl, rfl⟩
      have hd : isC y = false := by
        rcases H.out with h | h | h
        · rw [hv] at h; cases h
        · rw [hc] at h; cases h
        · exact h
      go_wp2_with fail
      go_ret2
      exact ⟨rfl, hb1⟩
    · go_wp2_with fail
      go_ret2
      exact ⟨rfl, hb1⟩
  · go_wp2_with fail
    go_ret2
    exact ⟨rfl, hb1⟩

set_option maxHeartbeats 1000000 in
theorem set_yes (A : Option Addr) (n cap : Nat) (ps : List (Int × Int)) (x y : Int) (w : World) (hn : ps.length = n) (hm : n ≤ 1000000) (hP : PR w A ps) (hv : vld ps = true) (hx : isC x = true) (hy : isC y = true) :
    Calls Tryd.prog 15 #[.slice A n cap, .int .i64 x, .int .i64 y] w (SetOk w n ps x y) := by
  have HP := Lib.hid hP
  have Hn := Lib.hid hn
  have HGt : Hid (GT ps n) := by have := GT.of_vld hv; rw [hn] at this; exact this
  clear hP hn
  obtain ⟨i0, hi, hz0, hz1, hz2⟩ := info_parts (show (Tryd.prog.info? 30).map (fun i => (i.zero, i.size, i.bytes)) = some (some (.agg #[.int .i64 0, .int .i64 0]), 2, 16) by kernel_rfl)
  obtain ⟨zrow, hzl, hmk⟩ : ∃ zrow : List Value, zrow.length = (n + 1) * 2 ∧ ∀ w : World, (Instr.makeSlice 31 (.int .i64 (n : Int)) (.int .i64 ((n : Int) + 1))).run Tryd.prog w = .ok (.slice (some ⟨w.heap.size, 0, none⟩) n (n + 1)) (w.alloc (.cells zrow.toArray 30)) := by
    refine ⟨(madeCells (Value.agg #[.int .i64 0, .int .i64 0]).cells ((n + 1) * 2)).toList, by rw [Array.length_toList, size_madeCells], fun w => ?_⟩
    have := run_makeSlice (P := Tryd.prog) w 31 30 i0 _ Tryd.underlying31 hi hz0 .i64 .i64 (n : Int) ((n : Int) + 1) (by omega) (by omega) (by rw [hz1]; omega) (by rw [hz2]; omega) (by omega)
    rw [this, hz1]
    simp only [Int.toNat_natCast, Array.toArray_toList]
    rw [show ((n : Int) + 1).toNat = n + 1 by omega]
  have Hz := Lib.hid hzl
  clear hzl
  go_enter Tryd.func15, Tryd.ntmps15
  go_wp2_with fail
  refine (valid_any A n cap ps _ Hn.out (by omega) HP.out).mono ?_
  rintro e w1 ⟨rfl, hb1⟩
  go_wp2_with fail
  refine (isChar_any _ _).mono ?_
  rintro e w2 ⟨rfl, rfl⟩
  go_wp2_with fail
  refine (isChar_any _ _).mono ?_
  rintro e w2 ⟨rfl, rfl⟩
  have HW := Lib.hid (heap_alloc_new w1 (.cells zrow.toArray 30))
  have HS : Hid ((flat ps).length = Nat.min n n * 2) := by
    show _ = _
    rw [flat_len, Hn.out, show Nat.min n n = n from Nat.min_self n]
  have HQ : Hid (0 < Nat.min n n → ∃ ad, A = some ad ∧ ∀ (j : Nat) (v : Value), (flat ps)[j]? = some v → (w1.alloc (.cells zrow.toArray 30)).cell? (ad.add j) = some v) := by
    intro h
    rw [show Nat.min n n = n from Nat.min_self n] at h
    obtain ⟨ad, e, hc⟩ := (HP.out.below hb1).flat (by rw [Hn.out]; exact h)
    exact ⟨ad, e, fun j v hj => cell_later ((Below.refl _ _).alloc (Nat.le_refl _) _) (hc j v hj)⟩
  have HF : Hid (0 + (flat ps).length ≤ zrow.length) := by
    show _ ≤ _
    rw [flat_len, Hn.out, Hz.out]; omega
  go_wp2_with (refine HG.wpList_copy_k rfl (.tmp 29) (.tmp 30) 31 31 rfl 30 2 Tryd.underlying31 (by kernel_rfl) (some ⟨w1.heap.size, 0, none⟩) A n (n + 1) n cap rfl rfl w1.heap.size 0 zrow 30 HW.out (flat ps) HS.out (fun h => ⟨rfl, HQ.out h⟩) HF.out (flat_one _) w.heap.size w (hb1.alloc hb1.size _) hb1.size ?_; intro w3 hg3 ho3 hb3)
  have hO3 : Owns w3 w1.heap.size (n + 1) ps := by
    refine ⟨_, hg3.out, ?_, by rw [Hn.out]; omega, ?_⟩
    · rw [length_splice _ _ _ HF.out, Hz.out]
    · rw [splice_take2 _ _ _ _ (by omega) (by rw [flat_len]; omega)]; rfl
  have HO3 := Lib.hid hO3
  clear hg3 ho3 hO3 HW HS HQ HF
  refine (find_any _ n (n + 1) ps x w3 Hn.out (by omega) HO3.out.pr HGt.out).mono ?_
  rintro e w4 ⟨rfl, hb4⟩
  have hb5 : Below w.heap.size w w4 := hb3.trans (hb4.mono hb3.size)
  have HO4 := Lib.hid (HO3.out.below hb4)
  have hgB : w.heap.size ≤ w1.heap.size := hb1.size
  obtain ⟨g, Hg⟩ : ∃ g, Hid (w1.heap.size = g) := ⟨_, rfl⟩
  rw [Hg.out] at hgB HO4 ⊢
  clear hb4 HO3 hb3 hmk hb1 Hg
  have hle : lb ps x ≤ n := by have := lb_le ps x; have := Hn.out; omega
  obtain ⟨a, Ha⟩ : ∃ a, Hid (lb ps x = a) := ⟨_, rfl⟩
  rw [Ha.out] at hle ⊢
  rcases Bool.eq_false_or_eq_true (fnd ps x) with hf | hf
  · have hlt : a < n := by
      obtain ⟨p, hp, _⟩ := look_yes hf
      have := (List.getElem?_eq_some_iff.1 hp).1
      have := Hn.out
      rw [Ha.out] at *
      omega
    have Hw : Hid (without ps x = del ps a) := by show _ = _; rw [without, if_pos hf, Ha.out]
    rw [hf]
    clear hf
    go_wp2_with fail
    refine (delete_any g a n (n + 1) ps w4 w.heap.size hgB Hn.out hlt (by omega) (by omega) HO4.out).mono ?_
    rintro e w5 ⟨rfl, hb6, hO5⟩
    have hb7 : Below w.heap.size w w5 := hb5.trans hb6
    have Hn1 : Hid ((del ps a).length = n - 1) := by show _ = _; rw [del, List.length_append, List.length_take, List.length_drop, Hn.out]; omega
    have HO5 := Lib.hid hO5
    clear hO5 hb6 hb5 HO4
    by_cases hxy : x = y
    · obtain rfl := hxy
      have Hs : Hid (setP ps x x = del ps a) := by show _ = _; rw [setP, if_pos rfl, Hw.out]
      have HE : Hid ((setP ps x x).length = n - 1) := by show _ = _; rw [Hs.out, Hn1.out]
      have HO7 : Hid (Owns w5 g (n + 1) (setP ps x x)) := by show Owns _ _ _ _; rw [Hs.out]; exact HO5.out
      go_wp2_with fail
      go_ret2
      exact ⟨g, ret_sn HE.out.symm, hgB, HO7.out, hb7⟩
    · have hlt5 := HO5.out.lt
      have HV := Lib.hid (heap_alloc_new w5 (.cells #[.int .i64 x, .int .i64 y] 30))
      have HO6 := Lib.hid (HO5.out.alloc (.cells #[.int .i64 x, .int .i64 y] 30))
      have Hs : Hid (setP ps x y = ins (del ps a) a (x, y)) := by show _ = _; rw [setP, if_neg hxy, Hw.out, Ha.out]
      have HE : Hid ((setP ps x y).length = n - 1 + 1) := by show _ = _; rw [Hs.out, ins_len _ _ _ (by rw [Hn1.out]; omega), Hn1.out]
      go_wp2_with fail
      refine (insert_any g w5.heap.size a (n - 1) (n + 1) (del ps a) (x, y) _ w.heap.size hgB Hn1.out (by omega) (by omega) (by omega) HO6.out HV.out (by omega)).mono ?_
      rintro e w6 ⟨rfl, hb8, hO7⟩
      have hb9 : Below w.heap.size w w6 := (hb7.alloc hb7.size _).trans hb8
      have HO7 : Hid (Owns w6 g (n + 1) (setP ps x y)) := by show Owns _ _ _ _; rw [Hs.out]; exact hO7
      clear hO7 hb8
      go_wp2_with fail
      go_ret2
      exact ⟨g, ret_sn HE.out.symm, hgB, HO7.out, hb9⟩
  · have Hw : Hid (without ps x = ps) := by show _ = _; rw [without, if_neg (by rw [hf]; decide)]
    rw [hf]
    clear hf
    by_cases hxy : x = y
    · obtain rfl := hxy
      have Hs : Hid (setP ps x x = ps) := by show _ = _; rw [setP, if_pos rfl, Hw.out]
      have HE : Hid ((setP ps x x).length = n) := by show _ = _; rw [Hs.out, Hn.out]
      have HO7 : Hid (Owns w4 g (n + 1) (setP ps x x)) := by show Owns _ _ _ _; rw [Hs.out]; exact HO4.out
      go_wp2_with fail
      go_ret2
      exact ⟨g, ret_sn HE.out.symm, hgB, HO7.out, hb5⟩
    · have hlt5 := HO4.out.lt
      have HV := Lib.hid (heap_alloc_new w4 (.cells #[.int .i64 x, .int .i64 y] 30))
      have HO6 := Lib.hid (HO4.out.alloc (.cells #[.int .i64 x, .int .i64 y] 30))
      have Hs : Hid (setP ps x y = ins ps a (x, y)) := by show _ = _; rw [setP, if_neg hxy, Hw.out, Ha.out]
      have HE : Hid ((setP ps x y).length = n + 1) := by show _ = _; rw [Hs.out, ins_len _ _ _ (by rw [Hn.out]; omega), Hn.out]
      go_wp2_with fail
      refine (insert_any g w4.heap.size a n (n + 1) ps (x, y) _ w.heap.size hgB Hn.out hle (by omega) (by omega) HO6.out HV.out (by omega)).mono ?_
      rintro e w6 ⟨rfl, hb8, hO7⟩
      have hb9 : Below w.heap.size w w6 := (hb5.alloc hb5.size _).trans hb8
      have HO7 : Hid (Owns w6 g (n + 1) (setP ps x y)) := by show Owns _ _ _ _; rw [Hs.out]; exact hO7
      clear hO7 hb8
      go_wp2_with fail
      go_ret2
      exact ⟨g, ret_sn HE.out.symm, hgB, HO7.out, hb9⟩

end Go.Proofs.YtcjpbomdnjmfkaaDoor
