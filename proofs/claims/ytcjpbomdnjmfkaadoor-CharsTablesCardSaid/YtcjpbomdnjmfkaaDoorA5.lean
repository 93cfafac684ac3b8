/- The contract of chars.Convert. -/
import Derived.Test.YtcjpbomdnjmfkaaDoorA4
namespace Go.Proofs.YtcjpbomdnjmfkaaDoor
open Go.RowKit

def look (ps : List (Int × Int)) (c : Int) : Int := match ps[lb ps c]? with | some p => if p.1 = c then p.2 else c | none => c
noncomputable def conv (ps : List (Int × Int)) (c : Int) : Int := if vld ps && isC c then look ps c else 0
theorem conv_bad {ps : List (Int × Int)} {c : Int} (h : vld ps = false) : conv ps c = 0 := by simp [conv, h]
theorem conv_no {ps : List (Int × Int)} {c : Int} (h : isC c = false) : conv ps c = 0 := by simp [conv, h]
theorem conv_ok {ps : List (Int × Int)} {c : Int} (h : vld ps = true) (g : isC c = true) : conv ps c = look ps c := by simp [conv, h, g]
theorem look_not {ps : List (Int × Int)} {c : Int} (h : fnd ps c = false) : look ps c = c := by
  unfold fnd at h; unfold look
  split at h
  · rename_i p hp; rw [hp]; simp only; rw [if_neg]; simpa using h
  · rename_i hp; rw [hp]
theorem look_yes {ps : List (Int × Int)} {c : Int} (h : fnd ps c = true) : ∃ p, ps[lb ps c]? = some p ∧ p.1 = c ∧ look ps c = p.2 := by
  unfold fnd at h
  split at h
  · rename_i p hp; exact ⟨p, hp, by simpa using h, by unfold look; rw [hp]; simp only; rw [if_pos]; simpa using h⟩
  · cases h

set_option maxHeartbeats 400000 in
theorem convert_any (A : Option Addr) (n cap : Nat) (ps : List (Int × Int)) (c : Int) (w : World) (hn : ps.length = n) (hm : n ≤ 4611686018427387903) (hP : PR w A ps) :
    Calls Tryd.prog 16 #[.slice A n cap, .int .i64 c] w fun e w' => e = .returned (.int .i64 (conv ps c)) ∧ Below w.heap.size w w' := by
  have HP := Lib.hid hP
  have Hn := Lib.hid hn
  clear hP hn
  go_enter Tryd.func16, Tryd.ntmps16
  go_wp2_with fail
  refine (valid_any A n cap ps _ Hn.out (by omega) HP.out).mono ?_
  rintro e w1 ⟨rfl, hb1⟩
  rcases Bool.eq_false_or_eq_true (vld ps) with hv | hv
  · go_wp2_with fail
    refine (isChar_any _ _).mono ?_
    rintro e w2 ⟨rfl, rfl⟩
    rcases Bool.eq_false_or_eq_true (isC c) with hc | hc
    · have HG : Hid (GT ps n) := by have := GT.of_vld hv; rw [Hn.out] at this; exact this
      have HC := Lib.hid (conv_ok hv hc)
      go_wp2_with fail
      refine (find_any A n cap ps c _ Hn.out hm (HP.out.below hb1) HG.out).mono ?_
      rintro e w2 ⟨rfl, hb2⟩
      have hb3 : Below w.heap.size w w2 := hb1.trans (hb2.mono hb1.size)
      have HQ := Lib.hid (HP.out.below hb3)
      rcases Bool.eq_false_or_eq_true (fnd ps c) with hf | hf
      · obtain ⟨p, hp, h1, h2⟩ := look_yes hf
        obtain ⟨b, o, rfl, hc1, hc2⟩ := HQ.out _ p hp
        have hl := (List.getElem?_eq_some_iff.1 hp).1
        have hlt : lb ps c < n := by have := Hn.out; omega
        have H2 := Lib.hid h2
        clear hp h1 h2 hl hv hc
        go_wp2_with fail
        go_ret
        exact ⟨ret_int (H2.out.symm.trans HC.out.symm), hb3⟩
      · have H2 := Lib.hid (look_not hf)
        clear hv hc
        go_wp2_with fail
        go_ret
        exact ⟨ret_int (H2.out.symm.trans HC.out.symm), hb3⟩
    · have HC := Lib.hid (conv_no (ps := ps) hc)
      go_wp2_with fail
      go_ret
      exact ⟨ret_int HC.out.symm, hb1⟩
  · have HC := Lib.hid (conv_bad (c := c) hv)
    go_wp2_with fail
    go_ret
    exact ⟨ret_int HC.out.symm, hb1⟩

end Go.Proofs.YtcjpbomdnjmfkaaDoor
