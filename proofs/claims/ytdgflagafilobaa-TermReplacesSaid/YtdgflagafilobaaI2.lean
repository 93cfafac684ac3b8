/- The program's identical, Same. -/
import Derived.Test.YtdgflagafilobaaI1
namespace Go.Proofs.Ytdgflagafilobaa
open Go.RowKit Go.Proofs.HT

theorem ne_list {s s' : ByteArray} (c2 : ¬ s = s') : ¬ s.toList = s'.toList := fun h => c2 (ByteArray.ext (by rw [ByteArray.toList_eq, ByteArray.toList_eq] at h; exact Array.toList_inj.1 h))

set_option maxHeartbeats 2000000 in
theorem identP_any (t : Tm) : ∀ (u : Tm) (v x : Value) (w : World), LiesT w t v → LiesT w u x →
    Calls Try.prog 37 #[tv t v, tv u x] w fun e w' => e = .returned (.bool (sameB t u)) ∧ Below w.heap.size w w' := by
  induction t using Tm.ind with
  | h k n s ts ih =>
    intro u v x w hv hx
    cases u with
    | mk k' n' s' us =>
    have HI : Hid (∀ (i : Nat) (hi : i < ts.length) (u : Tm) (v x : Value) (w : World), LiesT w ts[i] v → LiesT w u x → Calls Try.prog 37 #[tv ts[i] v, tv u x] w fun e w' => e = .returned (.bool (sameB ts[i] u)) ∧ Below w.heap.size w w') := fun i hi => ih _ (List.getElem_mem hi)
    have hs : sameB (.mk k n s ts) (.mk k' n' s' us) = (decide (k = k' ∧ n = n' ∧ s = s') && eqL ts us) := by
      rw [sameB_mk, eqL, Bool.eq_iff_iff]
      simp only [Bool.and_eq_true, decide_eq_true_eq]
      constructor
      · rintro ⟨⟨a, b, c, d⟩, e⟩; exact ⟨⟨a, b, c⟩, d, e⟩
      · rintro ⟨⟨a, b, c⟩, d, e⟩; exact ⟨⟨a, b, c, d⟩, e⟩
    have fr : Hid (∀ o p, Below w.heap.size w ((w.alloc o).alloc p)) := fun o p => ((Below.refl _ _).alloc (Nat.le_refl _) _).alloc (by simp) _
    have HV := Lib.hid hv
    have HX := Lib.hid hx
    by_cases c0 : k = k'
    · subst c0
      by_cases c1 : n = n'
      · subst c1
        by_cases c2 : s = s'
        · subst c2
          have H : Hid (eqL ts us = sameB (.mk k n s ts) (.mk k n s us)) := by show _ = _; rw [hs]; simp
          have hss : (s.toList == s.toList) = true := by simp
          clear hs ih hv hx
          simp only [tv, Tm.kind, Tm.num, Tm.name]
          go_enter Try.func37, Try.ntmps37
          go_wp2_with (go_at_call 68; refine (eqf_any ts us v x k n k n s s _ (HV.out.below (fr.out _ _)) (HX.out.below (fr.out _ _)) HI).mono ?_; rintro e w3 ⟨rfl, hb3⟩; have KB := Lib.hid ((fr.out _ _).trans (hb3.mono (fr.out _ _).size)); clear hb3)
          go_ret
          exact ⟨ret_bool H.out, KB.out⟩
        · have H : Hid (false = sameB (.mk k n s ts) (.mk k n s' us)) := by show _ = _; rw [hs]; simp [c2]
          have e2 := ne_list c2
          clear hs ih hv hx
          simp only [tv, Tm.kind, Tm.num, Tm.name]
          go_enter Try.func37, Try.ntmps37
          go_wp2_with fail
          go_ret
          exact ⟨ret_bool H.out, fr.out _ _⟩
      · have H : Hid (false = sameB (.mk k n s ts) (.mk k n' s' us)) := by show _ = _; rw [hs]; simp [c1]
        have e2 : (n == n') = false := by simpa using c1
        clear hs ih hv hx
        simp only [tv, Tm.kind, Tm.num, Tm.name]
        go_enter Try.func37, Try.ntmps37
        go_wp2_with fail
        go_ret
        exact ⟨ret_bool H.out, fr.out _ _⟩
    · have H : Hid (false = sameB (.mk k n s ts) (.mk k' n' s' us)) := by show _ = _; rw [hs]; simp [c0]
      have e2 : (k == k') = false := by simpa using c0
      clear hs ih hv hx
      simp only [tv, Tm.kind, Tm.num, Tm.name]
      go_enter Try.func37, Try.ntmps37
      go_wp2_with fail
      go_ret
      exact ⟨ret_bool H.out, fr.out _ _⟩

end Go.Proofs.Ytdgflagafilobaa
