/- The contracts of ops.isValid and of the specification's one and before. -/
import Derived.Test.YtkjkhhifkedflaaDoorOE
set_option linter.unusedVariables false
set_option linter.unusedSimpArgs false
namespace Go.Proofs.YtkjkhhifkedflaaDoor
open Go.RowKit Go.Proofs.HP

def BEnd (b : Bool) (w : World) (e : Ending) (w' : World) : Prop := e = .returned (.bool b) ∧ Gw w w'
theorem str_eq (n : ByteArray) (l : List UInt8) : (n.toList == l) = decide (n = nm l) := by
  rw [Bool.eq_iff_iff, beq_iff_eq, decide_eq_true_eq, Lib.toList_data]
  exact ⟨fun h => data_inj (by rw [h]; simp [nm]), fun h => by rw [h]; simp [nm]⟩
/-- The four names that are told apart. -/
inductive N5 (n : ByteArray) : Prop
  | a (h : n = nm [91, 93]) (h1 : (n.toList == [91, 93]) = true) (h2 : (n.toList == [123, 125]) = false) (h3 : (n.toList == [44]) = false) (h4 : (n.toList == [124]) = false)
  | b (h : n = nm [123, 125]) (h1 : (n.toList == [91, 93]) = false) (h2 : (n.toList == [123, 125]) = true) (h3 : (n.toList == [44]) = false) (h4 : (n.toList == [124]) = false)
  | c (h : n = nm [44]) (h1 : (n.toList == [91, 93]) = false) (h2 : (n.toList == [123, 125]) = false) (h3 : (n.toList == [44]) = true) (h4 : (n.toList == [124]) = false)
  | d (h : n = nm [124]) (h1 : (n.toList == [91, 93]) = false) (h2 : (n.toList == [123, 125]) = false) (h3 : (n.toList == [44]) = false) (h4 : (n.toList == [124]) = true)
  | e (k1 : ¬ n = nm [91, 93]) (k2 : ¬ n = nm [123, 125]) (k3 : ¬ n = nm [44]) (k4 : ¬ n = nm [124]) (h1 : (n.toList == [91, 93]) = false) (h2 : (n.toList == [123, 125]) = false) (h3 : (n.toList == [44]) = false) (h4 : (n.toList == [124]) = false)
theorem n5 (n : ByteArray) : N5 n := by
  have e1 := str_eq n [91, 93]
  have e2 := str_eq n [123, 125]
  have e3 := str_eq n [44]
  have e4 := str_eq n [124]
  by_cases k1 : n = nm [91, 93]
  · exact .a k1 (by rw [e1, k1]; decide) (by rw [e2, k1]; decide) (by rw [e3, k1]; decide) (by rw [e4, k1]; decide)
  · by_cases k2 : n = nm [123, 125]
    · exact .b k2 (by rw [e1, k2]; decide) (by rw [e2, k2]; decide) (by rw [e3, k2]; decide) (by rw [e4, k2]; decide)
    · by_cases k3 : n = nm [44]
      · exact .c k3 (by rw [e1, k3]; decide) (by rw [e2, k3]; decide) (by rw [e3, k3]; decide) (by rw [e4, k3]; decide)
      · by_cases k4 : n = nm [124]
        · exact .d k4 (by rw [e1, k4]; decide) (by rw [e2, k4]; decide) (by rw [e3, k4]; decide) (by rw [e4, k4]; decide)
        · exact .e k1 k2 k3 k4 (by rw [e1]; simpa using k1) (by rw [e2]; simpa using k2) (by rw [e3]; simpa using k3) (by rw [e4]; simpa using k4)
set_option maxHeartbeats 4000000 in
theorem isValid_any (o : Opd) (w : World) (hL : KLaid w) :
    Calls Tryd.prog 51 #[opV o] w (BEnd (oneB o) w) := by
  obtain ⟨n, t, p⟩ := o
  have HG := Lib.hid ((Gw.refl w).alloc (.cells #[.string n, .int .i64 t, .int .i64 p] 26))
  have HK := Lib.hid (hL.below HG.out.b)
  obtain ⟨b1, hb1⟩ : ∃ b, decide (n.size ≤ 100) = b := ⟨_, rfl⟩
  have H1 : Hid (∀ w, Calls Tryd.prog 43 #[.string n] w fun e w' => e = .returned (.bool b1) ∧ w' = w) := fun w => by rw [← hb1]; exact isName_any _ _
  obtain ⟨b2, hb2⟩ : ∃ b, isT t = b := ⟨_, rfl⟩
  have H2 : Hid (∀ w, Calls Tryd.prog 40 #[.int .i64 t] w fun e w' => e = .returned (.bool b2) ∧ w' = w) := fun w => by rw [← hb2]; exact isType_any _ _
  obtain ⟨b3, hb3⟩ : ∃ b, isPr p = b := ⟨_, rfl⟩
  have H3 : Hid (∀ w, Calls Tryd.prog 41 #[.int .i64 p] w fun e w' => e = .returned (.bool b3) ∧ w' = w) := fun w => by rw [← hb3]; exact isPriority_any _ _
  have HB : Hid (oneB (n, t, p) = (b1 && b2 && (!(p == 0) && b3) && !decide (n = nm [91, 93]) && !decide (n = nm [123, 125]) && (if n = nm [44] then t == 2 && p == 1000 else if n = nm [124] then clsI t == 2 && decide (1001 ≤ p) else true))) := by
    show _ = _
    have e : (decide (1 ≤ p) && decide (p ≤ 1200)) = (!(p == 0) && isPr p) := by
      rw [Bool.eq_iff_iff]; simp [isPr]; omega
    rw [← hb1, ← hb2, ← hb3, ← e]
    simp only [oneB, oc, Bool.and_assoc]
  clear hL hb1 hb3
  cases b1
  · go_enter Tryd.func51, Tryd.ntmps51
    go_wp2_with (first | (go_at_call 43; ((with_reducible refine (H1.out _).mono ?_); rintro e w1 ⟨rfl, rfl⟩)))
    go_ret
    exact ⟨ret_bool (by rw [HB.out]; rfl), HG.out⟩
  · cases b2
    · clear hb2
      go_enter Tryd.func51, Tryd.ntmps51
      go_wp2_with (first | (go_at_call 43; ((with_reducible refine (H1.out _).mono ?_); rintro e w1 ⟨rfl, rfl⟩)) | (go_at_call 40; ((with_reducible refine (H2.out _).mono ?_); rintro e w1 ⟨rfl, rfl⟩)))
      go_ret
      exact ⟨ret_bool (by rw [HB.out]; rfl), HG.out⟩
    · have HT : Hid (∀ w, KLaid w → Calls Tryd.prog 64 #[.int .i64 t] w fun e w' => e = .returned (.int .i64 (clsI t)) ∧ w' = w) := fun w h => classOf_any t hb2 w h
      obtain ⟨c, hc⟩ : ∃ c, clsI t = c := ⟨_, rfl⟩
      rw [hc] at HT
      have HB2 : Hid (clsI t = c) := hc
      clear hb2 hc
      rcases Bool.eq_false_or_eq_true (p == 0) with hp | hp
      · have HE : Hid (oneB (n, t, p) = false) := by show _ = _; rw [HB.out, hp]; rfl
        go_enter Tryd.func51, Tryd.ntmps51
        go_wp2_with (first | (go_at_call 43; ((with_reducible refine (H1.out _).mono ?_); rintro e w1 ⟨rfl, rfl⟩)) | (go_at_call 40; ((with_reducible refine (H2.out _).mono ?_); rintro e w1 ⟨rfl, rfl⟩)))
        go_ret
        exact ⟨ret_bool HE.out.symm, HG.out⟩
      · cases b3
        · have HE : Hid (oneB (n, t, p) = false) := by show _ = _; rw [HB.out, hp]; rfl
          go_enter Tryd.func51, Tryd.ntmps51
          go_wp2_with (first | (go_at_call 43; ((with_reducible refine (H1.out _).mono ?_); rintro e w1 ⟨rfl, rfl⟩)) | (go_at_call 40; ((with_reducible refine (H2.out _).mono ?_); rintro e w1 ⟨rfl, rfl⟩)) | (go_at_call 41; ((with_reducible refine (H3.out _).mono ?_); rintro e w1 ⟨rfl, rfl⟩)))
          go_ret
          exact ⟨ret_bool HE.out.symm, HG.out⟩
        · rcases n5 n with ⟨h, h1, h2, h3, h4⟩ | ⟨h, h1, h2, h3, h4⟩ | ⟨h, h1, h2, h3, h4⟩ | ⟨h, h1, h2, h3, h4⟩ | ⟨k1, k2, k3, k4, h1, h2, h3, h4⟩
          · have HE : Hid (oneB (n, t, p) = false) := by show _ = _; rw [HB.out, h, hp]; simp
            clear h
            go_enter Tryd.func51, Tryd.ntmps51
            go_wp2_with (first | (go_at_call 43; ((with_reducible refine (H1.out _).mono ?_); rintro e w1 ⟨rfl, rfl⟩)) | (go_at_call 40; ((with_reducible refine (H2.out _).mono ?_); rintro e w1 ⟨rfl, rfl⟩)) | (go_at_call 41; ((with_reducible refine (H3.out _).mono ?_); rintro e w1 ⟨rfl, rfl⟩)) | (go_at_call 64; ((with_reducible refine (HT.out _ HK.out).mono ?_); rintro e w1 ⟨rfl, rfl⟩)))
            go_ret
            exact ⟨ret_bool HE.out.symm, HG.out⟩
          · have HE : Hid (oneB (n, t, p) = false) := by show _ = _; rw [HB.out, h, hp]; simp
            clear h
            go_enter Tryd.func51, Tryd.ntmps51
            go_wp2_with (first | (go_at_call 43; ((with_reducible refine (H1.out _).mono ?_); rintro e w1 ⟨rfl, rfl⟩)) | (go_at_call 40; ((with_reducible refine (H2.out _).mono ?_); rintro e w1 ⟨rfl, rfl⟩)) | (go_at_call 41; ((with_reducible refine (H3.out _).mono ?_); rintro e w1 ⟨rfl, rfl⟩)) | (go_at_call 64; ((with_reducible refine (HT.out _ HK.out).mono ?_); rintro e w1 ⟨rfl, rfl⟩)))
            go_ret
            exact ⟨ret_bool HE.out.symm, HG.out⟩
          · have HE0 : Hid (oneB (n, t, p) = (t == 2 && p == 1000)) := by show _ = _; rw [HB.out, if_pos h, h, hp]; rfl
            clear h
            rcases Bool.eq_false_or_eq_true (t == 2) with g1 | g1
            · have HE : Hid (oneB (n, t, p) = (p == 1000)) := by show _ = _; rw [HE0.out, g1]; rfl
              go_enter Tryd.func51, Tryd.ntmps51
              go_wp2_with (first | (go_at_call 43; ((with_reducible refine (H1.out _).mono ?_); rintro e w1 ⟨rfl, rfl⟩)) | (go_at_call 40; ((with_reducible refine (H2.out _).mono ?_); rintro e w1 ⟨rfl, rfl⟩)) | (go_at_call 41; ((with_reducible refine (H3.out _).mono ?_); rintro e w1 ⟨rfl, rfl⟩)) | (go_at_call 64; ((with_reducible refine (HT.out _ HK.out).mono ?_); rintro e w1 ⟨rfl, rfl⟩)))
              go_ret
              exact ⟨ret_bool HE.out.symm, HG.out⟩
            · have HE : Hid (oneB (n, t, p) = false) := by show _ = _; rw [HE0.out, g1]; rfl
              go_enter Tryd.func51, Tryd.ntmps51
              go_wp2_with (first | (go_at_call 43; ((with_reducible refine (H1.out _).mono ?_); rintro e w1 ⟨rfl, rfl⟩)) | (go_at_call 40; ((with_reducible refine (H2.out _).mono ?_); rintro e w1 ⟨rfl, rfl⟩)) | (go_at_call 41; ((with_reducible refine (H3.out _).mono ?_); rintro e w1 ⟨rfl, rfl⟩)) | (go_at_call 64; ((with_reducible refine (HT.out _ HK.out).mono ?_); rintro e w1 ⟨rfl, rfl⟩)))
              go_ret
              exact ⟨ret_bool HE.out.symm, HG.out⟩
          · have HE0 : Hid (oneB (n, t, p) = (c == 2 && decide (1001 ≤ p))) := by show _ = _; rw [HB.out, if_neg (by rw [h]; decide), if_pos h, h, hp, HB2.out]; rfl
            clear h
            rcases Bool.eq_false_or_eq_true (c == 2) with g1 | g1
            · have HE : Hid (oneB (n, t, p) = decide (1001 ≤ p)) := by show _ = _; rw [HE0.out, g1]; rfl
              go_enter Tryd.func51, Tryd.ntmps51
              go_wp2_with (first | (go_at_call 43; ((with_reducible refine (H1.out _).mono ?_); rintro e w1 ⟨rfl, rfl⟩)) | (go_at_call 40; ((with_reducible refine (H2.out _).mono ?_); rintro e w1 ⟨rfl, rfl⟩)) | (go_at_call 41; ((with_reducible refine (H3.out _).mono ?_); rintro e w1 ⟨rfl, rfl⟩)) | (go_at_call 64; ((with_reducible refine (HT.out _ HK.out).mono ?_); rintro e w1 ⟨rfl, rfl⟩)))
              go_ret
              exact ⟨ret_bool HE.out.symm, HG.out⟩
            · have HE : Hid (oneB (n, t, p) = false) := by show _ = _; rw [HE0.out, g1]; rfl
              go_enter Tryd.func51, Tryd.ntmps51
              go_wp2_with (first | (go_at_call 43; ((with_reducible refine (H1.out _).mono ?_); rintro e w1 ⟨rfl, rfl⟩)) | (go_at_call 40; ((with_reducible refine (H2.out _).mono ?_); rintro e w1 ⟨rfl, rfl⟩)) | (go_at_call 41; ((with_reducible refine (H3.out _).mono ?_); rintro e w1 ⟨rfl, rfl⟩)) | (go_at_call 64; ((with_reducible refine (HT.out _ HK.out).mono ?_); rintro e w1 ⟨rfl, rfl⟩)))
              go_ret
              exact ⟨ret_bool HE.out.symm, HG.out⟩
          · have HE : Hid (oneB (n, t, p) = true) := by show _ = _; rw [HB.out, if_neg k3, if_neg k4, hp]; simp [k1, k2]
            clear k1 k2 k3 k4
            go_enter Tryd.func51, Tryd.ntmps51
            go_wp2_with (first | (go_at_call 43; ((with_reducible refine (H1.out _).mono ?_); rintro e w1 ⟨rfl, rfl⟩)) | (go_at_call 40; ((with_reducible refine (H2.out _).mono ?_); rintro e w1 ⟨rfl, rfl⟩)) | (go_at_call 41; ((with_reducible refine (H3.out _).mono ?_); rintro e w1 ⟨rfl, rfl⟩)) | (go_at_call 64; ((with_reducible refine (HT.out _ HK.out).mono ?_); rintro e w1 ⟨rfl, rfl⟩)))
            go_ret
            exact ⟨ret_bool HE.out.symm, HG.out⟩
set_option maxHeartbeats 4000000 in
theorem one_any (o : Opd) (w : World) :
    Calls Tryd.prog 53 #[opV o] w (BEnd (oneB o) w) := by
  obtain ⟨n, t, p⟩ := o
  have HG := Lib.hid ((Gw.refl w).alloc (.cells #[.string n, .int .i64 t, .int .i64 p] 26))
  obtain ⟨c, hc⟩ : ∃ c, clsI t = c := ⟨_, rfl⟩
  have HT : Hid (∀ w, Calls Tryd.prog 32 #[.int .i64 t] w fun e w' => e = .returned (.int .i64 c) ∧ w' = w) := fun w => by rw [← hc]; exact class_any t w
  have HB : Hid (oneB (n, t, p) = (decide (n.size ≤ 100) && !(c == 0) && (decide (1 ≤ p) && decide (p ≤ 1200)) && !decide (n = nm [91, 93]) && !decide (n = nm [123, 125]) && (if n = nm [44] then t == 2 && p == 1000 else if n = nm [124] then c == 2 && decide (1001 ≤ p) else true))) := by
    show _ = _
    have e : isT t = !(c == 0) := by rw [Bool.eq_iff_iff, cls_isT, hc]; simp
    simp only [oneB, oc, Bool.and_assoc, e, hc]
  clear hc
  by_cases l1 : n.size ≤ 100
  · have q1 : decide (n.size ≤ 100) = true := by simpa using l1
    rcases Bool.eq_false_or_eq_true (c == 0) with hp | hp
    · have HE : Hid (oneB (n, t, p) = false) := by show _ = _; rw [HB.out, hp]; simp
      clear q1
      go_enter Tryd.func53, Tryd.ntmps53
      go_wp2_with (go_at_call 32; ((with_reducible refine (HT.out _).mono ?_); rintro e w1 ⟨rfl, rfl⟩))
      go_ret
      exact ⟨ret_bool HE.out.symm, HG.out⟩
    · by_cases l2 : 1 ≤ p
      · have q2 : decide (1 ≤ p) = true := by simpa using l2
        by_cases l3 : p ≤ 1200
        · have q3 : decide (p ≤ 1200) = true := by simpa using l3
          rcases n5 n with ⟨h, h1, h2, h3, h4⟩ | ⟨h, h1, h2, h3, h4⟩ | ⟨h, h1, h2, h3, h4⟩ | ⟨h, h1, h2, h3, h4⟩ | ⟨k1, k2, k3, k4, h1, h2, h3, h4⟩
          · have HE : Hid (oneB (n, t, p) = false) := by show _ = _; rw [HB.out, h]; simp
            clear h q1 q2 q3
            go_enter Tryd.func53, Tryd.ntmps53
            go_wp2_with (go_at_call 32; ((with_reducible refine (HT.out _).mono ?_); rintro e w1 ⟨rfl, rfl⟩))
            go_ret
            exact ⟨ret_bool HE.out.symm, HG.out⟩
          · have HE : Hid (oneB (n, t, p) = false) := by show _ = _; rw [HB.out, h]; simp
            clear h q1 q2 q3
            go_enter Tryd.func53, Tryd.ntmps53
            go_wp2_with (go_at_call 32; ((with_reducible refine (HT.out _).mono ?_); rintro e w1 ⟨rfl, rfl⟩))
            go_ret
            exact ⟨ret_bool HE.out.symm, HG.out⟩
          · have HE0 : Hid (oneB (n, t, p) = (t == 2 && p == 1000)) := by show _ = _; rw [HB.out, if_pos h, q1, q2, q3, hp, h]; rfl
            clear h q1 q2 q3
            rcases Bool.eq_false_or_eq_true (t == 2) with g1 | g1
            · have HE : Hid (oneB (n, t, p) = (p == 1000)) := by show _ = _; rw [HE0.out, g1]; rfl
              go_enter Tryd.func53, Tryd.ntmps53
              go_wp2_with (go_at_call 32; ((with_reducible refine (HT.out _).mono ?_); rintro e w1 ⟨rfl, rfl⟩))
              go_ret
              exact ⟨ret_bool HE.out.symm, HG.out⟩
            · have HE : Hid (oneB (n, t, p) = false) := by show _ = _; rw [HE0.out, g1]; rfl
              go_enter Tryd.func53, Tryd.ntmps53
              go_wp2_with (go_at_call 32; ((with_reducible refine (HT.out _).mono ?_); rintro e w1 ⟨rfl, rfl⟩))
              go_ret
              exact ⟨ret_bool HE.out.symm, HG.out⟩
          · have HE0 : Hid (oneB (n, t, p) = (c == 2 && decide (1001 ≤ p))) := by show _ = _; rw [HB.out, if_neg (by rw [h]; decide), if_pos h, q1, q2, q3, hp, h]; rfl
            clear h q1 q2 q3
            rcases Bool.eq_false_or_eq_true (c == 2) with g1 | g1
            · have HE : Hid (oneB (n, t, p) = decide (1001 ≤ p)) := by show _ = _; rw [HE0.out, g1]; rfl
              go_enter Tryd.func53, Tryd.ntmps53
              go_wp2_with (go_at_call 32; ((with_reducible refine (HT.out _).mono ?_); rintro e w1 ⟨rfl, rfl⟩))
              go_ret
              exact ⟨ret_bool HE.out.symm, HG.out⟩
            · have HE : Hid (oneB (n, t, p) = false) := by show _ = _; rw [HE0.out, g1]; rfl
              go_enter Tryd.func53, Tryd.ntmps53
              go_wp2_with (go_at_call 32; ((with_reducible refine (HT.out _).mono ?_); rintro e w1 ⟨rfl, rfl⟩))
              go_ret
              exact ⟨ret_bool HE.out.symm, HG.out⟩
          · have HE : Hid (oneB (n, t, p) = true) := by show _ = _; rw [HB.out, if_neg k3, if_neg k4, q1, q2, q3, hp]; simp [k1, k2]
            clear k1 k2 k3 k4 q1 q2 q3
            go_enter Tryd.func53, Tryd.ntmps53
            go_wp2_with (go_at_call 32; ((with_reducible refine (HT.out _).mono ?_); rintro e w1 ⟨rfl, rfl⟩))
            go_ret
            exact ⟨ret_bool HE.out.symm, HG.out⟩
        · have HE : Hid (oneB (n, t, p) = false) := by show _ = _; rw [HB.out, show decide (p ≤ 1200) = false by simpa using l3]; simp
          clear q1 q2
          go_enter Tryd.func53, Tryd.ntmps53
          go_wp2_with (go_at_call 32; ((with_reducible refine (HT.out _).mono ?_); rintro e w1 ⟨rfl, rfl⟩))
          go_ret
          exact ⟨ret_bool HE.out.symm, HG.out⟩
      · have HE : Hid (oneB (n, t, p) = false) := by show _ = _; rw [HB.out, show decide (1 ≤ p) = false by simpa using l2]; simp
        clear q1
        go_enter Tryd.func53, Tryd.ntmps53
        go_wp2_with (go_at_call 32; ((with_reducible refine (HT.out _).mono ?_); rintro e w1 ⟨rfl, rfl⟩))
        go_ret
        exact ⟨ret_bool HE.out.symm, HG.out⟩
  · have HE : Hid (oneB (n, t, p) = false) := by show _ = _; rw [HB.out, show decide (n.size ≤ 100) = false by simpa using l1]; rfl
    go_enter Tryd.func53, Tryd.ntmps53
    go_wp2_with fail
    go_ret
    exact ⟨ret_bool HE.out.symm, HG.out⟩

def befB (a b : Opd) : Bool := decide (kc a.1 (oc a) b.1 (oc b) < 0)
set_option maxHeartbeats 4000000 in
theorem before_any (a b : Opd) (w : World) :
    Calls Tryd.prog 54 #[opV a, opV b] w (BEnd (befB a b) w) := by
  obtain ⟨n, t, p⟩ := a
  obtain ⟨m, u, q⟩ := b
  have HG := Lib.hid (((Gw.refl w).alloc (.cells #[.string n, .int .i64 t, .int .i64 p] 26)).alloc (.cells #[.string m, .int .i64 u, .int .i64 q] 26))
  obtain ⟨c, hc⟩ : ∃ c, clsI t = c := ⟨_, rfl⟩
  obtain ⟨d, hd⟩ : ∃ d, clsI u = d := ⟨_, rfl⟩
  have HT : Hid (∀ w, Calls Tryd.prog 32 #[.int .i64 t] w fun e w' => e = .returned (.int .i64 c) ∧ w' = w) := fun w => by rw [← hc]; exact class_any t w
  have HU : Hid (∀ w, Calls Tryd.prog 32 #[.int .i64 u] w fun e w' => e = .returned (.int .i64 d) ∧ w' = w) := fun w => by rw [← hd]; exact class_any u w
  have HB : Hid (befB (n, t, p) (m, u, q) = decide (kc n c m d < 0)) := by show _ = _; unfold befB oc; simp only [hc, hd]
  have he := toList_eq n m
  clear hc hd
  by_cases hnm : n = m
  · have h1 : (n.toList == m.toList) = true := by rw [he]; simpa using hnm
    have h1' : (n.toList != m.toList) = false := by rw [bne, h1]; rfl
    have HE : Hid (befB (n, t, p) (m, u, q) = decide (c < d)) := by show _ = _; rw [HB.out, hnm, kc_name]; exact decide_eq_decide.2 cmpI_lt
    clear he hnm
    by_cases hcd : c < d
    · have q1 : decide (c < d) = true := by simpa using hcd
      go_enter Tryd.func54, Tryd.ntmps54
      go_wp2_with fail
      go_quiet ((first | (go_at_call_of 32 (Value.int .i64 t); exact Calls.quiet_of_same (HT.out _)) | (go_at_call_of 32 (Value.int .i64 u); exact Calls.quiet_of_same (HU.out _))))
      go_wp2_with fail
      go_ret
      exact ⟨ret_bool (by rw [HE.out]; first | rfl | simp [hcd]), HG.out.drewN _⟩
    · have q1 : decide (c < d) = false := by simpa using hcd
      go_enter Tryd.func54, Tryd.ntmps54
      go_wp2_with fail
      go_quiet ((first | (go_at_call_of 32 (Value.int .i64 t); exact Calls.quiet_of_same (HT.out _)) | (go_at_call_of 32 (Value.int .i64 u); exact Calls.quiet_of_same (HU.out _))))
      go_wp2_with fail
      go_ret
      exact ⟨ret_bool (by rw [HE.out]; first | rfl | simp [hcd]), HG.out.drewN _⟩
  · have h1 : (n.toList == m.toList) = false := by rw [he]; simpa using hnm
    have h1' : (n.toList != m.toList) = true := by rw [bne, h1]; rfl
    have HE : Hid (befB (n, t, p) (m, u, q) = Op.bytesLess n.toList m.toList) := by
      show _ = _
      rw [HB.out, less_cmpB, Lib.toList_data, Lib.toList_data]
      have : ¬ cmpB n.data.toList m.data.toList = 0 := fun h => hnm (data_inj (cmpB_eq h))
      rw [kc, orI, if_neg this]
    clear he hnm
    rcases Bool.eq_false_or_eq_true (Op.bytesLess n.toList m.toList) with q1 | q1
    all_goals
      go_enter Tryd.func54, Tryd.ntmps54
      go_wp2_with fail
      go_ret
      exact ⟨ret_bool (by rw [HE.out, q1]), HG.out⟩

end Go.Proofs.YtkjkhhifkedflaaDoor
