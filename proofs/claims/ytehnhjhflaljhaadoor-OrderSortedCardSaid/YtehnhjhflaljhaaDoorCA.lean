/- Of no program: the order of terms: kinds, numbers, numbers of arguments, names byte by byte, arguments. -/
import Derived.Test.YtehnhjhflaljhaaDoorTm
import Derived.Laws.Strings
import Derived.Laws.Cover1
import Derived.Test.YtehnhjhflaljhaaDoorRC
namespace Go.Proofs.HT

def cmpI (a b : Int) : Int := if a < b then -1 else if b < a then 1 else 0
def orI (a b : Int) : Int := if a = 0 then b else a
def cmpB : List UInt8 → List UInt8 → Int
  | [], [] => 0
  | [], _ :: _ => -1
  | _ :: _, [] => 1
  | a :: x, b :: y => if a < b then -1 else if b < a then 1 else cmpB x y
mutual
def cT : Tm → Tm → Int
  | .mk k n s ts, .mk k' n' s' us => orI (cmpI k k') (orI (cmpI n n') (orI (cmpI ts.length us.length) (orI (cmpB s.data.toList s'.data.toList) (cL ts us))))
def cL : List Tm → List Tm → Int
  | t :: ts, u :: us => orI (cT t u) (cL ts us)
  | [], _ => 0
  | _ :: _, [] => 0
end

theorem cmpI_bd (a b : Int) : cmpI a b = -1 ∨ cmpI a b = 0 ∨ cmpI a b = 1 := by unfold cmpI; split <;> (try split) <;> simp
theorem orI_bd {a b : Int} (h1 : a = -1 ∨ a = 0 ∨ a = 1) (h2 : b = -1 ∨ b = 0 ∨ b = 1) : orI a b = -1 ∨ orI a b = 0 ∨ orI a b = 1 := by unfold orI; split <;> assumption
theorem cmpB_bd : ∀ x y : List UInt8, cmpB x y = -1 ∨ cmpB x y = 0 ∨ cmpB x y = 1
  | [], [] => by simp [cmpB]
  | [], _ :: _ => by simp [cmpB]
  | _ :: _, [] => by simp [cmpB]
  | a :: x, b :: y => by
    unfold cmpB
    split
    · simp
    · split
      · simp
      · exact cmpB_bd x y
mutual
theorem cT_bd : ∀ t u : Tm, cT t u = -1 ∨ cT t u = 0 ∨ cT t u = 1
  | .mk k n s ts, .mk k' n' s' us => by
    rw [cT]; exact orI_bd (cmpI_bd _ _) (orI_bd (cmpI_bd _ _) (orI_bd (cmpI_bd _ _) (orI_bd (cmpB_bd _ _) (cL_bd ts us))))
theorem cL_bd : ∀ ts us : List Tm, cL ts us = -1 ∨ cL ts us = 0 ∨ cL ts us = 1
  | t :: ts, u :: us => by rw [cL]; exact orI_bd (cT_bd t u) (cL_bd ts us)
  | [], _ => by simp [cL]
  | _ :: _, [] => by simp [cL]
end
theorem less_cmpB : ∀ x y : List UInt8, Op.bytesLess x y = decide (cmpB x y < 0)
  | [], [] => by simp [cmpB, Op.bytesLess]
  | [], _ :: _ => by simp [cmpB, Op.bytesLess]
  | _ :: _, [] => by simp [cmpB, Op.bytesLess]
  | a :: x, b :: y => by
    rw [Op.bytesLess, less_cmpB x y, cmpB]
    by_cases h : a < b
    · simp [h]
    · by_cases h2 : b < a
      · have : ¬ a = b := fun e => by rw [e] at h2; exact absurd h2 (by rw [e] at h; exact h)
        simp [h, h2, this]
      · have : a = b := UInt8.le_antisymm (UInt8.not_lt.1 h2) (UInt8.not_lt.1 h)
        simp [this]
theorem eq_cmpB : ∀ x y : List UInt8, (x == y) = decide (cmpB x y = 0)
  | [], [] => by simp [cmpB]
  | [], _ :: _ => by simp [cmpB]
  | _ :: _, [] => by simp [cmpB]
  | a :: x, b :: y => by
    have ih := eq_cmpB x y
    rw [Bool.eq_iff_iff, beq_iff_eq, decide_eq_true_eq] at ih
    rw [Bool.eq_iff_iff, beq_iff_eq, decide_eq_true_eq, cmpB, List.cons.injEq]
    by_cases h : a < b
    · have : ¬ a = b := fun e => by rw [e] at h; exact UInt8.lt_irrefl _ h
      simp [h, this]
    · by_cases h2 : b < a
      · have : ¬ a = b := fun e => by rw [e] at h2; exact UInt8.lt_irrefl _ h2
        simp [h, h2, this]
      · have : a = b := UInt8.le_antisymm (UInt8.not_lt.1 h2) (UInt8.not_lt.1 h)
        simp [this, ih]
/-- Behind a common beginning of i bytes. -/
theorem cmpB_drop (x y : List UInt8) : ∀ i, i ≤ x.length → i ≤ y.length → (∀ j (h1 : j < x.length) (h2 : j < y.length), j < i → x[j] = y[j]) → cmpB (x.drop i) (y.drop i) = cmpB x y
  | 0, _, _, _ => rfl
  | i + 1, h1, h2, h => by
    have ih := cmpB_drop x y i (by omega) (by omega) (fun j a b c => h j a b (by omega))
    rw [← ih, List.drop_eq_getElem_cons (show i < x.length by omega), List.drop_eq_getElem_cons (show i < y.length by omega), cmpB, h i (by omega) (by omega) (by omega)]
    simp [UInt8.lt_irrefl]
/-- Arguments behind those that are alike. -/
theorem cL_drop (ts us : List Tm) : ∀ i, (∀ j (h1 : j < ts.length) (h2 : j < us.length), j < i → cT ts[j] us[j] = 0) → i ≤ ts.length → i ≤ us.length → cL (ts.drop i) (us.drop i) = cL ts us
  | 0, _, _, _ => rfl
  | i + 1, h, h1, h2 => by
    have ih := cL_drop ts us i (fun j a b c => h j a b (by omega)) (by omega) (by omega)
    rw [← ih, List.drop_eq_getElem_cons (show i < ts.length by omega), List.drop_eq_getElem_cons (show i < us.length by omega), cL, h i (by omega) (by omega) (by omega)]
    simp [orI]
theorem cL_at (ts us : List Tm) (i : Nat) (h1 : i < ts.length) (h2 : i < us.length) (h : ∀ j (h1 : j < ts.length) (h2 : j < us.length), j < i → cT ts[j] us[j] = 0) (hne : ¬ cT ts[i] us[i] = 0) : cL ts us = cT ts[i] us[i] := by
  rw [← cL_drop ts us i h (by omega) (by omega), List.drop_eq_getElem_cons h1, List.drop_eq_getElem_cons h2, cL, orI, if_neg hne]
theorem cL_end (ts us : List Tm) (hl : ts.length = us.length) (h : ∀ j (h1 : j < ts.length) (h2 : j < us.length), j < ts.length → cT ts[j] us[j] = 0) : cL ts us = 0 := by
  rw [← cL_drop ts us ts.length h (by omega) (by omega), List.drop_length]
  cases us.drop ts.length <;> rfl

end Go.Proofs.HT

/- The contracts of cmp.Compare at int, int64 and string, of cmp.Or at four numbers, and of the specification's number. -/
namespace Go.Proofs.YtehnhjhflaljhaaDoor
open Go.RowKit Go.Proofs.HT

theorem nanI_any (n : Int) (w : World) : Calls Tryd.prog 77 #[.int .i64 n] w fun e w' => e = .returned (.bool false) ∧ w = w' := by
  go_enter Tryd.func77, Tryd.ntmps77
  go_wp2_with fail
  go_ret
  exact ⟨ret_bool (by simp), rfl⟩
theorem nanJ_any (n : Int) (w : World) : Calls Tryd.prog 78 #[.int .i64 n] w fun e w' => e = .returned (.bool false) ∧ w = w' := by
  go_enter Tryd.func78, Tryd.ntmps78
  go_wp2_with fail
  go_ret
  exact ⟨ret_bool (by simp), rfl⟩
theorem nanS_any (n : ByteArray) (w : World) : Calls Tryd.prog 79 #[.string n] w fun e w' => e = .returned (.bool false) ∧ w = w' := by
  go_enter Tryd.func79, Tryd.ntmps79
  go_wp2_with fail
  go_ret
  exact ⟨ret_bool (by simp), rfl⟩
theorem cmpI_cases (a b : Int) : (a < b ∧ cmpI a b = -1) ∨ (¬ a < b ∧ b < a ∧ cmpI a b = 1) ∨ (¬ a < b ∧ ¬ b < a ∧ cmpI a b = 0) := by
  unfold cmpI
  by_cases h1 : a < b
  · simp [h1]
  · by_cases h2 : b < a <;> simp [h1, h2]
theorem compI_any (a b : Int) (w : World) : Calls Tryd.prog 60 #[.int .i64 a, .int .i64 b] w fun e w' => e = .returned (.int .i64 (cmpI a b)) ∧ w = w' := by
  rcases cmpI_cases a b with ⟨h1, h⟩ | ⟨h1, h2, h⟩ | ⟨h1, h2, h⟩
  all_goals
    rw [h]
    clear h
    go_enter Tryd.func60, Tryd.ntmps60
    go_wp2_with (first | (go_at_call 77; refine (nanI_any _ _).mono ?_; rintro e w1 ⟨rfl, rfl⟩))
    go_ret
    exact ⟨rfl, rfl⟩
theorem compJ_any (a b : Int) (w : World) : Calls Tryd.prog 61 #[.int .i64 a, .int .i64 b] w fun e w' => e = .returned (.int .i64 (cmpI a b)) ∧ w = w' := by
  rcases cmpI_cases a b with ⟨h1, h⟩ | ⟨h1, h2, h⟩ | ⟨h1, h2, h⟩
  all_goals
    rw [h]
    clear h
    go_enter Tryd.func61, Tryd.ntmps61
    go_wp2_with (first | (go_at_call 78; refine (nanJ_any _ _).mono ?_; rintro e w1 ⟨rfl, rfl⟩))
    go_ret
    exact ⟨rfl, rfl⟩
theorem compS_any (a b : ByteArray) (w : World) : Calls Tryd.prog 62 #[.string a, .string b] w fun e w' => e = .returned (.int .i64 (cmpB a.toList b.toList)) ∧ w = w' := by
  have hl := less_cmpB a.toList b.toList
  have he := eq_cmpB a.toList b.toList
  rcases cmpB_bd a.toList b.toList with h | h | h
  · rw [h] at hl he ⊢
    have h1 : Op.bytesLess a.toList b.toList = true := hl.trans (by decide)
    have h2 : (a.toList == b.toList) = false := he.trans (by decide)
    clear h hl he
    go_enter Tryd.func62, Tryd.ntmps62
    go_wp2_with (first | (go_at_call 79; refine (nanS_any _ _).mono ?_; rintro e w1 ⟨rfl, rfl⟩))
    go_ret
    exact ⟨rfl, rfl⟩
  · rw [h] at hl he ⊢
    have h1 : Op.bytesLess a.toList b.toList = false := hl.trans (by decide)
    have h2 : (a.toList == b.toList) = true := he.trans (by decide)
    clear h hl he
    go_enter Tryd.func62, Tryd.ntmps62
    go_wp2_with (first | (go_at_call 79; refine (nanS_any _ _).mono ?_; rintro e w1 ⟨rfl, rfl⟩))
    go_ret
    exact ⟨rfl, rfl⟩
  · rw [h] at hl he ⊢
    have h1 : Op.bytesLess a.toList b.toList = false := hl.trans (by decide)
    have h2 : (a.toList == b.toList) = false := he.trans (by decide)
    clear h hl he
    go_enter Tryd.func62, Tryd.ntmps62
    go_wp2_with (first | (go_at_call 79; refine (nanS_any _ _).mono ?_; rintro e w1 ⟨rfl, rfl⟩))
    go_ret
    exact ⟨rfl, rfl⟩
theorem numR_any (a b : Int) (w : World) : Calls Tryd.prog 64 #[.int .i64 a, .int .i64 b] w fun e w' => e = .returned (.int .i64 (cmpI a b)) ∧ w = w' := by
  rcases cmpI_cases a b with ⟨h1, h⟩ | ⟨h1, h2, h⟩ | ⟨h1, h2, h⟩
  all_goals
    rw [h]
    clear h
    go_enter Tryd.func64, Tryd.ntmps64
    go_wp2_with fail
    go_ret
    exact ⟨rfl, rfl⟩

end Go.Proofs.YtehnhjhflaljhaaDoor

/- The contract of the specification's Names. -/
namespace Go.Proofs.YtehnhjhflaljhaaDoor
open Go.RowKit Go.Proofs.HT

theorem below_drewN {b : Nat} {w wr : World} (h : Below b w wr) (n : Nat) : Below b w (wr.drewN n) := by
  refine ⟨?_, ?_, ?_, ?_, fun q hq => ?_⟩
  · simpa [World.drewN] using h.os
  · simpa [World.drewN] using h.tape
  · simpa [World.drewN] using h.output
  · simpa [World.drewN] using h.size
  · simpa [World.drewN] using h.block q hq
theorem bytes_at (a : ByteArray) (j : Nat) (h : j < a.size) : ∃ h2 : j < a.toList.length, a.toList[j] = a[j] := by
  have e := Lib.toList_data a
  refine ⟨by rw [e]; simpa using h, ?_⟩
  simp only [e]; rfl
theorem cmpB_step (a b : ByteArray) (j : Nat) (ha : j < a.size) (hb : j < b.size) : cmpB (a.toList.drop j) (b.toList.drop j) = if a[j] < b[j] then -1 else if b[j] < a[j] then 1 else cmpB (a.toList.drop (j + 1)) (b.toList.drop (j + 1)) := by
  obtain ⟨h1, e1⟩ := bytes_at a j ha
  obtain ⟨h2, e2⟩ := bytes_at b j hb
  rw [List.drop_eq_getElem_cons h1, List.drop_eq_getElem_cons h2, cmpB, e1, e2]
theorem bytes_len (a : ByteArray) : a.toList.length = a.size := by rw [Lib.toList_data]; simp
theorem cmpB_end (a b : ByteArray) (j : Nat) (ha : j ≤ a.size) (hb : j ≤ b.size) (h : j = a.size ∨ j = b.size) : cmpB (a.toList.drop j) (b.toList.drop j) = cmpI a.size b.size := by
  have h1 := bytes_len a
  have h2 := bytes_len b
  have h3 : (a.toList.drop j).length = a.size - j := by rw [List.length_drop, h1]
  have h4 : (b.toList.drop j).length = b.size - j := by rw [List.length_drop, h2]
  generalize a.toList.drop j = x at *
  generalize b.toList.drop j = y at *
  unfold cmpI
  cases x with
  | nil =>
    cases y with
    | nil => simp at h3 h4; simp [cmpB]; omega
    | cons c y => simp at h3 h4; rw [cmpB, if_pos (by omega)]
  | cons c x =>
    cases y with
    | nil => simp at h3 h4; rw [cmpB, if_neg (by omega), if_pos (by omega)]
    | cons d y => simp at h3 h4; omega

set_option maxHeartbeats 2000000 in
theorem names_any (a b : ByteArray) (ha : a.size ≤ 9223372036854775807) (hb : b.size ≤ 9223372036854775807) (w : World) : Calls Tryd.prog 65 #[.string a, .string b] w fun e w' => e = .returned (.int .i64 (cmpB a.toList b.toList)) ∧ Below w.heap.size w w' := by
  go_enter Tryd.func65, Tryd.ntmps65
  go_wp2_with fail
  go_loopw [5] (fun i wr => ∃ j : Nat, j ≤ a.size ∧ j ≤ b.size ∧ i = .int .i64 j ∧ Hid (Below w.heap.size w wr) ∧ Hid (cmpB (a.toList.drop j) (b.toList.drop j) = cmpB a.toList b.toList)) (fun i _ => a.size - (intOf i).toNat)
  case atStart => exact ⟨0, by omega, by omega, rfl, Lib.hid (Below.refl _ _), Lib.hid rfl⟩
  case round =>
    obtain ⟨j, h1, h2, rfl, hbl, hd⟩ := hrel
    by_cases l1 : j < a.size
    · by_cases l2 : j < b.size
      · have st := cmpB_step a b j l1 l2
        rw [hd.out] at st
        have q1 : (j : Int) < (a.size : Int) := by omega
        have q2 : (j : Int) < (b.size : Int) := by omega
        have q0 : (0 : Int) ≤ (j : Int) := by omega
        by_cases e1 : a[j] < b[j]
        · rw [if_pos e1] at st
          have HS := Lib.hid st
          have f1 : ((a[j].toNat : Int) < (b[j].toNat : Int)) = True := by have := UInt8.lt_iff_toNat_lt.1 e1; simp; omega
          clear st e1 hd
          go_wp2_with fail
          go_quiet (fail)
          go_wp2_with fail
          go_ret
          exact ⟨ret_int HS.out.symm, below_drewN hbl.out _⟩
        · rw [if_neg e1] at st
          have f1 : ((a[j].toNat : Int) < (b[j].toNat : Int)) = False := by have h0 : ¬ a[j].toNat < b[j].toNat := fun h => e1 (UInt8.lt_iff_toNat_lt.2 h); simp; omega
          by_cases e2 : b[j] < a[j]
          · rw [if_pos e2] at st
            have HS := Lib.hid st
            have f2 : ((b[j].toNat : Int) < (a[j].toNat : Int)) = True := by have := UInt8.lt_iff_toNat_lt.1 e2; simp; omega
            clear st e1 e2 hd
            go_wp2_with fail
            go_quiet (fail)
            go_wp2_with fail
            go_quiet (fail)
            go_wp2_with fail
            go_ret
            exact ⟨ret_int HS.out.symm, below_drewN (below_drewN hbl.out _) _⟩
          · rw [if_neg e2] at st
            have HS := Lib.hid st
            have f2 : ((b[j].toNat : Int) < (a[j].toNat : Int)) = False := by have h0 : ¬ b[j].toNat < a[j].toNat := fun h => e2 (UInt8.lt_iff_toNat_lt.2 h); simp; omega
            clear st e1 e2 hd
            go_wp2_with fail
            go_quiet (fail)
            go_wp2_with fail
            go_quiet (fail)
            go_wp2_with fail
            go_roundw
            case rel => exact ⟨j + 1, by omega, by omega, by go_num, Lib.hid (below_drewN hbl.out _), Lib.hid HS.out.symm⟩
            case measure => simp [intOf]; omega
      · have HE := Lib.hid (cmpB_end a b j h1 h2 (by omega))
        have HD := Lib.hid (HE.out.symm.trans hd.out)
        clear HE hd
        go_wp2_with (first | (go_at_call 64; refine (numR_any _ _ _).mono ?_; rintro e w1 ⟨rfl, rfl⟩))
        go_ret
        exact ⟨ret_int HD.out, hbl.out⟩
    · have HE := Lib.hid (cmpB_end a b j h1 h2 (by omega))
      have HD := Lib.hid (HE.out.symm.trans hd.out)
      clear HE hd
      go_wp2_with (first | (go_at_call 64; refine (numR_any _ _ _).mono ?_; rintro e w1 ⟨rfl, rfl⟩))
      go_ret
      exact ⟨ret_int HD.out, hbl.out⟩

end Go.Proofs.YtehnhjhflaljhaaDoor
