/- Of no program: the order of terms is total: antisymmetric, transitive, zero just for one and the same term. -/
import Derived.Test.YtehnhjhflaljhaaDoorCA
namespace Go.Proofs.HT

theorem orI_neg (a b : Int) : orI (-a) (-b) = -orI a b := by unfold orI; split <;> split <;> omega
theorem cmpI_neg (a b : Int) : cmpI b a = -cmpI a b := by unfold cmpI; repeat' split
                                                          all_goals omega
theorem cmpB_neg : ∀ x y : List UInt8, cmpB y x = -cmpB x y
  | [], [] => by simp [cmpB]
  | [], _ :: _ => by simp [cmpB]
  | _ :: _, [] => by simp [cmpB]
  | a :: x, b :: y => by
    have ih := cmpB_neg x y
    simp only [cmpB]
    by_cases h : a < b
    · have : ¬ b < a := fun h2 => UInt8.lt_irrefl _ (UInt8.lt_trans h h2)
      simp [h, this]
    · by_cases h2 : b < a
      · simp [h, h2]
      · simp [h, h2, ih]
mutual
theorem cT_neg : ∀ t u : Tm, cT u t = -cT t u
  | .mk k n s ts, .mk k2 n2 s2 us => by
    rw [cT, cT, cmpI_neg k, cmpI_neg n, cmpI_neg (ts.length : Int), cmpB_neg s.data.toList, cL_neg ts us, orI_neg, orI_neg, orI_neg, orI_neg]
theorem cL_neg : ∀ ts us : List Tm, cL us ts = -cL ts us
  | t :: ts, u :: us => by rw [cL, cL, cT_neg t u, cL_neg ts us, orI_neg]
  | [], [] => by simp [cL]
  | [], _ :: _ => by simp [cL]
  | _ :: _, [] => by simp [cL]
end
theorem orI_zero' {a b : Int} (h : orI a b = 0) : a = 0 ∧ b = 0 := by
  unfold orI at h
  by_cases h0 : a = 0
  · rw [if_pos h0] at h; exact ⟨h0, h⟩
  · rw [if_neg h0] at h; exact absurd h h0
theorem cmpI_eq {a b : Int} (h : cmpI a b = 0) : a = b := by
  unfold cmpI at h
  by_cases h1 : a < b
  · rw [if_pos h1] at h; omega
  · rw [if_neg h1] at h
    by_cases h2 : b < a
    · rw [if_pos h2] at h; omega
    · omega
theorem cmpI_self (a : Int) : cmpI a a = 0 := by simp [cmpI]
theorem cmpB_eq {x y : List UInt8} (h : cmpB x y = 0) : x = y := by
  have := eq_cmpB x y
  rw [h] at this
  simpa using this
theorem cmpB_self : ∀ x : List UInt8, cmpB x x = 0
  | [] => by simp [cmpB]
  | a :: x => by simp [cmpB, UInt8.lt_irrefl, cmpB_self x]
theorem data_inj {a b : ByteArray} (h : a.data.toList = b.data.toList) : a = b := by
  cases a; cases b
  simpa using h
mutual
theorem cT_eq : ∀ t u : Tm, cT t u = 0 → t = u
  | .mk k n s ts, .mk k2 n2 s2 us, h => by
    rw [cT] at h
    obtain ⟨h1, h⟩ := orI_zero' h
    obtain ⟨h2, h⟩ := orI_zero' h
    obtain ⟨h3, h⟩ := orI_zero' h
    obtain ⟨h4, h⟩ := orI_zero' h
    have e3 := cmpI_eq h3
    rw [cmpI_eq h1, cmpI_eq h2, data_inj (cmpB_eq h4), cL_eq ts us (by omega) h]
theorem cL_eq : ∀ ts us : List Tm, ts.length = us.length → cL ts us = 0 → ts = us
  | t :: ts, u :: us, hl, h => by
    rw [cL] at h
    obtain ⟨h1, h2⟩ := orI_zero' h
    rw [cT_eq t u h1, cL_eq ts us (by simpa using hl) h2]
  | [], [], _, _ => rfl
  | [], _ :: _, hl, _ => by simp at hl
  | _ :: _, [], hl, _ => by simp at hl
end
mutual
theorem cT_self : ∀ t : Tm, cT t t = 0
  | .mk k n s ts => by rw [cT, cmpI_self, cmpI_self, cmpI_self, cmpB_self, cL_self ts]; simp [orI]
theorem cL_self : ∀ ts : List Tm, cL ts ts = 0
  | [] => by simp [cL]
  | t :: ts => by rw [cL, cT_self t, cL_self ts]; simp [orI]
end

/-- x, y, z: the order of a and b, of b and c, of a and c. -/
def T3 (x y z : Int) : Prop := (x = 0 → z = y) ∧ (y = 0 → z = x) ∧ (x = -1 → y = -1 → z = -1) ∧ (x = 1 → y = 1 → z = 1)
def Bd (x : Int) : Prop := x = -1 ∨ x = 0 ∨ x = 1
theorem T3.or {x y z x2 y2 z2 : Int} (hx : Bd x) (hy : Bd y) (hz : Bd z) (h : T3 x y z) (h2 : x = 0 → y = 0 → T3 x2 y2 z2) : T3 (orI x x2) (orI y y2) (orI z z2) := by
  unfold Bd at hx hy hz
  unfold T3 at *
  obtain ⟨a1, a2, a3, a4⟩ := h
  rcases hx with rfl | rfl | rfl <;> rcases hy with rfl | rfl | rfl <;> rcases hz with rfl | rfl | rfl <;> simp [orI] at * <;> simp_all
theorem cmpI_T3 (a b c : Int) : T3 (cmpI a b) (cmpI b c) (cmpI a c) := by
  unfold T3 cmpI
  refine ⟨?_, ?_, ?_, ?_⟩ <;> repeat' split
  all_goals omega
theorem cmpB_T3 : ∀ x y z : List UInt8, T3 (cmpB x y) (cmpB y z) (cmpB x z)
  | [], [], [] => by simp [T3, cmpB]
  | [], [], _ :: _ => by simp [T3, cmpB]
  | [], _ :: _, [] => by simp [T3, cmpB]
  | [], _ :: _, _ :: _ => by
    rename_i a y b z
    have := cmpB_bd (a :: y) (b :: z)
    simp only [T3, cmpB] at *
    refine ⟨?_, ?_, ?_, ?_⟩ <;> repeat' split
    all_goals simp_all
  | _ :: _, [], [] => by simp [T3, cmpB]
  | _ :: _, [], _ :: _ => by simp [T3, cmpB]
  | _ :: _, _ :: _, [] => by
    rename_i a x b y
    simp only [T3, cmpB] at *
    refine ⟨?_, ?_, ?_, ?_⟩ <;> repeat' split
    all_goals simp_all
  | a :: x, b :: y, c :: z => by
    have ih := cmpB_T3 x y z
    have e : ∀ (p q : UInt8) (u v : List UInt8), cmpB (p :: u) (q :: v) = orI (cmpI p.toNat q.toNat) (cmpB u v) := fun p q u v => by
      simp only [cmpB, cmpI, orI, UInt8.lt_iff_toNat_lt]
      repeat' split
      all_goals first | rfl | omega
    rw [e, e, e]
    exact T3.or (cmpI_bd _ _) (cmpI_bd _ _) (cmpI_bd _ _) (cmpI_T3 _ _ _) (fun _ _ => ih)
mutual
theorem cT_T3 : ∀ a b c : Tm, T3 (cT a b) (cT b c) (cT a c)
  | .mk k n s ts, .mk k2 n2 s2 us, .mk k3 n3 s3 vs => by
    rw [cT, cT, cT]
    refine T3.or (cmpI_bd _ _) (cmpI_bd _ _) (cmpI_bd _ _) (cmpI_T3 _ _ _) (fun _ _ => T3.or (cmpI_bd _ _) (cmpI_bd _ _) (cmpI_bd _ _) (cmpI_T3 _ _ _) (fun _ _ => T3.or (cmpI_bd _ _) (cmpI_bd _ _) (cmpI_bd _ _) (cmpI_T3 _ _ _) (fun h1 h2 => T3.or (cmpB_bd _ _) (cmpB_bd _ _) (cmpB_bd _ _) (cmpB_T3 _ _ _) (fun _ _ => ?_))))
    have e1 := cmpI_eq h1
    have e2 := cmpI_eq h2
    exact cL_T3 ts us vs (by omega) (by omega)
theorem cL_T3 : ∀ ts us vs : List Tm, ts.length = us.length → us.length = vs.length → T3 (cL ts us) (cL us vs) (cL ts vs)
  | t :: ts, u :: us, v :: vs, h1, h2 => by
    rw [cL, cL, cL]
    exact T3.or (cT_bd _ _) (cT_bd _ _) (cT_bd _ _) (cT_T3 t u v) (fun _ _ => cL_T3 ts us vs (by simpa using h1) (by simpa using h2))
  | [], [], [], _, _ => by simp [T3, cL]
  | [], _ :: _, _, h1, _ => by simp at h1
  | _ :: _, [], _, h1, _ => by simp at h1
  | _, [], _ :: _, _, h2 => by simp at h2
  | _, _ :: _, [], _, h2 => by simp at h2
end
theorem cT_le {a b c : Tm} (h1 : cT a b ≤ 0) (h2 : cT b c ≤ 0) : cT a c ≤ 0 := by
  have h := cT_T3 a b c
  have b1 := cT_bd a b
  have b2 := cT_bd b c
  unfold T3 at h
  omega
theorem cT_lt {a b c : Tm} (h1 : cT a b ≤ 0) (h2 : cT b c < 0) : cT a c < 0 := by
  have h := cT_T3 a b c
  have b1 := cT_bd a b
  have b2 := cT_bd b c
  unfold T3 at h
  omega
theorem cT_lt' {a b c : Tm} (h1 : cT a b < 0) (h2 : cT b c ≤ 0) : cT a c < 0 := by
  have h := cT_T3 a b c
  have b1 := cT_bd a b
  have b2 := cT_bd b c
  unfold T3 at h
  omega

end Go.Proofs.HT
