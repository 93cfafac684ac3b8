/- The contract of the specification's Parse, and the walk of the law IntsParse. -/
import Derived.Test.YthfclbbmioenlaaDoorE1
import Derived.Test.YthfclbbmioenlaaDoorC1
namespace Go.Proofs.YthfclbbmioenlaaDoor
open Go.RowKit

/-- The value of a digit as the specification has it: 99 where it is none. -/
def dR (c : UInt8) : Int := if dV c = 36 then 99 else dV c
theorem dR_lt (c : UInt8) (b : Int) (h36 : b ≤ 36) : dR c < b ↔ dV c < b := by
  have := dV_nonneg c
  unfold dR; split <;> omega
theorem dR_eq (c : UInt8) (h : dV c < 36) : dR c = dV c := by unfold dR; rw [if_neg (by omega)]

theorem rdigit_in (c : UInt8) (w : World) :
    Calls Tryd.prog 42 #[.int .u8 (c.toNat : Int)] w fun e w' => e = .returned (.int .i64 (dR c)) ∧ w = w' := by
  have hc : c.toNat < 256 := c.toNat_lt
  by_cases h1 : 48 ≤ c.toNat ∧ c.toNat ≤ 57
  · have H : Hid ((c.toNat : Int) - 48 = dR c) := by
      show _ = _
      have e : dV c = (c.toNat : Int) - 48 := by unfold dV; rw [if_pos h1]
      rw [dR_eq c (by omega), e]
    obtain ⟨a1, a2⟩ := h1
    go_enter Tryd.func42, Tryd.ntmps42
    go_wp2_with fail
    go_ret
    exact ⟨ret_int H.out, rfl⟩
  by_cases h2 : 97 ≤ c.toNat ∧ c.toNat ≤ 122
  · have H : Hid ((c.toNat : Int) - 97 + 10 = dR c) := by
      show _ = _
      have e : dV c = (c.toNat : Int) - 97 + 10 := by unfold dV; rw [if_neg h1, if_pos h2]
      rw [dR_eq c (by omega), e]
    obtain ⟨a1, a2⟩ := h2
    have a3 : ¬ (c.toNat : Int) ≤ 57 := by omega
    have q : decide ((c.toNat : Int) ≤ 57) = false := by simpa using a3
    clear h1
    go_enter Tryd.func42, Tryd.ntmps42
    go_wp2_with fail
    go_ret
    exact ⟨ret_int H.out, rfl⟩
  by_cases h3 : 65 ≤ c.toNat ∧ c.toNat ≤ 90
  · have H : Hid ((c.toNat : Int) - 65 + 10 = dR c) := by
      show _ = _
      have e : dV c = (c.toNat : Int) - 65 + 10 := by unfold dV; rw [if_neg h1, if_neg h2, if_pos h3]
      rw [dR_eq c (by omega), e]
    obtain ⟨a1, a2⟩ := h3
    have a3 : ¬ (c.toNat : Int) ≤ 57 := by omega
    have a4 : ¬ (97 : Int) ≤ (c.toNat : Int) := by omega
    clear h1 h2
    go_enter Tryd.func42, Tryd.ntmps42
    go_wp2_with fail
    go_ret
    exact ⟨ret_int H.out, rfl⟩
  · have H : Hid (99 = dR c) := by
      show _ = _
      have e : dV c = 36 := by unfold dV; rw [if_neg h1, if_neg h2, if_neg h3]
      unfold dR; rw [if_pos e]
    have g : c.toNat < 48 ∨ (57 < c.toNat ∧ c.toNat < 65) ∨ (90 < c.toNat ∧ c.toNat < 97) ∨ 122 < c.toNat := by omega
    clear h1 h2 h3
    rcases g with g | ⟨g, g2⟩ | ⟨g, g2⟩ | g
    all_goals
      go_enter Tryd.func42, Tryd.ntmps42
      go_wp2_with fail
      go_ret
      exact ⟨ret_int H.out, rfl⟩

/-- Is there a sign? -/
def sg (l : List UInt8) : Nat := match l with
  | [] => 0
  | c :: _ => if c = 45 then 1 else 0
theorem unS_drop (l : List UInt8) : unS l = l.drop (sg l) := by
  cases l with
  | nil => rfl
  | cons c r => by_cases h : c = 45 <;> simp [unS, sg, h]
theorem num_sg (b : Int) (l : List UInt8) : num b l = if sg l = 1 then -(mag b (unS l)) else mag b (unS l) := by
  cases l with
  | nil => rfl
  | cons c r => by_cases h : c = 45 <;> simp [unS, sg, num, h]
theorem sg_le (l : List UInt8) : sg l ≤ 1 ∧ sg l ≤ l.length := by
  cases l with
  | nil => exact ⟨by simp [sg], by simp [sg]⟩
  | cons c r => by_cases h : c = 45 <;> simp [sg, h]

theorem rparse_base (s : ByteArray) (b : Int) (hb : b < 2 ∨ 36 < b) (w : World) :
    Calls Tryd.prog 21 #[.string s, .int .i64 b] w fun e w' => e = .returned (.tuple #[.int .i64 0, .int .i64 1]) ∧ w = w' := by
  rcases hb with hb | hb
  · go_enter Tryd.func21, Tryd.ntmps21
    go_wp2_with fail
    go_ret2
    exact ⟨rfl, rfl⟩
  · have h2 : decide (b < 2) = false := by simp; omega
    go_enter Tryd.func21, Tryd.ntmps21
    go_wp2_with fail
    go_ret2
    exact ⟨rfl, rfl⟩

/-- What the collecting loop holds: the number below 0. -/
theorem mag_neg_step (b m : Int) (c : UInt8) : -(m) * b - dV c = -(m * b + dV c) := by rw [Int.neg_mul]; omega

theorem good_iff (b : Int) (l : List UInt8) : goodD b l = true ↔ l ≠ [] ∧ allD b l := by simp [goodD]

/-- The sign's test, in the walk's own words. -/
structure Sign (s : ByteArray) (f : Nat) : Prop where
  no : f = 0 → (s.size = 0 ∨ ∃ h : 0 < s.size, (((s[0]'h).toNat : Int) == 45) = false)
  yes : f = 1 → ∃ h : 0 < s.size, (((s[0]'h).toNat : Int) == 45) = true
theorem sign_of (s : ByteArray) : Sign s (sg s.data.toList) := by
  have hsz : s.size = s.data.toList.length := Lib.size_eq s
  cases hl : s.data.toList with
  | nil => exact ⟨fun _ => .inl (by rw [hsz, hl]; rfl), fun h => by simp [sg] at h⟩
  | cons c r =>
    have hpos : 0 < s.size := by rw [hsz, hl]; simp
    have hs0 : s[0]'hpos = c := by have := Lib.getD_at s 0 hpos; rw [hl] at this; exact this
    refine ⟨fun h => .inr ⟨hpos, ?_⟩, fun h => ⟨hpos, ?_⟩⟩
    · rw [hs0]
      have hc : c ≠ 45 := by intro e; subst e; simp [sg] at h
      have hn : c.toNat ≠ 45 := fun e => hc (UInt8.toNat_inj.1 e)
      simp; omega
    · rw [hs0]
      have hc : c = 45 := by
        cases hd : decide (c = 45)
        · have h2 : c ≠ 45 := by simpa using hd
          simp [sg, h2] at h
        · simpa using hd
      rw [hc]; rfl
/-- PARSE -/
theorem out_both {M : Int} (h : 9223372036854775808 < M) (f : Nat) (n : Int) (hn : n = if f = 1 then -M else M) : 0 = rV n ∧ 10 = rE n := by
  refine rr_out ?_
  subst hn; split <;> omega

theorem rparse_empty (s : ByteArray) (b : Int) (h2 : 2 ≤ b) (h36 : b ≤ 36) (hz : s.size = 0) (w : World) :
    Calls Tryd.prog 21 #[.string s, .int .i64 b] w fun e w' => e = .returned (.tuple #[.int .i64 0, .int .i64 3]) ∧ w = w' := by
  have q : decide (b < 2) = false := by simp; omega
  have q2 : ((s.size : Int) == 0) = true := by rw [hz]; rfl
  have q3 : decide (0 < s.size) = false := by rw [hz]; rfl
  have hz2 : s.size ≤ 0 := by omega
  clear hz
  go_enter Tryd.func21, Tryd.ntmps21
  go_wp2_with fail
  go_ret2
  exact ⟨rfl, rfl⟩


set_option maxRecDepth 100000 in
set_option maxHeartbeats 4000000 in
theorem rparse_0 (s : ByteArray) (b : Int) (h2 : 2 ≤ b) (h36 : b ≤ 36) (hs : s.size ≤ 281474976710656) (hsg : sg s.data.toList = 0) (hpos : 0 < s.size) (hq : (((s[0]'hpos).toNat : Int) == 45) = false) (w : World) :
    Calls Tryd.prog 21 #[.string s, .int .i64 b] w fun e w' => e = .returned (.tuple #[.int .i64 (if goodD b (unS s.data.toList) then rV (num b s.data.toList) else 0), .int .i64 (if goodD b (unS s.data.toList) then rE (num b s.data.toList) else 3)]) ∧ w = w' := by
  have hsz : s.data.toList.length = s.size := by rw [Lib.size_eq]
  have q : decide (b < 2) = false := by simp; omega
  have q0 : decide (0 < s.size) = true := by simpa using hpos
  have hun : unS s.data.toList = s.data.toList.drop 0 := by rw [unS_drop, hsg]
  have hnum : num b s.data.toList = mag b (s.data.toList.drop 0) := by rw [num_sg, hsg, hun]; rfl
  rw [hun, hnum]
  obtain ⟨L, hL⟩ : ∃ L, L = s.data.toList.drop 0 := ⟨_, rfl⟩
  rw [← hL]
  have hLl : L.length = s.size - 0 := by rw [hL, List.length_drop, hsz]
  have HLd : Hid (∀ k (hk : k < s.size), 0 ≤ k → s[k] ∈ L) := fun k hk hk2 => by
    have e1 : L[k - 0]'(by omega) = s[k] := by
      simp only [hL, List.getElem_drop]
      have e3 : s.data.toList[k]'(by omega) = s[k] := rfl
      rw [← e3]
      congr 1; omega
    rw [← e1]; exact List.getElem_mem _
  have HLm : Hid (∀ c ∈ L, ∃ k, ∃ hk : k < s.size, 0 ≤ k ∧ c = s[k]) := fun c hc => by
    obtain ⟨i, hi, rfl⟩ := List.getElem_of_mem hc
    refine ⟨0 + i, by omega, by omega, ?_⟩
    simp only [hL, List.getElem_drop]; rfl
  have HLk : Hid (∀ k (hk : k < s.size), 0 ≤ k → L.drop (k - 0) = s[k] :: L.drop (k + 1 - 0)) := fun k hk hk2 => by
    rw [List.drop_eq_getElem_cons (show k - 0 < L.length by omega), show k - 0 + 1 = k + 1 - 0 by omega]
    congr 1
    simp only [hL, List.getElem_drop]
    have e3 : s.data.toList[k]'(by omega) = s[k] := rfl
    rw [← e3]
    congr 1; omega
  clear hL hun hnum hsg
  obtain ⟨V, hV⟩ : ∃ V, V = if goodD b L then rV (mag b L) else 0 := ⟨_, rfl⟩
  obtain ⟨E, hE⟩ : ∃ E, E = if goodD b L then rE (mag b L) else 3 := ⟨_, rfl⟩
  rw [← hV, ← hE]
  have HV := Lib.hid hV
  have HE := Lib.hid hE
  clear hV hE
  have hlen : ¬ s.size = 0 := by omega
  have q2 : ((s.size : Int) == 0) = false := by rw [beq_eq_false_iff_ne]; omega
  have hgt : 0 < s.size := by omega
  have HLn := Lib.hid hLl
  clear hlen hsz hLl
  go_enter Tryd.func21, Tryd.ntmps21
  go_wp2_with fail
  go_loop [7] (fun i => ∃ k : Nat, k ≤ s.size ∧ 0 ≤ k ∧ i = .int .i64 k ∧ Hid (∀ j (hj : j < s.size), 0 ≤ j → j < k → dV s[j] < b)) (fun i => s.size - (intOf i).toNat)
  case atStart => exact ⟨0, by omega, by omega, rfl, fun j hj h3 h => absurd h (by omega)⟩
  case round =>
    obtain ⟨k, hk, hk2, rfl, hI⟩ := hrel
    by_cases hlt : k < s.size
    · by_cases hd : b ≤ dR s[k]
      · have H : Hid (0 = V ∧ 3 = E) := by
          show _ ∧ _
          rw [HV.out, HE.out]
          have hg : goodD b L = false := by
            simp only [goodD, decide_eq_false_iff_not, not_and]
            intro _ h
            have h3 := h s[k] (HLd.out k hlt hk2)
            have h4 := (dR_lt s[k] b h36).2 h3
            omega
          rw [hg]; exact ⟨rfl, rfl⟩
        clear hI
        go_wp2_with (go_at_call 42; refine (rdigit_in _ _).mono ?_; rintro e w' ⟨rfl, rfl⟩)
        go_ret2
        exact ⟨pow_one_ret H.out, rfl⟩
      · have hN : Hid (∀ j (hj : j < s.size), 0 ≤ j → j < k + 1 → dV s[j] < b) := fun j hj hj2 hjk => by
          by_cases e : j = k
          · subst e; exact (dR_lt s[j] b h36).1 (by omega)
          · exact hI.out j hj hj2 (by omega)
        have hd2 : dR s[k] < b := by omega
        clear hI hd
        go_wp2_with (go_at_call 42; refine (rdigit_in _ _).mono ?_; rintro e w' ⟨rfl, rfl⟩)
        go_round
        case rel => exact ⟨k + 1, by omega, by omega, by go_num, hN⟩
        case measure => simp [intOf]; omega
    · have hall : allD b L := fun c hc => by
        obtain ⟨j, hj, hj2, rfl⟩ := HLm.out c hc
        exact hI.out j hj hj2 (by omega)
      have hne : L ≠ [] := fun e => by have := HLn.out; rw [e] at this; simp at this; omega
      have hg : goodD b L = true := (good_iff b L).2 ⟨hne, hall⟩
      have HA := Lib.hid hall
      obtain ⟨M, hM⟩ : ∃ M, M = mag b L := ⟨_, rfl⟩
      have HM := Lib.hid hM
      have hRes : Hid (V = rV (M) ∧ E = rE (M)) := by
        show _ ∧ _
        rw [HV.out, HE.out, hg, if_pos rfl, if_pos rfl, hM]; exact ⟨rfl, rfl⟩
      clear hM hall hne hg hI
      have b0 : -9223372036854775808 ≤ b := by omega
      have b1 : b ≤ 9223372036854775807 := by omega
      go_wp2_with fail
      go_loop [8, 9] (fun v i => ∃ (k : Nat) (m : Int), k ≤ s.size ∧ 0 ≤ k ∧ i = .int .i64 k ∧ v = .int .i64 m ∧ -9223372036854775808 ≤ m ∧ m ≤ 0 ∧ Hid (M = magF b (-m) (L.drop (k - 0)))) (fun _ i => s.size - (intOf i).toNat)
      case atStart => exact ⟨0, 0, by omega, by omega, rfl, rfl, by omega, by omega, HM.out⟩
      case round =>
        obtain ⟨k, m, hk, hk2, rfl, rfl, m0, m2, hx⟩ := hrel
        have m1 : m ≤ 9223372036854775807 := by omega
        by_cases hlt : k < s.size
        · have hdk : dV s[k] < b := HA.out _ (HLd.out k hlt hk2)
          have hd0 := (dV_nonneg s[k]).1
          have hdr : dR s[k] = dV s[k] := dR_eq _ (by omega)
          have hM2 := hx.out
          rw [HLk.out k hlt hk2, magF_cons] at hM2
          have hmb : -m * b = -(m * b) := Int.neg_mul m b
          have hpos2 : 0 ≤ -(m * b) := by rw [← hmb]; exact Int.mul_nonneg (by omega) (by omega)
          have hge : -(m * b) + dV s[k] ≤ M := by rw [hM2, hmb]; exact magF_ge b (by omega) _ _ (by omega)
          obtain ⟨T, hT⟩ : ∃ T, T = m * b := ⟨_, rfl⟩
          rw [hmb] at hM2
          have HMT : Hid (m * b = T) := hT.symm
          rw [← hT] at hM2 hpos2 hge
          have HM3 := Lib.hid hM2
          clear hM2 hmb hx
          obtain ⟨d, hd⟩ : ∃ d, d = dV s[k] := ⟨_, rfl⟩
          rw [← hd] at hge hd0 hdk hdr
          have HD := Lib.hid hd
          clear hd
          have HC : Hid (∀ w, Calls Tryd.prog 42 #[.int .u8 ((s[k]'hlt).toNat : Int)] w fun e w' => e = .returned (.int .i64 d) ∧ w = w') := by
            show ∀ w, _
            rw [← hdr]; exact rdigit_in _
          clear hdr
          cases hin : inR T
          · have H : Hid (0 = V ∧ rE T = E) := by
              show _ ∧ _
              rw [hRes.out.1, hRes.out.2]
              rw [inR_no] at hin
              have h3 := out_both (M := M) (by omega) 0 (M) rfl
              have h4 : rE T = 10 := by rw [rE, inR_no.2 hin]; rfl
              rw [h4]; exact h3
            have hq1 : (rE T == 0) = false := by rw [rE, hin]; rfl
            have hq2 : (rE T != 0) = true := by rw [rE, hin]; rfl
            clear hin hge hpos2 hd0 hdk hT
            go_wp2_with (go_at_call 31; refine (r_mul _ _ m0 m1 b0 b1 _).mono ?_; rw [HMT.out]; rintro e w' ⟨rfl, rfl⟩)
            go_ret2
            exact ⟨pow_one_ret H.out, rfl⟩
          · have hq1 : (rE T == 0) = true := by rw [rE, hin]; rfl
            have hq2 : (rE T != 0) = false := by rw [rE, hin]; rfl
            have hrv : rV T = T := by rw [rV, hin]; rfl
            have HRV := Lib.hid hrv
            obtain ⟨t0, t1⟩ := inR_iff.1 hin
            clear hrv hin
            cases hin2 : inR (T - d)
            · have H : Hid (0 = V ∧ rE (T - d) = E) := by
                show _ ∧ _
                rw [hRes.out.1, hRes.out.2]
                rw [inR_no] at hin2
                have h3 := out_both (M := M) (by omega) 0 (M) rfl
                have h4 : rE (T - d) = 10 := by rw [rE, inR_no.2 hin2]; rfl
                rw [h4]; exact h3
              have hq3 : (rE (T - d) == 0) = false := by rw [rE, hin2]; rfl
              have hq4 : (rE (T - d) != 0) = true := by rw [rE, hin2]; rfl
              clear hin2 hge hpos2 hT
              go_wp2_with (first | (go_at_call 31; refine (r_mul _ _ m0 m1 b0 b1 _).mono ?_; rw [HMT.out, HRV.out]; rintro e w' ⟨rfl, rfl⟩) | (go_at_call 42; refine (HC.out _).mono ?_; rintro e w' ⟨rfl, rfl⟩) | (go_at_call 27; refine (r_sub _ _ t0 t1 (by omega) (by omega) _).mono ?_; rintro e w' ⟨rfl, rfl⟩))
              go_ret2
              exact ⟨pow_one_ret H.out, rfl⟩
            · have hq3 : (rE (T - d) == 0) = true := by rw [rE, hin2]; rfl
              have hq4 : (rE (T - d) != 0) = false := by rw [rE, hin2]; rfl
              have hrv2 : rV (T - d) = T - d := by rw [rV, hin2]; rfl
              obtain ⟨z0, z1⟩ := inR_iff.1 hin2
              have HZ : Hid (-9223372036854775808 ≤ rV (T - d) ∧ rV (T - d) ≤ 0 ∧ M = magF b (-(rV (T - d))) (L.drop (k + 1 - 0))) := by
                show _ ∧ _
                rw [hrv2]
                refine ⟨z0, by omega, ?_⟩
                rw [HM3.out, ← HD.out, show -(T - d) = -T + d by omega]
              clear hin2 hge hrv2 z0 z1 hT
              go_wp2_with (first | (go_at_call 31; refine (r_mul _ _ m0 m1 b0 b1 _).mono ?_; rw [HMT.out, HRV.out]; rintro e w' ⟨rfl, rfl⟩) | (go_at_call 42; refine (HC.out _).mono ?_; rintro e w' ⟨rfl, rfl⟩) | (go_at_call 27; refine (r_sub _ _ t0 t1 (by omega) (by omega) _).mono ?_; rintro e w' ⟨rfl, rfl⟩))
              go_round
              case rel => exact ⟨k + 1, _, by omega, by omega, by go_num, rfl, HZ.out.1, HZ.out.2.1, HZ.out.2.2⟩
              case measure => simp [intOf]; omega
        · have hMm : M = -m := by
            rw [hx.out, List.drop_eq_nil_of_le (by have := HLn.out; omega)]; rfl
          have H : Hid (rV (-m) = V ∧ rE (-m) = E) := by
            show _ ∧ _
            rw [hRes.out.1, hRes.out.2, hMm]; exact ⟨rfl, rfl⟩
          clear hMm hx
          go_wp2_with (go_at_call 27; refine (r_neg _ m0 m1 _).mono ?_; rintro e w' ⟨rfl, rfl⟩)
          go_ret2
          exact ⟨pow_one_ret H.out, rfl⟩


set_option maxRecDepth 100000 in
set_option maxHeartbeats 4000000 in
theorem rparse_1 (s : ByteArray) (b : Int) (h2 : 2 ≤ b) (h36 : b ≤ 36) (hs : s.size ≤ 281474976710656) (hsg : sg s.data.toList = 1) (hpos : 0 < s.size) (hq : (((s[0]'hpos).toNat : Int) == 45) = true) (w : World) :
    Calls Tryd.prog 21 #[.string s, .int .i64 b] w fun e w' => e = .returned (.tuple #[.int .i64 (if goodD b (unS s.data.toList) then rV (num b s.data.toList) else 0), .int .i64 (if goodD b (unS s.data.toList) then rE (num b s.data.toList) else 3)]) ∧ w = w' := by
  have hsz : s.data.toList.length = s.size := by rw [Lib.size_eq]
  have q : decide (b < 2) = false := by simp; omega
  have q0 : decide (0 < s.size) = true := by simpa using hpos
  have hun : unS s.data.toList = s.data.toList.drop 1 := by rw [unS_drop, hsg]
  have hnum : num b s.data.toList = -(mag b (s.data.toList.drop 1)) := by rw [num_sg, hsg, hun]; rfl
  rw [hun, hnum]
  obtain ⟨L, hL⟩ : ∃ L, L = s.data.toList.drop 1 := ⟨_, rfl⟩
  rw [← hL]
  have hLl : L.length = s.size - 1 := by rw [hL, List.length_drop, hsz]
  have HLd : Hid (∀ k (hk : k < s.size), 1 ≤ k → s[k] ∈ L) := fun k hk hk2 => by
    have e1 : L[k - 1]'(by omega) = s[k] := by
      simp only [hL, List.getElem_drop]
      have e3 : s.data.toList[k]'(by omega) = s[k] := rfl
      rw [← e3]
      congr 1; omega
    rw [← e1]; exact List.getElem_mem _
  have HLm : Hid (∀ c ∈ L, ∃ k, ∃ hk : k < s.size, 1 ≤ k ∧ c = s[k]) := fun c hc => by
    obtain ⟨i, hi, rfl⟩ := List.getElem_of_mem hc
    refine ⟨1 + i, by omega, by omega, ?_⟩
    simp only [hL, List.getElem_drop]; rfl
  have HLk : Hid (∀ k (hk : k < s.size), 1 ≤ k → L.drop (k - 1) = s[k] :: L.drop (k + 1 - 1)) := fun k hk hk2 => by
    rw [List.drop_eq_getElem_cons (show k - 1 < L.length by omega), show k - 1 + 1 = k + 1 - 1 by omega]
    congr 1
    simp only [hL, List.getElem_drop]
    have e3 : s.data.toList[k]'(by omega) = s[k] := rfl
    rw [← e3]
    congr 1; omega
  clear hL hun hnum hsg
  obtain ⟨V, hV⟩ : ∃ V, V = if goodD b L then rV (-(mag b L)) else 0 := ⟨_, rfl⟩
  obtain ⟨E, hE⟩ : ∃ E, E = if goodD b L then rE (-(mag b L)) else 3 := ⟨_, rfl⟩
  rw [← hV, ← hE]
  have HV := Lib.hid hV
  have HE := Lib.hid hE
  clear hV hE
  by_cases hlen : s.size = 1
  · have H : Hid (0 = V ∧ 3 = E) := by
      show _ ∧ _
      rw [HV.out, HE.out]
      have hnil : L = [] := List.length_eq_zero_iff.1 (by omega)
      have hg : goodD b L = false := by rw [hnil]; simp [goodD]
      rw [hg]; exact ⟨rfl, rfl⟩
    have q2 : ((s.size : Int) == 1) = true := by rw [hlen]; rfl
    clear hLl hsz hlen
    go_enter Tryd.func21, Tryd.ntmps21
    go_wp2_with fail
    go_ret2
    exact ⟨pow_one_ret H.out, rfl⟩
  have q2 : ((s.size : Int) == 1) = false := by rw [beq_eq_false_iff_ne]; omega
  have hgt : 1 < s.size := by omega
  have HLn := Lib.hid hLl
  clear hlen hsz hLl
  go_enter Tryd.func21, Tryd.ntmps21
  go_wp2_with fail
  go_loop [7] (fun i => ∃ k : Nat, k ≤ s.size ∧ 1 ≤ k ∧ i = .int .i64 k ∧ Hid (∀ j (hj : j < s.size), 1 ≤ j → j < k → dV s[j] < b)) (fun i => s.size - (intOf i).toNat)
  case atStart => exact ⟨1, by omega, by omega, rfl, fun j hj h3 h => absurd h (by omega)⟩
  case round =>
    obtain ⟨k, hk, hk2, rfl, hI⟩ := hrel
    by_cases hlt : k < s.size
    · by_cases hd : b ≤ dR s[k]
      · have H : Hid (0 = V ∧ 3 = E) := by
          show _ ∧ _
          rw [HV.out, HE.out]
          have hg : goodD b L = false := by
            simp only [goodD, decide_eq_false_iff_not, not_and]
            intro _ h
            have h3 := h s[k] (HLd.out k hlt hk2)
            have h4 := (dR_lt s[k] b h36).2 h3
            omega
          rw [hg]; exact ⟨rfl, rfl⟩
        clear hI
        go_wp2_with (go_at_call 42; refine (rdigit_in _ _).mono ?_; rintro e w' ⟨rfl, rfl⟩)
        go_ret2
        exact ⟨pow_one_ret H.out, rfl⟩
      · have hN : Hid (∀ j (hj : j < s.size), 1 ≤ j → j < k + 1 → dV s[j] < b) := fun j hj hj2 hjk => by
          by_cases e : j = k
          · subst e; exact (dR_lt s[j] b h36).1 (by omega)
          · exact hI.out j hj hj2 (by omega)
        have hd2 : dR s[k] < b := by omega
        clear hI hd
        go_wp2_with (go_at_call 42; refine (rdigit_in _ _).mono ?_; rintro e w' ⟨rfl, rfl⟩)
        go_round
        case rel => exact ⟨k + 1, by omega, by omega, by go_num, hN⟩
        case measure => simp [intOf]; omega
    · have hall : allD b L := fun c hc => by
        obtain ⟨j, hj, hj2, rfl⟩ := HLm.out c hc
        exact hI.out j hj hj2 (by omega)
      have hne : L ≠ [] := fun e => by have := HLn.out; rw [e] at this; simp at this; omega
      have hg : goodD b L = true := (good_iff b L).2 ⟨hne, hall⟩
      have HA := Lib.hid hall
      obtain ⟨M, hM⟩ : ∃ M, M = mag b L := ⟨_, rfl⟩
      have HM := Lib.hid hM
      have hRes : Hid (V = rV (-M) ∧ E = rE (-M)) := by
        show _ ∧ _
        rw [HV.out, HE.out, hg, if_pos rfl, if_pos rfl, hM]; exact ⟨rfl, rfl⟩
      clear hM hall hne hg hI
      have b0 : -9223372036854775808 ≤ b := by omega
      have b1 : b ≤ 9223372036854775807 := by omega
      go_wp2_with fail
      go_loop [8, 9] (fun v i => ∃ (k : Nat) (m : Int), k ≤ s.size ∧ 1 ≤ k ∧ i = .int .i64 k ∧ v = .int .i64 m ∧ -9223372036854775808 ≤ m ∧ m ≤ 0 ∧ Hid (M = magF b (-m) (L.drop (k - 1)))) (fun _ i => s.size - (intOf i).toNat)
      case atStart => exact ⟨1, 0, by omega, by omega, rfl, rfl, by omega, by omega, HM.out⟩
      case round =>
        obtain ⟨k, m, hk, hk2, rfl, rfl, m0, m2, hx⟩ := hrel
        have m1 : m ≤ 9223372036854775807 := by omega
        by_cases hlt : k < s.size
        · have hdk : dV s[k] < b := HA.out _ (HLd.out k hlt hk2)
          have hd0 := (dV_nonneg s[k]).1
          have hdr : dR s[k] = dV s[k] := dR_eq _ (by omega)
          have hM2 := hx.out
          rw [HLk.out k hlt hk2, magF_cons] at hM2
          have hmb : -m * b = -(m * b) := Int.neg_mul m b
          have hpos2 : 0 ≤ -(m * b) := by rw [← hmb]; exact Int.mul_nonneg (by omega) (by omega)
          have hge : -(m * b) + dV s[k] ≤ M := by rw [hM2, hmb]; exact magF_ge b (by omega) _ _ (by omega)
          obtain ⟨T, hT⟩ : ∃ T, T = m * b := ⟨_, rfl⟩
          rw [hmb] at hM2
          have HMT : Hid (m * b = T) := hT.symm
          rw [← hT] at hM2 hpos2 hge
          have HM3 := Lib.hid hM2
          clear hM2 hmb hx
          obtain ⟨d, hd⟩ : ∃ d, d = dV s[k] := ⟨_, rfl⟩
          rw [← hd] at hge hd0 hdk hdr
          have HD := Lib.hid hd
          clear hd
          have HC : Hid (∀ w, Calls Tryd.prog 42 #[.int .u8 ((s[k]'hlt).toNat : Int)] w fun e w' => e = .returned (.int .i64 d) ∧ w = w') := by
            show ∀ w, _
            rw [← hdr]; exact rdigit_in _
          clear hdr
          cases hin : inR T
          · have H : Hid (0 = V ∧ rE T = E) := by
              show _ ∧ _
              rw [hRes.out.1, hRes.out.2]
              rw [inR_no] at hin
              have h3 := out_both (M := M) (by omega) 1 (-M) rfl
              have h4 : rE T = 10 := by rw [rE, inR_no.2 hin]; rfl
              rw [h4]; exact h3
            have hq1 : (rE T == 0) = false := by rw [rE, hin]; rfl
            have hq2 : (rE T != 0) = true := by rw [rE, hin]; rfl
            clear hin hge hpos2 hd0 hdk hT
            go_wp2_with (go_at_call 31; refine (r_mul _ _ m0 m1 b0 b1 _).mono ?_; rw [HMT.out]; rintro e w' ⟨rfl, rfl⟩)
            go_ret2
            exact ⟨pow_one_ret H.out, rfl⟩
          · have hq1 : (rE T == 0) = true := by rw [rE, hin]; rfl
            have hq2 : (rE T != 0) = false := by rw [rE, hin]; rfl
            have hrv : rV T = T := by rw [rV, hin]; rfl
            have HRV := Lib.hid hrv
            obtain ⟨t0, t1⟩ := inR_iff.1 hin
            clear hrv hin
            cases hin2 : inR (T - d)
            · have H : Hid (0 = V ∧ rE (T - d) = E) := by
                show _ ∧ _
                rw [hRes.out.1, hRes.out.2]
                rw [inR_no] at hin2
                have h3 := out_both (M := M) (by omega) 1 (-M) rfl
                have h4 : rE (T - d) = 10 := by rw [rE, inR_no.2 hin2]; rfl
                rw [h4]; exact h3
              have hq3 : (rE (T - d) == 0) = false := by rw [rE, hin2]; rfl
              have hq4 : (rE (T - d) != 0) = true := by rw [rE, hin2]; rfl
              clear hin2 hge hpos2 hT
              go_wp2_with (first | (go_at_call 31; refine (r_mul _ _ m0 m1 b0 b1 _).mono ?_; rw [HMT.out, HRV.out]; rintro e w' ⟨rfl, rfl⟩) | (go_at_call 42; refine (HC.out _).mono ?_; rintro e w' ⟨rfl, rfl⟩) | (go_at_call 27; refine (r_sub _ _ t0 t1 (by omega) (by omega) _).mono ?_; rintro e w' ⟨rfl, rfl⟩))
              go_ret2
              exact ⟨pow_one_ret H.out, rfl⟩
            · have hq3 : (rE (T - d) == 0) = true := by rw [rE, hin2]; rfl
              have hq4 : (rE (T - d) != 0) = false := by rw [rE, hin2]; rfl
              have hrv2 : rV (T - d) = T - d := by rw [rV, hin2]; rfl
              obtain ⟨z0, z1⟩ := inR_iff.1 hin2
              have HZ : Hid (-9223372036854775808 ≤ rV (T - d) ∧ rV (T - d) ≤ 0 ∧ M = magF b (-(rV (T - d))) (L.drop (k + 1 - 1))) := by
                show _ ∧ _
                rw [hrv2]
                refine ⟨z0, by omega, ?_⟩
                rw [HM3.out, ← HD.out, show -(T - d) = -T + d by omega]
              clear hin2 hge hrv2 z0 z1 hT
              go_wp2_with (first | (go_at_call 31; refine (r_mul _ _ m0 m1 b0 b1 _).mono ?_; rw [HMT.out, HRV.out]; rintro e w' ⟨rfl, rfl⟩) | (go_at_call 42; refine (HC.out _).mono ?_; rintro e w' ⟨rfl, rfl⟩) | (go_at_call 27; refine (r_sub _ _ t0 t1 (by omega) (by omega) _).mono ?_; rintro e w' ⟨rfl, rfl⟩))
              go_round
              case rel => exact ⟨k + 1, _, by omega, by omega, by go_num, rfl, HZ.out.1, HZ.out.2.1, HZ.out.2.2⟩
              case measure => simp [intOf]; omega
        · have hMm : M = -m := by
            rw [hx.out, List.drop_eq_nil_of_le (by have := HLn.out; omega)]; rfl
          have H : Hid (m = V ∧ 0 = E) := by
            show _ ∧ _
            rw [hRes.out.1, hRes.out.2, show -M = m by omega]
            exact rr_in (by omega)
          clear hMm hx
          go_wp2_with fail
          go_ret2
          exact ⟨pow_one_ret H.out, rfl⟩


theorem ref_parse (s : ByteArray) (b : Int) (hs : s.size ≤ 281474976710656) (w : World) :
    Calls Tryd.prog 21 #[.string s, .int .i64 b] w fun e w' => e = .returned (.tuple #[.int .i64 (parV b s.data.toList), .int .i64 (parE b s.data.toList)]) ∧ w = w' := by
  by_cases hb : b < 2 ∨ 36 < b
  · rw [parV, parE, if_pos hb, if_pos hb]; exact rparse_base s b hb w
  rw [parV, parE, if_neg hb, if_neg hb]
  have h2 : 2 ≤ b := by omega
  have h36 : b ≤ 36 := by omega
  have hS := sign_of s
  obtain ⟨f1, _⟩ := sg_le s.data.toList
  by_cases hf : sg s.data.toList = 1
  · obtain ⟨hp, hq⟩ := hS.yes hf
    exact rparse_1 s b h2 h36 hs hf hp hq w
  · have hf0 : sg s.data.toList = 0 := by omega
    rcases hS.no hf0 with hz | ⟨hp, hq⟩
    · have hl : s.data.toList = [] := List.length_eq_zero_iff.1 (by rw [← Lib.size_eq]; exact hz)
      rw [hl]
      exact rparse_empty s b h2 h36 hz w
    · exact rparse_0 s b h2 h36 hs hf0 hp hq w

/-- The law's walk. -/
theorem parse_walk (s : ByteArray) (b : Int) (hs : s.size ≤ 281474976710656) (w : World) (hL : Laid w) :
    Calls Tryd.prog 5 #[.string s, .int .i64 b] w fun e w' => e = .returned (.bool true) ∧ Below w.heap.size w w' := by
  have HL := Lib.hid hL
  clear hL
  obtain ⟨V, hV⟩ : ∃ V, V = parV b s.data.toList := ⟨_, rfl⟩
  obtain ⟨E, hE⟩ : ∃ E, E = parE b s.data.toList := ⟨_, rfl⟩
  have f2 : (V == V) = true := by simp
  have f3 : (E == E) = true := by simp
  have HU : Hid (∀ w, Laid w → Calls Tryd.prog 20 #[.string s, .int .i64 b] w fun e w' => e = .returned (.tuple #[.int .i64 V, .int .i64 E]) ∧ Below w.heap.size w w') := by
    show ∀ w, _
    rw [hV, hE]; exact fun w h => parse_any s b hs w h
  have HR : Hid (∀ w, Calls Tryd.prog 21 #[.string s, .int .i64 b] w fun e w' => e = .returned (.tuple #[.int .i64 V, .int .i64 E]) ∧ w = w') := by
    show ∀ w, _
    rw [hV, hE]; exact ref_parse s b hs
  clear hV hE hs
  go_enter Tryd.func5, Tryd.ntmps5
  go_wp2_with fail
  refine (HU.out _ HL.out).mono ?_
  rintro e w1 ⟨rfl, B1⟩
  go_wp2_with fail
  refine (HR.out _).mono ?_
  rintro e w' ⟨rfl, rfl⟩
  go_wp2_with fail
  refine (example_any _ (HL.out.below B1)).mono ?_
  rintro e w4 ⟨rfl, hb4⟩
  have B4 := B1.trans (hb4.mono B1.size)
  clear B1 hb4
  go_wp2_with fail
  go_ret
  exact ⟨rfl, B4⟩

end Go.Proofs.YthfclbbmioenlaaDoor
