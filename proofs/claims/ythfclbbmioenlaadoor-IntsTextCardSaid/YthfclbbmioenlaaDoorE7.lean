/- The contract of the specification's Text, and the walk of the law IntsText. -/
import Derived.Test.YthfclbbmioenlaaDoorE1
import Derived.Test.YthfclbbmioenlaaDoorC1
namespace Go.Proofs.YthfclbbmioenlaaDoor
open Go.RowKit

theorem conv1 (w : World) (v : Int) : (convert 64 9 (.slice (some ⟨w.heap.size, 0, none⟩) 1 1)).run Tryd.prog (w.alloc (.cells #[.int .u8 v] 5)) = .ok (.string (strOfNums [v])) (w.alloc (.cells #[.int .u8 v] 5)) := by
  refine run_convert_bytes_arg _ 64 5 Tryd.underlying64 Tryd.underlying5 w.heap.size 0 1 1 [v] rfl (fun i hi => ?_) 9 Tryd.underlying9
  obtain rfl : i = 0 := by omega
  have h := (MapKept.heap_alloc w (.cells #[.int .u8 v] 5)).1
  unfold World.cell?
  rw [h]
  rfl

theorem nDig_le : ∀ (k u : Nat), u < 10 ^ (k + 1) → Lib.nDigits u ≤ k + 1
  | 0, u, h => by rw [Lib.nDigits_small (by simpa using h)]; omega
  | k + 1, u, h => by
    by_cases hu : u < 10
    · rw [Lib.nDigits_small hu]; omega
    · rw [Lib.nDigits_big hu]
      have := nDig_le k (u / 10) (by rw [Nat.pow_succ] at h; omega)
      omega
theorem dec_len (u : Nat) (h : u ≤ 9223372036854775808) : (Lib.decDigits u).length ≤ 20 := by
  rw [Lib.decDigits_length]; exact nDig_le 19 u (by omega)
theorem dec_small {u : Nat} (h : u < 10) : Lib.decDigits u = [UInt8.ofNat (48 + u)] := by rw [Lib.decDigits, dif_pos h]
theorem dec_big {u : Nat} (h : ¬ u < 10) : Lib.decDigits u = Lib.decDigits (u / 10) ++ [UInt8.ofNat (48 + u % 10)] := by rw [Lib.decDigits, dif_neg h]
theorem cons_data (v : Int) (S : ByteArray) : (strOfNums [v] ++ S).data.toList = UInt8.ofNat v.toNat :: S.data.toList := by
  simp [strOfNums]
theorem cons_size (v : Int) (S : ByteArray) : (strOfNums [v] ++ S).size = S.size + 1 := by
  rw [Lib.size_eq, cons_data, Lib.size_eq]; rfl
theorem str_of {s : ByteArray} {l : List UInt8} (h : s.data.toList = l) : Ending.returned (.string s) = .returned (.string ⟨l.toArray⟩) := by
  subst h; rw [Lib.mk_data]

/-- One more digit in front: u is what is left of the number, x what is left behind it. -/
theorem digit_more {N u : Nat} {S : ByteArray} {v : Int} (hS : Lib.decDigits N = Lib.decDigits u ++ S.data.toList) (hv : v.toNat = 48 + u % 10) :
    (u / 10 = 0 → (strOfNums [v] ++ S).data.toList = Lib.decDigits N) ∧ (u / 10 ≠ 0 → Lib.decDigits N = Lib.decDigits (u / 10) ++ (strOfNums [v] ++ S).data.toList) := by
  rw [cons_data, hv, hS]
  constructor
  · intro h
    have hu : u < 10 := by omega
    rw [dec_small hu, Nat.mod_eq_of_lt hu]; rfl
  · intro h
    have hu : ¬ u < 10 := by omega
    rw [dec_big hu, List.append_assoc]; rfl
theorem size_of {N u : Nat} {S : ByteArray} (hN : N ≤ 9223372036854775808) (hS : Lib.decDigits N = Lib.decDigits u ++ S.data.toList) : S.size ≤ 20 := by
  have h := dec_len N hN
  rw [hS, List.length_append, ← Lib.size_eq] at h
  omega

set_option maxHeartbeats 1000000 in
theorem rtext_pos (n : Int) (h0 : 0 ≤ n) (h1 : n ≤ 9223372036854775807) (w : World) :
    Calls Tryd.prog 23 #[.int .i64 n] w fun e w' => e = .returned (.string ⟨(Lib.itoa n).toArray⟩) ∧ Below w.heap.size w w' := by
  have HI : Hid (Lib.itoa n = Lib.decDigits n.toNat) := by show _ = _; rw [Lib.itoa, if_neg (by omega)]
  go_enter Tryd.func23, Tryd.ntmps23
  go_wp2_with fail
  go_loopw [3, 4] (fun s m wr => ∃ (S : ByteArray) (k : Int), s = .string S ∧ m = .int .i64 k ∧ 0 ≤ k ∧ k ≤ 9223372036854775807 ∧ Hid (Lib.decDigits n.toNat = Lib.decDigits k.toNat ++ S.data.toList) ∧ Below w.heap.size w wr) (fun _ m _ => (intOf m).toNat)
  case atStart => exact ⟨_, n, rfl, rfl, h0, h1, by show _ = _; simp, Below.refl _ _⟩
  case round =>
    obtain ⟨S, k, rfl, rfl, k0, k1, hS, hb⟩ := hrel
    have hc2 := conv1 wr
    have hsz := size_of (by omega) hS.out
    have hnd : ¬ 9223372036854775807 < (strOfNums [48 + k % 10]).size + S.size := by rw [strOfNums_size]; simp; omega
    obtain ⟨d1, d2⟩ := digit_more (v := 48 + k % 10) hS.out (by omega)
    by_cases hz : k / 10 = 0
    · have q : (k / 10 == 0) = true := by simpa using hz
      have H : Hid ((strOfNums [48 + k % 10] ++ S).data.toList = Lib.itoa n) := by show _ = _; rw [HI.out]; exact d1 (by omega)
      clear d1 d2 hz hS hsz
      go_wp2_with fail
      go_ret
      exact ⟨str_of H.out, hb.alloc hb.size _⟩
    · have q : (k / 10 == 0) = false := by simpa using hz
      have H : Hid (Lib.decDigits n.toNat = Lib.decDigits (k / 10).toNat ++ (strOfNums [48 + k % 10] ++ S).data.toList) := by
        show _ = _
        rw [show (k / 10).toNat = k.toNat / 10 by omega]; exact d2 (by omega)
      clear d1 d2 hS hsz
      go_wp2_with fail
      go_roundw
      case rel => exact ⟨_, k / 10, rfl, rfl, by omega, by omega, H, hb.alloc hb.size _⟩
      case measure => simp [intOf]; omega

set_option maxHeartbeats 1000000 in
theorem rtext_neg (n : Int) (h0 : n < 0) (h1 : -9223372036854775808 ≤ n) (w : World) :
    Calls Tryd.prog 23 #[.int .i64 n] w fun e w' => e = .returned (.string ⟨(Lib.itoa n).toArray⟩) ∧ Below w.heap.size w w' := by
  have HI : Hid (Lib.itoa n = 45 :: Lib.decDigits n.natAbs) := by show _ = _; rw [Lib.itoa, if_pos h0]
  go_enter Tryd.func23, Tryd.ntmps23
  go_wp2_with fail
  go_loopw [3, 4] (fun s m wr => ∃ (S : ByteArray) (k : Int), s = .string S ∧ m = .int .i64 k ∧ k ≤ 0 ∧ -9223372036854775808 ≤ k ∧ Hid (Lib.decDigits n.natAbs = Lib.decDigits k.natAbs ++ S.data.toList) ∧ Below w.heap.size w wr) (fun _ m _ => (intOf m).natAbs)
  case atStart => exact ⟨_, n, rfl, rfl, by omega, h1, by show _ = _; simp, Below.refl _ _⟩
  case round =>
    obtain ⟨S, k, rfl, rfl, k0, k1, hS, hb⟩ := hrel
    have hc2 := conv1 wr
    have hsz := size_of (by omega) hS.out
    have hf := tmod_facts k 10 (by omega)
    have hmod : (k.tmod 10).natAbs = k.natAbs % 10 := Int.natAbs_tmod k 10
    have hdiv : (k.tdiv 10).natAbs = k.natAbs / 10 := Int.natAbs_tdiv k 10
    obtain ⟨D, hD⟩ : ∃ D, D = k.tmod 10 := ⟨_, rfl⟩
    obtain ⟨Q, hQ⟩ : ∃ Q, Q = k.tdiv 10 := ⟨_, rfl⟩
    rw [← hD, ← hQ] at hf
    rw [← hD] at hmod
    rw [← hQ] at hdiv
    have hq0 : Q ≤ 0 := by omega
    have hq1 : -9223372036854775808 ≤ Q := by omega
    have hd0 : D ≤ 0 := by omega
    have hd1 : -10 < D := by omega
    have eD := hD.symm
    have eQ : wrap64 (k.tdiv 10) = Q := by rw [← hQ]; exact wrap_of (inR_iff.2 (by omega))
    have eQ2 := hQ.symm
    clear hD hQ
    have qd : D < 0 ∨ 0 ≤ D := by omega
    rcases qd with qd | qd
    · have hnd : ¬ 9223372036854775807 < (strOfNums [48 + -D]).size + S.size := by rw [strOfNums_size]; simp; omega
      obtain ⟨d1, d2⟩ := digit_more (v := 48 + -D) hS.out (by omega)
      by_cases hz : Q = 0
      · have q : (Q == 0) = true := by simpa using hz
        have hnd2 : ¬ 9223372036854775807 < 1 + ((strOfNums [48 + -D]).size + S.size) := by rw [strOfNums_size]; simp; omega
        have H : Hid (({ data := #[45] } ++ (strOfNums [48 + -D] ++ S) : ByteArray).data.toList = Lib.itoa n) := by
          show _ = _
          rw [HI.out, ← d1 (by omega)]; simp
        clear d1 d2 hz hS hsz hf hmod hdiv
        go_wp2_with fail
        go_ret
        exact ⟨str_of H.out, hb.alloc hb.size _⟩
      · have q : (Q == 0) = false := by simpa using hz
        have H : Hid (Lib.decDigits n.natAbs = Lib.decDigits Q.natAbs ++ (strOfNums [48 + -D] ++ S).data.toList) := by
          show _ = _
          rw [hdiv]; exact d2 (by omega)
        have hlt : Q.natAbs < k.natAbs := by omega
        clear d1 d2 hS hsz hf hmod hdiv
        go_wp2_with fail
        go_roundw
        case rel => exact ⟨_, Q, rfl, rfl, hq0, hq1, H, hb.alloc hb.size _⟩
        case measure => exact hlt
    · have hnd : ¬ 9223372036854775807 < (strOfNums [48 + D]).size + S.size := by rw [strOfNums_size]; simp; omega
      obtain ⟨d1, d2⟩ := digit_more (v := 48 + D) hS.out (by omega)
      by_cases hz : Q = 0
      · have q : (Q == 0) = true := by simpa using hz
        have hnd2 : ¬ 9223372036854775807 < 1 + ((strOfNums [48 + D]).size + S.size) := by rw [strOfNums_size]; simp; omega
        have H : Hid (({ data := #[45] } ++ (strOfNums [48 + D] ++ S) : ByteArray).data.toList = Lib.itoa n) := by
          show _ = _
          rw [HI.out, ← d1 (by omega)]; simp
        clear d1 d2 hz hS hsz hf hmod hdiv
        go_wp2_with fail
        go_ret
        exact ⟨str_of H.out, hb.alloc hb.size _⟩
      · have q : (Q == 0) = false := by simpa using hz
        have H : Hid (Lib.decDigits n.natAbs = Lib.decDigits Q.natAbs ++ (strOfNums [48 + D] ++ S).data.toList) := by
          show _ = _
          rw [hdiv]; exact d2 (by omega)
        have hlt : Q.natAbs < k.natAbs := by omega
        clear d1 d2 hS hsz hf hmod hdiv
        go_wp2_with fail
        go_roundw
        case rel => exact ⟨_, Q, rfl, rfl, hq0, hq1, H, hb.alloc hb.size _⟩
        case measure => exact hlt

/-- The specification's Text is the decimal form. -/
theorem ref_text (n : Int) (h0 : -9223372036854775808 ≤ n) (h1 : n ≤ 9223372036854775807) (w : World) :
    Calls Tryd.prog 23 #[.int .i64 n] w fun e w' => e = .returned (.string ⟨(Lib.itoa n).toArray⟩) ∧ Below w.heap.size w w' := by
  by_cases h : n < 0
  · exact rtext_neg n h h0 w
  · exact rtext_pos n (by omega) h1 w

/-! Parse of the decimal form. -/
theorem dV_dig (u : Nat) (h : u < 10) : dV (UInt8.ofNat (48 + u)) = u := by
  have e : (UInt8.ofNat (48 + u)).toNat = 48 + u := by
    rw [UInt8.toNat_ofNat']; omega
  unfold dV; rw [e, if_pos (by omega)]; omega
theorem magF_append (b x : Int) (l m : List UInt8) : magF b x (l ++ m) = magF b (magF b x l) m := by simp [magF]
theorem dec_good : ∀ (f u : Nat), u < f → allD 10 (Lib.decDigits u) ∧ mag 10 (Lib.decDigits u) = u ∧ Lib.decDigits u ≠ [] ∧ ∀ c ∈ Lib.decDigits u, c ≠ 45
  | 0, _, h => absurd h (by omega)
  | f + 1, u, h => by
    have hne : ∀ x : Nat, x < 10 → UInt8.ofNat (48 + x) ≠ 45 := fun x hx e => by
      have e2 : (UInt8.ofNat (48 + x)).toNat = 45 := by rw [e]; rfl
      rw [UInt8.toNat_ofNat'] at e2; omega
    by_cases hu : u < 10
    · rw [dec_small hu]
      refine ⟨?_, ?_, by simp, ?_⟩
      · intro c hc
        rw [List.mem_singleton] at hc
        rw [hc, dV_dig u hu]; omega
      · show (0 : Int) * 10 + dV (UInt8.ofNat (48 + u)) = u
        rw [dV_dig u hu]; omega
      · intro c hc
        rw [List.mem_singleton] at hc
        rw [hc]; exact hne u hu
    · rw [dec_big hu]
      obtain ⟨i1, i2, i3, i4⟩ := dec_good f (u / 10) (by omega)
      have hm : u % 10 < 10 := by omega
      refine ⟨?_, ?_, by simp, ?_⟩
      · intro c hc
        rw [List.mem_append, List.mem_singleton] at hc
        rcases hc with hc | hc
        · exact i1 c hc
        · rw [hc, dV_dig _ hm]; omega
      · show magF 10 0 (Lib.decDigits (u / 10) ++ [UInt8.ofNat (48 + u % 10)]) = u
        rw [magF_append]
        show mag 10 (Lib.decDigits (u / 10)) * 10 + dV (UInt8.ofNat (48 + u % 10)) = u
        rw [i2, dV_dig _ hm]; omega
      · intro c hc
        rw [List.mem_append, List.mem_singleton] at hc
        rcases hc with hc | hc
        · exact i4 c hc
        · rw [hc]; exact hne _ hm
theorem good_iff10 (l : List UInt8) : goodD 10 l = true ↔ l ≠ [] ∧ allD 10 l := by simp [goodD]
theorem parse_itoa (n : Int) (h0 : -9223372036854775808 ≤ n) (h1 : n ≤ 9223372036854775807) : parV 10 (Lib.itoa n) = n ∧ parE 10 (Lib.itoa n) = 0 := by
  have hin := inR_iff.2 ⟨h0, h1⟩
  have hb : ¬ ((10 : Int) < 2 ∨ (36 : Int) < 10) := by omega
  rw [parV, parE, if_neg hb, if_neg hb]
  by_cases h : n < 0
  · obtain ⟨i1, i2, i3, _⟩ := dec_good (n.natAbs + 1) n.natAbs (by omega)
    have e : Lib.itoa n = 45 :: Lib.decDigits n.natAbs := by rw [Lib.itoa, if_pos h]
    have hg : goodD 10 (unS (Lib.itoa n)) = true := by rw [e]; exact (good_iff10 _).2 ⟨i3, i1⟩
    have hn : num 10 (Lib.itoa n) = n := by
      rw [e]
      show (if (45 : UInt8) = 45 then -(mag 10 (Lib.decDigits n.natAbs)) else mag 10 (45 :: Lib.decDigits n.natAbs)) = n
      rw [if_pos rfl, i2]; omega
    rw [hg, if_pos rfl, if_pos rfl, hn, rV, rE, hin]; exact ⟨rfl, rfl⟩
  · obtain ⟨i1, i2, i3, i4⟩ := dec_good (n.toNat + 1) n.toNat (by omega)
    have e : Lib.itoa n = Lib.decDigits n.toNat := by rw [Lib.itoa, if_neg h]
    have hu : unS (Lib.itoa n) = Lib.decDigits n.toNat ∧ num 10 (Lib.itoa n) = mag 10 (Lib.decDigits n.toNat) := by
      rw [e]
      cases hl : Lib.decDigits n.toNat with
      | nil => exact absurd hl i3
      | cons c r =>
        have hc : c ≠ 45 := i4 c (by rw [hl]; simp)
        simp [unS, num, hc]
    have hg : goodD 10 (unS (Lib.itoa n)) = true := by rw [hu.1]; exact (good_iff10 _).2 ⟨i3, i1⟩
    have hn : num 10 (Lib.itoa n) = n := by rw [hu.2, i2]; omega
    rw [hg, if_pos rfl, if_pos rfl, hn, rV, rE, hin]; exact ⟨rfl, rfl⟩
theorem itoa_size (n : Int) (h0 : -9223372036854775808 ≤ n) (h1 : n ≤ 9223372036854775807) : (⟨(Lib.itoa n).toArray⟩ : ByteArray).size ≤ 281474976710656 := by
  rw [mk_size]
  unfold Lib.itoa
  split
  · have := dec_len n.natAbs (by omega)
    simp; omega
  · have := dec_len n.toNat (by omega)
    omega

/-- The law's walk. -/
theorem text_walk (n : Int) (h0 : -9223372036854775808 ≤ n) (h1 : n ≤ 9223372036854775807) (w : World) (hL : Laid w) :
    Calls Tryd.prog 6 #[.int .i64 n] w fun e w' => e = .returned (.bool true) ∧ Below w.heap.size w w' := by
  have HL := Lib.hid hL
  clear hL
  obtain ⟨S, hS⟩ : ∃ S : ByteArray, S = ⟨(Lib.itoa n).toArray⟩ := ⟨_, rfl⟩
  have f1 : (n == n) = true := by simp
  have f2 : (S.toList == S.toList) = true := by simp
  have HT : Hid (∀ w, Laid w → Calls Tryd.prog 22 #[.int .i64 n] w fun e w' => e = .returned (.string S) ∧ Below w.heap.size w w') := by
    show ∀ w, _
    rw [hS]; exact text_any n h0 h1
  have HR : Hid (∀ w, Calls Tryd.prog 23 #[.int .i64 n] w fun e w' => e = .returned (.string S) ∧ Below w.heap.size w w') := by
    show ∀ w, _
    rw [hS]; exact ref_text n h0 h1
  have HP : Hid (∀ w, Laid w → Calls Tryd.prog 20 #[.string S, .int .i64 10] w fun e w' => e = .returned (.tuple #[.int .i64 n, .int .i64 0]) ∧ Below w.heap.size w w') := by
    show ∀ w, _
    intro w hw
    have h := parse_any S 10 (by rw [hS]; exact itoa_size n h0 h1) w hw
    obtain ⟨p1, p2⟩ := parse_itoa n h0 h1
    have e : S.data.toList = Lib.itoa n := by rw [hS]
    rw [e, p1, p2] at h
    exact h
  clear hS h0 h1
  go_enter Tryd.func6, Tryd.ntmps6
  go_wp2_with fail
  refine (HT.out _ HL.out).mono ?_
  rintro e w1 ⟨rfl, B1⟩
  go_wp2_with fail
  refine (HP.out _ (HL.out.below B1)).mono ?_
  rintro e w2 ⟨rfl, hb2⟩
  have B2 := B1.trans (hb2.mono B1.size)
  clear B1 hb2
  go_wp2_with fail
  refine (HR.out _).mono ?_
  rintro e w3 ⟨rfl, hb3⟩
  have B3 := B2.trans (hb3.mono B2.size)
  clear B2 hb3
  go_wp2_with fail
  refine (example_any _ (HL.out.below B3)).mono ?_
  rintro e w4 ⟨rfl, hb4⟩
  have B4 := B3.trans (hb4.mono B3.size)
  clear B3 hb4
  go_wp2_with fail
  go_ret
  exact ⟨rfl, B4⟩

end Go.Proofs.YthfclbbmioenlaaDoor
