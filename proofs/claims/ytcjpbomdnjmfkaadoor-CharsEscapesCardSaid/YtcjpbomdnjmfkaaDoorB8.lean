/- The law CharsEscapes: it returns true. -/
import Derived.Test.YtcjpbomdnjmfkaaDoorB2
namespace Go.Proofs.YtcjpbomdnjmfkaaDoor
open Go.RowKit

/-- What the law asks of the escape of a character: its bytes are printable; one byte is the character; two are undone by Unescape; more are hexadecimal digits between a backslash and an x, and a backslash. -/
def escForm (a : Int) : List UInt8 → Bool
  | [x] => (x.toNat : Int) == a
  | [x, y] => x.toNat == 92 && unOk (y.toNat : Int) && unV (y.toNat : Int) == a
  | [x, y, z, u] => x.toNat == 92 && y.toNat == 120 && u.toNat == 92 && digOk (z.toNat : Int) 16 && digR (z.toNat : Int) 16 == a
  | [x, y, z, z', u] => x.toNat == 92 && y.toNat == 120 && u.toNat == 92 && digOk (z.toNat : Int) 16 && digOk (z'.toNat : Int) 16 && 16 * digR (z.toNat : Int) 16 + digR (z'.toNat : Int) 16 == a
  | _ => false
/-- A left inverse of the escapes. -/
def unesc : List UInt8 → Int
  | [x] => x.toNat
  | [_, y] => unV (y.toNat : Int)
  | [_, _, z, _] => digR (z.toNat : Int) 16
  | [_, _, z, z', _] => 16 * digR (z.toNat : Int) 16 + digR (z'.toNat : Int) 16
  | _ => 0
def escTest (n : Nat) : Bool :=
  let L := (escS (n : Int)).data.toList
  L.all (fun b => decide (32 ≤ b.toNat ∧ b.toNat ≤ 126)) && escForm (n : Int) L && unesc L == (n : Int)
theorem esc_test : ∀ n : Fin 256, escTest n.val = true := by decide +kernel
theorem esc_facts (a : Int) (h0 : 0 ≤ a) (h1 : a ≤ 255) : (∀ b ∈ (escS a).data.toList, 32 ≤ b.toNat ∧ b.toNat ≤ 126) ∧ escForm a (escS a).data.toList = true ∧ unesc (escS a).data.toList = a := by
  have := esc_test ⟨a.toNat, by omega⟩
  simp only [escTest, show ((a.toNat : Nat) : Int) = a by omega, Bool.and_eq_true, beq_iff_eq, List.all_eq_true, decide_eq_true_eq] at this
  exact ⟨this.1.1, this.1.2, this.2⟩
theorem esc_inj {a b : Int} (h0 : 0 ≤ a) (h1 : a ≤ 255) (g0 : 0 ≤ b) (g1 : b ≤ 255) (h : escS a = escS b) : a = b := by
  have e1 := (esc_facts a h0 h1).2.2
  have e2 := (esc_facts b g0 g1).2.2
  rw [h, e2] at e1; exact e1.symm

theorem at_list (s : ByteArray) (L : List UInt8) (h : s.data.toList = L) (i : Nat) (hi : i < s.size) (x : UInt8) (hx : L[i]? = some x) : s[i] = x := by
  subst h
  have hl : i < s.data.toList.length := by simpa using hi
  rw [List.getElem?_eq_getElem hl] at hx
  exact Option.some.inj hx
theorem size_list (s : ByteArray) (L : List UInt8) (h : s.data.toList = L) : s.size = L.length := by subst h; simp

/-- The four forms, with the bytes by their places. -/
theorem esc_cases (s : ByteArray) (a : Int) (h : escForm a s.data.toList = true) :
    (∃ hz : s.size = 1, ((s[0]'(by omega)).toNat : Int) = a) ∨
    (∃ hz : s.size = 2, ((s[0]'(by omega)).toNat : Int) = 92 ∧ unOk ((s[1]'(by omega)).toNat : Int) = true ∧ unV ((s[1]'(by omega)).toNat : Int) = a) ∨
    (∃ hz : s.size = 4, ((s[0]'(by omega)).toNat : Int) = 92 ∧ ((s[1]'(by omega)).toNat : Int) = 120 ∧ ((s[3]'(by omega)).toNat : Int) = 92 ∧ digOk ((s[2]'(by omega)).toNat : Int) 16 = true ∧ digR ((s[2]'(by omega)).toNat : Int) 16 = a) ∨
    (∃ hz : s.size = 5, ((s[0]'(by omega)).toNat : Int) = 92 ∧ ((s[1]'(by omega)).toNat : Int) = 120 ∧ ((s[4]'(by omega)).toNat : Int) = 92 ∧ digOk ((s[2]'(by omega)).toNat : Int) 16 = true ∧ digOk ((s[3]'(by omega)).toNat : Int) 16 = true ∧ 16 * digR ((s[2]'(by omega)).toNat : Int) 16 + digR ((s[3]'(by omega)).toNat : Int) 16 = a) := by
  obtain ⟨L, hL⟩ : ∃ L, s.data.toList = L := ⟨_, rfl⟩
  rw [hL] at h
  have hz := size_list s L hL
  match L, hL, h, hz with
  | [x], hL, h, hz =>
    left; refine ⟨hz, ?_⟩
    rw [at_list s _ hL 0 (by rw [hz]; simp) x rfl]; simpa [escForm] using h
  | [x, y], hL, h, hz =>
    right; left; refine ⟨hz, ?_⟩
    rw [at_list s _ hL 0 (by rw [hz]; simp) x rfl, at_list s _ hL 1 (by rw [hz]; simp) y rfl]
    simp only [escForm, Bool.and_eq_true, beq_iff_eq] at h
    exact ⟨by omega, h.1.2, h.2⟩
  | [x, y, z, u], hL, h, hz =>
    right; right; left; refine ⟨hz, ?_⟩
    rw [at_list s _ hL 0 (by rw [hz]; simp) x rfl, at_list s _ hL 1 (by rw [hz]; simp) y rfl, at_list s _ hL 2 (by rw [hz]; simp) z rfl, at_list s _ hL 3 (by rw [hz]; simp) u rfl]
    simp only [escForm, Bool.and_eq_true, beq_iff_eq] at h
    exact ⟨by omega, by omega, by omega, h.1.2, h.2⟩
  | [x, y, z, z', u], hL, h, hz =>
    right; right; right; refine ⟨hz, ?_⟩
    rw [at_list s _ hL 0 (by rw [hz]; simp) x rfl, at_list s _ hL 1 (by rw [hz]; simp) y rfl, at_list s _ hL 2 (by rw [hz]; simp) z rfl, at_list s _ hL 3 (by rw [hz]; simp) z' rfl, at_list s _ hL 4 (by rw [hz]; simp) u rfl]
    simp only [escForm, Bool.and_eq_true, beq_iff_eq] at h
    exact ⟨by omega, by omega, by omega, h.1.1.2, h.1.2, h.2⟩

theorem digR_le (c : Int) : 0 ≤ digR c 16 ∧ digR c 16 ≤ 15 := by
  unfold digR
  split
  · rename_i h; simp only [digOk, decide_eq_true_eq] at h; omega
  · omega

/-- Where an integer lies: below, above or among the characters. -/
def Zone (b : Int) : Prop := b < 0 ∨ (0 ≤ b ∧ 255 < b) ∨ (0 ≤ b ∧ b ≤ 255)
theorem zone (b : Int) : Zone b := by unfold Zone; omega

set_option maxRecDepth 100000 in
set_option maxHeartbeats 4000000 in
theorem escapes_out (a b : Int) (w : World) (hL : Laid w) (ha : a < 0 ∨ (0 ≤ a ∧ 255 < a)) :
    Calls Tryd.prog 7 #[.int .i64 a, .int .i64 b] w fun e w' => e = .returned (.bool true) ∧ Below w.heap.size w w' := by
  have HL := Lib.hid hL
  clear hL
  have hq : isC a = false := isC_no (by omega)
  have hS : Hid (escS a = { data := #[] }) := by show _ = _; rw [escS, if_pos hq]
  have Hq := Lib.hid hq
  clear hq
  have hz := zone b
  unfold Zone at hz
  have hb : Hid (isC b = decide (0 ≤ b ∧ b ≤ 255)) := rfl
  rcases ha with ha | ⟨ha, ha2⟩ <;> rcases hz with hz | ⟨hz, hz2⟩ | ⟨hz, hz2⟩
  case' inl.inl => (have hB : Hid (isC b = false) := isC_no (by omega))
  case' inl.inr.inl => (have hB : Hid (isC b = false) := isC_no (by omega))
  case' inl.inr.inr => (have hB : Hid (isC b = true) := isC_yes hz hz2)
  case' inr.inl => (have hB : Hid (isC b = false) := isC_no (by omega))
  case' inr.inr.inl => (have hB : Hid (isC b = false) := isC_no (by omega))
  case' inr.inr.inr => (have hB : Hid (isC b = true) := isC_yes hz hz2)
  all_goals
    go_enter Tryd.func7, Tryd.ntmps7
    go_wp2_with fail
    refine (escape_any a _ HL.out.tz).mono ?_
    rintro e w1 ⟨rfl, hb1⟩
    rw [hS.out, Hq.out]
    go_wp2_with fail
    refine (escape_any b _ (HL.out.below hb1).tz).mono ?_
    rintro e w2 ⟨rfl, hb2⟩
    have hb3 : Below w.heap.size w w2 := hb1.trans (hb2.mono hb1.size)
    clear hb1 hb2
    rw [hB.out]
    go_wp2_with fail
    refine (awake_any _ (HL.out.below hb3)).mono ?_
    rintro e w3 ⟨rfl, hb4⟩
    have hb5 : Below w.heap.size w w3 := hb3.trans (hb4.mono hb3.size)
    clear hb3 hb4
    go_wp2_with fail
    go_ret
    exact ⟨rfl, hb5⟩

theorem pr_at {s : ByteArray} (h : ∀ b ∈ s.data.toList, 32 ≤ b.toNat ∧ b.toNat ≤ 126) (i : Nat) (hi : i < s.size) : 32 ≤ s[i].toNat ∧ s[i].toNat ≤ 126 :=
  h _ (by exact Array.getElem_mem_toList (by simpa using hi))

/-- The law's walk for a character a, with what the two texts' comparison gives. -/
def Same (a b : Int) (s t : ByteArray) (r : Bool) : Prop := (b < 0 ∧ r = false) ∨ (0 ≤ b ∧ 255 < b ∧ r = false) ∨ (0 ≤ b ∧ b ≤ 255 ∧ r = true ∧ (¬ s.toList = t.toList) ∧ (s.toList == t.toList) = false ∧ (a == b) = false) ∨ (a = b ∧ s = t ∧ r = true)

set_option maxRecDepth 100000 in
set_option maxHeartbeats 8000000 in
theorem escapes_in (a b : Int) (w : World) (hL : Laid w) (a0 : 0 ≤ a) (a1 : a ≤ 255) (s t : ByteArray) (r : Bool) (hs : escS a = s) (ht : escS b = t) (hr : isC b = r) (hSame : Same a b s t r) :
    Calls Tryd.prog 7 #[.int .i64 a, .int .i64 b] w fun e w' => e = .returned (.bool true) ∧ Below w.heap.size w w' := by
  have HL := Lib.hid hL
  clear hL
  have Hq : Hid (isC a = true) := isC_yes a0 a1
  obtain ⟨f1, f2, _⟩ := esc_facts a a0 a1
  rw [hs] at f1 f2
  have HP : Hid (∀ i (hi : i < s.size), 32 ≤ s[i].toNat ∧ s[i].toNat ≤ 126) := pr_at f1
  have HF := Lib.hid (esc_cases s a f2)
  have HS := Lib.hid hs
  have HT := Lib.hid ht
  have HR := Lib.hid hr
  clear f1 f2 hs ht hr
  unfold Same at hSame
  have hm : s.size ≤ 5 := by rcases HF.out with ⟨hz, _⟩ | ⟨hz, _⟩ | ⟨hz, _⟩ | ⟨hz, _⟩ <;> omega
  rcases hSame with ⟨b0, rfl⟩ | ⟨b0, b1, rfl⟩ | ⟨b0, b1, rfl, n1, n3, n2⟩ | ⟨rfl, rfl, rfl⟩
  all_goals
    go_enter Tryd.func7, Tryd.ntmps7
    go_wp2_with fail
    refine (escape_any _ _ HL.out.tz).mono ?_
    rintro e w1 ⟨rfl, hb1⟩
    rw [HS.out, Hq.out]
    go_wp2_with fail
    refine (escape_any _ _ (HL.out.below hb1).tz).mono ?_
    rintro e w2 ⟨rfl, hb2⟩
    have hb3 : Below w.heap.size w w2 := hb1.trans (hb2.mono hb1.size)
    clear hb1 hb2
    rw [HR.out, HT.out]
    go_wp2_with fail
    go_loop [9] (fun i => ∃ k : Nat, k ≤ s.size ∧ i = .int .i64 k) (fun i => s.size - (intOf i).toNat)
    case atStart => exact ⟨0, by omega, rfl⟩
    case round =>
      obtain ⟨k, hk, rfl⟩ := hrel
      by_cases hlt : k < s.size
      · obtain ⟨g1, g2⟩ := HP.out k hlt
        go_wp2_with fail
        go_round
        case rel => exact ⟨k + 1, by omega, by go_num⟩
        case measure => simp [intOf]; omega
      · obtain rfl : k = s.size := by omega
        clear hlt hk hm
        rcases HF.out with ⟨hz, e0⟩ | ⟨hz, e0, e1, e2⟩ | ⟨hz, e0, e1, e2, e3, e4⟩ | ⟨hz, e0, e1, e2, e3, e4, e5⟩
        · have q0 : (((s[0]'(by omega)).toNat : Int) == a) = true := by simpa using e0
          have q1 : (s[0]'(by omega)).toNat < 256 := UInt8.toNat_lt _
          clear e0
          go_wp2_with fail
          refine (awake_any _ (HL.out.below hb3)).mono ?_
          rintro e w3 ⟨rfl, hb4⟩
          have hb5 : Below w.heap.size w w3 := hb3.trans (hb4.mono hb3.size)
          clear hb3 hb4
          go_wp2_with fail
          go_ret
          exact ⟨rfl, hb5⟩
        · have q0 : (((s[0]'(by omega)).toNat : Int) == 92) = true := by simpa using e0
          have q1 : (s[1]'(by omega)).toNat < 256 := UInt8.toNat_lt _
          have E1 := Lib.hid e1
          have E2 := Lib.hid e2
          clear e0 e1 e2
          go_wp2_with fail
          refine (unescape_any _ _).mono ?_
          rintro e w3 ⟨rfl, hb4⟩
          have hb5 : Below w.heap.size w w3 := hb3.trans (hb4.mono hb3.size)
          clear hb3 hb4
          rw [E1.out, E2.out]
          go_wp2_with fail
          refine (awake_any _ (HL.out.below hb5)).mono ?_
          rintro e w4 ⟨rfl, hb6⟩
          have hb7 : Below w.heap.size w w4 := hb5.trans (hb6.mono hb5.size)
          clear hb5 hb6
          go_wp2_with fail
          go_ret
          exact ⟨rfl, hb7⟩
        · have q0 : (((s[0]'(by omega)).toNat : Int) == 92) = true := by simpa using e0
          have q1 : (((s[1]'(by omega)).toNat : Int) == 120) = true := by simpa using e1
          have q3 : (((s[3]'(by omega)).toNat : Int) == 92) = true := by simpa using e2
          have q2 : (s[2]'(by omega)).toNat < 256 := UInt8.toNat_lt _
          have E3 := Lib.hid e3
          have E4 := Lib.hid e4
          clear e0 e1 e2 e3 e4
          go_wp2_with fail
          refine wp_loop_rounds 2 ?_
          rw [rounds_succ]
          go_wp2_with fail
          refine (digit_any _ _ _).mono ?_
          rintro e w3 ⟨rfl, rfl⟩
          rw [E3.out, E4.out]
          go_wp2_with fail
          rw [rounds_succ]
          go_wp2_with fail
          refine (awake_any _ (HL.out.below hb3)).mono ?_
          rintro e w3 ⟨rfl, hb4⟩
          have hb5 : Below w.heap.size w w3 := hb3.trans (hb4.mono hb3.size)
          clear hb3 hb4
          go_wp2_with fail
          go_ret
          exact ⟨rfl, hb5⟩
        · have q0 : (((s[0]'(by omega)).toNat : Int) == 92) = true := by simpa using e0
          have q1 : (((s[1]'(by omega)).toNat : Int) == 120) = true := by simpa using e1
          have q4 : (((s[4]'(by omega)).toNat : Int) == 92) = true := by simpa using e2
          have q2 : (s[2]'(by omega)).toNat < 256 := UInt8.toNat_lt _
          have q3 : (s[3]'(by omega)).toNat < 256 := UInt8.toNat_lt _
          have E3 := Lib.hid e3
          have E4 := Lib.hid e4
          obtain ⟨x, Hx⟩ : ∃ x, Hid (digR ((s[2]'(by omega)).toNat : Int) 16 = x) := ⟨_, Lib.hid rfl⟩
          obtain ⟨y, Hy⟩ : ∃ y, Hid (digR ((s[3]'(by omega)).toNat : Int) 16 = y) := ⟨_, Lib.hid rfl⟩
          have x0 : 0 ≤ x ∧ x ≤ 15 := by rw [← Hx.out]; exact digR_le _
          have y0 : 0 ≤ y ∧ y ≤ 15 := by rw [← Hy.out]; exact digR_le _
          have hsum : (16 * x + y == a) = true := by rw [← Hx.out, ← Hy.out]; simpa using e5
          obtain ⟨x1, x2⟩ := x0
          obtain ⟨y1, y2⟩ := y0
          clear e0 e1 e2 e3 e4 e5
          go_wp2_with fail
          refine wp_loop_rounds 3 ?_
          rw [rounds_succ]
          go_wp2_with fail
          refine (digit_any _ _ _).mono ?_
          rintro e w3 ⟨rfl, rfl⟩
          rw [E3.out, Hx.out]
          go_wp2_with fail
          rw [rounds_succ]
          go_wp2_with fail
          refine (digit_any _ _ _).mono ?_
          rintro e w3 ⟨rfl, rfl⟩
          rw [E4.out, Hy.out]
          go_wp2_with fail
          rw [rounds_succ]
          go_wp2_with fail
          refine (awake_any _ (HL.out.below hb3)).mono ?_
          rintro e w3 ⟨rfl, hb4⟩
          have hb5 : Below w.heap.size w w3 := hb3.trans (hb4.mono hb3.size)
          clear hb3 hb4
          go_wp2_with fail
          go_ret
          exact ⟨rfl, hb5⟩

theorem escapes_walk (a b : Int) (w : World) (hL : Laid w) :
    Calls Tryd.prog 7 #[.int .i64 a, .int .i64 b] w fun e w' => e = .returned (.bool true) ∧ Below w.heap.size w w' := by
  by_cases ha : 0 ≤ a ∧ a ≤ 255
  · refine escapes_in a b w hL ha.1 ha.2 _ _ _ rfl rfl rfl ?_
    unfold Same
    by_cases hab : a = b
    · subst hab; exact .inr (.inr (.inr ⟨rfl, rfl, isC_yes ha.1 ha.2⟩))
    · by_cases hb : 0 ≤ b ∧ b ≤ 255
      · have hne : ¬ (escS a).toList = (escS b).toList := fun h => by
          rw [Lib.toList_data, Lib.toList_data] at h
          have e1 := (esc_facts a ha.1 ha.2).2.2
          have e2 := (esc_facts b hb.1 hb.2).2.2
          rw [h, e2] at e1
          exact hab e1.symm
        exact .inr (.inr (.inl ⟨hb.1, hb.2, isC_yes hb.1 hb.2, hne, beq_eq_false_iff_ne.2 hne, by simpa using hab⟩))
      · by_cases h0 : b < 0
        · exact .inl ⟨h0, isC_no (by omega)⟩
        · exact .inr (.inl ⟨by omega, by omega, isC_no (by omega)⟩)
  · exact escapes_out a b w hL (by omega)

end Go.Proofs.YtcjpbomdnjmfkaaDoor
