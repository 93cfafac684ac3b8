/- The law OrderRanks. -/
import Derived.Test.YtehnhjhflaljhaaDoorKI
import Derived.Test.YtehnhjhflaljhaaDoorL9
namespace Go.Proofs.YtehnhjhflaljhaaDoor
open Go.RowKit Go.Proofs.HT

theorem OwnV.lies {_w w' : World} {b : Nat} {v : Value} {l : List PV} (h : OwnV w' b v l) : RowV w' v l := h.row

set_option maxHeartbeats 4000000 in
theorem ranks_walk (ts : List Tm) (t : Tm) (x v : Value) (w : World) (h : LiesA w ts x) (ht : LiesT w t v) (hp : Places w) : Calls Tryd.prog 5 #[x, tv t v] w fun e w' => e = .returned (.bool true) ∧ Below w.heap.size w w' := by
  obtain ⟨va, vc, rfl⟩ : ∃ a c, v = .slice a t.args.length c := ht.slice
  obtain ⟨l0, hl0, _, hfw⟩ := few_A ts x (w.alloc (.cells #[.int .i64 t.kind, .int .i64 t.num, .string t.name, .slice va t.args.length vc] 24)) (h.below ((Below.refl _ _).alloc (Nat.le_refl _) _))
  have B0 : Hid (Below w.heap.size w (w.alloc (.cells #[.int .i64 t.kind, .int .i64 t.num, .string t.name, .slice va t.args.length vc] 24))) := (Below.refl _ _).alloc (Nat.le_refl _) _
  have X0 : Hid (BoxIn (w.alloc (.cells #[.int .i64 t.kind, .int .i64 t.num, .string t.name, .slice va t.args.length vc] 24)) w.heap.size t va vc) := Lib.hid ⟨by rw [cell_of_row _ _ _ _ _ _ (heap_alloc_new _ _)]; rfl, by rw [cell_of_row _ _ _ _ _ _ (heap_alloc_new _ _)]; rfl, by rw [cell_of_row _ _ _ _ _ _ (heap_alloc_new _ _)]; rfl, by rw [cell_of_row _ _ _ _ _ _ (heap_alloc_new _ _)]; rfl⟩
  obtain ⟨l, hl⟩ : ∃ l, l0.take 40 = l := ⟨_, rfl⟩
  rw [hl] at hfw
  have hlen : l.length ≤ 40 := by rw [← hl, List.length_take]; omega
  have HL : Hid (∀ p ∈ l, LiesT (w.alloc (.cells #[.int .i64 t.kind, .int .i64 t.num, .string t.name, .slice va t.args.length vc] 24)) p.1 p.2) := fun p hp => hl0 p (by rw [← hl] at hp; exact List.mem_of_mem_take hp)
  have HF := Lib.hid hfw
  have HT := Lib.hid ht
  have HP := Lib.hid hp
  have HLE := Lib.hid hlen
  clear hl0 hfw h ht hp hl hlen
  simp only [tv]
  go_enter Tryd.func5, Tryd.ntmps5
  go_wp2_with fail
  refine HF.out.mono ?_
  rintro e w1 ⟨v0, rfl, ho1, hb1⟩
  have X1 := Lib.hid (X0.out.below hb1)
  have HL1 : Hid (∀ p ∈ l, LiesT w1 p.1 p.2) := fun p hp => (HL.out p hp).below hb1
  have R1 := Lib.hid ho1.row
  have B1 := Lib.hid (B0.out.trans (hb1.mono B0.out.size))
  obtain ⟨x0, x1, x2, x3⟩ := X1.out
  clear hb1 ho1 X0 HL
  obtain ⟨a0, n0, c0, rfl⟩ : ∃ a n c, v0 = .slice a n c := by
    rcases R1.out with ⟨_, h⟩ | ⟨_, _, _, _, h, _⟩
    · exact ⟨_, _, _, h⟩
    · exact ⟨_, _, _, h⟩
  have HT1 := Lib.hid (HT.out.below B1.out)
  have C1 := Lib.hid (Rank_v _ l t _ w1 R1.out (by have := HLE.out; omega) HL1.out (HP.out.below B1.out) HT1.out)
  go_wp2_with fail
  refine C1.out.mono ?_
  rintro e w2 ⟨r1, o1, rfl, hr1, hb2⟩
  have HR1 := Lib.hid hr1
  have B2 := Lib.hid (B1.out.trans (hb2.mono B1.out.size))
  have X2 := Lib.hid (X1.out.below hb2)
  have R2 := Lib.hid (R1.out.below hb2)
  have HL2 : Hid (∀ p ∈ l, LiesT w2 p.1 p.2) := fun p hp => (HL1.out p hp).below hb2
  clear hr1 hb2 x0 x1 x2 x3
  obtain ⟨x0, x1, x2, x3⟩ := X2.out
  have C2 := Lib.hid (rrank_v _ l t _ w2 R2.out (by have := HLE.out; omega) HL2.out (HT.out.below B2.out))
  go_wp2_with fail
  refine C2.out.mono ?_
  rintro e w3 ⟨r2, o2, rfl, hr2, hb3⟩
  obtain ⟨rfl, rfl⟩ := hr2.one HR1.out
  have B3 := Lib.hid (B2.out.trans (hb3.mono B2.out.size))
  have X3 := Lib.hid (X2.out.below hb3)
  have R3 := Lib.hid (R2.out.below hb3)
  have HL3 : Hid (∀ p ∈ l, LiesT w3 p.1 p.2) := fun p hp => (HL2.out p hp).below hb3
  clear hr2 hb3 x0 x1 x2 x3 HR1 C1 C2
  cases hv : (l.all fun p => validB p.1)
  · have C3 := Lib.hid (rsort_bad _ l w3 R3.out (by have := HLE.out; omega) HL3.out hv)
    clear hv
    go_wp2_with fail
    refine C3.out.mono ?_
    rintro e w4 ⟨rfl, hb4⟩
    have B4 := Lib.hid (B3.out.trans (hb4.mono B3.out.size))
    have X4 := Lib.hid (X3.out.below hb4)
    clear hb4
    obtain ⟨x0, x1, x2, x3⟩ := X4.out
    have C4 := Lib.hid (Rank_nil t _ w4 (HT.out.below B4.out))
    go_wp2_with fail
    refine C4.out.mono ?_
    rintro e w5 ⟨rfl, hb5⟩
    have B5 := Lib.hid (B4.out.trans (hb5.mono B4.out.size))
    have X5 := Lib.hid (X4.out.below hb5)
    clear hb5 x0 x1 x2 x3
    obtain ⟨x0, x1, x2, x3⟩ := X5.out
    have C5 := Lib.hid (rrank_nil t _ w5 (HT.out.below B5.out))
    go_wp2_with fail
    refine C5.out.mono ?_
    rintro e w6 ⟨rfl, hb6⟩
    have B6 := Lib.hid (B5.out.trans (hb6.mono B5.out.size))
    clear hb6 x0 x1 x2 x3
    have CA := Lib.hid (awake_any w6 (HP.out.below B6.out))
    go_wp2_with fail
    refine CA.out.mono ?_
    rintro e w7 ⟨rfl, hb7⟩
    go_wp2_with fail
    go_ret
    exact ⟨rfl, B6.out.trans (hb7.mono B6.out.size)⟩
  · have C3 := Lib.hid (rsort_v _ l w3 R3.out (by have := HLE.out; omega) HL3.out hv)
    have HMS : Hid (∀ p ∈ cptN eqP (stL (cfP false) l) l.length, p ∈ l) := Lib.hid (fun p hp => st_mem.1 (cptN_mem eqP _ _ (by rw [st_length]; exact Nat.le_refl _) p hp))
    have HSL : Hid ((cptN eqP (stL (cfP false) l) l.length).length ≤ 1000000) := Lib.hid (by have := cptN_len eqP (stL (cfP false) l) l.length; have := HLE.out; omega)
    generalize cptN eqP (stL (cfP false) l) l.length = S at *
    clear hv
    go_wp2_with fail
    refine C3.out.mono ?_
    rintro e w4 ⟨v4, rfl, ho4, hb4⟩
    have R4 := Lib.hid ho4.row
    have B4 := Lib.hid (B3.out.trans (hb4.mono B3.out.size))
    have X4 := Lib.hid (X3.out.below hb4)
    have HL4 : Hid (∀ p ∈ S, LiesT w4 p.1 p.2) := fun p hp => (HL3.out p (HMS.out p hp)).below hb4
    clear hb4 ho4
    obtain ⟨a4, n4, c4, rfl⟩ : ∃ a n c, v4 = .slice a n c := by
      rcases R4.out with ⟨_, h⟩ | ⟨_, _, _, _, h, _⟩
      · exact ⟨_, _, _, h⟩
      · exact ⟨_, _, _, h⟩
    obtain ⟨x0, x1, x2, x3⟩ := X4.out
    have C4 := Lib.hid (Rank_v _ S t _ w4 R4.out HSL.out HL4.out (HP.out.below B4.out) (HT.out.below B4.out))
    go_wp2_with fail
    refine C4.out.mono ?_
    rintro e w5 ⟨r3, o3, rfl, hr3, hb5⟩
    have HR3 := Lib.hid hr3
    have B5 := Lib.hid (B4.out.trans (hb5.mono B4.out.size))
    have X5 := Lib.hid (X4.out.below hb5)
    have R5 := Lib.hid (R4.out.below hb5)
    have HL5 : Hid (∀ p ∈ S, LiesT w5 p.1 p.2) := fun p hp => (HL4.out p hp).below hb5
    clear hb5 hr3 x0 x1 x2 x3
    obtain ⟨x0, x1, x2, x3⟩ := X5.out
    have C5 := Lib.hid (rrank_v _ S t _ w5 R5.out HSL.out HL5.out (HT.out.below B5.out))
    go_wp2_with fail
    refine C5.out.mono ?_
    rintro e w6 ⟨r4, o4, rfl, hr4, hb6⟩
    obtain ⟨rfl, rfl⟩ := hr4.one HR3.out
    have B6 := Lib.hid (B5.out.trans (hb6.mono B5.out.size))
    clear hb6 hr4 HR3 x0 x1 x2 x3
    have CA := Lib.hid (awake_any w6 (HP.out.below B6.out))
    go_wp2_with fail
    refine CA.out.mono ?_
    rintro e w7 ⟨rfl, hb7⟩
    go_wp2_with fail
    go_ret
    exact ⟨rfl, B6.out.trans (hb7.mono B6.out.size)⟩

end Go.Proofs.YtehnhjhflaljhaaDoor
