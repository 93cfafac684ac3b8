/- The examples of the chapter (awake). -/
import Derived.Test.YtdgflagafilobaaA0
import Derived.Test.YtdgflagafilobaaQ0
import Derived.Deep.DeepCutAuto
namespace Go.Proofs.Ytdgflagafilobaa
open Go.RowKit Go.Proofs.HT

theorem nil_lies {w : World} {k n : Int} {s : ByteArray} (hk : I64 k) (hn : I64 n) (hs : s.size ≤ 9223372036854775807) : LiesT w (.mk k n s []) (.slice none 0 0) := by
  unfold LiesT; exact ⟨hk, hn, hs, .inl ⟨rfl, rfl⟩⟩

theorem runs_Valid_is : ∀ zs w, (callFunc 29 zs).run Try.prog w = .ok (.enter 29 zs) w := fun _ _ => by kernel_rfl
theorem runs_x_any : ∀ zs w, (callFunc 41 zs).run Try.prog w = .ok (.enter 41 zs) w := fun _ _ => by kernel_rfl
theorem runs_a_any : ∀ zs w, (callFunc 42 zs).run Try.prog w = .ok (.enter 42 zs) w := fun _ _ => by kernel_rfl
theorem runs_f_any : ∀ zs w, (callFunc 40 zs).run Try.prog w = .ok (.enter 40 zs) w := fun _ _ => by kernel_rfl
theorem runs_Int_any : ∀ zs w, (callFunc 22 zs).run Try.prog w = .ok (.enter 22 zs) w := fun _ _ => by kernel_rfl
theorem runs_Size_is : ∀ zs w, (callFunc 32 zs).run Try.prog w = .ok (.enter 32 zs) w := fun _ _ => by kernel_rfl
theorem runs_Canon_yes : ∀ zs w, (callFunc 30 zs).run Try.prog w = .ok (.enter 30 zs) w := fun _ _ => by kernel_rfl
theorem runs_Same_is : ∀ zs w, (callFunc 9 zs).run Try.prog w = .ok (.enter 9 zs) w := fun _ _ => by kernel_rfl
theorem runs_Struct_none : ∀ zs w, (callFunc 19 zs).run Try.prog w = .ok (.enter 19 zs) w := fun _ _ => by kernel_rfl
theorem runs_Variant_is : ∀ zs w, (callFunc 11 zs).run Try.prog w = .ok (.enter 11 zs) w := fun _ _ => by kernel_rfl

set_option maxRecDepth 100000 in
set_option maxHeartbeats 100000000 in
theorem awake_any (w : World) : Calls Try.prog 13 #[] w fun e w' => e = .returned (.bool true) ∧ Below w.heap.size w w' := by
  go_enter Try.func13, Try.ntmps13
  have E0 := Lib.hid (Env.start w)
  go_wp2_with fail
  refine (x_any 5 _).mono ?_
  rintro e w1 ⟨rfl, hb1⟩
  have E1 := Lib.hid ((E0.out.step hb1).pushT (vr_lies (n := 5) ⟨by omega, by omega⟩))
  clear hb1 E0
  go_wp2_with fail
  refine (x_any 2 _).mono ?_
  rintro e w2 ⟨rfl, hb2⟩
  have E2 := Lib.hid ((E1.out.step hb2).pushT (vr_lies (n := 2) ⟨by omega, by omega⟩))
  clear hb2 E1
  go_wp2_with fail
  refine (x_any 5 _).mono ?_
  rintro e w3 ⟨rfl, hb3⟩
  have E3 := Lib.hid ((E2.out.step hb3).pushT (vr_lies (n := 5) ⟨by omega, by omega⟩))
  clear hb3 E2
  have lz4 := Lib.hid (lies_new (g := w3.heap.size) (ty := 24) rfl [((vr 2), .slice none 0 0), ((vr 5), .slice none 0 0)] (by simp only [EnvT]; exact ⟨E3.out.t.tl.hd, ⟨E3.out.t.hd, trivial⟩⟩) (by simp))
  go_wp2_with fail
  refine (f_any _ _ _ _ _).mono ?_
  rintro e w4 ⟨rfl, hb4⟩
  have E4 := Lib.hid (((E3.out.alloc _).step hb4).pushT (LiesT.below (struct_lies (nm := ⟨#[103]⟩) (by simp [ByteArray.size]) lz4.out) hb4))
  clear hb4 E3
  clear lz4
  have lz5 := Lib.hid (lies_new (g := w4.heap.size) (ty := 24) rfl [((vr 5), .slice none 0 0), ((.mk 3 0 ⟨#[103]⟩ [(vr 2), (vr 5)]), .slice (some ⟨w3.heap.size, 0, none⟩) 2 2)] (by simp only [EnvT]; exact ⟨E4.out.t.tl.tl.tl.hd, ⟨E4.out.t.hd, trivial⟩⟩) (by simp))
  go_wp2_with fail
  refine (f_any _ _ _ _ _).mono ?_
  rintro e w5 ⟨rfl, hb5⟩
  have E5 := Lib.hid (((E4.out.alloc _).step hb5).pushT (LiesT.below (struct_lies (nm := ⟨#[102]⟩) (by simp [ByteArray.size]) lz5.out) hb5))
  clear hb5 E4
  clear lz5
  go_wp2_with fail
  refine (Vars_yes (.mk 3 0 ⟨#[102]⟩ [(vr 5), (.mk 3 0 ⟨#[103]⟩ [(vr 2), (vr 5)])]) _ _ (E5.out.box (g := w5.heap.size) rfl (.int .i64 3) (.int .i64 0) (.string ⟨#[102]⟩) (.slice (some ⟨w4.heap.size, 0, none⟩) 2 2) 24).t.hd (by rfl)).mono ?_
  rintro e w6 ⟨xl, he, hrow, hb6⟩
  have hxs : varsF [] (.mk 3 0 ⟨#[102]⟩ [(vr 5), (.mk 3 0 ⟨#[103]⟩ [(vr 2), (vr 5)])]) = [5, 2] := by rfl
  rw [hxs] at hrow
  have hrow : w6.ownsRow _ 2 1 xl 2 (nums [5, 2]) := hrow
  obtain ⟨lg, lcap, lcur, rfl, _, hlg, _⟩ := hrow.2.resolve_left (by simp)
  obtain rfl : e = .returned (.slice (some ⟨lg, 0, none⟩) 2 lcap) := he
  have l0 : w6.cell? ⟨lg, 0, none⟩ = some (.int .i64 5) := by rw [hrow.cellAt 0 (by simp)]; rfl
  have l1 : w6.cell? ⟨lg, 1, none⟩ = some (.int .i64 2) := by rw [hrow.cellAt 1 (by simp)]; rfl
  have E6 := Lib.hid ((((E5.out.box (g := w5.heap.size) rfl (.int .i64 3) (.int .i64 0) (.string ⟨#[102]⟩) (.slice (some ⟨w4.heap.size, 0, none⟩) 2 2) 24).step hb6).pushC (a := ⟨lg, 0, none⟩) (v := .int .i64 5) l0).pushC (a := ⟨lg, 1, none⟩) (v := .int .i64 2) l1)
  clear hb6 E5
  clear hrow l0 l1 hlg hxs
  go_wp2_with fail
  refine (x_any 0 _).mono ?_
  rintro e w7 ⟨rfl, hb7⟩
  have E7 := Lib.hid ((E6.out.step hb7).pushT (vr_lies (n := 0) ⟨by omega, by omega⟩))
  clear hb7 E6
  go_wp2_with fail
  refine (x_any 1 _).mono ?_
  rintro e w8 ⟨rfl, hb8⟩
  have E8 := Lib.hid ((E7.out.step hb8).pushT (vr_lies (n := 1) ⟨by omega, by omega⟩))
  clear hb8 E7
  have lz9 := Lib.hid (lies_new (g := w8.heap.size) (ty := 24) rfl [((vr 0), .slice none 0 0), ((vr 1), .slice none 0 0)] (by simp only [EnvT]; exact ⟨E8.out.t.tl.hd, ⟨E8.out.t.hd, trivial⟩⟩) (by simp))
  go_wp2_with fail
  refine (f_any _ _ _ _ _).mono ?_
  rintro e w9 ⟨rfl, hb9⟩
  have E9 := Lib.hid (((E8.out.alloc _).step hb9).pushT (LiesT.below (struct_lies (nm := ⟨#[102]⟩) (by simp [ByteArray.size]) lz9.out) hb9))
  clear hb9 E8
  clear lz9
  go_wp2_with fail
  refine (Rename_yes (.mk 3 0 ⟨#[102]⟩ [(vr 0), (vr 1)]) _ 10 _ E9.out.t.hd (by rfl) (by rfl) (by rfl)).mono ?_
  rintro e w10 ⟨y, he, hy, hb10⟩
  have hT : mapT (sh 10) (.mk 3 0 ⟨#[102]⟩ [(vr 0), (vr 1)]) = (.mk 3 0 ⟨#[102]⟩ [(vr 10), (vr 11)]) := by rfl
  rw [hT] at he hy
  obtain ⟨ma1, mc1, rfl⟩ : ∃ a c, y = .slice a 2 c := hy.slice
  obtain rfl : e = .returned (.tuple #[pv 3 0 ⟨#[102]⟩ (.slice ma1 2 mc1), .int .i64 0]) := he
  have hyl := OwnT.lies _ _ hy
  have E10 := Lib.hid ((E9.out.step hb10).pushT hyl)
  clear hb10 E9
  clear hy hyl hT
  go_wp2_with fail
  refine (x_any 0 _).mono ?_
  rintro e w11 ⟨rfl, hb11⟩
  have E11 := Lib.hid (((E10.out.box (g := w10.heap.size) rfl (.int .i64 3) (.int .i64 0) (.string ⟨#[102]⟩) (.slice ma1 2 mc1) 24).step hb11).pushT (vr_lies (n := 0) ⟨by omega, by omega⟩))
  clear hb11 E10
  go_wp2_with fail
  refine (Rename_number (vr 0) _ (-1) _ E11.out.t.hd (by rfl) (by rfl)).mono ?_
  rintro e w12 ⟨y, he, hy, hb12⟩
  obtain ⟨ma2, mc2, rfl⟩ : ∃ a c, y = .slice a 0 c := hy.slice
  obtain rfl : e = .returned (.tuple #[pv 0 0 ⟨#[]⟩ (.slice ma2 0 mc2), .int .i64 1]) := he
  have hyl := OwnT.lies _ _ hy
  have E12 := Lib.hid ((E11.out.step hb12).pushT hyl)
  clear hb12 E11
  clear hy hyl
  go_wp2_with fail
  refine (x_any 1 _).mono ?_
  rintro e w13 ⟨rfl, hb13⟩
  have E13 := Lib.hid (((E12.out.box (g := w12.heap.size) rfl (.int .i64 0) (.int .i64 0) (.string ⟨#[]⟩) (.slice ma2 0 mc2) 24).step hb13).pushT (vr_lies (n := 1) ⟨by omega, by omega⟩))
  clear hb13 E12
  go_wp2_with fail
  refine (Rename_long (vr 1) _ 1099511627776 _ E13.out.t.hd (by rfl) (by rfl) (by rfl)).mono ?_
  rintro e w14 ⟨y, he, hy, hb14⟩
  obtain ⟨ma3, mc3, rfl⟩ : ∃ a c, y = .slice a 0 c := hy.slice
  obtain rfl : e = .returned (.tuple #[pv 0 0 ⟨#[]⟩ (.slice ma3 0 mc3), .int .i64 2]) := he
  have hyl := OwnT.lies _ _ hy
  have E14 := Lib.hid ((E13.out.step hb14).pushT hyl)
  clear hb14 E13
  clear hy hyl
  go_wp2_with fail
  refine (x_any 0 _).mono ?_
  rintro e w15 ⟨rfl, hb15⟩
  have E15 := Lib.hid (((E14.out.box (g := w14.heap.size) rfl (.int .i64 0) (.int .i64 0) (.string ⟨#[]⟩) (.slice ma3 0 mc3) 24).step hb15).pushT (vr_lies (n := 0) ⟨by omega, by omega⟩))
  clear hb15 E14
  go_wp2_with fail
  refine (x_any 1 _).mono ?_
  rintro e w16 ⟨rfl, hb16⟩
  have E16 := Lib.hid ((E15.out.step hb16).pushT (vr_lies (n := 1) ⟨by omega, by omega⟩))
  clear hb16 E15
  have lz17 := Lib.hid (lies_new (g := w16.heap.size) (ty := 24) rfl [((vr 0), .slice none 0 0), ((vr 1), .slice none 0 0)] (by simp only [EnvT]; exact ⟨E16.out.t.tl.hd, ⟨E16.out.t.hd, trivial⟩⟩) (by simp))
  go_wp2_with fail
  refine (f_any _ _ _ _ _).mono ?_
  rintro e w17 ⟨rfl, hb17⟩
  have E17 := Lib.hid (((E16.out.alloc _).step hb17).pushT (LiesT.below (struct_lies (nm := ⟨#[102]⟩) (by simp [ByteArray.size]) lz17.out) hb17))
  clear hb17 E16
  clear lz17
  go_wp2_with fail
  refine (x_any 0 _).mono ?_
  rintro e w18 ⟨rfl, hb18⟩
  have E18 := Lib.hid ((E17.out.step hb18).pushT (vr_lies (n := 0) ⟨by omega, by omega⟩))
  clear hb18 E17
  have lz19 := Lib.hid (lies_new (g := w18.heap.size) (ty := 24) rfl [((vr 0), .slice none 0 0)] (by simp only [EnvT]; exact ⟨E18.out.t.hd, trivial⟩) (by simp))
  go_wp2_with fail
  refine (f_any _ _ _ _ _).mono ?_
  rintro e w19 ⟨rfl, hb19⟩
  have E19 := Lib.hid (((E18.out.alloc _).step hb19).pushT (LiesT.below (struct_lies (nm := ⟨#[103]⟩) (by simp [ByteArray.size]) lz19.out) hb19))
  clear hb19 E18
  clear lz19
  go_wp2_with fail
  refine (Replace_yes (.mk 3 0 ⟨#[102]⟩ [(vr 0), (vr 1)]) (.mk 3 0 ⟨#[103]⟩ [(vr 0)]) _ _ 0 _ E19.out.t.tl.tl.hd E19.out.t.hd (by rfl) (by rfl) (by rfl) (by rfl)).mono ?_
  rintro e w20 ⟨y, he, hy, hb20⟩
  have hT : mapT (gR 0 (.mk 3 0 ⟨#[103]⟩ [(vr 0)])) (.mk 3 0 ⟨#[102]⟩ [(vr 0), (vr 1)]) = (.mk 3 0 ⟨#[102]⟩ [(.mk 3 0 ⟨#[103]⟩ [(vr 0)]), (vr 1)]) := by rfl
  rw [hT] at he hy
  obtain ⟨ma4, mc4, rfl⟩ : ∃ a c, y = .slice a 2 c := hy.slice
  obtain rfl : e = .returned (.tuple #[pv 3 0 ⟨#[102]⟩ (.slice ma4 2 mc4), .int .i64 0]) := he
  have hyl := OwnT.lies _ _ hy
  have E20 := Lib.hid ((E19.out.step hb20).pushT hyl)
  clear hb20 E19
  clear hy hyl hT
  go_wp2_with fail
  refine (a_any _ _).mono ?_
  rintro e w21 ⟨rfl, hb21⟩
  have E21 := Lib.hid (((E20.out.box (g := w20.heap.size) rfl (.int .i64 3) (.int .i64 0) (.string ⟨#[102]⟩) (.slice ma4 2 mc4) 24).step hb21).pushT (atom_lies (nm := ⟨#[97]⟩) (by simp [ByteArray.size])))
  clear hb21 E20
  go_wp2_with fail
  refine (a_any _ _).mono ?_
  rintro e w22 ⟨rfl, hb22⟩
  have E22 := Lib.hid ((E21.out.step hb22).pushT (atom_lies (nm := ⟨#[98]⟩) (by simp [ByteArray.size])))
  clear hb22 E21
  have ly1 := Lib.hid (lies_new (g := w22.heap.size) (ty := 24) rfl [((.mk 2 0 ⟨#[97]⟩ []), .slice none 0 0), ((.mk 2 0 ⟨#[98]⟩ []), .slice none 0 0)] (by simp only [EnvT]; exact ⟨E22.out.t.tl.hd, ⟨E22.out.t.hd, trivial⟩⟩) (by simp))
  go_wp2_with fail
  refine (a_any _ _).mono ?_
  rintro e w23 ⟨rfl, hb23⟩
  have E23 := Lib.hid ((((E22.out.alloc _).pushT ly1.out).step hb23).pushT (atom_lies (nm := ⟨#[91, 93]⟩) (by simp [ByteArray.size])))
  clear hb23 E22
  go_wp2_with fail
  refine (List_yes [(.mk 2 0 ⟨#[97]⟩ []), (.mk 2 0 ⟨#[98]⟩ [])] (.mk 2 0 ⟨#[91, 93]⟩ []) _ _ _ E23.out.t.tl.hd E23.out.t.hd (by rfl)).mono ?_
  rintro e w24 ⟨y, he, hy, hb24⟩
  have hT : listT [(.mk 2 0 ⟨#[97]⟩ []), (.mk 2 0 ⟨#[98]⟩ [])] (.mk 2 0 ⟨#[91, 93]⟩ []) = (.mk 3 0 ⟨#[46]⟩ [(.mk 2 0 ⟨#[97]⟩ []), (.mk 3 0 ⟨#[46]⟩ [(.mk 2 0 ⟨#[98]⟩ []), (.mk 2 0 ⟨#[91, 93]⟩ [])])]) := by rfl
  rw [hT] at he hy
  obtain ⟨ma5, mc5, rfl⟩ : ∃ a c, y = .slice a 2 c := hy.slice
  obtain rfl : e = .returned (pv 3 0 ⟨#[46]⟩ (.slice ma5 2 mc5)) := he
  have hyl := OwnT.lies _ _ hy
  have E24 := Lib.hid ((E23.out.step hb24).pushT hyl)
  clear hb24 E23
  clear hy hyl hT
  go_wp2_with fail
  refine (Elems_any (.mk 3 0 ⟨#[46]⟩ [(.mk 2 0 ⟨#[97]⟩ []), (.mk 3 0 ⟨#[46]⟩ [(.mk 2 0 ⟨#[98]⟩ []), (.mk 2 0 ⟨#[91, 93]⟩ [])])]) _ _ (E24.out.box (g := w24.heap.size) rfl (.int .i64 3) (.int .i64 0) (.string ⟨#[46]⟩) (.slice ma5 2 mc5) 24).t.hd).mono ?_
  rintro e w25 ⟨xk, vk, he, hk, ht, hb25⟩
  have hU : (if validB (.mk 3 0 ⟨#[46]⟩ [(.mk 2 0 ⟨#[97]⟩ []), (.mk 3 0 ⟨#[46]⟩ [(.mk 2 0 ⟨#[98]⟩ []), (.mk 2 0 ⟨#[91, 93]⟩ [])])]) = true then (.mk 3 0 ⟨#[46]⟩ [(.mk 2 0 ⟨#[97]⟩ []), (.mk 3 0 ⟨#[46]⟩ [(.mk 2 0 ⟨#[98]⟩ []), (.mk 2 0 ⟨#[91, 93]⟩ [])])]) else z0) = (.mk 3 0 ⟨#[46]⟩ [(.mk 2 0 ⟨#[97]⟩ []), (.mk 3 0 ⟨#[46]⟩ [(.mk 2 0 ⟨#[98]⟩ []), (.mk 2 0 ⟨#[91, 93]⟩ [])])]) := by rfl
  rw [hU] at he hk ht
  have hel : elemsT (.mk 3 0 ⟨#[46]⟩ [(.mk 2 0 ⟨#[97]⟩ []), (.mk 3 0 ⟨#[46]⟩ [(.mk 2 0 ⟨#[98]⟩ []), (.mk 2 0 ⟨#[91, 93]⟩ [])])]) = ([(.mk 2 0 ⟨#[97]⟩ []), (.mk 2 0 ⟨#[98]⟩ [])], (.mk 2 0 ⟨#[91, 93]⟩ [])) := by rfl
  rw [hel] at he hk ht
  obtain ⟨ka, kc, rfl⟩ : ∃ a c, xk = .slice a 2 c := LiesT.slice hk
  obtain ⟨ta, tc, rfl⟩ : ∃ a c, vk = .slice a 0 c := LiesT.slice ht
  obtain rfl : e = .returned (.tuple #[.slice ka 2 kc, pv 2 0 ⟨#[91, 93]⟩ (.slice ta 0 tc)]) := he
  have hk0 : LiesA w25 [(.mk 2 0 ⟨#[97]⟩ []), (.mk 2 0 ⟨#[98]⟩ [])] (.slice ka 2 kc) := hk
  obtain ⟨kb, ko, kcap, hke, _, _, _, hkl⟩ := (LiesT.len hk0).resolve_left (by simp)
  have hke2 := Value.slice.inj hke
  obtain rfl : ka = some ⟨kb, ko, none⟩ := hke2.1
  obtain ⟨u1, c0, c1, c2, c3, hu⟩ := hkl.at 1 (by simp)
  obtain ⟨ua, uc, rfl⟩ : ∃ a c, u1 = .slice a 0 c := LiesT.slice hu
  have d0 : w25.cell? ⟨kb, ko + 4, none⟩ = some (.int .i64 2) := c0
  have d1 : w25.cell? ⟨kb, ko + 4 + 1, none⟩ = some (.int .i64 0) := c1
  have d2 : w25.cell? ⟨kb, ko + 4 + 2, none⟩ = some (.string ⟨#[98]⟩) := c2
  have d3 : w25.cell? ⟨kb, ko + 4 + 3, none⟩ = some (.slice ua 0 uc) := c3
  have htl : LiesT w25 (.mk 2 0 ⟨#[91, 93]⟩ []) (.slice ta 0 tc) := ht
  have hul : LiesT w25 (.mk 2 0 ⟨#[98]⟩ []) (.slice ua 0 uc) := hu
  have E25 := Lib.hid ((((((((E24.out.box (g := w24.heap.size) rfl (.int .i64 3) (.int .i64 0) (.string ⟨#[46]⟩) (.slice ma5 2 mc5) 24).step hb25).pushT htl).pushT hul).pushC (a := ⟨kb, ko + 4 + 3, none⟩) (v := .slice ua 0 uc) d3).pushC (a := ⟨kb, ko + 4 + 2, none⟩) (v := .string ⟨#[98]⟩) d2).pushC (a := ⟨kb, ko + 4 + 1, none⟩) (v := .int .i64 0) d1).pushC (a := ⟨kb, ko + 4, none⟩) (v := .int .i64 2) d0)
  clear hb25 E24
  clear hU hel hk hk0 hke hke2 hkl hu c0 c1 c2 c3 d0 d1 d2 d3 htl hul ht
  go_wp2_with fail
  have EB := Lib.hid (Env.b (E25.out.box (g := w25.heap.size) rfl (.int .i64 2) (.int .i64 0) (.string ⟨#[91, 93]⟩) (.slice ta 0 tc) 24))
  have EW := Lib.hid (show Env (w25.alloc (.cells #[.int .i64 2, .int .i64 0, .string ⟨#[91, 93]⟩, .slice ta 0 tc] 24)) (w25.alloc (.cells #[.int .i64 2, .int .i64 0, .string ⟨#[91, 93]⟩, .slice ta 0 tc] 24)) _ _ from ⟨Env.t (E25.out.box (g := w25.heap.size) rfl (.int .i64 2) (.int .i64 0) (.string ⟨#[91, 93]⟩) (.slice ta 0 tc) 24), Env.c (E25.out.box (g := w25.heap.size) rfl (.int .i64 2) (.int .i64 0) (.string ⟨#[91, 93]⟩) (.slice ta 0 tc) 24), Below.refl _ _⟩)
  clear E25
  generalize (w25.alloc (.cells #[.int .i64 2, .int .i64 0, .string ⟨#[91, 93]⟩, .slice ta 0 tc] 24)) = W0 at *
  have HS : Hid (∀ w', Below W0.heap.size W0 w' → (fun w' => Below W0.heap.size W0 w' ∧ w'.cell? ⟨w5.heap.size, 0, none⟩ = some (.int .i64 3) ∧ w'.cell? ⟨w5.heap.size, 1, none⟩ = some (.int .i64 0) ∧ w'.cell? ⟨w5.heap.size, 2, none⟩ = some (.string ⟨#[102]⟩) ∧ w'.cell? ⟨w5.heap.size, 3, none⟩ = some (.slice (some ⟨w4.heap.size, 0, none⟩) 2 2) ∧ w'.cell? ⟨w10.heap.size, 0, none⟩ = some (.int .i64 3) ∧ w'.cell? ⟨w10.heap.size, 1, none⟩ = some (.int .i64 0) ∧ w'.cell? ⟨w10.heap.size, 2, none⟩ = some (.string ⟨#[102]⟩) ∧ w'.cell? ⟨w10.heap.size, 3, none⟩ = some (.slice ma1 2 mc1) ∧ w'.cell? ⟨w20.heap.size, 0, none⟩ = some (.int .i64 3) ∧ w'.cell? ⟨w20.heap.size, 1, none⟩ = some (.int .i64 0) ∧ w'.cell? ⟨w20.heap.size, 2, none⟩ = some (.string ⟨#[102]⟩) ∧ w'.cell? ⟨w20.heap.size, 3, none⟩ = some (.slice ma4 2 mc4) ∧ w'.cell? ⟨w24.heap.size, 0, none⟩ = some (.int .i64 3) ∧ w'.cell? ⟨w24.heap.size, 1, none⟩ = some (.int .i64 0) ∧ w'.cell? ⟨w24.heap.size, 2, none⟩ = some (.string ⟨#[46]⟩) ∧ w'.cell? ⟨w24.heap.size, 3, none⟩ = some (.slice ma5 2 mc5) ∧ w'.cell? ⟨w25.heap.size, 0, none⟩ = some (.int .i64 2) ∧ w'.cell? ⟨w25.heap.size, 1, none⟩ = some (.int .i64 0) ∧ w'.cell? ⟨w25.heap.size, 2, none⟩ = some (.string ⟨#[91, 93]⟩) ∧ w'.cell? ⟨w25.heap.size, 3, none⟩ = some (.slice ta 0 tc) ∧ w'.cell? ⟨lg, 0, none⟩ = some (.int .i64 5) ∧ w'.cell? ⟨lg, 1, none⟩ = some (.int .i64 2) ∧ w'.cell? ⟨kb, ko + 4, none⟩ = some (.int .i64 2) ∧ w'.cell? ⟨kb, ko + 4 + 1, none⟩ = some (.int .i64 0) ∧ w'.cell? ⟨kb, ko + 4 + 2, none⟩ = some (.string ⟨#[98]⟩) ∧ w'.cell? ⟨kb, ko + 4 + 3, none⟩ = some (.slice ua 0 uc)) w') := fun w' h => ⟨h, cell_below h _ _ EW.out.c.tl.tl.tl.tl.tl.tl.tl.tl.tl.tl.tl.tl.tl.tl.tl.tl.tl.tl.tl.tl.tl.tl.tl.tl.tl.tl.tl.tl.tl.tl.hd, cell_below h _ _ EW.out.c.tl.tl.tl.tl.tl.tl.tl.tl.tl.tl.tl.tl.tl.tl.tl.tl.tl.tl.tl.tl.tl.tl.tl.tl.tl.tl.tl.tl.tl.tl.tl.hd, cell_below h _ _ EW.out.c.tl.tl.tl.tl.tl.tl.tl.tl.tl.tl.tl.tl.tl.tl.tl.tl.tl.tl.tl.tl.tl.tl.tl.tl.tl.tl.tl.tl.tl.tl.tl.tl.hd, cell_below h _ _ EW.out.c.tl.tl.tl.tl.tl.tl.tl.tl.tl.tl.tl.tl.tl.tl.tl.tl.tl.tl.tl.tl.tl.tl.tl.tl.tl.tl.tl.tl.tl.tl.tl.tl.tl.hd, cell_below h _ _ EW.out.c.tl.tl.tl.tl.tl.tl.tl.tl.tl.tl.tl.tl.tl.tl.tl.tl.tl.tl.tl.tl.tl.tl.tl.tl.hd, cell_below h _ _ EW.out.c.tl.tl.tl.tl.tl.tl.tl.tl.tl.tl.tl.tl.tl.tl.tl.tl.tl.tl.tl.tl.tl.tl.tl.tl.tl.hd, cell_below h _ _ EW.out.c.tl.tl.tl.tl.tl.tl.tl.tl.tl.tl.tl.tl.tl.tl.tl.tl.tl.tl.tl.tl.tl.tl.tl.tl.tl.tl.hd, cell_below h _ _ EW.out.c.tl.tl.tl.tl.tl.tl.tl.tl.tl.tl.tl.tl.tl.tl.tl.tl.tl.tl.tl.tl.tl.tl.tl.tl.tl.tl.tl.hd, cell_below h _ _ EW.out.c.tl.tl.tl.tl.tl.tl.tl.tl.tl.tl.tl.tl.hd, cell_below h _ _ EW.out.c.tl.tl.tl.tl.tl.tl.tl.tl.tl.tl.tl.tl.tl.hd, cell_below h _ _ EW.out.c.tl.tl.tl.tl.tl.tl.tl.tl.tl.tl.tl.tl.tl.tl.hd, cell_below h _ _ EW.out.c.tl.tl.tl.tl.tl.tl.tl.tl.tl.tl.tl.tl.tl.tl.tl.hd, cell_below h _ _ EW.out.c.tl.tl.tl.tl.tl.tl.tl.tl.hd, cell_below h _ _ EW.out.c.tl.tl.tl.tl.tl.tl.tl.tl.tl.hd, cell_below h _ _ EW.out.c.tl.tl.tl.tl.tl.tl.tl.tl.tl.tl.hd, cell_below h _ _ EW.out.c.tl.tl.tl.tl.tl.tl.tl.tl.tl.tl.tl.hd, cell_below h _ _ EW.out.c.hd, cell_below h _ _ EW.out.c.tl.hd, cell_below h _ _ EW.out.c.tl.tl.hd, cell_below h _ _ EW.out.c.tl.tl.tl.hd, cell_below h _ _ EW.out.c.tl.tl.tl.tl.tl.tl.tl.tl.tl.tl.tl.tl.tl.tl.tl.tl.tl.tl.tl.tl.tl.tl.tl.tl.tl.tl.tl.tl.tl.hd, cell_below h _ _ EW.out.c.tl.tl.tl.tl.tl.tl.tl.tl.tl.tl.tl.tl.tl.tl.tl.tl.tl.tl.tl.tl.tl.tl.tl.tl.tl.tl.tl.tl.hd, cell_below h _ _ EW.out.c.tl.tl.tl.tl.hd, cell_below h _ _ EW.out.c.tl.tl.tl.tl.tl.hd, cell_below h _ _ EW.out.c.tl.tl.tl.tl.tl.tl.hd, cell_below h _ _ EW.out.c.tl.tl.tl.tl.tl.tl.tl.hd⟩
  have hS0 : Below W0.heap.size W0 W0.drew := (Below.refl _ _).drew
  have Bt := Lib.hid EW.out.t.tl.tl.tl.tl.tl.tl.tl.tl.tl.tl.tl.tl.tl.tl.tl.tl.tl.tl.tl.tl.tl.hd
  have Br := Lib.hid EW.out.t.tl.tl.tl.tl.tl.tl.tl.tl.tl.tl.tl.tl.tl.tl.tl.tl.tl.hd
  have Bp := Lib.hid EW.out.t.tl.tl.tl.tl.tl.tl.tl.hd
  have Bu := Lib.hid EW.out.t.tl.tl.hd
  have Bk := Lib.hid EW.out.t.hd
  have Bl := Lib.hid EW.out.t.tl.hd
  clear EW
  have E1000 : Hid (Env W0 W0.drew [] []) := Lib.hid (Env.bare ((Env.start W0).step hS0))
  have tok0 : True := trivial
  simp only [List.append]
  have hHeld : (fun w' => Below W0.heap.size W0 w' ∧ w'.cell? ⟨w5.heap.size, 0, none⟩ = some (.int .i64 3) ∧ w'.cell? ⟨w5.heap.size, 1, none⟩ = some (.int .i64 0) ∧ w'.cell? ⟨w5.heap.size, 2, none⟩ = some (.string ⟨#[102]⟩) ∧ w'.cell? ⟨w5.heap.size, 3, none⟩ = some (.slice (some ⟨w4.heap.size, 0, none⟩) 2 2) ∧ w'.cell? ⟨w10.heap.size, 0, none⟩ = some (.int .i64 3) ∧ w'.cell? ⟨w10.heap.size, 1, none⟩ = some (.int .i64 0) ∧ w'.cell? ⟨w10.heap.size, 2, none⟩ = some (.string ⟨#[102]⟩) ∧ w'.cell? ⟨w10.heap.size, 3, none⟩ = some (.slice ma1 2 mc1) ∧ w'.cell? ⟨w20.heap.size, 0, none⟩ = some (.int .i64 3) ∧ w'.cell? ⟨w20.heap.size, 1, none⟩ = some (.int .i64 0) ∧ w'.cell? ⟨w20.heap.size, 2, none⟩ = some (.string ⟨#[102]⟩) ∧ w'.cell? ⟨w20.heap.size, 3, none⟩ = some (.slice ma4 2 mc4) ∧ w'.cell? ⟨w24.heap.size, 0, none⟩ = some (.int .i64 3) ∧ w'.cell? ⟨w24.heap.size, 1, none⟩ = some (.int .i64 0) ∧ w'.cell? ⟨w24.heap.size, 2, none⟩ = some (.string ⟨#[46]⟩) ∧ w'.cell? ⟨w24.heap.size, 3, none⟩ = some (.slice ma5 2 mc5) ∧ w'.cell? ⟨w25.heap.size, 0, none⟩ = some (.int .i64 2) ∧ w'.cell? ⟨w25.heap.size, 1, none⟩ = some (.int .i64 0) ∧ w'.cell? ⟨w25.heap.size, 2, none⟩ = some (.string ⟨#[91, 93]⟩) ∧ w'.cell? ⟨w25.heap.size, 3, none⟩ = some (.slice ta 0 tc) ∧ w'.cell? ⟨lg, 0, none⟩ = some (.int .i64 5) ∧ w'.cell? ⟨lg, 1, none⟩ = some (.int .i64 2) ∧ w'.cell? ⟨kb, ko + 4, none⟩ = some (.int .i64 2) ∧ w'.cell? ⟨kb, ko + 4 + 1, none⟩ = some (.int .i64 0) ∧ w'.cell? ⟨kb, ko + 4 + 2, none⟩ = some (.string ⟨#[98]⟩) ∧ w'.cell? ⟨kb, ko + 4 + 3, none⟩ = some (.slice ua 0 uc)) W0.drew := HS.out _ hS0
  refine wp_region_noPanic ?_
  refine wp_region_row (S := (fun w' => Below W0.heap.size W0 w' ∧ w'.cell? ⟨w5.heap.size, 0, none⟩ = some (.int .i64 3) ∧ w'.cell? ⟨w5.heap.size, 1, none⟩ = some (.int .i64 0) ∧ w'.cell? ⟨w5.heap.size, 2, none⟩ = some (.string ⟨#[102]⟩) ∧ w'.cell? ⟨w5.heap.size, 3, none⟩ = some (.slice (some ⟨w4.heap.size, 0, none⟩) 2 2) ∧ w'.cell? ⟨w10.heap.size, 0, none⟩ = some (.int .i64 3) ∧ w'.cell? ⟨w10.heap.size, 1, none⟩ = some (.int .i64 0) ∧ w'.cell? ⟨w10.heap.size, 2, none⟩ = some (.string ⟨#[102]⟩) ∧ w'.cell? ⟨w10.heap.size, 3, none⟩ = some (.slice ma1 2 mc1) ∧ w'.cell? ⟨w20.heap.size, 0, none⟩ = some (.int .i64 3) ∧ w'.cell? ⟨w20.heap.size, 1, none⟩ = some (.int .i64 0) ∧ w'.cell? ⟨w20.heap.size, 2, none⟩ = some (.string ⟨#[102]⟩) ∧ w'.cell? ⟨w20.heap.size, 3, none⟩ = some (.slice ma4 2 mc4) ∧ w'.cell? ⟨w24.heap.size, 0, none⟩ = some (.int .i64 3) ∧ w'.cell? ⟨w24.heap.size, 1, none⟩ = some (.int .i64 0) ∧ w'.cell? ⟨w24.heap.size, 2, none⟩ = some (.string ⟨#[46]⟩) ∧ w'.cell? ⟨w24.heap.size, 3, none⟩ = some (.slice ma5 2 mc5) ∧ w'.cell? ⟨w25.heap.size, 0, none⟩ = some (.int .i64 2) ∧ w'.cell? ⟨w25.heap.size, 1, none⟩ = some (.int .i64 0) ∧ w'.cell? ⟨w25.heap.size, 2, none⟩ = some (.string ⟨#[91, 93]⟩) ∧ w'.cell? ⟨w25.heap.size, 3, none⟩ = some (.slice ta 0 tc) ∧ w'.cell? ⟨lg, 0, none⟩ = some (.int .i64 5) ∧ w'.cell? ⟨lg, 1, none⟩ = some (.int .i64 2) ∧ w'.cell? ⟨kb, ko + 4, none⟩ = some (.int .i64 2) ∧ w'.cell? ⟨kb, ko + 4 + 1, none⟩ = some (.int .i64 0) ∧ w'.cell? ⟨kb, ko + 4 + 2, none⟩ = some (.string ⟨#[98]⟩) ∧ w'.cell? ⟨kb, ko + 4 + 3, none⟩ = some (.slice ua 0 uc))) [false, false, false, false, false, false, false, false, false, false, false, false, false, false, false, false, false, false, false, false, false, false, false, false, false, false, false, false, false, false, false, false, false, false, false, false, false, false, false, false, false, false, false, false, false, false, false, false, false, false, false, false, false, true, false, false, false, false, false, false, false, false, false, false, false, false, false, false, false, false, false, false, false, true, false, false, false, false, false, false, false, false, false, false, false, false, false, false, true, false, false, false, false, false, false, false, false, false, false, false, false, false, false, false, true, true, true, false, false, false, false, true, false, false, false, false, false, false, false, false, false, false, false, false, false, false, false, false, false, false, false, false, false, false, false, false, false, false, false] [0, 1, 2, 3, 4, 5, 6, 7, 8, 9, 10, 11, 12, 13, 14, 15, 16, 17, 18, 19, 20, 21, 22, 23, 24, 25, 26, 27, 28, 29, 30, 31, 32, 33, 34, 35, 36, 37, 38, 39, 40, 41, 42, 43, 44, 45, 46, 47, 48, 49, 50, 51, 52, 53, 53, 55, 56, 57, 58, 59, 60, 61, 62, 63, 64, 65, 66, 67, 68, 69, 70, 71, 72, 73, 73, 75, 76, 77, 78, 79, 80, 81, 82, 83, 84, 85, 86, 87, 88, 88, 90, 91, 92, 93, 94, 95, 96, 97, 98, 99, 100, 101, 102, 103, 104, 105, 106, 104, 108, 109, 110, 111, 111, 113, 114, 115, 116, 117, 118, 119, 120, 121, 122, 123, 124, 125, 126, 127, 128, 129, 130, 131, 132, 133, 134, 135, 136, 137, 138] (by kernel_rfl) (by kernel_rfl) (by kernel_rfl) (by kernel_rfl) (fun _ _ _ _ _ h => h) ?_
  refine WpSeq.take (v := ?_) (by kernel_rfl) ?_ (by assumption) ?_
  rotate_left
  · (intro w hSw; (try dsimp only at hSw); go_simp; try with_reducible rfl)
  dsimp only [List.set_cons_succ, List.set_cons_zero]
  refine WpSeq.callF (by kernel_rfl) runs_Valid_is (by kernel_rfl) ((Valid_is (.mk 3 0 ⟨#[102]⟩ []) _ false (by rfl) _ (nil_lies ⟨by omega, by omega⟩ ⟨by omega, by omega⟩ (by simp [ByteArray.size]))).mono ?_)
  try clear h5
  rintro e w1001 ⟨rfl, hb1001⟩
  have E1001 := Lib.hid (Env.bare (E1000.out.step hb1001))
  clear hb1001 E1000
  have h5 := E1001.out.b
  refine ⟨_, rfl, HS.out _ h5, ?_⟩
  dsimp only [List.set_cons_succ, List.set_cons_zero]
  clear hHeld
  have hHeld := HS.out _ h5
  refine WpSeq.take (by kernel_rfl) (fun _ _ => rfl) (by assumption) ?_
  dsimp only [List.set_cons_succ, List.set_cons_zero]
  refine WpSeq.take (by kernel_rfl) (fun _ _ => rfl) (by assumption) ?_
  dsimp only [List.set_cons_succ, List.set_cons_zero]
  refine WpSeq.callF (by kernel_rfl) runs_x_any (by kernel_rfl) ((x_any (-1) _).mono ?_)
  try clear h5
  rintro e w1002 ⟨rfl, hb1002⟩
  have E1002 := Lib.hid ((E1001.out.step hb1002).pushT (vr_lies (n := (-1)) ⟨by omega, by omega⟩))
  clear hb1002 E1001
  have h5 := E1002.out.b
  refine ⟨_, rfl, HS.out _ h5, ?_⟩
  dsimp only [List.set_cons_succ, List.set_cons_zero]
  clear hHeld
  have hHeld := HS.out _ h5
  refine WpSeq.callF (by kernel_rfl) runs_Valid_is (by kernel_rfl) ((Valid_is (vr (-1)) _ false (by rfl) _ E1002.out.t.hd).mono ?_)
  try clear h5
  rintro e w1003 ⟨rfl, hb1003⟩
  have E1003 := Lib.hid (Env.bare (E1002.out.step hb1003))
  clear hb1003 E1002
  have h5 := E1003.out.b
  refine ⟨_, rfl, HS.out _ h5, ?_⟩
  dsimp only [List.set_cons_succ, List.set_cons_zero]
  clear hHeld
  have hHeld := HS.out _ h5
  refine WpSeq.take (by kernel_rfl) (fun _ _ => rfl) (by assumption) ?_
  dsimp only [List.set_cons_succ, List.set_cons_zero]
  refine WpSeq.take (by kernel_rfl) (fun _ _ => rfl) (by assumption) ?_
  dsimp only [List.set_cons_succ, List.set_cons_zero]
  refine WpSeq.take (by kernel_rfl) (fun _ _ => rfl) (by assumption) ?_
  dsimp only [List.set_cons_succ, List.set_cons_zero]
  refine WpSeq.callF (by kernel_rfl) runs_a_any (by kernel_rfl) ((a_any ⟨#[97]⟩ _).mono ?_)
  try clear h5
  rintro e w1004 ⟨rfl, hb1004⟩
  have E1004 := Lib.hid ((E1003.out.step hb1004).pushT (atom_lies (nm := ⟨#[97]⟩) (by simp [ByteArray.size])))
  clear hb1004 E1003
  have h5 := E1004.out.b
  refine ⟨_, rfl, HS.out _ h5, ?_⟩
  dsimp only [List.set_cons_succ, List.set_cons_zero]
  clear hHeld
  have hHeld := HS.out _ h5
  refine WpSeq.callF (by kernel_rfl) runs_x_any (by kernel_rfl) ((x_any 0 _).mono ?_)
  try clear h5
  rintro e w1005 ⟨rfl, hb1005⟩
  have E1005 := Lib.hid ((E1004.out.step hb1005).pushT (vr_lies (n := 0) ⟨by omega, by omega⟩))
  clear hb1005 E1004
  have lz1006 := Lib.hid (lies_new (g := w1005.heap.size) (ty := 24) rfl [((vr 0), .slice none 0 0)] (by simp only [EnvT]; exact ⟨E1005.out.t.hd, trivial⟩) (by simp))
  have h5 := E1005.out.b
  refine ⟨_, rfl, HS.out _ h5, ?_⟩
  dsimp only [List.set_cons_succ, List.set_cons_zero]
  clear hHeld
  have hHeld := HS.out _ h5
  refine WpSeq.call (by kernel_rfl) (fun K hK => ?_)
  go_simp
  refine hK.out _ _ ?_ (fun hHeld2 => ?_)
  · exact HS.out _ (h5.alloc (by have := h5.size; omega) _)
  clear hK K hHeld
  have hHeld := hHeld2; clear hHeld2
  try (refine WpSeq.put ?_; dsimp only [List.set_cons_succ, List.set_cons_zero])
  refine WpSeq.callF (by kernel_rfl) runs_f_any (by kernel_rfl) ((f_any ⟨#[103]⟩ (some ⟨w1005.heap.size, 0, none⟩) 1 1 _).mono ?_)
  try clear h5
  rintro e w1006 ⟨rfl, hb1006⟩
  have E1006 := Lib.hid (((E1005.out.alloc _).step hb1006).pushT (LiesT.below (struct_lies (nm := ⟨#[103]⟩) (by simp [ByteArray.size]) lz1006.out) hb1006))
  clear hb1006 E1005
  clear lz1006
  have h5 := E1006.out.b
  refine ⟨_, rfl, HS.out _ h5, ?_⟩
  dsimp only [List.set_cons_succ, List.set_cons_zero]
  clear hHeld
  have hHeld := HS.out _ h5
  refine WpSeq.callF (by kernel_rfl) runs_Int_any (by kernel_rfl) ((Int_any 3 _).mono ?_)
  try clear h5
  rintro e w1007 ⟨rfl, hb1007⟩
  have E1007 := Lib.hid ((E1006.out.step hb1007).pushT (int_lies (n := 3) ⟨by omega, by omega⟩))
  clear hb1007 E1006
  have lz1008 := Lib.hid (lies_new (g := w1007.heap.size) (ty := 24) rfl [((.mk 2 0 ⟨#[97]⟩ []), .slice none 0 0), ((.mk 3 0 ⟨#[103]⟩ [(vr 0)]), .slice (some ⟨w1005.heap.size, 0, none⟩) 1 1), ((.mk 1 3 ⟨#[]⟩ []), .slice none 0 0)] (by simp only [EnvT]; exact ⟨E1007.out.t.tl.tl.tl.hd, ⟨E1007.out.t.tl.hd, ⟨E1007.out.t.hd, trivial⟩⟩⟩) (by simp))
  have h5 := E1007.out.b
  refine ⟨_, rfl, HS.out _ h5, ?_⟩
  dsimp only [List.set_cons_succ, List.set_cons_zero]
  clear hHeld
  have hHeld := HS.out _ h5
  refine WpSeq.call (by kernel_rfl) (fun K hK => ?_)
  go_simp
  refine hK.out _ _ ?_ (fun hHeld2 => ?_)
  · exact HS.out _ (h5.alloc (by have := h5.size; omega) _)
  clear hK K hHeld
  have hHeld := hHeld2; clear hHeld2
  try (refine WpSeq.put ?_; dsimp only [List.set_cons_succ, List.set_cons_zero])
  refine WpSeq.callF (by kernel_rfl) runs_f_any (by kernel_rfl) ((f_any ⟨#[102]⟩ (some ⟨w1007.heap.size, 0, none⟩) 3 3 _).mono ?_)
  try clear h5
  rintro e w1008 ⟨rfl, hb1008⟩
  have E1008 := Lib.hid (((E1007.out.alloc _).step hb1008).pushT (LiesT.below (struct_lies (nm := ⟨#[102]⟩) (by simp [ByteArray.size]) lz1008.out) hb1008))
  clear hb1008 E1007
  clear lz1008
  have h5 := E1008.out.b
  refine ⟨_, rfl, HS.out _ h5, ?_⟩
  dsimp only [List.set_cons_succ, List.set_cons_zero]
  clear hHeld
  have hHeld := HS.out _ h5
  refine WpSeq.callF (by kernel_rfl) runs_Size_is (by kernel_rfl) ((Size_is (.mk 3 0 ⟨#[102]⟩ [(.mk 2 0 ⟨#[97]⟩ []), (.mk 3 0 ⟨#[103]⟩ [(vr 0)]), (.mk 1 3 ⟨#[]⟩ [])]) 5 (by rfl) _ _ E1008.out.t.hd).mono ?_)
  try clear h5
  rintro e w1009 ⟨rfl, hb1009⟩
  have E1009 := Lib.hid (Env.bare (E1008.out.step hb1009))
  clear hb1009 E1008
  have h5 := E1009.out.b
  refine ⟨_, rfl, HS.out _ h5, ?_⟩
  dsimp only [List.set_cons_succ, List.set_cons_zero]
  clear hHeld
  have hHeld := HS.out _ h5
  refine WpSeq.take (by kernel_rfl) (fun _ _ => rfl) (by assumption) ?_
  dsimp only [List.set_cons_succ, List.set_cons_zero]
  refine WpSeq.take (by kernel_rfl) (fun _ _ => rfl) (by assumption) ?_
  dsimp only [List.set_cons_succ, List.set_cons_zero]
  refine WpSeq.take (by kernel_rfl) (fun _ _ => rfl) (by assumption) ?_
  dsimp only [List.set_cons_succ, List.set_cons_zero]
  refine WpSeq.take (by kernel_rfl) (fun _ _ => rfl) (by assumption) ?_
  dsimp only [List.set_cons_succ, List.set_cons_zero]
  refine WpSeq.take (v := ?_) (by kernel_rfl) ?_ (by assumption) ?_
  rotate_left
  · (intro w hSw; (try dsimp only at hSw); go_simp; try with_reducible rfl)
  dsimp only [List.set_cons_succ, List.set_cons_zero]
  refine WpSeq.take (by kernel_rfl) (fun _ _ => rfl) (by assumption) ?_
  dsimp only [List.set_cons_succ, List.set_cons_zero]
  refine WpSeq.take (by kernel_rfl) (fun _ _ => rfl) (by assumption) ?_
  dsimp only [List.set_cons_succ, List.set_cons_zero]
  refine WpSeq.take (by kernel_rfl) (fun _ _ => rfl) (by assumption) ?_
  dsimp only [List.set_cons_succ, List.set_cons_zero]
  refine WpSeq.take (by kernel_rfl) (fun _ _ => rfl) (by assumption) ?_
  dsimp only [List.set_cons_succ, List.set_cons_zero]
  refine WpSeq.take (v := ?_) (by kernel_rfl) ?_ (by assumption) ?_
  rotate_left
  · (intro w hSw; (try dsimp only at hSw); go_simp; try with_reducible rfl)
  dsimp only [List.set_cons_succ, List.set_cons_zero]
  refine WpSeq.take (v := ?_) (by kernel_rfl) ?_ (by assumption) ?_
  rotate_left
  · (intro w hSw; (try dsimp only at hSw); go_simp; try with_reducible rfl)
  dsimp only [List.set_cons_succ, List.set_cons_zero]
  refine WpSeq.take (by kernel_rfl) (fun _ _ => rfl) (by assumption) ?_
  dsimp only [List.set_cons_succ, List.set_cons_zero]
  refine WpSeq.take (by kernel_rfl) (fun _ _ => rfl) (by assumption) ?_
  dsimp only [List.set_cons_succ, List.set_cons_zero]
  refine WpSeq.take (by kernel_rfl) (fun _ _ => rfl) (by assumption) ?_
  dsimp only [List.set_cons_succ, List.set_cons_zero]
  refine WpSeq.take (by kernel_rfl) (fun _ _ => rfl) (by assumption) ?_
  dsimp only [List.set_cons_succ, List.set_cons_zero]
  refine WpSeq.take (v := ?_) (by kernel_rfl) ?_ (by assumption) ?_
  rotate_left
  · (intro w hSw; (try dsimp only at hSw); go_simp; try with_reducible rfl)
  dsimp only [List.set_cons_succ, List.set_cons_zero]
  refine WpSeq.take (v := ?_) (by kernel_rfl) ?_ (by assumption) ?_
  rotate_left
  · (intro w hSw; (try dsimp only at hSw); go_simp; try with_reducible rfl)
  dsimp only [List.set_cons_succ, List.set_cons_zero]
  refine WpSeq.take (by kernel_rfl) (fun _ _ => rfl) (by assumption) ?_
  dsimp only [List.set_cons_succ, List.set_cons_zero]
  refine WpSeq.take (by kernel_rfl) (fun _ _ => rfl) (by assumption) ?_
  dsimp only [List.set_cons_succ, List.set_cons_zero]
  refine WpSeq.take (by kernel_rfl) (fun _ _ => rfl) (by assumption) ?_
  dsimp only [List.set_cons_succ, List.set_cons_zero]
  refine WpSeq.take (v := ?_) (by kernel_rfl) ?_ (by assumption) ?_
  rotate_left
  · (intro w hSw; (try dsimp only at hSw); go_simp; try with_reducible rfl)
  dsimp only [List.set_cons_succ, List.set_cons_zero]
  refine WpSeq.callF (by kernel_rfl) runs_Canon_yes (by kernel_rfl) ((Canon_yes (.mk 3 0 ⟨#[102]⟩ [(vr 5), (.mk 3 0 ⟨#[103]⟩ [(vr 2), (vr 5)])]) _ _ (LiesT.below Bt.out E1009.out.b) (by rfl)).mono ?_)
  try clear h5
  rintro e w1010 ⟨y, he, hy, hb1010⟩
  have hT : canT (.mk 3 0 ⟨#[102]⟩ [(vr 5), (.mk 3 0 ⟨#[103]⟩ [(vr 2), (vr 5)])]) = (.mk 3 0 ⟨#[102]⟩ [(vr 0), (.mk 3 0 ⟨#[103]⟩ [(vr 1), (vr 0)])]) := by rfl
  rw [hT] at he hy
  obtain ⟨ma6, mc6, rfl⟩ : ∃ a c, y = .slice a 2 c := hy.slice
  obtain rfl : e = .returned (pv 3 0 ⟨#[102]⟩ (.slice ma6 2 mc6)) := he
  have hyl := OwnT.lies _ _ hy
  have E1010 := Lib.hid ((E1009.out.step hb1010).pushT hyl)
  clear hb1010 E1009
  clear hy hyl hT
  have h5 := E1010.out.b
  refine ⟨_, rfl, HS.out _ h5, ?_⟩
  dsimp only [List.set_cons_succ, List.set_cons_zero]
  clear hHeld
  have hHeld := HS.out _ h5
  refine WpSeq.callF (by kernel_rfl) runs_x_any (by kernel_rfl) ((x_any 0 _).mono ?_)
  try clear h5
  rintro e w1011 ⟨rfl, hb1011⟩
  have E1011 := Lib.hid ((E1010.out.step hb1011).pushT (vr_lies (n := 0) ⟨by omega, by omega⟩))
  clear hb1011 E1010
  have h5 := E1011.out.b
  refine ⟨_, rfl, HS.out _ h5, ?_⟩
  dsimp only [List.set_cons_succ, List.set_cons_zero]
  clear hHeld
  have hHeld := HS.out _ h5
  refine WpSeq.callF (by kernel_rfl) runs_x_any (by kernel_rfl) ((x_any 1 _).mono ?_)
  try clear h5
  rintro e w1012 ⟨rfl, hb1012⟩
  have E1012 := Lib.hid ((E1011.out.step hb1012).pushT (vr_lies (n := 1) ⟨by omega, by omega⟩))
  clear hb1012 E1011
  have h5 := E1012.out.b
  refine ⟨_, rfl, HS.out _ h5, ?_⟩
  dsimp only [List.set_cons_succ, List.set_cons_zero]
  clear hHeld
  have hHeld := HS.out _ h5
  refine WpSeq.callF (by kernel_rfl) runs_x_any (by kernel_rfl) ((x_any 0 _).mono ?_)
  try clear h5
  rintro e w1013 ⟨rfl, hb1013⟩
  have E1013 := Lib.hid ((E1012.out.step hb1013).pushT (vr_lies (n := 0) ⟨by omega, by omega⟩))
  clear hb1013 E1012
  have lz1014 := Lib.hid (lies_new (g := w1013.heap.size) (ty := 24) rfl [((vr 1), .slice none 0 0), ((vr 0), .slice none 0 0)] (by simp only [EnvT]; exact ⟨E1013.out.t.tl.hd, ⟨E1013.out.t.hd, trivial⟩⟩) (by simp))
  have h5 := E1013.out.b
  refine ⟨_, rfl, HS.out _ h5, ?_⟩
  dsimp only [List.set_cons_succ, List.set_cons_zero]
  clear hHeld
  have hHeld := HS.out _ h5
  refine WpSeq.call (by kernel_rfl) (fun K hK => ?_)
  go_simp
  refine hK.out _ _ ?_ (fun hHeld2 => ?_)
  · exact HS.out _ (h5.alloc (by have := h5.size; omega) _)
  clear hK K hHeld
  have hHeld := hHeld2; clear hHeld2
  try (refine WpSeq.put ?_; dsimp only [List.set_cons_succ, List.set_cons_zero])
  refine WpSeq.callF (by kernel_rfl) runs_f_any (by kernel_rfl) ((f_any ⟨#[103]⟩ (some ⟨w1013.heap.size, 0, none⟩) 2 2 _).mono ?_)
  try clear h5
  rintro e w1014 ⟨rfl, hb1014⟩
  have E1014 := Lib.hid (((E1013.out.alloc _).step hb1014).pushT (LiesT.below (struct_lies (nm := ⟨#[103]⟩) (by simp [ByteArray.size]) lz1014.out) hb1014))
  clear hb1014 E1013
  clear lz1014
  have lz1015 := Lib.hid (lies_new (g := w1014.heap.size) (ty := 24) rfl [((vr 0), .slice none 0 0), ((.mk 3 0 ⟨#[103]⟩ [(vr 1), (vr 0)]), .slice (some ⟨w1013.heap.size, 0, none⟩) 2 2)] (by simp only [EnvT]; exact ⟨E1014.out.t.tl.tl.tl.hd, ⟨E1014.out.t.hd, trivial⟩⟩) (by simp))
  have h5 := E1014.out.b
  refine ⟨_, rfl, HS.out _ h5, ?_⟩
  dsimp only [List.set_cons_succ, List.set_cons_zero]
  clear hHeld
  have hHeld := HS.out _ h5
  refine WpSeq.call (by kernel_rfl) (fun K hK => ?_)
  go_simp
  refine hK.out _ _ ?_ (fun hHeld2 => ?_)
  · exact HS.out _ (h5.alloc (by have := h5.size; omega) _)
  clear hK K hHeld
  have hHeld := hHeld2; clear hHeld2
  try (refine WpSeq.put ?_; dsimp only [List.set_cons_succ, List.set_cons_zero])
  refine WpSeq.callF (by kernel_rfl) runs_f_any (by kernel_rfl) ((f_any ⟨#[102]⟩ (some ⟨w1014.heap.size, 0, none⟩) 2 2 _).mono ?_)
  try clear h5
  rintro e w1015 ⟨rfl, hb1015⟩
  have E1015 := Lib.hid (((E1014.out.alloc _).step hb1015).pushT (LiesT.below (struct_lies (nm := ⟨#[102]⟩) (by simp [ByteArray.size]) lz1015.out) hb1015))
  clear hb1015 E1014
  clear lz1015
  have h5 := E1015.out.b
  refine ⟨_, rfl, HS.out _ h5, ?_⟩
  dsimp only [List.set_cons_succ, List.set_cons_zero]
  clear hHeld
  have hHeld := HS.out _ h5
  refine WpSeq.callF (by kernel_rfl) runs_Same_is (by kernel_rfl) ((Same_is (.mk 3 0 ⟨#[102]⟩ [(vr 0), (.mk 3 0 ⟨#[103]⟩ [(vr 1), (vr 0)])]) (.mk 3 0 ⟨#[102]⟩ [(vr 0), (.mk 3 0 ⟨#[103]⟩ [(vr 1), (vr 0)])]) true (by rfl) _ _ _ E1015.out.t.tl.tl.tl.tl.tl.hd E1015.out.t.hd).mono ?_)
  try clear h5
  rintro e w1016 ⟨rfl, hb1016⟩
  have E1016 := Lib.hid (Env.bare (E1015.out.step hb1016))
  clear hb1016 E1015
  have h5 := E1016.out.b
  refine ⟨_, rfl, HS.out _ h5, ?_⟩
  dsimp only [List.set_cons_succ, List.set_cons_zero]
  clear hHeld
  have hHeld := HS.out _ h5
  refine WpSeq.take (by kernel_rfl) (fun _ _ => rfl) (by assumption) ?_
  dsimp only [List.set_cons_succ, List.set_cons_zero]
  refine WpSeq.take (by kernel_rfl) (fun _ _ => rfl) (by assumption) ?_
  dsimp only [List.set_cons_succ, List.set_cons_zero]
  refine WpSeq.take (by kernel_rfl) (fun _ _ => rfl) (by assumption) ?_
  dsimp only [List.set_cons_succ, List.set_cons_zero]
  refine WpSeq.take (by kernel_rfl) (fun _ _ => rfl) (by assumption) ?_
  dsimp only [List.set_cons_succ, List.set_cons_zero]
  refine WpSeq.take (by kernel_rfl) (fun _ _ => rfl) (by assumption) ?_
  dsimp only [List.set_cons_succ, List.set_cons_zero]
  refine WpSeq.take (by kernel_rfl) (fun _ _ => rfl) (by assumption) ?_
  dsimp only [List.set_cons_succ, List.set_cons_zero]
  refine WpSeq.take (v := ?_) (by kernel_rfl) ?_ (by assumption) ?_
  rotate_left
  · (intro w hSw; (try dsimp only at hSw); go_simp; try with_reducible rfl)
  dsimp only [List.set_cons_succ, List.set_cons_zero]
  refine WpSeq.callF (by kernel_rfl) runs_x_any (by kernel_rfl) ((x_any 10 _).mono ?_)
  try clear h5
  rintro e w1017 ⟨rfl, hb1017⟩
  have E1017 := Lib.hid ((E1016.out.step hb1017).pushT (vr_lies (n := 10) ⟨by omega, by omega⟩))
  clear hb1017 E1016
  have h5 := E1017.out.b
  refine ⟨_, rfl, HS.out _ h5, ?_⟩
  dsimp only [List.set_cons_succ, List.set_cons_zero]
  clear hHeld
  have hHeld := HS.out _ h5
  refine WpSeq.callF (by kernel_rfl) runs_x_any (by kernel_rfl) ((x_any 11 _).mono ?_)
  try clear h5
  rintro e w1018 ⟨rfl, hb1018⟩
  have E1018 := Lib.hid ((E1017.out.step hb1018).pushT (vr_lies (n := 11) ⟨by omega, by omega⟩))
  clear hb1018 E1017
  have lz1019 := Lib.hid (lies_new (g := w1018.heap.size) (ty := 24) rfl [((vr 10), .slice none 0 0), ((vr 11), .slice none 0 0)] (by simp only [EnvT]; exact ⟨E1018.out.t.tl.hd, ⟨E1018.out.t.hd, trivial⟩⟩) (by simp))
  have h5 := E1018.out.b
  refine ⟨_, rfl, HS.out _ h5, ?_⟩
  dsimp only [List.set_cons_succ, List.set_cons_zero]
  clear hHeld
  have hHeld := HS.out _ h5
  refine WpSeq.call (by kernel_rfl) (fun K hK => ?_)
  go_simp
  refine hK.out _ _ ?_ (fun hHeld2 => ?_)
  · exact HS.out _ (h5.alloc (by have := h5.size; omega) _)
  clear hK K hHeld
  have hHeld := hHeld2; clear hHeld2
  try (refine WpSeq.put ?_; dsimp only [List.set_cons_succ, List.set_cons_zero])
  refine WpSeq.callF (by kernel_rfl) runs_f_any (by kernel_rfl) ((f_any ⟨#[102]⟩ (some ⟨w1018.heap.size, 0, none⟩) 2 2 _).mono ?_)
  try clear h5
  rintro e w1019 ⟨rfl, hb1019⟩
  have E1019 := Lib.hid (((E1018.out.alloc _).step hb1019).pushT (LiesT.below (struct_lies (nm := ⟨#[102]⟩) (by simp [ByteArray.size]) lz1019.out) hb1019))
  clear hb1019 E1018
  clear lz1019
  have h5 := E1019.out.b
  refine ⟨_, rfl, HS.out _ h5, ?_⟩
  dsimp only [List.set_cons_succ, List.set_cons_zero]
  clear hHeld
  have hHeld := HS.out _ h5
  refine WpSeq.callF (by kernel_rfl) runs_Same_is (by kernel_rfl) ((Same_is (.mk 3 0 ⟨#[102]⟩ [(vr 10), (vr 11)]) (.mk 3 0 ⟨#[102]⟩ [(vr 10), (vr 11)]) true (by rfl) _ _ _ (LiesT.below Br.out E1019.out.b) E1019.out.t.hd).mono ?_)
  try clear h5
  rintro e w1020 ⟨rfl, hb1020⟩
  have E1020 := Lib.hid (Env.bare (E1019.out.step hb1020))
  clear hb1020 E1019
  have h5 := E1020.out.b
  refine ⟨_, rfl, HS.out _ h5, ?_⟩
  dsimp only [List.set_cons_succ, List.set_cons_zero]
  clear hHeld
  have hHeld := HS.out _ h5
  refine WpSeq.take (by kernel_rfl) (fun _ _ => rfl) (by assumption) ?_
  dsimp only [List.set_cons_succ, List.set_cons_zero]
  refine WpSeq.take (by kernel_rfl) (fun _ _ => rfl) (by assumption) ?_
  dsimp only [List.set_cons_succ, List.set_cons_zero]
  refine WpSeq.take (by kernel_rfl) (fun _ _ => rfl) (by assumption) ?_
  dsimp only [List.set_cons_succ, List.set_cons_zero]
  refine WpSeq.take (by kernel_rfl) (fun _ _ => rfl) (by assumption) ?_
  dsimp only [List.set_cons_succ, List.set_cons_zero]
  refine WpSeq.take (by kernel_rfl) (fun _ _ => rfl) (by assumption) ?_
  dsimp only [List.set_cons_succ, List.set_cons_zero]
  refine WpSeq.take (by kernel_rfl) (fun _ _ => rfl) (by assumption) ?_
  dsimp only [List.set_cons_succ, List.set_cons_zero]
  refine WpSeq.take (by kernel_rfl) (fun _ _ => rfl) (by assumption) ?_
  dsimp only [List.set_cons_succ, List.set_cons_zero]
  refine WpSeq.take (by kernel_rfl) (fun _ _ => rfl) (by assumption) ?_
  dsimp only [List.set_cons_succ, List.set_cons_zero]
  refine WpSeq.take (by kernel_rfl) (fun _ _ => rfl) (by assumption) ?_
  dsimp only [List.set_cons_succ, List.set_cons_zero]
  refine WpSeq.take (by kernel_rfl) (fun _ _ => rfl) (by assumption) ?_
  dsimp only [List.set_cons_succ, List.set_cons_zero]
  refine WpSeq.take (by kernel_rfl) (fun _ _ => rfl) (by assumption) ?_
  dsimp only [List.set_cons_succ, List.set_cons_zero]
  refine WpSeq.take (by kernel_rfl) (fun _ _ => rfl) (by assumption) ?_
  dsimp only [List.set_cons_succ, List.set_cons_zero]
  refine WpSeq.take (by kernel_rfl) (fun _ _ => rfl) (by assumption) ?_
  dsimp only [List.set_cons_succ, List.set_cons_zero]
  refine WpSeq.take (by kernel_rfl) (fun _ _ => rfl) (by assumption) ?_
  dsimp only [List.set_cons_succ, List.set_cons_zero]
  refine WpSeq.take (v := ?_) (by kernel_rfl) ?_ (by assumption) ?_
  rotate_left
  · (intro w hSw; (try dsimp only at hSw); go_simp; try with_reducible rfl)
  dsimp only [List.set_cons_succ, List.set_cons_zero]
  refine WpSeq.callF (by kernel_rfl) runs_x_any (by kernel_rfl) ((x_any 0 _).mono ?_)
  try clear h5
  rintro e w1021 ⟨rfl, hb1021⟩
  have E1021 := Lib.hid ((E1020.out.step hb1021).pushT (vr_lies (n := 0) ⟨by omega, by omega⟩))
  clear hb1021 E1020
  have lz1022 := Lib.hid (lies_new (g := w1021.heap.size) (ty := 24) rfl [((vr 0), .slice none 0 0)] (by simp only [EnvT]; exact ⟨E1021.out.t.hd, trivial⟩) (by simp))
  have h5 := E1021.out.b
  refine ⟨_, rfl, HS.out _ h5, ?_⟩
  dsimp only [List.set_cons_succ, List.set_cons_zero]
  clear hHeld
  have hHeld := HS.out _ h5
  refine WpSeq.call (by kernel_rfl) (fun K hK => ?_)
  go_simp
  refine hK.out _ _ ?_ (fun hHeld2 => ?_)
  · exact HS.out _ (h5.alloc (by have := h5.size; omega) _)
  clear hK K hHeld
  have hHeld := hHeld2; clear hHeld2
  try (refine WpSeq.put ?_; dsimp only [List.set_cons_succ, List.set_cons_zero])
  refine WpSeq.callF (by kernel_rfl) runs_f_any (by kernel_rfl) ((f_any ⟨#[103]⟩ (some ⟨w1021.heap.size, 0, none⟩) 1 1 _).mono ?_)
  try clear h5
  rintro e w1022 ⟨rfl, hb1022⟩
  have E1022 := Lib.hid (((E1021.out.alloc _).step hb1022).pushT (LiesT.below (struct_lies (nm := ⟨#[103]⟩) (by simp [ByteArray.size]) lz1022.out) hb1022))
  clear hb1022 E1021
  clear lz1022
  have h5 := E1022.out.b
  refine ⟨_, rfl, HS.out _ h5, ?_⟩
  dsimp only [List.set_cons_succ, List.set_cons_zero]
  clear hHeld
  have hHeld := HS.out _ h5
  refine WpSeq.callF (by kernel_rfl) runs_x_any (by kernel_rfl) ((x_any 1 _).mono ?_)
  try clear h5
  rintro e w1023 ⟨rfl, hb1023⟩
  have E1023 := Lib.hid ((E1022.out.step hb1023).pushT (vr_lies (n := 1) ⟨by omega, by omega⟩))
  clear hb1023 E1022
  have lz1024 := Lib.hid (lies_new (g := w1023.heap.size) (ty := 24) rfl [((.mk 3 0 ⟨#[103]⟩ [(vr 0)]), .slice (some ⟨w1021.heap.size, 0, none⟩) 1 1), ((vr 1), .slice none 0 0)] (by simp only [EnvT]; exact ⟨E1023.out.t.tl.hd, ⟨E1023.out.t.hd, trivial⟩⟩) (by simp))
  have h5 := E1023.out.b
  refine ⟨_, rfl, HS.out _ h5, ?_⟩
  dsimp only [List.set_cons_succ, List.set_cons_zero]
  clear hHeld
  have hHeld := HS.out _ h5
  refine WpSeq.call (by kernel_rfl) (fun K hK => ?_)
  go_simp
  refine hK.out _ _ ?_ (fun hHeld2 => ?_)
  · exact HS.out _ (h5.alloc (by have := h5.size; omega) _)
  clear hK K hHeld
  have hHeld := hHeld2; clear hHeld2
  try (refine WpSeq.put ?_; dsimp only [List.set_cons_succ, List.set_cons_zero])
  refine WpSeq.callF (by kernel_rfl) runs_f_any (by kernel_rfl) ((f_any ⟨#[102]⟩ (some ⟨w1023.heap.size, 0, none⟩) 2 2 _).mono ?_)
  try clear h5
  rintro e w1024 ⟨rfl, hb1024⟩
  have E1024 := Lib.hid (((E1023.out.alloc _).step hb1024).pushT (LiesT.below (struct_lies (nm := ⟨#[102]⟩) (by simp [ByteArray.size]) lz1024.out) hb1024))
  clear hb1024 E1023
  clear lz1024
  have h5 := E1024.out.b
  refine ⟨_, rfl, HS.out _ h5, ?_⟩
  dsimp only [List.set_cons_succ, List.set_cons_zero]
  clear hHeld
  have hHeld := HS.out _ h5
  refine WpSeq.callF (by kernel_rfl) runs_Same_is (by kernel_rfl) ((Same_is (.mk 3 0 ⟨#[102]⟩ [(.mk 3 0 ⟨#[103]⟩ [(vr 0)]), (vr 1)]) (.mk 3 0 ⟨#[102]⟩ [(.mk 3 0 ⟨#[103]⟩ [(vr 0)]), (vr 1)]) true (by rfl) _ _ _ (LiesT.below Bp.out E1024.out.b) E1024.out.t.hd).mono ?_)
  try clear h5
  rintro e w1025 ⟨rfl, hb1025⟩
  have E1025 := Lib.hid (Env.bare (E1024.out.step hb1025))
  clear hb1025 E1024
  have h5 := E1025.out.b
  refine ⟨_, rfl, HS.out _ h5, ?_⟩
  dsimp only [List.set_cons_succ, List.set_cons_zero]
  clear hHeld
  have hHeld := HS.out _ h5
  refine WpSeq.take (by kernel_rfl) (fun _ _ => rfl) (by assumption) ?_
  dsimp only [List.set_cons_succ, List.set_cons_zero]
  refine WpSeq.take (by kernel_rfl) (fun _ _ => rfl) (by assumption) ?_
  dsimp only [List.set_cons_succ, List.set_cons_zero]
  refine WpSeq.callF (by kernel_rfl) runs_Struct_none (by kernel_rfl) ((Struct_none ⟨#[102]⟩ none 0 _ (by simp [ByteArray.size])).mono ?_)
  try clear h5
  rintro e w1026 ⟨y, he, hy, hb1026⟩
  have hT : (if validB (.mk 2 0 ⟨#[102]⟩ []) = true then (.mk 2 0 ⟨#[102]⟩ []) else z0) = (.mk 2 0 ⟨#[102]⟩ []) := by rfl
  rw [hT] at he hy
  obtain ⟨ma7, mc7, rfl⟩ : ∃ a c, y = .slice a 0 c := hy.slice
  obtain rfl : e = .returned (pv 2 0 ⟨#[102]⟩ (.slice ma7 0 mc7)) := he
  have hyl := OwnT.lies _ _ hy
  have E1026 := Lib.hid ((E1025.out.step hb1026).pushT hyl)
  clear hb1026 E1025
  clear hy hyl hT
  have h5 := E1026.out.b
  refine ⟨_, rfl, HS.out _ h5, ?_⟩
  dsimp only [List.set_cons_succ, List.set_cons_zero]
  clear hHeld
  have hHeld := HS.out _ h5
  refine WpSeq.callF (by kernel_rfl) runs_a_any (by kernel_rfl) ((a_any ⟨#[102]⟩ _).mono ?_)
  try clear h5
  rintro e w1027 ⟨rfl, hb1027⟩
  have E1027 := Lib.hid ((E1026.out.step hb1027).pushT (atom_lies (nm := ⟨#[102]⟩) (by simp [ByteArray.size])))
  clear hb1027 E1026
  have h5 := E1027.out.b
  refine ⟨_, rfl, HS.out _ h5, ?_⟩
  dsimp only [List.set_cons_succ, List.set_cons_zero]
  clear hHeld
  have hHeld := HS.out _ h5
  refine WpSeq.callF (by kernel_rfl) runs_Same_is (by kernel_rfl) ((Same_is (.mk 2 0 ⟨#[102]⟩ []) (.mk 2 0 ⟨#[102]⟩ []) true (by rfl) _ _ _ E1027.out.t.tl.hd E1027.out.t.hd).mono ?_)
  try clear h5
  rintro e w1028 ⟨rfl, hb1028⟩
  have E1028 := Lib.hid (Env.bare (E1027.out.step hb1028))
  clear hb1028 E1027
  have h5 := E1028.out.b
  refine ⟨_, rfl, HS.out _ h5, ?_⟩
  dsimp only [List.set_cons_succ, List.set_cons_zero]
  clear hHeld
  have hHeld := HS.out _ h5
  refine WpSeq.take (by kernel_rfl) (fun _ _ => rfl) (by assumption) ?_
  dsimp only [List.set_cons_succ, List.set_cons_zero]
  refine WpSeq.take (by kernel_rfl) (fun _ _ => rfl) (by assumption) ?_
  dsimp only [List.set_cons_succ, List.set_cons_zero]
  refine WpSeq.take (v := ?_) (by kernel_rfl) ?_ (by assumption) ?_
  rotate_left
  · (intro w hSw; (try dsimp only at hSw); go_simp; try with_reducible rfl)
  dsimp only [List.set_cons_succ, List.set_cons_zero]
  refine WpSeq.callF (by kernel_rfl) runs_a_any (by kernel_rfl) ((a_any ⟨#[97]⟩ _).mono ?_)
  try clear h5
  rintro e w1029 ⟨rfl, hb1029⟩
  have E1029 := Lib.hid ((E1028.out.step hb1029).pushT (atom_lies (nm := ⟨#[97]⟩) (by simp [ByteArray.size])))
  clear hb1029 E1028
  have h5 := E1029.out.b
  refine ⟨_, rfl, HS.out _ h5, ?_⟩
  dsimp only [List.set_cons_succ, List.set_cons_zero]
  clear hHeld
  have hHeld := HS.out _ h5
  refine WpSeq.callF (by kernel_rfl) runs_a_any (by kernel_rfl) ((a_any ⟨#[98]⟩ _).mono ?_)
  try clear h5
  rintro e w1030 ⟨rfl, hb1030⟩
  have E1030 := Lib.hid ((E1029.out.step hb1030).pushT (atom_lies (nm := ⟨#[98]⟩) (by simp [ByteArray.size])))
  clear hb1030 E1029
  have h5 := E1030.out.b
  refine ⟨_, rfl, HS.out _ h5, ?_⟩
  dsimp only [List.set_cons_succ, List.set_cons_zero]
  clear hHeld
  have hHeld := HS.out _ h5
  refine WpSeq.callF (by kernel_rfl) runs_a_any (by kernel_rfl) ((a_any ⟨#[91, 93]⟩ _).mono ?_)
  try clear h5
  rintro e w1031 ⟨rfl, hb1031⟩
  have E1031 := Lib.hid ((E1030.out.step hb1031).pushT (atom_lies (nm := ⟨#[91, 93]⟩) (by simp [ByteArray.size])))
  clear hb1031 E1030
  have lz1032 := Lib.hid (lies_new (g := w1031.heap.size) (ty := 24) rfl [((.mk 2 0 ⟨#[98]⟩ []), .slice none 0 0), ((.mk 2 0 ⟨#[91, 93]⟩ []), .slice none 0 0)] (by simp only [EnvT]; exact ⟨E1031.out.t.tl.hd, ⟨E1031.out.t.hd, trivial⟩⟩) (by simp))
  have h5 := E1031.out.b
  refine ⟨_, rfl, HS.out _ h5, ?_⟩
  dsimp only [List.set_cons_succ, List.set_cons_zero]
  clear hHeld
  have hHeld := HS.out _ h5
  refine WpSeq.call (by kernel_rfl) (fun K hK => ?_)
  go_simp
  refine hK.out _ _ ?_ (fun hHeld2 => ?_)
  · exact HS.out _ (h5.alloc (by have := h5.size; omega) _)
  clear hK K hHeld
  have hHeld := hHeld2; clear hHeld2
  try (refine WpSeq.put ?_; dsimp only [List.set_cons_succ, List.set_cons_zero])
  refine WpSeq.callF (by kernel_rfl) runs_f_any (by kernel_rfl) ((f_any ⟨#[46]⟩ (some ⟨w1031.heap.size, 0, none⟩) 2 2 _).mono ?_)
  try clear h5
  rintro e w1032 ⟨rfl, hb1032⟩
  have E1032 := Lib.hid (((E1031.out.alloc _).step hb1032).pushT (LiesT.below (struct_lies (nm := ⟨#[46]⟩) (by simp [ByteArray.size]) lz1032.out) hb1032))
  clear hb1032 E1031
  clear lz1032
  have lz1033 := Lib.hid (lies_new (g := w1032.heap.size) (ty := 24) rfl [((.mk 2 0 ⟨#[97]⟩ []), .slice none 0 0), ((.mk 3 0 ⟨#[46]⟩ [(.mk 2 0 ⟨#[98]⟩ []), (.mk 2 0 ⟨#[91, 93]⟩ [])]), .slice (some ⟨w1031.heap.size, 0, none⟩) 2 2)] (by simp only [EnvT]; exact ⟨E1032.out.t.tl.tl.tl.hd, ⟨E1032.out.t.hd, trivial⟩⟩) (by simp))
  have h5 := E1032.out.b
  refine ⟨_, rfl, HS.out _ h5, ?_⟩
  dsimp only [List.set_cons_succ, List.set_cons_zero]
  clear hHeld
  have hHeld := HS.out _ h5
  refine WpSeq.call (by kernel_rfl) (fun K hK => ?_)
  go_simp
  refine hK.out _ _ ?_ (fun hHeld2 => ?_)
  · exact HS.out _ (h5.alloc (by have := h5.size; omega) _)
  clear hK K hHeld
  have hHeld := hHeld2; clear hHeld2
  try (refine WpSeq.put ?_; dsimp only [List.set_cons_succ, List.set_cons_zero])
  refine WpSeq.callF (by kernel_rfl) runs_f_any (by kernel_rfl) ((f_any ⟨#[46]⟩ (some ⟨w1032.heap.size, 0, none⟩) 2 2 _).mono ?_)
  try clear h5
  rintro e w1033 ⟨rfl, hb1033⟩
  have E1033 := Lib.hid (((E1032.out.alloc _).step hb1033).pushT (LiesT.below (struct_lies (nm := ⟨#[46]⟩) (by simp [ByteArray.size]) lz1033.out) hb1033))
  clear hb1033 E1032
  clear lz1033
  have h5 := E1033.out.b
  refine ⟨_, rfl, HS.out _ h5, ?_⟩
  dsimp only [List.set_cons_succ, List.set_cons_zero]
  clear hHeld
  have hHeld := HS.out _ h5
  refine WpSeq.callF (by kernel_rfl) runs_Same_is (by kernel_rfl) ((Same_is (.mk 3 0 ⟨#[46]⟩ [(.mk 2 0 ⟨#[97]⟩ []), (.mk 3 0 ⟨#[46]⟩ [(.mk 2 0 ⟨#[98]⟩ []), (.mk 2 0 ⟨#[91, 93]⟩ [])])]) (.mk 3 0 ⟨#[46]⟩ [(.mk 2 0 ⟨#[97]⟩ []), (.mk 3 0 ⟨#[46]⟩ [(.mk 2 0 ⟨#[98]⟩ []), (.mk 2 0 ⟨#[91, 93]⟩ [])])]) true (by rfl) _ _ _ (LiesT.below Bu.out E1033.out.b) E1033.out.t.hd).mono ?_)
  try clear h5
  rintro e w1034 ⟨rfl, hb1034⟩
  have E1034 := Lib.hid (Env.bare (E1033.out.step hb1034))
  clear hb1034 E1033
  have h5 := E1034.out.b
  refine ⟨_, rfl, HS.out _ h5, ?_⟩
  dsimp only [List.set_cons_succ, List.set_cons_zero]
  clear hHeld
  have hHeld := HS.out _ h5
  refine WpSeq.take (by kernel_rfl) (fun _ _ => rfl) (by assumption) ?_
  dsimp only [List.set_cons_succ, List.set_cons_zero]
  refine WpSeq.take (by kernel_rfl) (fun _ _ => rfl) (by assumption) ?_
  dsimp only [List.set_cons_succ, List.set_cons_zero]
  refine WpSeq.take (by kernel_rfl) (fun _ _ => rfl) (by assumption) ?_
  dsimp only [List.set_cons_succ, List.set_cons_zero]
  refine WpSeq.take (v := ?_) (by kernel_rfl) ?_ (by assumption) ?_
  rotate_left
  · (intro w hSw; (try dsimp only at hSw); go_simp; try with_reducible rfl)
  dsimp only [List.set_cons_succ, List.set_cons_zero]
  refine WpSeq.take (by kernel_rfl) (fun _ _ => rfl) (by assumption) ?_
  dsimp only [List.set_cons_succ, List.set_cons_zero]
  refine WpSeq.take (by kernel_rfl) (fun _ _ => rfl) (by assumption) ?_
  dsimp only [List.set_cons_succ, List.set_cons_zero]
  refine WpSeq.take (by kernel_rfl) (fun _ _ => rfl) (by assumption) ?_
  dsimp only [List.set_cons_succ, List.set_cons_zero]
  refine WpSeq.take (by kernel_rfl) (fun _ _ => rfl) (by assumption) ?_
  dsimp only [List.set_cons_succ, List.set_cons_zero]
  refine WpSeq.take (v := ?_) (by kernel_rfl) ?_ (by assumption) ?_
  rotate_left
  · (intro w hSw; (try dsimp only at hSw); go_simp; try with_reducible rfl)
  dsimp only [List.set_cons_succ, List.set_cons_zero]
  refine WpSeq.take (v := ?_) (by kernel_rfl) ?_ (by assumption) ?_
  rotate_left
  · (intro w hSw; (try dsimp only at hSw); go_simp; try with_reducible rfl)
  dsimp only [List.set_cons_succ, List.set_cons_zero]
  refine WpSeq.callF (by kernel_rfl) runs_a_any (by kernel_rfl) ((a_any ⟨#[98]⟩ _).mono ?_)
  try clear h5
  rintro e w1035 ⟨rfl, hb1035⟩
  have E1035 := Lib.hid ((E1034.out.step hb1035).pushT (atom_lies (nm := ⟨#[98]⟩) (by simp [ByteArray.size])))
  clear hb1035 E1034
  have h5 := E1035.out.b
  refine ⟨_, rfl, HS.out _ h5, ?_⟩
  dsimp only [List.set_cons_succ, List.set_cons_zero]
  clear hHeld
  have hHeld := HS.out _ h5
  refine WpSeq.callF (by kernel_rfl) runs_Same_is (by kernel_rfl) ((Same_is (.mk 2 0 ⟨#[98]⟩ []) (.mk 2 0 ⟨#[98]⟩ []) true (by rfl) _ _ _ (LiesT.below Bk.out E1035.out.b) E1035.out.t.hd).mono ?_)
  try clear h5
  rintro e w1036 ⟨rfl, hb1036⟩
  have E1036 := Lib.hid (Env.bare (E1035.out.step hb1036))
  clear hb1036 E1035
  have h5 := E1036.out.b
  refine ⟨_, rfl, HS.out _ h5, ?_⟩
  dsimp only [List.set_cons_succ, List.set_cons_zero]
  clear hHeld
  have hHeld := HS.out _ h5
  refine WpSeq.take (by kernel_rfl) (fun _ _ => rfl) (by assumption) ?_
  dsimp only [List.set_cons_succ, List.set_cons_zero]
  refine WpSeq.take (by kernel_rfl) (fun _ _ => rfl) (by assumption) ?_
  dsimp only [List.set_cons_succ, List.set_cons_zero]
  refine WpSeq.take (v := ?_) (by kernel_rfl) ?_ (by assumption) ?_
  rotate_left
  · (intro w hSw; (try dsimp only at hSw); go_simp; try with_reducible rfl)
  dsimp only [List.set_cons_succ, List.set_cons_zero]
  refine WpSeq.callF (by kernel_rfl) runs_a_any (by kernel_rfl) ((a_any ⟨#[91, 93]⟩ _).mono ?_)
  try clear h5
  rintro e w1037 ⟨rfl, hb1037⟩
  have E1037 := Lib.hid ((E1036.out.step hb1037).pushT (atom_lies (nm := ⟨#[91, 93]⟩) (by simp [ByteArray.size])))
  clear hb1037 E1036
  have h5 := E1037.out.b
  refine ⟨_, rfl, HS.out _ h5, ?_⟩
  dsimp only [List.set_cons_succ, List.set_cons_zero]
  clear hHeld
  have hHeld := HS.out _ h5
  refine WpSeq.callF (by kernel_rfl) runs_Same_is (by kernel_rfl) ((Same_is (.mk 2 0 ⟨#[91, 93]⟩ []) (.mk 2 0 ⟨#[91, 93]⟩ []) true (by rfl) _ _ _ (LiesT.below Bl.out E1037.out.b) E1037.out.t.hd).mono ?_)
  try clear h5
  rintro e w1038 ⟨rfl, hb1038⟩
  have E1038 := Lib.hid (Env.bare (E1037.out.step hb1038))
  clear hb1038 E1037
  have h5 := E1038.out.b
  refine ⟨_, rfl, HS.out _ h5, ?_⟩
  dsimp only [List.set_cons_succ, List.set_cons_zero]
  clear hHeld
  have hHeld := HS.out _ h5
  refine WpSeq.take (by kernel_rfl) (fun _ _ => rfl) (by assumption) ?_
  dsimp only [List.set_cons_succ, List.set_cons_zero]
  refine WpSeq.take (by kernel_rfl) (fun _ _ => rfl) (by assumption) ?_
  dsimp only [List.set_cons_succ, List.set_cons_zero]
  refine WpSeq.callF (by kernel_rfl) runs_x_any (by kernel_rfl) ((x_any 0 _).mono ?_)
  try clear h5
  rintro e w1039 ⟨rfl, hb1039⟩
  have E1039 := Lib.hid ((E1038.out.step hb1039).pushT (vr_lies (n := 0) ⟨by omega, by omega⟩))
  clear hb1039 E1038
  have h5 := E1039.out.b
  refine ⟨_, rfl, HS.out _ h5, ?_⟩
  dsimp only [List.set_cons_succ, List.set_cons_zero]
  clear hHeld
  have hHeld := HS.out _ h5
  refine WpSeq.callF (by kernel_rfl) runs_x_any (by kernel_rfl) ((x_any 1 _).mono ?_)
  try clear h5
  rintro e w1040 ⟨rfl, hb1040⟩
  have E1040 := Lib.hid ((E1039.out.step hb1040).pushT (vr_lies (n := 1) ⟨by omega, by omega⟩))
  clear hb1040 E1039
  have lz1041 := Lib.hid (lies_new (g := w1040.heap.size) (ty := 24) rfl [((vr 0), .slice none 0 0), ((vr 1), .slice none 0 0)] (by simp only [EnvT]; exact ⟨E1040.out.t.tl.hd, ⟨E1040.out.t.hd, trivial⟩⟩) (by simp))
  have h5 := E1040.out.b
  refine ⟨_, rfl, HS.out _ h5, ?_⟩
  dsimp only [List.set_cons_succ, List.set_cons_zero]
  clear hHeld
  have hHeld := HS.out _ h5
  refine WpSeq.call (by kernel_rfl) (fun K hK => ?_)
  go_simp
  refine hK.out _ _ ?_ (fun hHeld2 => ?_)
  · exact HS.out _ (h5.alloc (by have := h5.size; omega) _)
  clear hK K hHeld
  have hHeld := hHeld2; clear hHeld2
  try (refine WpSeq.put ?_; dsimp only [List.set_cons_succ, List.set_cons_zero])
  refine WpSeq.callF (by kernel_rfl) runs_f_any (by kernel_rfl) ((f_any ⟨#[102]⟩ (some ⟨w1040.heap.size, 0, none⟩) 2 2 _).mono ?_)
  try clear h5
  rintro e w1041 ⟨rfl, hb1041⟩
  have E1041 := Lib.hid (((E1040.out.alloc _).step hb1041).pushT (LiesT.below (struct_lies (nm := ⟨#[102]⟩) (by simp [ByteArray.size]) lz1041.out) hb1041))
  clear hb1041 E1040
  clear lz1041
  have h5 := E1041.out.b
  refine ⟨_, rfl, HS.out _ h5, ?_⟩
  dsimp only [List.set_cons_succ, List.set_cons_zero]
  clear hHeld
  have hHeld := HS.out _ h5
  refine WpSeq.callF (by kernel_rfl) runs_x_any (by kernel_rfl) ((x_any 1 _).mono ?_)
  try clear h5
  rintro e w1042 ⟨rfl, hb1042⟩
  have E1042 := Lib.hid ((E1041.out.step hb1042).pushT (vr_lies (n := 1) ⟨by omega, by omega⟩))
  clear hb1042 E1041
  have h5 := E1042.out.b
  refine ⟨_, rfl, HS.out _ h5, ?_⟩
  dsimp only [List.set_cons_succ, List.set_cons_zero]
  clear hHeld
  have hHeld := HS.out _ h5
  refine WpSeq.callF (by kernel_rfl) runs_x_any (by kernel_rfl) ((x_any 0 _).mono ?_)
  try clear h5
  rintro e w1043 ⟨rfl, hb1043⟩
  have E1043 := Lib.hid ((E1042.out.step hb1043).pushT (vr_lies (n := 0) ⟨by omega, by omega⟩))
  clear hb1043 E1042
  have lz1044 := Lib.hid (lies_new (g := w1043.heap.size) (ty := 24) rfl [((vr 1), .slice none 0 0), ((vr 0), .slice none 0 0)] (by simp only [EnvT]; exact ⟨E1043.out.t.tl.hd, ⟨E1043.out.t.hd, trivial⟩⟩) (by simp))
  have h5 := E1043.out.b
  refine ⟨_, rfl, HS.out _ h5, ?_⟩
  dsimp only [List.set_cons_succ, List.set_cons_zero]
  clear hHeld
  have hHeld := HS.out _ h5
  refine WpSeq.call (by kernel_rfl) (fun K hK => ?_)
  go_simp
  refine hK.out _ _ ?_ (fun hHeld2 => ?_)
  · exact HS.out _ (h5.alloc (by have := h5.size; omega) _)
  clear hK K hHeld
  have hHeld := hHeld2; clear hHeld2
  try (refine WpSeq.put ?_; dsimp only [List.set_cons_succ, List.set_cons_zero])
  refine WpSeq.callF (by kernel_rfl) runs_f_any (by kernel_rfl) ((f_any ⟨#[102]⟩ (some ⟨w1043.heap.size, 0, none⟩) 2 2 _).mono ?_)
  try clear h5
  rintro e w1044 ⟨rfl, hb1044⟩
  have E1044 := Lib.hid (((E1043.out.alloc _).step hb1044).pushT (LiesT.below (struct_lies (nm := ⟨#[102]⟩) (by simp [ByteArray.size]) lz1044.out) hb1044))
  clear hb1044 E1043
  clear lz1044
  have h5 := E1044.out.b
  refine ⟨_, rfl, HS.out _ h5, ?_⟩
  dsimp only [List.set_cons_succ, List.set_cons_zero]
  clear hHeld
  have hHeld := HS.out _ h5
  refine WpSeq.callF (by kernel_rfl) runs_Variant_is (by kernel_rfl) ((Variant_is (.mk 3 0 ⟨#[102]⟩ [(vr 0), (vr 1)]) (.mk 3 0 ⟨#[102]⟩ [(vr 1), (vr 0)]) true (by rfl) _ _ _ E1044.out.t.tl.tl.tl.hd E1044.out.t.hd).mono ?_)
  try clear h5
  rintro e w1045 ⟨rfl, hb1045⟩
  have E1045 := Lib.hid (Env.bare (E1044.out.step hb1045))
  clear hb1045 E1044
  have h5 := E1045.out.b
  refine ⟨_, rfl, HS.out _ h5, ?_⟩
  dsimp only [List.set_cons_succ, List.set_cons_zero]
  clear hHeld
  have hHeld := HS.out _ h5
  refine WpSeq.take (by kernel_rfl) (fun _ _ => rfl) (by assumption) ?_
  dsimp only [List.set_cons_succ, List.set_cons_zero]
  refine WpSeq.take (by kernel_rfl) (fun _ _ => rfl) (by assumption) ?_
  dsimp only [List.set_cons_succ, List.set_cons_zero]
  refine WpSeq.callF (by kernel_rfl) runs_x_any (by kernel_rfl) ((x_any 0 _).mono ?_)
  try clear h5
  rintro e w1046 ⟨rfl, hb1046⟩
  have E1046 := Lib.hid ((E1045.out.step hb1046).pushT (vr_lies (n := 0) ⟨by omega, by omega⟩))
  clear hb1046 E1045
  have h5 := E1046.out.b
  refine ⟨_, rfl, HS.out _ h5, ?_⟩
  dsimp only [List.set_cons_succ, List.set_cons_zero]
  clear hHeld
  have hHeld := HS.out _ h5
  refine WpSeq.callF (by kernel_rfl) runs_x_any (by kernel_rfl) ((x_any 1 _).mono ?_)
  try clear h5
  rintro e w1047 ⟨rfl, hb1047⟩
  have E1047 := Lib.hid ((E1046.out.step hb1047).pushT (vr_lies (n := 1) ⟨by omega, by omega⟩))
  clear hb1047 E1046
  have lz1048 := Lib.hid (lies_new (g := w1047.heap.size) (ty := 24) rfl [((vr 0), .slice none 0 0), ((vr 1), .slice none 0 0)] (by simp only [EnvT]; exact ⟨E1047.out.t.tl.hd, ⟨E1047.out.t.hd, trivial⟩⟩) (by simp))
  have h5 := E1047.out.b
  refine ⟨_, rfl, HS.out _ h5, ?_⟩
  dsimp only [List.set_cons_succ, List.set_cons_zero]
  clear hHeld
  have hHeld := HS.out _ h5
  refine WpSeq.call (by kernel_rfl) (fun K hK => ?_)
  go_simp
  refine hK.out _ _ ?_ (fun hHeld2 => ?_)
  · exact HS.out _ (h5.alloc (by have := h5.size; omega) _)
  clear hK K hHeld
  have hHeld := hHeld2; clear hHeld2
  try (refine WpSeq.put ?_; dsimp only [List.set_cons_succ, List.set_cons_zero])
  refine WpSeq.callF (by kernel_rfl) runs_f_any (by kernel_rfl) ((f_any ⟨#[102]⟩ (some ⟨w1047.heap.size, 0, none⟩) 2 2 _).mono ?_)
  try clear h5
  rintro e w1048 ⟨rfl, hb1048⟩
  have E1048 := Lib.hid (((E1047.out.alloc _).step hb1048).pushT (LiesT.below (struct_lies (nm := ⟨#[102]⟩) (by simp [ByteArray.size]) lz1048.out) hb1048))
  clear hb1048 E1047
  clear lz1048
  have h5 := E1048.out.b
  refine ⟨_, rfl, HS.out _ h5, ?_⟩
  dsimp only [List.set_cons_succ, List.set_cons_zero]
  clear hHeld
  have hHeld := HS.out _ h5
  refine WpSeq.callF (by kernel_rfl) runs_x_any (by kernel_rfl) ((x_any 0 _).mono ?_)
  try clear h5
  rintro e w1049 ⟨rfl, hb1049⟩
  have E1049 := Lib.hid ((E1048.out.step hb1049).pushT (vr_lies (n := 0) ⟨by omega, by omega⟩))
  clear hb1049 E1048
  have h5 := E1049.out.b
  refine ⟨_, rfl, HS.out _ h5, ?_⟩
  dsimp only [List.set_cons_succ, List.set_cons_zero]
  clear hHeld
  have hHeld := HS.out _ h5
  refine WpSeq.callF (by kernel_rfl) runs_x_any (by kernel_rfl) ((x_any 0 _).mono ?_)
  try clear h5
  rintro e w1050 ⟨rfl, hb1050⟩
  have E1050 := Lib.hid ((E1049.out.step hb1050).pushT (vr_lies (n := 0) ⟨by omega, by omega⟩))
  clear hb1050 E1049
  have lz1051 := Lib.hid (lies_new (g := w1050.heap.size) (ty := 24) rfl [((vr 0), .slice none 0 0), ((vr 0), .slice none 0 0)] (by simp only [EnvT]; exact ⟨E1050.out.t.tl.hd, ⟨E1050.out.t.hd, trivial⟩⟩) (by simp))
  have h5 := E1050.out.b
  refine ⟨_, rfl, HS.out _ h5, ?_⟩
  dsimp only [List.set_cons_succ, List.set_cons_zero]
  clear hHeld
  have hHeld := HS.out _ h5
  refine WpSeq.call (by kernel_rfl) (fun K hK => ?_)
  go_simp
  refine hK.out _ _ ?_ (fun hHeld2 => ?_)
  · exact HS.out _ (h5.alloc (by have := h5.size; omega) _)
  clear hK K hHeld
  have hHeld := hHeld2; clear hHeld2
  try (refine WpSeq.put ?_; dsimp only [List.set_cons_succ, List.set_cons_zero])
  refine WpSeq.callF (by kernel_rfl) runs_f_any (by kernel_rfl) ((f_any ⟨#[102]⟩ (some ⟨w1050.heap.size, 0, none⟩) 2 2 _).mono ?_)
  try clear h5
  rintro e w1051 ⟨rfl, hb1051⟩
  have E1051 := Lib.hid (((E1050.out.alloc _).step hb1051).pushT (LiesT.below (struct_lies (nm := ⟨#[102]⟩) (by simp [ByteArray.size]) lz1051.out) hb1051))
  clear hb1051 E1050
  clear lz1051
  have h5 := E1051.out.b
  refine ⟨_, rfl, HS.out _ h5, ?_⟩
  dsimp only [List.set_cons_succ, List.set_cons_zero]
  clear hHeld
  have hHeld := HS.out _ h5
  refine WpSeq.callF (by kernel_rfl) runs_Variant_is (by kernel_rfl) ((Variant_is (.mk 3 0 ⟨#[102]⟩ [(vr 0), (vr 1)]) (.mk 3 0 ⟨#[102]⟩ [(vr 0), (vr 0)]) false (by rfl) _ _ _ E1051.out.t.tl.tl.tl.hd E1051.out.t.hd).mono ?_)
  try clear h5
  rintro e w1052 ⟨rfl, hb1052⟩
  have E1052 := Lib.hid (Env.bare (E1051.out.step hb1052))
  clear hb1052 E1051
  have h5 := E1052.out.b
  refine ⟨_, rfl, HS.out _ h5, ?_⟩
  dsimp only [List.set_cons_succ, List.set_cons_zero]
  clear hHeld
  have hHeld := HS.out _ h5
  refine WpSeq.take (by kernel_rfl) (fun _ _ => rfl) (by assumption) ?_
  dsimp only [List.set_cons_succ, List.set_cons_zero]
  refine WpSeq.take (by kernel_rfl) (fun _ _ => rfl) (by assumption) ?_
  dsimp only [List.set_cons_succ, List.set_cons_zero]
  refine WpSeq.take (by kernel_rfl) (fun _ _ => rfl) (by assumption) ?_
  dsimp only [List.set_cons_succ, List.set_cons_zero]
  refine WpSeq.done ?_
  refine NoPanic.normal ?_
  go_wp2_with fail
  go_ret
  exact ⟨rfl, EB.out.trans (E1052.out.b.mono EB.out.size)⟩

end Go.Proofs.Ytdgflagafilobaa
