/- The examples of the chapter (awake). -/
import Derived.Test.YteilodihjhdngaaB7
import Derived.Test.YteilodihjhdngaaQ0
import Derived.Deep.DeepCutAuto
set_option linter.unusedVariables false
set_option linter.unusedSimpArgs false
namespace Go.Proofs.Yteilodihjhdngaa
open Go.RowKit Go.Proofs.HT

theorem runs_a_any : ∀ zs w, (callFunc 53 zs).run Try.prog w = .ok (.enter 53 zs) w := fun _ _ => by kernel_rfl
theorem runs_n_any : ∀ zs w, (callFunc 60 zs).run Try.prog w = .ok (.enter 60 zs) w := fun _ _ => by kernel_rfl
theorem runs_f_any : ∀ zs w, (callFunc 58 zs).run Try.prog w = .ok (.enter 58 zs) w := fun _ _ => by kernel_rfl
theorem runs_error1_any : ∀ zs w, (callFunc 56 zs).run Try.prog w = .ok (.enter 56 zs) w := fun _ _ => by kernel_rfl
theorem runs_lsame_is : ∀ zs w, (callFunc 34 zs).run Try.prog w = .ok (.enter 34 zs) w := fun _ _ => by kernel_rfl
theorem runs_Syntax_pos : ∀ zs w, (callFunc 20 zs).run Try.prog w = .ok (.enter 20 zs) w := fun _ _ => by kernel_rfl
theorem runs_x_any : ∀ zs w, (callFunc 55 zs).run Try.prog w = .ok (.enter 55 zs) w := fun _ _ => by kernel_rfl

set_option maxRecDepth 100000 in
set_option maxHeartbeats 100000000 in
theorem awake_any (w : World) : Calls Try.prog 31 #[] w fun e w' => e = .returned (.bool true) ∧ Below w.heap.size w w' := by
  go_enter Try.func31, Try.ntmps31
  have E0 := Lib.hid (Env.start w)
  go_wp2_with fail
  refine (a_any ⟨#[102]⟩ _).mono ?_
  rintro e w1 ⟨rfl, hb1⟩
  have E1 := Lib.hid ((E0.out.step hb1).pushT (atom_lies (nm := ⟨#[102]⟩) (by simp [ByteArray.size])))
  clear hb1 E0
  go_wp2_with fail
  refine (n_any 1 _).mono ?_
  rintro e w2 ⟨rfl, hb2⟩
  have E2 := Lib.hid ((E1.out.step hb2).pushT (int_lies (n := 1) ⟨by omega, by omega⟩))
  clear hb2 E1
  have lz3 := Lib.hid (lies_new (g := w2.heap.size) (ty := 24) rfl [((.mk 2 0 ⟨#[102]⟩ []), .slice none 0 0), ((.mk 1 1 ⟨#[]⟩ []), .slice none 0 0)] (by simp only [EnvT]; exact ⟨E2.out.t.tl.hd, ⟨E2.out.t.hd, trivial⟩⟩) (by simp))
  go_wp2_with fail
  refine (f_any ⟨#[47]⟩ (some ⟨w2.heap.size, 0, none⟩) 2 2 _).mono ?_
  rintro e w3 ⟨rfl, hb3⟩
  have E3 := Lib.hid (((E2.out.alloc _).step hb3).pushT (LiesT.below (struct_lies (nm := ⟨#[47]⟩) (by simp [ByteArray.size]) lz3.out) hb3))
  clear hb3 E2
  clear lz3
  go_wp2_with fail
  refine (Permission_any (.mk 3 0 ⟨#[47]⟩ [(.mk 2 0 ⟨#[102]⟩ []), (.mk 1 1 ⟨#[]⟩ [])]) _ ⟨#[109, 111, 100, 105, 102, 121]⟩ ⟨#[115, 116, 97, 116, 105, 99, 95, 112, 114, 111, 99, 101, 100, 117, 114, 101]⟩ _ E3.out.t.hd (by simp [ByteArray.size]) (by simp [ByteArray.size])).mono ?_
  rintro e w4 ⟨y, he, hy, hb4⟩
  have hT0 : withT (.mk 3 0 ⟨#[47]⟩ [(.mk 2 0 ⟨#[102]⟩ []), (.mk 1 1 ⟨#[]⟩ [])]) ⟨#[112, 101, 114, 109, 105, 115, 115, 105, 111, 110, 95, 101, 114, 114, 111, 114]⟩ [⟨#[109, 111, 100, 105, 102, 121]⟩, ⟨#[115, 116, 97, 116, 105, 99, 95, 112, 114, 111, 99, 101, 100, 117, 114, 101]⟩] = (.mk 3 0 ⟨#[101, 114, 114, 111, 114]⟩ [(.mk 3 0 ⟨#[112, 101, 114, 109, 105, 115, 115, 105, 111, 110, 95, 101, 114, 114, 111, 114]⟩ [(.mk 2 0 ⟨#[109, 111, 100, 105, 102, 121]⟩ []), (.mk 2 0 ⟨#[115, 116, 97, 116, 105, 99, 95, 112, 114, 111, 99, 101, 100, 117, 114, 101]⟩ []), (.mk 3 0 ⟨#[47]⟩ [(.mk 2 0 ⟨#[102]⟩ []), (.mk 1 1 ⟨#[]⟩ [])])]), (.mk 2 0 ⟨#[91, 93]⟩ [])]) := by rfl
  try rw [hT0] at he
  try rw [hT0] at hy
  obtain ⟨ma1, mc1, rfl⟩ : ∃ a c, y = .slice a 2 c := hy.slice
  obtain rfl : e = .returned (pv 3 0 ⟨#[101, 114, 114, 111, 114]⟩ (.slice ma1 2 mc1)) := he
  have hyl := OwnT.lies _ _ hy
  have E4 := Lib.hid ((E3.out.step hb4).pushT hyl)
  clear hb4 E3
  clear hy hyl hT0
  go_wp2_with fail
  refine (a_any ⟨#[97]⟩ _).mono ?_
  rintro e w5 ⟨rfl, hb5⟩
  have E5 := Lib.hid (((E4.out.box (g := w4.heap.size) rfl (.int .i64 3) (.int .i64 0) (.string ⟨#[101, 114, 114, 111, 114]⟩) (.slice ma1 2 mc1) 24).step hb5).pushT (atom_lies (nm := ⟨#[97]⟩) (by simp [ByteArray.size])))
  clear hb5 E4
  go_wp2_with fail
  refine (x_any 0 _).mono ?_
  rintro e w6 ⟨rfl, hb6⟩
  have E6 := Lib.hid ((E5.out.step hb6).pushT (vr_lies (n := 0) ⟨by omega, by omega⟩))
  clear hb6 E5
  have lz7 := Lib.hid (lies_new (g := w6.heap.size) (ty := 24) rfl [((.mk 2 0 ⟨#[97]⟩ []), .slice none 0 0), ((vr 0), .slice none 0 0)] (by simp only [EnvT]; exact ⟨E6.out.t.tl.hd, ⟨E6.out.t.hd, trivial⟩⟩) (by simp))
  go_wp2_with fail
  refine (f_any ⟨#[101, 114, 114, 111, 114]⟩ (some ⟨w6.heap.size, 0, none⟩) 2 2 _).mono ?_
  rintro e w7 ⟨rfl, hb7⟩
  have E7 := Lib.hid (((E6.out.alloc _).step hb7).pushT (LiesT.below (struct_lies (nm := ⟨#[101, 114, 114, 111, 114]⟩) (by simp [ByteArray.size]) lz7.out) hb7))
  clear hb7 E6
  clear lz7
  go_wp2_with fail
  refine (Formal_any (.mk 3 0 ⟨#[101, 114, 114, 111, 114]⟩ [(.mk 2 0 ⟨#[97]⟩ []), (vr 0)]) _ _ E7.out.t.hd).mono ?_
  rintro e w8 ⟨y, he, hy, hb8⟩
  have hT0 : formT (.mk 3 0 ⟨#[101, 114, 114, 111, 114]⟩ [(.mk 2 0 ⟨#[97]⟩ []), (vr 0)]) = (.mk 2 0 ⟨#[97]⟩ []) := by rfl
  try rw [hT0] at he
  try rw [hT0] at hy
  have hT1 : isE (.mk 3 0 ⟨#[101, 114, 114, 111, 114]⟩ [(.mk 2 0 ⟨#[97]⟩ []), (vr 0)]) = true := by rfl
  try rw [hT1] at he
  try rw [hT1] at hy
  obtain ⟨ma2, mc2, rfl⟩ : ∃ a c, y = .slice a 0 c := hy.slice
  obtain rfl : e = .returned (.tuple #[pv 2 0 ⟨#[97]⟩ (.slice ma2 0 mc2), .bool true]) := he
  have hyl := OwnT.lies _ _ hy
  have E8 := Lib.hid ((E7.out.step hb8).pushT hyl)
  clear hb8 E7
  clear hy hyl hT0 hT1
  go_wp2_with fail
  refine (a_any ⟨#[97, 98, 99]⟩ _).mono ?_
  rintro e w9 ⟨rfl, hb9⟩
  have E9 := Lib.hid (((E8.out.box (g := w8.heap.size) rfl (.int .i64 2) (.int .i64 0) (.string ⟨#[97]⟩) (.slice ma2 0 mc2) 24).step hb9).pushT (atom_lies (nm := ⟨#[97, 98, 99]⟩) (by simp [ByteArray.size])))
  clear hb9 E8
  go_wp2_with fail
  refine (bAtom_any (.mk 2 0 ⟨#[97, 98, 99]⟩ []) _ _ E9.out.t.hd).mono ?_
  rintro e w10 ⟨y, he, hy, hb10⟩
  have hT0 : atomS (.mk 2 0 ⟨#[97, 98, 99]⟩ []) = ⟨#[97, 98, 99]⟩ := by rfl
  try rw [hT0] at he
  try rw [hT0] at hy
  have hT1 : chkB (.mk 2 0 ⟨#[97, 98, 99]⟩ []) ⟨#[97, 116, 111, 109]⟩ (Tm.kind (.mk 2 0 ⟨#[97, 98, 99]⟩ []) == 2) = z0 := by rfl
  try rw [hT1] at he
  try rw [hT1] at hy
  have hT2 : chkO (.mk 2 0 ⟨#[97, 98, 99]⟩ []) (Tm.kind (.mk 2 0 ⟨#[97, 98, 99]⟩ []) == 2) = true := by rfl
  try rw [hT2] at he
  try rw [hT2] at hy
  obtain ⟨ma3, mc3, rfl⟩ : ∃ a c, y = .slice a 0 c := hy.slice
  obtain rfl : e = .returned (.tuple #[.string ⟨#[97, 98, 99]⟩, pv 0 0 ⟨#[]⟩ (.slice ma3 0 mc3), .bool true]) := he
  have hyl := OwnT.lies _ _ hy
  have E10 := Lib.hid ((E9.out.step hb10).pushT hyl)
  clear hb10 E9
  clear hy hyl hT0 hT1 hT2
  go_wp2_with fail
  refine (n_any 3 _).mono ?_
  rintro e w11 ⟨rfl, hb11⟩
  have E11 := Lib.hid (((E10.out.box (g := w10.heap.size) rfl (.int .i64 0) (.int .i64 0) (.string ⟨#[]⟩) (.slice ma3 0 mc3) 24).step hb11).pushT (int_lies (n := 3) ⟨by omega, by omega⟩))
  clear hb11 E10
  go_wp2_with fail
  refine (bAtom_any (.mk 1 3 ⟨#[]⟩ []) _ _ E11.out.t.hd).mono ?_
  rintro e w12 ⟨y, he, hy, hb12⟩
  have hT0 : atomS (.mk 1 3 ⟨#[]⟩ []) = ⟨#[]⟩ := by rfl
  try rw [hT0] at he
  try rw [hT0] at hy
  have hT1 : chkB (.mk 1 3 ⟨#[]⟩ []) ⟨#[97, 116, 111, 109]⟩ (Tm.kind (.mk 1 3 ⟨#[]⟩ []) == 2) = (.mk 3 0 ⟨#[101, 114, 114, 111, 114]⟩ [(.mk 3 0 ⟨#[116, 121, 112, 101, 95, 101, 114, 114, 111, 114]⟩ [(.mk 2 0 ⟨#[97, 116, 111, 109]⟩ []), (.mk 1 3 ⟨#[]⟩ [])]), (.mk 2 0 ⟨#[91, 93]⟩ [])]) := by rfl
  try rw [hT1] at he
  try rw [hT1] at hy
  have hT2 : chkO (.mk 1 3 ⟨#[]⟩ []) (Tm.kind (.mk 1 3 ⟨#[]⟩ []) == 2) = false := by rfl
  try rw [hT2] at he
  try rw [hT2] at hy
  obtain ⟨ma4, mc4, rfl⟩ : ∃ a c, y = .slice a 2 c := hy.slice
  obtain rfl : e = .returned (.tuple #[.string ⟨#[]⟩, pv 3 0 ⟨#[101, 114, 114, 111, 114]⟩ (.slice ma4 2 mc4), .bool false]) := he
  have hyl := OwnT.lies _ _ hy
  have E12 := Lib.hid ((E11.out.step hb12).pushT hyl)
  clear hb12 E11
  clear hy hyl hT0 hT1 hT2
  go_wp2_with fail
  refine (n_any 256 _).mono ?_
  rintro e w13 ⟨rfl, hb13⟩
  have E13 := Lib.hid (((E12.out.box (g := w12.heap.size) rfl (.int .i64 3) (.int .i64 0) (.string ⟨#[101, 114, 114, 111, 114]⟩) (.slice ma4 2 mc4) 24).step hb13).pushT (int_lies (n := 256) ⟨by omega, by omega⟩))
  clear hb13 E12
  go_wp2_with fail
  refine (Code_any (.mk 1 256 ⟨#[]⟩ []) _ _ E13.out.t.hd).mono ?_
  rintro e w14 ⟨y, he, hy, hb14⟩
  have hT0 : codeN (.mk 1 256 ⟨#[]⟩ []) = 0 := by rfl
  try rw [hT0] at he
  try rw [hT0] at hy
  have hT1 : codeB (.mk 1 256 ⟨#[]⟩ []) = (.mk 3 0 ⟨#[101, 114, 114, 111, 114]⟩ [(.mk 3 0 ⟨#[114, 101, 112, 114, 101, 115, 101, 110, 116, 97, 116, 105, 111, 110, 95, 101, 114, 114, 111, 114]⟩ [(.mk 2 0 ⟨#[99, 104, 97, 114, 97, 99, 116, 101, 114, 95, 99, 111, 100, 101]⟩ [])]), (.mk 2 0 ⟨#[91, 93]⟩ [])]) := by rfl
  try rw [hT1] at he
  try rw [hT1] at hy
  have hT2 : codeO (.mk 1 256 ⟨#[]⟩ []) = false := by rfl
  try rw [hT2] at he
  try rw [hT2] at hy
  obtain ⟨ma5, mc5, rfl⟩ : ∃ a c, y = .slice a 2 c := hy.slice
  obtain rfl : e = .returned (.tuple #[.int .i64 0, pv 3 0 ⟨#[101, 114, 114, 111, 114]⟩ (.slice ma5 2 mc5), .bool false]) := he
  have hyl := OwnT.lies _ _ hy
  have E14 := Lib.hid ((E13.out.step hb14).pushT hyl)
  clear hb14 E13
  clear hy hyl hT0 hT1 hT2
  go_wp2_with fail
  refine (a_any ⟨#[97]⟩ _).mono ?_
  rintro e w15 ⟨rfl, hb15⟩
  have E15 := Lib.hid (((E14.out.box (g := w14.heap.size) rfl (.int .i64 3) (.int .i64 0) (.string ⟨#[101, 114, 114, 111, 114]⟩) (.slice ma5 2 mc5) 24).step hb15).pushT (atom_lies (nm := ⟨#[97]⟩) (by simp [ByteArray.size])))
  clear hb15 E14
  go_wp2_with fail
  refine (a_any ⟨#[98]⟩ _).mono ?_
  rintro e w16 ⟨rfl, hb16⟩
  have E16 := Lib.hid ((E15.out.step hb16).pushT (atom_lies (nm := ⟨#[98]⟩) (by simp [ByteArray.size])))
  clear hb16 E15
  go_wp2_with fail
  refine (x_any 0 _).mono ?_
  rintro e w17 ⟨rfl, hb17⟩
  have E17 := Lib.hid ((E16.out.step hb17).pushT (vr_lies (n := 0) ⟨by omega, by omega⟩))
  clear hb17 E16
  have lz18 := Lib.hid (lies_new (g := w17.heap.size) (ty := 24) rfl [((.mk 2 0 ⟨#[98]⟩ []), .slice none 0 0), ((vr 0), .slice none 0 0)] (by simp only [EnvT]; exact ⟨E17.out.t.tl.hd, ⟨E17.out.t.hd, trivial⟩⟩) (by simp))
  go_wp2_with fail
  refine (f_any ⟨#[46]⟩ (some ⟨w17.heap.size, 0, none⟩) 2 2 _).mono ?_
  rintro e w18 ⟨rfl, hb18⟩
  have E18 := Lib.hid (((E17.out.alloc _).step hb18).pushT (LiesT.below (struct_lies (nm := ⟨#[46]⟩) (by simp [ByteArray.size]) lz18.out) hb18))
  clear hb18 E17
  clear lz18
  have lz19 := Lib.hid (lies_new (g := w18.heap.size) (ty := 24) rfl [((.mk 2 0 ⟨#[97]⟩ []), .slice none 0 0), ((.mk 3 0 ⟨#[46]⟩ [(.mk 2 0 ⟨#[98]⟩ []), (vr 0)]), .slice (some ⟨w17.heap.size, 0, none⟩) 2 2)] (by simp only [EnvT]; exact ⟨E18.out.t.tl.tl.tl.hd, ⟨E18.out.t.hd, trivial⟩⟩) (by simp))
  go_wp2_with fail
  refine (f_any ⟨#[46]⟩ (some ⟨w18.heap.size, 0, none⟩) 2 2 _).mono ?_
  rintro e w19 ⟨rfl, hb19⟩
  have E19 := Lib.hid (((E18.out.alloc _).step hb19).pushT (LiesT.below (struct_lies (nm := ⟨#[46]⟩) (by simp [ByteArray.size]) lz19.out) hb19))
  clear hb19 E18
  clear lz19
  go_wp2_with fail
  refine (List_any (.mk 3 0 ⟨#[46]⟩ [(.mk 2 0 ⟨#[97]⟩ []), (.mk 3 0 ⟨#[46]⟩ [(.mk 2 0 ⟨#[98]⟩ []), (vr 0)])]) _ _ E19.out.t.hd).mono ?_
  rintro e w20 ⟨xl, y, he, hx, hy, hb20⟩
  have hT0 : lsL (.mk 3 0 ⟨#[46]⟩ [(.mk 2 0 ⟨#[97]⟩ []), (.mk 3 0 ⟨#[46]⟩ [(.mk 2 0 ⟨#[98]⟩ []), (vr 0)])]) = [] := by rfl
  have hT1 : lsB (.mk 3 0 ⟨#[46]⟩ [(.mk 2 0 ⟨#[97]⟩ []), (.mk 3 0 ⟨#[46]⟩ [(.mk 2 0 ⟨#[98]⟩ []), (vr 0)])]) = (.mk 3 0 ⟨#[101, 114, 114, 111, 114]⟩ [(.mk 2 0 ⟨#[105, 110, 115, 116, 97, 110, 116, 105, 97, 116, 105, 111, 110, 95, 101, 114, 114, 111, 114]⟩ []), (.mk 2 0 ⟨#[91, 93]⟩ [])]) := by rfl
  have hT2 : lsO (.mk 3 0 ⟨#[46]⟩ [(.mk 2 0 ⟨#[97]⟩ []), (.mk 3 0 ⟨#[46]⟩ [(.mk 2 0 ⟨#[98]⟩ []), (vr 0)])]) = false := by rfl
  rw [hT1, hT2] at he
  rw [hT0] at hx
  rw [hT1] at hy
  obtain ⟨ma6, mc6, rfl⟩ : ∃ a c, y = .slice a 2 c := LiesT.slice hy
  obtain ⟨xla, xlc, rfl⟩ : ∃ a c, xl = .slice a 0 c := LiesT.slice hx
  obtain rfl : e = .returned (.tuple #[.slice xla 0 xlc, pv 3 0 ⟨#[101, 114, 114, 111, 114]⟩ (.slice ma6 2 mc6), .bool false]) := he
  have E20 := Lib.hid ((E19.out.step hb20).pushT hy)
  clear hb20 E19
  clear hx hy hT0 hT1 hT2
  go_wp2_with fail
  refine (a_any ⟨#[102]⟩ _).mono ?_
  rintro e w21 ⟨rfl, hb21⟩
  have E21 := Lib.hid (((E20.out.box (g := w20.heap.size) rfl (.int .i64 3) (.int .i64 0) (.string ⟨#[101, 114, 114, 111, 114]⟩) (.slice ma6 2 mc6) 24).step hb21).pushT (atom_lies (nm := ⟨#[102]⟩) (by simp [ByteArray.size])))
  clear hb21 E20
  go_wp2_with fail
  refine (n_any 2 _).mono ?_
  rintro e w22 ⟨rfl, hb22⟩
  have E22 := Lib.hid ((E21.out.step hb22).pushT (int_lies (n := 2) ⟨by omega, by omega⟩))
  clear hb22 E21
  have lz23 := Lib.hid (lies_new (g := w22.heap.size) (ty := 24) rfl [((.mk 2 0 ⟨#[102]⟩ []), .slice none 0 0), ((.mk 1 2 ⟨#[]⟩ []), .slice none 0 0)] (by simp only [EnvT]; exact ⟨E22.out.t.tl.hd, ⟨E22.out.t.hd, trivial⟩⟩) (by simp))
  go_wp2_with fail
  refine (f_any ⟨#[47]⟩ (some ⟨w22.heap.size, 0, none⟩) 2 2 _).mono ?_
  rintro e w23 ⟨rfl, hb23⟩
  have E23 := Lib.hid (((E22.out.alloc _).step hb23).pushT (LiesT.below (struct_lies (nm := ⟨#[47]⟩) (by simp [ByteArray.size]) lz23.out) hb23))
  clear hb23 E22
  clear lz23
  go_wp2_with fail
  refine (Indicator_any (.mk 3 0 ⟨#[47]⟩ [(.mk 2 0 ⟨#[102]⟩ []), (.mk 1 2 ⟨#[]⟩ [])]) _ _ E23.out.t.hd).mono ?_
  rintro e w24 ⟨y, he, hy, hb24⟩
  have hT0 : indS (.mk 3 0 ⟨#[47]⟩ [(.mk 2 0 ⟨#[102]⟩ []), (.mk 1 2 ⟨#[]⟩ [])]) = ⟨#[102]⟩ := by rfl
  try rw [hT0] at he
  try rw [hT0] at hy
  have hT1 : indN (.mk 3 0 ⟨#[47]⟩ [(.mk 2 0 ⟨#[102]⟩ []), (.mk 1 2 ⟨#[]⟩ [])]) = 2 := by rfl
  try rw [hT1] at he
  try rw [hT1] at hy
  have hT2 : indB (.mk 3 0 ⟨#[47]⟩ [(.mk 2 0 ⟨#[102]⟩ []), (.mk 1 2 ⟨#[]⟩ [])]) = z0 := by rfl
  try rw [hT2] at he
  try rw [hT2] at hy
  have hT3 : indO (.mk 3 0 ⟨#[47]⟩ [(.mk 2 0 ⟨#[102]⟩ []), (.mk 1 2 ⟨#[]⟩ [])]) = true := by rfl
  try rw [hT3] at he
  try rw [hT3] at hy
  obtain ⟨ma7, mc7, rfl⟩ : ∃ a c, y = .slice a 0 c := hy.slice
  obtain rfl : e = .returned (.tuple #[.string ⟨#[102]⟩, .int .i64 2, pv 0 0 ⟨#[]⟩ (.slice ma7 0 mc7), .bool true]) := he
  have hyl := OwnT.lies _ _ hy
  have E24 := Lib.hid ((E23.out.step hb24).pushT hyl)
  clear hb24 E23
  clear hy hyl hT0 hT1 hT2 hT3
  go_wp2_with fail
  have EB := Lib.hid (Env.b (E24.out.box (g := w24.heap.size) rfl (.int .i64 0) (.int .i64 0) (.string ⟨#[]⟩) (.slice ma7 0 mc7) 24))
  have EW := Lib.hid (show Env (w24.alloc (.cells #[.int .i64 0, .int .i64 0, .string ⟨#[]⟩, .slice ma7 0 mc7] 24)) (w24.alloc (.cells #[.int .i64 0, .int .i64 0, .string ⟨#[]⟩, .slice ma7 0 mc7] 24)) _ _ from ⟨Env.t (E24.out.box (g := w24.heap.size) rfl (.int .i64 0) (.int .i64 0) (.string ⟨#[]⟩) (.slice ma7 0 mc7) 24), Env.c (E24.out.box (g := w24.heap.size) rfl (.int .i64 0) (.int .i64 0) (.string ⟨#[]⟩) (.slice ma7 0 mc7) 24), Below.refl _ _⟩)
  clear E24
  generalize (w24.alloc (.cells #[.int .i64 0, .int .i64 0, .string ⟨#[]⟩, .slice ma7 0 mc7] 24)) = W0 at *
  have HS : Hid (∀ w', Below W0.heap.size W0 w' → (fun w' => Below W0.heap.size W0 w' ∧ w'.cell? ⟨w4.heap.size, 0, none⟩ = some (.int .i64 3) ∧ w'.cell? ⟨w4.heap.size, 1, none⟩ = some (.int .i64 0) ∧ w'.cell? ⟨w4.heap.size, 2, none⟩ = some (.string ⟨#[101, 114, 114, 111, 114]⟩) ∧ w'.cell? ⟨w4.heap.size, 3, none⟩ = some (.slice ma1 2 mc1) ∧ w'.cell? ⟨w8.heap.size, 0, none⟩ = some (.int .i64 2) ∧ w'.cell? ⟨w8.heap.size, 1, none⟩ = some (.int .i64 0) ∧ w'.cell? ⟨w8.heap.size, 2, none⟩ = some (.string ⟨#[97]⟩) ∧ w'.cell? ⟨w8.heap.size, 3, none⟩ = some (.slice ma2 0 mc2) ∧ w'.cell? ⟨w10.heap.size, 0, none⟩ = some (.int .i64 0) ∧ w'.cell? ⟨w10.heap.size, 1, none⟩ = some (.int .i64 0) ∧ w'.cell? ⟨w10.heap.size, 2, none⟩ = some (.string ⟨#[]⟩) ∧ w'.cell? ⟨w10.heap.size, 3, none⟩ = some (.slice ma3 0 mc3) ∧ w'.cell? ⟨w12.heap.size, 0, none⟩ = some (.int .i64 3) ∧ w'.cell? ⟨w12.heap.size, 1, none⟩ = some (.int .i64 0) ∧ w'.cell? ⟨w12.heap.size, 2, none⟩ = some (.string ⟨#[101, 114, 114, 111, 114]⟩) ∧ w'.cell? ⟨w12.heap.size, 3, none⟩ = some (.slice ma4 2 mc4) ∧ w'.cell? ⟨w14.heap.size, 0, none⟩ = some (.int .i64 3) ∧ w'.cell? ⟨w14.heap.size, 1, none⟩ = some (.int .i64 0) ∧ w'.cell? ⟨w14.heap.size, 2, none⟩ = some (.string ⟨#[101, 114, 114, 111, 114]⟩) ∧ w'.cell? ⟨w14.heap.size, 3, none⟩ = some (.slice ma5 2 mc5) ∧ w'.cell? ⟨w20.heap.size, 0, none⟩ = some (.int .i64 3) ∧ w'.cell? ⟨w20.heap.size, 1, none⟩ = some (.int .i64 0) ∧ w'.cell? ⟨w20.heap.size, 2, none⟩ = some (.string ⟨#[101, 114, 114, 111, 114]⟩) ∧ w'.cell? ⟨w20.heap.size, 3, none⟩ = some (.slice ma6 2 mc6) ∧ w'.cell? ⟨w24.heap.size, 0, none⟩ = some (.int .i64 0) ∧ w'.cell? ⟨w24.heap.size, 1, none⟩ = some (.int .i64 0) ∧ w'.cell? ⟨w24.heap.size, 2, none⟩ = some (.string ⟨#[]⟩) ∧ w'.cell? ⟨w24.heap.size, 3, none⟩ = some (.slice ma7 0 mc7)) w') := fun w' h => ⟨h, cell_below h _ _ EW.out.c.tl.tl.tl.tl.tl.tl.tl.tl.tl.tl.tl.tl.tl.tl.tl.tl.tl.tl.tl.tl.tl.tl.tl.tl.hd, cell_below h _ _ EW.out.c.tl.tl.tl.tl.tl.tl.tl.tl.tl.tl.tl.tl.tl.tl.tl.tl.tl.tl.tl.tl.tl.tl.tl.tl.tl.hd, cell_below h _ _ EW.out.c.tl.tl.tl.tl.tl.tl.tl.tl.tl.tl.tl.tl.tl.tl.tl.tl.tl.tl.tl.tl.tl.tl.tl.tl.tl.tl.hd, cell_below h _ _ EW.out.c.tl.tl.tl.tl.tl.tl.tl.tl.tl.tl.tl.tl.tl.tl.tl.tl.tl.tl.tl.tl.tl.tl.tl.tl.tl.tl.tl.hd, cell_below h _ _ EW.out.c.tl.tl.tl.tl.tl.tl.tl.tl.tl.tl.tl.tl.tl.tl.tl.tl.tl.tl.tl.tl.hd, cell_below h _ _ EW.out.c.tl.tl.tl.tl.tl.tl.tl.tl.tl.tl.tl.tl.tl.tl.tl.tl.tl.tl.tl.tl.tl.hd, cell_below h _ _ EW.out.c.tl.tl.tl.tl.tl.tl.tl.tl.tl.tl.tl.tl.tl.tl.tl.tl.tl.tl.tl.tl.tl.tl.hd, cell_below h _ _ EW.out.c.tl.tl.tl.tl.tl.tl.tl.tl.tl.tl.tl.tl.tl.tl.tl.tl.tl.tl.tl.tl.tl.tl.tl.hd, cell_below h _ _ EW.out.c.tl.tl.tl.tl.tl.tl.tl.tl.tl.tl.tl.tl.tl.tl.tl.tl.hd, cell_below h _ _ EW.out.c.tl.tl.tl.tl.tl.tl.tl.tl.tl.tl.tl.tl.tl.tl.tl.tl.tl.hd, cell_below h _ _ EW.out.c.tl.tl.tl.tl.tl.tl.tl.tl.tl.tl.tl.tl.tl.tl.tl.tl.tl.tl.hd, cell_below h _ _ EW.out.c.tl.tl.tl.tl.tl.tl.tl.tl.tl.tl.tl.tl.tl.tl.tl.tl.tl.tl.tl.hd, cell_below h _ _ EW.out.c.tl.tl.tl.tl.tl.tl.tl.tl.tl.tl.tl.tl.hd, cell_below h _ _ EW.out.c.tl.tl.tl.tl.tl.tl.tl.tl.tl.tl.tl.tl.tl.hd, cell_below h _ _ EW.out.c.tl.tl.tl.tl.tl.tl.tl.tl.tl.tl.tl.tl.tl.tl.hd, cell_below h _ _ EW.out.c.tl.tl.tl.tl.tl.tl.tl.tl.tl.tl.tl.tl.tl.tl.tl.hd, cell_below h _ _ EW.out.c.tl.tl.tl.tl.tl.tl.tl.tl.hd, cell_below h _ _ EW.out.c.tl.tl.tl.tl.tl.tl.tl.tl.tl.hd, cell_below h _ _ EW.out.c.tl.tl.tl.tl.tl.tl.tl.tl.tl.tl.hd, cell_below h _ _ EW.out.c.tl.tl.tl.tl.tl.tl.tl.tl.tl.tl.tl.hd, cell_below h _ _ EW.out.c.tl.tl.tl.tl.hd, cell_below h _ _ EW.out.c.tl.tl.tl.tl.tl.hd, cell_below h _ _ EW.out.c.tl.tl.tl.tl.tl.tl.hd, cell_below h _ _ EW.out.c.tl.tl.tl.tl.tl.tl.tl.hd, cell_below h _ _ EW.out.c.hd, cell_below h _ _ EW.out.c.tl.hd, cell_below h _ _ EW.out.c.tl.tl.hd, cell_below h _ _ EW.out.c.tl.tl.tl.hd⟩
  have hS0 : Below W0.heap.size W0 W0.drew := (Below.refl _ _).drew
  have Bp := Lib.hid EW.out.t.tl.tl.tl.tl.tl.tl.tl.tl.tl.tl.tl.tl.tl.tl.tl.tl.tl.tl.tl.tl.hd
  have Bq := Lib.hid EW.out.t.tl.tl.tl.tl.tl.tl.tl.tl.tl.tl.tl.tl.tl.tl.tl.tl.hd
  have Bb := Lib.hid EW.out.t.tl.tl.tl.tl.tl.tl.tl.tl.tl.tl.tl.tl.tl.tl.hd
  have Bc := Lib.hid EW.out.t.tl.tl.tl.tl.tl.tl.tl.tl.tl.tl.tl.tl.hd
  have Bd := Lib.hid EW.out.t.tl.tl.tl.tl.tl.tl.tl.tl.tl.tl.hd
  have Be := Lib.hid EW.out.t.tl.tl.tl.tl.hd
  have Bh := Lib.hid EW.out.t.hd
  clear EW
  have E1000 : Hid (Env W0 W0.drew [] []) := Lib.hid (Env.bare ((Env.start W0).step hS0))
  simp only [List.append]
  have hHeld : (fun w' => Below W0.heap.size W0 w' ∧ w'.cell? ⟨w4.heap.size, 0, none⟩ = some (.int .i64 3) ∧ w'.cell? ⟨w4.heap.size, 1, none⟩ = some (.int .i64 0) ∧ w'.cell? ⟨w4.heap.size, 2, none⟩ = some (.string ⟨#[101, 114, 114, 111, 114]⟩) ∧ w'.cell? ⟨w4.heap.size, 3, none⟩ = some (.slice ma1 2 mc1) ∧ w'.cell? ⟨w8.heap.size, 0, none⟩ = some (.int .i64 2) ∧ w'.cell? ⟨w8.heap.size, 1, none⟩ = some (.int .i64 0) ∧ w'.cell? ⟨w8.heap.size, 2, none⟩ = some (.string ⟨#[97]⟩) ∧ w'.cell? ⟨w8.heap.size, 3, none⟩ = some (.slice ma2 0 mc2) ∧ w'.cell? ⟨w10.heap.size, 0, none⟩ = some (.int .i64 0) ∧ w'.cell? ⟨w10.heap.size, 1, none⟩ = some (.int .i64 0) ∧ w'.cell? ⟨w10.heap.size, 2, none⟩ = some (.string ⟨#[]⟩) ∧ w'.cell? ⟨w10.heap.size, 3, none⟩ = some (.slice ma3 0 mc3) ∧ w'.cell? ⟨w12.heap.size, 0, none⟩ = some (.int .i64 3) ∧ w'.cell? ⟨w12.heap.size, 1, none⟩ = some (.int .i64 0) ∧ w'.cell? ⟨w12.heap.size, 2, none⟩ = some (.string ⟨#[101, 114, 114, 111, 114]⟩) ∧ w'.cell? ⟨w12.heap.size, 3, none⟩ = some (.slice ma4 2 mc4) ∧ w'.cell? ⟨w14.heap.size, 0, none⟩ = some (.int .i64 3) ∧ w'.cell? ⟨w14.heap.size, 1, none⟩ = some (.int .i64 0) ∧ w'.cell? ⟨w14.heap.size, 2, none⟩ = some (.string ⟨#[101, 114, 114, 111, 114]⟩) ∧ w'.cell? ⟨w14.heap.size, 3, none⟩ = some (.slice ma5 2 mc5) ∧ w'.cell? ⟨w20.heap.size, 0, none⟩ = some (.int .i64 3) ∧ w'.cell? ⟨w20.heap.size, 1, none⟩ = some (.int .i64 0) ∧ w'.cell? ⟨w20.heap.size, 2, none⟩ = some (.string ⟨#[101, 114, 114, 111, 114]⟩) ∧ w'.cell? ⟨w20.heap.size, 3, none⟩ = some (.slice ma6 2 mc6) ∧ w'.cell? ⟨w24.heap.size, 0, none⟩ = some (.int .i64 0) ∧ w'.cell? ⟨w24.heap.size, 1, none⟩ = some (.int .i64 0) ∧ w'.cell? ⟨w24.heap.size, 2, none⟩ = some (.string ⟨#[]⟩) ∧ w'.cell? ⟨w24.heap.size, 3, none⟩ = some (.slice ma7 0 mc7)) W0.drew := HS.out _ hS0
  refine wp_region_noPanic ?_
  refine wp_region_row (S := (fun w' => Below W0.heap.size W0 w' ∧ w'.cell? ⟨w4.heap.size, 0, none⟩ = some (.int .i64 3) ∧ w'.cell? ⟨w4.heap.size, 1, none⟩ = some (.int .i64 0) ∧ w'.cell? ⟨w4.heap.size, 2, none⟩ = some (.string ⟨#[101, 114, 114, 111, 114]⟩) ∧ w'.cell? ⟨w4.heap.size, 3, none⟩ = some (.slice ma1 2 mc1) ∧ w'.cell? ⟨w8.heap.size, 0, none⟩ = some (.int .i64 2) ∧ w'.cell? ⟨w8.heap.size, 1, none⟩ = some (.int .i64 0) ∧ w'.cell? ⟨w8.heap.size, 2, none⟩ = some (.string ⟨#[97]⟩) ∧ w'.cell? ⟨w8.heap.size, 3, none⟩ = some (.slice ma2 0 mc2) ∧ w'.cell? ⟨w10.heap.size, 0, none⟩ = some (.int .i64 0) ∧ w'.cell? ⟨w10.heap.size, 1, none⟩ = some (.int .i64 0) ∧ w'.cell? ⟨w10.heap.size, 2, none⟩ = some (.string ⟨#[]⟩) ∧ w'.cell? ⟨w10.heap.size, 3, none⟩ = some (.slice ma3 0 mc3) ∧ w'.cell? ⟨w12.heap.size, 0, none⟩ = some (.int .i64 3) ∧ w'.cell? ⟨w12.heap.size, 1, none⟩ = some (.int .i64 0) ∧ w'.cell? ⟨w12.heap.size, 2, none⟩ = some (.string ⟨#[101, 114, 114, 111, 114]⟩) ∧ w'.cell? ⟨w12.heap.size, 3, none⟩ = some (.slice ma4 2 mc4) ∧ w'.cell? ⟨w14.heap.size, 0, none⟩ = some (.int .i64 3) ∧ w'.cell? ⟨w14.heap.size, 1, none⟩ = some (.int .i64 0) ∧ w'.cell? ⟨w14.heap.size, 2, none⟩ = some (.string ⟨#[101, 114, 114, 111, 114]⟩) ∧ w'.cell? ⟨w14.heap.size, 3, none⟩ = some (.slice ma5 2 mc5) ∧ w'.cell? ⟨w20.heap.size, 0, none⟩ = some (.int .i64 3) ∧ w'.cell? ⟨w20.heap.size, 1, none⟩ = some (.int .i64 0) ∧ w'.cell? ⟨w20.heap.size, 2, none⟩ = some (.string ⟨#[101, 114, 114, 111, 114]⟩) ∧ w'.cell? ⟨w20.heap.size, 3, none⟩ = some (.slice ma6 2 mc6) ∧ w'.cell? ⟨w24.heap.size, 0, none⟩ = some (.int .i64 0) ∧ w'.cell? ⟨w24.heap.size, 1, none⟩ = some (.int .i64 0) ∧ w'.cell? ⟨w24.heap.size, 2, none⟩ = some (.string ⟨#[]⟩) ∧ w'.cell? ⟨w24.heap.size, 3, none⟩ = some (.slice ma7 0 mc7))) [true, false, false, false, false, false, false, false, false, false, false, false, false, false, false, false, false, false, false, false, false, false, false, true, false, false, false, false, false, false, false, false, true, false, false, false, false, false, false, false, true, false, false, false, false, false, false, false, false, false, false, false, false, true, false, false, false, false, false, false, false, false, false, false, false, true, false, false, false, false, false, false, false, false, false, false, false, false, false, false, false, false, false, true, false, false, false, false, false, false, false] [0, 0, 2, 3, 4, 5, 6, 7, 8, 9, 10, 11, 12, 13, 14, 15, 16, 17, 18, 19, 20, 21, 22, 23, 23, 25, 26, 27, 28, 29, 30, 31, 32, 32, 34, 35, 36, 37, 38, 39, 40, 40, 42, 43, 44, 45, 46, 47, 48, 49, 50, 51, 52, 53, 53, 55, 56, 57, 58, 59, 60, 61, 62, 63, 64, 65, 65, 67, 68, 69, 70, 71, 72, 73, 74, 75, 76, 77, 78, 79, 80, 81, 82, 83, 83, 85, 86, 87, 88, 89, 90] (by kernel_rfl) (by kernel_rfl) (by kernel_rfl) (by kernel_rfl) (fun _ _ _ _ _ h => h) ?_
  refine WpSeq.take (v := ?_) (by kernel_rfl) ?_ (by assumption) ?_
  rotate_left
  · (intro w hSw; (try dsimp only at hSw); go_simp; try with_reducible rfl)
  dsimp only [List.set_cons_succ, List.set_cons_zero]
  refine WpSeq.callF (by kernel_rfl) runs_a_any (by kernel_rfl) ((a_any ⟨#[109, 111, 100, 105, 102, 121]⟩ _).mono ?_)
  try clear h5
  rintro e w1001 ⟨rfl, hb1001⟩
  have E1001 := Lib.hid ((E1000.out.step hb1001).pushT (atom_lies (nm := ⟨#[109, 111, 100, 105, 102, 121]⟩) (by simp [ByteArray.size])))
  clear hb1001 E1000
  have h5 := E1001.out.b
  refine ⟨_, rfl, HS.out _ h5, ?_⟩
  dsimp only [List.set_cons_succ, List.set_cons_zero]
  clear hHeld
  have hHeld := HS.out _ h5
  refine WpSeq.callF (by kernel_rfl) runs_a_any (by kernel_rfl) ((a_any ⟨#[115, 116, 97, 116, 105, 99, 95, 112, 114, 111, 99, 101, 100, 117, 114, 101]⟩ _).mono ?_)
  try clear h5
  rintro e w1002 ⟨rfl, hb1002⟩
  have E1002 := Lib.hid ((E1001.out.step hb1002).pushT (atom_lies (nm := ⟨#[115, 116, 97, 116, 105, 99, 95, 112, 114, 111, 99, 101, 100, 117, 114, 101]⟩) (by simp [ByteArray.size])))
  clear hb1002 E1001
  have h5 := E1002.out.b
  refine ⟨_, rfl, HS.out _ h5, ?_⟩
  dsimp only [List.set_cons_succ, List.set_cons_zero]
  clear hHeld
  have hHeld := HS.out _ h5
  refine WpSeq.callF (by kernel_rfl) runs_a_any (by kernel_rfl) ((a_any ⟨#[102]⟩ _).mono ?_)
  try clear h5
  rintro e w1003 ⟨rfl, hb1003⟩
  have E1003 := Lib.hid ((E1002.out.step hb1003).pushT (atom_lies (nm := ⟨#[102]⟩) (by simp [ByteArray.size])))
  clear hb1003 E1002
  have h5 := E1003.out.b
  refine ⟨_, rfl, HS.out _ h5, ?_⟩
  dsimp only [List.set_cons_succ, List.set_cons_zero]
  clear hHeld
  have hHeld := HS.out _ h5
  refine WpSeq.callF (by kernel_rfl) runs_n_any (by kernel_rfl) ((n_any 1 _).mono ?_)
  try clear h5
  rintro e w1004 ⟨rfl, hb1004⟩
  have E1004 := Lib.hid ((E1003.out.step hb1004).pushT (int_lies (n := 1) ⟨by omega, by omega⟩))
  clear hb1004 E1003
  have lz1005 := Lib.hid (lies_new (g := w1004.heap.size) (ty := 24) rfl [((.mk 2 0 ⟨#[102]⟩ []), .slice none 0 0), ((.mk 1 1 ⟨#[]⟩ []), .slice none 0 0)] (by simp only [EnvT]; exact ⟨E1004.out.t.tl.hd, ⟨E1004.out.t.hd, trivial⟩⟩) (by simp))
  have h5 := E1004.out.b
  refine ⟨_, rfl, HS.out _ h5, ?_⟩
  dsimp only [List.set_cons_succ, List.set_cons_zero]
  clear hHeld
  have hHeld := HS.out _ h5
  refine WpSeq.call (by kernel_rfl) (fun K hK => ?_)
  go_simp
  refine hK.out _ _ ?_ (fun hHeld2 => ?_)
  · exact HS.out _ (h5.alloc (by have := h5.size; omega) _)
  clear hK K hHeld
  have hHeld := hHeld2; clear hHeld2
  try (refine WpSeq.put ?_; dsimp only [List.set_cons_succ, List.set_cons_zero])
  refine WpSeq.callF (by kernel_rfl) runs_f_any (by kernel_rfl) ((f_any ⟨#[47]⟩ (some ⟨w1004.heap.size, 0, none⟩) 2 2 _).mono ?_)
  try clear h5
  rintro e w1005 ⟨rfl, hb1005⟩
  have E1005 := Lib.hid (((E1004.out.alloc _).step hb1005).pushT (LiesT.below (struct_lies (nm := ⟨#[47]⟩) (by simp [ByteArray.size]) lz1005.out) hb1005))
  clear hb1005 E1004
  clear lz1005
  have lz1006 := Lib.hid (lies_new (g := w1005.heap.size) (ty := 24) rfl [((.mk 2 0 ⟨#[109, 111, 100, 105, 102, 121]⟩ []), .slice none 0 0), ((.mk 2 0 ⟨#[115, 116, 97, 116, 105, 99, 95, 112, 114, 111, 99, 101, 100, 117, 114, 101]⟩ []), .slice none 0 0), ((.mk 3 0 ⟨#[47]⟩ [(.mk 2 0 ⟨#[102]⟩ []), (.mk 1 1 ⟨#[]⟩ [])]), .slice (some ⟨w1004.heap.size, 0, none⟩) 2 2)] (by simp only [EnvT]; exact ⟨E1005.out.t.tl.tl.tl.tl.hd, ⟨E1005.out.t.tl.tl.tl.hd, ⟨E1005.out.t.hd, trivial⟩⟩⟩) (by simp))
  have h5 := E1005.out.b
  refine ⟨_, rfl, HS.out _ h5, ?_⟩
  dsimp only [List.set_cons_succ, List.set_cons_zero]
  clear hHeld
  have hHeld := HS.out _ h5
  refine WpSeq.call (by kernel_rfl) (fun K hK => ?_)
  go_simp
  refine hK.out _ _ ?_ (fun hHeld2 => ?_)
  · exact HS.out _ (h5.alloc (by have := h5.size; omega) _)
  clear hK K hHeld
  have hHeld := hHeld2; clear hHeld2
  try (refine WpSeq.put ?_; dsimp only [List.set_cons_succ, List.set_cons_zero])
  refine WpSeq.callF (by kernel_rfl) runs_f_any (by kernel_rfl) ((f_any ⟨#[112, 101, 114, 109, 105, 115, 115, 105, 111, 110, 95, 101, 114, 114, 111, 114]⟩ (some ⟨w1005.heap.size, 0, none⟩) 3 3 _).mono ?_)
  try clear h5
  rintro e w1006 ⟨rfl, hb1006⟩
  have E1006 := Lib.hid (((E1005.out.alloc _).step hb1006).pushT (LiesT.below (struct_lies (nm := ⟨#[112, 101, 114, 109, 105, 115, 115, 105, 111, 110, 95, 101, 114, 114, 111, 114]⟩) (by simp [ByteArray.size]) lz1006.out) hb1006))
  clear hb1006 E1005
  clear lz1006
  have h5 := E1006.out.b
  refine ⟨_, rfl, HS.out _ h5, ?_⟩
  dsimp only [List.set_cons_succ, List.set_cons_zero]
  clear hHeld
  have hHeld := HS.out _ h5
  refine WpSeq.callF (by kernel_rfl) runs_error1_any (by kernel_rfl) ((error1_any (.mk 3 0 ⟨#[112, 101, 114, 109, 105, 115, 115, 105, 111, 110, 95, 101, 114, 114, 111, 114]⟩ [(.mk 2 0 ⟨#[109, 111, 100, 105, 102, 121]⟩ []), (.mk 2 0 ⟨#[115, 116, 97, 116, 105, 99, 95, 112, 114, 111, 99, 101, 100, 117, 114, 101]⟩ []), (.mk 3 0 ⟨#[47]⟩ [(.mk 2 0 ⟨#[102]⟩ []), (.mk 1 1 ⟨#[]⟩ [])])]) _ _ E1006.out.t.hd).mono ?_)
  try clear h5
  rintro e w1007 ⟨y, he, hy, hb1007⟩
  have hT0 : errT (.mk 3 0 ⟨#[112, 101, 114, 109, 105, 115, 115, 105, 111, 110, 95, 101, 114, 114, 111, 114]⟩ [(.mk 2 0 ⟨#[109, 111, 100, 105, 102, 121]⟩ []), (.mk 2 0 ⟨#[115, 116, 97, 116, 105, 99, 95, 112, 114, 111, 99, 101, 100, 117, 114, 101]⟩ []), (.mk 3 0 ⟨#[47]⟩ [(.mk 2 0 ⟨#[102]⟩ []), (.mk 1 1 ⟨#[]⟩ [])])]) = (.mk 3 0 ⟨#[101, 114, 114, 111, 114]⟩ [(.mk 3 0 ⟨#[112, 101, 114, 109, 105, 115, 115, 105, 111, 110, 95, 101, 114, 114, 111, 114]⟩ [(.mk 2 0 ⟨#[109, 111, 100, 105, 102, 121]⟩ []), (.mk 2 0 ⟨#[115, 116, 97, 116, 105, 99, 95, 112, 114, 111, 99, 101, 100, 117, 114, 101]⟩ []), (.mk 3 0 ⟨#[47]⟩ [(.mk 2 0 ⟨#[102]⟩ []), (.mk 1 1 ⟨#[]⟩ [])])]), (.mk 2 0 ⟨#[91, 93]⟩ [])]) := by rfl
  try rw [hT0] at he
  try rw [hT0] at hy
  obtain ⟨ma8, mc8, rfl⟩ : ∃ a c, y = .slice a 2 c := hy.slice
  obtain rfl : e = .returned (pv 3 0 ⟨#[101, 114, 114, 111, 114]⟩ (.slice ma8 2 mc8)) := he
  have hyl := hy
  have E1007 := Lib.hid ((E1006.out.step hb1007).pushT hyl)
  clear hb1007 E1006
  clear hy hyl hT0
  have h5 := E1007.out.b
  refine ⟨_, rfl, HS.out _ h5, ?_⟩
  dsimp only [List.set_cons_succ, List.set_cons_zero]
  clear hHeld
  have hHeld := HS.out _ h5
  refine WpSeq.callF (by kernel_rfl) runs_lsame_is (by kernel_rfl) ((lsame_is (.mk 3 0 ⟨#[101, 114, 114, 111, 114]⟩ [(.mk 3 0 ⟨#[112, 101, 114, 109, 105, 115, 115, 105, 111, 110, 95, 101, 114, 114, 111, 114]⟩ [(.mk 2 0 ⟨#[109, 111, 100, 105, 102, 121]⟩ []), (.mk 2 0 ⟨#[115, 116, 97, 116, 105, 99, 95, 112, 114, 111, 99, 101, 100, 117, 114, 101]⟩ []), (.mk 3 0 ⟨#[47]⟩ [(.mk 2 0 ⟨#[102]⟩ []), (.mk 1 1 ⟨#[]⟩ [])])]), (.mk 2 0 ⟨#[91, 93]⟩ [])]) (.mk 3 0 ⟨#[101, 114, 114, 111, 114]⟩ [(.mk 3 0 ⟨#[112, 101, 114, 109, 105, 115, 115, 105, 111, 110, 95, 101, 114, 114, 111, 114]⟩ [(.mk 2 0 ⟨#[109, 111, 100, 105, 102, 121]⟩ []), (.mk 2 0 ⟨#[115, 116, 97, 116, 105, 99, 95, 112, 114, 111, 99, 101, 100, 117, 114, 101]⟩ []), (.mk 3 0 ⟨#[47]⟩ [(.mk 2 0 ⟨#[102]⟩ []), (.mk 1 1 ⟨#[]⟩ [])])]), (.mk 2 0 ⟨#[91, 93]⟩ [])]) true (by rfl) _ _ _ (LiesT.below Bp.out E1007.out.b) E1007.out.t.hd).mono ?_)
  try clear h5
  rintro e w1008 ⟨rfl, hb1008⟩
  have E1008 := Lib.hid (Env.bare (E1007.out.step hb1008))
  clear hb1008 E1007
  have h5 := E1008.out.b
  refine ⟨_, rfl, HS.out _ h5, ?_⟩
  dsimp only [List.set_cons_succ, List.set_cons_zero]
  clear hHeld
  have hHeld := HS.out _ h5
  refine WpSeq.take (by kernel_rfl) (fun _ _ => rfl) (by assumption) ?_
  dsimp only [List.set_cons_succ, List.set_cons_zero]
  refine WpSeq.callF (by kernel_rfl) runs_Syntax_pos (by kernel_rfl) ((Syntax_pos 3 _ (by omega) (by omega)).mono ?_)
  try clear h5
  rintro e w1009 ⟨y, he, hy, hb1009⟩
  have hT0 : vz (errT (.mk 3 0 ⟨#[115, 121, 110, 116, 97, 120, 95, 101, 114, 114, 111, 114]⟩ [.mk 1 3 ⟨#[]⟩ []])) = (.mk 3 0 ⟨#[101, 114, 114, 111, 114]⟩ [(.mk 3 0 ⟨#[115, 121, 110, 116, 97, 120, 95, 101, 114, 114, 111, 114]⟩ [(.mk 1 3 ⟨#[]⟩ [])]), (.mk 2 0 ⟨#[91, 93]⟩ [])]) := by rfl
  try rw [hT0] at he
  try rw [hT0] at hy
  obtain ⟨ma9, mc9, rfl⟩ : ∃ a c, y = .slice a 2 c := hy.slice
  obtain rfl : e = .returned (pv 3 0 ⟨#[101, 114, 114, 111, 114]⟩ (.slice ma9 2 mc9)) := he
  have hyl := OwnT.lies _ _ hy
  have E1009 := Lib.hid ((E1008.out.step hb1009).pushT hyl)
  clear hb1009 E1008
  clear hy hyl hT0
  have h5 := E1009.out.b
  refine ⟨_, rfl, HS.out _ h5, ?_⟩
  dsimp only [List.set_cons_succ, List.set_cons_zero]
  clear hHeld
  have hHeld := HS.out _ h5
  refine WpSeq.callF (by kernel_rfl) runs_n_any (by kernel_rfl) ((n_any 3 _).mono ?_)
  try clear h5
  rintro e w1010 ⟨rfl, hb1010⟩
  have E1010 := Lib.hid ((E1009.out.step hb1010).pushT (int_lies (n := 3) ⟨by omega, by omega⟩))
  clear hb1010 E1009
  have lz1011 := Lib.hid (lies_new (g := w1010.heap.size) (ty := 24) rfl [((.mk 1 3 ⟨#[]⟩ []), .slice none 0 0)] (by simp only [EnvT]; exact ⟨E1010.out.t.hd, trivial⟩) (by simp))
  have h5 := E1010.out.b
  refine ⟨_, rfl, HS.out _ h5, ?_⟩
  dsimp only [List.set_cons_succ, List.set_cons_zero]
  clear hHeld
  have hHeld := HS.out _ h5
  refine WpSeq.call (by kernel_rfl) (fun K hK => ?_)
  go_simp
  refine hK.out _ _ ?_ (fun hHeld2 => ?_)
  · exact HS.out _ (h5.alloc (by have := h5.size; omega) _)
  clear hK K hHeld
  have hHeld := hHeld2; clear hHeld2
  try (refine WpSeq.put ?_; dsimp only [List.set_cons_succ, List.set_cons_zero])
  refine WpSeq.callF (by kernel_rfl) runs_f_any (by kernel_rfl) ((f_any ⟨#[115, 121, 110, 116, 97, 120, 95, 101, 114, 114, 111, 114]⟩ (some ⟨w1010.heap.size, 0, none⟩) 1 1 _).mono ?_)
  try clear h5
  rintro e w1011 ⟨rfl, hb1011⟩
  have E1011 := Lib.hid (((E1010.out.alloc _).step hb1011).pushT (LiesT.below (struct_lies (nm := ⟨#[115, 121, 110, 116, 97, 120, 95, 101, 114, 114, 111, 114]⟩) (by simp [ByteArray.size]) lz1011.out) hb1011))
  clear hb1011 E1010
  clear lz1011
  have h5 := E1011.out.b
  refine ⟨_, rfl, HS.out _ h5, ?_⟩
  dsimp only [List.set_cons_succ, List.set_cons_zero]
  clear hHeld
  have hHeld := HS.out _ h5
  refine WpSeq.callF (by kernel_rfl) runs_error1_any (by kernel_rfl) ((error1_any (.mk 3 0 ⟨#[115, 121, 110, 116, 97, 120, 95, 101, 114, 114, 111, 114]⟩ [(.mk 1 3 ⟨#[]⟩ [])]) _ _ E1011.out.t.hd).mono ?_)
  try clear h5
  rintro e w1012 ⟨y, he, hy, hb1012⟩
  have hT0 : errT (.mk 3 0 ⟨#[115, 121, 110, 116, 97, 120, 95, 101, 114, 114, 111, 114]⟩ [(.mk 1 3 ⟨#[]⟩ [])]) = (.mk 3 0 ⟨#[101, 114, 114, 111, 114]⟩ [(.mk 3 0 ⟨#[115, 121, 110, 116, 97, 120, 95, 101, 114, 114, 111, 114]⟩ [(.mk 1 3 ⟨#[]⟩ [])]), (.mk 2 0 ⟨#[91, 93]⟩ [])]) := by rfl
  try rw [hT0] at he
  try rw [hT0] at hy
  obtain ⟨ma10, mc10, rfl⟩ : ∃ a c, y = .slice a 2 c := hy.slice
  obtain rfl : e = .returned (pv 3 0 ⟨#[101, 114, 114, 111, 114]⟩ (.slice ma10 2 mc10)) := he
  have hyl := hy
  have E1012 := Lib.hid ((E1011.out.step hb1012).pushT hyl)
  clear hb1012 E1011
  clear hy hyl hT0
  have h5 := E1012.out.b
  refine ⟨_, rfl, HS.out _ h5, ?_⟩
  dsimp only [List.set_cons_succ, List.set_cons_zero]
  clear hHeld
  have hHeld := HS.out _ h5
  refine WpSeq.callF (by kernel_rfl) runs_lsame_is (by kernel_rfl) ((lsame_is (.mk 3 0 ⟨#[101, 114, 114, 111, 114]⟩ [(.mk 3 0 ⟨#[115, 121, 110, 116, 97, 120, 95, 101, 114, 114, 111, 114]⟩ [(.mk 1 3 ⟨#[]⟩ [])]), (.mk 2 0 ⟨#[91, 93]⟩ [])]) (.mk 3 0 ⟨#[101, 114, 114, 111, 114]⟩ [(.mk 3 0 ⟨#[115, 121, 110, 116, 97, 120, 95, 101, 114, 114, 111, 114]⟩ [(.mk 1 3 ⟨#[]⟩ [])]), (.mk 2 0 ⟨#[91, 93]⟩ [])]) true (by rfl) _ _ _ E1012.out.t.tl.tl.tl.hd E1012.out.t.hd).mono ?_)
  try clear h5
  rintro e w1013 ⟨rfl, hb1013⟩
  have E1013 := Lib.hid (Env.bare (E1012.out.step hb1013))
  clear hb1013 E1012
  have h5 := E1013.out.b
  refine ⟨_, rfl, HS.out _ h5, ?_⟩
  dsimp only [List.set_cons_succ, List.set_cons_zero]
  clear hHeld
  have hHeld := HS.out _ h5
  refine WpSeq.take (by kernel_rfl) (fun _ _ => rfl) (by assumption) ?_
  dsimp only [List.set_cons_succ, List.set_cons_zero]
  refine WpSeq.take (by kernel_rfl) (fun _ _ => rfl) (by assumption) ?_
  dsimp only [List.set_cons_succ, List.set_cons_zero]
  refine WpSeq.take (by kernel_rfl) (fun _ _ => rfl) (by assumption) ?_
  dsimp only [List.set_cons_succ, List.set_cons_zero]
  refine WpSeq.take (by kernel_rfl) (fun _ _ => rfl) (by assumption) ?_
  dsimp only [List.set_cons_succ, List.set_cons_zero]
  refine WpSeq.take (by kernel_rfl) (fun _ _ => rfl) (by assumption) ?_
  dsimp only [List.set_cons_succ, List.set_cons_zero]
  refine WpSeq.take (v := ?_) (by kernel_rfl) ?_ (by assumption) ?_
  rotate_left
  · (intro w hSw; (try dsimp only at hSw); go_simp; try with_reducible rfl)
  dsimp only [List.set_cons_succ, List.set_cons_zero]
  refine WpSeq.callF (by kernel_rfl) runs_a_any (by kernel_rfl) ((a_any ⟨#[97]⟩ _).mono ?_)
  try clear h5
  rintro e w1014 ⟨rfl, hb1014⟩
  have E1014 := Lib.hid ((E1013.out.step hb1014).pushT (atom_lies (nm := ⟨#[97]⟩) (by simp [ByteArray.size])))
  clear hb1014 E1013
  have h5 := E1014.out.b
  refine ⟨_, rfl, HS.out _ h5, ?_⟩
  dsimp only [List.set_cons_succ, List.set_cons_zero]
  clear hHeld
  have hHeld := HS.out _ h5
  refine WpSeq.callF (by kernel_rfl) runs_lsame_is (by kernel_rfl) ((lsame_is (.mk 2 0 ⟨#[97]⟩ []) (.mk 2 0 ⟨#[97]⟩ []) true (by rfl) _ _ _ (LiesT.below Bq.out E1014.out.b) E1014.out.t.hd).mono ?_)
  try clear h5
  rintro e w1015 ⟨rfl, hb1015⟩
  have E1015 := Lib.hid (Env.bare (E1014.out.step hb1015))
  clear hb1015 E1014
  have h5 := E1015.out.b
  refine ⟨_, rfl, HS.out _ h5, ?_⟩
  dsimp only [List.set_cons_succ, List.set_cons_zero]
  clear hHeld
  have hHeld := HS.out _ h5
  refine WpSeq.take (by kernel_rfl) (fun _ _ => rfl) (by assumption) ?_
  dsimp only [List.set_cons_succ, List.set_cons_zero]
  refine WpSeq.take (by kernel_rfl) (fun _ _ => rfl) (by assumption) ?_
  dsimp only [List.set_cons_succ, List.set_cons_zero]
  refine WpSeq.take (by kernel_rfl) (fun _ _ => rfl) (by assumption) ?_
  dsimp only [List.set_cons_succ, List.set_cons_zero]
  refine WpSeq.take (v := .bool true) (by kernel_rfl) (fun _ _ => by kernel_rfl) (by assumption) ?_
  dsimp only [List.set_cons_succ, List.set_cons_zero]
  refine WpSeq.take (by kernel_rfl) (fun _ _ => rfl) (by assumption) ?_
  dsimp only [List.set_cons_succ, List.set_cons_zero]
  refine WpSeq.take (by kernel_rfl) (fun _ _ => rfl) (by assumption) ?_
  dsimp only [List.set_cons_succ, List.set_cons_zero]
  refine WpSeq.take (v := ?_) (by kernel_rfl) ?_ (by assumption) ?_
  rotate_left
  · (intro w hSw; (try dsimp only at hSw); go_simp; try with_reducible rfl)
  dsimp only [List.set_cons_succ, List.set_cons_zero]
  refine WpSeq.callF (by kernel_rfl) runs_x_any (by kernel_rfl) ((x_any 0 _).mono ?_)
  try clear h5
  rintro e w1016 ⟨rfl, hb1016⟩
  have E1016 := Lib.hid ((E1015.out.step hb1016).pushT (vr_lies (n := 0) ⟨by omega, by omega⟩))
  clear hb1016 E1015
  have h5 := E1016.out.b
  refine ⟨_, rfl, HS.out _ h5, ?_⟩
  dsimp only [List.set_cons_succ, List.set_cons_zero]
  clear hHeld
  have hHeld := HS.out _ h5
  refine WpSeq.callF (by kernel_rfl) runs_lsame_is (by kernel_rfl) ((lsame_is z0 (vr 0) true (by rfl) _ _ _ (LiesT.below Bb.out E1016.out.b) E1016.out.t.hd).mono ?_)
  try clear h5
  rintro e w1017 ⟨rfl, hb1017⟩
  have E1017 := Lib.hid (Env.bare (E1016.out.step hb1017))
  clear hb1017 E1016
  have h5 := E1017.out.b
  refine ⟨_, rfl, HS.out _ h5, ?_⟩
  dsimp only [List.set_cons_succ, List.set_cons_zero]
  clear hHeld
  have hHeld := HS.out _ h5
  refine WpSeq.take (by kernel_rfl) (fun _ _ => rfl) (by assumption) ?_
  dsimp only [List.set_cons_succ, List.set_cons_zero]
  refine WpSeq.take (by kernel_rfl) (fun _ _ => rfl) (by assumption) ?_
  dsimp only [List.set_cons_succ, List.set_cons_zero]
  refine WpSeq.take (by kernel_rfl) (fun _ _ => rfl) (by assumption) ?_
  dsimp only [List.set_cons_succ, List.set_cons_zero]
  refine WpSeq.take (by kernel_rfl) (fun _ _ => rfl) (by assumption) ?_
  dsimp only [List.set_cons_succ, List.set_cons_zero]
  refine WpSeq.take (by kernel_rfl) (fun _ _ => rfl) (by assumption) ?_
  dsimp only [List.set_cons_succ, List.set_cons_zero]
  refine WpSeq.take (v := ?_) (by kernel_rfl) ?_ (by assumption) ?_
  rotate_left
  · (intro w hSw; (try dsimp only at hSw); go_simp; try with_reducible rfl)
  dsimp only [List.set_cons_succ, List.set_cons_zero]
  refine WpSeq.callF (by kernel_rfl) runs_a_any (by kernel_rfl) ((a_any ⟨#[97, 116, 111, 109]⟩ _).mono ?_)
  try clear h5
  rintro e w1018 ⟨rfl, hb1018⟩
  have E1018 := Lib.hid ((E1017.out.step hb1018).pushT (atom_lies (nm := ⟨#[97, 116, 111, 109]⟩) (by simp [ByteArray.size])))
  clear hb1018 E1017
  have h5 := E1018.out.b
  refine ⟨_, rfl, HS.out _ h5, ?_⟩
  dsimp only [List.set_cons_succ, List.set_cons_zero]
  clear hHeld
  have hHeld := HS.out _ h5
  refine WpSeq.callF (by kernel_rfl) runs_n_any (by kernel_rfl) ((n_any 3 _).mono ?_)
  try clear h5
  rintro e w1019 ⟨rfl, hb1019⟩
  have E1019 := Lib.hid ((E1018.out.step hb1019).pushT (int_lies (n := 3) ⟨by omega, by omega⟩))
  clear hb1019 E1018
  have lz1020 := Lib.hid (lies_new (g := w1019.heap.size) (ty := 24) rfl [((.mk 2 0 ⟨#[97, 116, 111, 109]⟩ []), .slice none 0 0), ((.mk 1 3 ⟨#[]⟩ []), .slice none 0 0)] (by simp only [EnvT]; exact ⟨E1019.out.t.tl.hd, ⟨E1019.out.t.hd, trivial⟩⟩) (by simp))
  have h5 := E1019.out.b
  refine ⟨_, rfl, HS.out _ h5, ?_⟩
  dsimp only [List.set_cons_succ, List.set_cons_zero]
  clear hHeld
  have hHeld := HS.out _ h5
  refine WpSeq.call (by kernel_rfl) (fun K hK => ?_)
  go_simp
  refine hK.out _ _ ?_ (fun hHeld2 => ?_)
  · exact HS.out _ (h5.alloc (by have := h5.size; omega) _)
  clear hK K hHeld
  have hHeld := hHeld2; clear hHeld2
  try (refine WpSeq.put ?_; dsimp only [List.set_cons_succ, List.set_cons_zero])
  refine WpSeq.callF (by kernel_rfl) runs_f_any (by kernel_rfl) ((f_any ⟨#[116, 121, 112, 101, 95, 101, 114, 114, 111, 114]⟩ (some ⟨w1019.heap.size, 0, none⟩) 2 2 _).mono ?_)
  try clear h5
  rintro e w1020 ⟨rfl, hb1020⟩
  have E1020 := Lib.hid (((E1019.out.alloc _).step hb1020).pushT (LiesT.below (struct_lies (nm := ⟨#[116, 121, 112, 101, 95, 101, 114, 114, 111, 114]⟩) (by simp [ByteArray.size]) lz1020.out) hb1020))
  clear hb1020 E1019
  clear lz1020
  have h5 := E1020.out.b
  refine ⟨_, rfl, HS.out _ h5, ?_⟩
  dsimp only [List.set_cons_succ, List.set_cons_zero]
  clear hHeld
  have hHeld := HS.out _ h5
  refine WpSeq.callF (by kernel_rfl) runs_error1_any (by kernel_rfl) ((error1_any (.mk 3 0 ⟨#[116, 121, 112, 101, 95, 101, 114, 114, 111, 114]⟩ [(.mk 2 0 ⟨#[97, 116, 111, 109]⟩ []), (.mk 1 3 ⟨#[]⟩ [])]) _ _ E1020.out.t.hd).mono ?_)
  try clear h5
  rintro e w1021 ⟨y, he, hy, hb1021⟩
  have hT0 : errT (.mk 3 0 ⟨#[116, 121, 112, 101, 95, 101, 114, 114, 111, 114]⟩ [(.mk 2 0 ⟨#[97, 116, 111, 109]⟩ []), (.mk 1 3 ⟨#[]⟩ [])]) = (.mk 3 0 ⟨#[101, 114, 114, 111, 114]⟩ [(.mk 3 0 ⟨#[116, 121, 112, 101, 95, 101, 114, 114, 111, 114]⟩ [(.mk 2 0 ⟨#[97, 116, 111, 109]⟩ []), (.mk 1 3 ⟨#[]⟩ [])]), (.mk 2 0 ⟨#[91, 93]⟩ [])]) := by rfl
  try rw [hT0] at he
  try rw [hT0] at hy
  obtain ⟨ma11, mc11, rfl⟩ : ∃ a c, y = .slice a 2 c := hy.slice
  obtain rfl : e = .returned (pv 3 0 ⟨#[101, 114, 114, 111, 114]⟩ (.slice ma11 2 mc11)) := he
  have hyl := hy
  have E1021 := Lib.hid ((E1020.out.step hb1021).pushT hyl)
  clear hb1021 E1020
  clear hy hyl hT0
  have h5 := E1021.out.b
  refine ⟨_, rfl, HS.out _ h5, ?_⟩
  dsimp only [List.set_cons_succ, List.set_cons_zero]
  clear hHeld
  have hHeld := HS.out _ h5
  refine WpSeq.callF (by kernel_rfl) runs_lsame_is (by kernel_rfl) ((lsame_is (.mk 3 0 ⟨#[101, 114, 114, 111, 114]⟩ [(.mk 3 0 ⟨#[116, 121, 112, 101, 95, 101, 114, 114, 111, 114]⟩ [(.mk 2 0 ⟨#[97, 116, 111, 109]⟩ []), (.mk 1 3 ⟨#[]⟩ [])]), (.mk 2 0 ⟨#[91, 93]⟩ [])]) (.mk 3 0 ⟨#[101, 114, 114, 111, 114]⟩ [(.mk 3 0 ⟨#[116, 121, 112, 101, 95, 101, 114, 114, 111, 114]⟩ [(.mk 2 0 ⟨#[97, 116, 111, 109]⟩ []), (.mk 1 3 ⟨#[]⟩ [])]), (.mk 2 0 ⟨#[91, 93]⟩ [])]) true (by rfl) _ _ _ (LiesT.below Bc.out E1021.out.b) E1021.out.t.hd).mono ?_)
  try clear h5
  rintro e w1022 ⟨rfl, hb1022⟩
  have E1022 := Lib.hid (Env.bare (E1021.out.step hb1022))
  clear hb1022 E1021
  have h5 := E1022.out.b
  refine ⟨_, rfl, HS.out _ h5, ?_⟩
  dsimp only [List.set_cons_succ, List.set_cons_zero]
  clear hHeld
  have hHeld := HS.out _ h5
  refine WpSeq.take (by kernel_rfl) (fun _ _ => rfl) (by assumption) ?_
  dsimp only [List.set_cons_succ, List.set_cons_zero]
  refine WpSeq.take (by kernel_rfl) (fun _ _ => rfl) (by assumption) ?_
  dsimp only [List.set_cons_succ, List.set_cons_zero]
  refine WpSeq.take (by kernel_rfl) (fun _ _ => rfl) (by assumption) ?_
  dsimp only [List.set_cons_succ, List.set_cons_zero]
  refine WpSeq.take (by kernel_rfl) (fun _ _ => rfl) (by assumption) ?_
  dsimp only [List.set_cons_succ, List.set_cons_zero]
  refine WpSeq.take (by kernel_rfl) (fun _ _ => rfl) (by assumption) ?_
  dsimp only [List.set_cons_succ, List.set_cons_zero]
  refine WpSeq.take (by kernel_rfl) (fun _ _ => rfl) (by assumption) ?_
  dsimp only [List.set_cons_succ, List.set_cons_zero]
  refine WpSeq.take (v := ?_) (by kernel_rfl) ?_ (by assumption) ?_
  rotate_left
  · (intro w hSw; (try dsimp only at hSw); go_simp; try with_reducible rfl)
  dsimp only [List.set_cons_succ, List.set_cons_zero]
  refine WpSeq.callF (by kernel_rfl) runs_a_any (by kernel_rfl) ((a_any ⟨#[99, 104, 97, 114, 97, 99, 116, 101, 114, 95, 99, 111, 100, 101]⟩ _).mono ?_)
  try clear h5
  rintro e w1023 ⟨rfl, hb1023⟩
  have E1023 := Lib.hid ((E1022.out.step hb1023).pushT (atom_lies (nm := ⟨#[99, 104, 97, 114, 97, 99, 116, 101, 114, 95, 99, 111, 100, 101]⟩) (by simp [ByteArray.size])))
  clear hb1023 E1022
  have lz1024 := Lib.hid (lies_new (g := w1023.heap.size) (ty := 24) rfl [((.mk 2 0 ⟨#[99, 104, 97, 114, 97, 99, 116, 101, 114, 95, 99, 111, 100, 101]⟩ []), .slice none 0 0)] (by simp only [EnvT]; exact ⟨E1023.out.t.hd, trivial⟩) (by simp))
  have h5 := E1023.out.b
  refine ⟨_, rfl, HS.out _ h5, ?_⟩
  dsimp only [List.set_cons_succ, List.set_cons_zero]
  clear hHeld
  have hHeld := HS.out _ h5
  refine WpSeq.call (by kernel_rfl) (fun K hK => ?_)
  go_simp
  refine hK.out _ _ ?_ (fun hHeld2 => ?_)
  · exact HS.out _ (h5.alloc (by have := h5.size; omega) _)
  clear hK K hHeld
  have hHeld := hHeld2; clear hHeld2
  try (refine WpSeq.put ?_; dsimp only [List.set_cons_succ, List.set_cons_zero])
  refine WpSeq.callF (by kernel_rfl) runs_f_any (by kernel_rfl) ((f_any ⟨#[114, 101, 112, 114, 101, 115, 101, 110, 116, 97, 116, 105, 111, 110, 95, 101, 114, 114, 111, 114]⟩ (some ⟨w1023.heap.size, 0, none⟩) 1 1 _).mono ?_)
  try clear h5
  rintro e w1024 ⟨rfl, hb1024⟩
  have E1024 := Lib.hid (((E1023.out.alloc _).step hb1024).pushT (LiesT.below (struct_lies (nm := ⟨#[114, 101, 112, 114, 101, 115, 101, 110, 116, 97, 116, 105, 111, 110, 95, 101, 114, 114, 111, 114]⟩) (by simp [ByteArray.size]) lz1024.out) hb1024))
  clear hb1024 E1023
  clear lz1024
  have h5 := E1024.out.b
  refine ⟨_, rfl, HS.out _ h5, ?_⟩
  dsimp only [List.set_cons_succ, List.set_cons_zero]
  clear hHeld
  have hHeld := HS.out _ h5
  refine WpSeq.callF (by kernel_rfl) runs_error1_any (by kernel_rfl) ((error1_any (.mk 3 0 ⟨#[114, 101, 112, 114, 101, 115, 101, 110, 116, 97, 116, 105, 111, 110, 95, 101, 114, 114, 111, 114]⟩ [(.mk 2 0 ⟨#[99, 104, 97, 114, 97, 99, 116, 101, 114, 95, 99, 111, 100, 101]⟩ [])]) _ _ E1024.out.t.hd).mono ?_)
  try clear h5
  rintro e w1025 ⟨y, he, hy, hb1025⟩
  have hT0 : errT (.mk 3 0 ⟨#[114, 101, 112, 114, 101, 115, 101, 110, 116, 97, 116, 105, 111, 110, 95, 101, 114, 114, 111, 114]⟩ [(.mk 2 0 ⟨#[99, 104, 97, 114, 97, 99, 116, 101, 114, 95, 99, 111, 100, 101]⟩ [])]) = (.mk 3 0 ⟨#[101, 114, 114, 111, 114]⟩ [(.mk 3 0 ⟨#[114, 101, 112, 114, 101, 115, 101, 110, 116, 97, 116, 105, 111, 110, 95, 101, 114, 114, 111, 114]⟩ [(.mk 2 0 ⟨#[99, 104, 97, 114, 97, 99, 116, 101, 114, 95, 99, 111, 100, 101]⟩ [])]), (.mk 2 0 ⟨#[91, 93]⟩ [])]) := by rfl
  try rw [hT0] at he
  try rw [hT0] at hy
  obtain ⟨ma12, mc12, rfl⟩ : ∃ a c, y = .slice a 2 c := hy.slice
  obtain rfl : e = .returned (pv 3 0 ⟨#[101, 114, 114, 111, 114]⟩ (.slice ma12 2 mc12)) := he
  have hyl := hy
  have E1025 := Lib.hid ((E1024.out.step hb1025).pushT hyl)
  clear hb1025 E1024
  clear hy hyl hT0
  have h5 := E1025.out.b
  refine ⟨_, rfl, HS.out _ h5, ?_⟩
  dsimp only [List.set_cons_succ, List.set_cons_zero]
  clear hHeld
  have hHeld := HS.out _ h5
  refine WpSeq.callF (by kernel_rfl) runs_lsame_is (by kernel_rfl) ((lsame_is (.mk 3 0 ⟨#[101, 114, 114, 111, 114]⟩ [(.mk 3 0 ⟨#[114, 101, 112, 114, 101, 115, 101, 110, 116, 97, 116, 105, 111, 110, 95, 101, 114, 114, 111, 114]⟩ [(.mk 2 0 ⟨#[99, 104, 97, 114, 97, 99, 116, 101, 114, 95, 99, 111, 100, 101]⟩ [])]), (.mk 2 0 ⟨#[91, 93]⟩ [])]) (.mk 3 0 ⟨#[101, 114, 114, 111, 114]⟩ [(.mk 3 0 ⟨#[114, 101, 112, 114, 101, 115, 101, 110, 116, 97, 116, 105, 111, 110, 95, 101, 114, 114, 111, 114]⟩ [(.mk 2 0 ⟨#[99, 104, 97, 114, 97, 99, 116, 101, 114, 95, 99, 111, 100, 101]⟩ [])]), (.mk 2 0 ⟨#[91, 93]⟩ [])]) true (by rfl) _ _ _ (LiesT.below Bd.out E1025.out.b) E1025.out.t.hd).mono ?_)
  try clear h5
  rintro e w1026 ⟨rfl, hb1026⟩
  have E1026 := Lib.hid (Env.bare (E1025.out.step hb1026))
  clear hb1026 E1025
  have h5 := E1026.out.b
  refine ⟨_, rfl, HS.out _ h5, ?_⟩
  dsimp only [List.set_cons_succ, List.set_cons_zero]
  clear hHeld
  have hHeld := HS.out _ h5
  refine WpSeq.take (by kernel_rfl) (fun _ _ => rfl) (by assumption) ?_
  dsimp only [List.set_cons_succ, List.set_cons_zero]
  refine WpSeq.take (by kernel_rfl) (fun _ _ => rfl) (by assumption) ?_
  dsimp only [List.set_cons_succ, List.set_cons_zero]
  refine WpSeq.take (by kernel_rfl) (fun _ _ => rfl) (by assumption) ?_
  dsimp only [List.set_cons_succ, List.set_cons_zero]
  refine WpSeq.take (by kernel_rfl) (fun _ _ => rfl) (by assumption) ?_
  dsimp only [List.set_cons_succ, List.set_cons_zero]
  refine WpSeq.take (by kernel_rfl) (fun _ _ => rfl) (by assumption) ?_
  dsimp only [List.set_cons_succ, List.set_cons_zero]
  refine WpSeq.take (by kernel_rfl) (fun _ _ => rfl) (by assumption) ?_
  dsimp only [List.set_cons_succ, List.set_cons_zero]
  refine WpSeq.take (v := ?_) (by kernel_rfl) ?_ (by assumption) ?_
  rotate_left
  · (intro w hSw; (try dsimp only at hSw); go_simp; try with_reducible rfl)
  dsimp only [List.set_cons_succ, List.set_cons_zero]
  refine WpSeq.callF (by kernel_rfl) runs_a_any (by kernel_rfl) ((a_any ⟨#[105, 110, 115, 116, 97, 110, 116, 105, 97, 116, 105, 111, 110, 95, 101, 114, 114, 111, 114]⟩ _).mono ?_)
  try clear h5
  rintro e w1027 ⟨rfl, hb1027⟩
  have E1027 := Lib.hid ((E1026.out.step hb1027).pushT (atom_lies (nm := ⟨#[105, 110, 115, 116, 97, 110, 116, 105, 97, 116, 105, 111, 110, 95, 101, 114, 114, 111, 114]⟩) (by simp [ByteArray.size])))
  clear hb1027 E1026
  have h5 := E1027.out.b
  refine ⟨_, rfl, HS.out _ h5, ?_⟩
  dsimp only [List.set_cons_succ, List.set_cons_zero]
  clear hHeld
  have hHeld := HS.out _ h5
  refine WpSeq.callF (by kernel_rfl) runs_error1_any (by kernel_rfl) ((error1_any (.mk 2 0 ⟨#[105, 110, 115, 116, 97, 110, 116, 105, 97, 116, 105, 111, 110, 95, 101, 114, 114, 111, 114]⟩ []) _ _ E1027.out.t.hd).mono ?_)
  try clear h5
  rintro e w1028 ⟨y, he, hy, hb1028⟩
  have hT0 : errT (.mk 2 0 ⟨#[105, 110, 115, 116, 97, 110, 116, 105, 97, 116, 105, 111, 110, 95, 101, 114, 114, 111, 114]⟩ []) = (.mk 3 0 ⟨#[101, 114, 114, 111, 114]⟩ [(.mk 2 0 ⟨#[105, 110, 115, 116, 97, 110, 116, 105, 97, 116, 105, 111, 110, 95, 101, 114, 114, 111, 114]⟩ []), (.mk 2 0 ⟨#[91, 93]⟩ [])]) := by rfl
  try rw [hT0] at he
  try rw [hT0] at hy
  obtain ⟨ma13, mc13, rfl⟩ : ∃ a c, y = .slice a 2 c := hy.slice
  obtain rfl : e = .returned (pv 3 0 ⟨#[101, 114, 114, 111, 114]⟩ (.slice ma13 2 mc13)) := he
  have hyl := hy
  have E1028 := Lib.hid ((E1027.out.step hb1028).pushT hyl)
  clear hb1028 E1027
  clear hy hyl hT0
  have h5 := E1028.out.b
  refine ⟨_, rfl, HS.out _ h5, ?_⟩
  dsimp only [List.set_cons_succ, List.set_cons_zero]
  clear hHeld
  have hHeld := HS.out _ h5
  refine WpSeq.callF (by kernel_rfl) runs_lsame_is (by kernel_rfl) ((lsame_is (.mk 3 0 ⟨#[101, 114, 114, 111, 114]⟩ [(.mk 2 0 ⟨#[105, 110, 115, 116, 97, 110, 116, 105, 97, 116, 105, 111, 110, 95, 101, 114, 114, 111, 114]⟩ []), (.mk 2 0 ⟨#[91, 93]⟩ [])]) (.mk 3 0 ⟨#[101, 114, 114, 111, 114]⟩ [(.mk 2 0 ⟨#[105, 110, 115, 116, 97, 110, 116, 105, 97, 116, 105, 111, 110, 95, 101, 114, 114, 111, 114]⟩ []), (.mk 2 0 ⟨#[91, 93]⟩ [])]) true (by rfl) _ _ _ (LiesT.below Be.out E1028.out.b) E1028.out.t.hd).mono ?_)
  try clear h5
  rintro e w1029 ⟨rfl, hb1029⟩
  have E1029 := Lib.hid (Env.bare (E1028.out.step hb1029))
  clear hb1029 E1028
  have h5 := E1029.out.b
  refine ⟨_, rfl, HS.out _ h5, ?_⟩
  dsimp only [List.set_cons_succ, List.set_cons_zero]
  clear hHeld
  have hHeld := HS.out _ h5
  refine WpSeq.take (by kernel_rfl) (fun _ _ => rfl) (by assumption) ?_
  dsimp only [List.set_cons_succ, List.set_cons_zero]
  refine WpSeq.take (by kernel_rfl) (fun _ _ => rfl) (by assumption) ?_
  dsimp only [List.set_cons_succ, List.set_cons_zero]
  refine WpSeq.take (by kernel_rfl) (fun _ _ => rfl) (by assumption) ?_
  dsimp only [List.set_cons_succ, List.set_cons_zero]
  refine WpSeq.take (by kernel_rfl) (fun _ _ => rfl) (by assumption) ?_
  dsimp only [List.set_cons_succ, List.set_cons_zero]
  refine WpSeq.take (by kernel_rfl) (fun _ _ => rfl) (by assumption) ?_
  dsimp only [List.set_cons_succ, List.set_cons_zero]
  refine WpSeq.take (by kernel_rfl) (fun _ _ => rfl) (by assumption) ?_
  dsimp only [List.set_cons_succ, List.set_cons_zero]
  refine WpSeq.take (by kernel_rfl) (fun _ _ => rfl) (by assumption) ?_
  dsimp only [List.set_cons_succ, List.set_cons_zero]
  refine WpSeq.take (v := .bool true) (by kernel_rfl) (fun _ _ => by kernel_rfl) (by assumption) ?_
  dsimp only [List.set_cons_succ, List.set_cons_zero]
  refine WpSeq.take (by kernel_rfl) (fun _ _ => rfl) (by assumption) ?_
  dsimp only [List.set_cons_succ, List.set_cons_zero]
  refine WpSeq.take (by kernel_rfl) (fun _ _ => rfl) (by assumption) ?_
  dsimp only [List.set_cons_succ, List.set_cons_zero]
  refine WpSeq.take (by kernel_rfl) (fun _ _ => rfl) (by assumption) ?_
  dsimp only [List.set_cons_succ, List.set_cons_zero]
  refine WpSeq.take (by kernel_rfl) (fun _ _ => rfl) (by assumption) ?_
  dsimp only [List.set_cons_succ, List.set_cons_zero]
  refine WpSeq.take (by kernel_rfl) (fun _ _ => rfl) (by assumption) ?_
  dsimp only [List.set_cons_succ, List.set_cons_zero]
  refine WpSeq.take (by kernel_rfl) (fun _ _ => rfl) (by assumption) ?_
  dsimp only [List.set_cons_succ, List.set_cons_zero]
  refine WpSeq.take (v := ?_) (by kernel_rfl) ?_ (by assumption) ?_
  rotate_left
  · (intro w hSw; (try dsimp only at hSw); go_simp; try with_reducible rfl)
  dsimp only [List.set_cons_succ, List.set_cons_zero]
  refine WpSeq.callF (by kernel_rfl) runs_x_any (by kernel_rfl) ((x_any 0 _).mono ?_)
  try clear h5
  rintro e w1030 ⟨rfl, hb1030⟩
  have E1030 := Lib.hid ((E1029.out.step hb1030).pushT (vr_lies (n := 0) ⟨by omega, by omega⟩))
  clear hb1030 E1029
  have h5 := E1030.out.b
  refine ⟨_, rfl, HS.out _ h5, ?_⟩
  dsimp only [List.set_cons_succ, List.set_cons_zero]
  clear hHeld
  have hHeld := HS.out _ h5
  refine WpSeq.callF (by kernel_rfl) runs_lsame_is (by kernel_rfl) ((lsame_is z0 (vr 0) true (by rfl) _ _ _ (LiesT.below Bh.out E1030.out.b) E1030.out.t.hd).mono ?_)
  try clear h5
  rintro e w1031 ⟨rfl, hb1031⟩
  have E1031 := Lib.hid (Env.bare (E1030.out.step hb1031))
  clear hb1031 E1030
  have h5 := E1031.out.b
  refine ⟨_, rfl, HS.out _ h5, ?_⟩
  dsimp only [List.set_cons_succ, List.set_cons_zero]
  clear hHeld
  have hHeld := HS.out _ h5
  refine WpSeq.take (by kernel_rfl) (fun _ _ => rfl) (by assumption) ?_
  dsimp only [List.set_cons_succ, List.set_cons_zero]
  refine WpSeq.take (by kernel_rfl) (fun _ _ => rfl) (by assumption) ?_
  dsimp only [List.set_cons_succ, List.set_cons_zero]
  refine WpSeq.take (by kernel_rfl) (fun _ _ => rfl) (by assumption) ?_
  dsimp only [List.set_cons_succ, List.set_cons_zero]
  refine WpSeq.take (by kernel_rfl) (fun _ _ => rfl) (by assumption) ?_
  dsimp only [List.set_cons_succ, List.set_cons_zero]
  refine WpSeq.take (by kernel_rfl) (fun _ _ => rfl) (by assumption) ?_
  dsimp only [List.set_cons_succ, List.set_cons_zero]
  refine WpSeq.done ?_
  refine NoPanic.normal ?_
  go_wp2_with fail
  go_ret
  exact ⟨rfl, EB.out.trans (E1031.out.b.mono EB.out.size)⟩

end Go.Proofs.Yteilodihjhdngaa
