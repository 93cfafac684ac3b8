/- The examples of the chapter (awake). -/
import Derived.Test.YtehnhjhflaljhaaDoorKC
import Derived.Deep.DeepCutAuto
namespace Go.Proofs.YtehnhjhflaljhaaDoor
open Go.RowKit Go.Proofs.HT



set_option maxRecDepth 100000 in
set_option maxHeartbeats 100000000 in
theorem awake_any (w : World) (hp : Places w) : Calls Tryd.prog 14 #[] w fun e w' => e = .returned (.bool true) ∧ Below w.heap.size w w' := by
  have HP := Lib.hid hp
  clear hp
  go_enter Tryd.func14, Tryd.ntmps14
  have E0 := Lib.hid (Env.start w)
  go_wp2_with fail
  refine (a_any _ _).mono ?_
  rintro e w1 ⟨rfl, hb1⟩
  have E1 := Lib.hid ((E0.out.step hb1).pushT (atom_lies (nm := ⟨#[99]⟩) (by simp [ByteArray.size])))
  clear hb1 E0
  go_wp2_with fail
  refine (n_any 1 _).mono ?_
  rintro e w2 ⟨rfl, hb2⟩
  have E2 := Lib.hid ((E1.out.step hb2).pushT (int_lies (n := 1) ⟨by omega, by omega⟩))
  clear hb2 E1
  go_wp2_with fail
  refine (a_any _ _).mono ?_
  rintro e w3 ⟨rfl, hb3⟩
  have E3 := Lib.hid ((E2.out.step hb3).pushT (atom_lies (nm := ⟨#[98]⟩) (by simp [ByteArray.size])))
  clear hb3 E2
  go_wp2_with fail
  refine (n_any 1 _).mono ?_
  rintro e w4 ⟨rfl, hb4⟩
  have E4 := Lib.hid ((E3.out.step hb4).pushT (int_lies (n := 1) ⟨by omega, by omega⟩))
  clear hb4 E3
  go_wp2_with fail
  refine (Sort_small w4.heap.size 0 4 4 [((.mk 2 0 ⟨#[99]⟩ []), .slice none 0 0), ((.mk 1 1 ⟨#[]⟩ []), .slice none 0 0), ((.mk 2 0 ⟨#[98]⟩ []), .slice none 0 0), ((.mk 1 1 ⟨#[]⟩ []), .slice none 0 0)] _ [(.mk 1 1 ⟨#[]⟩ []), (.mk 2 0 ⟨#[98]⟩ []), (.mk 2 0 ⟨#[99]⟩ [])] (by kernel_rfl) (by rfl) rfl (by omega) (by omega) (by omega) (row_new _ [((.mk 2 0 ⟨#[99]⟩ []), .slice none 0 0), ((.mk 1 1 ⟨#[]⟩ []), .slice none 0 0), ((.mk 2 0 ⟨#[98]⟩ []), .slice none 0 0), ((.mk 1 1 ⟨#[]⟩ []), .slice none 0 0)] _ (by rfl)) (env_mem (by simp only [EnvT]; exact ⟨(E4.out.alloc _).t.tl.tl.tl.hd, ⟨(E4.out.alloc _).t.tl.tl.hd, ⟨(E4.out.alloc _).t.tl.hd, ⟨(E4.out.alloc _).t.hd, trivial⟩⟩⟩⟩)) (HP.out.below (E4.out.alloc _).b)).mono ?_
  intro e w5 hcp5
  obtain ⟨lg5, rfl, hlt5, hb5⟩ := list_of_copy hcp5 (by simp)
  have E5 := Lib.hid (((E4.out.alloc _).step hb5).pushT hlt5)
  clear hb5 E4
  clear hcp5 hlt5
  go_wp2_with fail
  refine (a_any _ _).mono ?_
  rintro e w6 ⟨rfl, hb6⟩
  have E6 := Lib.hid ((E5.out.step hb6).pushT (atom_lies (nm := ⟨#[99]⟩) (by simp [ByteArray.size])))
  clear hb6 E5
  go_wp2_with fail
  refine (n_any 1 _).mono ?_
  rintro e w7 ⟨rfl, hb7⟩
  have E7 := Lib.hid ((E6.out.step hb7).pushT (int_lies (n := 1) ⟨by omega, by omega⟩))
  clear hb7 E6
  go_wp2_with fail
  refine (a_any _ _).mono ?_
  rintro e w8 ⟨rfl, hb8⟩
  have E8 := Lib.hid ((E7.out.step hb8).pushT (atom_lies (nm := ⟨#[98]⟩) (by simp [ByteArray.size])))
  clear hb8 E7
  go_wp2_with fail
  refine (n_any 1 _).mono ?_
  rintro e w9 ⟨rfl, hb9⟩
  have E9 := Lib.hid ((E8.out.step hb9).pushT (int_lies (n := 1) ⟨by omega, by omega⟩))
  clear hb9 E8
  go_wp2_with fail
  refine (Stable_small w9.heap.size 0 4 4 [((.mk 2 0 ⟨#[99]⟩ []), .slice none 0 0), ((.mk 1 1 ⟨#[]⟩ []), .slice none 0 0), ((.mk 2 0 ⟨#[98]⟩ []), .slice none 0 0), ((.mk 1 1 ⟨#[]⟩ []), .slice none 0 0)] _ [(.mk 1 1 ⟨#[]⟩ []), (.mk 1 1 ⟨#[]⟩ []), (.mk 2 0 ⟨#[98]⟩ []), (.mk 2 0 ⟨#[99]⟩ [])] (by kernel_rfl) (by rfl) rfl (by omega) (by omega) (by omega) (row_new _ [((.mk 2 0 ⟨#[99]⟩ []), .slice none 0 0), ((.mk 1 1 ⟨#[]⟩ []), .slice none 0 0), ((.mk 2 0 ⟨#[98]⟩ []), .slice none 0 0), ((.mk 1 1 ⟨#[]⟩ []), .slice none 0 0)] _ (by rfl)) (env_mem (by simp only [EnvT]; exact ⟨(E9.out.alloc _).t.tl.tl.tl.hd, ⟨(E9.out.alloc _).t.tl.tl.hd, ⟨(E9.out.alloc _).t.tl.hd, ⟨(E9.out.alloc _).t.hd, trivial⟩⟩⟩⟩)) (HP.out.below (E9.out.alloc _).b)).mono ?_
  intro e w10 hcp10
  obtain ⟨lg10, rfl, hlt10, hb10⟩ := list_of_copy hcp10 (by simp)
  have E10 := Lib.hid (((E9.out.alloc _).step hb10).pushT hlt10)
  clear hb10 E9
  clear hcp10 hlt10
  go_wp2_with fail
  refine (a_any _ _).mono ?_
  rintro e w11 ⟨rfl, hb11⟩
  have E11 := Lib.hid ((E10.out.step hb11).pushT (atom_lies (nm := ⟨#[98]⟩) (by simp [ByteArray.size])))
  clear hb11 E10
  go_wp2_with fail
  refine (n_any 1 _).mono ?_
  rintro e w12 ⟨rfl, hb12⟩
  have E12 := Lib.hid ((E11.out.step hb12).pushT (int_lies (n := 1) ⟨by omega, by omega⟩))
  clear hb12 E11
  have lz13 := Lib.hid (lies_new (g := w12.heap.size) (ty := 24) rfl [((.mk 2 0 ⟨#[98]⟩ []), .slice none 0 0), ((.mk 1 1 ⟨#[]⟩ []), .slice none 0 0)] (by simp only [EnvT]; exact ⟨E12.out.t.tl.hd, ⟨E12.out.t.hd, trivial⟩⟩) (by simp))
  go_wp2_with fail
  refine (f_any _ _ _ _ _).mono ?_
  rintro e w13 ⟨rfl, hb13⟩
  have E13 := Lib.hid (((E12.out.alloc _).step hb13).pushT (LiesT.below (struct_lies (nm := ⟨#[45]⟩) (by simp [ByteArray.size]) lz13.out) hb13))
  clear hb13 E12
  clear lz13
  go_wp2_with fail
  refine (a_any _ _).mono ?_
  rintro e w14 ⟨rfl, hb14⟩
  have E14 := Lib.hid ((E13.out.step hb14).pushT (atom_lies (nm := ⟨#[97]⟩) (by simp [ByteArray.size])))
  clear hb14 E13
  go_wp2_with fail
  refine (n_any 2 _).mono ?_
  rintro e w15 ⟨rfl, hb15⟩
  have E15 := Lib.hid ((E14.out.step hb15).pushT (int_lies (n := 2) ⟨by omega, by omega⟩))
  clear hb15 E14
  have lz16 := Lib.hid (lies_new (g := w15.heap.size) (ty := 24) rfl [((.mk 2 0 ⟨#[97]⟩ []), .slice none 0 0), ((.mk 1 2 ⟨#[]⟩ []), .slice none 0 0)] (by simp only [EnvT]; exact ⟨E15.out.t.tl.hd, ⟨E15.out.t.hd, trivial⟩⟩) (by simp))
  go_wp2_with fail
  refine (f_any _ _ _ _ _).mono ?_
  rintro e w16 ⟨rfl, hb16⟩
  have E16 := Lib.hid (((E15.out.alloc _).step hb16).pushT (LiesT.below (struct_lies (nm := ⟨#[45]⟩) (by simp [ByteArray.size]) lz16.out) hb16))
  clear hb16 E15
  clear lz16
  go_wp2_with fail
  refine (a_any _ _).mono ?_
  rintro e w17 ⟨rfl, hb17⟩
  have E17 := Lib.hid ((E16.out.step hb17).pushT (atom_lies (nm := ⟨#[98]⟩) (by simp [ByteArray.size])))
  clear hb17 E16
  go_wp2_with fail
  refine (n_any 0 _).mono ?_
  rintro e w18 ⟨rfl, hb18⟩
  have E18 := Lib.hid ((E17.out.step hb18).pushT (int_lies (n := 0) ⟨by omega, by omega⟩))
  clear hb18 E17
  have lz19 := Lib.hid (lies_new (g := w18.heap.size) (ty := 24) rfl [((.mk 2 0 ⟨#[98]⟩ []), .slice none 0 0), ((.mk 1 0 ⟨#[]⟩ []), .slice none 0 0)] (by simp only [EnvT]; exact ⟨E18.out.t.tl.hd, ⟨E18.out.t.hd, trivial⟩⟩) (by simp))
  go_wp2_with fail
  refine (f_any _ _ _ _ _).mono ?_
  rintro e w19 ⟨rfl, hb19⟩
  have E19 := Lib.hid (((E18.out.alloc _).step hb19).pushT (LiesT.below (struct_lies (nm := ⟨#[45]⟩) (by simp [ByteArray.size]) lz19.out) hb19))
  clear hb19 E18
  clear lz19
  go_wp2_with fail
  refine (Keys_small w19.heap.size 0 3 3 [((.mk 3 0 ⟨#[45]⟩ [(.mk 2 0 ⟨#[98]⟩ []), (.mk 1 1 ⟨#[]⟩ [])]), .slice (some ⟨w12.heap.size, 0, none⟩) 2 2), ((.mk 3 0 ⟨#[45]⟩ [(.mk 2 0 ⟨#[97]⟩ []), (.mk 1 2 ⟨#[]⟩ [])]), .slice (some ⟨w15.heap.size, 0, none⟩) 2 2), ((.mk 3 0 ⟨#[45]⟩ [(.mk 2 0 ⟨#[98]⟩ []), (.mk 1 0 ⟨#[]⟩ [])]), .slice (some ⟨w18.heap.size, 0, none⟩) 2 2)] _ [(.mk 3 0 ⟨#[45]⟩ [(.mk 2 0 ⟨#[97]⟩ []), (.mk 1 2 ⟨#[]⟩ [])]), (.mk 3 0 ⟨#[45]⟩ [(.mk 2 0 ⟨#[98]⟩ []), (.mk 1 1 ⟨#[]⟩ [])]), (.mk 3 0 ⟨#[45]⟩ [(.mk 2 0 ⟨#[98]⟩ []), (.mk 1 0 ⟨#[]⟩ [])])] (by kernel_rfl) (by rfl) (by rfl) rfl (by omega) (by omega) (by omega) (row_new _ [((.mk 3 0 ⟨#[45]⟩ [(.mk 2 0 ⟨#[98]⟩ []), (.mk 1 1 ⟨#[]⟩ [])]), .slice (some ⟨w12.heap.size, 0, none⟩) 2 2), ((.mk 3 0 ⟨#[45]⟩ [(.mk 2 0 ⟨#[97]⟩ []), (.mk 1 2 ⟨#[]⟩ [])]), .slice (some ⟨w15.heap.size, 0, none⟩) 2 2), ((.mk 3 0 ⟨#[45]⟩ [(.mk 2 0 ⟨#[98]⟩ []), (.mk 1 0 ⟨#[]⟩ [])]), .slice (some ⟨w18.heap.size, 0, none⟩) 2 2)] _ (by rfl)) (env_mem (by simp only [EnvT]; exact ⟨(E19.out.alloc _).t.tl.tl.tl.tl.tl.tl.hd, ⟨(E19.out.alloc _).t.tl.tl.tl.hd, ⟨(E19.out.alloc _).t.hd, trivial⟩⟩⟩)) (HP.out.below (E19.out.alloc _).b)).mono ?_
  intro e w20 hcp20
  obtain ⟨lg20, rfl, hlt20, hb20⟩ := list_of_copy hcp20 (by simp)
  have E20 := Lib.hid (((E19.out.alloc _).step hb20).pushT hlt20)
  clear hb20 E19
  clear hcp20 hlt20
  go_wp2_with fail
  refine (a_any _ _).mono ?_
  rintro e w21 ⟨rfl, hb21⟩
  have E21 := Lib.hid ((E20.out.step hb21).pushT (atom_lies (nm := ⟨#[97]⟩) (by simp [ByteArray.size])))
  clear hb21 E20
  go_wp2_with fail
  refine (a_any _ _).mono ?_
  rintro e w22 ⟨rfl, hb22⟩
  have E22 := Lib.hid ((E21.out.step hb22).pushT (atom_lies (nm := ⟨#[99]⟩) (by simp [ByteArray.size])))
  clear hb22 E21
  go_wp2_with fail
  refine (a_any _ _).mono ?_
  rintro e w23 ⟨rfl, hb23⟩
  have rz := Lib.hid (RowIn.below (row_new (w := w22) _ [((.mk 2 0 ⟨#[97]⟩ []), .slice none 0 0), ((.mk 2 0 ⟨#[99]⟩ []), .slice none 0 0)] 24 rfl : RowIn (w22.alloc (.cells (flat [((.mk 2 0 ⟨#[97]⟩ []), .slice none 0 0), ((.mk 2 0 ⟨#[99]⟩ []), .slice none 0 0)]).toArray 24)) w22.heap.size 0 [((.mk 2 0 ⟨#[97]⟩ []), .slice none 0 0), ((.mk 2 0 ⟨#[99]⟩ []), .slice none 0 0)]) hb23)
  have E23 := Lib.hid (((E22.out.alloc _).step hb23).pushT (atom_lies (nm := ⟨#[98]⟩) (by simp [ByteArray.size])))
  clear hb23 E22
  go_wp2_with fail
  refine (Rank_small w22.heap.size 0 2 2 [((.mk 2 0 ⟨#[97]⟩ []), .slice none 0 0), ((.mk 2 0 ⟨#[99]⟩ []), .slice none 0 0)] (.mk 2 0 ⟨#[98]⟩ []) (.slice none 0 0) _ 1 false bs_ac (by rfl) (by rfl) (by kernel_rfl) rfl (by omega) (by omega) rz.out (env_mem (by simp only [EnvT]; exact ⟨E23.out.t.tl.tl.hd, ⟨E23.out.t.tl.hd, trivial⟩⟩)) (HP.out.below E23.out.b) E23.out.t.hd).mono ?_
  rintro e w24 ⟨rfl, hb24⟩
  have E24 := Lib.hid (E23.out.step hb24)
  clear hb24 E23
  clear rz
  go_wp2_with fail
  refine (x_any 5 _).mono ?_
  rintro e w25 ⟨rfl, hb25⟩
  have E25 := Lib.hid ((E24.out.step hb25).pushT (vr_lies (n := 5) ⟨by omega, by omega⟩))
  clear hb25 E24
  go_wp2_with fail
  refine (n_any 3 _).mono ?_
  rintro e w26 ⟨rfl, hb26⟩
  have E26 := Lib.hid ((E25.out.step hb26).pushT (int_lies (n := 3) ⟨by omega, by omega⟩))
  clear hb26 E25
  go_wp2_with fail
  refine (Cmp_is (vr 5) (.mk 1 3 ⟨#[]⟩ []) (-1) (by kernel_rfl) _ _ _ E26.out.t.tl.hd E26.out.t.hd (HP.out.below E26.out.b)).mono ?_
  rintro e w27 ⟨rfl, hb27⟩
  have E27 := Lib.hid (E26.out.step hb27)
  clear hb27 E26
  go_wp2_with fail
  refine (n_any 3 _).mono ?_
  rintro e w28 ⟨rfl, hb28⟩
  have E28 := Lib.hid ((E27.out.step hb28).pushT (int_lies (n := 3) ⟨by omega, by omega⟩))
  clear hb28 E27
  go_wp2_with fail
  refine (a_any _ _).mono ?_
  rintro e w29 ⟨rfl, hb29⟩
  have E29 := Lib.hid ((E28.out.step hb29).pushT (atom_lies (nm := ⟨#[97]⟩) (by simp [ByteArray.size])))
  clear hb29 E28
  go_wp2_with fail
  refine (Cmp_is (.mk 1 3 ⟨#[]⟩ []) (.mk 2 0 ⟨#[97]⟩ []) (-1) (by kernel_rfl) _ _ _ E29.out.t.tl.hd E29.out.t.hd (HP.out.below E29.out.b)).mono ?_
  rintro e w30 ⟨rfl, hb30⟩
  have E30 := Lib.hid (E29.out.step hb30)
  clear hb30 E29
  go_wp2_with fail
  refine (a_any _ _).mono ?_
  rintro e w31 ⟨rfl, hb31⟩
  have E31 := Lib.hid ((E30.out.step hb31).pushT (atom_lies (nm := ⟨#[122, 122, 122]⟩) (by simp [ByteArray.size])))
  clear hb31 E30
  go_wp2_with fail
  refine (a_any _ _).mono ?_
  rintro e w32 ⟨rfl, hb32⟩
  have E32 := Lib.hid ((E31.out.step hb32).pushT (atom_lies (nm := ⟨#[97]⟩) (by simp [ByteArray.size])))
  clear hb32 E31
  have lz33 := Lib.hid (lies_new (g := w32.heap.size) (ty := 24) rfl [((.mk 2 0 ⟨#[97]⟩ []), .slice none 0 0)] (by simp only [EnvT]; exact ⟨E32.out.t.hd, trivial⟩) (by simp))
  go_wp2_with fail
  refine (f_any _ _ _ _ _).mono ?_
  rintro e w33 ⟨rfl, hb33⟩
  have E33 := Lib.hid (((E32.out.alloc _).step hb33).pushT (LiesT.below (struct_lies (nm := ⟨#[102]⟩) (by simp [ByteArray.size]) lz33.out) hb33))
  clear hb33 E32
  clear lz33
  go_wp2_with fail
  refine (Cmp_is (.mk 2 0 ⟨#[122, 122, 122]⟩ []) (.mk 3 0 ⟨#[102]⟩ [(.mk 2 0 ⟨#[97]⟩ [])]) (-1) (by kernel_rfl) _ _ _ E33.out.t.tl.tl.hd E33.out.t.hd (HP.out.below E33.out.b)).mono ?_
  rintro e w34 ⟨rfl, hb34⟩
  have E34 := Lib.hid (E33.out.step hb34)
  clear hb34 E33
  go_wp2_with fail
  refine (a_any _ _).mono ?_
  rintro e w35 ⟨rfl, hb35⟩
  have E35 := Lib.hid ((E34.out.step hb35).pushT (atom_lies (nm := ⟨#[98]⟩) (by simp [ByteArray.size])))
  clear hb35 E34
  go_wp2_with fail
  refine (a_any _ _).mono ?_
  rintro e w36 ⟨rfl, hb36⟩
  have E36 := Lib.hid ((E35.out.step hb36).pushT (atom_lies (nm := ⟨#[97]⟩) (by simp [ByteArray.size])))
  clear hb36 E35
  have lz37 := Lib.hid (lies_new (g := w36.heap.size) (ty := 24) rfl [((.mk 2 0 ⟨#[98]⟩ []), .slice none 0 0), ((.mk 2 0 ⟨#[97]⟩ []), .slice none 0 0)] (by simp only [EnvT]; exact ⟨E36.out.t.tl.hd, ⟨E36.out.t.hd, trivial⟩⟩) (by simp))
  go_wp2_with fail
  refine (f_any _ _ _ _ _).mono ?_
  rintro e w37 ⟨rfl, hb37⟩
  have E37 := Lib.hid (((E36.out.alloc _).step hb37).pushT (LiesT.below (struct_lies (nm := ⟨#[102]⟩) (by simp [ByteArray.size]) lz37.out) hb37))
  clear hb37 E36
  clear lz37
  go_wp2_with fail
  refine (a_any _ _).mono ?_
  rintro e w38 ⟨rfl, hb38⟩
  have E38 := Lib.hid ((E37.out.step hb38).pushT (atom_lies (nm := ⟨#[97]⟩) (by simp [ByteArray.size])))
  clear hb38 E37
  have lz39 := Lib.hid (lies_new (g := w38.heap.size) (ty := 24) rfl [((.mk 2 0 ⟨#[97]⟩ []), .slice none 0 0)] (by simp only [EnvT]; exact ⟨E38.out.t.hd, trivial⟩) (by simp))
  go_wp2_with fail
  refine (f_any _ _ _ _ _).mono ?_
  rintro e w39 ⟨rfl, hb39⟩
  have E39 := Lib.hid (((E38.out.alloc _).step hb39).pushT (LiesT.below (struct_lies (nm := ⟨#[103]⟩) (by simp [ByteArray.size]) lz39.out) hb39))
  clear hb39 E38
  clear lz39
  go_wp2_with fail
  refine (Cmp_is (.mk 3 0 ⟨#[102]⟩ [(.mk 2 0 ⟨#[98]⟩ []), (.mk 2 0 ⟨#[97]⟩ [])]) (.mk 3 0 ⟨#[103]⟩ [(.mk 2 0 ⟨#[97]⟩ [])]) 1 (by kernel_rfl) _ _ _ E39.out.t.tl.tl.hd E39.out.t.hd (HP.out.below E39.out.b)).mono ?_
  rintro e w40 ⟨rfl, hb40⟩
  have E40 := Lib.hid (E39.out.step hb40)
  clear hb40 E39
  go_wp2_with fail
  refine (a_any _ _).mono ?_
  rintro e w41 ⟨rfl, hb41⟩
  have E41 := Lib.hid ((E40.out.step hb41).pushT (atom_lies (nm := ⟨#[97, 98]⟩) (by simp [ByteArray.size])))
  clear hb41 E40
  go_wp2_with fail
  refine (a_any _ _).mono ?_
  rintro e w42 ⟨rfl, hb42⟩
  have E42 := Lib.hid ((E41.out.step hb42).pushT (atom_lies (nm := ⟨#[97]⟩) (by simp [ByteArray.size])))
  clear hb42 E41
  go_wp2_with fail
  refine (Cmp_is (.mk 2 0 ⟨#[97, 98]⟩ []) (.mk 2 0 ⟨#[97]⟩ []) 1 (by kernel_rfl) _ _ _ E42.out.t.tl.hd E42.out.t.hd (HP.out.below E42.out.b)).mono ?_
  rintro e w43 ⟨rfl, hb43⟩
  have E43 := Lib.hid (E42.out.step hb43)
  clear hb43 E42
  go_wp2_with fail
  refine (n_any 1 _).mono ?_
  rintro e w44 ⟨rfl, hb44⟩
  have E44 := Lib.hid ((E43.out.step hb44).pushT (int_lies (n := 1) ⟨by omega, by omega⟩))
  clear hb44 E43
  go_wp2_with fail
  refine (a_any _ _).mono ?_
  rintro e w45 ⟨rfl, hb45⟩
  have E45 := Lib.hid ((E44.out.step hb45).pushT (atom_lies (nm := ⟨#[98]⟩) (by simp [ByteArray.size])))
  clear hb45 E44
  go_wp2_with fail
  refine (a_any _ _).mono ?_
  rintro e w46 ⟨rfl, hb46⟩
  have E46 := Lib.hid ((E45.out.step hb46).pushT (atom_lies (nm := ⟨#[99]⟩) (by simp [ByteArray.size])))
  clear hb46 E45
  have ly1 := Lib.hid (lies_new (g := w46.heap.size) (ty := 24) rfl [((.mk 1 1 ⟨#[]⟩ []), .slice none 0 0), ((.mk 2 0 ⟨#[98]⟩ []), .slice none 0 0), ((.mk 2 0 ⟨#[99]⟩ []), .slice none 0 0)] (by simp only [EnvT]; exact ⟨E46.out.t.tl.tl.hd, ⟨E46.out.t.tl.hd, ⟨E46.out.t.hd, trivial⟩⟩⟩) (by simp))
  go_wp2_with fail
  refine (sall_T [(.mk 1 1 ⟨#[]⟩ []), (.mk 2 0 ⟨#[98]⟩ []), (.mk 2 0 ⟨#[99]⟩ [])] [(.mk 1 1 ⟨#[]⟩ []), (.mk 2 0 ⟨#[98]⟩ []), (.mk 2 0 ⟨#[99]⟩ [])] true (by kernel_rfl) _ _ _ _ _ (by simp) ((E46.out.alloc _).pushT ly1.out).t.tl.tl.tl.tl.tl.tl.tl.tl.tl.tl.tl.tl.tl.tl.tl.tl.tl.tl.tl.tl.tl.tl.tl.tl.tl.tl.tl.tl.tl.tl.tl.tl.tl.tl.tl.tl.hd ((E46.out.alloc _).pushT ly1.out).t.hd).mono ?_
  rintro e w47 ⟨rfl, hb47⟩
  have E47 := Lib.hid (((E46.out.alloc _).pushT ly1.out).step hb47)
  clear hb47 E46
  go_wp2_with fail
  refine (n_any 1 _).mono ?_
  rintro e w48 ⟨rfl, hb48⟩
  have E48 := Lib.hid ((E47.out.step hb48).pushT (int_lies (n := 1) ⟨by omega, by omega⟩))
  clear hb48 E47
  go_wp2_with fail
  refine (n_any 1 _).mono ?_
  rintro e w49 ⟨rfl, hb49⟩
  have E49 := Lib.hid ((E48.out.step hb49).pushT (int_lies (n := 1) ⟨by omega, by omega⟩))
  clear hb49 E48
  go_wp2_with fail
  refine (a_any _ _).mono ?_
  rintro e w50 ⟨rfl, hb50⟩
  have E50 := Lib.hid ((E49.out.step hb50).pushT (atom_lies (nm := ⟨#[98]⟩) (by simp [ByteArray.size])))
  clear hb50 E49
  go_wp2_with fail
  refine (a_any _ _).mono ?_
  rintro e w51 ⟨rfl, hb51⟩
  have E51 := Lib.hid ((E50.out.step hb51).pushT (atom_lies (nm := ⟨#[99]⟩) (by simp [ByteArray.size])))
  clear hb51 E50
  have ly2 := Lib.hid (lies_new (g := w51.heap.size) (ty := 24) rfl [((.mk 1 1 ⟨#[]⟩ []), .slice none 0 0), ((.mk 1 1 ⟨#[]⟩ []), .slice none 0 0), ((.mk 2 0 ⟨#[98]⟩ []), .slice none 0 0), ((.mk 2 0 ⟨#[99]⟩ []), .slice none 0 0)] (by simp only [EnvT]; exact ⟨E51.out.t.tl.tl.tl.hd, ⟨E51.out.t.tl.tl.hd, ⟨E51.out.t.tl.hd, ⟨E51.out.t.hd, trivial⟩⟩⟩⟩) (by simp))
  go_wp2_with fail
  refine (sall_T [(.mk 1 1 ⟨#[]⟩ []), (.mk 1 1 ⟨#[]⟩ []), (.mk 2 0 ⟨#[98]⟩ []), (.mk 2 0 ⟨#[99]⟩ [])] [(.mk 1 1 ⟨#[]⟩ []), (.mk 1 1 ⟨#[]⟩ []), (.mk 2 0 ⟨#[98]⟩ []), (.mk 2 0 ⟨#[99]⟩ [])] true (by kernel_rfl) _ _ _ _ _ (by simp) ((E51.out.alloc _).pushT ly2.out).t.tl.tl.tl.tl.tl.tl.tl.tl.tl.tl.tl.tl.tl.tl.tl.tl.tl.tl.tl.tl.tl.tl.tl.tl.tl.tl.tl.tl.tl.tl.tl.tl.tl.tl.tl.tl.hd ((E51.out.alloc _).pushT ly2.out).t.hd).mono ?_
  rintro e w52 ⟨rfl, hb52⟩
  have E52 := Lib.hid (((E51.out.alloc _).pushT ly2.out).step hb52)
  clear hb52 E51
  go_wp2_with fail
  refine (a_any _ _).mono ?_
  rintro e w53 ⟨rfl, hb53⟩
  have E53 := Lib.hid ((E52.out.step hb53).pushT (atom_lies (nm := ⟨#[97]⟩) (by simp [ByteArray.size])))
  clear hb53 E52
  go_wp2_with fail
  refine (n_any 2 _).mono ?_
  rintro e w54 ⟨rfl, hb54⟩
  have E54 := Lib.hid ((E53.out.step hb54).pushT (int_lies (n := 2) ⟨by omega, by omega⟩))
  clear hb54 E53
  have lz55 := Lib.hid (lies_new (g := w54.heap.size) (ty := 24) rfl [((.mk 2 0 ⟨#[97]⟩ []), .slice none 0 0), ((.mk 1 2 ⟨#[]⟩ []), .slice none 0 0)] (by simp only [EnvT]; exact ⟨E54.out.t.tl.hd, ⟨E54.out.t.hd, trivial⟩⟩) (by simp))
  go_wp2_with fail
  refine (f_any _ _ _ _ _).mono ?_
  rintro e w55 ⟨rfl, hb55⟩
  have E55 := Lib.hid (((E54.out.alloc _).step hb55).pushT (LiesT.below (struct_lies (nm := ⟨#[45]⟩) (by simp [ByteArray.size]) lz55.out) hb55))
  clear hb55 E54
  clear lz55
  go_wp2_with fail
  refine (a_any _ _).mono ?_
  rintro e w56 ⟨rfl, hb56⟩
  have E56 := Lib.hid ((E55.out.step hb56).pushT (atom_lies (nm := ⟨#[98]⟩) (by simp [ByteArray.size])))
  clear hb56 E55
  go_wp2_with fail
  refine (n_any 1 _).mono ?_
  rintro e w57 ⟨rfl, hb57⟩
  have E57 := Lib.hid ((E56.out.step hb57).pushT (int_lies (n := 1) ⟨by omega, by omega⟩))
  clear hb57 E56
  have lz58 := Lib.hid (lies_new (g := w57.heap.size) (ty := 24) rfl [((.mk 2 0 ⟨#[98]⟩ []), .slice none 0 0), ((.mk 1 1 ⟨#[]⟩ []), .slice none 0 0)] (by simp only [EnvT]; exact ⟨E57.out.t.tl.hd, ⟨E57.out.t.hd, trivial⟩⟩) (by simp))
  go_wp2_with fail
  refine (f_any _ _ _ _ _).mono ?_
  rintro e w58 ⟨rfl, hb58⟩
  have E58 := Lib.hid (((E57.out.alloc _).step hb58).pushT (LiesT.below (struct_lies (nm := ⟨#[45]⟩) (by simp [ByteArray.size]) lz58.out) hb58))
  clear hb58 E57
  clear lz58
  go_wp2_with fail
  refine (a_any _ _).mono ?_
  rintro e w59 ⟨rfl, hb59⟩
  have E59 := Lib.hid ((E58.out.step hb59).pushT (atom_lies (nm := ⟨#[98]⟩) (by simp [ByteArray.size])))
  clear hb59 E58
  go_wp2_with fail
  refine (n_any 0 _).mono ?_
  rintro e w60 ⟨rfl, hb60⟩
  have E60 := Lib.hid ((E59.out.step hb60).pushT (int_lies (n := 0) ⟨by omega, by omega⟩))
  clear hb60 E59
  have lz61 := Lib.hid (lies_new (g := w60.heap.size) (ty := 24) rfl [((.mk 2 0 ⟨#[98]⟩ []), .slice none 0 0), ((.mk 1 0 ⟨#[]⟩ []), .slice none 0 0)] (by simp only [EnvT]; exact ⟨E60.out.t.tl.hd, ⟨E60.out.t.hd, trivial⟩⟩) (by simp))
  go_wp2_with fail
  refine (f_any _ _ _ _ _).mono ?_
  rintro e w61 ⟨rfl, hb61⟩
  have E61 := Lib.hid (((E60.out.alloc _).step hb61).pushT (LiesT.below (struct_lies (nm := ⟨#[45]⟩) (by simp [ByteArray.size]) lz61.out) hb61))
  clear hb61 E60
  clear lz61
  have ly3 := Lib.hid (lies_new (g := w61.heap.size) (ty := 24) rfl [((.mk 3 0 ⟨#[45]⟩ [(.mk 2 0 ⟨#[97]⟩ []), (.mk 1 2 ⟨#[]⟩ [])]), .slice (some ⟨w54.heap.size, 0, none⟩) 2 2), ((.mk 3 0 ⟨#[45]⟩ [(.mk 2 0 ⟨#[98]⟩ []), (.mk 1 1 ⟨#[]⟩ [])]), .slice (some ⟨w57.heap.size, 0, none⟩) 2 2), ((.mk 3 0 ⟨#[45]⟩ [(.mk 2 0 ⟨#[98]⟩ []), (.mk 1 0 ⟨#[]⟩ [])]), .slice (some ⟨w60.heap.size, 0, none⟩) 2 2)] (by simp only [EnvT]; exact ⟨E61.out.t.tl.tl.tl.tl.tl.tl.hd, ⟨E61.out.t.tl.tl.tl.hd, ⟨E61.out.t.hd, trivial⟩⟩⟩) (by simp))
  go_wp2_with fail
  refine (sall_T [(.mk 3 0 ⟨#[45]⟩ [(.mk 2 0 ⟨#[97]⟩ []), (.mk 1 2 ⟨#[]⟩ [])]), (.mk 3 0 ⟨#[45]⟩ [(.mk 2 0 ⟨#[98]⟩ []), (.mk 1 1 ⟨#[]⟩ [])]), (.mk 3 0 ⟨#[45]⟩ [(.mk 2 0 ⟨#[98]⟩ []), (.mk 1 0 ⟨#[]⟩ [])])] [(.mk 3 0 ⟨#[45]⟩ [(.mk 2 0 ⟨#[97]⟩ []), (.mk 1 2 ⟨#[]⟩ [])]), (.mk 3 0 ⟨#[45]⟩ [(.mk 2 0 ⟨#[98]⟩ []), (.mk 1 1 ⟨#[]⟩ [])]), (.mk 3 0 ⟨#[45]⟩ [(.mk 2 0 ⟨#[98]⟩ []), (.mk 1 0 ⟨#[]⟩ [])])] true (by kernel_rfl) _ _ _ _ _ (by simp) ((E61.out.alloc _).pushT ly3.out).t.tl.tl.tl.tl.tl.tl.tl.tl.tl.tl.tl.tl.tl.tl.tl.tl.tl.tl.tl.tl.tl.tl.tl.tl.tl.tl.tl.tl.tl.tl.tl.tl.tl.tl.tl.tl.hd ((E61.out.alloc _).pushT ly3.out).t.hd).mono ?_
  rintro e w62 ⟨rfl, hb62⟩
  have E62 := Lib.hid (((E61.out.alloc _).pushT ly3.out).step hb62)
  clear hb62 E61
  go_wp2_with fail
  go_ret
  exact ⟨rfl, E62.out.b⟩

end Go.Proofs.YtehnhjhflaljhaaDoor
