/- slices.CompactFunc over a row of terms. -/
import Derived.Test.YtehnhjhflaljhaaDoorKB
import Derived.Test.YtehnhjhflaljhaaDoorG6
import Derived.Test.YtehnhjhflaljhaaDoorA0
import Derived.Test.YtehnhjhflaljhaaDoorQ0
namespace Go.Proofs.YtehnhjhflaljhaaDoor
open Go.RowKit Go.Proofs.HT

/-- Of the first elements those that differ from the one ahead of them. -/
def cptN (eq : PV → PV → Bool) (l : List PV) : Nat → List PV
  | 0 => []
  | 1 => l.take 1
  | i + 2 => if eq (l.getD (i + 1) dflt) (l.getD i dflt) = true then cptN eq l (i + 1) else cptN eq l (i + 1) ++ [l.getD (i + 1) dflt]
theorem cptN_same {eq : PV → PV → Bool} {l : List PV} {i : Nat} (h1 : 1 ≤ i) (h : eq (l.getD i dflt) (l.getD (i - 1) dflt) = true) : cptN eq l (i + 1) = cptN eq l i := by
  obtain ⟨i, rfl⟩ : ∃ j, i = j + 1 := ⟨i - 1, by omega⟩
  rw [cptN, if_pos (by simpa using h)]
theorem cptN_next {eq : PV → PV → Bool} {l : List PV} {i : Nat} (h1 : 1 ≤ i) (h : eq (l.getD i dflt) (l.getD (i - 1) dflt) = false) : cptN eq l (i + 1) = cptN eq l i ++ [l.getD i dflt] := by
  obtain ⟨i, rfl⟩ : ∃ j, i = j + 1 := ⟨i - 1, by omega⟩
  rw [cptN, if_neg (by rw [Nat.add_sub_cancel] at h; rw [h]; simp)]
theorem RowAt.cells2 {w : World} {b : Nat} {l : List PV} {pad : List Value} {ty : TypeId} (h : RowAt w b l pad ty) (i j : Nat) (hj : i + j < l.length) :
    w.cell? ⟨b, i * 4 + j * 4, none⟩ = some (.int .i64 l[i + j].1.kind) ∧ w.cell? ⟨b, i * 4 + j * 4 + 1, none⟩ = some (.int .i64 l[i + j].1.num) ∧ w.cell? ⟨b, i * 4 + j * 4 + 2, none⟩ = some (.string l[i + j].1.name) ∧ w.cell? ⟨b, i * 4 + j * 4 + 3, none⟩ = some l[i + j].2 := by
  rw [show i * 4 + j * 4 = (i + j) * 4 by omega]; exact h.cells _ hj
theorem flat_take (l : List PV) (K : Nat) (h : K ≤ l.length) : (flat l).take (K * 4) = flat (l.take K) := by
  have e : flat l = flat (l.take K) ++ flat (l.drop K) := by rw [← flat_append, List.take_append_drop]
  have hl : (flat (l.take K)).length = K * 4 := by rw [flat_length, List.length_take, Nat.min_eq_left h]
  rw [e, List.take_left' hl]
theorem splice_row (m : List PV) (pad : List Value) (K n : Nat) (hm : m.length = n) (hK : K ≤ n) : splice (flat m ++ pad) (K * 4) (flat (List.replicate (n - K) dflt)) = flat (m.take K ++ List.replicate (n - K) dflt) ++ pad := by
  have h1 := flat_length m
  have h2 := flat_length (List.replicate (n - K) dflt)
  rw [List.length_replicate] at h2
  have hd : (flat m ++ pad).drop (K * 4 + (n - K) * 4) = pad := List.drop_left' (by omega)
  unfold splice
  rw [List.take_append_of_le_length (by omega), flat_take m K (by omega), h2, hd, flat_append, List.append_assoc]
theorem zero_row (m : Nat) : (Builtin.zeroCells (Value.agg #[.int .i64 0, .int .i64 0, .string ⟨#[]⟩, .slice none 0 0]).cells m).toList = flat (List.replicate m dflt) := by
  have h := flat_zero m
  have e : Builtin.zeroCells (Value.agg #[.int .i64 0, .int .i64 0, .string ⟨#[]⟩, .slice none 0 0]).cells m = mk0 m := rfl
  rw [e, h]
theorem take_set_next : ∀ (m : List PV) (K : Nat) (_ : K < m.length) (p : PV), (m.set K p).take (K + 1) = m.take K ++ [p]
  | [], _, h, _ => by simp at h
  | q :: m, 0, _, p => by simp
  | q :: m, K + 1, h, p => by simp [take_set_next m K (by simpa using h) p]
/-- The row behind the compaction. -/
def cptRow (eq : PV → PV → Bool) (l : List PV) : List PV := cptN eq l l.length ++ List.replicate (l.length - (cptN eq l l.length).length) dflt
theorem eqF_any (t u : Tm) (v x : Value) (w : World) (h : LiesT w t v) (hx : LiesT w u x) (nt : nodesB t = true) (nu : nodesB u = true) (hp : Places w) : Calls Tryd.prog 44 #[tv t v, tv u x] w fun e w' => e = .returned (.bool (cT t u == 0)) ∧ Below w.heap.size w w' := by
  obtain ⟨q, hq⟩ : ∃ q, cT t u = q := ⟨_, rfl⟩
  rw [hq]
  have HC3 : Hid (∀ w, LiesT w t v → LiesT w u x → Places w → Calls Tryd.prog 37 #[tv t v, tv u x] w fun e w' => e = .returned (.int .i64 q) ∧ Below w.heap.size w w') := fun w h1 h2 h3 => by rw [← hq]; exact compare_any _ _ v x w h1 h2 nt nu h3
  have HX := Lib.hid (fun o1 o2 => boxesC h hx o1 o2)
  have HP := Lib.hid hp
  clear h hx hp hq
  simp only [tv]
  go_enter Tryd.func44, Tryd.ntmps44
  go_wp2_with (first | (go_at_call 37; refine (HC3.out _ (HX.out _ _).1 (HX.out _ _).2.1 (HP.out.below (HX.out _ _).2.2.1)).mono ?_; rintro e w1 ⟨rfl, hb1⟩))
  go_ret
  exact ⟨rfl, (HX.out _ _).2.2.1.trans (hb1.mono (HX.out _ _).2.2.1.size)⟩

set_option maxRecDepth 200000 in
set_option maxHeartbeats 8000000 in
theorem compact_any (g n cap : Nat) (eq : PV → PV → Bool) (l : List PV) (pad : List Value) (w : World) (hrow : RowAt w g l pad 24) (hn : l.length = n) (hcap : n ≤ cap) (hn2 : n ≤ 1000000) (hn1 : 2 ≤ n)
    (HV : Hid (∀ p ∈ l, ∃ a c, p.2 = .slice a p.1.args.length c))
    (HC : Hid (∀ p ∈ l, ∀ q ∈ l, ∀ w', Near g w w' → Calls Tryd.prog 44 #[tv p.1 p.2, tv q.1 q.2] w' fun e w'' => e = .returned (.bool (eq p q)) ∧ Below w'.heap.size w' w'')) :
    Calls Tryd.prog 41 #[.slice (some ⟨g, 0, none⟩) n cap, .func (.func 44) #[] #[]] w fun e w' => ∃ m : Nat, e = .returned (.slice (some ⟨g, 0, none⟩) m cap) ∧ m = (cptN eq l n).length ∧ m ≤ n ∧ RowAt w' g (cptN eq l n ++ List.replicate (n - m) dflt) pad 24 ∧ Near g w w' := by
  have HROW := Lib.hid hrow
  have HN := Lib.hid hn
  clear hrow hn
  have d0 : decide ((n : Int) < 2) = false := by simp; omega
  have d00 : (2 : Int) ≤ (n : Int) := by omega
  have HC1 : Hid (cptN eq l 1 = l.take 1) := by rfl
  go_enter Tryd.func41, Tryd.ntmps41
  go_wp2_with fail
  go_loopw [5] (fun i wr => ∃ k : Nat, k + 1 ≤ n ∧ i = .int .i64 ((k : Int) + 1) ∧ Hid (RowAt wr g l pad 24) ∧ Hid (Near g w wr) ∧ Hid (cptN eq l (k + 1) = l.take (k + 1))) (fun i _ => n - (intOf i).toNat)
  case atStart => exact ⟨0, by omega, rfl, HROW, Lib.hid (Near.refl _ _), HC1⟩
  case round =>
    obtain ⟨k, hk, rfl, hr, hnr, hc⟩ := hrel
    have v0 : (0 : Int) ≤ (k : Int) + 1 := by omega
    by_cases hlt : k + 1 < n
    · have hk1 : k + 1 < l.length := by have := HN.out; omega
      have hk0 : k < l.length := by have := HN.out; omega
      have cp := hr.out.cells (k + 1) hk1
      have cq := hr.out.cells (k) hk0
      have mp : l[k + 1] ∈ l := List.getElem_mem _
      have mq : l[k] ∈ l := List.getElem_mem _
      have gp := getD_at l (k + 1) hk1
      have gq := getD_at l (k) hk0
      obtain ⟨pp, hpe⟩ : ∃ p, l[k + 1] = p := ⟨_, rfl⟩
      obtain ⟨qq, hqe⟩ : ∃ p, l[k] = p := ⟨_, rfl⟩
      rw [hpe] at cp mp gp
      rw [hqe] at cq mq gq
      obtain ⟨tp, vp⟩ := pp
      obtain ⟨tq, vq⟩ := qq
      obtain ⟨pa, pc, ev⟩ := HV.out _ mp
      obtain rfl : vp = .slice pa tp.args.length pc := ev
      obtain ⟨qa, qc, ev⟩ := HV.out _ mq
      obtain rfl : vq = .slice qa tq.args.length qc := ev
      obtain ⟨z, hz⟩ : ∃ z, eq (tp, .slice pa tp.args.length pc) (tq, .slice qa tq.args.length qc) = z := ⟨_, rfl⟩
      have HCC : Hid (∀ w', Near g w w' → Calls Tryd.prog 44 #[tv tp (.slice pa tp.args.length pc), tv tq (.slice qa tq.args.length qc)] w' fun e w'' => e = .returned (.bool z) ∧ Below w'.heap.size w' w'') := fun w' h => by rw [← hz]; exact HC.out _ mp _ mq w' h
      have HG : Hid (eq (l.getD (k + 1) dflt) (l.getD (k) dflt) = z ∧ l.getD (k + 1) dflt = (tp, .slice pa tp.args.length pc)) := Lib.hid ⟨by rw [gp, gq]; exact hz, gp⟩
      obtain ⟨p0, p1, p2, p3⟩ := cp
      obtain ⟨q0, q1, q2, q3⟩ := cq
      clear mp mq gp gq hpe hqe hz hk1 hk0
      have hS0 : Below wr.heap.size wr wr.drew := (Below.refl _ _).drew
      have HS : Hid (∀ w', Below wr.heap.size wr w' → (fun w' => Below wr.heap.size wr w' ∧ w'.cell? ⟨g, (k + 1) * 4, none⟩ = some (.int .i64 tp.kind) ∧ w'.cell? ⟨g, (k + 1) * 4 + 1, none⟩ = some (.int .i64 tp.num) ∧ w'.cell? ⟨g, (k + 1) * 4 + 2, none⟩ = some (.string tp.name) ∧ w'.cell? ⟨g, (k + 1) * 4 + 3, none⟩ = some (.slice pa tp.args.length pc) ∧ w'.cell? ⟨g, k * 4, none⟩ = some (.int .i64 tq.kind) ∧ w'.cell? ⟨g, k * 4 + 1, none⟩ = some (.int .i64 tq.num) ∧ w'.cell? ⟨g, k * 4 + 2, none⟩ = some (.string tq.name) ∧ w'.cell? ⟨g, k * 4 + 3, none⟩ = some (.slice qa tq.args.length qc)) w') := fun w' h => ⟨h, cell_below h _ _ p0, cell_below h _ _ p1, cell_below h _ _ p2, cell_below h _ _ p3, cell_below h _ _ q0, cell_below h _ _ q1, cell_below h _ _ q2, cell_below h _ _ q3⟩
      have d1 : decide ((k : Int) + 1 < (n : Int)) = true := by simp; omega
      have b1 : (k : Int) + 1 < (n : Int) := by omega
      have b2 : (k : Int) < (n : Int) := by omega
      have w1 : IntKind.i64.wrap ((k : Int) + 1 - 1) = (k : Int) := by rw [show (k : Int) + 1 - 1 = (k : Int) by omega]; exact IntWalk.i64_in _ (by omega)
      have w3 : (k : Int) + 1 - 1 = (k : Int) := by omega
      have w4 : IntKind.i64.wrap (k : Int) = (k : Int) := IntWalk.i64_in _ (by omega)
      cases z
      · go_wp2_with fail
        go_region_held3 (fun w' => Below wr.heap.size wr w' ∧ w'.cell? ⟨g, (k + 1) * 4, none⟩ = some (.int .i64 tp.kind) ∧ w'.cell? ⟨g, (k + 1) * 4 + 1, none⟩ = some (.int .i64 tp.num) ∧ w'.cell? ⟨g, (k + 1) * 4 + 2, none⟩ = some (.string tp.name) ∧ w'.cell? ⟨g, (k + 1) * 4 + 3, none⟩ = some (.slice pa tp.args.length pc) ∧ w'.cell? ⟨g, k * 4, none⟩ = some (.int .i64 tq.kind) ∧ w'.cell? ⟨g, k * 4 + 1, none⟩ = some (.int .i64 tq.num) ∧ w'.cell? ⟨g, k * 4 + 2, none⟩ = some (.string tq.name) ∧ w'.cell? ⟨g, k * 4 + 3, none⟩ = some (.slice qa tq.args.length qc))
          (first | exact HS.out _ h5 | exact HS.out _ hS0 | assumption | go_keep)
          (first
            | (go_at_call 44; refine (HCC.out _ (hnr.out.trans (Near.of_below (by assumption : Below wr.heap.size wr _)))).mono ?_; rintro e w4 ⟨rfl, hb4⟩; have h5 : Below wr.heap.size wr w4 := Below.trans (by assumption : Below wr.heap.size wr _) (hb4.mono (Below.size (by assumption : Below wr.heap.size wr _)))))
        have RW := Lib.hid (hr.out.keep h5)
        have N4 := Lib.hid (hnr.out.trans (Near.of_below h5))
        clear p0 p1 p2 p3 q0 q1 q2 q3 h5 hS0 HS
        go_wp2_with fail
        go_roundw
        case rel =>
          refine ⟨k + 1, by omega, by go_num, RW, N4, Lib.hid ?_⟩
          have hkl : k + 1 < l.length := by have := HN.out; omega
          have h1 : l.take (k + 1 + 1) = l.take (k + 1) ++ [l[k + 1]] := List.take_succ_eq_append_getElem hkl
          rw [cptN_next (by omega) (by rw [Nat.add_sub_cancel]; exact HG.out.1), hc.out, getD_at l (k + 1) hkl]
          exact h1.symm
        case measure => simp [intOf]; omega
      · go_wp2_with fail
        go_region_held3 (fun w' => Below wr.heap.size wr w' ∧ w'.cell? ⟨g, (k + 1) * 4, none⟩ = some (.int .i64 tp.kind) ∧ w'.cell? ⟨g, (k + 1) * 4 + 1, none⟩ = some (.int .i64 tp.num) ∧ w'.cell? ⟨g, (k + 1) * 4 + 2, none⟩ = some (.string tp.name) ∧ w'.cell? ⟨g, (k + 1) * 4 + 3, none⟩ = some (.slice pa tp.args.length pc) ∧ w'.cell? ⟨g, k * 4, none⟩ = some (.int .i64 tq.kind) ∧ w'.cell? ⟨g, k * 4 + 1, none⟩ = some (.int .i64 tq.num) ∧ w'.cell? ⟨g, k * 4 + 2, none⟩ = some (.string tq.name) ∧ w'.cell? ⟨g, k * 4 + 3, none⟩ = some (.slice qa tq.args.length qc))
          (first | exact HS.out _ h5 | exact HS.out _ hS0 | assumption | go_keep)
          (first
            | (go_at_call 44; refine (HCC.out _ (hnr.out.trans (Near.of_below (by assumption : Below wr.heap.size wr _)))).mono ?_; rintro e w4 ⟨rfl, hb4⟩; have h5 : Below wr.heap.size wr w4 := Below.trans (by assumption : Below wr.heap.size wr _) (hb4.mono (Below.size (by assumption : Below wr.heap.size wr _)))))
        have RW := Lib.hid (hr.out.keep h5)
        have N4 := Lib.hid (hnr.out.trans (Near.of_below h5))
        have CE : Hid (cptN eq l (k + 2) = l.take (k + 1)) := by
          show _ = _
          rw [cptN_same (by omega) (by rw [Nat.add_sub_cancel]; exact HG.out.1)]; exact hc.out
        have b4 : (k : Int) + 1 ≤ (n : Int) := by omega
        have b5 : (k : Int) + 1 ≤ (cap : Int) := by omega
        clear HCC HG p0 p1 p2 p3 q0 q1 q2 q3 h5 hS0 HS
        go_wp2_with fail
        generalize hs : n - (k + 1) = s
        generalize hc2 : cap - (k + 1) = c2
        have HSS := Lib.hid hs
        clear hs hc2
        go_loopw [5, 7] (fun vk vj wr => ∃ (K j : Nat) (m : List PV), 1 ≤ j ∧ j ≤ s ∧ K ≤ k + j ∧ vk = .int .i64 K ∧ vj = .int .i64 j ∧ Hid (RowAt wr g m pad 24) ∧ Hid (Near g w wr) ∧ Hid (m.length = n ∧ (∀ i, k + j ≤ i → i < n → m.getD i dflt = l.getD i dflt) ∧ m.take K = cptN eq l (k + 1 + j) ∧ K = (cptN eq l (k + 1 + j)).length)) (fun _ vj _ => s - (intOf vj).toNat)
        case atStart =>
          refine ⟨k + 1, 1, l, by omega, by have := HSS.out; omega, by omega, by go_num, rfl, RW, N4, Lib.hid ⟨HN.out, fun _ _ _ => rfl, CE.out.symm, ?_⟩⟩
          rw [CE.out, List.length_take]; have := HN.out; omega
        case round =>
          obtain ⟨K, j, m, hj1, hj2, hKj, rfl, rfl, hr, hnr, hm⟩ := hrel
          have hr : Hid (RowAt wr g m pad 24) := hr
          have hss := HSS.out
          have hsn : s ≤ n := by omega
          have hkn : k + 1 + s = n := by omega
          by_cases hjs : j < s
          · obtain ⟨j, rfl⟩ : ∃ j', j = j' + 1 := ⟨j - 1, by omega⟩
            have hm1 := hm.out
            have hkk := HN.out
            have hk1 : (k + 1) + (j + 1) < m.length := by omega
            have hk0 : (k + 1) + j < m.length := by omega
            have cp := RowAt.cells2 (w := wr) (b := g) (l := m) (pad := pad) (ty := 24) hr.out (k + 1) (j + 1) hk1
            have cq := RowAt.cells2 (w := wr) (b := g) (l := m) (pad := pad) (ty := 24) hr.out (k + 1) j hk0
            have gp := hm1.2.1 ((k + 1) + (j + 1)) (by omega) (by omega)
            have gq := hm1.2.1 ((k + 1) + j) (by omega) (by omega)
            rw [getD_at m _ hk1] at gp
            rw [getD_at m _ hk0] at gq
            have mp : m[(k + 1) + (j + 1)] ∈ l := by rw [gp, getD_at l _ (by omega)]; exact List.getElem_mem _
            have mq : m[(k + 1) + j] ∈ l := by rw [gq, getD_at l _ (by omega)]; exact List.getElem_mem _
            obtain ⟨pp, hpe⟩ : ∃ p, m[(k + 1) + (j + 1)] = p := ⟨_, rfl⟩
            obtain ⟨qq, hqe⟩ : ∃ p, m[(k + 1) + j] = p := ⟨_, rfl⟩
            rw [hpe] at cp mp gp
            rw [hqe] at cq mq gq
            obtain ⟨tp, vp⟩ := pp
            obtain ⟨tq, vq⟩ := qq
            obtain ⟨pa, pc, ev⟩ := HV.out _ mp
            obtain rfl : vp = .slice pa tp.args.length pc := ev
            obtain ⟨qa, qc, ev⟩ := HV.out _ mq
            obtain rfl : vq = .slice qa tq.args.length qc := ev
            obtain ⟨z, hz⟩ : ∃ z, eq (tp, .slice pa tp.args.length pc) (tq, .slice qa tq.args.length qc) = z := ⟨_, rfl⟩
            have HCC : Hid (∀ w', Near g w w' → Calls Tryd.prog 44 #[tv tp (.slice pa tp.args.length pc), tv tq (.slice qa tq.args.length qc)] w' fun e w'' => e = .returned (.bool z) ∧ Below w'.heap.size w' w'') := fun w' h => by rw [← hz]; exact HC.out _ mp _ mq w' h
            have HG1 : Hid (eq (l.getD (k + 1 + (j + 1)) dflt) (l.getD (k + 1 + j) dflt) = z ∧ l.getD (k + 1 + (j + 1)) dflt = (tp, .slice pa tp.args.length pc)) := Lib.hid ⟨by rw [← gp, ← gq]; exact hz, gp.symm⟩
            obtain ⟨p0, p1, p2, p3⟩ := cp
            obtain ⟨q0, q1, q2, q3⟩ := cq
            have hKn : K < n := by omega
            clear mp mq gp gq hpe hqe hz hk1 hk0 hm1 hkk hss hkn
            have hS0 : Below wr.heap.size wr wr.drew := (Below.refl _ _).drew
            have HS : Hid (∀ w', Below wr.heap.size wr w' → (fun w' => Below wr.heap.size wr w' ∧ w'.cell? ⟨g, (k + 1) * 4 + (j + 1) * 4, none⟩ = some (.int .i64 tp.kind) ∧ w'.cell? ⟨g, (k + 1) * 4 + (j + 1) * 4 + 1, none⟩ = some (.int .i64 tp.num) ∧ w'.cell? ⟨g, (k + 1) * 4 + (j + 1) * 4 + 2, none⟩ = some (.string tp.name) ∧ w'.cell? ⟨g, (k + 1) * 4 + (j + 1) * 4 + 3, none⟩ = some (.slice pa tp.args.length pc) ∧ w'.cell? ⟨g, (k + 1) * 4 + j * 4, none⟩ = some (.int .i64 tq.kind) ∧ w'.cell? ⟨g, (k + 1) * 4 + j * 4 + 1, none⟩ = some (.int .i64 tq.num) ∧ w'.cell? ⟨g, (k + 1) * 4 + j * 4 + 2, none⟩ = some (.string tq.name) ∧ w'.cell? ⟨g, (k + 1) * 4 + j * 4 + 3, none⟩ = some (.slice qa tq.args.length qc)) w') := fun w' h => ⟨h, cell_below h _ _ p0, cell_below h _ _ p1, cell_below h _ _ p2, cell_below h _ _ p3, cell_below h _ _ q0, cell_below h _ _ q1, cell_below h _ _ q2, cell_below h _ _ q3⟩
            have e1 : decide ((j : Int) + 1 < (s : Int)) = true := by simp; omega
            have x0 : (0 : Int) ≤ (j : Int) + 1 := by omega
            have x1 : (j : Int) + 1 < (s : Int) := by omega
            have x2 : (j : Int) < (s : Int) := by omega
            have x3 : IntKind.i64.wrap ((j : Int) + 1 - 1) = (j : Int) := by rw [show (j : Int) + 1 - 1 = (j : Int) by omega]; exact IntWalk.i64_in _ (by omega)
            have x4 : (j : Int) + 1 - 1 = (j : Int) := by omega
            have x5 : IntKind.i64.wrap (j : Int) = (j : Int) := IntWalk.i64_in _ (by omega)
            have x6 : (K : Int) < (n : Int) := by omega
            have y1 : -9223372036854775808 ≤ (K : Int) + 1 := by omega
            have y2 : (K : Int) + 1 ≤ 9223372036854775807 := by omega
            have y3 : -9223372036854775808 ≤ (j : Int) + 1 + 1 := by omega
            have y4 : (j : Int) + 1 + 1 ≤ 9223372036854775807 := by omega
            cases z
            · go_wp2_with fail
              go_region_held3 (fun w' => Below wr.heap.size wr w' ∧ w'.cell? ⟨g, (k + 1) * 4 + (j + 1) * 4, none⟩ = some (.int .i64 tp.kind) ∧ w'.cell? ⟨g, (k + 1) * 4 + (j + 1) * 4 + 1, none⟩ = some (.int .i64 tp.num) ∧ w'.cell? ⟨g, (k + 1) * 4 + (j + 1) * 4 + 2, none⟩ = some (.string tp.name) ∧ w'.cell? ⟨g, (k + 1) * 4 + (j + 1) * 4 + 3, none⟩ = some (.slice pa tp.args.length pc) ∧ w'.cell? ⟨g, (k + 1) * 4 + j * 4, none⟩ = some (.int .i64 tq.kind) ∧ w'.cell? ⟨g, (k + 1) * 4 + j * 4 + 1, none⟩ = some (.int .i64 tq.num) ∧ w'.cell? ⟨g, (k + 1) * 4 + j * 4 + 2, none⟩ = some (.string tq.name) ∧ w'.cell? ⟨g, (k + 1) * 4 + j * 4 + 3, none⟩ = some (.slice qa tq.args.length qc))
                (first | exact HS.out _ h5 | exact HS.out _ hS0 | assumption | go_keep)
                (first
                  | (go_at_call 44; refine (HCC.out _ (hnr.out.trans (Near.of_below (by assumption : Below wr.heap.size wr _)))).mono ?_; rintro e w4 ⟨rfl, hb4⟩; have h5 : Below wr.heap.size wr w4 := Below.trans (by assumption : Below wr.heap.size wr _) (hb4.mono (Below.size (by assumption : Below wr.heap.size wr _)))))
              have RW := Lib.hid (RowAt.keep (w := wr) (b := g) (l := m) (pad := pad) (ty := 24) hr.out h5)
              have N4 := Lib.hid (hnr.out.trans (Near.of_below h5))
              have s0 := cell_below h5 _ _ p0
              have s1b := cell_below h5 _ _ p1
              have s2b := cell_below h5 _ _ p2
              have s3b := cell_below h5 _ _ p3
              have f0 := frozen_of_row _ _ (K * 4) _ _ RW.out
              have f1 := frozen_of_row _ _ (K * 4 + 1) _ _ RW.out
              have f2 := frozen_of_row _ _ (K * 4 + 2) _ _ RW.out
              have f3 := frozen_of_row _ _ (K * 4 + 3) _ _ RW.out
              have hKm : K < m.length := by have := hm.out.1; omega
              obtain ⟨g0, c0⟩ : ∃ v, w4.cell? ⟨g, K * 4, none⟩ = some v := ⟨_, (RW.out.cells K hKm).1⟩
              obtain ⟨g1, c1⟩ : ∃ v, w4.cell? ⟨g, K * 4 + 1, none⟩ = some v := ⟨_, (RW.out.cells K hKm).2.1⟩
              obtain ⟨g2, c2⟩ : ∃ v, w4.cell? ⟨g, K * 4 + 2, none⟩ = some v := ⟨_, (RW.out.cells K hKm).2.2.1⟩
              obtain ⟨g3, c3⟩ : ∃ v, w4.cell? ⟨g, K * 4 + 3, none⟩ = some v := ⟨_, (RW.out.cells K hKm).2.2.2⟩
              clear p0 p1 p2 p3 q0 q1 q2 q3 h5 hS0 HS hKm
              go_wp2_with fail
              go_roundw
              case rel =>
                have hmm := hm.out
                have hKm : K < m.length := by omega
                have hcp : cptN eq l (k + 1 + (j + 1) + 1) = cptN eq l (k + 1 + (j + 1)) ++ [(tp, .slice pa tp.args.length pc)] := by
                  rw [cptN_next (by omega) (by rw [show k + 1 + (j + 1) - 1 = k + 1 + j by omega]; exact HG1.out.1), HG1.out.2]
                refine ⟨K + 1, j + 1 + 1, m.set K (tp, .slice pa tp.args.length pc), by omega, by omega, by omega, by go_num, by go_num, Lib.hid (RowAt.set RW.out K hKm (tp, .slice pa tp.args.length pc)), Lib.hid (N4.out.trans (RowAt.near K (tp, .slice pa tp.args.length pc))), Lib.hid ⟨by rw [List.length_set]; exact hmm.1, fun i h1 h2 => ?_, ?_, ?_⟩⟩
                · rw [← hmm.2.1 i (by omega) h2]
                  simp [List.getD, List.getElem?_set_ne (show K ≠ i by omega)]
                · rw [show k + 1 + (j + 1 + 1) = k + 1 + (j + 1) + 1 by omega, hcp, ← hmm.2.2.1]
                  exact take_set_next m K hKm _
                · rw [show k + 1 + (j + 1 + 1) = k + 1 + (j + 1) + 1 by omega, hcp, List.length_append, ← hmm.2.2.2]; rfl
              case measure => simp [intOf]; omega
            · go_wp2_with fail
              go_region_held3 (fun w' => Below wr.heap.size wr w' ∧ w'.cell? ⟨g, (k + 1) * 4 + (j + 1) * 4, none⟩ = some (.int .i64 tp.kind) ∧ w'.cell? ⟨g, (k + 1) * 4 + (j + 1) * 4 + 1, none⟩ = some (.int .i64 tp.num) ∧ w'.cell? ⟨g, (k + 1) * 4 + (j + 1) * 4 + 2, none⟩ = some (.string tp.name) ∧ w'.cell? ⟨g, (k + 1) * 4 + (j + 1) * 4 + 3, none⟩ = some (.slice pa tp.args.length pc) ∧ w'.cell? ⟨g, (k + 1) * 4 + j * 4, none⟩ = some (.int .i64 tq.kind) ∧ w'.cell? ⟨g, (k + 1) * 4 + j * 4 + 1, none⟩ = some (.int .i64 tq.num) ∧ w'.cell? ⟨g, (k + 1) * 4 + j * 4 + 2, none⟩ = some (.string tq.name) ∧ w'.cell? ⟨g, (k + 1) * 4 + j * 4 + 3, none⟩ = some (.slice qa tq.args.length qc))
                (first | exact HS.out _ h5 | exact HS.out _ hS0 | assumption | go_keep)
                (first
                  | (go_at_call 44; refine (HCC.out _ (hnr.out.trans (Near.of_below (by assumption : Below wr.heap.size wr _)))).mono ?_; rintro e w4 ⟨rfl, hb4⟩; have h5 : Below wr.heap.size wr w4 := Below.trans (by assumption : Below wr.heap.size wr _) (hb4.mono (Below.size (by assumption : Below wr.heap.size wr _)))))
              have RW := Lib.hid (RowAt.keep (w := wr) (b := g) (l := m) (pad := pad) (ty := 24) hr.out h5)
              have N4 := Lib.hid (hnr.out.trans (Near.of_below h5))
              clear p0 p1 p2 p3 q0 q1 q2 q3 h5 hS0 HS
              go_wp2_with fail
              go_roundw
              case rel =>
                have hmm := hm.out
                have hcp : cptN eq l (k + 1 + (j + 1) + 1) = cptN eq l (k + 1 + (j + 1)) := cptN_same (by omega) (by rw [show k + 1 + (j + 1) - 1 = k + 1 + j by omega]; exact HG1.out.1)
                refine ⟨K, j + 1 + 1, m, by omega, by omega, by omega, rfl, by go_num, RW, N4, Lib.hid ⟨hmm.1, fun i h1 h2 => hmm.2.1 i (by omega) h2, ?_, ?_⟩⟩
                · rw [show k + 1 + (j + 1 + 1) = k + 1 + (j + 1) + 1 by omega, hcp]; exact hmm.2.2.1
                · rw [show k + 1 + (j + 1 + 1) = k + 1 + (j + 1) + 1 by omega, hcp]; exact hmm.2.2.2
              case measure => simp [intOf]; omega
          · have e : k + 1 + j = n := by omega
            have hmm := hm.out
            rw [e] at hmm
            have HMM := Lib.hid hmm
            have hKn : K < n := by omega
            have e1 : decide ((j : Int) < (s : Int)) = false := by simp; omega
            have x6 : (K : Int) < (n : Int) := by omega
            have x7 : (K : Int) ≤ (n : Int) := by omega
            have x8 : (K : Int) ≤ (cap : Int) := by omega
            have HZ := Lib.hid (zero_row (n - K))
            have HSP := Lib.hid (splice_row m pad K n hmm.1 (by omega))
            have HF : Hid (K * 4 + (flat (List.replicate (n - K) dflt)).length ≤ (flat m ++ pad).length) := by
              show _ ≤ _
              rw [flat_length, List.length_append, flat_length, List.length_replicate, hmm.1]; omega
            have HON : Hid (∀ v ∈ flat (List.replicate (n - K) dflt), v.oneCell' = true) := flat_one _ (fun p hp => by
              rw [List.mem_replicate] at hp; rw [hp.2]; exact ⟨none, 0, rfl⟩)
            clear hmm hm e hss hkn
            go_wp2_with (refine Go.Proofs.HG.wpList_clear_k rfl (.tmp 61) 22 rfl 24 (.agg #[.int .i64 0, .int .i64 0, .string ⟨#[]⟩, .slice none 0 0]) under22 (fun w => by kernel_rfl) g (K * 4) (n - K) _ (by omega) rfl (flat m ++ pad) 24 hr.out (flat (List.replicate (n - K) dflt)) HZ.out HON.out HF.out 0 wr (Below.refl 0 wr) (Nat.zero_le _) ?_; intro w4 hg4 ho4 hb4)
            go_ret
            have hlen : (cptN eq l n).length = K := HMM.out.2.2.2.symm
            refine ⟨K, rfl, hlen.symm, by omega, ?_, ?_⟩
            · have h1 := hg4.out
              rw [HSP.out, HMM.out.2.2.1] at h1
              exact h1
            · exact hnr.out.trans ⟨hb4.os, hb4.tape, hb4.output, hb4.size, fun q _ hq => ho4.out q hq⟩
    · have e : k + 1 = n := by omega
      have d1 : decide ((k : Int) + 1 < (n : Int)) = false := by simp; omega
      have HE : Hid (cptN eq l n = l) := by
        have h1 := hc.out
        rw [e] at h1
        show _ = _
        rw [h1, List.take_of_length_le (by have := HN.out; omega)]
      go_wp2_with fail
      go_ret
      exact ⟨n, rfl, by rw [HE.out]; exact HN.out.symm, Nat.le_refl _, by rw [HE.out, Nat.sub_self]; simpa using hr.out, hnr.out⟩

end Go.Proofs.YtehnhjhflaljhaaDoor

/- Sort. -/
namespace Go.Proofs.YtehnhjhflaljhaaDoor
open Go.RowKit Go.Proofs.HT

def eqP (p q : PV) : Bool := cT p.1 q.1 == 0
theorem cptN_mem (eq : PV → PV → Bool) (l : List PV) : ∀ i, i ≤ l.length → ∀ p, p ∈ cptN eq l i → p ∈ l
  | 0, _, _, h => by simp [cptN] at h
  | 1, _, _, h => List.mem_of_mem_take h
  | i + 2, hi, p, h => by
    rw [cptN] at h
    split at h
    · exact cptN_mem eq l (i + 1) (by omega) p h
    · rw [List.mem_append] at h
      rcases h with h | h
      · exact cptN_mem eq l (i + 1) (by omega) p h
      · obtain rfl := List.mem_singleton.1 h
        rw [getD_at l (i + 1) (by omega)]
        exact List.getElem_mem _
theorem RowAt.front {w : World} {b : Nat} {A B : List PV} {pad : List Value} {ty : TypeId} (h : RowAt w b (A ++ B) pad ty) : RowAt w b A (flat B ++ pad) ty := by
  unfold RowAt at *
  rw [h, flat_append, List.append_assoc]

set_option maxHeartbeats 2000000 in
theorem Sort_bad (b off n cap : Nat) (l : List PV) (w : World) (hn : l.length = n) (hn2 : n ≤ 1000000) (hcap : n ≤ cap) (hrow : RowIn w b off l) (hl : ∀ p ∈ l, LiesT w p.1 p.2) (hv : (l.all fun p => validB p.1) = false) :
    Calls Tryd.prog 16 #[.slice (some ⟨b, off, none⟩) n cap] w (NoneE 1 w) := by
  have A1 := Lib.hid (all_valid b off n cap l w hn hn2 hcap hrow hl)
  rw [hv] at A1
  clear hrow hl hn hv
  go_enter Tryd.func16, Tryd.ntmps16
  go_wp2_with (first | (go_at_call 39; refine A1.out.mono ?_; rintro e w1 ⟨rfl, hb1⟩))
  go_ret2
  exact ⟨rfl, hb1⟩

set_option maxHeartbeats 4000000 in
theorem Sort_yes (b off n cap : Nat) (l : List PV) (w : World) (hn : l.length = n) (hn2 : n ≤ 1000000) (hcap : n ≤ cap) (hrow : RowIn w b off l) (hl : ∀ p ∈ l, LiesT w p.1 p.2) (hp : Places w) (hv : (l.all fun p => validB p.1) = true) (R : List PV) (hR : R.length = n) (hmem : ∀ p ∈ R, p ∈ l) (hn0 : 2 ≤ n)
    (HS : Hid (∀ w1, Below w.heap.size w w1 → Calls Tryd.prog 42 #[.slice (some ⟨b, off, none⟩) n cap, .func (.func 43) #[] #[]] w1 (RowEnd R w1))) :
    Calls Tryd.prog 16 #[.slice (some ⟨b, off, none⟩) n cap] w (CopyE ((cptN eqP R n).map Prod.fst) 0 w) := by
  have A1 := Lib.hid (all_valid b off n cap l w hn hn2 hcap hrow hl)
  rw [hv] at A1
  have HL : Hid (∀ p ∈ R, LiesT w p.1 p.2 ∧ validB p.1 = true) := fun p hp => And.intro (hl p (hmem p hp)) (List.all_eq_true.1 hv p (hmem p hp))
  have HRL := Lib.hid hR
  have HP := Lib.hid hp
  clear hrow hl hn hv hmem hR hp
  go_enter Tryd.func16, Tryd.ntmps16
  go_wp2_with fail
  refine A1.out.mono ?_
  rintro e w1 ⟨rfl, hb1⟩
  have B2 := Lib.hid hb1
  clear hb1
  go_wp2_with fail
  refine (HS.out w1 B2.out).mono ?_
  rintro e w3 ⟨g, cap3, pad, rfl, hc3, hg3, hr3, hb3⟩
  rw [HRL.out] at hc3
  rw [HRL.out]
  have B3 := Lib.hid (B2.out.trans (hb3.mono B2.out.size))
  have hgw : w.heap.size ≤ g := by have := B2.out.size; omega
  have HC := Lib.hid (compact_any g n cap3 eqP R pad w3 (show RowAt w3 g R pad 24 from hr3) HRL.out hc3 hn2 hn0 (Lib.hid (fun p hp => (HL.out p hp).1.slice)) (Lib.hid (fun p hp q hq w' hnr => by
    have hb4 := hnr.below B3.out hgw B3.out.size
    exact eqF_any p.1 q.1 p.2 q.2 w' ((HL.out p hp).1.below hb4) ((HL.out q hq).1.below hb4) (val_nodes (HL.out p hp).2) (val_nodes (HL.out q hq).2) (HP.out.below hb4))))
  clear hr3 hb3 hg3
  go_wp2_with fail
  refine HC.out.mono ?_
  rintro e w4 ⟨m, rfl, hm, hmn, hr4, hn4⟩
  have B4 := Lib.hid (hn4.below B3.out hgw B3.out.size)
  have HC2 := Lib.hid (copies_any (some ⟨g, 0, none⟩) m cap3 (cptN eqP R n) w4 hm.symm (by omega) (by omega) (Lib.hid (fun _ => ⟨g, 0, rfl, RowAt.rowIn (RowAt.front (show RowAt w4 g (cptN eqP R n ++ List.replicate (n - m) dflt) pad 24 from hr4))⟩)) (fun p hp => by
    have hpR := cptN_mem eqP R n (by rw [HRL.out]; exact Nat.le_refl _) p hp
    exact ⟨(HL.out p hpR).1.below B4.out, (HL.out p hpR).2⟩))
  have HM := Lib.hid hm
  clear hr4 hn4 hm
  go_wp2_with fail
  refine HC2.out.mono ?_
  intro e w5 hC5
  obtain ⟨g5, rfl, hE⟩ := CopyE.of B4.out hC5
  rw [List.length_map] at hE
  have HE := Lib.hid hE
  clear hE hC5
  go_wp2_with fail
  go_ret2
  exact HE.out

end Go.Proofs.YtehnhjhflaljhaaDoor

/- The law's helpers; SameAll. -/
namespace Go.Proofs.YtehnhjhflaljhaaDoor
open Go.RowKit Go.Proofs.HT

set_option maxHeartbeats 1000000 in
theorem f_any (s : ByteArray) (a : Option Addr) (l cap : Nat) (w : World) :
    Calls Tryd.prog 33 #[.string s, .slice a l cap] w fun e w' => e = .returned (pv 3 0 s (.slice a l cap)) ∧ Below w.heap.size w w' := by
  have fr : ∀ o, Below w.heap.size w (w.alloc o) := fun o => (Below.refl _ _).alloc (Nat.le_refl _) _
  go_enter Tryd.func33, Tryd.ntmps33
  go_wp2_with fail
  exact bodyPost_ret (v := pv 3 0 s (.slice a l cap)) (by simp [results, Tryd.results33, go_sem]) rfl ⟨rfl, fr _⟩
set_option maxHeartbeats 1000000 in
theorem x_any (n : Int) (w : World) :
    Calls Tryd.prog 30 #[.int .i64 n] w fun e w' => e = .returned (pv 0 n ⟨#[]⟩ (.slice none 0 0)) ∧ Below w.heap.size w w' := by
  have fr : ∀ o, Below w.heap.size w (w.alloc o) := fun o => (Below.refl _ _).alloc (Nat.le_refl _) _
  go_enter Tryd.func30, Tryd.ntmps30
  go_wp2_with fail
  exact bodyPost_ret (v := pv 0 n ⟨#[]⟩ (.slice none 0 0)) (by simp [results, Tryd.results30, go_sem]) rfl ⟨rfl, fr _⟩
set_option maxHeartbeats 1000000 in
theorem a_any (s : ByteArray) (w : World) :
    Calls Tryd.prog 35 #[.string s] w fun e w' => e = .returned (pv 2 0 s (.slice none 0 0)) ∧ Below w.heap.size w w' := by
  have fr : ∀ o, Below w.heap.size w (w.alloc o) := fun o => (Below.refl _ _).alloc (Nat.le_refl _) _
  go_enter Tryd.func35, Tryd.ntmps35
  go_wp2_with fail
  exact bodyPost_ret (v := pv 2 0 s (.slice none 0 0)) (by simp [results, Tryd.results35, go_sem]) rfl ⟨rfl, fr _⟩

set_option maxHeartbeats 1000000 in
theorem n_any (n : Int) (w : World) :
    Calls Tryd.prog 34 #[.int .i64 n] w fun e w' => e = .returned (pv 1 n ⟨#[]⟩ (.slice none 0 0)) ∧ Below w.heap.size w w' := by
  have fr : ∀ o, Below w.heap.size w (w.alloc o) := fun o => (Below.refl _ _).alloc (Nat.le_refl _) _
  go_enter Tryd.func34, Tryd.ntmps34
  go_wp2_with fail
  exact bodyPost_ret (v := pv 1 n ⟨#[]⟩ (.slice none 0 0)) (by simp [results, Tryd.results34, go_sem]) rfl ⟨rfl, fr _⟩
def sallB (l m : List PV) : Bool := decide (l.length = m.length) && (List.range l.length).all fun k => sameV (l.getD k dflt).1 (m.getD k dflt).1
set_option maxHeartbeats 4000000 in
theorem sall_any (b off n cap b2 off2 n2 cap2 : Nat) (l m : List PV) (w : World) (hn : l.length = n) (hm : m.length = n2) (hn2 : n ≤ 1000000) (_hcap : n ≤ cap) (hcap2 : n2 ≤ cap2) (hrow : RowIn w b off l) (hrow2 : RowIn w b2 off2 m) (hl : ∀ p ∈ l, LiesT w p.1 p.2) (hl2 : ∀ p ∈ m, LiesT w p.1 p.2) :
    Calls Tryd.prog 22 #[.slice (some ⟨b, off, none⟩) n cap, .slice (some ⟨b2, off2, none⟩) n2 cap2] w fun e w' => e = .returned (.bool (sallB l m)) ∧ Below w.heap.size w w' := by
  have HN := Lib.hid hn
  have HM := Lib.hid hm
  have HL := Lib.hid hl
  have HL2 := Lib.hid hl2
  have HR := Lib.hid hrow
  have HR2 := Lib.hid hrow2
  clear hn hm hl hl2 hrow hrow2
  by_cases hnn : n = n2
  · subst hnn
    obtain ⟨R, hR⟩ : ∃ R, sallB l m = R := ⟨_, rfl⟩
    rw [hR]
    have HRR := Lib.hid hR
    clear hR
    go_enter Tryd.func22, Tryd.ntmps22
    go_wp2_with fail
    go_loopw [5] (fun i wr => ∃ j : Nat, j ≤ n ∧ i = .int .i64 j ∧ Hid (Below w.heap.size w wr) ∧ Hid (∀ k, k < j → sameV (l.getD k dflt).1 (m.getD k dflt).1 = true)) (fun i _ => n - (intOf i).toNat)
    case atStart => exact ⟨0, by omega, rfl, Lib.hid (Below.refl _ _), Lib.hid (fun _ h => by omega)⟩
    case round =>
      obtain ⟨j, hj, rfl, hb, hz⟩ := hrel
      by_cases hlt : j < n
      · have hk1 : j < l.length := by have := HN.out; omega
        have hk2 : j < m.length := by have := HM.out; omega
        have cp := (HR.out.below hb.out).at j hk1
        have cq := (HR2.out.below hb.out).at j hk2
        have mp := HL.out _ (List.getElem_mem hk1)
        have mq := HL2.out _ (List.getElem_mem hk2)
        have gp := getD_at l j hk1
        have gq := getD_at m j hk2
        obtain ⟨pp, hpe⟩ : ∃ p, l[j] = p := ⟨_, rfl⟩
        obtain ⟨qq, hqe⟩ : ∃ p, m[j] = p := ⟨_, rfl⟩
        rw [hpe] at cp mp gp
        rw [hqe] at cq mq gq
        obtain ⟨tp, vp⟩ := pp
        obtain ⟨tq, vq⟩ := qq
        obtain ⟨pa, pc, ev⟩ := mp.slice
        obtain rfl : vp = .slice pa tp.args.length pc := ev
        obtain ⟨qa, qc, ev⟩ := mq.slice
        obtain rfl : vq = .slice qa tq.args.length qc := ev
        obtain ⟨z, hz0⟩ : ∃ z, sameV tp tq = z := ⟨_, rfl⟩
        have HCC : Hid (∀ w', Below wr.heap.size wr w' → Calls Tryd.prog 28 #[tv tp (.slice pa tp.args.length pc), tv tq (.slice qa tq.args.length qc)] w' fun e w'' => e = .returned (.bool z) ∧ Below w'.heap.size w' w'') := fun w' h => by
          rw [← hz0]
          have hb3 := hb.out.trans (h.mono hb.out.size)
          exact same_any tp tq _ _ w' (mp.below hb3) (mq.below hb3)
        have HG : Hid (sameV (l.getD j dflt).1 (m.getD j dflt).1 = z) := by show _ = _; rw [gp, gq]; exact hz0
        obtain ⟨p0, p1, p2, p3⟩ := cp
        obtain ⟨q0, q1, q2, q3⟩ := cq
        clear mp mq gp gq hpe hqe hz0 hk1 hk2
        have hS0 : Below wr.heap.size wr wr.drew := (Below.refl _ _).drew
        have HS : Hid (∀ w', Below wr.heap.size wr w' → (fun w' => Below wr.heap.size wr w' ∧ w'.cell? ⟨b, off + j * 4, none⟩ = some (.int .i64 tp.kind) ∧ w'.cell? ⟨b, off + j * 4 + 1, none⟩ = some (.int .i64 tp.num) ∧ w'.cell? ⟨b, off + j * 4 + 2, none⟩ = some (.string tp.name) ∧ w'.cell? ⟨b, off + j * 4 + 3, none⟩ = some (.slice pa tp.args.length pc) ∧ w'.cell? ⟨b2, off2 + j * 4, none⟩ = some (.int .i64 tq.kind) ∧ w'.cell? ⟨b2, off2 + j * 4 + 1, none⟩ = some (.int .i64 tq.num) ∧ w'.cell? ⟨b2, off2 + j * 4 + 2, none⟩ = some (.string tq.name) ∧ w'.cell? ⟨b2, off2 + j * 4 + 3, none⟩ = some (.slice qa tq.args.length qc)) w') := fun w' h => ⟨h, cell_below h _ _ p0, cell_below h _ _ p1, cell_below h _ _ p2, cell_below h _ _ p3, cell_below h _ _ q0, cell_below h _ _ q1, cell_below h _ _ q2, cell_below h _ _ q3⟩
        cases z
        all_goals
          go_wp2_with fail
          go_region_held3 (fun w' => Below wr.heap.size wr w' ∧ w'.cell? ⟨b, off + j * 4, none⟩ = some (.int .i64 tp.kind) ∧ w'.cell? ⟨b, off + j * 4 + 1, none⟩ = some (.int .i64 tp.num) ∧ w'.cell? ⟨b, off + j * 4 + 2, none⟩ = some (.string tp.name) ∧ w'.cell? ⟨b, off + j * 4 + 3, none⟩ = some (.slice pa tp.args.length pc) ∧ w'.cell? ⟨b2, off2 + j * 4, none⟩ = some (.int .i64 tq.kind) ∧ w'.cell? ⟨b2, off2 + j * 4 + 1, none⟩ = some (.int .i64 tq.num) ∧ w'.cell? ⟨b2, off2 + j * 4 + 2, none⟩ = some (.string tq.name) ∧ w'.cell? ⟨b2, off2 + j * 4 + 3, none⟩ = some (.slice qa tq.args.length qc))
            (first | exact HS.out _ h5 | exact HS.out _ hS0 | assumption | go_keep)
            (first
              | (go_at_call 28; refine (HCC.out _ (by assumption : Below wr.heap.size wr _)).mono ?_; rintro e w4 ⟨rfl, hb4⟩; have h5 : Below wr.heap.size wr w4 := Below.trans (by assumption : Below wr.heap.size wr _) (hb4.mono (Below.size (by assumption : Below wr.heap.size wr _)))))
          have H5 := Lib.hid h5
          clear p0 p1 p2 p3 q0 q1 q2 q3 h5 hS0 HS
          go_wp2_with fail
        · have HE : Hid (R = false) := by
            show _ = _
            rw [← HRR.out, ← Bool.not_eq_true]
            unfold sallB
            rw [Bool.and_eq_true, List.all_eq_true]
            intro h
            have := h.2 j (List.mem_range.2 (by have := HN.out; omega))
            rw [HG.out] at this; cases this
          go_ret
          exact ⟨ret_bool HE.out.symm, hb.out.trans (H5.out.mono hb.out.size)⟩
        · go_roundw
          case rel =>
            refine ⟨j + 1, by omega, by go_num, Lib.hid (hb.out.trans (H5.out.mono hb.out.size)), Lib.hid (fun i hi => ?_)⟩
            by_cases e : i = j
            · subst e; exact HG.out
            · exact hz.out i (by omega)
          case measure => simp [intOf]; omega
      · have HE : Hid (R = true) := by
          show _ = _
          rw [← HRR.out]
          unfold sallB
          rw [Bool.and_eq_true, List.all_eq_true]
          refine ⟨by simp; have := HN.out; have := HM.out; omega, fun k hk => hz.out k ?_⟩
          have := List.mem_range.1 hk
          have := HN.out
          omega
        go_wp2_with fail
        go_ret
        exact ⟨ret_bool HE.out.symm, hb.out⟩
  · have HE : Hid (sallB l m = false) := by
      show _ = _
      unfold sallB
      rw [show decide (l.length = m.length) = false by simp; have := HN.out; have := HM.out; omega]; rfl
    have d1 : ((n : Int) == (n2 : Int)) = false := by simp; omega
    have d2 : ((n : Int) != (n2 : Int)) = true := by simp; omega
    have d3 : ¬ (n : Int) = (n2 : Int) := by omega
    go_enter Tryd.func22, Tryd.ntmps22
    go_wp2_with fail
    go_ret
    exact ⟨ret_bool HE.out.symm, Below.refl _ _⟩

end Go.Proofs.YtehnhjhflaljhaaDoor

/- Sort, Stable, Keys of fewer than 20 terms, the results said. -/
namespace Go.Proofs.YtehnhjhflaljhaaDoor
open Go.RowKit Go.Proofs.HT

theorem CopyE.eq {ts us : List Tm} {c : Int} {w : World} {e : Ending} {w' : World} (h : CopyE ts c w e w') (hT : ts = us) : CopyE us c w e w' := hT ▸ h
theorem Sort_small (b off n cap : Nat) (l : List PV) (w : World) (TS : List Tm) (hT : (cptN eqP (isort cfW 0 (n - 1) 1 l) n).map Prod.fst = TS) (hv : (l.all fun p => validB p.1) = true) (hn : l.length = n) (hn2 : n < 20) (hn0 : 2 ≤ n) (hcap : n ≤ cap) (hrow : RowIn w b off l) (hl : ∀ p ∈ l, LiesT w p.1 p.2) (hp : Places w) :
    Calls Tryd.prog 16 #[.slice (some ⟨b, off, none⟩) n cap] w (CopyE TS 0 w) :=
  (Sort_yes b off n cap l w hn (by omega) hcap hrow hl hp hv (isort cfW 0 (n - 1) 1 l) (by rw [isort_length, hn]) (isort_mem cfW 0 (n - 1) 1 l (by omega)) hn0
    (Lib.hid (fun w1 hb => sorted_whole b off n cap l w1 hn hn2 (hrow.below hb) (fun p hp => ⟨(hl p hp).below hb, val_nodes (List.all_eq_true.1 hv p hp)⟩) (hp.below hb)))).mono (fun _ _ h => h.eq hT)
theorem Stable_small (b off n cap : Nat) (l : List PV) (w : World) (TS : List Tm) (hT : (isort cfW 0 (n - 1) 1 l).map Prod.fst = TS) (hv : (l.all fun p => validB p.1) = true) (hn : l.length = n) (hn2 : n < 20) (hn0 : 0 < n) (hcap : n ≤ cap) (hrow : RowIn w b off l) (hl : ∀ p ∈ l, LiesT w p.1 p.2) (hp : Places w) :
    Calls Tryd.prog 17 #[.slice (some ⟨b, off, none⟩) n cap] w (CopyE TS 0 w) :=
  (Stable_yes b off n cap l w hn (by omega) hcap hrow hl hv (isort cfW 0 (n - 1) 1 l) (by rw [isort_length, hn]) (isort_mem cfW 0 (n - 1) 1 l (by omega)) hn0
    (Lib.hid (fun w1 hb => sorted_whole b off n cap l w1 hn hn2 (hrow.below hb) (fun p hp => ⟨(hl p hp).below hb, val_nodes (List.all_eq_true.1 hv p hp)⟩) (hp.below hb)))).mono (fun _ _ h => h.eq hT)
theorem Keys_small (b off n cap : Nat) (l : List PV) (w : World) (TS : List Tm) (hT : (isort cfK 0 (n - 1) 1 l).map Prod.fst = TS) (hv : (l.all fun p => validB p.1) = true) (hk : (l.all fun p => pairB p.1) = true) (hn : l.length = n) (hn2 : n < 20) (hn0 : 0 < n) (hcap : n ≤ cap) (hrow : RowIn w b off l) (hl : ∀ p ∈ l, LiesT w p.1 p.2) (hp : Places w) :
    Calls Tryd.prog 18 #[.slice (some ⟨b, off, none⟩) n cap] w (CopyE TS 0 w) :=
  (Keys_yes b off n cap l w hn (by omega) hcap hrow hl hv hk (isort cfK 0 (n - 1) 1 l) (by rw [isort_length, hn]) (isort_mem cfK 0 (n - 1) 1 l (by omega)) hn0
    (Lib.hid (fun w1 hb => sorted_key b off n cap l w1 hn hn2 (hrow.below hb) (fun p hp => ⟨(hl p hp).below hb, val_nodes (List.all_eq_true.1 hv p hp)⟩) (hp.below hb) (fun p hp => pairT_of (List.all_eq_true.1 hk p hp))))).mono (fun _ _ h => h.eq hT)
theorem bs_one {l : List PV} {t : Tm} {r r2 : Nat} {o o2 : Bool} (h : BsIs l t r o) (h2 : BsIs l t r2 o2) : r = r2 ∧ o = o2 := by
  have e : r = r2 := by
    obtain ⟨a1, a2, a3, _⟩ := h
    obtain ⟨b1, b2, b3, _⟩ := h2
    by_cases h1 : r < r2
    · have := a3 r (Nat.le_refl _) (by omega); have := b2 r h1; omega
    · by_cases h3 : r2 < r
      · have := b3 r2 (Nat.le_refl _) (by omega); have := a2 r2 h3; omega
      · omega
  subst e
  exact ⟨rfl, h.2.2.2.trans h2.2.2.2.symm⟩
/-- Read off the row. -/
theorem Rank_small (b off n cap : Nat) (l : List PV) (t : Tm) (v : Value) (w : World) (r : Nat) (o : Bool) (hr : BsIs l t r o) (hv : validB t = true) (ha : (l.all fun p => validB p.1) = true) (hi : incB l = true) (hn : l.length = n) (hn2 : n ≤ 1000000) (hcap : n ≤ cap) (hrow : RowIn w b off l) (hl : ∀ p ∈ l, LiesT w p.1 p.2) (hp : Places w) (ht : LiesT w t v) :
    Calls Tryd.prog 26 #[.slice (some ⟨b, off, none⟩) n cap, tv t v] w fun e w' => e = .returned (.tuple #[.int .i64 r, .bool o]) ∧ Below w.heap.size w w' := by
  refine (rank_yes b off n cap l t v w hn hn2 hcap hrow hl hp ht hv ha hi).mono ?_
  rintro e w' ⟨r2, o2, rfl, h, hb⟩
  obtain ⟨rfl, rfl⟩ := bs_one h hr
  exact ⟨rfl, hb⟩
/-- Compared, the result said. -/
theorem Cmp_is (t u : Tm) (q : Int) (hq : cmpV t u = q) (v x : Value) (w : World) (h : LiesT w t v) (hx : LiesT w u x) (hp : Places w) : Calls Tryd.prog 12 #[tv t v, tv u x] w fun e w' => e = .returned (.int .i64 q) ∧ Below w.heap.size w w' := by
  rw [← hq]; exact Cmp_any t u v x w h hx hp
theorem sall_is (b off n cap b2 off2 n2 cap2 : Nat) (l m : List PV) (w : World) (q : Bool) (hq : sallB l m = q) (hn : l.length = n) (hm : m.length = n2) (hn2 : n ≤ 1000000) (hcap : n ≤ cap) (hcap2 : n2 ≤ cap2) (hrow : RowIn w b off l) (hrow2 : RowIn w b2 off2 m) (hl : ∀ p ∈ l, LiesT w p.1 p.2) (hl2 : ∀ p ∈ m, LiesT w p.1 p.2) :
    Calls Tryd.prog 22 #[.slice (some ⟨b, off, none⟩) n cap, .slice (some ⟨b2, off2, none⟩) n2 cap2] w fun e w' => e = .returned (.bool q) ∧ Below w.heap.size w w' := by
  rw [← hq]; exact sall_any b off n cap b2 off2 n2 cap2 l m w hn hm hn2 hcap hcap2 hrow hrow2 hl hl2
theorem row_new {w : World} (cs : Array Value) (l : List PV) (ty : TypeId) (h : cs = (flat l).toArray) : RowIn (w.alloc (.cells cs ty)) w.heap.size 0 l := by
  have h2 : RowAt (w.alloc (.cells cs ty)) w.heap.size l [] ty := by
    unfold RowAt; rw [heap_alloc_new, h, List.append_nil]
  exact RowAt.rowIn h2
theorem bs_ac : BsIs [((.mk 2 0 ⟨#[97]⟩ [] : Tm), (.slice none 0 0 : Value)), (.mk 2 0 ⟨#[99]⟩ [], .slice none 0 0)] (.mk 2 0 ⟨#[98]⟩ []) 1 false := by
  refine ⟨by decide, fun k hk => ?_, fun k h1 h2 => ?_, by rfl⟩
  · obtain rfl : k = 0 := by omega
    decide
  · obtain rfl : k = 1 := by simp at h2; omega
    decide

end Go.Proofs.YtehnhjhflaljhaaDoor

/- Lists of terms as the arguments of a term: how the examples' lists are kept; SameAll over them. -/
namespace Go.Proofs.YtehnhjhflaljhaaDoor
open Go.RowKit Go.Proofs.HT

theorem env_mem {w : World} : ∀ {l : List PV}, EnvT w l → ∀ p ∈ l, LiesT w p.1 p.2
  | [], _, _, hp => by simp at hp
  | x :: l, h, p, hp => by
    rcases List.mem_cons.1 hp with rfl | hp
    · exact h.hd
    · exact env_mem h.tl p hp
theorem row_of_lies {w : World} (b : Nat) : ∀ (ts : List Tm) (o : Nat), LiesL w ts b o → ∃ l : List PV, l.map Prod.fst = ts ∧ RowIn w b o l ∧ ∀ p ∈ l, LiesT w p.1 p.2
  | [], o, _ => ⟨[], rfl, fun j u hj => by simp [flat] at hj, by simp⟩
  | t :: ts, o, h => by
    simp only [LiesL] at h
    obtain ⟨⟨v, h0, h1, h2, h3, hv⟩, hr⟩ := h
    obtain ⟨l, hl, hrow, hm⟩ := row_of_lies b ts (o + 4) hr
    refine ⟨(t, v) :: l, by simp [hl], fun j u hj => ?_, fun p hp => ?_⟩
    · match j, hj with
      | 0, hj => simp [flat] at hj; rw [← hj]; exact h0
      | 1, hj => simp [flat] at hj; rw [← hj]; exact h1
      | 2, hj => simp [flat] at hj; rw [← hj]; exact h2
      | 3, hj => simp [flat] at hj; rw [← hj]; exact h3
      | j + 4, hj =>
        have h4 := hrow j u (by simpa [flat] using hj)
        rw [show o + (j + 4) = o + 4 + j by omega]; exact h4
    · rcases List.mem_cons.1 hp with rfl | hp
      · exact hv
      · exact hm p hp
theorem list_of_copy {ts : List Tm} {c : Int} {w : World} {e : Ending} {w' : World} (h : CopyE ts c w e w') (hn : ts.length ≤ 1000000) : ∃ g, e = .returned (.tuple #[.slice (some ⟨g, 0, none⟩) ts.length ts.length, .int .i64 c]) ∧ LiesT w' (.mk 3 0 ⟨#[]⟩ ts) (.slice (some ⟨g, 0, none⟩) ts.length ts.length) ∧ Below w.heap.size w w' := by
  obtain ⟨g, l', rfl, h1, h2, h3, h4, h5, h6⟩ := h
  refine ⟨g, rfl, ?_, h6⟩
  unfold LiesT
  refine ⟨⟨by omega, by omega⟩, ⟨by omega, by omega⟩, by simp [ByteArray.size], .inr ⟨⟨g, 0, none⟩, ts.length, rfl, Nat.le_refl _, by omega, .inr rfl, ?_⟩⟩
  rw [← h1]
  exact LiesL.of_cells l' 0 (fun k u hk => RowAt.rowIn h4 k u hk) (fun p hp => OwnT.lies _ _ (h5 p hp))
def sallT (ts us : List Tm) : Bool := decide (ts.length = us.length) && (List.range ts.length).all fun k => sameV (ts.getD k dflt.1) (us.getD k dflt.1)
theorem sallT_eq (l m : List PV) : sallB l m = sallT (l.map Prod.fst) (m.map Prod.fst) := by
  unfold sallB sallT
  have e : ∀ (l : List PV) k, (l.map Prod.fst).getD k dflt.1 = (l.getD k dflt).1 := fun l k => by
    simp only [List.getD, List.getElem?_map]
    cases l[k]? <;> rfl
  simp only [List.length_map, e]
theorem sall_T (ts us : List Tm) (q : Bool) (hq : sallT ts us = q) (b b2 c c2 : Nat) (w : World) (hn : ts.length ≤ 1000000) (h : LiesT w (.mk 3 0 ⟨#[]⟩ ts) (.slice (some ⟨b, 0, none⟩) ts.length c)) (h2 : LiesT w (.mk 3 0 ⟨#[]⟩ us) (.slice (some ⟨b2, 0, none⟩) us.length c2)) :
    Calls Tryd.prog 22 #[.slice (some ⟨b, 0, none⟩) ts.length c, .slice (some ⟨b2, 0, none⟩) us.length c2] w fun e w' => e = .returned (.bool q) ∧ Below w.heap.size w w' := by
  have key : ∀ (ts : List Tm) (b c : Nat), LiesT w (.mk 3 0 ⟨#[]⟩ ts) (.slice (some ⟨b, 0, none⟩) ts.length c) → LiesL w ts b 0 ∧ ts.length ≤ c := fun ts b c h => by
    simp only [LiesT] at h
    rcases h.2.2.2 with ⟨_, h0⟩ | ⟨a, cap, e, h3, _, _, h4⟩
    · cases h0
    · cases e; exact ⟨h4, h3⟩
  obtain ⟨l, hl, hr, hm⟩ := row_of_lies b ts 0 (key ts b c h).1
  obtain ⟨l2, hl2, hr2, hm2⟩ := row_of_lies b2 us 0 (key us b2 c2 h2).1
  have e1 : l.length = ts.length := by rw [← hl, List.length_map]
  have e2 : l2.length = us.length := by rw [← hl2, List.length_map]
  have hs : sallB l l2 = q := by rw [sallT_eq, hl, hl2]; exact hq
  exact sall_is b 0 ts.length c b2 0 us.length c2 l l2 w q hs e1 e2 hn (key ts b c h).2 (key us b2 c2 h2).2 hr hr2 hm hm2

end Go.Proofs.YtehnhjhflaljhaaDoor
