/- slices.CompactFunc over a row of terms. -/
import Derived.Test.YtehnhjhflaljhaaDoorKB
import Derived.Test.YtehnhjhflaljhaaDoorG6
namespace Go.Proofs.YtehnhjhflaljhaaDoor
open Go.RowKit Go.Proofs.HT

/-- Of the first elements those that differ from the one ahead of them. -/
def cptN (eq : PV → PV → Bool) (l : List PV) : Nat → List PV
  | 0 => []
  | 1 => l.take 1
  | i + 2 => if eq (l.getD (i + 1) dflt) (l.getD i dflt) = true then cptN eq l (i + 1) else cptN eq l (i + 1) ++ [l.getD (i + 1) dflt]
theorem cptN_same {eq : PV → PV → Bool} {l : List PV} {i : Nat} (h1 : 1 ≤ i) (h : eq (l.getD i dflt) (l.getD (i - 1) dflt) = true) : cptN eq l (i + 1) = cptN eq l i := by
  obtain ⟨i, rfl⟩ : ∃ j, i = j + 1 := ⟨i - 1, by omega⟩
  rw [cptN, if_pos (by simpa using h)]
theorem cptN_next {eq : PV → PV → Bool} {l : List PV} {i : Nat} (h1 : 1 ≤ i) (h : eq (l.getD i dflt) (l.getD (i - 1) dflt) = false) : cptN eq l (i + 1) = cptN eq l i ++ [l.getD i dflt] := by
  obtain ⟨i, rfl⟩ : ∃ j, i = j + 1 := ⟨i - 1, by omega⟩
  rw [cptN, if_neg (by rw [Nat.add_sub_cancel] at h; rw [h]; simp)]
theorem RowAt.cells2 {w : World} {b : Nat} {l : List PV} {pad : List Value} {ty : TypeId} (h : RowAt w b l pad ty) (i j : Nat) (hj : i + j < l.length) :
    w.cell? ⟨b, i * 4 + j * 4, none⟩ = some (.int .i64 l[i + j].1.kind) ∧ w.cell? ⟨b, i * 4 + j * 4 + 1, none⟩ = some (.int .i64 l[i + j].1.num) ∧ w.cell? ⟨b, i * 4 + j * 4 + 2, none⟩ = some (.string l[i + j].1.name) ∧ w.cell? ⟨b, i * 4 + j * 4 + 3, none⟩ = some l[i + j].2 := by
  rw [show i * 4 + j * 4 = (i + j) * 4 by omega]; exact h.cells _ hj
theorem flat_take (l : List PV) (K : Nat) (h : K ≤ l.length) : (flat l).take (K * 4) = flat (l.take K) := by
  have e : flat l = flat (l.take K) ++ flat (l.drop K) := by rw [← flat_append, List.take_append_drop]
  have hl : (flat (l.take K)).length = K * 4 := by rw [flat_length, List.length_take, Nat.min_eq_left h]
  rw [e, List.take_left' hl]
theorem splice_row (m : List PV) (pad : List Value) (K n : Nat) (hm : m.length = n) (hK : K ≤ n) : splice (flat m ++ pad) (K * 4) (flat (List.replicate (n - K) dflt)) = flat (m.take K ++ List.replicate (n - K) dflt) ++ pad := by
  have h1 := flat_length m
  have h2 := flat_length (List.replicate (n - K) dflt)
  rw [List.length_replicate] at h2
  have hd : (flat m ++ pad).drop (K * 4 + (n - K) * 4) = pad := List.drop_left' (by omega)
  unfold splice
  rw [List.take_append_of_le_length (by omega), flat_take m K (by omega), h2, hd, flat_append, List.append_assoc]
theorem zero_row (m : Nat) : (Builtin.zeroCells (Value.agg #[.int .i64 0, .int .i64 0, .string ⟨#[]⟩, .slice none 0 0]).cells m).toList = flat (List.replicate m dflt) := by
  have h := flat_zero m
  have e : Builtin.zeroCells (Value.agg #[.int .i64 0, .int .i64 0, .string ⟨#[]⟩, .slice none 0 0]).cells m = mk0 m := rfl
  rw [e, h]
theorem take_set_next : ∀ (m : List PV) (K : Nat) (_ : K < m.length) (p : PV), (m.set K p).take (K + 1) = m.take K ++ [p]
  | [], _, h, _ => by simp at h
  | q :: m, 0, _, p => by simp
  | q :: m, K + 1, h, p => by simp [take_set_next m K (by simpa using h) p]
/-- The row behind the compaction. -/
def cptRow (eq : PV → PV → Bool) (l : List PV) : List PV := cptN eq l l.length ++ List.replicate (l.length - (cptN eq l l.length).length) dflt
theorem eqF_any (t u : Tm) (v x : Value) (w : World) (h : LiesT w t v) (hx : LiesT w u x) (nt : nodesB t = true) (nu : nodesB u = true) (hp : Places w) : Calls Tryd.prog 44 #[tv t v, tv u x] w fun e w' => e = .returned (.bool (cT t u == 0)) ∧ Below w.heap.size w w' := by
  obtain ⟨q, hq⟩ : ∃ q, cT t u = q := ⟨_, rfl⟩
  rw [hq]
  have HC3 : Hid (∀ w, LiesT w t v → LiesT w u x → Places w → Calls Tryd.prog 37 #[tv t v, tv u x] w fun e w' => e = .returned (.int .i64 q) ∧ Below w.heap.size w w') := fun w h1 h2 h3 => by rw [← hq]; exact compare_any _ _ v x w h1 h2 nt nu h3
  have HX := Lib.hid (fun o1 o2 => boxesC h hx o1 o2)
  have HP := Lib.hid hp
  clear h hx hp hq
  simp only [tv]
  go_enter Tryd.func44, Tryd.ntmps44
  go_wp2_with (first | (go_at_call 37; refine (HC3.out _ (HX.out _ _).1 (HX.out _ _).2.1 (HP.out.below (HX.out _ _).2.2.1)).mono ?_; rintro e w1 ⟨rfl, hb1⟩))
  go_ret
  exact ⟨rfl, (HX.out _ _).2.2.1.trans (hb1.mono (HX.out _ _).2.2.1.size)⟩

set_option maxRecDepth 200000 in
set_option maxHeartbeats 8000000 in
theorem compact_any (g n cap : Nat) (eq : PV → PV → Bool) (l : List PV) (pad : List Value) (w : World) (hrow : RowAt w g l pad 24) (hn : l.length = n) (hcap : n ≤ cap) (hn2 : n ≤ 1000000) (hn1 : 2 ≤ n)
    (HV : Hid (∀ p ∈ l, ∃ a c, p.2 = .slice a p.1.args.length c))
    (HC : Hid (∀ p ∈ l, ∀ q ∈ l, ∀ w', Near g w w' → Calls Tryd.prog 44 #[tv p.1 p.2, tv q.1 q.2] w' fun e w'' => e = .returned (.bool (eq p q)) ∧ Below w'.heap.size w' w'')) :
    Calls Tryd.prog 41 #[.slice (some ⟨g, 0, none⟩) n cap, .func (.func 44) #[] #[]] w fun e w' => ∃ m : Nat, e = .returned (.slice (some ⟨g, 0, none⟩) m cap) ∧ m = (cptN eq l n).length ∧ m ≤ n ∧ RowAt w' g (cptN eq l n ++ List.replicate (n - m) dflt) pad 24 ∧ Near g w w' := by
  have HROW := Lib.hid hrow
  have HN := Lib.hid hn
  clear hrow hn
  have d0 : decide ((n : Int) < 2) = false := by simp; omega
  have d00 : (2 : Int) ≤ (n : Int) := by omega
  have HC1 : Hid (cptN eq l 1 = l.take 1) := by rfl
  go_enter Tryd.func41, Tryd.ntmps41
  go_wp2_with fail
  go_loopw [5] (fun i wr => ∃ k : Nat, k + 1 ≤ n ∧ i = .int .i64 ((k : Int) + 1) ∧ Hid (RowAt wr g l pad 24) ∧ Hid (Near g w wr) ∧ Hid (cptN eq l (k + 1) = l.take (k + 1))) (fun i _ => n - (intOf i).toNat)
  case atStart => exact ⟨0, by omega, rfl, HROW, Lib.hid (Near.refl _ _), HC1⟩
  case round =>
    obtain ⟨k, hk, rfl, hr, hnr, hc⟩ := hrel
    have v0 : (0 : Int) ≤ (k : Int) + 1 := by omega
    by_cases hlt : k + 1 < n
    · have hk1 : k + 1 < l.length := by have := HN.out; omega
      have hk0 : k < l.length := by have := HN.out; omega
      have cp := hr.out.cells (k + 1) hk1
      have cq := hr.out.cells (k) hk0
      have mp : l[k + 1] ∈ l := List.getElem_mem _
      have mq : l[k] ∈ l := List.getElem_mem _
      have gp := getD_at l (k + 1) hk1
      have gq := getD_at l (k) hk0
      obtain ⟨pp, hpe⟩ : ∃ p, l[k + 1] = p := ⟨_, rfl⟩
      obtain ⟨qq, hqe⟩ : ∃ p, l[k] = p := ⟨_, rfl⟩
      rw [hpe] at cp mp gp
      rw [hqe] at cq mq gq
      obtain ⟨tp, vp⟩ := pp
      obtain ⟨tq, vq⟩ := qq
      obtain ⟨pa, pc, ev⟩ := HV.out _ mp
      obtain rfl : vp = .slice pa tp.args.length pc := ev
      obtain ⟨qa, qc, ev⟩ := HV.out _ mq
      obtain rfl : vq = .slice qa tq.args.length qc := ev
      obtain ⟨z, hz⟩ : ∃ z, eq (tp, .slice pa tp.args.length pc) (tq, .slice qa tq.args.length qc) = z := ⟨_, rfl⟩
      have HCC : Hid (∀ w', Near g w w' → Calls Tryd.prog 44 #[tv tp (.slice pa tp.args.length pc), tv tq (.slice qa tq.args.length qc)] w' fun e w'' => e = .returned (.bool z) ∧ Below w'.heap.size w' w'') := fun w' h => by rw [← hz]; exact HC.out _ mp _ mq w' h
      have HG : Hid (eq (l.getD (k + 1) dflt) (l.getD (k) dflt) = z ∧ l.getD (k + 1) dflt = (tp, .slice pa tp.args.length pc)) := Lib.hid ⟨by rw [gp, gq]; exact hz, gp⟩
      obtain ⟨p0, p1, p2, p3⟩ := cp
      obtain ⟨q0, q1, q2, q3⟩ := cq
      clear mp mq gp gq hpe hqe hz hk1 hk0
      have hS0 : Below wr.heap.size wr wr.drew := (Below.refl _ _).drew
      have HS : Hid (∀ w', Below wr.heap.size wr w' → (fun w' => Below wr.heap.size wr w' ∧ w'.cell? ⟨g, (k + 1) * 4, none⟩ = some (.int .i64 tp.kind) ∧ w'.cell? ⟨g, (k + 1) * 4 + 1, none⟩ = some (.int .i64 tp.num) ∧ w'.cell? ⟨g, (k + 1) * 4 + 2, none⟩ = some (.string tp.name) ∧ w'.cell? ⟨g, (k + 1) * 4 + 3, none⟩ = some (.slice pa tp.args.length pc) ∧ w'.cell? ⟨g, k * 4, none⟩ = some (.int .i64 tq.kind) ∧ w'.cell? ⟨g, k * 4 + 1, none⟩ = some (.int .i64 tq.num) ∧ w'.cell? ⟨g, k * 4 + 2, none⟩ = some (.string tq.name) ∧ w'.cell? ⟨g, k * 4 + 3, none⟩ = some (.slice qa tq.args.length qc)) w') := fun w' h => ⟨h, cell_below h _ _ p0, cell_below h _ _ p1, cell_below h _ _ p2, cell_below h _ _ p3, cell_below h _ _ q0, cell_below h _ _ q1, cell_below h _ _ q2, cell_below h _ _ q3⟩
      have d1 : decide ((k : Int) + 1 < (n : Int)) = true := by simp; omega
      have b1 : (k : Int) + 1 < (n : Int) := by omega
      have b2 : (k : Int) < (n : Int) := by omega
      have w1 : IntKind.i64.wrap ((k : Int) + 1 - 1) = (k : Int) := by rw [show (k : Int) + 1 - 1 = (k : Int) by omega]; exact IntWalk.i64_in _ (by omega)
      have w3 : (k : Int) + 1 - 1 = (k : Int) := by omega
      have w4 : IntKind.i64.wrap (k : Int) = (k : Int) := IntWalk.i64_in _ (by omega)
      cases z
      · go_wp2_with fail
        go_region_held3 (fun w' => Below wr.heap.size wr w' ∧ w'.cell? ⟨g, (k + 1) * 4, none⟩ = some (.int .i64 tp.kind) ∧ w'.cell? ⟨g, (k + 1) * 4 + 1, none⟩ = some (.int .i64 tp.num) ∧ w'.cell? ⟨g, (k + 1) * 4 + 2, none⟩ = some (.string tp.name) ∧ w'.cell? ⟨g, (k + 1) * 4 + 3, none⟩ = some (.slice pa tp.args.length pc) ∧ w'.cell? ⟨g, k * 4, none⟩ = some (.int .i64 tq.kind) ∧ w'.cell? ⟨g, k * 4 + 1, none⟩ = some (.int .i64 tq.num) ∧ w'.cell? ⟨g, k * 4 + 2, none⟩ = some (.string tq.name) ∧ w'.cell? ⟨g, k * 4 + 3, none⟩ = some (.slice qa tq.args.length qc))
          (first | exact HS.out _ h5 | exact HS.out _ hS0 | assumption | go_keep)
          (first
            | (go_at_call 44; refine (HCC.out _ (hnr.out.trans (Near.of_below (by assumption : Below wr.heap.size wr _)))).mono ?_; rintro e w4 ⟨rfl, hb4⟩; have h5 : Below wr.heap.size wr w4 := Below.trans (by assumption : Below wr.heap.size wr _) (hb4.mono (Below.size (by assumption : Below wr.heap.size wr _)))))
        have RW := Lib.hid (hr.out.keep h5)
        have N4 := Lib.hid (hnr.out.trans (Near.of_below h5))
        clear p0 p1 p2 p3 q0 q1 q2 q3 h5 hS0 HS
        go_wp2_with fail
        go_roundw
        case rel =>
          refine ⟨k + 1, by omega, by go_num, RW, N4, Lib.hid ?_⟩
          have hkl : k + 1 < l.length := by have := HN.out; omega
          have h1 : l.take (k + 1 + 1) = l.take (k + 1) ++ [l[k + 1]] := List.take_succ_eq_append_getElem hkl
          rw [cptN_next (by omega) (by rw [Nat.add_sub_cancel]; exact HG.out.1), hc.out, getD_at l (k + 1) hkl]
          exact h1.symm
        case measure => simp [intOf]; omega
      · go_wp2_with fail
        go_region_held3 (fun w' => Below wr.heap.size wr w' ∧ w'.cell? ⟨g, (k + 1) * 4, none⟩ = some (.int .i64 tp.kind) ∧ w'.cell? ⟨g, (k + 1) * 4 + 1, none⟩ = some (.int .i64 tp.num) ∧ w'.cell? ⟨g, (k + 1) * 4 + 2, none⟩ = some (.string tp.name) ∧ w'.cell? ⟨g, (k + 1) * 4 + 3, none⟩ = some (.slice pa tp.args.length pc) ∧ w'.cell? ⟨g, k * 4, none⟩ = some (.int .i64 tq.kind) ∧ w'.cell? ⟨g, k * 4 + 1, none⟩ = some (.int .i64 tq.num) ∧ w'.cell? ⟨g, k * 4 + 2, none⟩ = some (.string tq.name) ∧ w'.cell? ⟨g, k * 4 + 3, none⟩ = some (.slice qa tq.args.length qc))
          (first | exact HS.out _ h5 | exact HS.out _ hS0 | assumption | go_keep)
          (first
            | (go_at_call 44; refine (HCC.out _ (hnr.out.trans (Near.of_below (by assumption : Below wr.heap.size wr _)))).mono ?_; rintro e w4 ⟨rfl, hb4⟩; have h5 : Below wr.heap.size wr w4 := Below.trans (by assumption : Below wr.heap.size wr _) (hb4.mono (Below.size (by assumption : Below wr.heap.size wr _)))))
        have RW := Lib.hid (hr.out.keep h5)
        have N4 := Lib.hid (hnr.out.trans (Near.of_below h5))
        have CE : Hid (cptN eq l (k + 2) = l.take (k + 1)) := by
          show _ = _
          rw [cptN_same (by omega) (by rw [Nat.add_sub_cancel]; exact HG.out.1)]; exact hc.out
        have b4 : (k : Int) + 1 ≤ (n : Int) := by omega
        have b5 : (k : Int) + 1 ≤ (cap : Int) := by omega
        clear HCC HG p0 p1 p2 p3 q0 q1 q2 q3 h5 hS0 HS
        go_wp2_with fail
        generalize hs : n - (k + 1) = s
        generalize hc2 : cap - (k + 1) = c2
        have HSS := Lib.hid hs
        clear hs hc2
        go_loopw [5, 7] (fun vk vj wr => ∃ (K j : Nat) (m : List PV), 1 ≤ j ∧ j ≤ s ∧ K ≤ k + j ∧ vk = .int .i64 K ∧ vj = .int .i64 j ∧ Hid (RowAt wr g m pad 24) ∧ Hid (Near g w wr) ∧ Hid (m.length = n ∧ (∀ i, k + j ≤ i → i < n → m.getD i dflt = l.getD i dflt) ∧ m.take K = cptN eq l (k + 1 + j) ∧ K = (cptN eq l (k + 1 + j)).length)) (fun _ vj _ => s - (intOf vj).toNat)
        case atStart =>
          refine ⟨k + 1, 1, l, by omega, by have := HSS.out; omega, by omega, by go_num, rfl, RW, N4, Lib.hid ⟨HN.out, fun _ _ _ => rfl, CE.out.symm, ?_⟩⟩
          rw [CE.out, List.length_take]; have := HN.out; omega
        case round =>
          obtain ⟨K, j, m, hj1, hj2, hKj, rfl, rfl, hr, hnr, hm⟩ := hrel
          have hr : Hid (RowAt wr g m pad 24) := hr
          have hss := HSS.out
          have hsn : s ≤ n := by omega
          have hkn : k + 1 + s = n := by omega
          by_cases hjs : j < s
          · obtain ⟨j, rfl⟩ : ∃ j', j = j' + 1 := ⟨j - 1, by omega⟩
            have hm1 := hm.out
            have hkk := HN.out
            have hk1 : (k + 1) + (j + 1) < m.length := by omega
            have hk0 : (k + 1) + j < m.length := by omega
            have cp := RowAt.cells2 (w := wr) (b := g) (l := m) (pad := pad) (ty := 24) hr.out (k + 1) (j + 1) hk1
            have cq := RowAt.cells2 (w := wr) (b := g) (l := m) (pad := pad) (ty := 24) hr.out (k + 1) j hk0
            have gp := hm1.2.1 ((k + 1) + (j + 1)) (by omega) (by omega)
            have gq := hm1.2.1 ((k + 1) + j) (by omega) (by omega)
            rw [getD_at m _ hk1] at gp
            rw [getD_at m _ hk0] at gq
            have mp : m[(k + 1) + (j + 1)] ∈ l := by rw [gp, getD_at l _ (by omega)]; exact List.getElem_mem _
            have mq : m[(k + 1) + j] ∈ l := by rw [gq, getD_at l _ (by omega)]; exact List.getElem_mem _
            obtain ⟨pp, hpe⟩ : ∃ p, m[(k + 1) + (j + 1)] = p := ⟨_, rfl⟩
            obtain ⟨qq, hqe⟩ : ∃ p, m[(k + 1) + j] = p := ⟨_, rfl⟩
            rw [hpe] at cp mp gp
            rw [hqe] at cq mq gq
            obtain ⟨tp, vp⟩ := pp
            obtain ⟨tq, vq⟩ := qq
            obtain ⟨pa, pc, ev⟩ := HV.out _ mp
            obtain rfl : vp = .slice pa tp.args.length pc := ev
            obtain ⟨qa, qc, ev⟩ := HV.out _ mq
            obtain rfl : vq = .slice qa tq.args.length qc := ev
            obtain ⟨z, hz⟩ : ∃ z, eq (tp, .slice pa tp.args.length pc) (tq, .slice qa tq.args.length qc) = z := ⟨_, rfl⟩
            have HCC : Hid (∀ w', Near g w w' → Calls Tryd.prog 44 #[tv tp (.slice pa tp.args.length pc), tv tq (.slice qa tq.args.length qc)] w' fun e w'' => e = .returned (.bool z) ∧ Below w'.heap.size w' w'') := fun w' h => by rw [← hz]; exact HC.out _ mp _ mq w' h
            have HG1 : Hid (eq (l.getD (k + 1 + (j + 1)) dflt) (l.getD (k + 1 + j) dflt) = z ∧ l.getD (k + 1 + (j + 1)) dflt = (tp, .slice pa tp.args.length pc)) := Lib.hid ⟨by rw [← gp, ← gq]; exact hz, gp.symm⟩
            obtain ⟨p0, p1, p2, p3⟩ := cp
            obtain ⟨q0, q1, q2, q3⟩ := cq
            have hKn : K < n := by omega
            clear mp mq gp gq hpe hqe hz hk1 hk0 hm1 hkk hss hkn
            have hS0 : Below wr.heap.size wr wr.drew := (Below.refl _ _).drew
            have HS : Hid (∀ w', Below wr.heap.size wr w' → (fun w' => Below wr.heap.size wr w' ∧ w'.cell? ⟨g, (k + 1) * 4 + (j + 1) * 4, none⟩ = some (.int .i64 tp.kind) ∧ w'.cell? ⟨g, (k + 1) * 4 + (j + 1) * 4 + 1, none⟩ = some (.int .i64 tp.num) ∧ w'.cell? ⟨g, (k + 1) * 4 + (j + 1) * 4 + 2, none⟩ = some (.string tp.name) ∧ w'.cell? ⟨g, (k + 1) * 4 + (j + 1) * 4 + 3, none⟩ = some (.slice pa tp.args.length pc) ∧ w'.cell? ⟨g, (k + 1) * 4 + j * 4, none⟩ = some (.int .i64 tq.kind) ∧ w'.cell? ⟨g, (k + 1) * 4 + j * 4 + 1, none⟩ = some (.int .i64 tq.num) ∧ w'.cell? ⟨g, (k + 1) * 4 + j * 4 + 2, none⟩ = some (.string tq.name) ∧ w'.cell? ⟨g, (k + 1) * 4 + j * 4 + 3, none⟩ = some (.slice qa tq.args.length qc)) w') := fun w' h => ⟨h, cell_below h _ _ p0, cell_below h _ _ p1, cell_below h _ _ p2, cell_below h _ _ p3, cell_below h _ _ q0, cell_below h _ _ q1, cell_below h _ _ q2, cell_below h _ _ q3⟩
            have e1 : decide ((j : Int) + 1 < (s : Int)) = true := by simp; omega
            have x0 : (0 : Int) ≤ (j : Int) + 1 := by omega
            have x1 : (j : Int) + 1 < (s : Int) := by omega
            have x2 : (j : Int) < (s : Int) := by omega
            have x3 : IntKind.i64.wrap ((j : Int) + 1 - 1) = (j : Int) := by rw [show (j : Int) + 1 - 1 = (j : Int) by omega]; exact IntWalk.i64_in _ (by omega)
            have x4 : (j : Int) + 1 - 1 = (j : Int) := by omega
            have x5 : IntKind.i64.wrap (j : Int) = (j : Int) := IntWalk.i64_in _ (by omega)
            have x6 : (K : Int) < (n : Int) := by omega
            have y1 : -9223372036854775808 ≤ (K : Int) + 1 := by omega
            have y2 : (K : Int) + 1 ≤ 9223372036854775807 := by omega
            have y3 : -9223372036854775808 ≤ (j : Int) + 1 + 1 := by omega
            have y4 : (j : Int) + 1 + 1 ≤ 9223372036854775807 := by omega
            cases z
            · go_wp2_with fail
              go_region_held3 (fun w' => Below wr.heap.size wr w' ∧ w'.cell? ⟨g, (k + 1) * 4 + (j + 1) * 4, none⟩ = some (.int .i64 tp.kind) ∧ w'.cell? ⟨g, (k + 1) * 4 + (j + 1) * 4 + 1, none⟩ = some (.int .i64 tp.num) ∧ w'.cell? ⟨g, (k + 1) * 4 + (j + 1) * 4 + 2, none⟩ = some (.string tp.name) ∧ w'.cell? ⟨g, (k + 1) * 4 + (j + 1) * 4 + 3, none⟩ = some (.slice pa tp.args.length pc) ∧ w'.cell? ⟨g, (k + 1) * 4 + j * 4, none⟩ = some (.int .i64 tq.kind) ∧ w'.cell? ⟨g, (k + 1) * 4 + j * 4 + 1, none⟩ = some (.int .i64 tq.num) ∧ w'.cell? ⟨g, (k + 1) * 4 + j * 4 + 2, none⟩ = some (.string tq.name) ∧ w'.cell? ⟨g, (k + 1) * 4 + j * 4 + 3, none⟩ = some (.slice qa tq.args.length qc))
                (first | exact HS.out _ h5 | exact HS.out _ hS0 | assumption | go_keep)
                (first
                  | (go_at_call 44; refine (HCC.out _ (hnr.out.trans (Near.of_below (by assumption : Below wr.heap.size wr _)))).mono ?_; rintro e w4 ⟨rfl, hb4⟩; have h5 : Below wr.heap.size wr w4 := Below.trans (by assumption : Below wr.heap.size wr _) (hb4.mono (Below.size (by assumption : Below wr.heap.size wr _)))))
              have RW := Lib.hid (RowAt.keep (w := wr) (b := g) (l := m) (pad := pad) (ty := 24) hr.out h5)
              have N4 := Lib.hid (hnr.out.trans (Near.of_below h5))
              have s0 := cell_below h5 _ _ p0
              have s1b := cell_below h5 _ _ p1
              have s2b := cell_below h5 _ _ p2
              have s3b := cell_below h5 _ _ p3
              have f0 := frozen_of_row _ _ (K * 4) _ _ RW.out
              have f1 := frozen_of_row _ _ (K * 4 + 1) _ _ RW.out
              have f2 := frozen_of_row _ _ (K * 4 + 2) _ _ RW.out
              have f3 := frozen_of_row _ _ (K * 4 + 3) _ _ RW.out
              have hKm : K < m.length := by have := hm.out.1; omega
              obtain ⟨g0, c0⟩ : ∃ v, w4.cell? ⟨g, K * 4, none⟩ = some v := ⟨_, (RW.out.cells K hKm).1⟩
              obtain ⟨g1, c1⟩ : ∃ v, w4.cell? ⟨g, K * 4 + 1, none⟩ = some v := ⟨_, (RW.out.cells K hKm).2.1⟩
              obtain ⟨g2, c2⟩ : ∃ v, w4.cell? ⟨g, K * 4 + 2, none⟩ = some v := ⟨_, (RW.out.cells K hKm).2.2.1⟩
              obtain ⟨g3, c3⟩ : ∃ v, w4.cell? ⟨g, K * 4 + 3, none⟩ = some v := ⟨_, (RW.out.cells K hKm).2.2.2⟩
              clear p0 p1 p2 p3 q0 q1 q2 q3 h5 hS0 HS hKm
              go_wp2_with fail
              go_roundw
              case rel =>
                have hmm := hm.out
                have hKm : K < m.length := by omega
                have hcp : cptN eq l (k + 1 + (j + 1) + 1) = cptN eq l (k + 1 + (j + 1)) ++ [(tp, .slice pa tp.args.length pc)] := by
                  rw [cptN_next (by omega) (by rw [show k + 1 + (j + 1) - 1 = k + 1 + j by omega]; exact HG1.out.1), HG1.out.2]
                refine ⟨K + 1, j + 1 + 1, m.set K (tp, .slice pa tp.args.length pc), by omega, by omega, by omega, by go_num, by go_num, Lib.hid (RowAt.set RW.out K hKm (tp, .slice pa tp.args.length pc)), Lib.hid (N4.out.trans (RowAt.near K (tp, .slice pa tp.args.length pc))), Lib.hid ⟨by rw [List.length_set]; exact hmm.1, fun i h1 h2 => ?_, ?_, ?_⟩⟩
                · rw [← hmm.2.1 i (by omega) h2]
                  simp [List.getD, List.getElem?_set_ne (show K ≠ i by omega)]
                · rw [show k + 1 + (j + 1 + 1) = k + 1 + (j + 1) + 1 by omega, hcp, ← hmm.2.2.1]
                  exact take_set_next m K hKm _
                · rw [show k + 1 + (j + 1 + 1) = k + 1 + (j + 1) + 1 by omega, hcp, List.length_append, ← hmm.2.2.2]; rfl
              case measure => simp [intOf]; omega
            · go_wp2_with fail
              go_region_held3 (fun w' => Below wr.heap.size wr w' ∧ w'.cell? ⟨g, (k + 1) * 4 + (j + 1) * 4, none⟩ = some (.int .i64 tp.kind) ∧ w'.cell? ⟨g, (k + 1) * 4 + (j + 1) * 4 + 1, none⟩ = some (.int .i64 tp.num) ∧ w'.cell? ⟨g, (k + 1) * 4 + (j + 1) * 4 + 2, none⟩ = some (.string tp.name) ∧ w'.cell? ⟨g, (k + 1) * 4 + (j + 1) * 4 + 3, none⟩ = some (.slice pa tp.args.length pc) ∧ w'.cell? ⟨g, (k + 1) * 4 + j * 4, none⟩ = some (.int .i64 tq.kind) ∧ w'.cell? ⟨g, (k + 1) * 4 + j * 4 + 1, none⟩ = some (.int .i64 tq.num) ∧ w'.cell? ⟨g, (k + 1) * 4 + j * 4 + 2, none⟩ = some (.string tq.name) ∧ w'.cell? ⟨g, (k + 1) * 4 + j * 4 + 3, none⟩ = some (.slice qa tq.args.length qc))
                (first | exact HS.out _ h5 | exact HS.out _ hS0 | assumption | go_keep)
                (first
                  | (go_at_call 44; refine (HCC.out _ (hnr.out.trans (Near.of_below (by assumption : Below wr.heap.size wr _)))).mono ?_; rintro e w4 ⟨rfl, hb4⟩; have h5 : Below wr.heap.size wr w4 := Below.trans (by assumption : Below wr.heap.size wr _) (hb4.mono (Below.size (by assumption : Below wr.heap.size wr _)))))
              have RW := Lib.hid (RowAt.keep (w := wr) (b := g) (l := m) (pad := pad) (ty := 24) hr.out h5)
              have N4 := Lib.hid (hnr.out.trans (Near.of_below h5))
              clear p0 p1 p2 p3 q0 q1 q2 q3 h5 hS0 HS
              go_wp2_with fail
              go_roundw
              case rel =>
                have hmm := hm.out
                have hcp : cptN eq l (k + 1 + (j + 1) + 1) = cptN eq l (k + 1 + (j + 1)) := cptN_same (by omega) (by rw [show k + 1 + (j + 1) - 1 = k + 1 + j by omega]; exact HG1.out.1)
                refine ⟨K, j + 1 + 1, m, by omega, by omega, by omega, rfl, by go_num, RW, N4, Lib.hid ⟨hmm.1, fun i h1 h2 => hmm.2.1 i (by omega) h2, ?_, ?_⟩⟩
                · rw [show k + 1 + (j + 1 + 1) = k + 1 + (j + 1) + 1 by omega, hcp]; exact hmm.2.2.1
                · rw [show k + 1 + (j + 1 + 1) = k + 1 + (j + 1) + 1 by omega, hcp]; exact hmm.2.2.2
              case measure => simp [intOf]; omega
          · have e : k + 1 + j = n := by omega
            have hmm := hm.out
            rw [e] at hmm
            have HMM := Lib.hid hmm
            have hKn : K < n := by omega
            have e1 : decide ((j : Int) < (s : Int)) = false := by simp; omega
            have x6 : (K : Int) < (n : Int) := by omega
            have x7 : (K : Int) ≤ (n : Int) := by omega
            have x8 : (K : Int) ≤ (cap : Int) := by omega
            have HZ := Lib.hid (zero_row (n - K))
            have HSP := Lib.hid (splice_row m pad K n hmm.1 (by omega))
            have HF : Hid (K * 4 + (flat (List.replicate (n - K) dflt)).length ≤ (flat m ++ pad).length) := by
              show _ ≤ _
              rw [flat_length, List.length_append, flat_length, List.length_replicate, hmm.1]; omega
            have HON : Hid (∀ v ∈ flat (List.replicate (n - K) dflt), v.oneCell' = true) := flat_one _ (fun p hp => by
              rw [List.mem_replicate] at hp; rw [hp.2]; exact ⟨none, 0, rfl⟩)
            clear hmm hm e hss hkn
            go_wp2_with (refine Go.Proofs.HG.wpList_clear_k rfl (.tmp 61) 22 rfl 24 (.agg #[.int .i64 0, .int .i64 0, .string ⟨#[]⟩, .slice none 0 0]) under22 (fun w => by kernel_rfl) g (K * 4) (n - K) _ (by omega) rfl (flat m ++ pad) 24 hr.out (flat (List.replicate (n - K) dflt)) HZ.out HON.out HF.out 0 wr (Below.refl 0 wr) (Nat.zero_le _) ?_; intro w4 hg4 ho4 hb4)
            go_ret
            have hlen : (cptN eq l n).length = K := HMM.out.2.2.2.symm
            refine ⟨K, rfl, hlen.symm, by omega, ?_, ?_⟩
            · have h1 := hg4.out
              rw [HSP.out, HMM.out.2.2.1] at h1
              exact h1
            · exact hnr.out.trans ⟨hb4.os, hb4.tape, hb4.output, hb4.size, fun q _ hq => ho4.out q hq⟩
    · have e : k + 1 = n := by omega
      have d1 : decide ((k : Int) + 1 < (n : Int)) = false := by simp; omega
      have HE : Hid (cptN eq l n = l) := by
        have h1 := hc.out
        rw [e] at h1
        show _ = _
        rw [h1, List.take_of_length_le (by have := HN.out; omega)]
      go_wp2_with fail
      go_ret
      exact ⟨n, rfl, by rw [HE.out]; exact HN.out.symm, Nat.le_refl _, by rw [HE.out, Nat.sub_self]; simpa using hr.out, hnr.out⟩

end Go.Proofs.YtehnhjhflaljhaaDoor
