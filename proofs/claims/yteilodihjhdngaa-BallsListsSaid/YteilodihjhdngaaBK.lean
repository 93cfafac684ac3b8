/- The program's Indicator. -/
import Derived.Test.YteilodihjhdngaaB3
import Derived.Test.YteilodihjhdngaaBG
namespace Go.Proofs.Yteilodihjhdngaa
open Go.RowKit Go.Proofs.HT

def ag (t : Tm) (i : Nat) : Tm := t.args.getD i z0
theorem ag_at {t : Tm} {i : Nat} (h : i < t.args.length) : ag t i = t.args[i] := by
  unfold ag; rw [List.getD_eq_getElem?_getD, List.getElem?_eq_getElem h]; rfl
def inC (t : Tm) : Bool := chkO t (isS t ⟨#[47]⟩ 2)
def inV (t : Tm) : Bool := ((ag t 0).kind == 0) || ((ag t 1).kind == 0)
def indO (t : Tm) : Bool := inC t && ((!inV t) && (chkO (ag t 0) ((ag t 0).kind == 2) && arO (ag t 1)))
def indB (t : Tm) : Tm := if inC t = true then (if inV t = true then instT else if chkO (ag t 0) ((ag t 0).kind == 2) = true then arB (ag t 1) else chkB (ag t 0) ⟨#[97, 116, 111, 109]⟩ ((ag t 0).kind == 2)) else chkB t ⟨#[112, 114, 101, 100, 105, 99, 97, 116, 101, 95, 105, 110, 100, 105, 99, 97, 116, 111, 114]⟩ (isS t ⟨#[47]⟩ 2)
def indS (t : Tm) : ByteArray := if indO t = true then (ag t 0).name else ⟨#[]⟩
def indN (t : Tm) : Int := if indO t = true then (ag t 1).num else 0
theorem arB_ok {t : Tm} (h : arO t = true) : arB t = z0 := by
  simp only [arO, Bool.and_eq_true, decide_eq_true_eq] at h
  unfold arB; rw [if_pos h.1, if_neg (by omega), if_neg (by omega)]
theorem arN_ok {t : Tm} (h : arO t = true) : arN t = t.num := by unfold arN; rw [if_pos h]
theorem arN_no {t : Tm} (h : arO t = false) : arN t = 0 := by unfold arN; rw [h]; rfl
/-- The two arguments in memory. -/
def Two (w : World) (b off : Nat) (t : Tm) (u0 : Option Addr) (k0 : Nat) (u1 : Option Addr) (k1 : Nat) : Prop :=
  (w.cell? ⟨b, off, none⟩ = some (.int .i64 (ag t 0).kind) ∧ w.cell? ⟨b, off + 1, none⟩ = some (.int .i64 (ag t 0).num) ∧ w.cell? ⟨b, off + 2, none⟩ = some (.string (ag t 0).name) ∧ w.cell? ⟨b, off + 3, none⟩ = some (.slice u0 (ag t 0).args.length k0)) ∧
  (w.cell? ⟨b, off + 4, none⟩ = some (.int .i64 (ag t 1).kind) ∧ w.cell? ⟨b, off + 4 + 1, none⟩ = some (.int .i64 (ag t 1).num) ∧ w.cell? ⟨b, off + 4 + 2, none⟩ = some (.string (ag t 1).name) ∧ w.cell? ⟨b, off + 4 + 3, none⟩ = some (.slice u1 (ag t 1).args.length k1))
theorem Two.below {w w' : World} {b off : Nat} {t : Tm} {u0 u1 : Option Addr} {k0 k1 : Nat} (h : Two w b off t u0 k0 u1 k1) (hb : Below w.heap.size w w') : Two w' b off t u0 k0 u1 k1 :=
  ⟨⟨cell_below hb _ _ h.1.1, cell_below hb _ _ h.1.2.1, cell_below hb _ _ h.1.2.2.1, cell_below hb _ _ h.1.2.2.2⟩, ⟨cell_below hb _ _ h.2.1, cell_below hb _ _ h.2.2.1, cell_below hb _ _ h.2.2.2.1, cell_below hb _ _ h.2.2.2.2⟩⟩
theorem two_of {w : World} {t : Tm} {va : Option Addr} {n vc : Nat} (h : LiesT w t (.slice va n vc)) (hl : t.args.length = 2) : ∃ b off u0 k0 u1 k1, va = some ⟨b, off, none⟩ ∧ Two w b off t u0 k0 u1 k1 ∧ LiesT w (ag t 0) (.slice u0 (ag t 0).args.length k0) ∧ LiesT w (ag t 1) (.slice u1 (ag t 1).args.length k1) := by
  obtain ⟨_, b, off, u0, k0, rfl, a0, a1, a2, a3, a4⟩ := arg_at h 0 (by omega)
  obtain ⟨_, b', off', u1, k1, e, b0, b1, b2, b3, b4⟩ := arg_at h 1 (by omega)
  simp only [Option.some.injEq, Addr.mk.injEq, and_true] at e
  obtain ⟨rfl, rfl⟩ := e
  rw [← ag_at (show 0 < t.args.length by omega)] at a0 a1 a2 a3 a4
  rw [← ag_at (show 1 < t.args.length by omega)] at b0 b1 b2 b3 b4
  exact ⟨b, off, u0, k0, u1, k1, rfl, ⟨⟨a0, a1, a2, a3⟩, ⟨b0, b1, b2, b3⟩⟩, a4, b4⟩

set_option maxHeartbeats 16000000 in
theorem Indicator_any (t : Tm) (v : Value) (w : World) (h : LiesT w t v) : Calls Try.prog 49 #[tv t v] w (Chk2 (.string (indS t)) (.int .i64 (indN t)) (indB t) (indO t) w) := by
  obtain ⟨va, vc, rfl⟩ : ∃ a k, v = .slice a t.args.length k := h.slice
  have F0 := Lib.hid (Fr.start w t (.slice va t.args.length vc))
  have H := Lib.hid h
  obtain ⟨q, hq⟩ : ∃ q, isS t ⟨#[47]⟩ 2 = q := ⟨_, rfl⟩
  obtain ⟨n, hn⟩ : ∃ n, t.args.length = n := ⟨_, rfl⟩
  have HIS : Hid (∀ w0, Below w.heap.size w w0 → Calls Try.prog 72 #[.agg #[.int .i64 t.kind, .int .i64 t.num, .string t.name, .slice va n vc], .string ⟨#[47]⟩, .int .i64 2] w0 fun e w' => e = .returned (.bool q) ∧ Below w0.heap.size w0 w') := Lib.hid (fun w0 hb => by have hh := isStructure_any t (.slice va t.args.length vc) ⟨#[47]⟩ 2 w0 (H.out.below hb); rw [hq] at hh; simp only [tv] at hh; rw [hn] at hh; exact hh)
  obtain ⟨Q, hQ⟩ : ∃ Q, chkB t ⟨#[112, 114, 101, 100, 105, 99, 97, 116, 101, 95, 105, 110, 100, 105, 99, 97, 116, 111, 114]⟩ q = Q := ⟨_, rfl⟩
  obtain ⟨o, ho⟩ : ∃ o, chkO t q = o := ⟨_, rfl⟩
  have HCK : Hid (∀ w0, Below w.heap.size w w0 → Calls Try.prog 74 #[.agg #[.int .i64 t.kind, .int .i64 t.num, .string t.name, .slice va n vc], .string ⟨#[112, 114, 101, 100, 105, 99, 97, 116, 101, 95, 105, 110, 100, 105, 99, 97, 116, 111, 114]⟩, .bool q] w0 (Chk0 Q o w0)) := Lib.hid (fun w0 hb => by have hh := check_any t (.slice va t.args.length vc) ⟨#[112, 114, 101, 100, 105, 99, 97, 116, 101, 95, 105, 110, 100, 105, 99, 97, 116, 111, 114]⟩ q w0 (H.out.below hb) (by simp [ByteArray.size]); rw [hQ, ho] at hh; simp only [tv] at hh; rw [hn] at hh; exact hh)
  have HC : Hid (inC t = o) := Lib.hid (by unfold inC; rw [hq, ho])
  have HB : Hid (o = false → indB t = Q) := Lib.hid (fun h => by unfold indB; rw [HC.out, h, hq, hQ]; rfl)
  have HO : Hid (o = false → indO t = false) := Lib.hid (fun h => by unfold indO; rw [HC.out, h]; rfl)
  have HT : Hid (o = true → n = 2) := Lib.hid (fun h => by
    have h2 : q = true := by
      cases q
      · rw [← ho] at h; simp [chkO] at h
      · rfl
    rw [← hn]; exact isS_two (hq.trans h2))
  rw [hn] at F0
  simp only [tv]
  rw [hn]
  have HNN := Lib.hid hn
  have HVL : Hid (o = true → validB t = true) := Lib.hid (fun h => by rw [← ho] at h; simp only [chkO, Bool.and_eq_true] at h; exact h.1)
  obtain ⟨RS, hRS⟩ : ∃ r, indS t = r := ⟨_, rfl⟩
  obtain ⟨RN, hRN⟩ : ∃ r, indN t = r := ⟨_, rfl⟩
  obtain ⟨RB, hRB⟩ : ∃ r, indB t = r := ⟨_, rfl⟩
  obtain ⟨RO, hRO⟩ : ∃ r, indO t = r := ⟨_, rfl⟩
  rw [hRS, hRN, hRB, hRO]
  have HRS := Lib.hid hRS
  have HRN := Lib.hid hRN
  have HRB := Lib.hid hRB
  have HRO := Lib.hid hRO
  clear h hq hn hQ ho hRS hRN hRB hRO
  go_enter Try.func49, Try.ntmps49
  go_wp2_with fail
  obtain ⟨W, hW⟩ : ∃ W, ((w.alloc (.cells #[.int .i64 t.kind, .int .i64 t.num, .string t.name, .slice va n vc] 24)).alloc (.cells #[.int .i64 0, .int .i64 0, .string ⟨#[]⟩, .slice none 0 0] 24)) = W := ⟨_, rfl⟩
  rw [hW] at F0 ⊢
  clear hW
  have hS0 : Below W.heap.size W W.drew := (Below.refl _ _).drew
  have HSS : Hid (∀ w', Below W.heap.size W w' → (fun w' => Below w.heap.size w w' ∧ w'.cell? ⟨w.heap.size, 0, none⟩ = some (.int .i64 t.kind) ∧ w'.cell? ⟨w.heap.size, 1, none⟩ = some (.int .i64 t.num) ∧ w'.cell? ⟨w.heap.size, 2, none⟩ = some (.string t.name) ∧ w'.cell? ⟨w.heap.size, 3, none⟩ = some (.slice va n vc)) w') := Lib.hid (fun w' h => ⟨(F0.out.step h).b, (F0.out.step h).p.cells⟩)
  obtain ⟨p0, p1, p2, p3⟩ := F0.out.p.cells
  go_region_held3 (fun w' => Below w.heap.size w w' ∧ w'.cell? ⟨w.heap.size, 0, none⟩ = some (.int .i64 t.kind) ∧ w'.cell? ⟨w.heap.size, 1, none⟩ = some (.int .i64 t.num) ∧ w'.cell? ⟨w.heap.size, 2, none⟩ = some (.string t.name) ∧ w'.cell? ⟨w.heap.size, 3, none⟩ = some (.slice va n vc))
    (first | exact HS9 | exact HSS.out _ h6 | exact HSS.out _ h5 | exact HSS.out _ hS0 | go_keep)
    (first
      | (go_at_call 72; ((with_reducible refine (HIS.out _ (F0.out.step hS0).b).mono ?_); rintro e w2 ⟨rfl, hb2⟩; have h5 : Below W.heap.size W w2 := hS0.trans (hb2.mono hS0.size)))
      | (go_at_call 74; ((with_reducible refine (HCK.out _ (F0.out.step h5).b).mono ?_); rintro e w7 ⟨y, rfl, hy, hb3⟩; obtain ⟨ya, yc, rfl⟩ := hy.slice; have h6 : Below W.heap.size W w7 := h5.trans (hb3.mono h5.size); have F8 := Lib.hid (F0.out.step h6); have Y8 : Hid (Beh w w7 Q (.slice ya Q.args.length yc)) := Lib.hid (Beh.of hy (F0.out.step h5).z); obtain ⟨c0, c1, c2, c3⟩ : w7.cell? ⟨w.heap.size + 1, 0, none⟩ = some (.int .i64 0) ∧ w7.cell? ⟨w.heap.size + 1, 1, none⟩ = some (.int .i64 0) ∧ w7.cell? ⟨w.heap.size + 1, 2, none⟩ = some (.string ⟨#[]⟩) ∧ w7.cell? ⟨w.heap.size + 1, 3, none⟩ = some (.slice none 0 0) := F8.out.r.cells; obtain ⟨f0, f1, f2, f3⟩ := F8.out.r.froz; have HF9 := F8.out.putR Q (.slice ya Q.args.length yc) _ rfl; have HS9 : (fun w' => Below w.heap.size w w' ∧ w'.cell? ⟨w.heap.size, 0, none⟩ = some (.int .i64 t.kind) ∧ w'.cell? ⟨w.heap.size, 1, none⟩ = some (.int .i64 t.num) ∧ w'.cell? ⟨w.heap.size, 2, none⟩ = some (.string t.name) ∧ w'.cell? ⟨w.heap.size, 3, none⟩ = some (.slice va n vc)) (((((w7.setCell ⟨w.heap.size + 1, 0, none⟩ (.int .i64 Q.kind)).setCell ⟨w.heap.size + 1, 1, none⟩ (.int .i64 Q.num)).setCell ⟨w.heap.size + 1, 2, none⟩ (.string Q.name)).setCell ⟨w.heap.size + 1, 3, none⟩ (.slice ya Q.args.length yc))) := ⟨HF9.b, HF9.p.cells⟩; clear hb3 hy HF9)))
  clear p0 p1 p2 p3
  cases o
  · have eB := HB.out rfl
    have eO := HO.out rfl
    obtain rfl : false = RO := by rw [← HRO.out, eO]
    obtain rfl : Q = RB := by rw [← HRB.out, eB]
    obtain rfl : (⟨#[]⟩ : ByteArray) = RS := by rw [← HRS.out]; unfold indS; rw [eO]; rfl
    obtain rfl : (0 : Int) = RN := by rw [← HRN.out]; unfold indN; rw [eO]; rfl
    clear eB eO HS9 h5 h6 hS0
    go_wp2_with fail
    clear c0 c1 c2 c3 f0 f1 f2 f3
    have F9 : Hid (Fr w ((((w7.setCell ⟨w.heap.size + 1, 0, none⟩ (.int .i64 Q.kind)).setCell ⟨w.heap.size + 1, 1, none⟩ (.int .i64 Q.num)).setCell ⟨w.heap.size + 1, 2, none⟩ (.string Q.name)).setCell ⟨w.heap.size + 1, 3, none⟩ (.slice ya Q.args.length yc)) t (.slice va n vc) Q (.slice ya Q.args.length yc)) := Lib.hid (F8.out.putR Q (.slice ya Q.args.length yc) _ rfl)
    have Y9 : Hid (Beh w ((((w7.setCell ⟨w.heap.size + 1, 0, none⟩ (.int .i64 Q.kind)).setCell ⟨w.heap.size + 1, 1, none⟩ (.int .i64 Q.num)).setCell ⟨w.heap.size + 1, 2, none⟩ (.string Q.name)).setCell ⟨w.heap.size + 1, 3, none⟩ (.slice ya Q.args.length yc)) Q (.slice ya Q.args.length yc)) := Lib.hid (Beh.put Y8.out (by omega) (F8.out.r) _ _ _ _ _ rfl)
    generalize ((((w7.setCell ⟨w.heap.size + 1, 0, none⟩ (.int .i64 Q.kind)).setCell ⟨w.heap.size + 1, 1, none⟩ (.int .i64 Q.num)).setCell ⟨w.heap.size + 1, 2, none⟩ (.string Q.name)).setCell ⟨w.heap.size + 1, 3, none⟩ (.slice ya Q.args.length yc)) = W9 at *
    obtain ⟨c0, c1, c2, c3⟩ := F9.out.r.cells
    obtain ⟨f0, f1, f2, f3⟩ := F9.out.r.froz
    have FE : Hid (Fr w ((((W9.setCell ⟨w.heap.size + 1, 0, none⟩ (.int .i64 Q.kind)).setCell ⟨w.heap.size + 1, 1, none⟩ (.int .i64 Q.num)).setCell ⟨w.heap.size + 1, 2, none⟩ (.string Q.name)).setCell ⟨w.heap.size + 1, 3, none⟩ (.slice ya Q.args.length yc)).drew t (.slice va n vc) Q (.slice ya Q.args.length yc)) := Lib.hid (Fr.drew (F9.out.putR Q (.slice ya Q.args.length yc) _ rfl))
    have YE : Hid (Beh w ((((W9.setCell ⟨w.heap.size + 1, 0, none⟩ (.int .i64 Q.kind)).setCell ⟨w.heap.size + 1, 1, none⟩ (.int .i64 Q.num)).setCell ⟨w.heap.size + 1, 2, none⟩ (.string Q.name)).setCell ⟨w.heap.size + 1, 3, none⟩ (.slice ya Q.args.length yc)).drew Q (.slice ya Q.args.length yc)) := Lib.hid (Beh.step (Beh.put Y9.out (by omega) F9.out.r _ _ _ _ _ rfl) (Below.refl _ _).drew)
    have HSX := FE.out.r.cells
    go_region_held3 (fun w' => w'.cell? ⟨w.heap.size + 1, 0, none⟩ = some (.int .i64 Q.kind) ∧ w'.cell? ⟨w.heap.size + 1, 1, none⟩ = some (.int .i64 Q.num) ∧ w'.cell? ⟨w.heap.size + 1, 2, none⟩ = some (.string Q.name) ∧ w'.cell? ⟨w.heap.size + 1, 3, none⟩ = some (.slice ya Q.args.length yc))
      (first | exact HSX | go_keep)
      (fail)
    go_wp2_with fail
    clear c0 c1 c2 c3 f0 f1 f2 f3 HSX
    generalize ((((W9.setCell ⟨w.heap.size + 1, 0, none⟩ (.int .i64 Q.kind)).setCell ⟨w.heap.size + 1, 1, none⟩ (.int .i64 Q.num)).setCell ⟨w.heap.size + 1, 2, none⟩ (.string Q.name)).setCell ⟨w.heap.size + 1, 3, none⟩ (.slice ya Q.args.length yc)).drew = WE at *
    obtain ⟨k0, k1, k2, k3⟩ : WE.cell? ⟨w.heap.size + 1, 0, none⟩ = some (.int .i64 Q.kind) ∧ WE.cell? ⟨w.heap.size + 1, 1, none⟩ = some (.int .i64 Q.num) ∧ WE.cell? ⟨w.heap.size + 1, 2, none⟩ = some (.string Q.name) ∧ WE.cell? ⟨w.heap.size + 1, 3, none⟩ = some (.slice ya Q.args.length yc) := FE.out.r.cells
    exact bodyPost_ret (v := .tuple #[.string ⟨#[]⟩, .int .i64 0, tv Q (.slice ya Q.args.length yc), .bool false]) (by simp [results, Try.results49, go_sem, k0, k1, k2, k3]) rfl (FE.out.chk2 YE.out (.string ⟨#[]⟩) (.int .i64 0) false)
  · obtain rfl := HT.out rfl
    have hval := HVL.out rfl
    clear HS9 h5 h6 hS0 HB HO HT HVL HIS HCK HSS
    clear c0 c1 c2 c3 f0 f1 f2 f3
    have F9 : Hid (Fr w ((((w7.setCell ⟨w.heap.size + 1, 0, none⟩ (.int .i64 Q.kind)).setCell ⟨w.heap.size + 1, 1, none⟩ (.int .i64 Q.num)).setCell ⟨w.heap.size + 1, 2, none⟩ (.string Q.name)).setCell ⟨w.heap.size + 1, 3, none⟩ (.slice ya Q.args.length yc)) t (.slice va 2 vc) Q (.slice ya Q.args.length yc)) := Lib.hid (F8.out.putR Q (.slice ya Q.args.length yc) _ rfl)
    have Y9 : Hid (Beh w ((((w7.setCell ⟨w.heap.size + 1, 0, none⟩ (.int .i64 Q.kind)).setCell ⟨w.heap.size + 1, 1, none⟩ (.int .i64 Q.num)).setCell ⟨w.heap.size + 1, 2, none⟩ (.string Q.name)).setCell ⟨w.heap.size + 1, 3, none⟩ (.slice ya Q.args.length yc)) Q (.slice ya Q.args.length yc)) := Lib.hid (Beh.put Y8.out (by omega) (F8.out.r) _ _ _ _ _ rfl)
    generalize ((((w7.setCell ⟨w.heap.size + 1, 0, none⟩ (.int .i64 Q.kind)).setCell ⟨w.heap.size + 1, 1, none⟩ (.int .i64 Q.num)).setCell ⟨w.heap.size + 1, 2, none⟩ (.string Q.name)).setCell ⟨w.heap.size + 1, 3, none⟩ (.slice ya Q.args.length yc)) = W9 at *
    obtain ⟨b, off, u0, k0, u1, k1, hva, h2, hl0, hl1⟩ := two_of H.out HNN.out
    subst hva
    obtain ⟨A, hA⟩ : ∃ A, ag t 0 = A := ⟨_, rfl⟩
    obtain ⟨D, hD⟩ : ∃ D, ag t 1 = D := ⟨_, rfl⟩
    have HBV : Hid (RB = if ((A.kind == 0) || (D.kind == 0)) = true then instT else if chkO A (A.kind == 2) = true then arB D else chkB A ⟨#[97, 116, 111, 109]⟩ (A.kind == 2)) := Lib.hid (by
      rw [← HRB.out]; unfold indB inV; rw [HC.out, hA, hD]; rfl)
    have HOV : Hid (RO = ((!((A.kind == 0) || (D.kind == 0))) && (chkO A (A.kind == 2) && arO D))) := Lib.hid (by
      rw [← HRO.out]; unfold indO inV; rw [HC.out, hA, hD]; rfl)
    have HSV : Hid (RS = if RO = true then A.name else ⟨#[]⟩) := Lib.hid (by rw [← HRS.out]; unfold indS; rw [HRO.out, hA])
    have HNV : Hid (RN = if RO = true then D.num else 0) := Lib.hid (by rw [← HRN.out]; unfold indN; rw [HRO.out, hD])
    have HTW : Hid (∀ w', Below w.heap.size w w' → (w'.cell? ⟨b, off, none⟩ = some (.int .i64 A.kind) ∧ w'.cell? ⟨b, off + 1, none⟩ = some (.int .i64 A.num) ∧ w'.cell? ⟨b, off + 2, none⟩ = some (.string A.name) ∧ w'.cell? ⟨b, off + 3, none⟩ = some (.slice u0 A.args.length k0)) ∧ (w'.cell? ⟨b, off + 4, none⟩ = some (.int .i64 D.kind) ∧ w'.cell? ⟨b, off + 4 + 1, none⟩ = some (.int .i64 D.num) ∧ w'.cell? ⟨b, off + 4 + 2, none⟩ = some (.string D.name) ∧ w'.cell? ⟨b, off + 4 + 3, none⟩ = some (.slice u1 D.args.length k1))) := Lib.hid (fun w' hb => by rw [← hA, ← hD]; exact h2.below hb)
    rw [hA] at hl0
    rw [hD] at hl1
    have HA := Lib.hid hl0
    have HD := Lib.hid hl1
    have HI : Hid (∀ w0, Calls Try.prog 12 #[] w0 (MadeEnd instT w0)) := Lib.hid (fun w0 => Inst_any w0)
    have HAT : Hid (∀ w0, Below w.heap.size w w0 → Calls Try.prog 35 #[tv A (.slice u0 A.args.length k0)] w0 (Chk1 (.string (atomS A)) (chkB A ⟨#[97, 116, 111, 109]⟩ (A.kind == 2)) (chkO A (A.kind == 2)) w0)) := Lib.hid (fun w0 hb => bAtom_any A _ w0 (HA.out.below hb))
    have HAR : Hid (∀ w0, Below w.heap.size w w0 → Calls Try.prog 76 #[tv D (.slice u1 D.args.length k1)] w0 (Chk1 (.int .i64 (arN D)) (arB D) (arO D) w0)) := Lib.hid (fun w0 hb => arityOf_any D _ w0 (HD.out.below hb))
    have HAS : Hid (chkO A (A.kind == 2) = true → atomS A = A.name ∧ chkB A ⟨#[97, 116, 111, 109]⟩ (A.kind == 2) = z0) := Lib.hid (fun h => ⟨by unfold atomS; rw [if_pos h], chkB_ok h⟩)
    clear hA hD h2 hl0 hl1 hval HRB HRO HRS HRN HC
    obtain ⟨p0, p1, p2, p3⟩ := F9.out.p.cells
    obtain ⟨⟨a0, a1, a2, a3⟩, e0, e1, e2, e3⟩ := HTW.out _ F9.out.b
    rcases Bool.eq_false_or_eq_true (A.kind == 0) with hka | hka
    · obtain rfl : RO = false := by rw [HOV.out, hka]; rfl
      obtain rfl : RB = instT := by rw [HBV.out, hka]; rfl
      obtain rfl : RS = ⟨#[]⟩ := by rw [HSV.out]; rfl
      obtain rfl : RN = 0 := by rw [HNV.out]; rfl
      generalize instT = R at *
      go_wp2_with fail
      refine (HI.out _).mono ?_
      rintro e w8 ⟨yr, rfl, hyr, hb8⟩
      obtain ⟨yra, yrc, rfl⟩ := hyr.slice
      have FA := Lib.hid (F9.out.step hb8)
      have YA : Hid (Beh w w8 R (.slice yra R.args.length yrc)) := Lib.hid (Beh.of hyr F9.out.z)
      clear hb8 hyr p0 p1 p2 p3 a0 a1 a2 a3 e0 e1 e2 e3
      obtain ⟨c0, c1, c2, c3⟩ := FA.out.r.cells
      obtain ⟨f0, f1, f2, f3⟩ := FA.out.r.froz
      go_wp2_with fail
      clear c0 c1 c2 c3 f0 f1 f2 f3
      have FB : Hid (Fr w ((((w8.setCell ⟨w.heap.size + 1, 0, none⟩ (.int .i64 R.kind)).setCell ⟨w.heap.size + 1, 1, none⟩ (.int .i64 R.num)).setCell ⟨w.heap.size + 1, 2, none⟩ (.string R.name)).setCell ⟨w.heap.size + 1, 3, none⟩ (.slice yra R.args.length yrc)) t (.slice (some ⟨b, off, none⟩) 2 vc) R (.slice yra R.args.length yrc)) := Lib.hid (FA.out.putR R (.slice yra R.args.length yrc) _ rfl)
      have YB : Hid (Beh w ((((w8.setCell ⟨w.heap.size + 1, 0, none⟩ (.int .i64 R.kind)).setCell ⟨w.heap.size + 1, 1, none⟩ (.int .i64 R.num)).setCell ⟨w.heap.size + 1, 2, none⟩ (.string R.name)).setCell ⟨w.heap.size + 1, 3, none⟩ (.slice yra R.args.length yrc)) R (.slice yra R.args.length yrc)) := Lib.hid (Beh.put YA.out (by omega) (FA.out.r) _ _ _ _ _ rfl)
      generalize ((((w8.setCell ⟨w.heap.size + 1, 0, none⟩ (.int .i64 R.kind)).setCell ⟨w.heap.size + 1, 1, none⟩ (.int .i64 R.num)).setCell ⟨w.heap.size + 1, 2, none⟩ (.string R.name)).setCell ⟨w.heap.size + 1, 3, none⟩ (.slice yra R.args.length yrc)) = WB at *
      obtain ⟨k0, k1, k2, k3⟩ : WB.cell? ⟨w.heap.size + 1, 0, none⟩ = some (.int .i64 R.kind) ∧ WB.cell? ⟨w.heap.size + 1, 1, none⟩ = some (.int .i64 R.num) ∧ WB.cell? ⟨w.heap.size + 1, 2, none⟩ = some (.string R.name) ∧ WB.cell? ⟨w.heap.size + 1, 3, none⟩ = some (.slice yra R.args.length yrc) := FB.out.r.cells
      exact bodyPost_ret (v := .tuple #[.string ⟨#[]⟩, .int .i64 0, tv R (.slice yra R.args.length yrc), .bool false]) (by simp [results, Try.results49, go_sem, k0, k1, k2, k3]) rfl (FB.out.chk2 YB.out (.string ⟨#[]⟩) (.int .i64 0) false)
    · rcases Bool.eq_false_or_eq_true (D.kind == 0) with hkd | hkd
      · obtain rfl : RO = false := by rw [HOV.out, hka, hkd]; rfl
        obtain rfl : RB = instT := by rw [HBV.out, hka, hkd]; rfl
        obtain rfl : RS = ⟨#[]⟩ := by rw [HSV.out]; rfl
        obtain rfl : RN = 0 := by rw [HNV.out]; rfl
        generalize instT = R at *
        go_wp2_with fail
        refine (HI.out _).mono ?_
        rintro e w8 ⟨yr, rfl, hyr, hb8⟩
        obtain ⟨yra, yrc, rfl⟩ := hyr.slice
        have FA := Lib.hid (F9.out.step hb8)
        have YA : Hid (Beh w w8 R (.slice yra R.args.length yrc)) := Lib.hid (Beh.of hyr F9.out.z)
        clear hb8 hyr p0 p1 p2 p3 a0 a1 a2 a3 e0 e1 e2 e3
        obtain ⟨c0, c1, c2, c3⟩ := FA.out.r.cells
        obtain ⟨f0, f1, f2, f3⟩ := FA.out.r.froz
        go_wp2_with fail
        clear c0 c1 c2 c3 f0 f1 f2 f3
        have FB : Hid (Fr w ((((w8.setCell ⟨w.heap.size + 1, 0, none⟩ (.int .i64 R.kind)).setCell ⟨w.heap.size + 1, 1, none⟩ (.int .i64 R.num)).setCell ⟨w.heap.size + 1, 2, none⟩ (.string R.name)).setCell ⟨w.heap.size + 1, 3, none⟩ (.slice yra R.args.length yrc)) t (.slice (some ⟨b, off, none⟩) 2 vc) R (.slice yra R.args.length yrc)) := Lib.hid (FA.out.putR R (.slice yra R.args.length yrc) _ rfl)
        have YB : Hid (Beh w ((((w8.setCell ⟨w.heap.size + 1, 0, none⟩ (.int .i64 R.kind)).setCell ⟨w.heap.size + 1, 1, none⟩ (.int .i64 R.num)).setCell ⟨w.heap.size + 1, 2, none⟩ (.string R.name)).setCell ⟨w.heap.size + 1, 3, none⟩ (.slice yra R.args.length yrc)) R (.slice yra R.args.length yrc)) := Lib.hid (Beh.put YA.out (by omega) (FA.out.r) _ _ _ _ _ rfl)
        generalize ((((w8.setCell ⟨w.heap.size + 1, 0, none⟩ (.int .i64 R.kind)).setCell ⟨w.heap.size + 1, 1, none⟩ (.int .i64 R.num)).setCell ⟨w.heap.size + 1, 2, none⟩ (.string R.name)).setCell ⟨w.heap.size + 1, 3, none⟩ (.slice yra R.args.length yrc)) = WB at *
        obtain ⟨k0, k1, k2, k3⟩ : WB.cell? ⟨w.heap.size + 1, 0, none⟩ = some (.int .i64 R.kind) ∧ WB.cell? ⟨w.heap.size + 1, 1, none⟩ = some (.int .i64 R.num) ∧ WB.cell? ⟨w.heap.size + 1, 2, none⟩ = some (.string R.name) ∧ WB.cell? ⟨w.heap.size + 1, 3, none⟩ = some (.slice yra R.args.length yrc) := FB.out.r.cells
        exact bodyPost_ret (v := .tuple #[.string ⟨#[]⟩, .int .i64 0, tv R (.slice yra R.args.length yrc), .bool false]) (by simp [results, Try.results49, go_sem, k0, k1, k2, k3]) rfl (FB.out.chk2 YB.out (.string ⟨#[]⟩) (.int .i64 0) false)
      · have HOV2 : Hid (RO = (chkO A (A.kind == 2) && arO D)) := Lib.hid (by rw [HOV.out, hka, hkd]; rfl)
        have HBV2 : Hid (RB = if chkO A (A.kind == 2) = true then arB D else chkB A ⟨#[97, 116, 111, 109]⟩ (A.kind == 2)) := Lib.hid (by rw [HBV.out, hka, hkd]; rfl)
        clear HOV HBV
        obtain ⟨sa, hsa⟩ : ∃ x, atomS A = x := ⟨_, rfl⟩
        obtain ⟨ba, hba⟩ : ∃ x, chkB A ⟨#[97, 116, 111, 109]⟩ (A.kind == 2) = x := ⟨_, rfl⟩
        obtain ⟨oa, hoa⟩ : ∃ x, chkO A (A.kind == 2) = x := ⟨_, rfl⟩
        rw [hsa, hba, hoa] at HAT
        rw [hoa] at HOV2
        rw [hoa, hba] at HBV2
        rw [hoa, hsa, hba] at HAS
        clear hsa hba hoa
        go_wp2_with fail
        refine (HAT.out _ F9.out.b).mono ?_
        rintro e w10 ⟨yb, rfl, hyb, hb10⟩
        obtain ⟨yba, ybc, rfl⟩ := hyb.slice
        have F10 := Lib.hid (F9.out.step hb10)
        have Y10 : Hid (Beh w w10 ba (.slice yba ba.args.length ybc)) := Lib.hid (Beh.of hyb F9.out.z)
        clear hb10 hyb p0 p1 p2 p3 a0 a1 a2 a3 e0 e1 e2 e3
        cases oa
        · obtain rfl : RO = false := by rw [HOV2.out]; rfl
          obtain rfl : RB = ba := by rw [HBV2.out]; rfl
          obtain rfl : RS = ⟨#[]⟩ := by rw [HSV.out]; rfl
          obtain rfl : RN = 0 := by rw [HNV.out]; rfl
          obtain ⟨c0, c1, c2, c3⟩ := F10.out.r.cells
          obtain ⟨f0, f1, f2, f3⟩ := F10.out.r.froz
          go_wp2_with fail
          clear c0 c1 c2 c3 f0 f1 f2 f3
          have F11 : Hid (Fr w ((((w10.setCell ⟨w.heap.size + 1, 0, none⟩ (.int .i64 RB.kind)).setCell ⟨w.heap.size + 1, 1, none⟩ (.int .i64 RB.num)).setCell ⟨w.heap.size + 1, 2, none⟩ (.string RB.name)).setCell ⟨w.heap.size + 1, 3, none⟩ (.slice yba RB.args.length ybc)) t (.slice (some ⟨b, off, none⟩) 2 vc) RB (.slice yba RB.args.length ybc)) := Lib.hid (F10.out.putR RB (.slice yba RB.args.length ybc) _ rfl)
          have Y11 : Hid (Beh w ((((w10.setCell ⟨w.heap.size + 1, 0, none⟩ (.int .i64 RB.kind)).setCell ⟨w.heap.size + 1, 1, none⟩ (.int .i64 RB.num)).setCell ⟨w.heap.size + 1, 2, none⟩ (.string RB.name)).setCell ⟨w.heap.size + 1, 3, none⟩ (.slice yba RB.args.length ybc)) RB (.slice yba RB.args.length ybc)) := Lib.hid (Beh.put Y10.out (by omega) (F10.out.r) _ _ _ _ _ rfl)
          generalize ((((w10.setCell ⟨w.heap.size + 1, 0, none⟩ (.int .i64 RB.kind)).setCell ⟨w.heap.size + 1, 1, none⟩ (.int .i64 RB.num)).setCell ⟨w.heap.size + 1, 2, none⟩ (.string RB.name)).setCell ⟨w.heap.size + 1, 3, none⟩ (.slice yba RB.args.length ybc)) = W11 at *
          obtain ⟨c0, c1, c2, c3⟩ := F11.out.r.cells
          obtain ⟨f0, f1, f2, f3⟩ := F11.out.r.froz
          have FE : Hid (Fr w ((((W11.setCell ⟨w.heap.size + 1, 0, none⟩ (.int .i64 RB.kind)).setCell ⟨w.heap.size + 1, 1, none⟩ (.int .i64 RB.num)).setCell ⟨w.heap.size + 1, 2, none⟩ (.string RB.name)).setCell ⟨w.heap.size + 1, 3, none⟩ (.slice yba RB.args.length ybc)).drew t (.slice (some ⟨b, off, none⟩) 2 vc) RB (.slice yba RB.args.length ybc)) := Lib.hid (Fr.drew (F11.out.putR RB (.slice yba RB.args.length ybc) _ rfl))
          have YE : Hid (Beh w ((((W11.setCell ⟨w.heap.size + 1, 0, none⟩ (.int .i64 RB.kind)).setCell ⟨w.heap.size + 1, 1, none⟩ (.int .i64 RB.num)).setCell ⟨w.heap.size + 1, 2, none⟩ (.string RB.name)).setCell ⟨w.heap.size + 1, 3, none⟩ (.slice yba RB.args.length ybc)).drew RB (.slice yba RB.args.length ybc)) := Lib.hid (Beh.step (Beh.put Y11.out (by omega) F11.out.r _ _ _ _ _ rfl) (Below.refl _ _).drew)
          have HSX := FE.out.r.cells
          go_region_held3 (fun w' => w'.cell? ⟨w.heap.size + 1, 0, none⟩ = some (.int .i64 RB.kind) ∧ w'.cell? ⟨w.heap.size + 1, 1, none⟩ = some (.int .i64 RB.num) ∧ w'.cell? ⟨w.heap.size + 1, 2, none⟩ = some (.string RB.name) ∧ w'.cell? ⟨w.heap.size + 1, 3, none⟩ = some (.slice yba RB.args.length ybc))
            (first | exact HSX | go_keep)
            (fail)
          go_wp2_with fail
          clear c0 c1 c2 c3 f0 f1 f2 f3 HSX
          generalize ((((W11.setCell ⟨w.heap.size + 1, 0, none⟩ (.int .i64 RB.kind)).setCell ⟨w.heap.size + 1, 1, none⟩ (.int .i64 RB.num)).setCell ⟨w.heap.size + 1, 2, none⟩ (.string RB.name)).setCell ⟨w.heap.size + 1, 3, none⟩ (.slice yba RB.args.length ybc)).drew = WE at *
          obtain ⟨k0, k1, k2, k3⟩ : WE.cell? ⟨w.heap.size + 1, 0, none⟩ = some (.int .i64 RB.kind) ∧ WE.cell? ⟨w.heap.size + 1, 1, none⟩ = some (.int .i64 RB.num) ∧ WE.cell? ⟨w.heap.size + 1, 2, none⟩ = some (.string RB.name) ∧ WE.cell? ⟨w.heap.size + 1, 3, none⟩ = some (.slice yba RB.args.length ybc) := FE.out.r.cells
          exact bodyPost_ret (v := .tuple #[.string ⟨#[]⟩, .int .i64 0, tv RB (.slice yba RB.args.length ybc), .bool false]) (by simp [results, Try.results49, go_sem, k0, k1, k2, k3]) rfl (FE.out.chk2 YE.out (.string ⟨#[]⟩) (.int .i64 0) false)
        · have HAS2 := HAS.out rfl
          obtain ⟨rfl, hbz⟩ := HAS2
          have HBV3 : Hid (RB = arB D) := Lib.hid (by rw [HBV2.out]; rfl)
          have HOV3 : Hid (RO = arO D) := Lib.hid (by rw [HOV2.out]; rfl)
          clear HAS HBV2 HOV2 hbz HI HAT
          have HARO : Hid (arO D = true → arB D = z0 ∧ arN D = D.num) := Lib.hid (fun h => ⟨arB_ok h, arN_ok h⟩)
          obtain ⟨na, hna⟩ : ∃ x, arN D = x := ⟨_, rfl⟩
          obtain ⟨bd, hbd⟩ : ∃ x, arB D = x := ⟨_, rfl⟩
          obtain ⟨od, hod⟩ : ∃ x, arO D = x := ⟨_, rfl⟩
          rw [hna, hbd, hod] at HAR HARO
          rw [hbd] at HBV3
          rw [hod] at HOV3
          clear hna hbd hod
          obtain ⟨p0, p1, p2, p3⟩ := F10.out.p.cells
          obtain ⟨⟨a0, a1, a2, a3⟩, e0, e1, e2, e3⟩ := HTW.out _ F10.out.b
          obtain ⟨c0, c1, c2, c3⟩ := F10.out.r.cells
          obtain ⟨f0, f1, f2, f3⟩ := F10.out.r.froz
          go_wp2_with fail
          clear c0 c1 c2 c3 f0 f1 f2 f3 p0 p1 p2 p3 a0 a1 a2 a3 e0 e1 e2 e3
          have F11 : Hid (Fr w ((((w10.setCell ⟨w.heap.size + 1, 0, none⟩ (.int .i64 ba.kind)).setCell ⟨w.heap.size + 1, 1, none⟩ (.int .i64 ba.num)).setCell ⟨w.heap.size + 1, 2, none⟩ (.string ba.name)).setCell ⟨w.heap.size + 1, 3, none⟩ (.slice yba ba.args.length ybc)) t (.slice (some ⟨b, off, none⟩) 2 vc) ba (.slice yba ba.args.length ybc)) := Lib.hid (F10.out.putR ba (.slice yba ba.args.length ybc) _ rfl)
          have Y11 : Hid (Beh w ((((w10.setCell ⟨w.heap.size + 1, 0, none⟩ (.int .i64 ba.kind)).setCell ⟨w.heap.size + 1, 1, none⟩ (.int .i64 ba.num)).setCell ⟨w.heap.size + 1, 2, none⟩ (.string ba.name)).setCell ⟨w.heap.size + 1, 3, none⟩ (.slice yba ba.args.length ybc)) ba (.slice yba ba.args.length ybc)) := Lib.hid (Beh.put Y10.out (by omega) (F10.out.r) _ _ _ _ _ rfl)
          generalize ((((w10.setCell ⟨w.heap.size + 1, 0, none⟩ (.int .i64 ba.kind)).setCell ⟨w.heap.size + 1, 1, none⟩ (.int .i64 ba.num)).setCell ⟨w.heap.size + 1, 2, none⟩ (.string ba.name)).setCell ⟨w.heap.size + 1, 3, none⟩ (.slice yba ba.args.length ybc)) = W11 at *
          refine (HAR.out _ F11.out.b).mono ?_
          rintro e w12 ⟨yd, rfl, hyd, hb12⟩
          obtain ⟨yda, ydc, rfl⟩ := hyd.slice
          have F12 := Lib.hid (F11.out.step hb12)
          have Y12 : Hid (Beh w w12 bd (.slice yda bd.args.length ydc)) := Lib.hid (Beh.of hyd F11.out.z)
          clear hb12 hyd
          cases od
          · obtain rfl : RO = false := HOV3.out
            obtain rfl : RB = bd := HBV3.out
            obtain rfl : RS = ⟨#[]⟩ := by rw [HSV.out]; rfl
            obtain rfl : RN = 0 := by rw [HNV.out]; rfl
            obtain ⟨c0, c1, c2, c3⟩ := F12.out.r.cells
            obtain ⟨f0, f1, f2, f3⟩ := F12.out.r.froz
            go_wp2_with fail
            clear c0 c1 c2 c3 f0 f1 f2 f3
            have F13 : Hid (Fr w ((((w12.setCell ⟨w.heap.size + 1, 0, none⟩ (.int .i64 RB.kind)).setCell ⟨w.heap.size + 1, 1, none⟩ (.int .i64 RB.num)).setCell ⟨w.heap.size + 1, 2, none⟩ (.string RB.name)).setCell ⟨w.heap.size + 1, 3, none⟩ (.slice yda RB.args.length ydc)) t (.slice (some ⟨b, off, none⟩) 2 vc) RB (.slice yda RB.args.length ydc)) := Lib.hid (F12.out.putR RB (.slice yda RB.args.length ydc) _ rfl)
            have Y13 : Hid (Beh w ((((w12.setCell ⟨w.heap.size + 1, 0, none⟩ (.int .i64 RB.kind)).setCell ⟨w.heap.size + 1, 1, none⟩ (.int .i64 RB.num)).setCell ⟨w.heap.size + 1, 2, none⟩ (.string RB.name)).setCell ⟨w.heap.size + 1, 3, none⟩ (.slice yda RB.args.length ydc)) RB (.slice yda RB.args.length ydc)) := Lib.hid (Beh.put Y12.out (by omega) (F12.out.r) _ _ _ _ _ rfl)
            generalize ((((w12.setCell ⟨w.heap.size + 1, 0, none⟩ (.int .i64 RB.kind)).setCell ⟨w.heap.size + 1, 1, none⟩ (.int .i64 RB.num)).setCell ⟨w.heap.size + 1, 2, none⟩ (.string RB.name)).setCell ⟨w.heap.size + 1, 3, none⟩ (.slice yda RB.args.length ydc)) = W13 at *
            obtain ⟨c0, c1, c2, c3⟩ := F13.out.r.cells
            obtain ⟨f0, f1, f2, f3⟩ := F13.out.r.froz
            have FE : Hid (Fr w ((((W13.setCell ⟨w.heap.size + 1, 0, none⟩ (.int .i64 RB.kind)).setCell ⟨w.heap.size + 1, 1, none⟩ (.int .i64 RB.num)).setCell ⟨w.heap.size + 1, 2, none⟩ (.string RB.name)).setCell ⟨w.heap.size + 1, 3, none⟩ (.slice yda RB.args.length ydc)).drew t (.slice (some ⟨b, off, none⟩) 2 vc) RB (.slice yda RB.args.length ydc)) := Lib.hid (Fr.drew (F13.out.putR RB (.slice yda RB.args.length ydc) _ rfl))
            have YE : Hid (Beh w ((((W13.setCell ⟨w.heap.size + 1, 0, none⟩ (.int .i64 RB.kind)).setCell ⟨w.heap.size + 1, 1, none⟩ (.int .i64 RB.num)).setCell ⟨w.heap.size + 1, 2, none⟩ (.string RB.name)).setCell ⟨w.heap.size + 1, 3, none⟩ (.slice yda RB.args.length ydc)).drew RB (.slice yda RB.args.length ydc)) := Lib.hid (Beh.step (Beh.put Y13.out (by omega) F13.out.r _ _ _ _ _ rfl) (Below.refl _ _).drew)
            have HSX := FE.out.r.cells
            go_region_held3 (fun w' => w'.cell? ⟨w.heap.size + 1, 0, none⟩ = some (.int .i64 RB.kind) ∧ w'.cell? ⟨w.heap.size + 1, 1, none⟩ = some (.int .i64 RB.num) ∧ w'.cell? ⟨w.heap.size + 1, 2, none⟩ = some (.string RB.name) ∧ w'.cell? ⟨w.heap.size + 1, 3, none⟩ = some (.slice yda RB.args.length ydc))
              (first | exact HSX | go_keep)
              (fail)
            go_wp2_with fail
            clear c0 c1 c2 c3 f0 f1 f2 f3 HSX
            generalize ((((W13.setCell ⟨w.heap.size + 1, 0, none⟩ (.int .i64 RB.kind)).setCell ⟨w.heap.size + 1, 1, none⟩ (.int .i64 RB.num)).setCell ⟨w.heap.size + 1, 2, none⟩ (.string RB.name)).setCell ⟨w.heap.size + 1, 3, none⟩ (.slice yda RB.args.length ydc)).drew = WE at *
            obtain ⟨k0, k1, k2, k3⟩ : WE.cell? ⟨w.heap.size + 1, 0, none⟩ = some (.int .i64 RB.kind) ∧ WE.cell? ⟨w.heap.size + 1, 1, none⟩ = some (.int .i64 RB.num) ∧ WE.cell? ⟨w.heap.size + 1, 2, none⟩ = some (.string RB.name) ∧ WE.cell? ⟨w.heap.size + 1, 3, none⟩ = some (.slice yda RB.args.length ydc) := FE.out.r.cells
            exact bodyPost_ret (v := .tuple #[.string ⟨#[]⟩, .int .i64 0, tv RB (.slice yda RB.args.length ydc), .bool false]) (by simp [results, Try.results49, go_sem, k0, k1, k2, k3]) rfl (FE.out.chk2 YE.out (.string ⟨#[]⟩) (.int .i64 0) false)
          · obtain rfl : RO = true := HOV3.out
            obtain ⟨hz, rfl⟩ := HARO.out rfl
            obtain rfl : RB = z0 := by rw [HBV3.out, hz]
            obtain rfl : RS = A.name := by rw [HSV.out]; rfl
            obtain rfl : RN = D.num := by rw [HNV.out]; rfl
            clear hz
            obtain ⟨c0, c1, c2, c3⟩ := F12.out.r.cells
            obtain ⟨f0, f1, f2, f3⟩ := F12.out.r.froz
            go_wp2_with fail
            clear c0 c1 c2 c3 f0 f1 f2 f3
            have F9z : Hid (Fr w ((((((((w12.setCell ⟨w.heap.size + 1, 0, none⟩ (.int .i64 bd.kind)).setCell ⟨w.heap.size + 1, 1, none⟩ (.int .i64 bd.num)).setCell ⟨w.heap.size + 1, 2, none⟩ (.string bd.name)).setCell ⟨w.heap.size + 1, 3, none⟩ (.slice yda bd.args.length ydc)).setCell ⟨w.heap.size + 1, 0, none⟩ (.int .i64 0)).setCell ⟨w.heap.size + 1, 1, none⟩ (.int .i64 0)).setCell ⟨w.heap.size + 1, 2, none⟩ (.string ⟨#[]⟩)).setCell ⟨w.heap.size + 1, 3, none⟩ (.slice none 0 0)) t (.slice (some ⟨b, off, none⟩) 2 vc) z0 (.slice none 0 0)) := Lib.hid ((F12.out.putR bd (.slice yda bd.args.length ydc) _ rfl).putR z0 (.slice none 0 0) _ rfl)
            generalize ((((((((w12.setCell ⟨w.heap.size + 1, 0, none⟩ (.int .i64 bd.kind)).setCell ⟨w.heap.size + 1, 1, none⟩ (.int .i64 bd.num)).setCell ⟨w.heap.size + 1, 2, none⟩ (.string bd.name)).setCell ⟨w.heap.size + 1, 3, none⟩ (.slice yda bd.args.length ydc)).setCell ⟨w.heap.size + 1, 0, none⟩ (.int .i64 0)).setCell ⟨w.heap.size + 1, 1, none⟩ (.int .i64 0)).setCell ⟨w.heap.size + 1, 2, none⟩ (.string ⟨#[]⟩)).setCell ⟨w.heap.size + 1, 3, none⟩ (.slice none 0 0)) = WZ at *
            obtain ⟨k0, k1, k2, k3⟩ : WZ.cell? ⟨w.heap.size + 1, 0, none⟩ = some (.int .i64 0) ∧ WZ.cell? ⟨w.heap.size + 1, 1, none⟩ = some (.int .i64 0) ∧ WZ.cell? ⟨w.heap.size + 1, 2, none⟩ = some (.string ⟨#[]⟩) ∧ WZ.cell? ⟨w.heap.size + 1, 3, none⟩ = some (.slice none 0 0) := F9z.out.r.cells
            exact bodyPost_ret (v := .tuple #[.string A.name, .int .i64 D.num, zv, .bool true]) (by simp [results, Try.results49, go_sem, k0, k1, k2, k3]) rfl (F9z.out.chk2 (Beh.zero _ _) (.string A.name) (.int .i64 D.num) true)

end Go.Proofs.Yteilodihjhdngaa
