/- Lists: mathematics; the program's List. -/
import Derived.Test.YteilodihjhdngaaBK
import Derived.WalkMore
import Derived.Deep.LoopGhost
namespace Go.Proofs.Yteilodihjhdngaa
open Go.RowKit Go.Proofs.HT

def dot : ByteArray := ⟨#[46]⟩
def isPairB (t : Tm) : Bool := decide (t.kind = 3 ∧ t.name = dot ∧ t.args.length = 2)
/-- The elements of a list, and its tail. -/
def elF : Nat → Tm → List Tm × Tm
  | 0, t => ([], t)
  | n + 1, t => if isPairB t = true then (match t.args with | x :: y :: _ => (x :: (elF n y).1, (elF n y).2) | _ => ([], t)) else ([], t)
def elemsT (t : Tm) : List Tm × Tm := elF (cnt t) t
theorem pair_of {t : Tm} (h : isPairB t = true) : ∃ n x y, t = .mk 3 n dot [x, y] := by
  cases t with
  | mk k n s ts =>
    obtain ⟨h1, h2, h3⟩ := of_decide_eq_true (show decide (k = 3 ∧ s = dot ∧ ts.length = 2) = true from h)
    subst h1
    subst h2
    match ts, h3 with
    | [x, y], _ => exact ⟨n, x, y, rfl⟩
theorem elF_pair (m : Nat) (n : Int) (x y : Tm) : elF (m + 1) (.mk 3 n dot [x, y]) = (x :: (elF m y).1, (elF m y).2) := by
  have h : isPairB (.mk 3 n dot [x, y]) = true := by simp [isPairB, Tm.kind, Tm.name, Tm.args]
  simp only [elF, h, if_true, Tm.args]
theorem elF_not (m : Nat) (t : Tm) (h : isPairB t = false) : elF m t = ([], t) := by
  cases m with
  | zero => rfl
  | succ m => simp [elF, h]
theorem elF_enough : ∀ (m m' : Nat) (t : Tm), cnt t ≤ m → cnt t ≤ m' → elF m t = elF m' t
  | 0, _, t, h, _ => by have := cnt_pos t; omega
  | m + 1, 0, t, _, h => by have := cnt_pos t; omega
  | m + 1, m' + 1, t, h, h' => by
    rcases Bool.eq_false_or_eq_true (isPairB t) with hp | hp
    · obtain ⟨n, x, y, rfl⟩ := pair_of hp
      have e := elF_enough m m' y (by simp [cnt, cntL] at h; omega) (by simp [cnt, cntL] at h'; omega)
      rw [elF_pair, elF_pair, e]
    · rw [elF_not _ _ hp, elF_not _ _ hp]
theorem elemsT_pair (n : Int) (x y : Tm) : elemsT (.mk 3 n dot [x, y]) = (x :: (elemsT y).1, (elemsT y).2) := by
  have h := elF_enough (cnt (.mk 3 n dot [x, y])) (cnt y + cnt x + 1) (.mk 3 n dot [x, y]) (Nat.le_refl _) (by simp [cnt, cntL]; omega)
  unfold elemsT
  rw [h, elF_pair, elF_enough (cnt y + cnt x) (cnt y) y (by omega) (Nat.le_refl _)]
theorem elemsT_not (t : Tm) (h : isPairB t = false) : elemsT t = ([], t) := elF_not _ _ h
theorem elemsT_list : ∀ (ts : List Tm) (T : Tm), elemsT (listT ts T) = (ts ++ (elemsT T).1, (elemsT T).2)
  | [], T => by simp [listT]
  | t :: ts, T => by
    have h := elemsT_list ts T
    have e : listT (t :: ts) T = .mk 3 0 dot [t, listT ts T] := rfl
    rw [e, elemsT_pair, h]; rfl

/-- The four cells of a term opened. -/
theorem ownT_pair {S : Nat → Prop} {w : World} {n : Int} {s : ByteArray} {x y : Tm} {v : Value} (h : OwnT S w (.mk 3 n s [x, y]) v) : ∃ (b cap : Nat) (vx vy : Value), v = .slice (some ⟨b, 0, none⟩) 2 cap ∧ 2 ≤ cap ∧ S b ∧
    w.cell? ⟨b, 0, none⟩ = some (.int .i64 x.kind) ∧ w.cell? ⟨b, 1, none⟩ = some (.int .i64 x.num) ∧ w.cell? ⟨b, 2, none⟩ = some (.string x.name) ∧ w.cell? ⟨b, 3, none⟩ = some vx ∧ OwnT S w x vx ∧
    w.cell? ⟨b, 4, none⟩ = some (.int .i64 y.kind) ∧ w.cell? ⟨b, 5, none⟩ = some (.int .i64 y.num) ∧ w.cell? ⟨b, 6, none⟩ = some (.string y.name) ∧ w.cell? ⟨b, 7, none⟩ = some vy ∧ OwnT S w y vy := by
  simp only [OwnT] at h
  obtain ⟨_, _, _, h | ⟨b, cap, e, l1, l2, l3, _, hl⟩⟩ := h
  · simp at h
  · obtain ⟨vx, a0, a1, a2, a3, hx⟩ := hl.at 0 (by simp)
    obtain ⟨vy, b0, b1, b2, b3, hy⟩ := hl.at 1 (by simp)
    exact ⟨b, cap, vx, vy, e, by simpa using l1, l3, a0, a1, a2, a3, hx, b0, b1, b2, b3, hy⟩


theorem isS_dot (t : Tm) : isS t ⟨#[46]⟩ 2 = isPairB t := by
  unfold isS isPairB
  rw [Bool.eq_iff_iff]
  simp only [Bool.and_eq_true, beq_iff_eq, decide_eq_true_eq]
  constructor
  · rintro ⟨h1, h2, h3⟩; exact ⟨h1, by apply ByteArray.ext; exact Array.toList_inj.1 h2, h3⟩
  · rintro ⟨h1, h2, h3⟩; exact ⟨h1, by rw [h2]; rfl, h3⟩
def isNil (u : Tm) : Bool := (u.kind == 2) && (u.name.data.toList == [91, 93])
def lsO (t : Tm) : Bool := validB t && isNil (elemsT t).2
def lsB (t : Tm) : Tm := if validB t = true then (if ((elemsT t).2.kind == 0) = true then instT else if isNil (elemsT t).2 = true then z0 else typeT ⟨#[108, 105, 115, 116]⟩ t) else z0
def lsL (t : Tm) : List Tm := if lsO t = true then (elemsT t).1 else []
def ChkL (L : List Tm) (B : Tm) (q : Bool) (w : World) (e : Ending) (w' : World) : Prop := ∃ x v, e = .returned (.tuple #[x, tv B v, .bool q]) ∧ LiesA w' L x ∧ LiesT w' B v ∧ Below w.heap.size w w'
theorem nil_lies (w : World) : LiesA w [] (.slice none 0 0) := by
  unfold LiesA LiesT; exact ⟨⟨by omega, by omega⟩, ⟨by omega, by omega⟩, by simp [ByteArray.size], .inl ⟨rfl, rfl⟩⟩
theorem Fr.chkL {w w1 : World} {t z : Tm} {v y : Value} (h : Fr w w1 t v z y) (k : LiesT w1 z y) (L : List Tm) (x : Value) (q : Bool) (hx : LiesA w1 L x) : ChkL L z q w (.returned (.tuple #[x, tv z y, .bool q])) w1 := ⟨x, y, rfl, hx, k, h.b⟩
theorem own_slice {w : World} {base n : Nat} {v : Value} {xs : List Value} (h : w.ownsRow base 24 4 v n xs) : ∃ a c, v = .slice a n c := by
  rcases h.2 with ⟨rfl, rfl⟩ | ⟨g, cap, cur, e, _⟩
  · exact ⟨_, _, rfl⟩
  · exact ⟨_, _, e⟩
theorem own_lies0 {w : World} {base n : Nat} {v : Value} {l : List PV} (h : w.ownsRow base 24 4 v n (flat l)) (hn : l.length = n) (hp : ∀ p ∈ l, LiesT w p.1 p.2) : LiesA w (l.map Prod.fst) v := by
  by_cases hne : v = .slice none 0 0
  · subst hne
    have h0 : n = 0 := by
      rcases h.2 with ⟨_, h2⟩ | ⟨g, cap, cur, e, _⟩
      · exact h2
      · cases e
    have : l = [] := List.length_eq_zero_iff.1 (by omega)
    subst this; exact nil_lies w
  · obtain ⟨_, _, _, h2⟩ := own_lies h hne hn hp
    exact h2

set_option maxHeartbeats 16000000 in
theorem List_any (t : Tm) (v : Value) (w : World) (h : LiesT w t v) : Calls Try.prog 43 #[tv t v] w (ChkL (lsL t) (lsB t) (lsO t) w) := by
  obtain ⟨va, vc, rfl⟩ : ∃ a k, v = .slice a t.args.length k := h.slice
  have F0 := Lib.hid (Fr.start w t (.slice va t.args.length vc))
  have H := Lib.hid h
  cases hv : validB t
  · have e1 : lsO t = false := by unfold lsO; rw [hv]; rfl
    have e2 : lsB t = z0 := by unfold lsB; rw [hv]; rfl
    have e3 : lsL t = [] := by unfold lsL; rw [e1]; rfl
    rw [e1, e2, e3]
    have HV := Lib.hid hv
    clear h hv e1 e2 e3
    simp only [tv]
    go_enter Try.func43, Try.ntmps43
    go_wp2_with fail
    go_step3
    go_wp2_with fail
    refine (Valid_is t _ false HV.out _ (H.out.below F0.out.b)).mono ?_
    rintro e w1 ⟨rfl, hb1⟩
    have F1 := Lib.hid (F0.out.step hb1)
    clear hb1
    obtain ⟨c0, c1, c2, c3⟩ : w1.cell? ⟨w.heap.size + 1, 0, none⟩ = some (.int .i64 0) ∧ w1.cell? ⟨w.heap.size + 1, 1, none⟩ = some (.int .i64 0) ∧ w1.cell? ⟨w.heap.size + 1, 2, none⟩ = some (.string ⟨#[]⟩) ∧ w1.cell? ⟨w.heap.size + 1, 3, none⟩ = some (.slice none 0 0) := F1.out.r.cells
    obtain ⟨f0, f1, f2, f3⟩ := F1.out.r.froz
    go_wp2_with fail
    clear c0 c1 c2 c3 f0 f1 f2 f3
    have FZ : Hid (Fr w ((((w1.setCell ⟨w.heap.size + 1, 0, none⟩ (.int .i64 0)).setCell ⟨w.heap.size + 1, 1, none⟩ (.int .i64 0)).setCell ⟨w.heap.size + 1, 2, none⟩ (.string ⟨#[]⟩)).setCell ⟨w.heap.size + 1, 3, none⟩ (.slice none 0 0)) t (.slice va t.args.length vc) z0 (.slice none 0 0)) := Lib.hid (F1.out.putR z0 (.slice none 0 0) _ rfl)
    generalize ((((w1.setCell ⟨w.heap.size + 1, 0, none⟩ (.int .i64 0)).setCell ⟨w.heap.size + 1, 1, none⟩ (.int .i64 0)).setCell ⟨w.heap.size + 1, 2, none⟩ (.string ⟨#[]⟩)).setCell ⟨w.heap.size + 1, 3, none⟩ (.slice none 0 0)) = WZ at *
    obtain ⟨k0, k1, k2, k3⟩ : WZ.cell? ⟨w.heap.size + 1, 0, none⟩ = some (.int .i64 0) ∧ WZ.cell? ⟨w.heap.size + 1, 1, none⟩ = some (.int .i64 0) ∧ WZ.cell? ⟨w.heap.size + 1, 2, none⟩ = some (.string ⟨#[]⟩) ∧ WZ.cell? ⟨w.heap.size + 1, 3, none⟩ = some (.slice none 0 0) := FZ.out.r.cells
    try rw [Exit.noGoto_ret]
    exact bodyPost_ret (v := .tuple #[.slice none 0 0, zv, .bool false]) (by simp [results, Try.results43, go_sem, k0, k1, k2, k3]) rfl (FZ.out.chkL (OwnT.lies (S := fun _ => True) _ _ zero_own) [] (.slice none 0 0) false (nil_lies _))
  · obtain ⟨RL, hRL⟩ : ∃ r, lsL t = r := ⟨_, rfl⟩
    obtain ⟨RB, hRB⟩ : ∃ r, lsB t = r := ⟨_, rfl⟩
    obtain ⟨RO, hRO⟩ : ∃ r, lsO t = r := ⟨_, rfl⟩
    rw [hRL, hRB, hRO]
    have HRL : Hid (RL = if RO = true then (elemsT t).1 else []) := Lib.hid (by rw [← hRL]; unfold lsL; rw [hRO])
    have HRB : Hid (RB = if ((elemsT t).2.kind == 0) = true then instT else if isNil (elemsT t).2 = true then z0 else typeT ⟨#[108, 105, 115, 116]⟩ t) := Lib.hid (by rw [← hRB]; unfold lsB; rw [if_pos hv])
    have HRO : Hid (RO = isNil (elemsT t).2) := Lib.hid (by rw [← hRO]; unfold lsO; rw [hv, Bool.true_and])
    have HV := Lib.hid hv
    have HCN : Hid (cnt t ≤ 2000) := Lib.hid (cntM_valid hv).2
    have HI : Hid (∀ w0, Calls Try.prog 12 #[] w0 (MadeEnd instT w0)) := Lib.hid (fun w0 => Inst_any w0)
    have HTY : Hid (∀ w0, Below w.heap.size w w0 → Calls Try.prog 14 #[.string ⟨#[108, 105, 115, 116]⟩, tv t (.slice va t.args.length vc)] w0 (MadeEnd (typeT ⟨#[108, 105, 115, 116]⟩ t) w0)) := Lib.hid (fun w0 hb => Type_any t _ ⟨#[108, 105, 115, 116]⟩ w0 (H.out.below hb) (by simp [ByteArray.size]))
    have HCL : Hid (∀ w0, Below w.heap.size w w0 → Calls Try.prog 73 #[tv t (.slice va t.args.length vc)] w0 (MadeEnd t w0)) := Lib.hid (fun w0 hb => Clone_yes t _ w0 (H.out.below hb) HV.out)
    clear h hv hRL hRB hRO
    simp only [tv]
    go_enter Try.func43, Try.ntmps43
    go_wp2_with fail
    go_step3
    go_wp2_with fail
    refine (Valid_is t _ true HV.out _ (H.out.below F0.out.b)).mono ?_
    rintro e w1 ⟨rfl, hb1⟩
    have F1 := Lib.hid (F0.out.step hb1)
    clear hb1
    obtain ⟨p0, p1, p2, p3⟩ := F1.out.p.cells
    go_wp2_with fail
    refine (HCL.out _ F1.out.b).mono ?_
    rintro e w2 ⟨y, rfl, hy, hb2⟩
    obtain ⟨ya, yc, rfl⟩ := hy.slice
    have F2 := Lib.hid (F1.out.step hb2)
    have HY : Hid (OwnT (fun b => w.heap.size + 2 ≤ b ∧ b < w2.heap.size) w2 t (.slice ya t.args.length yc)) := Lib.hid (Beh.of hy F1.out.z)
    clear hb2 hy p0 p1 p2 p3 HCL
    go_wp2_with fail
    go_step3
    go_wp2_with fail
    obtain ⟨r5, hr5⟩ : ∃ r, w2.heap.size = r := ⟨_, rfl⟩
    have HR5 := Lib.hid hr5
    have R5 : Hid (RowT (w2.alloc (.cells #[.int .i64 t.kind, .int .i64 t.num, .string t.name, .slice ya t.args.length yc] 24)) r5 t (.slice ya t.args.length yc)) := Lib.hid (by rw [← hr5]; exact RowT.new w2 t _)
    rw [hr5]
    clear hr5
    go_loopw [2] (fun x wr => ∃ (l : List PV) (cur : Tm) (ca : Option Addr) (cc : Nat) (xa : Option Addr) (xc : Nat), x = .slice xa l.length xc ∧ l.length + cnt cur ≤ 2000 ∧ Hid (Below w2.heap.size w2 wr) ∧ Hid (RowT wr r5 cur (.slice ca cur.args.length cc)) ∧ Hid (OwnT (fun b => w.heap.size + 2 ≤ b ∧ b < w2.heap.size) w2 cur (.slice ca cur.args.length cc) ∧ ∀ p ∈ l, OwnT (fun b => w.heap.size + 2 ≤ b ∧ b < w2.heap.size) w2 p.1 p.2) ∧ Hid (wr.ownsRow (r5 + 1) 24 4 (.slice xa l.length xc) l.length (flat l)) ∧ Hid (l.map Prod.fst ++ (elemsT cur).1 = (elemsT t).1 ∧ (elemsT cur).2 = (elemsT t).2)) (fun x _ => 2001 - (match x with | .slice _ n _ => n | _ => 0))
    case atStart => exact ⟨[], t, ya, yc, none, 0, rfl, by have := HCN.out; simpa using this, Lib.hid (al0 _ _), R5, Lib.hid ⟨HY.out, by simp⟩, Lib.hid (World.ownsRow_nil _ _ _ _), Lib.hid ⟨by simp, rfl⟩⟩
    case round =>
      obtain ⟨l, cur, ca, cc, xa, xc, rfl, hcn, hb, hrow, hli, hown, hel⟩ := hrel
      have F3 := Lib.hid (F2.out.step hb.out)
      obtain ⟨q0, q1, q2, q3⟩ := hrow.out.cells
      rcases Bool.eq_false_or_eq_true (cur.kind == 0) with hk | hk
      · have hp : isPairB cur = false := by
          rw [← isS_dot]; unfold isS
          have : cur.kind = 0 := by simpa using hk
          rw [this]; rfl
        have e2 : (elemsT t).2 = cur := by rw [← hel.out.2, elemsT_not cur hp]
        have e4 : isNil cur = false := by unfold isNil; have : cur.kind = 0 := by simpa using hk
                                          rw [this]; rfl
        obtain rfl : RO = false := by rw [HRO.out, e2, e4]
        obtain rfl : RB = instT := by rw [HRB.out, e2, if_pos hk]
        obtain rfl : RL = [] := by rw [HRL.out]; rfl
        clear hp e2 e4
        generalize instT = R at *
        go_wp2_with fail
        refine (HI.out _).mono ?_
        rintro e w8 ⟨yr, rfl, hyr, hb8⟩
        obtain ⟨yra, yrc, rfl⟩ := hyr.slice
        have FA := Lib.hid (F3.out.step hb8)
        have YA : Hid (Beh w w8 R (.slice yra R.args.length yrc)) := Lib.hid (Beh.of hyr F3.out.z)
        clear hb8 hyr
        obtain ⟨c0, c1, c2, c3⟩ := FA.out.r.cells
        obtain ⟨f0, f1, f2, f3⟩ := FA.out.r.froz
        go_wp2_with fail
        clear c0 c1 c2 c3 f0 f1 f2 f3
        have FB : Hid (Fr w ((((w8.setCell ⟨w.heap.size + 1, 0, none⟩ (.int .i64 R.kind)).setCell ⟨w.heap.size + 1, 1, none⟩ (.int .i64 R.num)).setCell ⟨w.heap.size + 1, 2, none⟩ (.string R.name)).setCell ⟨w.heap.size + 1, 3, none⟩ (.slice yra R.args.length yrc)) t (.slice va t.args.length vc) R (.slice yra R.args.length yrc)) := Lib.hid (FA.out.putR R (.slice yra R.args.length yrc) _ rfl)
        have YB : Hid (Beh w ((((w8.setCell ⟨w.heap.size + 1, 0, none⟩ (.int .i64 R.kind)).setCell ⟨w.heap.size + 1, 1, none⟩ (.int .i64 R.num)).setCell ⟨w.heap.size + 1, 2, none⟩ (.string R.name)).setCell ⟨w.heap.size + 1, 3, none⟩ (.slice yra R.args.length yrc)) R (.slice yra R.args.length yrc)) := Lib.hid (Beh.put YA.out (by omega) (FA.out.r) _ _ _ _ _ rfl)
        generalize ((((w8.setCell ⟨w.heap.size + 1, 0, none⟩ (.int .i64 R.kind)).setCell ⟨w.heap.size + 1, 1, none⟩ (.int .i64 R.num)).setCell ⟨w.heap.size + 1, 2, none⟩ (.string R.name)).setCell ⟨w.heap.size + 1, 3, none⟩ (.slice yra R.args.length yrc)) = WB at *
        obtain ⟨k0, k1, k2, k3⟩ : WB.cell? ⟨w.heap.size + 1, 0, none⟩ = some (.int .i64 R.kind) ∧ WB.cell? ⟨w.heap.size + 1, 1, none⟩ = some (.int .i64 R.num) ∧ WB.cell? ⟨w.heap.size + 1, 2, none⟩ = some (.string R.name) ∧ WB.cell? ⟨w.heap.size + 1, 3, none⟩ = some (.slice yra R.args.length yrc) := FB.out.r.cells
        try rw [Exit.noGoto_ret]
        exact bodyPost_ret (v := .tuple #[.slice none 0 0, tv R (.slice yra R.args.length yrc), .bool false]) (by simp [results, Try.results43, go_sem, k0, k1, k2, k3]) rfl (FB.out.chkL (OwnT.lies _ _ YB.out) [] (.slice none 0 0) false (nil_lies _))
      · by_cases hn : isNil cur = true
        · have hn2 := hn
          simp only [isNil, Bool.and_eq_true] at hn2
          have n1 := hn2.1
          have n2 : (cur.name.toList == [91, 93]) = true := by rw [Lib.toList_data]; exact hn2.2
          have hp : isPairB cur = false := by
            rw [← isS_dot]; unfold isS
            have : cur.kind = 2 := by simpa using n1
            rw [this]; rfl
          have e2 : (elemsT t).2 = cur := by rw [← hel.out.2, elemsT_not cur hp]
          have e1 : l.map Prod.fst = (elemsT t).1 := by rw [← hel.out.1, elemsT_not cur hp]; simp
          obtain rfl : RO = true := by rw [HRO.out, e2, hn]
          obtain rfl : RB = z0 := by rw [HRB.out, e2, if_neg (by rw [hk]; simp), if_pos hn]
          obtain rfl : RL = l.map Prod.fst := by rw [HRL.out, e1]; rfl
          clear hn hn2 hp e2 e1
          obtain ⟨c0, c1, c2, c3⟩ : wr.cell? ⟨w.heap.size + 1, 0, none⟩ = some (.int .i64 0) ∧ wr.cell? ⟨w.heap.size + 1, 1, none⟩ = some (.int .i64 0) ∧ wr.cell? ⟨w.heap.size + 1, 2, none⟩ = some (.string ⟨#[]⟩) ∧ wr.cell? ⟨w.heap.size + 1, 3, none⟩ = some (.slice none 0 0) := F3.out.r.cells
          obtain ⟨f0, f1, f2, f3⟩ := F3.out.r.froz
          obtain ⟨n, hln⟩ : ∃ n, l.length = n := ⟨_, rfl⟩
          have HLN := Lib.hid hln
          rw [hln] at hown ⊢
          clear hln hel
          go_wp2_with fail
          clear c0 c1 c2 c3 f0 f1 f2 f3
          have FZ : Hid (Fr w ((((wr.setCell ⟨w.heap.size + 1, 0, none⟩ (.int .i64 0)).setCell ⟨w.heap.size + 1, 1, none⟩ (.int .i64 0)).setCell ⟨w.heap.size + 1, 2, none⟩ (.string ⟨#[]⟩)).setCell ⟨w.heap.size + 1, 3, none⟩ (.slice none 0 0)) t (.slice va t.args.length vc) z0 (.slice none 0 0)) := Lib.hid (F3.out.putR z0 (.slice none 0 0) _ rfl)
          have OZ : Hid (((((wr.setCell ⟨w.heap.size + 1, 0, none⟩ (.int .i64 0)).setCell ⟨w.heap.size + 1, 1, none⟩ (.int .i64 0)).setCell ⟨w.heap.size + 1, 2, none⟩ (.string ⟨#[]⟩)).setCell ⟨w.heap.size + 1, 3, none⟩ (.slice none 0 0)).ownsRow (r5 + 1) 24 4 (.slice xa n xc) n (flat l)) := Lib.hid (ownsRow_at hown.out (fun g' hg' => (four F3.out.r _ _ _ _).2.1 g' (by have := (hown.out.lt g' hg').1; have := F2.out.z; have := HR5.out; omega)))
          have HLZ : Hid (LiesA ((((wr.setCell ⟨w.heap.size + 1, 0, none⟩ (.int .i64 0)).setCell ⟨w.heap.size + 1, 1, none⟩ (.int .i64 0)).setCell ⟨w.heap.size + 1, 2, none⟩ (.string ⟨#[]⟩)).setCell ⟨w.heap.size + 1, 3, none⟩ (.slice none 0 0)) (l.map Prod.fst) (.slice xa n xc)) := Lib.hid (own_lies0 OZ.out HLN.out (fun p hp => OwnT.lies (S := fun b => w.heap.size + 2 ≤ b ∧ b < w2.heap.size) _ _ ((hli.out.2 p hp).keep (fun b hb2 => ((four F3.out.r _ _ _ _).2.1 b (by have := hb2.1; omega)).trans (hb.out.block b hb2.2)) (fun _ h _ => h))))
          generalize ((((wr.setCell ⟨w.heap.size + 1, 0, none⟩ (.int .i64 0)).setCell ⟨w.heap.size + 1, 1, none⟩ (.int .i64 0)).setCell ⟨w.heap.size + 1, 2, none⟩ (.string ⟨#[]⟩)).setCell ⟨w.heap.size + 1, 3, none⟩ (.slice none 0 0)) = WZ at *
          obtain ⟨k0, k1, k2, k3⟩ : WZ.cell? ⟨w.heap.size + 1, 0, none⟩ = some (.int .i64 0) ∧ WZ.cell? ⟨w.heap.size + 1, 1, none⟩ = some (.int .i64 0) ∧ WZ.cell? ⟨w.heap.size + 1, 2, none⟩ = some (.string ⟨#[]⟩) ∧ WZ.cell? ⟨w.heap.size + 1, 3, none⟩ = some (.slice none 0 0) := FZ.out.r.cells
          try rw [Exit.noGoto_ret]
          exact bodyPost_ret (v := .tuple #[.slice xa n xc, zv, .bool true]) (by simp [results, Try.results43, go_sem, k0, k1, k2, k3]) rfl (FZ.out.chkL (OwnT.lies (S := fun _ => True) _ _ zero_own) _ _ true HLZ.out)
        · have hnn : isNil cur = false := by simpa using hn
          have hnb : ((cur.kind == 2) && (cur.name.toList == [91, 93])) = false := by rw [Lib.toList_data]; exact hnn
          have HPB : Hid (∀ w', Below w2.heap.size w2 w' → Calls Try.prog 72 #[tv cur (.slice ca cur.args.length cc), .string ⟨#[46]⟩, .int .i64 2] w' fun e w'' => e = .returned (.bool (isPairB cur)) ∧ Below w'.heap.size w' w'') := Lib.hid (fun w' hb => by have hh := isStructure_any cur (.slice ca cur.args.length cc) ⟨#[46]⟩ 2 w' ((OwnT.lies _ _ hli.out.1).below hb); rw [isS_dot] at hh; exact hh)
          have HNN := Lib.hid hnn
          clear hn hnn
          rcases Bool.eq_false_or_eq_true (isPairB cur) with hp | hp
          · rw [hp] at HPB
            have HP := Lib.hid hp
            obtain ⟨n, x, y, rfl⟩ := pair_of hp
            clear hp hnb hk
            obtain ⟨b, cap, vx, vy, ea, hcap, hSb, x0, x1, x2, x3, hx, y0, y1, y2, y3, hy⟩ := ownT_pair hli.out.1
            obtain ⟨rfl, rfl⟩ : ca = some ⟨b, 0, none⟩ ∧ cc = cap := by
              have h := Value.slice.inj ea
              exact ⟨h.1, h.2.2⟩
            obtain ⟨pa, pc, rfl⟩ := hx.slice
            obtain ⟨qa, qc, rfl⟩ := hy.slice
            have HX := Lib.hid hx
            have HYY := Lib.hid hy
            have HCX : Hid (∀ w', Below w2.heap.size w2 w' → (w'.cell? ⟨b, 0, none⟩ = some (.int .i64 x.kind) ∧ w'.cell? ⟨b, 1, none⟩ = some (.int .i64 x.num) ∧ w'.cell? ⟨b, 2, none⟩ = some (.string x.name) ∧ w'.cell? ⟨b, 3, none⟩ = some (.slice pa x.args.length pc)) ∧ (w'.cell? ⟨b, 4, none⟩ = some (.int .i64 y.kind) ∧ w'.cell? ⟨b, 5, none⟩ = some (.int .i64 y.num) ∧ w'.cell? ⟨b, 6, none⟩ = some (.string y.name) ∧ w'.cell? ⟨b, 7, none⟩ = some (.slice qa y.args.length qc))) := Lib.hid (fun w' hb => ⟨⟨cell_below hb _ _ x0, cell_below hb _ _ x1, cell_below hb _ _ x2, cell_below hb _ _ x3⟩, ⟨cell_below hb _ _ y0, cell_below hb _ _ y1, cell_below hb _ _ y2, cell_below hb _ _ y3⟩⟩)
            have HRC : Hid (∀ w', RowT w' r5 (.mk 3 n dot [x, y]) (.slice (some ⟨b, 0, none⟩) 2 cc) → (w'.cell? ⟨r5, 0, none⟩ = some (.int .i64 3) ∧ w'.cell? ⟨r5, 1, none⟩ = some (.int .i64 n) ∧ w'.cell? ⟨r5, 2, none⟩ = some (.string dot) ∧ w'.cell? ⟨r5, 3, none⟩ = some (.slice (some ⟨b, 0, none⟩) 2 cc)) ∧ (w'.frozen? ⟨r5, 0, none⟩ = false ∧ w'.frozen? ⟨r5, 1, none⟩ = false ∧ w'.frozen? ⟨r5, 2, none⟩ = false ∧ w'.frozen? ⟨r5, 3, none⟩ = false)) := Lib.hid (fun w' h => ⟨h.cells, h.froz⟩)
            have HROW : Hid (RowT wr r5 (.mk 3 n dot [x, y]) (.slice (some ⟨b, 0, none⟩) 2 cc)) := Lib.hid hrow.out
            have HPB2 : Hid (∀ w', Below w2.heap.size w2 w' → Calls Try.prog 72 #[.agg #[.int .i64 3, .int .i64 n, .string dot, .slice (some ⟨b, 0, none⟩) 2 cc], .string ⟨#[46]⟩, .int .i64 2] w' fun e w'' => e = .returned (.bool true) ∧ Below w'.heap.size w' w'') := Lib.hid (fun w' hb => HPB.out w' hb)
            have hle : l.length + 3 ≤ 2000 := by have := cnt_pos x; have := cnt_pos y; simp [cnt, cntL] at hcn; omega
            have HCN2 : Hid (l.length + 1 + cnt y ≤ 2000) := Lib.hid (by have := cnt_pos x; simp [cnt, cntL] at hcn; omega)
            obtain ⟨m, hm⟩ : ∃ m, l.length = m := ⟨_, rfl⟩
            have HM := Lib.hid hm
            rw [hm] at hown hle HCN2 ⊢
            clear hx hy ea x0 x1 x2 x3 y0 y1 y2 y3 q0 q1 q2 q3 hrow HPB hcn hcap hm
            obtain ⟨⟨q0, q1, q2, q3⟩, g0, g1, g2, g3⟩ := HRC.out _ HROW.out
            go_wp2_with fail
            refine (HPB2.out _ hb.out).mono ?_
            rintro e w5 ⟨rfl, hb5⟩
            have B5 := Lib.hid (hb.out.trans (hb5.mono hb.out.size))
            have ROW5 := Lib.hid (HROW.out.below hb5)
            have OWN5 := Lib.hid (HT.own_below hown.out hb5)
            clear q0 q1 q2 q3 g0 g1 g2 g3 hb5
            obtain ⟨⟨q0, q1, q2, q3⟩, g0, g1, g2, g3⟩ := HRC.out _ ROW5.out
            obtain ⟨⟨x0, x1, x2, x3⟩, y0, y1, y2, y3⟩ := HCX.out _ B5.out
            have HO1 : Hid ((w5.alloc (.cells #[.int .i64 x.kind, .int .i64 x.num, .string x.name, .slice pa x.args.length pc] 24)).ownsRow (r5 + 1) 24 4 (.slice xa m xc) m (flat l)) := Lib.hid (OWN5.out.alloc _)
            have HRN := row_one w5 x (.slice pa x.args.length pc)
            have HV1 := one_slice x pa pc
            have ROW6 := Lib.hid (ROW5.out.below (al0 w5 (.cells #[.int .i64 x.kind, .int .i64 x.num, .string x.name, .slice pa x.args.length pc] 24)))
            have B6 := Lib.hid (B5.out.alloc B5.out.size (.cells #[.int .i64 x.kind, .int .i64 x.num, .string x.name, .slice pa x.args.length pc] 24))
            have hbs : r5 + 1 ≤ (w5.alloc (.cells #[.int .i64 x.kind, .int .i64 x.num, .string x.name, .slice pa x.args.length pc] 24)).heap.size := by have := ROW6.out.lt; omega
            go_wp2_with (at_builtin; refine wp_appB rfl _ _ rfl _ (r5 + 1) m (.slice xa m xc) l [(x, .slice pa x.args.length pc)] rfl HO1 ⟨w5.heap.size, 0, none⟩ 1 1 rfl rfl HRN HV1 (by omega) hbs ?_; intro v1 w6 hown1 hb1 hz1; have ROW7 : Hid (RowT w6 r5 (.mk 3 n dot [x, y]) (.slice (some ⟨b, 0, none⟩) 2 cc)) := Lib.hid ((hb1.out.block r5 (by omega)).trans ROW6.out); have B7 : Hid (Below w2.heap.size w2 w6) := Lib.hid (B6.out.trans (hb1.out.mono (by rw [HR5.out]; omega))); obtain ⟨⟨u0, u1, u2, u3⟩, h0, h1, h2, h3⟩ := HRC.out _ ROW7.out; obtain ⟨⟨v2, v3, v4, v5⟩, v6, v7, v8, v9⟩ := HCX.out _ B7.out)
            obtain ⟨xa2, xc2, rfl⟩ := own_slice hown1.out
            go_roundw
            case rel =>
              have FO := four ROW7.out (.int .i64 y.kind) (.int .i64 y.num) (.string y.name) (.slice qa y.args.length qc)
              have hml : (l ++ [((x, .slice pa x.args.length pc) : PV)]).length = m + 1 := by simp; exact HM.out
              refine ⟨l ++ [(x, .slice pa x.args.length pc)], y, qa, qc, xa2, xc2, by rw [hml], by rw [hml]; exact HCN2.out, Lib.hid (FO.2.2.2 _ _ (by rw [HR5.out]; omega) B7.out), Lib.hid FO.1, Lib.hid ⟨HYY.out, fun p hp => ?_⟩, Lib.hid ?_, Lib.hid ?_⟩
              · rcases List.mem_append.1 hp with hp | hp
                · exact hli.out.2 p hp
                · obtain rfl := List.mem_singleton.1 hp
                  exact HX.out
              · rw [hml]
                exact ownsRow_at hown1.out (fun g' hg' => FO.2.1 g' (by have := (hown1.out.lt g' hg').1; omega))
              · have h := hel.out
                rw [elemsT_pair] at h
                exact ⟨by rw [← h.1]; simp, h.2⟩
            case measure => simp; omega
          · rw [hp] at HPB
            have e2 : (elemsT t).2 = cur := by rw [← hel.out.2, elemsT_not cur hp]
            obtain rfl : RO = false := by rw [HRO.out, e2, HNN.out]
            obtain rfl : RB = typeT ⟨#[108, 105, 115, 116]⟩ t := by rw [HRB.out, e2, if_neg (by rw [hk]; simp), if_neg (by rw [HNN.out]; simp)]
            obtain rfl : RL = [] := by rw [HRL.out]; rfl
            clear e2 hp
            generalize typeT ⟨#[108, 105, 115, 116]⟩ t = R at *
            rcases Bool.eq_false_or_eq_true (cur.kind == 2) with hk2 | hk2
            · rw [hk2, Bool.true_and] at hnb
              go_wp2_with fail
              refine (HPB.out _ hb.out).mono ?_
              rintro e w5 ⟨rfl, hb5⟩
              have F4 := Lib.hid (F3.out.step hb5)
              clear hb5
              obtain ⟨p0, p1, p2, p3⟩ := F4.out.p.cells
              go_wp2_with fail
              refine (HTY.out _ F4.out.b).mono ?_
              clear p0 p1 p2 p3
              rintro e w8 ⟨yr, rfl, hyr, hb8⟩
              obtain ⟨yra, yrc, rfl⟩ := hyr.slice
              have FA := Lib.hid (F4.out.step hb8)
              have YA : Hid (Beh w w8 R (.slice yra R.args.length yrc)) := Lib.hid (Beh.of hyr F4.out.z)
              clear hb8 hyr
              obtain ⟨c0, c1, c2, c3⟩ := FA.out.r.cells
              obtain ⟨f0, f1, f2, f3⟩ := FA.out.r.froz
              go_wp2_with fail
              clear c0 c1 c2 c3 f0 f1 f2 f3
              have FB : Hid (Fr w ((((w8.setCell ⟨w.heap.size + 1, 0, none⟩ (.int .i64 R.kind)).setCell ⟨w.heap.size + 1, 1, none⟩ (.int .i64 R.num)).setCell ⟨w.heap.size + 1, 2, none⟩ (.string R.name)).setCell ⟨w.heap.size + 1, 3, none⟩ (.slice yra R.args.length yrc)) t (.slice va t.args.length vc) R (.slice yra R.args.length yrc)) := Lib.hid (FA.out.putR R (.slice yra R.args.length yrc) _ rfl)
              have YB : Hid (Beh w ((((w8.setCell ⟨w.heap.size + 1, 0, none⟩ (.int .i64 R.kind)).setCell ⟨w.heap.size + 1, 1, none⟩ (.int .i64 R.num)).setCell ⟨w.heap.size + 1, 2, none⟩ (.string R.name)).setCell ⟨w.heap.size + 1, 3, none⟩ (.slice yra R.args.length yrc)) R (.slice yra R.args.length yrc)) := Lib.hid (Beh.put YA.out (by omega) (FA.out.r) _ _ _ _ _ rfl)
              generalize ((((w8.setCell ⟨w.heap.size + 1, 0, none⟩ (.int .i64 R.kind)).setCell ⟨w.heap.size + 1, 1, none⟩ (.int .i64 R.num)).setCell ⟨w.heap.size + 1, 2, none⟩ (.string R.name)).setCell ⟨w.heap.size + 1, 3, none⟩ (.slice yra R.args.length yrc)) = WB at *
              obtain ⟨k0, k1, k2, k3⟩ : WB.cell? ⟨w.heap.size + 1, 0, none⟩ = some (.int .i64 R.kind) ∧ WB.cell? ⟨w.heap.size + 1, 1, none⟩ = some (.int .i64 R.num) ∧ WB.cell? ⟨w.heap.size + 1, 2, none⟩ = some (.string R.name) ∧ WB.cell? ⟨w.heap.size + 1, 3, none⟩ = some (.slice yra R.args.length yrc) := FB.out.r.cells
              try rw [Exit.noGoto_ret]
              exact bodyPost_ret (v := .tuple #[.slice none 0 0, tv R (.slice yra R.args.length yrc), .bool false]) (by simp [results, Try.results43, go_sem, k0, k1, k2, k3]) rfl (FB.out.chkL (OwnT.lies _ _ YB.out) [] (.slice none 0 0) false (nil_lies _))
            · clear hnb
              go_wp2_with fail
              refine (HPB.out _ hb.out).mono ?_
              rintro e w5 ⟨rfl, hb5⟩
              have F4 := Lib.hid (F3.out.step hb5)
              clear hb5
              obtain ⟨p0, p1, p2, p3⟩ := F4.out.p.cells
              go_wp2_with fail
              refine (HTY.out _ F4.out.b).mono ?_
              clear p0 p1 p2 p3
              rintro e w8 ⟨yr, rfl, hyr, hb8⟩
              obtain ⟨yra, yrc, rfl⟩ := hyr.slice
              have FA := Lib.hid (F4.out.step hb8)
              have YA : Hid (Beh w w8 R (.slice yra R.args.length yrc)) := Lib.hid (Beh.of hyr F4.out.z)
              clear hb8 hyr
              obtain ⟨c0, c1, c2, c3⟩ := FA.out.r.cells
              obtain ⟨f0, f1, f2, f3⟩ := FA.out.r.froz
              go_wp2_with fail
              clear c0 c1 c2 c3 f0 f1 f2 f3
              have FB : Hid (Fr w ((((w8.setCell ⟨w.heap.size + 1, 0, none⟩ (.int .i64 R.kind)).setCell ⟨w.heap.size + 1, 1, none⟩ (.int .i64 R.num)).setCell ⟨w.heap.size + 1, 2, none⟩ (.string R.name)).setCell ⟨w.heap.size + 1, 3, none⟩ (.slice yra R.args.length yrc)) t (.slice va t.args.length vc) R (.slice yra R.args.length yrc)) := Lib.hid (FA.out.putR R (.slice yra R.args.length yrc) _ rfl)
              have YB : Hid (Beh w ((((w8.setCell ⟨w.heap.size + 1, 0, none⟩ (.int .i64 R.kind)).setCell ⟨w.heap.size + 1, 1, none⟩ (.int .i64 R.num)).setCell ⟨w.heap.size + 1, 2, none⟩ (.string R.name)).setCell ⟨w.heap.size + 1, 3, none⟩ (.slice yra R.args.length yrc)) R (.slice yra R.args.length yrc)) := Lib.hid (Beh.put YA.out (by omega) (FA.out.r) _ _ _ _ _ rfl)
              generalize ((((w8.setCell ⟨w.heap.size + 1, 0, none⟩ (.int .i64 R.kind)).setCell ⟨w.heap.size + 1, 1, none⟩ (.int .i64 R.num)).setCell ⟨w.heap.size + 1, 2, none⟩ (.string R.name)).setCell ⟨w.heap.size + 1, 3, none⟩ (.slice yra R.args.length yrc)) = WB at *
              obtain ⟨k0, k1, k2, k3⟩ : WB.cell? ⟨w.heap.size + 1, 0, none⟩ = some (.int .i64 R.kind) ∧ WB.cell? ⟨w.heap.size + 1, 1, none⟩ = some (.int .i64 R.num) ∧ WB.cell? ⟨w.heap.size + 1, 2, none⟩ = some (.string R.name) ∧ WB.cell? ⟨w.heap.size + 1, 3, none⟩ = some (.slice yra R.args.length yrc) := FB.out.r.cells
              try rw [Exit.noGoto_ret]
              exact bodyPost_ret (v := .tuple #[.slice none 0 0, tv R (.slice yra R.args.length yrc), .bool false]) (by simp [results, Try.results43, go_sem, k0, k1, k2, k3]) rfl (FB.out.chkL (OwnT.lies _ _ YB.out) [] (.slice none 0 0) false (nil_lies _))

end Go.Proofs.Yteilodihjhdngaa
