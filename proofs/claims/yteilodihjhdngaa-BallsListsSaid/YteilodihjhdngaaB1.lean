/- Error terms as mathematics; one boxed argument and the result's cell: what stays behind calls. -/
import Derived.Test.YteilodihjhdngaaRD
import Derived.Laws.AppendOwnNone
namespace Go.Proofs.Yteilodihjhdngaa
open Go.RowKit Go.Proofs.HT

abbrev atmT (nm : ByteArray) : Tm := .mk 2 0 nm []
abbrev nilT : Tm := .mk 2 0 ⟨#[91, 93]⟩ []
abbrev omitT : Tm := .mk 2 0 ⟨#[46, 46, 46]⟩ []
def errT (F : Tm) : Tm := .mk 3 0 ⟨#[101, 114, 114, 111, 114]⟩ [F, nilT]
/-- A term if it is valid, else the zero term. -/
def vz (t : Tm) : Tm := if validB t = true then t else z0
theorem madeV_vz {t : Tm} {w : World} {e : Ending} {w' : World} (h : MadeV t w e w') : MadeEnd (vz t) w e w' := h
/-- An error term with a culprit. -/
def culT (c : Tm) (n : Nat) : Tm := if 2000 < n + 3 + cnt c then omitT else c
def withT (c : Tm) (nm : ByteArray) (ws : List ByteArray) : Tm := if validB c = true then vz (errT (.mk 3 0 nm (ws.map atmT ++ [culT c ws.length]))) else z0

theorem al {w1 w2 : World} {o : Obj} (hb : Below (w1.alloc o).heap.size (w1.alloc o) w2) : Below w1.heap.size w1 w2 := ((Below.refl _ _).alloc (Nat.le_refl _) o).trans (hb.mono (by simp))
theorem al0 (w1 : World) (o : Obj) : Below w1.heap.size w1 (w1.alloc o) := (Below.refl _ _).alloc (Nat.le_refl _) o
theorem cells_row {w : World} {b : Nat} {a0 a1 a2 a3 : Value} {ty : TypeId} (h : w.heap[b]? = some (.cells #[a0, a1, a2, a3] ty (0, 0))) :
    w.cell? ⟨b, 0, none⟩ = some a0 ∧ w.cell? ⟨b, 1, none⟩ = some a1 ∧ w.cell? ⟨b, 2, none⟩ = some a2 ∧ w.cell? ⟨b, 3, none⟩ = some a3 := by
  refine ⟨?_, ?_, ?_, ?_⟩ <;> (rw [cell_of_row _ _ _ _ _ _ h]; rfl)
theorem frozen_row {w : World} {b : Nat} {a0 a1 a2 a3 : Value} {ty : TypeId} (h : w.heap[b]? = some (.cells #[a0, a1, a2, a3] ty (0, 0))) :
    w.frozen? ⟨b, 0, none⟩ = false ∧ w.frozen? ⟨b, 1, none⟩ = false ∧ w.frozen? ⟨b, 2, none⟩ = false ∧ w.frozen? ⟨b, 3, none⟩ = false :=
  ⟨frozen_of_row _ _ 0 _ _ h, frozen_of_row _ _ 1 _ _ h, frozen_of_row _ _ 2 _ _ h, frozen_of_row _ _ 3 _ _ h⟩
/-- A block that holds a term's four cells. -/
def RowT (w : World) (b : Nat) (t : Tm) (v : Value) : Prop := w.heap[b]? = some (.cells #[.int .i64 t.kind, .int .i64 t.num, .string t.name, v] 24 (0, 0))
theorem RowT.below {w w' : World} {b : Nat} {t : Tm} {v : Value} (h : RowT w b t v) (hb : Below w.heap.size w w') : RowT w' b t v := (hb.block b (Array.getElem?_eq_some_iff.1 h).1).trans h
theorem RowT.cells {w : World} {b : Nat} {t : Tm} {v : Value} (h : RowT w b t v) : w.cell? ⟨b, 0, none⟩ = some (.int .i64 t.kind) ∧ w.cell? ⟨b, 1, none⟩ = some (.int .i64 t.num) ∧ w.cell? ⟨b, 2, none⟩ = some (.string t.name) ∧ w.cell? ⟨b, 3, none⟩ = some v := cells_row h
theorem RowT.froz {w : World} {b : Nat} {t : Tm} {v : Value} (h : RowT w b t v) : w.frozen? ⟨b, 0, none⟩ = false ∧ w.frozen? ⟨b, 1, none⟩ = false ∧ w.frozen? ⟨b, 2, none⟩ = false ∧ w.frozen? ⟨b, 3, none⟩ = false := frozen_row h
theorem RowT.new (w : World) (t : Tm) (v : Value) : RowT (w.alloc (.cells #[.int .i64 t.kind, .int .i64 t.num, .string t.name, v] 24)) w.heap.size t v := heap_alloc_new _ _
theorem RowT.lt {w : World} {b : Nat} {t : Tm} {v : Value} (h : RowT w b t v) : b < w.heap.size := (Array.getElem?_eq_some_iff.1 h).1
abbrev put4 (w : World) (b : Nat) (a0 a1 a2 a3 : Value) : World := (((w.setCell ⟨b, 0, none⟩ a0).setCell ⟨b, 1, none⟩ a1).setCell ⟨b, 2, none⟩ a2).setCell ⟨b, 3, none⟩ a3
theorem RowT.put {w : World} {b : Nat} {t : Tm} {v : Value} (h : RowT w b t v) (u : Tm) (x : Value) : RowT (put4 w b (.int .i64 u.kind) (.int .i64 u.num) (.string u.name) x) b u x := (four h _ _ _ _).1
theorem RowT.apart {w : World} {b c : Nat} {t u : Tm} {v x : Value} (h : RowT w b t v) (k : RowT w c u x) (hne : b ≠ c) (a0 a1 a2 a3 : Value) : RowT (put4 w c a0 a1 a2 a3) b t v := ((four k a0 a1 a2 a3).2.1 b hne).trans h

/-- One boxed argument and the result's cell behind it. -/
structure Fr (w w1 : World) (t : Tm) (v : Value) (z : Tm) (y : Value) : Prop where
  b : Below w.heap.size w w1
  p : RowT w1 w.heap.size t v
  r : RowT w1 (w.heap.size + 1) z y
  z : w.heap.size + 2 ≤ w1.heap.size
theorem Fr.start (w : World) (t : Tm) (v : Value) : Fr w ((w.alloc (.cells #[.int .i64 t.kind, .int .i64 t.num, .string t.name, v] 24)).alloc (.cells #[.int .i64 0, .int .i64 0, .string ⟨#[]⟩, .slice none 0 0] 24)) t v z0 (.slice none 0 0) := by
  have h1 := RowT.new w t v
  have h2 : RowT ((w.alloc (.cells #[.int .i64 t.kind, .int .i64 t.num, .string t.name, v] 24)).alloc (.cells #[.int .i64 0, .int .i64 0, .string ⟨#[]⟩, .slice none 0 0] 24)) (w.heap.size + 1) z0 (.slice none 0 0) := by
    have h := RowT.new (w.alloc (.cells #[.int .i64 t.kind, .int .i64 t.num, .string t.name, v] 24)) z0 (.slice none 0 0)
    rw [show (w.alloc (.cells #[.int .i64 t.kind, .int .i64 t.num, .string t.name, v] 24)).heap.size = w.heap.size + 1 by simp] at h
    exact h
  exact ⟨(al0 w _).trans ((al0 _ _).mono (by simp)), h1.below (al0 _ _), h2, by simp⟩
theorem Fr.step {w w1 w2 : World} {t z : Tm} {v y : Value} (h : Fr w w1 t v z y) (hb : Below w1.heap.size w1 w2) : Fr w w2 t v z y :=
  ⟨h.b.trans (hb.mono h.b.size), h.p.below hb, h.r.below hb, Nat.le_trans h.z hb.size⟩
theorem Fr.putR {w w1 : World} {t z : Tm} {v y : Value} (h : Fr w w1 t v z y) (T : Tm) (x : Value) : ∀ w2, w2 = put4 w1 (w.heap.size + 1) (.int .i64 T.kind) (.int .i64 T.num) (.string T.name) x → Fr w w2 t v T x := by
  rintro w2 rfl
  have f := four h.r (.int .i64 T.kind) (.int .i64 T.num) (.string T.name) x
  exact ⟨f.2.2.2 _ _ (by omega) h.b, h.p.apart h.r (by omega) _ _ _ _, h.r.put T x, by rw [f.2.2.1]; exact h.z⟩
theorem Fr.putP {w w1 : World} {t z : Tm} {v y : Value} (h : Fr w w1 t v z y) (T : Tm) (x : Value) : ∀ w2, w2 = put4 w1 w.heap.size (.int .i64 T.kind) (.int .i64 T.num) (.string T.name) x → Fr w w2 T x z y := by
  rintro w2 rfl
  have f := four h.p (.int .i64 T.kind) (.int .i64 T.num) (.string T.name) x
  exact ⟨f.2.2.2 _ _ (by omega) h.b, h.p.put T x, h.r.apart h.p (by omega) _ _ _ _, by rw [f.2.2.1]; exact h.z⟩
/-- A term of the call's own that lies behind the two. -/
def Beh (w w1 : World) (T : Tm) (x : Value) : Prop := OwnT (fun b => w.heap.size + 2 ≤ b ∧ b < w1.heap.size) w1 T x
theorem Beh.of {w w0 w1 : World} {T : Tm} {x : Value} (h : OwnT (fun b => w0.heap.size ≤ b ∧ b < w1.heap.size) w1 T x) (hz : w.heap.size + 2 ≤ w0.heap.size) : Beh w w1 T x := h.keep (fun _ _ => rfl) (fun b hb _ => ⟨by omega, hb.2⟩)
theorem Beh.zero (w w1 : World) : Beh w w1 z0 (.slice none 0 0) := zero_own
theorem Beh.step {w w1 w2 : World} {T : Tm} {x : Value} (h : Beh w w1 T x) (hb : Below w1.heap.size w1 w2) : Beh w w2 T x := h.keep (fun b hb2 => hb.block b hb2.2) (fun b hb2 _ => ⟨hb2.1, by have := hb.size; omega⟩)
theorem Beh.put {w w1 : World} {T : Tm} {x : Value} (h : Beh w w1 T x) {b : Nat} (hlt : b < w.heap.size + 2) {u : Tm} {y : Value} (hr : RowT w1 b u y) (a0 a1 a2 a3 : Value) : ∀ w2, w2 = put4 w1 b a0 a1 a2 a3 → Beh w w2 T x := by
  rintro w2 rfl
  have f := four hr a0 a1 a2 a3
  exact h.keep (fun c hc => f.2.1 c (by omega)) (fun c hc _ => ⟨hc.1, by rw [f.2.2.1]; exact hc.2⟩)
theorem Fr.done {w w1 : World} {t z : Tm} {v y : Value} (h : Fr w w1 t v z y) (k : Beh w w1 z y) : MadeEnd z w (.returned (tv z y)) w1 := ⟨y, rfl, k.keep (fun _ _ => rfl) (fun b hb _ => ⟨by omega, hb.2⟩), h.b⟩
/-- A ball and whether it passes; with one value ahead; with two. -/
def Chk0 (B : Tm) (q : Bool) (w : World) (e : Ending) (w' : World) : Prop := ∃ v, e = .returned (.tuple #[tv B v, .bool q]) ∧ OwnT (fun b => w.heap.size ≤ b ∧ b < w'.heap.size) w' B v ∧ Below w.heap.size w w'
def Chk1 (a : Value) (B : Tm) (q : Bool) (w : World) (e : Ending) (w' : World) : Prop := ∃ v, e = .returned (.tuple #[a, tv B v, .bool q]) ∧ OwnT (fun b => w.heap.size ≤ b ∧ b < w'.heap.size) w' B v ∧ Below w.heap.size w w'
def Chk2 (a c : Value) (B : Tm) (q : Bool) (w : World) (e : Ending) (w' : World) : Prop := ∃ v, e = .returned (.tuple #[a, c, tv B v, .bool q]) ∧ OwnT (fun b => w.heap.size ≤ b ∧ b < w'.heap.size) w' B v ∧ Below w.heap.size w w'
theorem Fr.chk0 {w w1 : World} {t z : Tm} {v y : Value} (h : Fr w w1 t v z y) (k : Beh w w1 z y) (q : Bool) : Chk0 z q w (.returned (.tuple #[tv z y, .bool q])) w1 := ⟨y, rfl, k.keep (fun _ _ => rfl) (fun b hb _ => ⟨by omega, hb.2⟩), h.b⟩
theorem Fr.chk1 {w w1 : World} {t z : Tm} {v y : Value} (h : Fr w w1 t v z y) (k : Beh w w1 z y) (a : Value) (q : Bool) : Chk1 a z q w (.returned (.tuple #[a, tv z y, .bool q])) w1 := ⟨y, rfl, k.keep (fun _ _ => rfl) (fun b hb _ => ⟨by omega, hb.2⟩), h.b⟩
theorem Fr.chk2 {w w1 : World} {t z : Tm} {v y : Value} (h : Fr w w1 t v z y) (k : Beh w w1 z y) (a c : Value) (q : Bool) : Chk2 a c z q w (.returned (.tuple #[a, c, tv z y, .bool q])) w1 := ⟨y, rfl, k.keep (fun _ _ => rfl) (fun b hb _ => ⟨by omega, hb.2⟩), h.b⟩

end Go.Proofs.Yteilodihjhdngaa

/- The program's atom, errorTerm. -/
namespace Go.Proofs.Yteilodihjhdngaa
open Go.RowKit Go.Proofs.HT

set_option maxHeartbeats 1000000 in
theorem batom_any (s : ByteArray) (w : World) :
    Calls Try.prog 63 #[.string s] w fun e w' => e = .returned (pv 2 0 s (.slice none 0 0)) ∧ Below w.heap.size w w' := by
  have fr : ∀ o, Below w.heap.size w (w.alloc o) := fun o => (Below.refl _ _).alloc (Nat.le_refl _) _
  go_enter Try.func63, Try.ntmps63
  go_wp2_with fail
  exact bodyPost_ret (v := pv 2 0 s (.slice none 0 0)) (by simp [results, Try.results63, go_sem]) rfl ⟨rfl, fr _⟩
/-- What Struct makes of an error term's two arguments, laid into a new block. -/
def ErrS (k n : Int) (s : ByteArray) (x : Value) (Q : Tm) (w : World) : Prop := ∀ g, w.heap.size = g →
    Calls Try.prog 81 #[.string ⟨#[101, 114, 114, 111, 114]⟩, .slice (some ⟨g, 0, none⟩) 2 2] (w.alloc (.cells #[.int .i64 k, .int .i64 n, .string s, x, .int .i64 2, .int .i64 0, .string ⟨#[91, 93]⟩, .slice none 0 0] 24)) (MadeEnd Q (w.alloc (.cells #[.int .i64 k, .int .i64 n, .string s, x, .int .i64 2, .int .i64 0, .string ⟨#[91, 93]⟩, .slice none 0 0] 24)))
theorem err_struct (F : Tm) (x : Value) (w : World) (h : LiesT w F x) : ErrS F.kind F.num F.name x (vz (errT F)) w := by
  intro g hg
  have hl := lies_new (ty := 24) hg [(F, x), (nilT, .slice none 0 0)] (by simp only [EnvT]; exact ⟨h, atom_lies (by simp [ByteArray.size]), trivial⟩) (by simp)
  exact (Struct_some ⟨#[101, 114, 114, 111, 114]⟩ [F, nilT] _ _ _ (by simp [ByteArray.size]) hl (by simp)).mono fun e w' h => madeV_vz h

set_option maxHeartbeats 2000000 in
theorem errorTerm_none (nm : ByteArray) (w : World) (hn : nm.size ≤ 9223372036854775807) :
    Calls Try.prog 61 #[.string nm, .slice none 0 0] w (MadeEnd (vz (errT (atmT nm))) w) := by
  obtain ⟨Q, hQ⟩ : ∃ Q, vz (errT (atmT nm)) = Q := ⟨_, rfl⟩
  have HS0 : Hid (∀ w0, ErrS 2 0 nm (.slice none 0 0) Q w0) := Lib.hid (by rw [← hQ]; exact fun w0 => err_struct (atmT nm) (.slice none 0 0) w0 (atom_lies hn))
  rw [hQ]
  clear hQ hn
  have R0 := Lib.hid (RowT.new w z0 (.slice none 0 0))
  go_enter Try.func61, Try.ntmps61
  go_wp2_with fail
  refine (batom_any nm _).mono ?_
  rintro e w1 ⟨rfl, hb1⟩
  have R00 : Hid (RowT w1 w.heap.size z0 (.slice none 0 0)) := Lib.hid (R0.out.below hb1)
  have B0 : Hid (Below w.heap.size w w1) := Lib.hid (al hb1)
  have Z0 : Hid (w.heap.size + 1 ≤ w1.heap.size) := Lib.hid (by have := hb1.size; simp at this; omega)
  clear hb1 R0
  go_wp2_with fail
  have P5 := Lib.hid (RowT.new w1 (atmT nm) (.slice none 0 0))
  have R1 := Lib.hid (R00.out.below (al0 w1 (.cells #[.int .i64 2, .int .i64 0, .string nm, .slice none 0 0] 24)))
  have B1 := Lib.hid (B0.out.alloc B0.out.size (.cells #[.int .i64 2, .int .i64 0, .string nm, .slice none 0 0] 24))
  have ZW : Hid (w1.heap.size < (w1.alloc (.cells #[.int .i64 2, .int .i64 0, .string nm, .slice none 0 0] 24)).heap.size) := Lib.hid (by simp)
  obtain ⟨g5, hg5⟩ : ∃ g, w1.heap.size = g := ⟨_, rfl⟩
  rw [hg5] at P5 Z0 ZW ⊢
  obtain ⟨W, hW⟩ : ∃ W, w1.alloc (.cells #[.int .i64 2, .int .i64 0, .string nm, .slice none 0 0] 24) = W := ⟨_, rfl⟩
  have P5 : Hid (W.heap[g5]? = some (.cells #[.int .i64 2, .int .i64 0, .string nm, .slice none 0 0] 24 (0, 0))) := Lib.hid (by rw [← hW]; exact P5.out)
  have Z1 : Hid (w.heap.size + 1 ≤ g5 ∧ g5 < W.heap.size) := Lib.hid (by rw [← hW]; exact ⟨Z0.out, ZW.out⟩)
  rw [hW] at R1 B1 ⊢
  clear hW hg5 R00 B0 Z0 ZW
  have HS : Hid (∀ w0, Below W.heap.size W w0 → ErrS 2 0 nm (.slice none 0 0) Q w0) := Lib.hid (fun w0 _ => HS0.out w0)
  have hS0 : Below W.heap.size W W.drew := (Below.refl _ _).drew
  have HSS : Hid (∀ w', Below W.heap.size W w' → (fun w' => Below w.heap.size w w' ∧ w'.cell? ⟨g5, 0, none⟩ = some (.int .i64 2) ∧ w'.cell? ⟨g5, 1, none⟩ = some (.int .i64 0) ∧ w'.cell? ⟨g5, 2, none⟩ = some (.string nm) ∧ w'.cell? ⟨g5, 3, none⟩ = some (.slice none 0 0)) w') := Lib.hid (fun w' h => ⟨B1.out.trans (h.mono B1.out.size), cells_row ((h.block g5 (Array.getElem?_eq_some_iff.1 P5.out).1).trans P5.out)⟩)
  obtain ⟨p0, p1, p2, p3⟩ := cells_row P5.out
  go_region_held3 (fun w' => Below w.heap.size w w' ∧ w'.cell? ⟨g5, 0, none⟩ = some (.int .i64 2) ∧ w'.cell? ⟨g5, 1, none⟩ = some (.int .i64 0) ∧ w'.cell? ⟨g5, 2, none⟩ = some (.string nm) ∧ w'.cell? ⟨g5, 3, none⟩ = some (.slice none 0 0))
    (first | exact HS9 | exact HSS.out _ h6 | exact HSS.out _ h5 | exact HSS.out _ (h5.alloc h5.size _) | exact HSS.out _ hS0 | go_keep)
    (first
      | (go_at_call 63; ((with_reducible refine (batom_any _ _).mono ?_); rintro e w2 ⟨rfl, hb2⟩; have h5 : Below W.heap.size W w2 := hS0.trans (hb2.mono hS0.size)))
      | (go_at_call 81; refine (HS.out _ h5 _ rfl).mono ?_; rintro e w3 ⟨y, rfl, hy, hb3⟩; obtain ⟨ya, yc, rfl⟩ := hy.slice; have h6 : Below W.heap.size W w3 := h5.trans ((al hb3).mono h5.size); have B3 := Lib.hid (B1.out.trans (h6.mono B1.out.size)); have R3 := Lib.hid (R1.out.below h6); have P3 := Lib.hid ((h6.block g5 (Array.getElem?_eq_some_iff.1 P5.out).1).trans P5.out); have HY := Lib.hid (OwnT.keep (S' := fun b => w.heap.size + 1 ≤ b ∧ b < w3.heap.size) (fun _ _ => rfl) (fun b hb _ => ⟨(by have h8 := hb.1; have h9 := h5.size; have h10 := Z1.out; simp at h8; omega), hb.2⟩) _ _ hy); obtain ⟨c0, c1, c2, c3⟩ := R3.out.cells; obtain ⟨f0, f1, f2, f3⟩ := R3.out.froz; have HS9 : (fun w' => Below w.heap.size w w' ∧ w'.cell? ⟨g5, 0, none⟩ = some (.int .i64 2) ∧ w'.cell? ⟨g5, 1, none⟩ = some (.int .i64 0) ∧ w'.cell? ⟨g5, 2, none⟩ = some (.string nm) ∧ w'.cell? ⟨g5, 3, none⟩ = some (.slice none 0 0)) ((((w3.setCell ⟨w.heap.size, 0, none⟩ (.int .i64 Q.kind)).setCell ⟨w.heap.size, 1, none⟩ (.int .i64 Q.num)).setCell ⟨w.heap.size, 2, none⟩ (.string Q.name)).setCell ⟨w.heap.size, 3, none⟩ (.slice ya Q.args.length yc)) := ⟨(four R3.out _ _ _ _).2.2.2 _ _ (Nat.le_refl _) B3.out, cells_row (((four R3.out _ _ _ _).2.1 g5 (by have := Z1.out; omega)).trans P3.out)⟩; clear hb3 hy))
  go_wp2_with fail
  have PE := made_end1 (T := Q) B3.out HY.out R3.out _ rfl
  have K := (four R3.out (.int .i64 Q.kind) (.int .i64 Q.num) (.string Q.name) (.slice ya Q.args.length yc)).1
  generalize ((((w3.setCell ⟨w.heap.size, 0, none⟩ (.int .i64 Q.kind)).setCell ⟨w.heap.size, 1, none⟩ (.int .i64 Q.num)).setCell ⟨w.heap.size, 2, none⟩ (.string Q.name)).setCell ⟨w.heap.size, 3, none⟩ (.slice ya Q.args.length yc)) = W3 at *
  obtain ⟨k0, k1, k2, k3⟩ := cells_row K
  exact bodyPost_ret (v := tv Q (.slice ya Q.args.length yc)) (by simp [results, Try.results61, go_sem, k0, k1, k2, k3]) rfl PE

set_option maxHeartbeats 2000000 in
theorem errorTerm_some (nm : ByteArray) (ts : List Tm) (a : Option Addr) (n cap : Nat) (w : World) (hn : nm.size ≤ 9223372036854775807) (hl : LiesA w ts (.slice a n cap)) (hz : 0 < n) :
    Calls Try.prog 61 #[.string nm, .slice a n cap] w (MadeEnd (vz (errT (.mk 3 0 nm ts))) w) := by
  obtain ⟨Q, hQ⟩ : ∃ Q, vz (errT (.mk 3 0 nm ts)) = Q := ⟨_, rfl⟩
  have HS0 : Hid (∀ w0, LiesT w0 (.mk 3 0 nm ts) (.slice a n cap) → ErrS 3 0 nm (.slice a n cap) Q w0) := Lib.hid (by rw [← hQ]; exact fun w0 h => err_struct (.mk 3 0 nm ts) (.slice a n cap) w0 h)
  have HL := Lib.hid (struct_lies hn hl)
  rw [hQ]
  have d1 : decide ((0 : Int) < (n : Int)) = true := by simp; omega
  have d2 : (0 : Int) < (n : Int) := by omega
  clear hQ hn hl
  have R0 := Lib.hid (RowT.new w z0 (.slice none 0 0))
  go_enter Try.func61, Try.ntmps61
  go_wp2_with fail
  refine (batom_any nm _).mono ?_
  rintro e w1 ⟨rfl, hb1⟩
  have R00 : Hid (RowT w1 w.heap.size z0 (.slice none 0 0)) := Lib.hid (R0.out.below hb1)
  have B0 : Hid (Below w.heap.size w w1) := Lib.hid (al hb1)
  have Z0 : Hid (w.heap.size + 1 ≤ w1.heap.size) := Lib.hid (by have := hb1.size; simp at this; omega)
  clear hb1 R0
  go_wp2_with fail
  have P5 := Lib.hid (RowT.new w1 (.mk 3 0 nm ts) (.slice a n cap))
  have R1 := Lib.hid (R00.out.below (al0 w1 (.cells #[.int .i64 3, .int .i64 0, .string nm, .slice a n cap] 24)))
  have B1 := Lib.hid (B0.out.alloc B0.out.size (.cells #[.int .i64 3, .int .i64 0, .string nm, .slice a n cap] 24))
  have ZW : Hid (w1.heap.size < (w1.alloc (.cells #[.int .i64 3, .int .i64 0, .string nm, .slice a n cap] 24)).heap.size) := Lib.hid (by simp)
  obtain ⟨g5, hg5⟩ : ∃ g, w1.heap.size = g := ⟨_, rfl⟩
  rw [hg5] at P5 Z0 ZW ⊢
  obtain ⟨W, hW⟩ : ∃ W, w1.alloc (.cells #[.int .i64 3, .int .i64 0, .string nm, .slice a n cap] 24) = W := ⟨_, rfl⟩
  have P5 : Hid (W.heap[g5]? = some (.cells #[.int .i64 3, .int .i64 0, .string nm, .slice a n cap] 24 (0, 0))) := Lib.hid (by rw [← hW]; exact P5.out)
  have Z1 : Hid (w.heap.size + 1 ≤ g5 ∧ g5 < W.heap.size) := Lib.hid (by rw [← hW]; exact ⟨Z0.out, ZW.out⟩)
  rw [hW] at R1 B1 ⊢
  clear hW hg5 R00 B0 Z0 ZW
  have HS : Hid (∀ w0, Below W.heap.size W w0 → ErrS 3 0 nm (.slice a n cap) Q w0) := Lib.hid (fun w0 h => HS0.out w0 (HL.out.below (B1.out.trans (h.mono B1.out.size))))
  have hS0 : Below W.heap.size W W.drew := (Below.refl _ _).drew
  have HSS : Hid (∀ w', Below W.heap.size W w' → (fun w' => Below w.heap.size w w' ∧ w'.cell? ⟨g5, 0, none⟩ = some (.int .i64 3) ∧ w'.cell? ⟨g5, 1, none⟩ = some (.int .i64 0) ∧ w'.cell? ⟨g5, 2, none⟩ = some (.string nm) ∧ w'.cell? ⟨g5, 3, none⟩ = some (.slice a n cap)) w') := Lib.hid (fun w' h => ⟨B1.out.trans (h.mono B1.out.size), cells_row ((h.block g5 (Array.getElem?_eq_some_iff.1 P5.out).1).trans P5.out)⟩)
  obtain ⟨p0, p1, p2, p3⟩ := cells_row P5.out
  go_region_held3 (fun w' => Below w.heap.size w w' ∧ w'.cell? ⟨g5, 0, none⟩ = some (.int .i64 3) ∧ w'.cell? ⟨g5, 1, none⟩ = some (.int .i64 0) ∧ w'.cell? ⟨g5, 2, none⟩ = some (.string nm) ∧ w'.cell? ⟨g5, 3, none⟩ = some (.slice a n cap))
    (first | exact HS9 | exact HSS.out _ h6 | exact HSS.out _ h5 | exact HSS.out _ (h5.alloc h5.size _) | exact HSS.out _ hS0 | go_keep)
    (first
      | (go_at_call 63; ((with_reducible refine (batom_any _ _).mono ?_); rintro e w2 ⟨rfl, hb2⟩; have h5 : Below W.heap.size W w2 := hS0.trans (hb2.mono hS0.size)))
      | (go_at_call 81; refine (HS.out _ h5 _ rfl).mono ?_; rintro e w3 ⟨y, rfl, hy, hb3⟩; obtain ⟨ya, yc, rfl⟩ := hy.slice; have h6 : Below W.heap.size W w3 := h5.trans ((al hb3).mono h5.size); have B3 := Lib.hid (B1.out.trans (h6.mono B1.out.size)); have R3 := Lib.hid (R1.out.below h6); have P3 := Lib.hid ((h6.block g5 (Array.getElem?_eq_some_iff.1 P5.out).1).trans P5.out); have HY := Lib.hid (OwnT.keep (S' := fun b => w.heap.size + 1 ≤ b ∧ b < w3.heap.size) (fun _ _ => rfl) (fun b hb _ => ⟨(by have h8 := hb.1; have h9 := h5.size; have h10 := Z1.out; simp at h8; omega), hb.2⟩) _ _ hy); obtain ⟨c0, c1, c2, c3⟩ := R3.out.cells; obtain ⟨f0, f1, f2, f3⟩ := R3.out.froz; have HS9 : (fun w' => Below w.heap.size w w' ∧ w'.cell? ⟨g5, 0, none⟩ = some (.int .i64 3) ∧ w'.cell? ⟨g5, 1, none⟩ = some (.int .i64 0) ∧ w'.cell? ⟨g5, 2, none⟩ = some (.string nm) ∧ w'.cell? ⟨g5, 3, none⟩ = some (.slice a n cap)) ((((w3.setCell ⟨w.heap.size, 0, none⟩ (.int .i64 Q.kind)).setCell ⟨w.heap.size, 1, none⟩ (.int .i64 Q.num)).setCell ⟨w.heap.size, 2, none⟩ (.string Q.name)).setCell ⟨w.heap.size, 3, none⟩ (.slice ya Q.args.length yc)) := ⟨(four R3.out _ _ _ _).2.2.2 _ _ (Nat.le_refl _) B3.out, cells_row (((four R3.out _ _ _ _).2.1 g5 (by have := Z1.out; omega)).trans P3.out)⟩; clear hb3 hy))
  go_wp2_with fail
  have PE := made_end1 (T := Q) B3.out HY.out R3.out _ rfl
  have K := (four R3.out (.int .i64 Q.kind) (.int .i64 Q.num) (.string Q.name) (.slice ya Q.args.length yc)).1
  generalize ((((w3.setCell ⟨w.heap.size, 0, none⟩ (.int .i64 Q.kind)).setCell ⟨w.heap.size, 1, none⟩ (.int .i64 Q.num)).setCell ⟨w.heap.size, 2, none⟩ (.string Q.name)).setCell ⟨w.heap.size, 3, none⟩ (.slice ya Q.args.length yc)) = W3 at *
  obtain ⟨k0, k1, k2, k3⟩ := cells_row K
  exact bodyPost_ret (v := tv Q (.slice ya Q.args.length yc)) (by simp [results, Try.results61, go_sem, k0, k1, k2, k3]) rfl PE

/-- The end of a function whose result's cell is the first block that it makes. -/
theorem made_call {w w2 w3 : World} {Q : Tm} {y : Value} (R0 : RowT w2 w.heap.size z0 (.slice none 0 0)) (hb0 : Below w.heap.size w w2) (h : MadeEnd Q w2 (.returned (tv Q y)) w3) :
    RowT w3 w.heap.size z0 (.slice none 0 0) ∧ Below w.heap.size w w3 ∧ OwnT (fun b => w.heap.size + 1 ≤ b ∧ b < w3.heap.size) w3 Q y := by
  obtain ⟨y', h1, h2, h3⟩ := h
  simp only [tv, Ending.returned.injEq, Value.agg.injEq] at h1
  obtain rfl : y = y' := by simpa using h1
  exact ⟨R0.below h3, hb0.trans (h3.mono hb0.size), h2.keep (fun _ _ => rfl) (fun b hb _ => ⟨by have := R0.lt; omega, hb.2⟩)⟩

set_option maxHeartbeats 2000000 in
theorem Inst_any (w : World) : Calls Try.prog 12 #[] w (MadeEnd (vz (errT (atmT ⟨#[105, 110, 115, 116, 97, 110, 116, 105, 97, 116, 105, 111, 110, 95, 101, 114, 114, 111, 114]⟩))) w) := by
  obtain ⟨Q, hQ⟩ : ∃ Q, vz (errT (atmT ⟨#[105, 110, 115, 116, 97, 110, 116, 105, 97, 116, 105, 111, 110, 95, 101, 114, 114, 111, 114]⟩)) = Q := ⟨_, rfl⟩
  rw [hQ]
  have R0 := Lib.hid (RowT.new w z0 (.slice none 0 0))
  have HC : Hid (∀ (w0 : World), Calls Try.prog 61 #[.string ⟨#[105, 110, 115, 116, 97, 110, 116, 105, 97, 116, 105, 111, 110, 95, 101, 114, 114, 111, 114]⟩, .slice none 0 0] w0 (MadeEnd Q w0)) := Lib.hid (by rw [← hQ]; exact fun w0 => errorTerm_none _ w0 (by simp [ByteArray.size]))
  clear hQ
  go_enter Try.func12, Try.ntmps12
  go_wp2_with fail
  have R1 := R0
  have B1 := Lib.hid (al0 w (.cells #[.int .i64 0, .int .i64 0, .string ⟨#[]⟩, .slice none 0 0] 24))
  refine (HC.out _).mono ?_
  clear HC R0
  rintro e w3 ⟨y, rfl, hy, hb3⟩
  obtain ⟨ya, yc, rfl⟩ := hy.slice
  have CC := made_call R1.out B1.out ⟨_, rfl, hy, hb3⟩
  have R3 := Lib.hid CC.1
  have B3 := Lib.hid CC.2.1
  have HY := Lib.hid CC.2.2
  clear CC hb3 hy
  obtain ⟨c0, c1, c2, c3⟩ := R3.out.cells
  obtain ⟨f0, f1, f2, f3⟩ := R3.out.froz
  go_wp2_with fail
  have PE := made_end1 (T := Q) B3.out HY.out R3.out _ rfl
  have K := (four R3.out (.int .i64 Q.kind) (.int .i64 Q.num) (.string Q.name) (.slice ya Q.args.length yc)).1
  generalize ((((w3.setCell ⟨w.heap.size, 0, none⟩ (.int .i64 Q.kind)).setCell ⟨w.heap.size, 1, none⟩ (.int .i64 Q.num)).setCell ⟨w.heap.size, 2, none⟩ (.string Q.name)).setCell ⟨w.heap.size, 3, none⟩ (.slice ya Q.args.length yc)) = W3 at *
  obtain ⟨k0, k1, k2, k3⟩ := cells_row K
  exact bodyPost_ret (v := tv Q (.slice ya Q.args.length yc)) (by simp [results, Try.results12, go_sem, k0, k1, k2, k3]) rfl PE

set_option maxHeartbeats 2000000 in
theorem Representation_any (s : ByteArray) (w : World) (hn : s.size ≤ 9223372036854775807) : Calls Try.prog 18 #[.string s] w (MadeEnd (vz (errT (.mk 3 0 ⟨#[114, 101, 112, 114, 101, 115, 101, 110, 116, 97, 116, 105, 111, 110, 95, 101, 114, 114, 111, 114]⟩ [atmT s]))) w) := by
  obtain ⟨Q, hQ⟩ : ∃ Q, vz (errT (.mk 3 0 ⟨#[114, 101, 112, 114, 101, 115, 101, 110, 116, 97, 116, 105, 111, 110, 95, 101, 114, 114, 111, 114]⟩ [atmT s])) = Q := ⟨_, rfl⟩
  rw [hQ]
  have R0 := Lib.hid (RowT.new w z0 (.slice none 0 0))
  have HC : Hid (∀ (w0 : World) (g : Nat), w0.heap.size = g → Calls Try.prog 61 #[.string ⟨#[114, 101, 112, 114, 101, 115, 101, 110, 116, 97, 116, 105, 111, 110, 95, 101, 114, 114, 111, 114]⟩, .slice (some ⟨g, 0, none⟩) 1 1] (w0.alloc (.cells #[.int .i64 2, .int .i64 0, .string s, .slice none 0 0] 24)) (MadeEnd Q (w0.alloc (.cells #[.int .i64 2, .int .i64 0, .string s, .slice none 0 0] 24)))) := Lib.hid (by
    rw [← hQ]
    intro w0 g hg
    exact errorTerm_some _ [atmT s] _ _ _ _ (by simp [ByteArray.size]) (lies_new (ty := 24) hg [(atmT s, .slice none 0 0)] (by simp only [EnvT]; exact ⟨atom_lies hn, trivial⟩) (by simp)) (by omega))
  clear hQ
  go_enter Try.func18, Try.ntmps18
  go_wp2_with fail
  refine (batom_any s _).mono ?_
  rintro e w1 ⟨rfl, hb1⟩
  have R00 := Lib.hid (R0.out.below hb1)
  have B0 : Hid (Below w.heap.size w w1) := Lib.hid (al hb1)
  clear hb1 R0
  go_wp2_with fail
  have R1 := Lib.hid (R00.out.below (al0 w1 (.cells #[.int .i64 2, .int .i64 0, .string s, .slice none 0 0] 24)))
  have B1 := Lib.hid (B0.out.alloc B0.out.size (.cells #[.int .i64 2, .int .i64 0, .string s, .slice none 0 0] 24))
  refine (HC.out w1 _ rfl).mono ?_
  clear HC R00 B0
  rintro e w3 ⟨y, rfl, hy, hb3⟩
  obtain ⟨ya, yc, rfl⟩ := hy.slice
  have CC := made_call R1.out B1.out ⟨_, rfl, hy, hb3⟩
  have R3 := Lib.hid CC.1
  have B3 := Lib.hid CC.2.1
  have HY := Lib.hid CC.2.2
  clear CC hb3 hy
  obtain ⟨c0, c1, c2, c3⟩ := R3.out.cells
  obtain ⟨f0, f1, f2, f3⟩ := R3.out.froz
  go_wp2_with fail
  have PE := made_end1 (T := Q) B3.out HY.out R3.out _ rfl
  have K := (four R3.out (.int .i64 Q.kind) (.int .i64 Q.num) (.string Q.name) (.slice ya Q.args.length yc)).1
  generalize ((((w3.setCell ⟨w.heap.size, 0, none⟩ (.int .i64 Q.kind)).setCell ⟨w.heap.size, 1, none⟩ (.int .i64 Q.num)).setCell ⟨w.heap.size, 2, none⟩ (.string Q.name)).setCell ⟨w.heap.size, 3, none⟩ (.slice ya Q.args.length yc)) = W3 at *
  obtain ⟨k0, k1, k2, k3⟩ := cells_row K
  exact bodyPost_ret (v := tv Q (.slice ya Q.args.length yc)) (by simp [results, Try.results18, go_sem, k0, k1, k2, k3]) rfl PE

set_option maxHeartbeats 2000000 in
theorem Evaluation_any (s : ByteArray) (w : World) (hn : s.size ≤ 9223372036854775807) : Calls Try.prog 19 #[.string s] w (MadeEnd (vz (errT (.mk 3 0 ⟨#[101, 118, 97, 108, 117, 97, 116, 105, 111, 110, 95, 101, 114, 114, 111, 114]⟩ [atmT s]))) w) := by
  obtain ⟨Q, hQ⟩ : ∃ Q, vz (errT (.mk 3 0 ⟨#[101, 118, 97, 108, 117, 97, 116, 105, 111, 110, 95, 101, 114, 114, 111, 114]⟩ [atmT s])) = Q := ⟨_, rfl⟩
  rw [hQ]
  have R0 := Lib.hid (RowT.new w z0 (.slice none 0 0))
  have HC : Hid (∀ (w0 : World) (g : Nat), w0.heap.size = g → Calls Try.prog 61 #[.string ⟨#[101, 118, 97, 108, 117, 97, 116, 105, 111, 110, 95, 101, 114, 114, 111, 114]⟩, .slice (some ⟨g, 0, none⟩) 1 1] (w0.alloc (.cells #[.int .i64 2, .int .i64 0, .string s, .slice none 0 0] 24)) (MadeEnd Q (w0.alloc (.cells #[.int .i64 2, .int .i64 0, .string s, .slice none 0 0] 24)))) := Lib.hid (by
    rw [← hQ]
    intro w0 g hg
    exact errorTerm_some _ [atmT s] _ _ _ _ (by simp [ByteArray.size]) (lies_new (ty := 24) hg [(atmT s, .slice none 0 0)] (by simp only [EnvT]; exact ⟨atom_lies hn, trivial⟩) (by simp)) (by omega))
  clear hQ
  go_enter Try.func19, Try.ntmps19
  go_wp2_with fail
  refine (batom_any s _).mono ?_
  rintro e w1 ⟨rfl, hb1⟩
  have R00 := Lib.hid (R0.out.below hb1)
  have B0 : Hid (Below w.heap.size w w1) := Lib.hid (al hb1)
  clear hb1 R0
  go_wp2_with fail
  have R1 := Lib.hid (R00.out.below (al0 w1 (.cells #[.int .i64 2, .int .i64 0, .string s, .slice none 0 0] 24)))
  have B1 := Lib.hid (B0.out.alloc B0.out.size (.cells #[.int .i64 2, .int .i64 0, .string s, .slice none 0 0] 24))
  refine (HC.out w1 _ rfl).mono ?_
  clear HC R00 B0
  rintro e w3 ⟨y, rfl, hy, hb3⟩
  obtain ⟨ya, yc, rfl⟩ := hy.slice
  have CC := made_call R1.out B1.out ⟨_, rfl, hy, hb3⟩
  have R3 := Lib.hid CC.1
  have B3 := Lib.hid CC.2.1
  have HY := Lib.hid CC.2.2
  clear CC hb3 hy
  obtain ⟨c0, c1, c2, c3⟩ := R3.out.cells
  obtain ⟨f0, f1, f2, f3⟩ := R3.out.froz
  go_wp2_with fail
  have PE := made_end1 (T := Q) B3.out HY.out R3.out _ rfl
  have K := (four R3.out (.int .i64 Q.kind) (.int .i64 Q.num) (.string Q.name) (.slice ya Q.args.length yc)).1
  generalize ((((w3.setCell ⟨w.heap.size, 0, none⟩ (.int .i64 Q.kind)).setCell ⟨w.heap.size, 1, none⟩ (.int .i64 Q.num)).setCell ⟨w.heap.size, 2, none⟩ (.string Q.name)).setCell ⟨w.heap.size, 3, none⟩ (.slice ya Q.args.length yc)) = W3 at *
  obtain ⟨k0, k1, k2, k3⟩ := cells_row K
  exact bodyPost_ret (v := tv Q (.slice ya Q.args.length yc)) (by simp [results, Try.results19, go_sem, k0, k1, k2, k3]) rfl PE

end Go.Proofs.Yteilodihjhdngaa

/- The program's blame; rows of terms that a call appends to. -/
namespace Go.Proofs.Yteilodihjhdngaa
open Go.RowKit Go.Proofs.HT

abbrev PV := Tm × Value
theorem bflat_one : ∀ (l : List PV), (∀ p ∈ l, ∃ a c, p.2 = .slice a p.1.args.length c) → ∀ u ∈ flat l, u.oneCell' = true
  | [], _, u, hu => by simp [flat] at hu
  | p :: l, h, u, hu => by
    obtain ⟨a, c, e⟩ := h p (by simp)
    simp only [flat, List.mem_cons] at hu
    rcases hu with rfl | rfl | rfl | rfl | hu
    · rfl
    · rfl
    · rfl
    · rw [e]; rfl
    · exact bflat_one l (fun q hq => h q (by simp [hq])) u hu
theorem grown_below {w w' : World} {base : Nat} {v : Value} {n : Nat} {xs : List Value} (h : w.ownsRow base 24 4 v n xs) (hg : w.grownBy w' v.ownBlock) (hb : base ≤ w.heap.size) : Below base w w' :=
  (Below.refl base w).grown hg hb (fun k hk => by
    rcases h.2 with h2 | ⟨g, cap, cur, e, h3, _⟩
    · rw [h2.1] at hk; simp [Value.ownBlock] at hk
    · rw [e] at hk; simp [Value.ownBlock] at hk; omega)
theorem wp_appB {ops : Array Oper} {rest : List Oper} {o : Oper} {a : Act} {Q : Exit → Act → World → Prop} (hgd : o.guard = none) (s x : Operand) (ho : o.op = .call { callee := .builtin .append, args := #[s, x], argTypes := #[22, 22] }) (w : World)
    (base n : Nat) (v : Value) (l m : List PV) (hs : a.eval s = v) (hown : Hid (w.ownsRow base 24 4 v n (flat l))) (ad : Addr) (k c : Nat) (hx : a.eval x = .slice (some ad) k c) (hk : m.length = k)
    (hm : Hid (∀ j u, (flat m)[j]? = some u → w.cell? (ad.add j) = some u)) (h1 : Hid (∀ p ∈ m, ∃ a c, p.2 = .slice a p.1.args.length c)) (hsz : n + k ≤ 1000000) (hbase : base ≤ w.heap.size)
    (h : ∀ v' w', Hid (w'.ownsRow base 24 4 v' (n + k) (flat (l ++ m))) → Hid (Below base w w') → Hid (v' = .slice none 0 0 ↔ v = .slice none 0 0 ∧ k = 0) → wpList Try.prog ops Q rest (a.put o.dst v') w') : wpList Try.prog ops Q (o :: rest) a w := by
  obtain ⟨i0, hi0, hz0, hz1, hz2⟩ := info_parts info24
  refine wpList_append_own w hgd s x 22 ho base 24 i0 _ 4 56 under22 hi0 hz0 hz1 hz2 rfl (by omega) v n (flat l) hs hown.out ad k c (flat m) hx (by rw [flat_length, hk]) hm.out (bflat_one m h1.out) (by simp only [maxLen]; omega) (by omega) hbase ?_
  intro v' w' h2 h3 h4
  refine h v' w' (Lib.hid ?_) (Lib.hid (grown_below hown.out h3 hbase)) (Lib.hid h4)
  rw [flat_append]; exact h2
theorem row_one (w : World) (t : Tm) (v : Value) : Hid (∀ q u, (flat [(t, v)])[q]? = some u → (w.alloc (.cells #[.int .i64 t.kind, .int .i64 t.num, .string t.name, v] 24)).cell? (Addr.add ⟨w.heap.size, 0, none⟩ q) = some u) := Lib.hid (fun q u hq => by
  rw [Addr.add_lit, cell_of_row _ _ _ _ _ _ (heap_alloc_new _ _), Nat.zero_add]
  simpa [flat] using hq)
theorem one_slice (t : Tm) (a : Option Addr) (c : Nat) : Hid (∀ p ∈ [((t, .slice a t.args.length c) : PV)], ∃ a c, p.2 = .slice a p.1.args.length c) := Lib.hid (fun p hp => by obtain rfl := List.mem_singleton.1 hp; exact ⟨_, _, rfl⟩)
/-- A row of the call's own that holds terms: as a slice of terms. -/
theorem own_lies {w : World} {base n : Nat} {v : Value} {l : List PV} (h : w.ownsRow base 24 4 v n (flat l)) (hne : v ≠ .slice none 0 0) (hn : l.length = n) (hp : ∀ p ∈ l, LiesT w p.1 p.2) : ∃ a cap, v = .slice a n cap ∧ LiesA w (l.map Prod.fst) v := by
  obtain ⟨g, cap, cur, e, hb, hg, hc, _, _, ht⟩ := h.2.resolve_left (fun h => hne h.1)
  subst e
  exact ⟨_, cap, rfl, LiesT.of_row ⟨by omega, by omega⟩ ⟨by omega, by omega⟩ (by simp [ByteArray.size]) hn.symm h hp⟩

/-- A row of names. -/
def Words (w : World) (a : Option Addr) (ws : List ByteArray) : Prop := ∀ j (h : j < ws.length), ∃ b off, a = some ⟨b, off, none⟩ ∧ w.cell? ⟨b, off + j, none⟩ = some (.string ws[j])
theorem Words.nil (w : World) (a : Option Addr) : Words w a [] := fun j h => by simp at h
theorem Words.below {w w' : World} {a : Option Addr} {ws : List ByteArray} (h : Words w a ws) (hb : Below w.heap.size w w') : Words w' a ws := fun j hj => by
  obtain ⟨b, off, h1, h2⟩ := h j hj
  exact ⟨b, off, h1, cell_below hb _ _ h2⟩
def atms (ws : List ByteArray) : List PV := ws.map fun s => (atmT s, .slice none 0 0)
theorem atms_take (ws : List ByteArray) (j : Nat) (h : j < ws.length) : atms (ws.take (j + 1)) = atms (ws.take j) ++ [(atmT ws[j], .slice none 0 0)] := by
  unfold atms; rw [List.take_succ_eq_append_getElem h, List.map_append]; rfl
theorem atms_fst (ws : List ByteArray) : (atms ws).map Prod.fst = ws.map atmT := by simp [atms, Function.comp_def]
theorem atms_lies {w : World} {ws : List ByteArray} (h : ∀ s ∈ ws, s.size ≤ 9223372036854775807) : ∀ p ∈ atms ws, LiesT w p.1 p.2 := fun p hp => by
  obtain ⟨s, hs, rfl⟩ := List.mem_map.1 hp
  exact atom_lies (h s hs)
theorem cntM_valid {t : Tm} (h : validB t = true) : cntM t 2001 = (cnt t : Nat) ∧ cnt t ≤ 2000 := by
  have h2 : cnt t ≤ 2000 := by simp only [validB, Bool.and_eq_true, decide_eq_true_eq] at h; exact h.1
  exact ⟨by unfold cntM; rw [if_pos (by omega)], h2⟩

set_option maxHeartbeats 2000000 in
theorem blame_no (nm : ByteArray) (c : Tm) (v wv : Value) (w : World) (h : LiesT w c v) (hv : validB c = false) :
    Calls Try.prog 62 #[.string nm, tv c v, wv] w (MadeEnd z0 w) := by
  have F0 := Lib.hid (Fr.start w c v)
  have H := Lib.hid (h.below F0.out.b)
  have HV := Lib.hid hv
  clear h hv
  simp only [tv]
  go_enter Try.func62, Try.ntmps62
  go_wp2_with fail
  refine (Valid_is c v false HV.out _ H.out).mono ?_
  rintro e w1 ⟨rfl, hb1⟩
  have F1 := Lib.hid (F0.out.step hb1)
  clear hb1 H F0
  obtain ⟨c0, c1, c2, c3⟩ : w1.cell? ⟨w.heap.size + 1, 0, none⟩ = some (.int .i64 0) ∧ w1.cell? ⟨w.heap.size + 1, 1, none⟩ = some (.int .i64 0) ∧ w1.cell? ⟨w.heap.size + 1, 2, none⟩ = some (.string ⟨#[]⟩) ∧ w1.cell? ⟨w.heap.size + 1, 3, none⟩ = some (.slice none 0 0) := F1.out.r.cells
  obtain ⟨f0, f1, f2, f3⟩ := F1.out.r.froz
  go_wp2_with fail
  clear c0 c1 c2 c3 f0 f1 f2 f3
  have F2 : Hid (Fr w ((((w1.setCell ⟨w.heap.size + 1, 0, none⟩ (.int .i64 0)).setCell ⟨w.heap.size + 1, 1, none⟩ (.int .i64 0)).setCell ⟨w.heap.size + 1, 2, none⟩ (.string ⟨#[]⟩)).setCell ⟨w.heap.size + 1, 3, none⟩ (.slice none 0 0)) c (v) z0 (.slice none 0 0)) := Lib.hid (F1.out.putR z0 (.slice none 0 0) _ rfl)
  generalize ((((w1.setCell ⟨w.heap.size + 1, 0, none⟩ (.int .i64 0)).setCell ⟨w.heap.size + 1, 1, none⟩ (.int .i64 0)).setCell ⟨w.heap.size + 1, 2, none⟩ (.string ⟨#[]⟩)).setCell ⟨w.heap.size + 1, 3, none⟩ (.slice none 0 0)) = W3 at *
  obtain ⟨k0, k1, k2, k3⟩ : W3.cell? ⟨w.heap.size + 1, 0, none⟩ = some (.int .i64 0) ∧ W3.cell? ⟨w.heap.size + 1, 1, none⟩ = some (.int .i64 0) ∧ W3.cell? ⟨w.heap.size + 1, 2, none⟩ = some (.string ⟨#[]⟩) ∧ W3.cell? ⟨w.heap.size + 1, 3, none⟩ = some (.slice none 0 0) := F2.out.r.cells
  exact bodyPost_ret (v := zv) (by simp [results, Try.results62, go_sem, k0, k1, k2, k3]) rfl (F2.out.done (Beh.zero _ _))

set_option maxHeartbeats 8000000 in
theorem blame_yes (nm : ByteArray) (c : Tm) (v : Value) (ws : List ByteArray) (a : Option Addr) (n cap : Nat) (w : World) (hnm : nm.size ≤ 9223372036854775807) (h : LiesT w c v) (hv : validB c = true) (hlen : ws.length = n) (hn : n ≤ 5) (hws : ∀ s ∈ ws, s.size ≤ 9223372036854775807) (hW : Words w a ws) :
    Calls Try.prog 62 #[.string nm, tv c v, .slice a n cap] w (MadeEnd (withT c nm ws) w) := by
  obtain ⟨va, vc, rfl⟩ : ∃ a k, v = .slice a c.args.length k := h.slice
  obtain ⟨Q, hQ⟩ : ∃ Q, withT c nm ws = Q := ⟨_, rfl⟩
  have HQ : Hid (vz (errT (.mk 3 0 nm (ws.map atmT ++ [culT c ws.length]))) = Q) := Lib.hid (by rw [← hQ, withT, if_pos hv])
  rw [hQ]
  obtain ⟨m, hm⟩ : ∃ m, cnt c = m := ⟨_, rfl⟩
  have hcm := cntM_valid hv
  rw [hm] at hcm
  have hm2 : m ≤ 2000 := hcm.2
  have F0 := Lib.hid (Fr.start w c (.slice va c.args.length vc))
  have H := Lib.hid h
  have HV := Lib.hid hv
  have HM := Lib.hid hm
  have HWS := Lib.hid hws
  have HLEN := Lib.hid hlen
  have HWRD := Lib.hid hW
  have HNM := Lib.hid hnm
  have HSZ : Hid (∀ w0, LiesT w0 c (.slice va c.args.length vc) → Calls Try.prog 82 #[tv c (.slice va c.args.length vc)] w0 fun e w' => e = .returned (.int .i64 (m : Nat)) ∧ Below w0.heap.size w0 w') := Lib.hid (fun w0 h => by have h2 := Size_any c _ w0 h; rw [hcm.1] at h2; exact h2)
  clear h hv hQ hm hws hlen hW hcm hnm
  simp only [tv]
  go_enter Try.func62, Try.ntmps62
  go_wp2_with fail
  refine (Valid_is c _ true HV.out _ (H.out.below F0.out.b)).mono ?_
  rintro e w1 ⟨rfl, hb1⟩
  have F1 := Lib.hid (F0.out.step hb1)
  clear hb1 F0
  obtain ⟨p0, p1, p2, p3⟩ := F1.out.p.cells
  go_wp2_with fail
  refine (HSZ.out _ (H.out.below F1.out.b)).mono ?_
  rintro e w2 ⟨rfl, hb2⟩
  have F2 := Lib.hid (F1.out.step hb2)
  clear hb2 F1 HSZ p0 p1 p2 p3
  rcases Nat.lt_or_ge 2000 (n + 3 + m) with hlg | hlg
  · have d0 : decide ((2000 : Int) < 3 + (n : Int) + (m : Int)) = true := by simp; omega
    have d1 : (2000 : Int) < 3 + (n : Int) + (m : Int) := by omega
    have HC : Hid (culT c ws.length = omitT) := Lib.hid (by unfold culT; rw [HM.out, HLEN.out, if_pos hlg])
    go_wp2_with fail
    refine (batom_any _ _).mono ?_
    rintro e w3 ⟨rfl, hb3⟩
    have F3 := Lib.hid (F2.out.step hb3)
    clear hb3 F2
    obtain ⟨c0, c1, c2, c3⟩ := F3.out.p.cells
    obtain ⟨f0, f1, f2, f3⟩ := F3.out.p.froz
    go_wp2_with fail
    clear c0 c1 c2 c3 f0 f1 f2 f3
    have F5 : Hid (Fr w ((((w3.setCell ⟨w.heap.size, 0, none⟩ (.int .i64 2)).setCell ⟨w.heap.size, 1, none⟩ (.int .i64 0)).setCell ⟨w.heap.size, 2, none⟩ (.string ⟨#[46, 46, 46]⟩)).setCell ⟨w.heap.size, 3, none⟩ (.slice none 0 0)) omitT (.slice none 0 0) z0 (.slice none 0 0)) := Lib.hid (F3.out.putP omitT (.slice none 0 0) _ rfl)
    generalize ((((w3.setCell ⟨w.heap.size, 0, none⟩ (.int .i64 2)).setCell ⟨w.heap.size, 1, none⟩ (.int .i64 0)).setCell ⟨w.heap.size, 2, none⟩ (.string ⟨#[46, 46, 46]⟩)).setCell ⟨w.heap.size, 3, none⟩ (.slice none 0 0)) = W at *
    have HL5 : Hid (∀ w', LiesT w' omitT (.slice none 0 0)) := Lib.hid (fun w' => atom_lies (by simp [ByteArray.size]))
    clear F3 d0 d1 hlg H HV
    go_loopw [7, 24] (fun v7 v24 wr => ∃ (j : Nat) (vo : Value), vo = v7 ∧ j ≤ n ∧ v24 = .int .i64 j ∧ Hid (wr.ownsRow W.heap.size 24 4 vo j (flat (atms (ws.take j)))) ∧ Hid (Below W.heap.size W wr)) (fun _ v24 _ => n - (intOf v24).toNat)
    case atStart => exact ⟨0, _, rfl, by omega, rfl, Lib.hid ⟨rfl, .inl ⟨rfl, rfl⟩⟩, Lib.hid (Below.refl _ _)⟩
    case round =>
      obtain ⟨j, vo, rfl, hj, rfl, hown, hb⟩ := hrel
      by_cases hlt : j < n
      · have hjl : j < ws.length := by have := HLEN.out; omega
        obtain ⟨b, off, ha, hc⟩ := (HWRD.out.below (F5.out.b.trans (hb.out.mono (F5.out.b.size)))) j hjl
        subst ha
        have HTK := Lib.hid (atms_take ws j hjl)
        have HSJ := Lib.hid (HWS.out _ (List.getElem_mem hjl))
        obtain ⟨sj, hsj⟩ : ∃ s, ws[j] = s := ⟨_, rfl⟩
        rw [hsj] at hc HTK HSJ
        clear hsj hjl
        have lj0 : (0 : Int) ≤ (j : Int) := by omega
        have lj1 : (j : Int) < (n : Int) := by omega
        go_wp2_with fail
        refine (batom_any sj _).mono ?_
        rintro e w5 ⟨rfl, hb5⟩
        have HW1 := Lib.hid ((hb.out.trans (hb5.mono hb.out.size)).alloc (Nat.le_trans hb.out.size hb5.size) (.cells #[.int .i64 2, .int .i64 0, .string sj, .slice none 0 0] 24))
        have HO1 : Hid ((w5.alloc (.cells #[.int .i64 2, .int .i64 0, .string sj, .slice none 0 0] 24)).ownsRow W.heap.size 24 4 vo j (flat (atms (ws.take j)))) := Lib.hid ((HT.own_below hown.out hb5).alloc _)
        have HRN := row_one w5 (atmT sj) (.slice none 0 0)
        have HV1 := one_slice (atmT sj) none 0
        have hbs := HW1.out.size
        clear hown hb5 hc
        go_wp2_with (at_builtin; refine wp_appB rfl _ _ rfl _ W.heap.size j vo (atms (ws.take j)) [(atmT sj, .slice none 0 0)] rfl HO1 ⟨w5.heap.size, 0, none⟩ 1 1 rfl rfl HRN HV1 (by omega) hbs ?_; intro v1 w6 hown1 hb1 hz1)
        go_roundw
        case rel => exact ⟨j + 1, v1, rfl, by omega, by go_num, Lib.hid (by rw [HTK.out]; exact hown1.out), Lib.hid (HW1.out.trans hb1.out)⟩
        case measure => simp [intOf]; omega
      · obtain rfl : j = n := by omega
        have F6 := Lib.hid (F5.out.step hb.out)
        have B6 := hb
        clear hb hlt hj
        obtain ⟨c0, c1, c2, c3⟩ := F6.out.p.cells
        have HW1 := Lib.hid (B6.out.alloc B6.out.size (.cells #[.int .i64 omitT.kind, .int .i64 omitT.num, .string omitT.name, .slice none 0 0] 24))
        have HO1 : Hid ((wr.alloc (.cells #[.int .i64 omitT.kind, .int .i64 omitT.num, .string omitT.name, .slice none 0 0] 24)).ownsRow W.heap.size 24 4 vo j (flat (atms (ws.take j)))) := Lib.hid (hown.out.alloc _)
        have HRN := row_one wr omitT (.slice none 0 0)
        have HV1 : Hid (∀ p ∈ [((omitT, .slice none 0 0) : PV)], ∃ a c, p.2 = .slice a p.1.args.length c) := Lib.hid (fun p hp => by obtain rfl := List.mem_singleton.1 hp; exact ⟨_, _, rfl⟩)
        have hbs := HW1.out.size
        clear hown
        go_wp2_with (at_builtin; refine wp_appB rfl _ _ rfl _ W.heap.size j vo (atms (ws.take j)) [(omitT, .slice none 0 0)] rfl HO1 ⟨wr.heap.size, 0, none⟩ 1 1 rfl rfl HRN HV1 (by omega) hbs ?_; intro v1 w6 hown1 hb1 hz1)
        have B7 := Lib.hid (HW1.out.trans hb1.out)
        have F7 := Lib.hid (F5.out.step B7.out)
        obtain ⟨ax, capx, rfl, hlx⟩ : ∃ a cap, v1 = .slice a (j + 1) cap ∧ LiesA w6 ((atms (ws.take j) ++ [((omitT, .slice none 0 0) : PV)]).map Prod.fst) v1 := own_lies hown1.out (fun h => by have := (hz1.out.1 h).2; omega) (by simp [atms]; have := HLEN.out; omega) (fun p hp => by
          rcases List.mem_append.1 hp with hp | hp
          · exact atms_lies (fun s hs => HWS.out s (List.mem_of_mem_take hs)) p hp
          · obtain rfl := List.mem_singleton.1 hp; exact HL5.out _)
        have HQ2 : Hid (vz (errT (.mk 3 0 nm ((atms (ws.take j) ++ [((omitT, .slice none 0 0) : PV)]).map Prod.fst))) = Q) := Lib.hid (by
          rw [← HQ.out, HC.out, List.map_append, atms_fst, List.take_of_length_le (by have := HLEN.out; omega)]; rfl)
        have HX := Lib.hid hlx
        clear hlx hz1 hown1 c0 c1 c2 c3
        have HE := Lib.hid (errorTerm_some nm _ ax (j + 1) capx w6 HNM.out HX.out (by omega))
        rw [HQ2.out] at HE
        go_wp2_with fail
        refine HE.out.mono ?_
        rintro e w7 ⟨y, rfl, hy, hb7⟩
        obtain ⟨ya, yc, rfl⟩ := hy.slice
        have F8 := Lib.hid (F7.out.step hb7)
        have Y8 : Hid (Beh w w7 Q (.slice ya Q.args.length yc)) := Lib.hid (Beh.of hy F7.out.z)
        clear hb7 hy HE
        obtain ⟨c0, c1, c2, c3⟩ : w7.cell? ⟨w.heap.size + 1, 0, none⟩ = some (.int .i64 0) ∧ w7.cell? ⟨w.heap.size + 1, 1, none⟩ = some (.int .i64 0) ∧ w7.cell? ⟨w.heap.size + 1, 2, none⟩ = some (.string ⟨#[]⟩) ∧ w7.cell? ⟨w.heap.size + 1, 3, none⟩ = some (.slice none 0 0) := F8.out.r.cells
        obtain ⟨f0, f1, f2, f3⟩ := F8.out.r.froz
        go_wp2_with fail
        clear c0 c1 c2 c3 f0 f1 f2 f3
        have F9 : Hid (Fr w ((((w7.setCell ⟨w.heap.size + 1, 0, none⟩ (.int .i64 Q.kind)).setCell ⟨w.heap.size + 1, 1, none⟩ (.int .i64 Q.num)).setCell ⟨w.heap.size + 1, 2, none⟩ (.string Q.name)).setCell ⟨w.heap.size + 1, 3, none⟩ (.slice ya Q.args.length yc)) omitT (.slice none 0 0) Q (.slice ya Q.args.length yc)) := Lib.hid (F8.out.putR Q (.slice ya Q.args.length yc) _ rfl)
        have Y9 : Hid (Beh w ((((w7.setCell ⟨w.heap.size + 1, 0, none⟩ (.int .i64 Q.kind)).setCell ⟨w.heap.size + 1, 1, none⟩ (.int .i64 Q.num)).setCell ⟨w.heap.size + 1, 2, none⟩ (.string Q.name)).setCell ⟨w.heap.size + 1, 3, none⟩ (.slice ya Q.args.length yc)) Q (.slice ya Q.args.length yc)) := Lib.hid (Beh.put Y8.out (by omega) (F8.out.r) _ _ _ _ _ rfl)
        generalize ((((w7.setCell ⟨w.heap.size + 1, 0, none⟩ (.int .i64 Q.kind)).setCell ⟨w.heap.size + 1, 1, none⟩ (.int .i64 Q.num)).setCell ⟨w.heap.size + 1, 2, none⟩ (.string Q.name)).setCell ⟨w.heap.size + 1, 3, none⟩ (.slice ya Q.args.length yc)) = W9 at *
        obtain ⟨k0, k1, k2, k3⟩ : W9.cell? ⟨w.heap.size + 1, 0, none⟩ = some (.int .i64 Q.kind) ∧ W9.cell? ⟨w.heap.size + 1, 1, none⟩ = some (.int .i64 Q.num) ∧ W9.cell? ⟨w.heap.size + 1, 2, none⟩ = some (.string Q.name) ∧ W9.cell? ⟨w.heap.size + 1, 3, none⟩ = some (.slice ya Q.args.length yc) := F9.out.r.cells
        exact bodyPost_ret (v := tv Q (.slice ya Q.args.length yc)) (by simp [results, Try.results62, go_sem, k0, k1, k2, k3]) rfl (F9.out.done Y9.out)

  · have d0 : decide ((2000 : Int) < 3 + (n : Int) + (m : Int)) = false := by simp; omega
    have d1 : ¬ (2000 : Int) < 3 + (n : Int) + (m : Int) := by omega
    have HC : Hid (culT c ws.length = c) := Lib.hid (by unfold culT; rw [HM.out, HLEN.out, if_neg (by omega)])
    go_wp2_with fail
    obtain ⟨W, hW⟩ : ∃ W, w2 = W := ⟨_, rfl⟩
    subst hW
    have F5 := F2
    have HL5 : Hid (∀ w', Below w.heap.size w w' → LiesT w' c (.slice va c.args.length vc)) := Lib.hid (fun w' hb => H.out.below hb)
    clear F2 d0 d1 hlg H HV
    go_loopw [7, 24] (fun v7 v24 wr => ∃ (j : Nat) (vo : Value), vo = v7 ∧ j ≤ n ∧ v24 = .int .i64 j ∧ Hid (wr.ownsRow w2.heap.size 24 4 vo j (flat (atms (ws.take j)))) ∧ Hid (Below w2.heap.size w2 wr)) (fun _ v24 _ => n - (intOf v24).toNat)
    case atStart => exact ⟨0, _, rfl, by omega, rfl, Lib.hid ⟨rfl, .inl ⟨rfl, rfl⟩⟩, Lib.hid (Below.refl _ _)⟩
    case round =>
      obtain ⟨j, vo, rfl, hj, rfl, hown, hb⟩ := hrel
      by_cases hlt : j < n
      · have hjl : j < ws.length := by have := HLEN.out; omega
        obtain ⟨b, off, ha, hc⟩ := (HWRD.out.below (F5.out.b.trans (hb.out.mono (F5.out.b.size)))) j hjl
        subst ha
        have HTK := Lib.hid (atms_take ws j hjl)
        have HSJ := Lib.hid (HWS.out _ (List.getElem_mem hjl))
        obtain ⟨sj, hsj⟩ : ∃ s, ws[j] = s := ⟨_, rfl⟩
        rw [hsj] at hc HTK HSJ
        clear hsj hjl
        have lj0 : (0 : Int) ≤ (j : Int) := by omega
        have lj1 : (j : Int) < (n : Int) := by omega
        go_wp2_with fail
        refine (batom_any sj _).mono ?_
        rintro e w5 ⟨rfl, hb5⟩
        have HW1 := Lib.hid ((hb.out.trans (hb5.mono hb.out.size)).alloc (Nat.le_trans hb.out.size hb5.size) (.cells #[.int .i64 2, .int .i64 0, .string sj, .slice none 0 0] 24))
        have HO1 : Hid ((w5.alloc (.cells #[.int .i64 2, .int .i64 0, .string sj, .slice none 0 0] 24)).ownsRow w2.heap.size 24 4 vo j (flat (atms (ws.take j)))) := Lib.hid ((HT.own_below hown.out hb5).alloc _)
        have HRN := row_one w5 (atmT sj) (.slice none 0 0)
        have HV1 := one_slice (atmT sj) none 0
        have hbs := HW1.out.size
        clear hown hb5 hc
        go_wp2_with (at_builtin; refine wp_appB rfl _ _ rfl _ w2.heap.size j vo (atms (ws.take j)) [(atmT sj, .slice none 0 0)] rfl HO1 ⟨w5.heap.size, 0, none⟩ 1 1 rfl rfl HRN HV1 (by omega) hbs ?_; intro v1 w6 hown1 hb1 hz1)
        go_roundw
        case rel => exact ⟨j + 1, v1, rfl, by omega, by go_num, Lib.hid (by rw [HTK.out]; exact hown1.out), Lib.hid (HW1.out.trans hb1.out)⟩
        case measure => simp [intOf]; omega
      · obtain rfl : j = n := by omega
        have F6 := Lib.hid (F5.out.step hb.out)
        have B6 := hb
        clear hb hlt hj
        obtain ⟨c0, c1, c2, c3⟩ := F6.out.p.cells
        have HW1 := Lib.hid (B6.out.alloc B6.out.size (.cells #[.int .i64 c.kind, .int .i64 c.num, .string c.name, .slice va c.args.length vc] 24))
        have HO1 : Hid ((wr.alloc (.cells #[.int .i64 c.kind, .int .i64 c.num, .string c.name, .slice va c.args.length vc] 24)).ownsRow w2.heap.size 24 4 vo j (flat (atms (ws.take j)))) := Lib.hid (hown.out.alloc _)
        have HRN := row_one wr c (.slice va c.args.length vc)
        have HV1 : Hid (∀ p ∈ [((c, .slice va c.args.length vc) : PV)], ∃ a c, p.2 = .slice a p.1.args.length c) := Lib.hid (fun p hp => by obtain rfl := List.mem_singleton.1 hp; exact ⟨_, _, rfl⟩)
        have hbs := HW1.out.size
        clear hown
        go_wp2_with (at_builtin; refine wp_appB rfl _ _ rfl _ w2.heap.size j vo (atms (ws.take j)) [(c, .slice va c.args.length vc)] rfl HO1 ⟨wr.heap.size, 0, none⟩ 1 1 rfl rfl HRN HV1 (by omega) hbs ?_; intro v1 w6 hown1 hb1 hz1)
        have B7 := Lib.hid (HW1.out.trans hb1.out)
        have F7 := Lib.hid (F5.out.step B7.out)
        obtain ⟨ax, capx, rfl, hlx⟩ : ∃ a cap, v1 = .slice a (j + 1) cap ∧ LiesA w6 ((atms (ws.take j) ++ [((c, .slice va c.args.length vc) : PV)]).map Prod.fst) v1 := own_lies hown1.out (fun h => by have := (hz1.out.1 h).2; omega) (by simp [atms]; have := HLEN.out; omega) (fun p hp => by
          rcases List.mem_append.1 hp with hp | hp
          · exact atms_lies (fun s hs => HWS.out s (List.mem_of_mem_take hs)) p hp
          · obtain rfl := List.mem_singleton.1 hp; exact HL5.out _ (F7.out.b))
        have HQ2 : Hid (vz (errT (.mk 3 0 nm ((atms (ws.take j) ++ [((c, .slice va c.args.length vc) : PV)]).map Prod.fst))) = Q) := Lib.hid (by
          rw [← HQ.out, HC.out, List.map_append, atms_fst, List.take_of_length_le (by have := HLEN.out; omega)]; rfl)
        have HX := Lib.hid hlx
        clear hlx hz1 hown1 c0 c1 c2 c3
        have HE := Lib.hid (errorTerm_some nm _ ax (j + 1) capx w6 HNM.out HX.out (by omega))
        rw [HQ2.out] at HE
        go_wp2_with fail
        refine HE.out.mono ?_
        rintro e w7 ⟨y, rfl, hy, hb7⟩
        obtain ⟨ya, yc, rfl⟩ := hy.slice
        have F8 := Lib.hid (F7.out.step hb7)
        have Y8 : Hid (Beh w w7 Q (.slice ya Q.args.length yc)) := Lib.hid (Beh.of hy F7.out.z)
        clear hb7 hy HE
        obtain ⟨c0, c1, c2, c3⟩ : w7.cell? ⟨w.heap.size + 1, 0, none⟩ = some (.int .i64 0) ∧ w7.cell? ⟨w.heap.size + 1, 1, none⟩ = some (.int .i64 0) ∧ w7.cell? ⟨w.heap.size + 1, 2, none⟩ = some (.string ⟨#[]⟩) ∧ w7.cell? ⟨w.heap.size + 1, 3, none⟩ = some (.slice none 0 0) := F8.out.r.cells
        obtain ⟨f0, f1, f2, f3⟩ := F8.out.r.froz
        go_wp2_with fail
        clear c0 c1 c2 c3 f0 f1 f2 f3
        have F9 : Hid (Fr w ((((w7.setCell ⟨w.heap.size + 1, 0, none⟩ (.int .i64 Q.kind)).setCell ⟨w.heap.size + 1, 1, none⟩ (.int .i64 Q.num)).setCell ⟨w.heap.size + 1, 2, none⟩ (.string Q.name)).setCell ⟨w.heap.size + 1, 3, none⟩ (.slice ya Q.args.length yc)) c (.slice va c.args.length vc) Q (.slice ya Q.args.length yc)) := Lib.hid (F8.out.putR Q (.slice ya Q.args.length yc) _ rfl)
        have Y9 : Hid (Beh w ((((w7.setCell ⟨w.heap.size + 1, 0, none⟩ (.int .i64 Q.kind)).setCell ⟨w.heap.size + 1, 1, none⟩ (.int .i64 Q.num)).setCell ⟨w.heap.size + 1, 2, none⟩ (.string Q.name)).setCell ⟨w.heap.size + 1, 3, none⟩ (.slice ya Q.args.length yc)) Q (.slice ya Q.args.length yc)) := Lib.hid (Beh.put Y8.out (by omega) (F8.out.r) _ _ _ _ _ rfl)
        generalize ((((w7.setCell ⟨w.heap.size + 1, 0, none⟩ (.int .i64 Q.kind)).setCell ⟨w.heap.size + 1, 1, none⟩ (.int .i64 Q.num)).setCell ⟨w.heap.size + 1, 2, none⟩ (.string Q.name)).setCell ⟨w.heap.size + 1, 3, none⟩ (.slice ya Q.args.length yc)) = W9 at *
        obtain ⟨k0, k1, k2, k3⟩ : W9.cell? ⟨w.heap.size + 1, 0, none⟩ = some (.int .i64 Q.kind) ∧ W9.cell? ⟨w.heap.size + 1, 1, none⟩ = some (.int .i64 Q.num) ∧ W9.cell? ⟨w.heap.size + 1, 2, none⟩ = some (.string Q.name) ∧ W9.cell? ⟨w.heap.size + 1, 3, none⟩ = some (.slice ya Q.args.length yc) := F9.out.r.cells
        exact bodyPost_ret (v := tv Q (.slice ya Q.args.length yc)) (by simp [results, Try.results62, go_sem, k0, k1, k2, k3]) rfl (F9.out.done Y9.out)

end Go.Proofs.Yteilodihjhdngaa

/- The program's functions that make error terms. -/
namespace Go.Proofs.Yteilodihjhdngaa
open Go.RowKit Go.Proofs.HT

theorem blame_any (nm : ByteArray) (c : Tm) (v : Value) (ws : List ByteArray) (a : Option Addr) (n cap : Nat) (w : World) (hnm : nm.size ≤ 9223372036854775807) (h : LiesT w c v) (hlen : ws.length = n) (hn : n ≤ 5) (hws : ∀ s ∈ ws, s.size ≤ 9223372036854775807) (hW : Words w a ws) :
    Calls Try.prog 62 #[.string nm, tv c v, .slice a n cap] w (MadeEnd (withT c nm ws) w) := by
  cases hv : validB c
  · have h2 := blame_no nm c v (.slice a n cap) w h hv
    have e : withT c nm ws = z0 := by unfold withT; rw [hv]; rfl
    rw [e]; exact h2
  · exact blame_yes nm c v ws a n cap w hnm h hv hlen hn hws hW
theorem words1 (w : World) (s : ByteArray) : Words (w.alloc (.cells #[.string s] 9)) (some ⟨w.heap.size, 0, none⟩) [s] := fun j hj => by
  obtain rfl : j = 0 := by simp at hj; omega
  exact ⟨_, _, rfl, by rw [cell_of_row _ _ _ _ _ _ (heap_alloc_new _ _)]; rfl⟩
theorem words2 (w : World) (s u : ByteArray) : Words (w.alloc (.cells #[.string s, .string u] 9)) (some ⟨w.heap.size, 0, none⟩) [s, u] := fun j hj => by
  rcases j with _ | _ | j
  · exact ⟨_, _, rfl, by rw [cell_of_row _ _ _ _ _ _ (heap_alloc_new _ _)]; rfl⟩
  · exact ⟨_, _, rfl, by rw [cell_of_row _ _ _ _ _ _ (heap_alloc_new _ _)]; rfl⟩
  · simp at hj; omega

set_option maxHeartbeats 2000000 in
theorem Uninst_any (c : Tm) (v : Value)  (w : World) (h : LiesT w c v)  : Calls Try.prog 13 #[tv c v] w (MadeEnd (withT c ⟨#[117, 110, 105, 110, 115, 116, 97, 110, 116, 105, 97, 116, 105, 111, 110, 95, 101, 114, 114, 111, 114]⟩ []) w) := by
  obtain ⟨va, vc, rfl⟩ : ∃ a k, v = .slice a c.args.length k := h.slice
  have F0 := Lib.hid (Fr.start w c (.slice va c.args.length vc))
  have F1 := F0
  have HC : Hid (Calls Try.prog 62 #[.string ⟨#[117, 110, 105, 110, 115, 116, 97, 110, 116, 105, 97, 116, 105, 111, 110, 95, 101, 114, 114, 111, 114]⟩, tv c (.slice va c.args.length vc), .slice none 0 0] ((w.alloc (.cells #[.int .i64 c.kind, .int .i64 c.num, .string c.name, .slice va c.args.length vc] 24)).alloc (.cells #[.int .i64 0, .int .i64 0, .string ⟨#[]⟩, .slice none 0 0] 24)) (MadeEnd (withT c ⟨#[117, 110, 105, 110, 115, 116, 97, 110, 116, 105, 97, 116, 105, 111, 110, 95, 101, 114, 114, 111, 114]⟩ []) ((w.alloc (.cells #[.int .i64 c.kind, .int .i64 c.num, .string c.name, .slice va c.args.length vc] 24)).alloc (.cells #[.int .i64 0, .int .i64 0, .string ⟨#[]⟩, .slice none 0 0] 24)))) := Lib.hid (blame_any ⟨#[117, 110, 105, 110, 115, 116, 97, 110, 116, 105, 97, 116, 105, 111, 110, 95, 101, 114, 114, 111, 114]⟩ c (.slice va c.args.length vc) [] none 0 0 ((w.alloc (.cells #[.int .i64 c.kind, .int .i64 c.num, .string c.name, .slice va c.args.length vc] 24)).alloc (.cells #[.int .i64 0, .int .i64 0, .string ⟨#[]⟩, .slice none 0 0] 24)) (by simp [ByteArray.size]) (h.below F1.out.b) rfl (by omega) (fun s hs => by simp at hs) (Words.nil _ _))
  generalize withT c ⟨#[117, 110, 105, 110, 115, 116, 97, 110, 116, 105, 97, 116, 105, 111, 110, 95, 101, 114, 114, 111, 114]⟩ [] = Q at *
  clear h 
  simp only [tv]
  go_enter Try.func13, Try.ntmps13
  go_wp2_with fail
  refine HC.out.mono ?_
  rintro e w7 ⟨y, rfl, hy, hb7⟩
  obtain ⟨ya, yc, rfl⟩ := hy.slice
  have F8 := Lib.hid (F1.out.step hb7)
  have Y8 : Hid (Beh w w7 Q (.slice ya Q.args.length yc)) := Lib.hid (Beh.of hy F1.out.z)
  clear hb7 hy HC
  obtain ⟨c0, c1, c2, c3⟩ : w7.cell? ⟨w.heap.size + 1, 0, none⟩ = some (.int .i64 0) ∧ w7.cell? ⟨w.heap.size + 1, 1, none⟩ = some (.int .i64 0) ∧ w7.cell? ⟨w.heap.size + 1, 2, none⟩ = some (.string ⟨#[]⟩) ∧ w7.cell? ⟨w.heap.size + 1, 3, none⟩ = some (.slice none 0 0) := F8.out.r.cells
  obtain ⟨f0, f1, f2, f3⟩ := F8.out.r.froz
  go_wp2_with fail
  clear c0 c1 c2 c3 f0 f1 f2 f3
  have F9 : Hid (Fr w ((((w7.setCell ⟨w.heap.size + 1, 0, none⟩ (.int .i64 Q.kind)).setCell ⟨w.heap.size + 1, 1, none⟩ (.int .i64 Q.num)).setCell ⟨w.heap.size + 1, 2, none⟩ (.string Q.name)).setCell ⟨w.heap.size + 1, 3, none⟩ (.slice ya Q.args.length yc)) c (.slice va c.args.length vc) Q (.slice ya Q.args.length yc)) := Lib.hid (F8.out.putR Q (.slice ya Q.args.length yc) _ rfl)
  have Y9 : Hid (Beh w ((((w7.setCell ⟨w.heap.size + 1, 0, none⟩ (.int .i64 Q.kind)).setCell ⟨w.heap.size + 1, 1, none⟩ (.int .i64 Q.num)).setCell ⟨w.heap.size + 1, 2, none⟩ (.string Q.name)).setCell ⟨w.heap.size + 1, 3, none⟩ (.slice ya Q.args.length yc)) Q (.slice ya Q.args.length yc)) := Lib.hid (Beh.put Y8.out (by omega) (F8.out.r) _ _ _ _ _ rfl)
  generalize ((((w7.setCell ⟨w.heap.size + 1, 0, none⟩ (.int .i64 Q.kind)).setCell ⟨w.heap.size + 1, 1, none⟩ (.int .i64 Q.num)).setCell ⟨w.heap.size + 1, 2, none⟩ (.string Q.name)).setCell ⟨w.heap.size + 1, 3, none⟩ (.slice ya Q.args.length yc)) = W9 at *
  obtain ⟨k0, k1, k2, k3⟩ : W9.cell? ⟨w.heap.size + 1, 0, none⟩ = some (.int .i64 Q.kind) ∧ W9.cell? ⟨w.heap.size + 1, 1, none⟩ = some (.int .i64 Q.num) ∧ W9.cell? ⟨w.heap.size + 1, 2, none⟩ = some (.string Q.name) ∧ W9.cell? ⟨w.heap.size + 1, 3, none⟩ = some (.slice ya Q.args.length yc) := F9.out.r.cells
  exact bodyPost_ret (v := tv Q (.slice ya Q.args.length yc)) (by simp [results, Try.results13, go_sem, k0, k1, k2, k3]) rfl (F9.out.done Y9.out)

set_option maxHeartbeats 2000000 in
theorem Type_any (c : Tm) (v : Value) (kd : ByteArray) (w : World) (h : LiesT w c v) (hkd : kd.size ≤ 9223372036854775807) : Calls Try.prog 14 #[.string kd, tv c v] w (MadeEnd (withT c ⟨#[116, 121, 112, 101, 95, 101, 114, 114, 111, 114]⟩ [kd]) w) := by
  obtain ⟨va, vc, rfl⟩ : ∃ a k, v = .slice a c.args.length k := h.slice
  have F0 := Lib.hid (Fr.start w c (.slice va c.args.length vc))
  have F1 : Hid (Fr w (((w.alloc (.cells #[.int .i64 c.kind, .int .i64 c.num, .string c.name, .slice va c.args.length vc] 24)).alloc (.cells #[.int .i64 0, .int .i64 0, .string ⟨#[]⟩, .slice none 0 0] 24)).alloc (.cells #[.string kd] 9)) c (.slice va c.args.length vc) z0 (.slice none 0 0)) := Lib.hid (F0.out.step (al0 _ _))
  have HC : Hid (Calls Try.prog 62 #[.string ⟨#[116, 121, 112, 101, 95, 101, 114, 114, 111, 114]⟩, tv c (.slice va c.args.length vc), .slice (some ⟨w.heap.size + 1 + 1, 0, none⟩) 1 1] (((w.alloc (.cells #[.int .i64 c.kind, .int .i64 c.num, .string c.name, .slice va c.args.length vc] 24)).alloc (.cells #[.int .i64 0, .int .i64 0, .string ⟨#[]⟩, .slice none 0 0] 24)).alloc (.cells #[.string kd] 9)) (MadeEnd (withT c ⟨#[116, 121, 112, 101, 95, 101, 114, 114, 111, 114]⟩ [kd]) (((w.alloc (.cells #[.int .i64 c.kind, .int .i64 c.num, .string c.name, .slice va c.args.length vc] 24)).alloc (.cells #[.int .i64 0, .int .i64 0, .string ⟨#[]⟩, .slice none 0 0] 24)).alloc (.cells #[.string kd] 9)))) := Lib.hid (blame_any ⟨#[116, 121, 112, 101, 95, 101, 114, 114, 111, 114]⟩ c (.slice va c.args.length vc) [kd] (some ⟨w.heap.size + 1 + 1, 0, none⟩) 1 1 (((w.alloc (.cells #[.int .i64 c.kind, .int .i64 c.num, .string c.name, .slice va c.args.length vc] 24)).alloc (.cells #[.int .i64 0, .int .i64 0, .string ⟨#[]⟩, .slice none 0 0] 24)).alloc (.cells #[.string kd] 9)) (by simp [ByteArray.size]) (h.below F1.out.b) rfl (by omega) (fun s hs => by simp at hs; subst hs; assumption) (by have hw := words1 ((w.alloc (.cells #[.int .i64 c.kind, .int .i64 c.num, .string c.name, .slice va c.args.length vc] 24)).alloc (.cells #[.int .i64 0, .int .i64 0, .string ⟨#[]⟩, .slice none 0 0] 24)) kd; simpa using hw))
  generalize withT c ⟨#[116, 121, 112, 101, 95, 101, 114, 114, 111, 114]⟩ [kd] = Q at *
  clear h hkd
  simp only [tv]
  go_enter Try.func14, Try.ntmps14
  go_wp2_with fail
  refine HC.out.mono ?_
  rintro e w7 ⟨y, rfl, hy, hb7⟩
  obtain ⟨ya, yc, rfl⟩ := hy.slice
  have F8 := Lib.hid (F1.out.step hb7)
  have Y8 : Hid (Beh w w7 Q (.slice ya Q.args.length yc)) := Lib.hid (Beh.of hy F1.out.z)
  clear hb7 hy HC
  obtain ⟨c0, c1, c2, c3⟩ : w7.cell? ⟨w.heap.size + 1, 0, none⟩ = some (.int .i64 0) ∧ w7.cell? ⟨w.heap.size + 1, 1, none⟩ = some (.int .i64 0) ∧ w7.cell? ⟨w.heap.size + 1, 2, none⟩ = some (.string ⟨#[]⟩) ∧ w7.cell? ⟨w.heap.size + 1, 3, none⟩ = some (.slice none 0 0) := F8.out.r.cells
  obtain ⟨f0, f1, f2, f3⟩ := F8.out.r.froz
  go_wp2_with fail
  clear c0 c1 c2 c3 f0 f1 f2 f3
  have F9 : Hid (Fr w ((((w7.setCell ⟨w.heap.size + 1, 0, none⟩ (.int .i64 Q.kind)).setCell ⟨w.heap.size + 1, 1, none⟩ (.int .i64 Q.num)).setCell ⟨w.heap.size + 1, 2, none⟩ (.string Q.name)).setCell ⟨w.heap.size + 1, 3, none⟩ (.slice ya Q.args.length yc)) c (.slice va c.args.length vc) Q (.slice ya Q.args.length yc)) := Lib.hid (F8.out.putR Q (.slice ya Q.args.length yc) _ rfl)
  have Y9 : Hid (Beh w ((((w7.setCell ⟨w.heap.size + 1, 0, none⟩ (.int .i64 Q.kind)).setCell ⟨w.heap.size + 1, 1, none⟩ (.int .i64 Q.num)).setCell ⟨w.heap.size + 1, 2, none⟩ (.string Q.name)).setCell ⟨w.heap.size + 1, 3, none⟩ (.slice ya Q.args.length yc)) Q (.slice ya Q.args.length yc)) := Lib.hid (Beh.put Y8.out (by omega) (F8.out.r) _ _ _ _ _ rfl)
  generalize ((((w7.setCell ⟨w.heap.size + 1, 0, none⟩ (.int .i64 Q.kind)).setCell ⟨w.heap.size + 1, 1, none⟩ (.int .i64 Q.num)).setCell ⟨w.heap.size + 1, 2, none⟩ (.string Q.name)).setCell ⟨w.heap.size + 1, 3, none⟩ (.slice ya Q.args.length yc)) = W9 at *
  obtain ⟨k0, k1, k2, k3⟩ : W9.cell? ⟨w.heap.size + 1, 0, none⟩ = some (.int .i64 Q.kind) ∧ W9.cell? ⟨w.heap.size + 1, 1, none⟩ = some (.int .i64 Q.num) ∧ W9.cell? ⟨w.heap.size + 1, 2, none⟩ = some (.string Q.name) ∧ W9.cell? ⟨w.heap.size + 1, 3, none⟩ = some (.slice ya Q.args.length yc) := F9.out.r.cells
  exact bodyPost_ret (v := tv Q (.slice ya Q.args.length yc)) (by simp [results, Try.results14, go_sem, k0, k1, k2, k3]) rfl (F9.out.done Y9.out)

set_option maxHeartbeats 2000000 in
theorem Domain_any (c : Tm) (v : Value) (kd : ByteArray) (w : World) (h : LiesT w c v) (hkd : kd.size ≤ 9223372036854775807) : Calls Try.prog 15 #[.string kd, tv c v] w (MadeEnd (withT c ⟨#[100, 111, 109, 97, 105, 110, 95, 101, 114, 114, 111, 114]⟩ [kd]) w) := by
  obtain ⟨va, vc, rfl⟩ : ∃ a k, v = .slice a c.args.length k := h.slice
  have F0 := Lib.hid (Fr.start w c (.slice va c.args.length vc))
  have F1 : Hid (Fr w (((w.alloc (.cells #[.int .i64 c.kind, .int .i64 c.num, .string c.name, .slice va c.args.length vc] 24)).alloc (.cells #[.int .i64 0, .int .i64 0, .string ⟨#[]⟩, .slice none 0 0] 24)).alloc (.cells #[.string kd] 9)) c (.slice va c.args.length vc) z0 (.slice none 0 0)) := Lib.hid (F0.out.step (al0 _ _))
  have HC : Hid (Calls Try.prog 62 #[.string ⟨#[100, 111, 109, 97, 105, 110, 95, 101, 114, 114, 111, 114]⟩, tv c (.slice va c.args.length vc), .slice (some ⟨w.heap.size + 1 + 1, 0, none⟩) 1 1] (((w.alloc (.cells #[.int .i64 c.kind, .int .i64 c.num, .string c.name, .slice va c.args.length vc] 24)).alloc (.cells #[.int .i64 0, .int .i64 0, .string ⟨#[]⟩, .slice none 0 0] 24)).alloc (.cells #[.string kd] 9)) (MadeEnd (withT c ⟨#[100, 111, 109, 97, 105, 110, 95, 101, 114, 114, 111, 114]⟩ [kd]) (((w.alloc (.cells #[.int .i64 c.kind, .int .i64 c.num, .string c.name, .slice va c.args.length vc] 24)).alloc (.cells #[.int .i64 0, .int .i64 0, .string ⟨#[]⟩, .slice none 0 0] 24)).alloc (.cells #[.string kd] 9)))) := Lib.hid (blame_any ⟨#[100, 111, 109, 97, 105, 110, 95, 101, 114, 114, 111, 114]⟩ c (.slice va c.args.length vc) [kd] (some ⟨w.heap.size + 1 + 1, 0, none⟩) 1 1 (((w.alloc (.cells #[.int .i64 c.kind, .int .i64 c.num, .string c.name, .slice va c.args.length vc] 24)).alloc (.cells #[.int .i64 0, .int .i64 0, .string ⟨#[]⟩, .slice none 0 0] 24)).alloc (.cells #[.string kd] 9)) (by simp [ByteArray.size]) (h.below F1.out.b) rfl (by omega) (fun s hs => by simp at hs; subst hs; assumption) (by have hw := words1 ((w.alloc (.cells #[.int .i64 c.kind, .int .i64 c.num, .string c.name, .slice va c.args.length vc] 24)).alloc (.cells #[.int .i64 0, .int .i64 0, .string ⟨#[]⟩, .slice none 0 0] 24)) kd; simpa using hw))
  generalize withT c ⟨#[100, 111, 109, 97, 105, 110, 95, 101, 114, 114, 111, 114]⟩ [kd] = Q at *
  clear h hkd
  simp only [tv]
  go_enter Try.func15, Try.ntmps15
  go_wp2_with fail
  refine HC.out.mono ?_
  rintro e w7 ⟨y, rfl, hy, hb7⟩
  obtain ⟨ya, yc, rfl⟩ := hy.slice
  have F8 := Lib.hid (F1.out.step hb7)
  have Y8 : Hid (Beh w w7 Q (.slice ya Q.args.length yc)) := Lib.hid (Beh.of hy F1.out.z)
  clear hb7 hy HC
  obtain ⟨c0, c1, c2, c3⟩ : w7.cell? ⟨w.heap.size + 1, 0, none⟩ = some (.int .i64 0) ∧ w7.cell? ⟨w.heap.size + 1, 1, none⟩ = some (.int .i64 0) ∧ w7.cell? ⟨w.heap.size + 1, 2, none⟩ = some (.string ⟨#[]⟩) ∧ w7.cell? ⟨w.heap.size + 1, 3, none⟩ = some (.slice none 0 0) := F8.out.r.cells
  obtain ⟨f0, f1, f2, f3⟩ := F8.out.r.froz
  go_wp2_with fail
  clear c0 c1 c2 c3 f0 f1 f2 f3
  have F9 : Hid (Fr w ((((w7.setCell ⟨w.heap.size + 1, 0, none⟩ (.int .i64 Q.kind)).setCell ⟨w.heap.size + 1, 1, none⟩ (.int .i64 Q.num)).setCell ⟨w.heap.size + 1, 2, none⟩ (.string Q.name)).setCell ⟨w.heap.size + 1, 3, none⟩ (.slice ya Q.args.length yc)) c (.slice va c.args.length vc) Q (.slice ya Q.args.length yc)) := Lib.hid (F8.out.putR Q (.slice ya Q.args.length yc) _ rfl)
  have Y9 : Hid (Beh w ((((w7.setCell ⟨w.heap.size + 1, 0, none⟩ (.int .i64 Q.kind)).setCell ⟨w.heap.size + 1, 1, none⟩ (.int .i64 Q.num)).setCell ⟨w.heap.size + 1, 2, none⟩ (.string Q.name)).setCell ⟨w.heap.size + 1, 3, none⟩ (.slice ya Q.args.length yc)) Q (.slice ya Q.args.length yc)) := Lib.hid (Beh.put Y8.out (by omega) (F8.out.r) _ _ _ _ _ rfl)
  generalize ((((w7.setCell ⟨w.heap.size + 1, 0, none⟩ (.int .i64 Q.kind)).setCell ⟨w.heap.size + 1, 1, none⟩ (.int .i64 Q.num)).setCell ⟨w.heap.size + 1, 2, none⟩ (.string Q.name)).setCell ⟨w.heap.size + 1, 3, none⟩ (.slice ya Q.args.length yc)) = W9 at *
  obtain ⟨k0, k1, k2, k3⟩ : W9.cell? ⟨w.heap.size + 1, 0, none⟩ = some (.int .i64 Q.kind) ∧ W9.cell? ⟨w.heap.size + 1, 1, none⟩ = some (.int .i64 Q.num) ∧ W9.cell? ⟨w.heap.size + 1, 2, none⟩ = some (.string Q.name) ∧ W9.cell? ⟨w.heap.size + 1, 3, none⟩ = some (.slice ya Q.args.length yc) := F9.out.r.cells
  exact bodyPost_ret (v := tv Q (.slice ya Q.args.length yc)) (by simp [results, Try.results15, go_sem, k0, k1, k2, k3]) rfl (F9.out.done Y9.out)

set_option maxHeartbeats 2000000 in
theorem Existence_any (c : Tm) (v : Value) (kd : ByteArray) (w : World) (h : LiesT w c v) (hkd : kd.size ≤ 9223372036854775807) : Calls Try.prog 16 #[.string kd, tv c v] w (MadeEnd (withT c ⟨#[101, 120, 105, 115, 116, 101, 110, 99, 101, 95, 101, 114, 114, 111, 114]⟩ [kd]) w) := by
  obtain ⟨va, vc, rfl⟩ : ∃ a k, v = .slice a c.args.length k := h.slice
  have F0 := Lib.hid (Fr.start w c (.slice va c.args.length vc))
  have F1 : Hid (Fr w (((w.alloc (.cells #[.int .i64 c.kind, .int .i64 c.num, .string c.name, .slice va c.args.length vc] 24)).alloc (.cells #[.int .i64 0, .int .i64 0, .string ⟨#[]⟩, .slice none 0 0] 24)).alloc (.cells #[.string kd] 9)) c (.slice va c.args.length vc) z0 (.slice none 0 0)) := Lib.hid (F0.out.step (al0 _ _))
  have HC : Hid (Calls Try.prog 62 #[.string ⟨#[101, 120, 105, 115, 116, 101, 110, 99, 101, 95, 101, 114, 114, 111, 114]⟩, tv c (.slice va c.args.length vc), .slice (some ⟨w.heap.size + 1 + 1, 0, none⟩) 1 1] (((w.alloc (.cells #[.int .i64 c.kind, .int .i64 c.num, .string c.name, .slice va c.args.length vc] 24)).alloc (.cells #[.int .i64 0, .int .i64 0, .string ⟨#[]⟩, .slice none 0 0] 24)).alloc (.cells #[.string kd] 9)) (MadeEnd (withT c ⟨#[101, 120, 105, 115, 116, 101, 110, 99, 101, 95, 101, 114, 114, 111, 114]⟩ [kd]) (((w.alloc (.cells #[.int .i64 c.kind, .int .i64 c.num, .string c.name, .slice va c.args.length vc] 24)).alloc (.cells #[.int .i64 0, .int .i64 0, .string ⟨#[]⟩, .slice none 0 0] 24)).alloc (.cells #[.string kd] 9)))) := Lib.hid (blame_any ⟨#[101, 120, 105, 115, 116, 101, 110, 99, 101, 95, 101, 114, 114, 111, 114]⟩ c (.slice va c.args.length vc) [kd] (some ⟨w.heap.size + 1 + 1, 0, none⟩) 1 1 (((w.alloc (.cells #[.int .i64 c.kind, .int .i64 c.num, .string c.name, .slice va c.args.length vc] 24)).alloc (.cells #[.int .i64 0, .int .i64 0, .string ⟨#[]⟩, .slice none 0 0] 24)).alloc (.cells #[.string kd] 9)) (by simp [ByteArray.size]) (h.below F1.out.b) rfl (by omega) (fun s hs => by simp at hs; subst hs; assumption) (by have hw := words1 ((w.alloc (.cells #[.int .i64 c.kind, .int .i64 c.num, .string c.name, .slice va c.args.length vc] 24)).alloc (.cells #[.int .i64 0, .int .i64 0, .string ⟨#[]⟩, .slice none 0 0] 24)) kd; simpa using hw))
  generalize withT c ⟨#[101, 120, 105, 115, 116, 101, 110, 99, 101, 95, 101, 114, 114, 111, 114]⟩ [kd] = Q at *
  clear h hkd
  simp only [tv]
  go_enter Try.func16, Try.ntmps16
  go_wp2_with fail
  refine HC.out.mono ?_
  rintro e w7 ⟨y, rfl, hy, hb7⟩
  obtain ⟨ya, yc, rfl⟩ := hy.slice
  have F8 := Lib.hid (F1.out.step hb7)
  have Y8 : Hid (Beh w w7 Q (.slice ya Q.args.length yc)) := Lib.hid (Beh.of hy F1.out.z)
  clear hb7 hy HC
  obtain ⟨c0, c1, c2, c3⟩ : w7.cell? ⟨w.heap.size + 1, 0, none⟩ = some (.int .i64 0) ∧ w7.cell? ⟨w.heap.size + 1, 1, none⟩ = some (.int .i64 0) ∧ w7.cell? ⟨w.heap.size + 1, 2, none⟩ = some (.string ⟨#[]⟩) ∧ w7.cell? ⟨w.heap.size + 1, 3, none⟩ = some (.slice none 0 0) := F8.out.r.cells
  obtain ⟨f0, f1, f2, f3⟩ := F8.out.r.froz
  go_wp2_with fail
  clear c0 c1 c2 c3 f0 f1 f2 f3
  have F9 : Hid (Fr w ((((w7.setCell ⟨w.heap.size + 1, 0, none⟩ (.int .i64 Q.kind)).setCell ⟨w.heap.size + 1, 1, none⟩ (.int .i64 Q.num)).setCell ⟨w.heap.size + 1, 2, none⟩ (.string Q.name)).setCell ⟨w.heap.size + 1, 3, none⟩ (.slice ya Q.args.length yc)) c (.slice va c.args.length vc) Q (.slice ya Q.args.length yc)) := Lib.hid (F8.out.putR Q (.slice ya Q.args.length yc) _ rfl)
  have Y9 : Hid (Beh w ((((w7.setCell ⟨w.heap.size + 1, 0, none⟩ (.int .i64 Q.kind)).setCell ⟨w.heap.size + 1, 1, none⟩ (.int .i64 Q.num)).setCell ⟨w.heap.size + 1, 2, none⟩ (.string Q.name)).setCell ⟨w.heap.size + 1, 3, none⟩ (.slice ya Q.args.length yc)) Q (.slice ya Q.args.length yc)) := Lib.hid (Beh.put Y8.out (by omega) (F8.out.r) _ _ _ _ _ rfl)
  generalize ((((w7.setCell ⟨w.heap.size + 1, 0, none⟩ (.int .i64 Q.kind)).setCell ⟨w.heap.size + 1, 1, none⟩ (.int .i64 Q.num)).setCell ⟨w.heap.size + 1, 2, none⟩ (.string Q.name)).setCell ⟨w.heap.size + 1, 3, none⟩ (.slice ya Q.args.length yc)) = W9 at *
  obtain ⟨k0, k1, k2, k3⟩ : W9.cell? ⟨w.heap.size + 1, 0, none⟩ = some (.int .i64 Q.kind) ∧ W9.cell? ⟨w.heap.size + 1, 1, none⟩ = some (.int .i64 Q.num) ∧ W9.cell? ⟨w.heap.size + 1, 2, none⟩ = some (.string Q.name) ∧ W9.cell? ⟨w.heap.size + 1, 3, none⟩ = some (.slice ya Q.args.length yc) := F9.out.r.cells
  exact bodyPost_ret (v := tv Q (.slice ya Q.args.length yc)) (by simp [results, Try.results16, go_sem, k0, k1, k2, k3]) rfl (F9.out.done Y9.out)

set_option maxHeartbeats 2000000 in
theorem Permission_any (c : Tm) (v : Value) (ac : ByteArray) (kd : ByteArray) (w : World) (h : LiesT w c v) (hac : ac.size ≤ 9223372036854775807) (hkd : kd.size ≤ 9223372036854775807) : Calls Try.prog 17 #[.string ac, .string kd, tv c v] w (MadeEnd (withT c ⟨#[112, 101, 114, 109, 105, 115, 115, 105, 111, 110, 95, 101, 114, 114, 111, 114]⟩ [ac, kd]) w) := by
  obtain ⟨va, vc, rfl⟩ : ∃ a k, v = .slice a c.args.length k := h.slice
  have F0 := Lib.hid (Fr.start w c (.slice va c.args.length vc))
  have F1 : Hid (Fr w (((w.alloc (.cells #[.int .i64 c.kind, .int .i64 c.num, .string c.name, .slice va c.args.length vc] 24)).alloc (.cells #[.int .i64 0, .int .i64 0, .string ⟨#[]⟩, .slice none 0 0] 24)).alloc (.cells #[.string ac, .string kd] 9)) c (.slice va c.args.length vc) z0 (.slice none 0 0)) := Lib.hid (F0.out.step (al0 _ _))
  have HC : Hid (Calls Try.prog 62 #[.string ⟨#[112, 101, 114, 109, 105, 115, 115, 105, 111, 110, 95, 101, 114, 114, 111, 114]⟩, tv c (.slice va c.args.length vc), .slice (some ⟨w.heap.size + 1 + 1, 0, none⟩) 2 2] (((w.alloc (.cells #[.int .i64 c.kind, .int .i64 c.num, .string c.name, .slice va c.args.length vc] 24)).alloc (.cells #[.int .i64 0, .int .i64 0, .string ⟨#[]⟩, .slice none 0 0] 24)).alloc (.cells #[.string ac, .string kd] 9)) (MadeEnd (withT c ⟨#[112, 101, 114, 109, 105, 115, 115, 105, 111, 110, 95, 101, 114, 114, 111, 114]⟩ [ac, kd]) (((w.alloc (.cells #[.int .i64 c.kind, .int .i64 c.num, .string c.name, .slice va c.args.length vc] 24)).alloc (.cells #[.int .i64 0, .int .i64 0, .string ⟨#[]⟩, .slice none 0 0] 24)).alloc (.cells #[.string ac, .string kd] 9)))) := Lib.hid (blame_any ⟨#[112, 101, 114, 109, 105, 115, 115, 105, 111, 110, 95, 101, 114, 114, 111, 114]⟩ c (.slice va c.args.length vc) [ac, kd] (some ⟨w.heap.size + 1 + 1, 0, none⟩) 2 2 (((w.alloc (.cells #[.int .i64 c.kind, .int .i64 c.num, .string c.name, .slice va c.args.length vc] 24)).alloc (.cells #[.int .i64 0, .int .i64 0, .string ⟨#[]⟩, .slice none 0 0] 24)).alloc (.cells #[.string ac, .string kd] 9)) (by simp [ByteArray.size]) (h.below F1.out.b) rfl (by omega) (fun s hs => by simp at hs; rcases hs with rfl | rfl <;> assumption) (by have hw := words2 ((w.alloc (.cells #[.int .i64 c.kind, .int .i64 c.num, .string c.name, .slice va c.args.length vc] 24)).alloc (.cells #[.int .i64 0, .int .i64 0, .string ⟨#[]⟩, .slice none 0 0] 24)) ac kd; simpa using hw))
  generalize withT c ⟨#[112, 101, 114, 109, 105, 115, 115, 105, 111, 110, 95, 101, 114, 114, 111, 114]⟩ [ac, kd] = Q at *
  clear h hac hkd
  simp only [tv]
  go_enter Try.func17, Try.ntmps17
  go_wp2_with fail
  refine HC.out.mono ?_
  rintro e w7 ⟨y, rfl, hy, hb7⟩
  obtain ⟨ya, yc, rfl⟩ := hy.slice
  have F8 := Lib.hid (F1.out.step hb7)
  have Y8 : Hid (Beh w w7 Q (.slice ya Q.args.length yc)) := Lib.hid (Beh.of hy F1.out.z)
  clear hb7 hy HC
  obtain ⟨c0, c1, c2, c3⟩ : w7.cell? ⟨w.heap.size + 1, 0, none⟩ = some (.int .i64 0) ∧ w7.cell? ⟨w.heap.size + 1, 1, none⟩ = some (.int .i64 0) ∧ w7.cell? ⟨w.heap.size + 1, 2, none⟩ = some (.string ⟨#[]⟩) ∧ w7.cell? ⟨w.heap.size + 1, 3, none⟩ = some (.slice none 0 0) := F8.out.r.cells
  obtain ⟨f0, f1, f2, f3⟩ := F8.out.r.froz
  go_wp2_with fail
  clear c0 c1 c2 c3 f0 f1 f2 f3
  have F9 : Hid (Fr w ((((w7.setCell ⟨w.heap.size + 1, 0, none⟩ (.int .i64 Q.kind)).setCell ⟨w.heap.size + 1, 1, none⟩ (.int .i64 Q.num)).setCell ⟨w.heap.size + 1, 2, none⟩ (.string Q.name)).setCell ⟨w.heap.size + 1, 3, none⟩ (.slice ya Q.args.length yc)) c (.slice va c.args.length vc) Q (.slice ya Q.args.length yc)) := Lib.hid (F8.out.putR Q (.slice ya Q.args.length yc) _ rfl)
  have Y9 : Hid (Beh w ((((w7.setCell ⟨w.heap.size + 1, 0, none⟩ (.int .i64 Q.kind)).setCell ⟨w.heap.size + 1, 1, none⟩ (.int .i64 Q.num)).setCell ⟨w.heap.size + 1, 2, none⟩ (.string Q.name)).setCell ⟨w.heap.size + 1, 3, none⟩ (.slice ya Q.args.length yc)) Q (.slice ya Q.args.length yc)) := Lib.hid (Beh.put Y8.out (by omega) (F8.out.r) _ _ _ _ _ rfl)
  generalize ((((w7.setCell ⟨w.heap.size + 1, 0, none⟩ (.int .i64 Q.kind)).setCell ⟨w.heap.size + 1, 1, none⟩ (.int .i64 Q.num)).setCell ⟨w.heap.size + 1, 2, none⟩ (.string Q.name)).setCell ⟨w.heap.size + 1, 3, none⟩ (.slice ya Q.args.length yc)) = W9 at *
  obtain ⟨k0, k1, k2, k3⟩ : W9.cell? ⟨w.heap.size + 1, 0, none⟩ = some (.int .i64 Q.kind) ∧ W9.cell? ⟨w.heap.size + 1, 1, none⟩ = some (.int .i64 Q.num) ∧ W9.cell? ⟨w.heap.size + 1, 2, none⟩ = some (.string Q.name) ∧ W9.cell? ⟨w.heap.size + 1, 3, none⟩ = some (.slice ya Q.args.length yc) := F9.out.r.cells
  exact bodyPost_ret (v := tv Q (.slice ya Q.args.length yc)) (by simp [results, Try.results17, go_sem, k0, k1, k2, k3]) rfl (F9.out.done Y9.out)

theorem intT_lies {w : World} {n : Int} (h : I64 n) : LiesT w (.mk 1 n ⟨#[]⟩ []) (.slice none 0 0) := by
  unfold LiesT; exact ⟨⟨by omega, by omega⟩, h, by simp [ByteArray.size], .inl ⟨rfl, rfl⟩⟩
/-- A call whose result's cell is the first block: the zero term is stored there. -/
theorem zero_end {w w2 : World} (R : RowT w2 w.heap.size z0 (.slice none 0 0)) (hb : Below w.heap.size w w2) : ∀ w3, w3 = ((((w2.setCell ⟨w.heap.size, 0, none⟩ (.int .i64 0)).setCell ⟨w.heap.size, 1, none⟩ (.int .i64 0)).setCell ⟨w.heap.size, 2, none⟩ (.string ⟨#[]⟩)).setCell ⟨w.heap.size, 3, none⟩ (.slice none 0 0)) → RowT w3 w.heap.size z0 (.slice none 0 0) ∧ MadeEnd z0 w (.returned zv) w3 := by
  rintro w3 rfl
  have f := four R (.int .i64 0) (.int .i64 0) (.string ⟨#[]⟩) (.slice none 0 0)
  exact ⟨f.1, .slice none 0 0, rfl, zero_own, f.2.2.2 _ _ (Nat.le_refl _) hb⟩

set_option maxHeartbeats 2000000 in
theorem Syntax_neg (n : Int) (w : World) (hn : n < 0) : Calls Try.prog 20 #[.int .i64 n] w (MadeEnd z0 w) := by
  have R0 := Lib.hid (RowT.new w z0 (.slice none 0 0))
  have B0 := Lib.hid (al0 w (.cells #[.int .i64 0, .int .i64 0, .string ⟨#[]⟩, .slice none 0 0] 24))
  have d0 : decide (n < 0) = true := by simpa using hn
  go_enter Try.func20, Try.ntmps20
  go_wp2_with fail
  exact bodyPost_ret (v := zv) (by simp [results, Try.results20, go_sem]) rfl ⟨.slice none 0 0, rfl, zero_own, B0.out⟩

set_option maxHeartbeats 2000000 in
theorem Syntax_pos (n : Int) (w : World) (hn : 0 ≤ n) (hi : n ≤ 9223372036854775807) : Calls Try.prog 20 #[.int .i64 n] w (MadeEnd (vz (errT (.mk 3 0 ⟨#[115, 121, 110, 116, 97, 120, 95, 101, 114, 114, 111, 114]⟩ [.mk 1 n ⟨#[]⟩ []]))) w) := by
  obtain ⟨Q, hQ⟩ : ∃ Q, vz (errT (.mk 3 0 ⟨#[115, 121, 110, 116, 97, 120, 95, 101, 114, 114, 111, 114]⟩ [.mk 1 n ⟨#[]⟩ []])) = Q := ⟨_, rfl⟩
  rw [hQ]
  have R0 := Lib.hid (RowT.new w z0 (.slice none 0 0))
  have HC : Hid (∀ (w0 : World) (g : Nat), w0.heap.size = g → Calls Try.prog 61 #[.string ⟨#[115, 121, 110, 116, 97, 120, 95, 101, 114, 114, 111, 114]⟩, .slice (some ⟨g, 0, none⟩) 1 1] (w0.alloc (.cells #[.int .i64 1, .int .i64 n, .string ⟨#[]⟩, .slice none 0 0] 24)) (MadeEnd Q (w0.alloc (.cells #[.int .i64 1, .int .i64 n, .string ⟨#[]⟩, .slice none 0 0] 24)))) := Lib.hid (by
    rw [← hQ]
    intro w0 g hg
    exact errorTerm_some _ [.mk 1 n ⟨#[]⟩ []] _ _ _ _ (by simp [ByteArray.size]) (lies_new (ty := 24) hg [(.mk 1 n ⟨#[]⟩ [], .slice none 0 0)] (by simp only [EnvT]; exact ⟨intT_lies ⟨by omega, by omega⟩, trivial⟩) (by simp)) (by omega))
  have d0 : decide (n < 0) = false := by simp; omega
  clear hQ
  go_enter Try.func20, Try.ntmps20
  go_wp2_with fail
  refine (Int_any n _).mono ?_
  rintro e w1 ⟨rfl, hb1⟩
  have R00 := Lib.hid (R0.out.below hb1)
  have B0 : Hid (Below w.heap.size w w1) := Lib.hid (al hb1)
  clear hb1 R0
  go_wp2_with fail
  have R1 := Lib.hid (R00.out.below (al0 w1 (.cells #[.int .i64 1, .int .i64 n, .string ⟨#[]⟩, .slice none 0 0] 24)))
  have B1 := Lib.hid (B0.out.alloc B0.out.size (.cells #[.int .i64 1, .int .i64 n, .string ⟨#[]⟩, .slice none 0 0] 24))
  refine (HC.out w1 _ rfl).mono ?_
  clear HC R00 B0
  rintro e w3 ⟨y, rfl, hy, hb3⟩
  obtain ⟨ya, yc, rfl⟩ := hy.slice
  have CC := made_call R1.out B1.out ⟨_, rfl, hy, hb3⟩
  have R3 := Lib.hid CC.1
  have B3 := Lib.hid CC.2.1
  have HY := Lib.hid CC.2.2
  clear CC hb3 hy
  obtain ⟨c0, c1, c2, c3⟩ := R3.out.cells
  obtain ⟨f0, f1, f2, f3⟩ := R3.out.froz
  go_wp2_with fail
  have PE := made_end1 (T := Q) B3.out HY.out R3.out _ rfl
  have K := (four R3.out (.int .i64 Q.kind) (.int .i64 Q.num) (.string Q.name) (.slice ya Q.args.length yc)).1
  generalize ((((w3.setCell ⟨w.heap.size, 0, none⟩ (.int .i64 Q.kind)).setCell ⟨w.heap.size, 1, none⟩ (.int .i64 Q.num)).setCell ⟨w.heap.size, 2, none⟩ (.string Q.name)).setCell ⟨w.heap.size, 3, none⟩ (.slice ya Q.args.length yc)) = W3 at *
  obtain ⟨k0, k1, k2, k3⟩ := cells_row K
  exact bodyPost_ret (v := tv Q (.slice ya Q.args.length yc)) (by simp [results, Try.results20, go_sem, k0, k1, k2, k3]) rfl PE

def isS (t : Tm) (nm : ByteArray) (k : Nat) : Bool := (t.kind == 3) && ((t.name.data.toList == nm.data.toList) && (t.args.length == k))
set_option maxHeartbeats 2000000 in
theorem isStructure_any (t : Tm) (v : Value) (nm : ByteArray) (k : Nat) (w : World) (h : LiesT w t v) : Calls Try.prog 72 #[tv t v, .string nm, .int .i64 k] w fun e w' => e = .returned (.bool (isS t nm k)) ∧ Below w.heap.size w w' := by
  obtain ⟨va, vc, rfl⟩ : ∃ a c, v = .slice a t.args.length c := h.slice
  obtain ⟨q, hq⟩ : ∃ q, isS t nm k = q := ⟨_, rfl⟩
  rw [hq]
  obtain ⟨m, hm⟩ : ∃ m, t.args.length = m := ⟨_, rfl⟩
  unfold isS at hq
  simp only [tv]
  rw [hm] at hq ⊢
  clear h hm
  obtain ⟨x2, h2⟩ : ∃ x, (t.name.data.toList == nm.data.toList) = x := ⟨_, rfl⟩
  obtain ⟨x3, h3⟩ : ∃ x, (m == k) = x := ⟨_, rfl⟩
  have h5 : ((m : Int) == (k : Int)) = x3 := by rw [← h3, Bool.eq_iff_iff, beq_iff_eq, beq_iff_eq]; omega
  rw [h2, h3] at hq
  have h2 : (t.name.toList == nm.toList) = x2 := by rw [Lib.toList_data, Lib.toList_data]; exact h2
  clear h3
  rcases Bool.eq_false_or_eq_true (t.kind == 3) with h1 | h1 <;> cases x2 <;> cases x3
  all_goals
    rw [h1] at hq
    simp at hq
    subst hq
    go_enter Try.func72, Try.ntmps72
    go_wp2_with fail
    go_ret
    exact ⟨rfl, al0 _ _⟩

end Go.Proofs.Yteilodihjhdngaa
