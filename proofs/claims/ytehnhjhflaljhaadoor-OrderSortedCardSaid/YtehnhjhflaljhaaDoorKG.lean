/- The specification's key and insert. -/
import Derived.Test.YtehnhjhflaljhaaDoorKF
namespace Go.Proofs.YtehnhjhflaljhaaDoor
open Go.RowKit Go.Proofs.HT

theorem at_slot (d : Nat) {P : Program} {ops : Array Oper} {Q : Exit → Act → World → Prop} {op : Op} {ty : TypeId} {pos : String} {af : Array Edge} {g : Option (Nat × Bool)} {rest : List Oper} {a : Act} {w : World} (h : wpList P ops Q (⟨some d, op, ty, pos, af, g⟩ :: rest) a w) : wpList P ops Q (⟨some d, op, ty, pos, af, g⟩ :: rest) a w := h
theorem insL_split {α : Type} {cf : α → α → Int} (y : α) : ∀ A B : List α, (∀ a ∈ A, ¬ cf y a < 0) → (∀ b ∈ B, cf y b < 0) → insL cf y (A ++ B) = A ++ y :: B
  | [], [], _, _ => rfl
  | [], b :: B, _, h => by rw [List.nil_append, insL, if_pos (h b (by simp))]; rfl
  | a :: A, B, h1, h2 => by rw [List.cons_append, insL, if_neg (h1 a (by simp)), insL_split y A B (fun x hx => h1 x (by simp [hx])) h2, List.cons_append]
theorem insL_at {cf : PV → PV → Int} (ho : OrdC cf) (y : PV) (l : List PV) (hs : SortedC cf l) (K : Nat) (hK : K ≤ l.length) (h1 : ∀ j, K ≤ j → j < l.length → cf y (l.getD j dflt) < 0) (h2 : K = 0 ∨ ¬ cf y (l.getD (K - 1) dflt) < 0) : insL cf y l = l.take K ++ y :: l.drop K := by
  have e : insL cf y (l.take K ++ l.drop K) = l.take K ++ y :: l.drop K := by
    refine insL_split y _ _ (fun a ha => ?_) (fun b hb => ?_)
    · obtain ⟨k, hk, rfl⟩ := List.mem_iff_getElem.1 ha
      simp only [List.length_take] at hk
      rcases h2 with h2 | h2
      · omega
      · rw [getD_at l (K - 1) (by omega)] at h2
        rw [List.getElem_take]
        by_cases e : k = K - 1
        · subst e; exact h2
        · exact ho.not_of_le (ho.tr _ _ _ (hs.at k (K - 1) (by omega) (by omega)) (ho.le_of_not h2))
    · obtain ⟨k, hk, rfl⟩ := List.mem_iff_getElem.1 hb
      simp only [List.length_drop] at hk
      have := h1 (K + k) (by omega) (by omega)
      rw [getD_at l (K + k) (by omega)] at this
      rw [List.getElem_drop]; exact this
  rw [List.take_append_drop] at e
  exact e

theorem rkey_no (t : Tm) (v : Value) (w : World) (h : LiesT w t v) : Calls Tryd.prog 72 #[tv t v, .bool false] w (KeyEnd t w) := by
  have HB : Hid (∀ o1 o2, Below w.heap.size w ((w.alloc o1).alloc o2)) := fun o1 o2 => ((Below.refl w.heap.size w).alloc (Nat.le_refl _) _).alloc (by simp) _
  have HH := Lib.hid h
  obtain ⟨a, c, rfl⟩ : ∃ a c, v = .slice a t.args.length c := h.slice
  simp only [tv]
  go_enter Tryd.func72, Tryd.ntmps72
  go_wp2_with fail
  exact bodyPost_ret (v := tv t (.slice a t.args.length c)) (by simp [results, Tryd.results72, go_sem, tv]) rfl ⟨_, rfl, HH.out.below (HB.out _ _), HB.out _ _⟩

theorem rkey_yes (k n : Int) (s : ByteArray) (u : Tm) (us : List Tm) (v : Value) (w : World) (h : LiesT w (.mk k n s (u :: us)) v) : Calls Tryd.prog 72 #[tv (.mk k n s (u :: us)) v, .bool true] w (KeyEnd u w) := by
  have HB : Hid (∀ o1 o2, Below w.heap.size w ((w.alloc o1).alloc o2)) := fun o1 o2 => ((Below.refl w.heap.size w).alloc (Nat.le_refl _) _).alloc (by simp) _
  rcases h.len with ⟨h0, _⟩ | ⟨b, o, cap, rfl, hpos, hlc, hcap, hl⟩
  · simp at h0
  obtain ⟨x, c0, c1, c2, c3, hx⟩ := hl.at 0 (by simp)
  simp only [List.getElem_cons_zero, Nat.zero_mul, Nat.add_zero] at c0 c1 c2 c3 hx
  obtain ⟨xa, xc, rfl⟩ : ∃ a c, x = .slice a u.args.length c := hx.slice
  have zb := World.block_lt_of_cell? _ _ c0
  have HX := Lib.hid hx
  have hlen : 1 ≤ (u :: us).length := by simp
  obtain ⟨m, hm⟩ : ∃ m, (u :: us).length = m := ⟨_, rfl⟩
  show Calls Tryd.prog 72 #[.agg #[.int .i64 k, .int .i64 n, .string s, .slice (some ⟨b, o, none⟩) (u :: us).length cap], .bool true] w _
  rw [hm] at hlen hlc ⊢
  have hm1 : (1 : Int) ≤ (m : Int) := by omega
  have hm0 : (0 : Int) < (m : Int) := by omega
  clear h hl hpos hcap hx hm
  go_enter Tryd.func72, Tryd.ntmps72
  go_wp2_with fail
  exact bodyPost_ret (v := tv u (.slice xa u.args.length xc)) (by simp [results, Tryd.results72, go_sem, tv]) rfl ⟨_, rfl, HX.out.below (HB.out _ _), HB.out _ _⟩


/-- By what terms are compared. -/
def kT (p : Bool) (t : Tm) : Tm := if p then keyT t else t
def cfP (p : Bool) (x y : PV) : Int := cT (kT p x.1) (kT p y.1)
theorem cfP_ord (p : Bool) : OrdC (cfP p) := ⟨fun _a _b => cT_neg _ _, fun _ _ _ h1 h2 => cT_le h1 h2⟩
theorem rkey_any (p : Bool) (t : Tm) (hk : p = true → pairT t = true) (v : Value) (w : World) (h : LiesT w t v) : Calls Tryd.prog 72 #[tv t v, .bool p] w (KeyEnd (kT p t) w) := by
  cases p
  · exact rkey_no t v w h
  · match t, hk rfl, h with
    | .mk k n s (u :: us), _, h => exact rkey_yes k n s u us v w h
theorem kT_nodes {p : Bool} {t : Tm} (hk : p = true → pairT t = true) (h : nodesB t = true) : nodesB (kT p t) = true := by
  cases p
  · exact h
  · exact key_nodes (hk rfl) h
theorem OwnV.mono {w : World} {b b2 : Nat} {v : Value} {l : List PV} (h : OwnV w b v l) (hb : b2 ≤ b) : OwnV w b2 v l := by
  rcases h with h | ⟨h0, g, cap, pad, h1, h2, h3, h4⟩
  · exact .inl h
  · exact .inr ⟨h0, g, cap, pad, h1, h2, by omega, h4⟩
theorem sub_bits (n : Nat) (h : n ≤ 1000000) : IntKind.i64.wrap (n : Int) = (n : Int) := IntWalk.i64_in _ (by omega)
/-- The cells of a boxed term. -/
def BoxT (w : World) (g : Nat) (t : Tm) (va : Option Addr) (vc : Nat) : Prop := BoxIn w g t va vc

set_option maxRecDepth 4000 in
set_option maxHeartbeats 8000000 in
theorem insert_row (p : Bool) (b off n cap : Nat) (l : List PV) (t : Tm) (v : Value) (w : World) (hn : l.length = n) (hn0 : 0 < n) (hn2 : n ≤ 1000) (hcap : n ≤ cap) (hrow : RowIn w b off l) (hl : ∀ q ∈ l, LiesT w q.1 q.2 ∧ nodesB q.1 = true ∧ (p = true → pairT q.1 = true)) (ht : LiesT w t v) (htn : nodesB t = true) (htk : p = true → pairT t = true) (hs : SortedC (cfP p) l) :
    Calls Tryd.prog 48 #[.slice (some ⟨b, off, none⟩) n cap, tv t v, .bool p] w (OwnE (insL (cfP p) (t, v) l) w) := by
  obtain ⟨va, vc, rfl⟩ : ∃ a c, v = .slice a t.args.length c := ht.slice
  have HN := Lib.hid hn
  have HL := Lib.hid hl
  have HR := Lib.hid hrow
  have HT := Lib.hid ht
  have HTN := Lib.hid htn
  have HTK := Lib.hid htk
  have HSO := Lib.hid hs
  have HB0 : Hid (Below w.heap.size w (w.alloc (.cells #[.int .i64 t.kind, .int .i64 t.num, .string t.name, .slice va t.args.length vc] 24))) := (Below.refl _ _).alloc (Nat.le_refl _) _
  have HX0 : Hid (BoxIn (w.alloc (.cells #[.int .i64 t.kind, .int .i64 t.num, .string t.name, .slice va t.args.length vc] 24)) w.heap.size t va vc) := Lib.hid ⟨by rw [cell_of_row _ _ _ _ _ _ (heap_alloc_new _ _)]; rfl, by rw [cell_of_row _ _ _ _ _ _ (heap_alloc_new _ _)]; rfl, by rw [cell_of_row _ _ _ _ _ _ (heap_alloc_new _ _)]; rfl, by rw [cell_of_row _ _ _ _ _ _ (heap_alloc_new _ _)]; rfl⟩
  have HZ0 : Hid (w.heap.size < (w.alloc (.cells #[.int .i64 t.kind, .int .i64 t.num, .string t.name, .slice va t.args.length vc] 24)).heap.size) := Lib.hid (by simp)
  clear hn hl hrow ht htn htk hs
  simp only [tv]
  go_enter Tryd.func48, Tryd.ntmps48
  go_wp2_with fail
  go_loopw [7] (fun vi wr => ∃ i : Nat, i ≤ n ∧ vi = .int .i64 i ∧ Hid (Below w.heap.size w wr) ∧ Hid (w.heap.size < wr.heap.size) ∧ Hid (BoxIn wr w.heap.size t va vc) ∧ Hid (∀ j, i ≤ j → j < l.length → cfP p (t, .slice va t.args.length vc) (l.getD j dflt) < 0)) (fun vi _ => (intOf vi).toNat)
  case atStart => exact ⟨n, by omega, rfl, HB0, HZ0, HX0, Lib.hid (fun j h1 h2 => by have := HN.out; omega)⟩
  case round =>
    obtain ⟨i, hi, rfl, hb, hz, hbx, hI⟩ := hrel
    by_cases hlt : 0 < i
    · obtain ⟨y, hy⟩ : ∃ y : Nat, y = i - 1 := ⟨_, rfl⟩
      have hY : (i : Int) - 1 = (y : Int) := by omega
      have hyn : y < n := by omega
      have hyi : y < i := by omega
      have HY := Lib.hid hy
      clear hy
      have hk0 : y < l.length := by have := HN.out; omega
      have cp := (HR.out.below hb.out).at y hk0
      have mp := HL.out _ (List.getElem_mem hk0)
      have gp := getD_at l y hk0
      obtain ⟨pp, hpe⟩ : ∃ q, l[y] = q := ⟨_, rfl⟩
      rw [hpe] at cp mp gp
      obtain ⟨tp, vp⟩ := pp
      obtain ⟨pa, pc, ev⟩ := mp.1.slice
      obtain rfl : vp = .slice pa tp.args.length pc := ev
      obtain ⟨z, hz0⟩ : ∃ z, cT (kT p tp) (kT p t) = z := ⟨_, rfl⟩
      have HC1 : Hid (∀ w', Below wr.heap.size wr w' → Calls Tryd.prog 72 #[tv tp (.slice pa tp.args.length pc), .bool p] w' (KeyEnd (kT p tp) w')) := fun w' h => rkey_any p tp mp.2.2 _ w' (mp.1.below (hb.out.trans (h.mono hb.out.size)))
      have HC2 : Hid (∀ w', Below wr.heap.size wr w' → Calls Tryd.prog 72 #[tv t (.slice va t.args.length vc), .bool p] w' (KeyEnd (kT p t) w')) := fun w' h => rkey_any p t HTK.out _ w' (HT.out.below (hb.out.trans (h.mono hb.out.size)))
      have HC3 : Hid (∀ q r w', LiesT w' (kT p tp) q → LiesT w' (kT p t) r → Calls Tryd.prog 38 #[tv (kT p tp) q, tv (kT p t) r] w' fun e w'' => e = .returned (.int .i64 z) ∧ Below w'.heap.size w' w'') := fun q r w' h1 h2 => by
        rw [← hz0]
        exact compR_any _ _ _ _ _ h1 h2 (kT_nodes mp.2.2 mp.2.1) (kT_nodes HTK.out HTN.out)
      have HG : Hid (cfP p (t, .slice va t.args.length vc) (l.getD y dflt) = -z) := by
        show _ = _
        rw [gp, ← hz0]; exact cT_neg _ _
      obtain ⟨p0, p1, p2, p3⟩ := cp
      obtain ⟨q0, q1, q2, q3⟩ := hbx.out
      clear mp gp hpe hz0 hk0
      have hS0 : Below wr.heap.size wr wr.drew := (Below.refl _ _).drew
      have wy := sub_bits y (by omega)
      have d0 : decide ((0 : Int) < (i : Int)) = true := by simp; omega
      have d0' : (0 : Int) < (i : Int) := by omega
      have b1 : (y : Int) < (n : Int) := by omega
      have HS : Hid (∀ w', Below wr.heap.size wr w' → (fun w' => Below wr.heap.size wr w' ∧ w'.cell? ⟨b, off + y * 4, none⟩ = some (.int .i64 tp.kind) ∧ w'.cell? ⟨b, off + y * 4 + 1, none⟩ = some (.int .i64 tp.num) ∧ w'.cell? ⟨b, off + y * 4 + 2, none⟩ = some (.string tp.name) ∧ w'.cell? ⟨b, off + y * 4 + 3, none⟩ = some (.slice pa tp.args.length pc) ∧ w'.cell? ⟨w.heap.size, 0, none⟩ = some (.int .i64 t.kind) ∧ w'.cell? ⟨w.heap.size, 1, none⟩ = some (.int .i64 t.num) ∧ w'.cell? ⟨w.heap.size, 2, none⟩ = some (.string t.name) ∧ w'.cell? ⟨w.heap.size, 3, none⟩ = some (.slice va t.args.length vc)) w') := fun w' h => ⟨h, cell_below h _ _ p0, cell_below h _ _ p1, cell_below h _ _ p2, cell_below h _ _ p3, cell_below h _ _ q0, cell_below h _ _ q1, cell_below h _ _ q2, cell_below h _ _ q3⟩
      by_cases hzn : 0 < z
      · have e1 : decide (0 < z) = true := by simpa using hzn
        go_wp2_with fail
        go_region_held3 (fun w' => Below wr.heap.size wr w' ∧ w'.cell? ⟨b, off + y * 4, none⟩ = some (.int .i64 tp.kind) ∧ w'.cell? ⟨b, off + y * 4 + 1, none⟩ = some (.int .i64 tp.num) ∧ w'.cell? ⟨b, off + y * 4 + 2, none⟩ = some (.string tp.name) ∧ w'.cell? ⟨b, off + y * 4 + 3, none⟩ = some (.slice pa tp.args.length pc) ∧ w'.cell? ⟨w.heap.size, 0, none⟩ = some (.int .i64 t.kind) ∧ w'.cell? ⟨w.heap.size, 1, none⟩ = some (.int .i64 t.num) ∧ w'.cell? ⟨w.heap.size, 2, none⟩ = some (.string t.name) ∧ w'.cell? ⟨w.heap.size, 3, none⟩ = some (.slice va t.args.length vc))
          (first | exact HS.out _ h5 | exact HS.out _ hS0 | assumption | go_keep)
          (first
            | (go_at_call 72; ((with_reducible refine (HC1.out _ (by assumption : Below wr.heap.size wr _)).mono ?_); rintro e w3 ⟨u3, rfl, hu3, hb3⟩; have HU3 := Lib.hid hu3; clear hu3; have h5 : Below wr.heap.size wr w3 := Below.trans (by assumption : Below wr.heap.size wr _) (hb3.mono (Below.size (by assumption : Below wr.heap.size wr _)))))
            | (go_at_call 72; ((with_reducible refine (HC2.out _ (by assumption : Below wr.heap.size wr _)).mono ?_); rintro e w4 ⟨u4, rfl, hu4, hb4⟩; have HU4 := Lib.hid hu4; have HU5 := Lib.hid (HU3.out.below hb4); clear hu4 HU3; have h5 : Below wr.heap.size wr w4 := Below.trans (by assumption : Below wr.heap.size wr _) (hb4.mono (Below.size (by assumption : Below wr.heap.size wr _)))))
            | (go_at_call 38; ((with_reducible refine (HC3.out _ _ _ HU5.out HU4.out).mono ?_); rintro e w6 ⟨rfl, hb6⟩; have h5 : Below wr.heap.size wr w6 := Below.trans (by assumption : Below wr.heap.size wr _) (hb6.mono (Below.size (by assumption : Below wr.heap.size wr _))))))
        have H5 := Lib.hid h5
        have BX5 : Hid (BoxIn w6 w.heap.size t va vc) := Lib.hid ⟨cell_below h5 _ _ q0, cell_below h5 _ _ q1, cell_below h5 _ _ q2, cell_below h5 _ _ q3⟩
        clear p0 p1 p2 p3 q0 q1 q2 q3 h5 hS0 HS
        go_wp2_with fail
        go_roundw
        case rel =>
          refine ⟨y, by omega, by go_num, Lib.hid (hb.out.trans (H5.out.mono hb.out.size)), Lib.hid (by have := H5.out.size; have := hz.out; omega), BX5, Lib.hid (fun j h1 h2 => ?_)⟩
          by_cases e : j = y
          · subst e; rw [HG.out]; omega
          · exact hI.out j (by have := HY.out; omega) h2
        case measure => simp [intOf]; omega
      · have e1 : decide (0 < z) = false := by simpa using hzn
        go_wp2_with fail
        go_region_held3 (fun w' => Below wr.heap.size wr w' ∧ w'.cell? ⟨b, off + y * 4, none⟩ = some (.int .i64 tp.kind) ∧ w'.cell? ⟨b, off + y * 4 + 1, none⟩ = some (.int .i64 tp.num) ∧ w'.cell? ⟨b, off + y * 4 + 2, none⟩ = some (.string tp.name) ∧ w'.cell? ⟨b, off + y * 4 + 3, none⟩ = some (.slice pa tp.args.length pc) ∧ w'.cell? ⟨w.heap.size, 0, none⟩ = some (.int .i64 t.kind) ∧ w'.cell? ⟨w.heap.size, 1, none⟩ = some (.int .i64 t.num) ∧ w'.cell? ⟨w.heap.size, 2, none⟩ = some (.string t.name) ∧ w'.cell? ⟨w.heap.size, 3, none⟩ = some (.slice va t.args.length vc))
          (first | exact HS.out _ h5 | exact HS.out _ hS0 | assumption | go_keep)
          (first
            | (go_at_call 72; ((with_reducible refine (HC1.out _ (by assumption : Below wr.heap.size wr _)).mono ?_); rintro e w3 ⟨u3, rfl, hu3, hb3⟩; have HU3 := Lib.hid hu3; clear hu3; have h5 : Below wr.heap.size wr w3 := Below.trans (by assumption : Below wr.heap.size wr _) (hb3.mono (Below.size (by assumption : Below wr.heap.size wr _)))))
            | (go_at_call 72; ((with_reducible refine (HC2.out _ (by assumption : Below wr.heap.size wr _)).mono ?_); rintro e w4 ⟨u4, rfl, hu4, hb4⟩; have HU4 := Lib.hid hu4; have HU5 := Lib.hid (HU3.out.below hb4); clear hu4 HU3; have h5 : Below wr.heap.size wr w4 := Below.trans (by assumption : Below wr.heap.size wr _) (hb4.mono (Below.size (by assumption : Below wr.heap.size wr _)))))
            | (go_at_call 38; ((with_reducible refine (HC3.out _ _ _ HU5.out HU4.out).mono ?_); rintro e w6 ⟨rfl, hb6⟩; have h5 : Below wr.heap.size wr w6 := Below.trans (by assumption : Below wr.heap.size wr _) (hb6.mono (Below.size (by assumption : Below wr.heap.size wr _))))))
        have H5 := Lib.hid h5
        have BX5 : Hid (BoxIn w6 w.heap.size t va vc) := Lib.hid ⟨cell_below h5 _ _ q0, cell_below h5 _ _ q1, cell_below h5 _ _ q2, cell_below h5 _ _ q3⟩
        clear p0 p1 p2 p3 q0 q1 q2 q3 h5 hS0 HS
        have HIN : Hid (insL (cfP p) (t, .slice va t.args.length vc) l = l.take i ++ (t, .slice va t.args.length vc) :: l.drop i) := Lib.hid (insL_at (cfP_ord p) _ l HSO.out i (by have := HN.out; omega) hI.out (.inr (by rw [← HY.out, HG.out]; omega)))
        have HBB : Hid (Below w.heap.size w w6) := Lib.hid (hb.out.trans (H5.out.mono hb.out.size))
        have BX6 : Hid (BoxIn w6 w.heap.size t va vc) := Lib.hid BX5.out
        clear d0 d0' b1 wy hY e1 BX5
        have HA1 : Hid (∀ j u, (flat (l.take i))[j]? = some u → w6.cell? (Addr.add ⟨b, off, none⟩ j) = some u) := fun j u hj => by
          rw [Addr.add_lit]
          have h := RowIn.sub (HR.out.below HBB.out) 0 i j u (by rw [List.drop_zero]; exact hj)
          simpa using h
        have HVL : Hid (∀ q ∈ l, ∃ a c, q.2 = .slice a q.1.args.length c) := fun q hq => (HL.out q hq).1.slice
        have HV1 : Hid (∀ q ∈ l.take i, ∃ a c, q.2 = .slice a q.1.args.length c) := fun q hq => HVL.out q (List.mem_of_mem_take hq)
        have HV2 : Hid (∀ q ∈ [(t, (.slice va t.args.length vc : Value))], ∃ a c, q.2 = .slice a q.1.args.length c) := fun q hq => by obtain rfl := List.mem_singleton.1 hq; exact ⟨_, _, rfl⟩
        have HV3 : Hid (∀ q ∈ l.drop i, ∃ a c, q.2 = .slice a q.1.args.length c) := fun q hq => HVL.out q (List.mem_of_mem_drop hq)
        have hlt1 : (l.take i).length = i := by rw [List.length_take]; have := HN.out; omega
        have hlt3 : (l.drop i).length = n - i := by rw [List.length_drop]; have := HN.out; omega
        have HO0 : Hid (w6.ownsRow w6.heap.size 24 4 (.slice none 0 0) 0 (flat [])) := Lib.hid (own_none _ _)
        by_cases hic : i < cap
        · have HL1 := Lib.hid hlt1
          have HL3 := Lib.hid hlt3
          have hic1 : ¬ cap = i := by omega
          have hic2 : ¬ i = cap := by omega
          clear hlt1 hlt3 hb hz hbx hI
          go_wp2_with (first
            | (at_builtin; (with_reducible refine at_slot 33 ?_); refine wp_app rfl _ _ rfl _ w6.heap.size 0 (.slice none 0 0) [] (l.take i) rfl HO0 ⟨b, off, none⟩ i cap rfl HL1.out HA1 HV1 (by omega) (Nat.le_refl _) ?_; intro v1 w11 hown1 hb1 hz1; obtain ⟨x0, x1, x2, x3⟩ := BX6.out.below hb1.out; have HO1 := Lib.hid (hown1.out.alloc (.cells #[.int .i64 t.kind, .int .i64 t.num, .string t.name, .slice va t.args.length vc] 24)); have HW2 := Lib.hid (hb1.out.alloc hb1.out.size (.cells #[.int .i64 t.kind, .int .i64 t.num, .string t.name, .slice va t.args.length vc] 24)); have HRN : Hid (∀ q u, (flat [(t, (.slice va t.args.length vc : Value))])[q]? = some u → (w11.alloc (.cells #[.int .i64 t.kind, .int .i64 t.num, .string t.name, .slice va t.args.length vc] 24)).cell? (Addr.add ⟨w11.heap.size, 0, none⟩ q) = some u) := (fun q u hq => (by rw [Addr.add_lit]; exact row_new (w := w11) #[.int .i64 t.kind, .int .i64 t.num, .string t.name, .slice va t.args.length vc] [(t, (.slice va t.args.length vc : Value))] 24 rfl q u hq)))
            | (at_builtin; (with_reducible refine at_slot 37 ?_); refine wp_app rfl _ _ rfl _ w6.heap.size (0 + i) v1 ([] ++ l.take i) [(t, (.slice va t.args.length vc : Value))] rfl HO1 ⟨w11.heap.size, 0, none⟩ 1 1 rfl rfl HRN HV2 (by omega) HW2.out.size ?_; intro v2 w12 hown2 hb2 hz2; have HB3 := Lib.hid (HBB.out.trans ((HW2.out.trans hb2.out).mono HBB.out.size)); have HA3 : Hid (∀ j u, (flat (l.drop i))[j]? = some u → w12.cell? (Addr.add ⟨b, off + i * 4, none⟩ j) = some u) := (fun j u hj => (by rw [Addr.add_lit]; exact RowIn.sub (HR.out.below HB3.out) i l.length j u (by rw [List.take_of_length_le (by rw [List.length_drop]; omega)]; exact hj))))
            | (at_builtin; (with_reducible refine at_slot 42 ?_); refine wp_app rfl _ _ rfl _ w6.heap.size (0 + i + 1) v2 (([] ++ l.take i) ++ [(t, (.slice va t.args.length vc : Value))]) (l.drop i) rfl hown2 ⟨b, off + i * 4, none⟩ (n - i) (cap - i) rfl HL3.out HA3 HV3 (by omega) ((HW2.out.trans hb2.out).size) ?_; intro v3 w13 hown3 hb3 hz3))
          go_ret
          refine ⟨v3, rfl, ?_, HB3.out.trans (hb3.out.mono HBB.out.size)⟩
          rw [HIN.out]
          refine OwnV.mono (OwnV.of_own (n := 0 + i + 1 + (n - i)) ?_ ?_ (fun h => by omega)) HBB.out.size
          · have h := hown3.out
            simpa using h
          · simp; have := HN.out; omega
        · obtain rfl : cap = i := by omega
          obtain rfl : n = cap := by omega
          have HL1 := Lib.hid hlt1
          have HL3 := Lib.hid (hlt3.trans (Nat.sub_self _))
          have HDP : Hid (l.drop n = []) := Lib.hid (List.drop_eq_nil_iff.2 (by have := HN.out; omega))
          clear hlt1 hlt3 hb hz hbx hI
          go_wp2_with (first
            | (at_builtin; (with_reducible refine at_slot 33 ?_); refine wp_app rfl _ _ rfl _ w6.heap.size 0 (.slice none 0 0) [] (l.take n) rfl HO0 ⟨b, off, none⟩ n n rfl HL1.out HA1 HV1 (by omega) (Nat.le_refl _) ?_; intro v1 w11 hown1 hb1 hz1; obtain ⟨x0, x1, x2, x3⟩ := BX6.out.below hb1.out; have HO1 := Lib.hid (hown1.out.alloc (.cells #[.int .i64 t.kind, .int .i64 t.num, .string t.name, .slice va t.args.length vc] 24)); have HW2 := Lib.hid (hb1.out.alloc hb1.out.size (.cells #[.int .i64 t.kind, .int .i64 t.num, .string t.name, .slice va t.args.length vc] 24)); have HRN : Hid (∀ q u, (flat [(t, (.slice va t.args.length vc : Value))])[q]? = some u → (w11.alloc (.cells #[.int .i64 t.kind, .int .i64 t.num, .string t.name, .slice va t.args.length vc] 24)).cell? (Addr.add ⟨w11.heap.size, 0, none⟩ q) = some u) := (fun q u hq => (by rw [Addr.add_lit]; exact row_new (w := w11) #[.int .i64 t.kind, .int .i64 t.num, .string t.name, .slice va t.args.length vc] [(t, (.slice va t.args.length vc : Value))] 24 rfl q u hq)))
            | (at_builtin; (with_reducible refine at_slot 37 ?_); refine wp_app rfl _ _ rfl _ w6.heap.size (0 + n) v1 ([] ++ l.take n) [(t, (.slice va t.args.length vc : Value))] rfl HO1 ⟨w11.heap.size, 0, none⟩ 1 1 rfl rfl HRN HV2 (by omega) HW2.out.size ?_; intro v2 w12 hown2 hb2 hz2; have HB3 := Lib.hid (HBB.out.trans ((HW2.out.trans hb2.out).mono HBB.out.size)); have HA3 : Hid (∀ j u, (flat (l.drop n))[j]? = some u → w12.cell? (Addr.add ⟨b, off, none⟩ j) = some u) := (fun j u hj => (by rw [HDP.out] at hj; simp [flat] at hj)))
            | (at_builtin; (with_reducible refine at_slot 42 ?_); refine wp_app rfl _ _ rfl _ w6.heap.size (0 + n + 1) v2 (([] ++ l.take n) ++ [(t, (.slice va t.args.length vc : Value))]) (l.drop n) rfl hown2 ⟨b, off, none⟩ 0 0 rfl HL3.out HA3 HV3 (by omega) ((HW2.out.trans hb2.out).size) ?_; intro v3 w13 hown3 hb3 hz3))
          go_ret
          refine ⟨v3, rfl, ?_, HB3.out.trans (hb3.out.mono HBB.out.size)⟩
          rw [HIN.out]
          refine OwnV.mono (OwnV.of_own (n := 0 + n + 1 + 0) ?_ ?_ (fun h => by omega)) HBB.out.size
          · have h := hown3.out
            simpa using h
          · simp; have := HN.out; omega

    · obtain rfl : i = 0 := by omega
      have d0 : decide ((0 : Int) < ((0 : Nat) : Int)) = false := by simp
      have HIN : Hid (insL (cfP p) (t, .slice va t.args.length vc) l = l.take 0 ++ (t, .slice va t.args.length vc) :: l.drop 0) := Lib.hid (insL_at (cfP_ord p) _ l HSO.out 0 (by omega) hI.out (.inl rfl))
      obtain ⟨q0, q1, q2, q3⟩ := hbx.out
      have HVL : Hid (∀ q ∈ l, ∃ a c, q.2 = .slice a q.1.args.length c) := fun q hq => (HL.out q hq).1.slice
      have HV1 : Hid (∀ q ∈ l.take 0, ∃ a c, q.2 = .slice a q.1.args.length c) := fun q hq => HVL.out q (List.mem_of_mem_take hq)
      have HV2 : Hid (∀ q ∈ [(t, (.slice va t.args.length vc : Value))], ∃ a c, q.2 = .slice a q.1.args.length c) := fun q hq => by obtain rfl := List.mem_singleton.1 hq; exact ⟨_, _, rfl⟩
      have HV3 : Hid (∀ q ∈ l.drop 0, ∃ a c, q.2 = .slice a q.1.args.length c) := fun q hq => HVL.out q (List.mem_of_mem_drop hq)
      have hlt1 : (l.take 0).length = 0 := by rw [List.length_take]; have := HN.out; omega
      have hlt3 : (l.drop 0).length = n - 0 := by rw [List.length_drop]; have := HN.out; omega
      have HL3 := Lib.hid (hlt3.trans (Nat.sub_zero n))
      have HO1 : ∀ q, Hid (((wr.drewN q).alloc (.cells #[.int .i64 t.kind, .int .i64 t.num, .string t.name, .slice va t.args.length vc] 24)).ownsRow wr.heap.size 24 4 (.slice none 0 0) 0 (flat [])) := fun q => Lib.hid (own_none _ _)
      have HW2 : ∀ q, Hid (Below wr.heap.size wr ((wr.drewN q).alloc (.cells #[.int .i64 t.kind, .int .i64 t.num, .string t.name, .slice va t.args.length vc] 24))) := fun q => Lib.hid ((below_drewN (Below.refl _ _) q).alloc (Nat.le_refl _) _)
      have HRN : ∀ q, Hid (∀ k u, (flat [(t, (.slice va t.args.length vc : Value))])[k]? = some u → ((wr.drewN q).alloc (.cells #[.int .i64 t.kind, .int .i64 t.num, .string t.name, .slice va t.args.length vc] 24)).cell? (Addr.add ⟨wr.heap.size, 0, none⟩ k) = some u) := fun q k u hq => by rw [Addr.add_lit]; exact row_new (w := wr.drewN q) #[.int .i64 t.kind, .int .i64 t.num, .string t.name, .slice va t.args.length vc] [(t, (.slice va t.args.length vc : Value))] 24 rfl k u hq
      clear hlt1 hlt3 HV1
      go_wp2_with fail
      go_quiet (fail)
      go_wp2_with (first
        | (at_builtin; (with_reducible refine at_slot 37 ?_); refine wp_app rfl _ _ rfl _ wr.heap.size 0 (.slice none 0 0) ([]) [(t, (.slice va t.args.length vc : Value))] rfl (HO1 _) ⟨wr.heap.size, 0, none⟩ 1 1 rfl rfl (HRN _) HV2 (by omega) (HW2 _).out.size ?_; intro v2 w12 hown2 hb2 hz2; have HB3 := Lib.hid (hb.out.trans (((HW2 _).out.trans hb2.out).mono hb.out.size)); have HA3 : Hid (∀ j u, (flat (l.drop 0))[j]? = some u → w12.cell? (Addr.add ⟨b, off, none⟩ j) = some u) := (fun j u hj => (by rw [Addr.add_lit]; exact HR.out.below HB3.out j u (by simpa using hj))))
        | (at_builtin; (with_reducible refine at_slot 42 ?_); refine wp_app rfl _ _ rfl _ wr.heap.size (0 + 1) v2 ([] ++ [(t, (.slice va t.args.length vc : Value))]) (l.drop 0) rfl hown2 ⟨b, off, none⟩ n cap rfl HL3.out HA3 HV3 (by omega) (((HW2 _).out.trans hb2.out).size) ?_; intro v3 w13 hown3 hb3 hz3))
      go_ret
      refine ⟨v3, rfl, ?_, HB3.out.trans (hb3.out.mono hb.out.size)⟩
      rw [HIN.out]
      refine OwnV.mono (OwnV.of_own (n := 0 + 1 + n) ?_ ?_ (fun h => by omega)) hb.out.size
      · have h := hown3.out
        simpa using h
      · simp; have := HN.out; omega

end Go.Proofs.YtehnhjhflaljhaaDoor

/- The specification's Stable and Keys. -/
namespace Go.Proofs.YtehnhjhflaljhaaDoor
open Go.RowKit Go.Proofs.HT

set_option maxHeartbeats 2000000 in
theorem insert_nil (p : Bool) (t : Tm) (v : Value) (w : World) (ht : LiesT w t v) : Calls Tryd.prog 48 #[.slice none 0 0, tv t v, .bool p] w (OwnE [(t, v)] w) := by
  obtain ⟨va, vc, rfl⟩ : ∃ a c, v = .slice a t.args.length c := ht.slice
  have HV2 : Hid (∀ q ∈ [(t, (.slice va t.args.length vc : Value))], ∃ a c, q.2 = .slice a q.1.args.length c) := fun q hq => by obtain rfl := List.mem_singleton.1 hq; exact ⟨_, _, rfl⟩
  have HO1 : ∀ q, Hid ((((w.alloc (.cells #[.int .i64 t.kind, .int .i64 t.num, .string t.name, .slice va t.args.length vc] 24)).drewN q).alloc (.cells #[.int .i64 t.kind, .int .i64 t.num, .string t.name, .slice va t.args.length vc] 24)).ownsRow w.heap.size 24 4 (.slice none 0 0) 0 (flat [])) := fun q => Lib.hid (own_none _ _)
  have HW2 : ∀ q, Hid (Below w.heap.size w (((w.alloc (.cells #[.int .i64 t.kind, .int .i64 t.num, .string t.name, .slice va t.args.length vc] 24)).drewN q).alloc (.cells #[.int .i64 t.kind, .int .i64 t.num, .string t.name, .slice va t.args.length vc] 24))) := fun q => Lib.hid ((below_drewN ((Below.refl _ _).alloc (Nat.le_refl _) _) q).alloc (by simp [World.drewN]) _)
  have HRN : ∀ q, Hid (∀ k u, (flat [(t, (.slice va t.args.length vc : Value))])[k]? = some u → (((w.alloc (.cells #[.int .i64 t.kind, .int .i64 t.num, .string t.name, .slice va t.args.length vc] 24)).drewN q).alloc (.cells #[.int .i64 t.kind, .int .i64 t.num, .string t.name, .slice va t.args.length vc] 24)).cell? (Addr.add ⟨w.heap.size + 1, 0, none⟩ k) = some u) := fun q k u hq => by
    rw [Addr.add_lit]
    have h := row_new (w := (w.alloc (.cells #[.int .i64 t.kind, .int .i64 t.num, .string t.name, .slice va t.args.length vc] 24)).drewN q) #[.int .i64 t.kind, .int .i64 t.num, .string t.name, .slice va t.args.length vc] [(t, (.slice va t.args.length vc : Value))] 24 rfl k u hq
    simpa [World.drewN] using h
  simp only [tv]
  clear ht
  go_enter Tryd.func48, Tryd.ntmps48
  go_wp2_with fail
  refine wp_loop_rounds 1 ?_
  rw [rounds_succ]
  go_wp2_with fail
  go_quiet (fail)
  go_wp2_with (first
    | (at_builtin; (with_reducible refine at_slot 37 ?_); refine wp_app rfl _ _ rfl _ w.heap.size 0 (.slice none 0 0) [] [(t, (.slice va t.args.length vc : Value))] rfl (HO1 _) ⟨w.heap.size + 1, 0, none⟩ 1 1 rfl rfl (HRN _) HV2 (by omega) (HW2 _).out.size ?_; intro v2 w12 hown2 hb2 hz2; have HB3 := Lib.hid ((HW2 _).out.trans hb2.out))
    | (at_builtin; (with_reducible refine at_slot 42 ?_); refine wpList_append_own_none rfl _ _ 22 rfl w.heap.size 24 _ 4 under22 (info_parts info24).choose_spec.1 v2 (0 + 1) _ rfl hown2.out rfl ?_))
  go_ret
  exact ⟨v2, rfl, OwnV.of_own (n := 0 + 1) (by simpa using hown2.out) rfl (fun h => by omega), HB3.out⟩
theorem insert_v (p : Bool) (v : Value) (l : List PV) (t : Tm) (x : Value) (w : World) (hv : RowV w v l) (hn2 : l.length ≤ 1000) (hl : ∀ q ∈ l, LiesT w q.1 q.2 ∧ nodesB q.1 = true ∧ (p = true → pairT q.1 = true)) (ht : LiesT w t x) (htn : nodesB t = true) (htk : p = true → pairT t = true) (hs : SortedC (cfP p) l) :
    Calls Tryd.prog 48 #[v, tv t x, .bool p] w (OwnE (insL (cfP p) (t, x) l) w) := by
  rcases hv with ⟨rfl, rfl⟩ | ⟨h0, b, off, cap, rfl, h2, h3⟩
  · exact insert_nil p t x w ht
  · exact insert_row p b off _ cap l t x w rfl h0 hn2 h2 h3 hl ht htn htk hs
/-- A row of the call's own, and an error's number. -/
def ResO (l : List PV) (c : Int) (w : World) (e : Ending) (w' : World) : Prop := ∃ v, e = .returned (.tuple #[v, .int .i64 c]) ∧ OwnV w' w.heap.size v l ∧ Below w.heap.size w w'

set_option maxHeartbeats 4000000 in
theorem rstable_row (b off n cap : Nat) (l : List PV) (w : World) (hn : l.length = n) (hn2 : n ≤ 1000) (hcap : n ≤ cap) (hrow : RowIn w b off l) (hl : ∀ p ∈ l, LiesT w p.1 p.2) (hv : (l.all fun p => validB p.1) = true) :
    Calls Tryd.prog 20 #[.slice (some ⟨b, off, none⟩) n cap] w (ResO (stL (cfP false) l) 0 w) := by
  have A1 := Lib.hid (rvalid_row b off n cap l w hn (by omega) hcap hrow hl)
  rw [hv] at A1
  have HN := Lib.hid hn
  have HR := Lib.hid hrow
  have HL : Hid (∀ p ∈ l, LiesT w p.1 p.2 ∧ nodesB p.1 = true ∧ True) := fun p hp => ⟨hl p hp, val_nodes (List.all_eq_true.1 hv p hp), trivial⟩
  clear hn hrow hl hv
  go_enter Tryd.func20, Tryd.ntmps20
  go_wp2_with fail
  refine A1.out.mono ?_
  rintro e w1 ⟨rfl, hb1⟩
  have HB1 := Lib.hid hb1
  clear hb1
  go_wp2_with fail
  go_loopw [4, 5] (fun vq vi wr => ∃ (j : Nat) (vo : Value), vo = vq ∧ j ≤ n ∧ vi = .int .i64 j ∧ Hid (OwnV wr w.heap.size vo (stL (cfP false) (l.take j))) ∧ Hid (Below w.heap.size w wr)) (fun _ vi _ => n - (intOf vi).toNat)
  case atStart => exact ⟨0, _, rfl, by omega, rfl, Lib.hid (.inl ⟨rfl, rfl⟩), HB1⟩
  case round =>
    obtain ⟨j, vo, rfl, hj, rfl, hown, hb⟩ := hrel
    by_cases hlt : j < n
    · have hjl : j < l.length := by have := HN.out; omega
      obtain ⟨d0, d1, d2, d3⟩ := (HR.out.below hb.out).at j hjl
      obtain ⟨pp, hpe⟩ : ∃ q, l[j] = q := ⟨_, rfl⟩
      have mp := HL.out _ (List.getElem_mem hjl)
      have HTK : Hid (l.take (j + 1) = l.take j ++ [l[j]]) := by
        show _ = _
        rw [List.take_succ_eq_append_getElem hjl]
      rw [hpe] at d0 d1 d2 d3 mp HTK
      obtain ⟨tp, vp⟩ := pp
      obtain ⟨pa, pc, ev⟩ := mp.1.slice
      obtain rfl : vp = .slice pa tp.args.length pc := ev
      have HM := Lib.hid mp
      clear mp hpe hjl
      have hlen : (stL (cfP false) (l.take j)).length ≤ 1000 := by rw [st_length, List.length_take]; omega
      have HC := Lib.hid (insert_v false vo (stL (cfP false) (l.take j)) tp (.slice pa tp.args.length pc) wr hown.out.row hlen (fun q hq => (fun hq2 => ⟨(HL.out q hq2).1.below hb.out, (HL.out q hq2).2.1, fun h => by cases h⟩) (List.mem_of_mem_take (st_mem.1 hq))) (HM.out.1.below hb.out) HM.out.2.1 (fun h => by cases h) (st_sorted (cfP_ord false) _))
      have HST : Hid (stL (cfP false) (l.take (j + 1)) = insL (cfP false) (tp, .slice pa tp.args.length pc) (stL (cfP false) (l.take j))) := by
        show _ = _
        rw [HTK.out]; exact foldI_snoc _ _ _
      clear hown hlen
      go_wp2_with (first | (go_at_call 48; refine HC.out.mono ?_; rintro e w2 ⟨v2, rfl, ho2, hb2⟩))
      go_roundw
      case rel => exact ⟨j + 1, v2, rfl, by omega, by go_num, Lib.hid (by rw [HST.out]; exact ho2.mono hb.out.size), Lib.hid (hb.out.trans (hb2.mono hb.out.size))⟩
      case measure => simp [intOf]; omega
    · have HE : Hid (j = n) := by show _ = _; omega
      go_wp2_with fail
      go_ret2
      exact ⟨vo, rfl, by have h := hown.out; rw [List.take_of_length_le (by have := HN.out; have := HE.out; omega)] at h; exact h, hb.out⟩

theorem rstable_bad (v : Value) (l : List PV) (w : World) (h : RowV w v l) (hn2 : l.length ≤ 1000000) (hl : ∀ p ∈ l, LiesT w p.1 p.2) (hv : (l.all fun p => validB p.1) = false) : Calls Tryd.prog 20 #[v] w (NoneE 1 w) := by
  have A1 := Lib.hid (rvalid_v v l w h hn2 hl)
  rw [hv] at A1
  clear h hn2 hl hv
  go_enter Tryd.func20, Tryd.ntmps20
  go_wp2_with fail
  refine A1.out.mono ?_
  rintro e w1 ⟨rfl, hb1⟩
  go_wp2_with fail
  go_ret2
  exact ⟨rfl, hb1⟩
theorem rstable_nil (w : World) : Calls Tryd.prog 20 #[.slice none 0 0] w (ResO [] 0 w) := by
  have A1 := Lib.hid (rvalid_v (.slice none 0 0) [] w (.inl ⟨rfl, rfl⟩) (by simp) (by simp))
  rw [List.all_nil] at A1
  go_enter Tryd.func20, Tryd.ntmps20
  go_wp2_with fail
  refine A1.out.mono ?_
  rintro e w1 ⟨rfl, hb1⟩
  go_wp2_with fail
  refine wp_loop_rounds 1 ?_
  rw [rounds_succ]
  go_wp2_with fail
  go_ret2
  exact ⟨_, rfl, .inl ⟨rfl, rfl⟩, hb1⟩
theorem rstable_v (v : Value) (l : List PV) (w : World) (h : RowV w v l) (hn2 : l.length ≤ 1000) (hl : ∀ p ∈ l, LiesT w p.1 p.2) (hv : (l.all fun p => validB p.1) = true) : Calls Tryd.prog 20 #[v] w (ResO (stL (cfP false) l) 0 w) := by
  rcases h with ⟨rfl, rfl⟩ | ⟨h0, b, off, cap, rfl, h2, h3⟩
  · exact rstable_nil w
  · exact rstable_row b off _ cap l w rfl hn2 h2 h3 hl hv

end Go.Proofs.YtehnhjhflaljhaaDoor

/- The specification's Pair, Keys, Sort, Rank. -/
namespace Go.Proofs.YtehnhjhflaljhaaDoor
open Go.RowKit Go.Proofs.HT

set_option maxHeartbeats 2000000 in
theorem rpair_any (t : Tm) (v : Value) (w : World) (h : LiesT w t v) : Calls Tryd.prog 49 #[tv t v] w fun e w' => e = .returned (.bool (pairB t)) ∧ Below w.heap.size w w' := by
  obtain ⟨a, c, rfl⟩ : ∃ a c, v = .slice a t.args.length c := h.slice
  obtain ⟨q, hq⟩ : ∃ q, pairB t = q := ⟨_, rfl⟩
  obtain ⟨m, hm⟩ : ∃ m, t.args.length = m := ⟨_, rfl⟩
  have hq2 : ((t.kind == 3) && (t.name.toList == [45]) && decide (m = 2)) = q := by rw [← hm, Lib.toList_data]; exact hq
  rw [hq]
  simp only [tv]
  rw [hm]
  clear h hq hm
  obtain ⟨z, hz⟩ : ∃ z, decide (m = 2) = z := ⟨_, rfl⟩
  have h5 : ((m : Int) == 2) = z := by rw [← hz, Bool.eq_iff_iff]; simp; omega
  rw [hz] at hq2
  clear hz
  rcases Bool.eq_false_or_eq_true (t.kind == 3) with h1 | h1 <;> rcases Bool.eq_false_or_eq_true (t.name.toList == [45]) with h2 | h2 <;> cases z
  all_goals
    have hq3 := hq2
    rw [h1, h2] at hq3
    simp at hq3
    have HQ := Lib.hid hq3
    clear hq2 hq3
    go_enter Tryd.func49, Tryd.ntmps49
    go_wp2_with fail
    go_ret
    exact ⟨ret_bool (by first | exact HQ.out | (rw [← HQ.out]) | (rw [HQ.out])), (Below.refl _ _).alloc (Nat.le_refl _) _⟩

set_option maxHeartbeats 4000000 in
theorem rkeys_row (b off n cap : Nat) (l : List PV) (w : World) (hn : l.length = n) (hn2 : n ≤ 1000) (hcap : n ≤ cap) (hrow : RowIn w b off l) (hl : ∀ p ∈ l, LiesT w p.1 p.2) (hv : (l.all fun p => validB p.1) = true) (hk : (l.all fun p => pairB p.1) = true) :
    Calls Tryd.prog 21 #[.slice (some ⟨b, off, none⟩) n cap] w (ResO (stL (cfP true) l) 0 w) := by
  have A1 := Lib.hid (rvalid_row b off n cap l w hn (by omega) hcap hrow hl)
  rw [hv] at A1
  have HN := Lib.hid hn
  have HR := Lib.hid hrow
  have HL : Hid (∀ p ∈ l, LiesT w p.1 p.2 ∧ nodesB p.1 = true ∧ pairB p.1 = true) := fun p hp => ⟨hl p hp, val_nodes (List.all_eq_true.1 hv p hp), List.all_eq_true.1 hk p hp⟩
  clear hn hrow hl hv hk
  go_enter Tryd.func21, Tryd.ntmps21
  go_wp2_with fail
  refine A1.out.mono ?_
  rintro e w1 ⟨rfl, hb1⟩
  have HB0 := Lib.hid hb1
  clear hb1
  go_wp2_with fail
  go_loopw [4] (fun vi wr => ∃ j : Nat, j ≤ n ∧ vi = .int .i64 j ∧ Hid (Below w.heap.size w wr)) (fun vi _ => n - (intOf vi).toNat)
  case atStart => exact ⟨0, by omega, rfl, HB0⟩
  case round =>
    obtain ⟨j, hj, rfl, hb⟩ := hrel
    by_cases hlt : j < n
    · have hjl : j < l.length := by have := HN.out; omega
      obtain ⟨d0, d1, d2, d3⟩ := (HR.out.below hb.out).at j hjl
      obtain ⟨pp, hpe⟩ : ∃ q, l[j] = q := ⟨_, rfl⟩
      have mp := HL.out _ (List.getElem_mem hjl)
      have HTK : Hid (l.take (j + 1) = l.take j ++ [l[j]]) := by
        show _ = _
        rw [List.take_succ_eq_append_getElem hjl]
      rw [hpe] at d0 d1 d2 d3 mp HTK
      obtain ⟨tp, vp⟩ := pp
      obtain ⟨pa, pc, ev⟩ := mp.1.slice
      obtain rfl : vp = .slice pa tp.args.length pc := ev
      have HM := Lib.hid mp
      clear mp hpe hjl
      have HC : Hid (∀ w, LiesT w tp (.slice pa tp.args.length pc) → Calls Tryd.prog 49 #[tv tp (.slice pa tp.args.length pc)] w fun e w' => e = .returned (.bool true) ∧ Below w.heap.size w w') := fun w h => by
        have h2 := rpair_any tp _ w h
        rw [HM.out.2.2] at h2; exact h2
      have HLW := Lib.hid (HM.out.1.below hb.out)
      go_wp2_with (first | (go_at_call 49; refine (HC.out _ HLW.out).mono ?_; rintro e w2 ⟨rfl, hb2⟩))
      go_roundw
      case rel => exact ⟨j + 1, by omega, by go_num, Lib.hid (hb.out.trans (hb2.mono hb.out.size))⟩
      case measure => simp [intOf]; omega
    · have HB1 := hb
      go_wp2_with fail
      clear hb hlt hj
      have hb := HB1
      go_loopw [5, 6] (fun vq vi wr => ∃ (j : Nat) (vo : Value), vo = vq ∧ j ≤ n ∧ vi = .int .i64 j ∧ Hid (OwnV wr w.heap.size vo (stL (cfP true) (l.take j))) ∧ Hid (Below w.heap.size w wr)) (fun _ vi _ => n - (intOf vi).toNat)
      case atStart => exact ⟨0, _, rfl, by omega, rfl, Lib.hid (.inl ⟨rfl, rfl⟩), HB1⟩
      case round =>
        clear hb
        obtain ⟨j, vo, rfl, hj, rfl, hown, hb⟩ := hrel
        by_cases hlt : j < n
        · have hjl : j < l.length := by have := HN.out; omega
          obtain ⟨d0, d1, d2, d3⟩ := (HR.out.below hb.out).at j hjl
          obtain ⟨pp, hpe⟩ : ∃ q, l[j] = q := ⟨_, rfl⟩
          have mp := HL.out _ (List.getElem_mem hjl)
          have HTK : Hid (l.take (j + 1) = l.take j ++ [l[j]]) := by
            show _ = _
            rw [List.take_succ_eq_append_getElem hjl]
          rw [hpe] at d0 d1 d2 d3 mp HTK
          obtain ⟨tp, vp⟩ := pp
          obtain ⟨pa, pc, ev⟩ := mp.1.slice
          obtain rfl : vp = .slice pa tp.args.length pc := ev
          have HM := Lib.hid mp
          clear mp hpe hjl
          have hlen : (stL (cfP true) (l.take j)).length ≤ 1000 := by rw [st_length, List.length_take]; omega
          have HC := Lib.hid (insert_v true vo (stL (cfP true) (l.take j)) tp (.slice pa tp.args.length pc) wr hown.out.row hlen (fun q hq => (fun hq2 => ⟨(HL.out q hq2).1.below hb.out, (HL.out q hq2).2.1, fun _ => pairT_of (HL.out q hq2).2.2⟩) (List.mem_of_mem_take (st_mem.1 hq))) (HM.out.1.below hb.out) HM.out.2.1 (fun _ => pairT_of HM.out.2.2) (st_sorted (cfP_ord true) _))
          have HST : Hid (stL (cfP true) (l.take (j + 1)) = insL (cfP true) (tp, .slice pa tp.args.length pc) (stL (cfP true) (l.take j))) := by
            show _ = _
            rw [HTK.out]; exact foldI_snoc _ _ _
          clear hown hlen
          go_wp2_with (first | (go_at_call 48; refine HC.out.mono ?_; rintro e w2 ⟨v2, rfl, ho2, hb2⟩))
          go_roundw
          case rel => exact ⟨j + 1, v2, rfl, by omega, by go_num, Lib.hid (by rw [HST.out]; exact ho2.mono hb.out.size), Lib.hid (hb.out.trans (hb2.mono hb.out.size))⟩
          case measure => simp [intOf]; omega
        · have HE : Hid (j = n) := by show _ = _; omega
          go_wp2_with fail
          go_ret2
          exact ⟨vo, rfl, by have h := hown.out; rw [List.take_of_length_le (by have := HN.out; have := HE.out; omega)] at h; exact h, hb.out⟩

theorem rkeys_bad (v : Value) (l : List PV) (w : World) (h : RowV w v l) (hn2 : l.length ≤ 1000000) (hl : ∀ p ∈ l, LiesT w p.1 p.2) (hv : (l.all fun p => validB p.1) = false) : Calls Tryd.prog 21 #[v] w (NoneE 1 w) := by
  have A1 := Lib.hid (rvalid_v v l w h hn2 hl)
  rw [hv] at A1
  clear h hn2 hl hv
  go_enter Tryd.func21, Tryd.ntmps21
  go_wp2_with fail
  refine A1.out.mono ?_
  rintro e w1 ⟨rfl, hb1⟩
  go_wp2_with fail
  go_ret2
  exact ⟨rfl, hb1⟩
theorem rkeys_nil (w : World) : Calls Tryd.prog 21 #[.slice none 0 0] w (ResO [] 0 w) := by
  have A1 := Lib.hid (rvalid_v (.slice none 0 0) [] w (.inl ⟨rfl, rfl⟩) (by simp) (by simp))
  rw [List.all_nil] at A1
  go_enter Tryd.func21, Tryd.ntmps21
  go_wp2_with fail
  refine A1.out.mono ?_
  rintro e w1 ⟨rfl, hb1⟩
  go_wp2_with fail
  refine wp_loop_rounds 1 ?_
  rw [rounds_succ]
  go_wp2_with fail
  refine wp_loop_rounds 1 ?_
  rw [rounds_succ]
  go_wp2_with fail
  go_ret2
  exact ⟨_, rfl, .inl ⟨rfl, rfl⟩, hb1⟩
theorem rkeys_v (v : Value) (l : List PV) (w : World) (h : RowV w v l) (hn2 : l.length ≤ 1000) (hl : ∀ p ∈ l, LiesT w p.1 p.2) (hv : (l.all fun p => validB p.1) = true) (hk : (l.all fun p => pairB p.1) = true) : Calls Tryd.prog 21 #[v] w (ResO (stL (cfP true) l) 0 w) := by
  rcases h with ⟨rfl, rfl⟩ | ⟨h0, b, off, cap, rfl, h2, h3⟩
  · exact rkeys_nil w
  · exact rkeys_row b off _ cap l w rfl hn2 h2 h3 hl hv hk

set_option maxHeartbeats 4000000 in
theorem rkeys_form (b off n cap : Nat) (l : List PV) (w : World) (hn : l.length = n) (hn2 : n ≤ 1000) (hcap : n ≤ cap) (hrow : RowIn w b off l) (hl : ∀ p ∈ l, LiesT w p.1 p.2) (hv : (l.all fun p => validB p.1) = true) (hk : (l.all fun p => pairB p.1) = false) :
    Calls Tryd.prog 21 #[.slice (some ⟨b, off, none⟩) n cap] w (NoneE 3 w) := by
  have A1 := Lib.hid (rvalid_row b off n cap l w hn (by omega) hcap hrow hl)
  rw [hv] at A1
  have HN := Lib.hid hn
  have HR := Lib.hid hrow
  have HL : Hid (∀ p ∈ l, LiesT w p.1 p.2 ∧ True) := fun p hp => ⟨hl p hp, trivial⟩
  have HK := Lib.hid hk
  clear hn hrow hl hv hk
  go_enter Tryd.func21, Tryd.ntmps21
  go_wp2_with fail
  refine A1.out.mono ?_
  rintro e w1 ⟨rfl, hb1⟩
  have HB0 := Lib.hid hb1
  clear hb1
  go_wp2_with fail
  go_loopw [4] (fun vi wr => ∃ j : Nat, j ≤ n ∧ vi = .int .i64 j ∧ Hid (Below w.heap.size w wr) ∧ Hid (∀ k, k < j → pairB (l.getD k dflt).1 = true)) (fun vi _ => n - (intOf vi).toNat)
  case atStart => exact ⟨0, by omega, rfl, HB0, Lib.hid (fun _ h => by omega)⟩
  case round =>
    obtain ⟨j, hj, rfl, hb, hz⟩ := hrel
    by_cases hlt : j < n
    · have gd : l.getD j dflt = l[j]'(by have := HN.out; omega) := getD_at l j _
      have hjl : j < l.length := by have := HN.out; omega
      obtain ⟨d0, d1, d2, d3⟩ := (HR.out.below hb.out).at j hjl
      obtain ⟨pp, hpe⟩ : ∃ q, l[j] = q := ⟨_, rfl⟩
      have mp := HL.out _ (List.getElem_mem hjl)
      have HTK : Hid (l.take (j + 1) = l.take j ++ [l[j]]) := by
        show _ = _
        rw [List.take_succ_eq_append_getElem hjl]
      rw [hpe] at gd d0 d1 d2 d3 mp HTK
      obtain ⟨tp, vp⟩ := pp
      obtain ⟨pa, pc, ev⟩ := mp.1.slice
      obtain rfl : vp = .slice pa tp.args.length pc := ev
      have HM := Lib.hid mp
      have HGD := Lib.hid gd
      clear mp hpe hjl gd
      obtain ⟨q, hq⟩ : ∃ q, pairB tp = q := ⟨_, rfl⟩
      have HC : Hid (∀ w, LiesT w tp (.slice pa tp.args.length pc) → Calls Tryd.prog 49 #[tv tp (.slice pa tp.args.length pc)] w fun e w' => e = .returned (.bool q) ∧ Below w.heap.size w w') := fun w h => by
        have h2 := rpair_any tp _ w h
        rw [hq] at h2; exact h2
      have HLW := Lib.hid (HM.out.1.below hb.out)
      have HQ := Lib.hid hq
      clear hq
      cases q
      · go_wp2_with (first | (go_at_call 49; refine (HC.out _ HLW.out).mono ?_; rintro e w2 ⟨rfl, hb2⟩))
        go_ret2
        exact ⟨rfl, hb.out.trans (hb2.mono hb.out.size)⟩
      · go_wp2_with (first | (go_at_call 49; refine (HC.out _ HLW.out).mono ?_; rintro e w2 ⟨rfl, hb2⟩))
        go_roundw
        case rel =>
          refine ⟨j + 1, by omega, by go_num, Lib.hid (hb.out.trans (hb2.mono hb.out.size)), Lib.hid (fun k hk => ?_)⟩
          by_cases e : k = j
          · subst e; rw [HGD.out]; exact HQ.out
          · exact hz.out k (by omega)
        case measure => simp [intOf]; omega
    · exfalso
      have e : (l.all fun p => pairB p.1) = true := by
        rw [List.all_eq_true]
        intro p hp
        obtain ⟨k, hk, rfl⟩ := List.mem_iff_getElem.1 hp
        have := hz.out k (by have := HN.out; omega)
        rw [getD_at l k hk] at this; exact this
      rw [HK.out] at e; cases e


end Go.Proofs.YtehnhjhflaljhaaDoor
