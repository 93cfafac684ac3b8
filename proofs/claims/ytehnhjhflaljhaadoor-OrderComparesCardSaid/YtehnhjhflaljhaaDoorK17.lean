/- Sort, Stable, Keys of fewer than 20 terms, the results said. -/
import Derived.Test.YtehnhjhflaljhaaDoorK16
namespace Go.Proofs.YtehnhjhflaljhaaDoor
open Go.RowKit Go.Proofs.HT

theorem CopyE.eq {ts us : List Tm} {c : Int} {w : World} {e : Ending} {w' : World} (h : CopyE ts c w e w') (hT : ts = us) : CopyE us c w e w' := hT ▸ h
theorem Sort_small (b off n cap : Nat) (l : List PV) (w : World) (TS : List Tm) (hT : (cptN eqP (isort cfW 0 (n - 1) 1 l) n).map Prod.fst = TS) (hv : (l.all fun p => validB p.1) = true) (hn : l.length = n) (hn2 : n < 20) (hn0 : 2 ≤ n) (hcap : n ≤ cap) (hrow : RowIn w b off l) (hl : ∀ p ∈ l, LiesT w p.1 p.2) (hp : Places w) :
    Calls Tryd.prog 16 #[.slice (some ⟨b, off, none⟩) n cap] w (CopyE TS 0 w) :=
  (Sort_yes b off n cap l w hn (by omega) hcap hrow hl hp hv (isort cfW 0 (n - 1) 1 l) (by rw [isort_length, hn]) (isort_mem cfW 0 (n - 1) 1 l (by omega)) hn0
    (Lib.hid (fun w1 hb => sorted_whole b off n cap l w1 hn hn2 (hrow.below hb) (fun p hp => ⟨(hl p hp).below hb, val_nodes (List.all_eq_true.1 hv p hp)⟩) (hp.below hb)))).mono (fun _ _ h => h.eq hT)
theorem Stable_small (b off n cap : Nat) (l : List PV) (w : World) (TS : List Tm) (hT : (isort cfW 0 (n - 1) 1 l).map Prod.fst = TS) (hv : (l.all fun p => validB p.1) = true) (hn : l.length = n) (hn2 : n < 20) (hn0 : 0 < n) (hcap : n ≤ cap) (hrow : RowIn w b off l) (hl : ∀ p ∈ l, LiesT w p.1 p.2) (hp : Places w) :
    Calls Tryd.prog 17 #[.slice (some ⟨b, off, none⟩) n cap] w (CopyE TS 0 w) :=
  (Stable_yes b off n cap l w hn (by omega) hcap hrow hl hv (isort cfW 0 (n - 1) 1 l) (by rw [isort_length, hn]) (isort_mem cfW 0 (n - 1) 1 l (by omega)) hn0
    (Lib.hid (fun w1 hb => sorted_whole b off n cap l w1 hn hn2 (hrow.below hb) (fun p hp => ⟨(hl p hp).below hb, val_nodes (List.all_eq_true.1 hv p hp)⟩) (hp.below hb)))).mono (fun _ _ h => h.eq hT)
theorem Keys_small (b off n cap : Nat) (l : List PV) (w : World) (TS : List Tm) (hT : (isort cfK 0 (n - 1) 1 l).map Prod.fst = TS) (hv : (l.all fun p => validB p.1) = true) (hk : (l.all fun p => pairB p.1) = true) (hn : l.length = n) (hn2 : n < 20) (hn0 : 0 < n) (hcap : n ≤ cap) (hrow : RowIn w b off l) (hl : ∀ p ∈ l, LiesT w p.1 p.2) (hp : Places w) :
    Calls Tryd.prog 18 #[.slice (some ⟨b, off, none⟩) n cap] w (CopyE TS 0 w) :=
  (Keys_yes b off n cap l w hn (by omega) hcap hrow hl hv hk (isort cfK 0 (n - 1) 1 l) (by rw [isort_length, hn]) (isort_mem cfK 0 (n - 1) 1 l (by omega)) hn0
    (Lib.hid (fun w1 hb => sorted_key b off n cap l w1 hn hn2 (hrow.below hb) (fun p hp => ⟨(hl p hp).below hb, val_nodes (List.all_eq_true.1 hv p hp)⟩) (hp.below hb) (fun p hp => pairT_of (List.all_eq_true.1 hk p hp))))).mono (fun _ _ h => h.eq hT)
theorem bs_one {l : List PV} {t : Tm} {r r2 : Nat} {o o2 : Bool} (h : BsIs l t r o) (h2 : BsIs l t r2 o2) : r = r2 ∧ o = o2 := by
  have e : r = r2 := by
    obtain ⟨a1, a2, a3, _⟩ := h
    obtain ⟨b1, b2, b3, _⟩ := h2
    by_cases h1 : r < r2
    · have := a3 r (Nat.le_refl _) (by omega); have := b2 r h1; omega
    · by_cases h3 : r2 < r
      · have := b3 r2 (Nat.le_refl _) (by omega); have := a2 r2 h3; omega
      · omega
  subst e
  exact ⟨rfl, h.2.2.2.trans h2.2.2.2.symm⟩
/-- Read off the row. -/
theorem Rank_small (b off n cap : Nat) (l : List PV) (t : Tm) (v : Value) (w : World) (r : Nat) (o : Bool) (hr : BsIs l t r o) (hv : validB t = true) (ha : (l.all fun p => validB p.1) = true) (hi : incB l = true) (hn : l.length = n) (hn2 : n ≤ 1000000) (hcap : n ≤ cap) (hrow : RowIn w b off l) (hl : ∀ p ∈ l, LiesT w p.1 p.2) (hp : Places w) (ht : LiesT w t v) :
    Calls Tryd.prog 26 #[.slice (some ⟨b, off, none⟩) n cap, tv t v] w fun e w' => e = .returned (.tuple #[.int .i64 r, .bool o]) ∧ Below w.heap.size w w' := by
  refine (rank_yes b off n cap l t v w hn hn2 hcap hrow hl hp ht hv ha hi).mono ?_
  rintro e w' ⟨r2, o2, rfl, h, hb⟩
  obtain ⟨rfl, rfl⟩ := bs_one h hr
  exact ⟨rfl, hb⟩
/-- Compared, the result said. -/
theorem Cmp_is (t u : Tm) (q : Int) (hq : cmpV t u = q) (v x : Value) (w : World) (h : LiesT w t v) (hx : LiesT w u x) (hp : Places w) : Calls Tryd.prog 12 #[tv t v, tv u x] w fun e w' => e = .returned (.int .i64 q) ∧ Below w.heap.size w w' := by
  rw [← hq]; exact Cmp_any t u v x w h hx hp
theorem sall_is (b off n cap b2 off2 n2 cap2 : Nat) (l m : List PV) (w : World) (q : Bool) (hq : sallB l m = q) (hn : l.length = n) (hm : m.length = n2) (hn2 : n ≤ 1000000) (hcap : n ≤ cap) (hcap2 : n2 ≤ cap2) (hrow : RowIn w b off l) (hrow2 : RowIn w b2 off2 m) (hl : ∀ p ∈ l, LiesT w p.1 p.2) (hl2 : ∀ p ∈ m, LiesT w p.1 p.2) :
    Calls Tryd.prog 22 #[.slice (some ⟨b, off, none⟩) n cap, .slice (some ⟨b2, off2, none⟩) n2 cap2] w fun e w' => e = .returned (.bool q) ∧ Below w.heap.size w w' := by
  rw [← hq]; exact sall_any b off n cap b2 off2 n2 cap2 l m w hn hm hn2 hcap hcap2 hrow hrow2 hl hl2
theorem row_new {w : World} (cs : Array Value) (l : List PV) (ty : TypeId) (h : cs = (flat l).toArray) : RowIn (w.alloc (.cells cs ty)) w.heap.size 0 l := by
  have h2 : RowAt (w.alloc (.cells cs ty)) w.heap.size l [] ty := by
    unfold RowAt; rw [heap_alloc_new, h, List.append_nil]
  exact RowAt.rowIn h2
theorem bs_ac : BsIs [((.mk 2 0 ⟨#[97]⟩ [] : Tm), (.slice none 0 0 : Value)), (.mk 2 0 ⟨#[99]⟩ [], .slice none 0 0)] (.mk 2 0 ⟨#[98]⟩ []) 1 false := by
  refine ⟨by decide, fun k hk => ?_, fun k h1 h2 => ?_, by rfl⟩
  · obtain rfl : k = 0 := by omega
    decide
  · obtain rfl : k = 1 := by simp at h2; omega
    decide

end Go.Proofs.YtehnhjhflaljhaaDoor
