/- The program's isPair, Elems. -/
import Derived.Test.YtdgflagafilobaaL3
import Derived.RegionTactic
import Derived.ChangeAlike
namespace Go.Proofs.Ytdgflagafilobaa
open Go.RowKit Go.Proofs.HT

def dot : ByteArray := ⟨#[46]⟩
def isPairB (t : Tm) : Bool := decide (t.kind = 3 ∧ t.name = dot ∧ t.args.length = 2)

set_option maxHeartbeats 1000000 in
theorem isPair_any (t : Tm) (v : Value) (w : World) (h : LiesT w t v) : Calls Try.prog 67 #[tv t v] w fun e w' => e = .returned (.bool (isPairB t)) ∧ Below w.heap.size w w' := by
  obtain ⟨a, c, rfl⟩ := h.slice
  have fr : Hid (∀ o, Below w.heap.size w (w.alloc o)) := fun o => (Below.refl _ _).alloc (Nat.le_refl _) _
  obtain ⟨l, hl⟩ : ∃ l, t.args.length = l := ⟨_, rfl⟩
  have HE : Hid (isPairB t = decide (t.kind = 3 ∧ t.name = dot ∧ l = 2)) := by show _ = _; unfold isPairB; rw [hl]
  rw [hl]
  clear h hl
  rw [HE.out]
  simp only [tv]
  generalize t.kind = k
  generalize t.name = s
  clear HE
  by_cases h0 : k = 3
  · subst h0
    by_cases h1 : s = dot
    · have e1 : s.toList = [46] := by rw [h1, ByteArray.toList_eq]; rfl
      have H1 := Lib.hid h1
      clear h1
      by_cases h2 : (l : Int) = 2
      all_goals
        go_enter Try.func67, Try.ntmps67
        go_wp2_with fail
        go_ret
        exact ⟨ret_bool (by rw [Bool.eq_iff_iff]; simp [H1.out]; omega), fr.out _⟩
    · have e1 : ¬ s.toList = [46] := fun h => h1 (ByteArray.ext (by rw [ByteArray.toList_eq] at h; exact Array.toList_inj.1 h))
      go_enter Try.func67, Try.ntmps67
      go_wp2_with fail
      go_ret
      exact ⟨ret_bool (by rw [Bool.eq_iff_iff]; simp [h1]), fr.out _⟩
  · have e0 : (k == 3) = false := by simpa using h0
    go_enter Try.func67, Try.ntmps67
    go_wp2_with fail
    go_ret
    exact ⟨ret_bool (by rw [Bool.eq_iff_iff]; simp [h0]), fr.out _⟩

/-- The elements of a list, and its tail. -/
def elF : Nat → Tm → List Tm × Tm
  | 0, t => ([], t)
  | n + 1, t => if isPairB t = true then (match t.args with | x :: y :: _ => (x :: (elF n y).1, (elF n y).2) | _ => ([], t)) else ([], t)
def elemsT (t : Tm) : List Tm × Tm := elF (cnt t) t
theorem pair_of {t : Tm} (h : isPairB t = true) : ∃ n x y, t = .mk 3 n dot [x, y] := by
  cases t with
  | mk k n s ts =>
    obtain ⟨h1, h2, h3⟩ := of_decide_eq_true (show decide (k = 3 ∧ s = dot ∧ ts.length = 2) = true from h)
    subst h1
    subst h2
    match ts, h3 with
    | [x, y], _ => exact ⟨n, x, y, rfl⟩
theorem elF_pair (m : Nat) (n : Int) (x y : Tm) : elF (m + 1) (.mk 3 n dot [x, y]) = (x :: (elF m y).1, (elF m y).2) := by
  have h : isPairB (.mk 3 n dot [x, y]) = true := by simp [isPairB, Tm.kind, Tm.name, Tm.args]
  simp only [elF, h, if_true, Tm.args]
theorem elF_not (m : Nat) (t : Tm) (h : isPairB t = false) : elF m t = ([], t) := by
  cases m with
  | zero => rfl
  | succ m => simp [elF, h]
theorem elF_enough : ∀ (m m' : Nat) (t : Tm), cnt t ≤ m → cnt t ≤ m' → elF m t = elF m' t
  | 0, _, t, h, _ => by have := cnt_pos t; omega
  | m + 1, 0, t, _, h => by have := cnt_pos t; omega
  | m + 1, m' + 1, t, h, h' => by
    rcases Bool.eq_false_or_eq_true (isPairB t) with hp | hp
    · obtain ⟨n, x, y, rfl⟩ := pair_of hp
      have e := elF_enough m m' y (by simp [cnt, cntL] at h; omega) (by simp [cnt, cntL] at h'; omega)
      rw [elF_pair, elF_pair, e]
    · rw [elF_not _ _ hp, elF_not _ _ hp]
theorem elemsT_pair (n : Int) (x y : Tm) : elemsT (.mk 3 n dot [x, y]) = (x :: (elemsT y).1, (elemsT y).2) := by
  have h := elF_enough (cnt (.mk 3 n dot [x, y])) (cnt y + cnt x + 1) (.mk 3 n dot [x, y]) (Nat.le_refl _) (by simp [cnt, cntL]; omega)
  unfold elemsT
  rw [h, elF_pair, elF_enough (cnt y + cnt x) (cnt y) y (by omega) (Nat.le_refl _)]
theorem elemsT_not (t : Tm) (h : isPairB t = false) : elemsT t = ([], t) := elF_not _ _ h
theorem elemsT_list : ∀ (ts : List Tm) (T : Tm), elemsT (listT ts T) = (ts ++ (elemsT T).1, (elemsT T).2)
  | [], T => by simp [listT]
  | t :: ts, T => by
    have h := elemsT_list ts T
    have e : listT (t :: ts) T = .mk 3 0 dot [t, listT ts T] := rfl
    rw [e, elemsT_pair, h]; rfl

theorem under22b : Try.prog.underlying 22 = some (.slice 24) := under22
/-- What Elems returns. -/
def ElemsEnd (t : Tm) (w : World) (e : Ending) (w' : World) : Prop := ∃ x v, e = .returned (.tuple #[x, tv (elemsT t).2 v]) ∧ LiesA w' (elemsT t).1 x ∧ LiesT w' (elemsT t).2 v ∧ Below w.heap.size w w'

/-- The four cells of a term opened. -/
theorem OwnT.pair {S : Nat → Prop} {w : World} {n : Int} {s : ByteArray} {x y : Tm} {v : Value} (h : OwnT S w (.mk 3 n s [x, y]) v) : ∃ (b cap : Nat) (vx vy : Value), v = .slice (some ⟨b, 0, none⟩) 2 cap ∧ 2 ≤ cap ∧ S b ∧
    w.cell? ⟨b, 0, none⟩ = some (.int .i64 x.kind) ∧ w.cell? ⟨b, 1, none⟩ = some (.int .i64 x.num) ∧ w.cell? ⟨b, 2, none⟩ = some (.string x.name) ∧ w.cell? ⟨b, 3, none⟩ = some vx ∧ OwnT S w x vx ∧
    w.cell? ⟨b, 4, none⟩ = some (.int .i64 y.kind) ∧ w.cell? ⟨b, 5, none⟩ = some (.int .i64 y.num) ∧ w.cell? ⟨b, 6, none⟩ = some (.string y.name) ∧ w.cell? ⟨b, 7, none⟩ = some vy ∧ OwnT S w y vy := by
  simp only [OwnT] at h
  obtain ⟨_, _, _, h | ⟨b, cap, e, l1, l2, l3, _, hl⟩⟩ := h
  · simp at h
  · obtain ⟨vx, a0, a1, a2, a3, hx⟩ := hl.at 0 (by simp)
    obtain ⟨vy, b0, b1, b2, b3, hy⟩ := hl.at 1 (by simp)
    exact ⟨b, cap, vx, vy, e, by simpa using l1, l3, a0, a1, a2, a3, hx, b0, b1, b2, b3, hy⟩

end Go.Proofs.Ytdgflagafilobaa
