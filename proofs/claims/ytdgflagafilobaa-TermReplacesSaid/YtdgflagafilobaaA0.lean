/- The law's own helpers x, a, f; contracts with the result said. -/
import Derived.Test.YtdgflagafilobaaL5
import Derived.Test.YtdgflagafilobaaTm
namespace Go.Proofs.Ytdgflagafilobaa
open Go.RowKit Go.Proofs.HT

set_option maxHeartbeats 1000000 in
theorem f_any (s : ByteArray) (a : Option Addr) (l cap : Nat) (w : World) :
    Calls Try.prog 40 #[.string s, .slice a l cap] w fun e w' => e = .returned (pv 3 0 s (.slice a l cap)) ∧ Below w.heap.size w w' := by
  have fr : ∀ o, Below w.heap.size w (w.alloc o) := fun o => (Below.refl _ _).alloc (Nat.le_refl _) _
  go_enter Try.func40, Try.ntmps40
  go_wp2_with fail
  exact bodyPost_ret (v := pv 3 0 s (.slice a l cap)) (by simp [results, Try.results40, go_sem]) rfl ⟨rfl, fr _⟩
set_option maxHeartbeats 1000000 in
theorem x_any (n : Int) (w : World) :
    Calls Try.prog 41 #[.int .i64 n] w fun e w' => e = .returned (pv 0 n ⟨#[]⟩ (.slice none 0 0)) ∧ Below w.heap.size w w' := by
  have fr : ∀ o, Below w.heap.size w (w.alloc o) := fun o => (Below.refl _ _).alloc (Nat.le_refl _) _
  go_enter Try.func41, Try.ntmps41
  go_wp2_with fail
  exact bodyPost_ret (v := pv 0 n ⟨#[]⟩ (.slice none 0 0)) (by simp [results, Try.results41, go_sem]) rfl ⟨rfl, fr _⟩
set_option maxHeartbeats 1000000 in
theorem a_any (s : ByteArray) (w : World) :
    Calls Try.prog 42 #[.string s] w fun e w' => e = .returned (pv 2 0 s (.slice none 0 0)) ∧ Below w.heap.size w w' := by
  have fr : ∀ o, Below w.heap.size w (w.alloc o) := fun o => (Below.refl _ _).alloc (Nat.le_refl _) _
  go_enter Try.func42, Try.ntmps42
  go_wp2_with fail
  exact bodyPost_ret (v := pv 2 0 s (.slice none 0 0)) (by simp [results, Try.results42, go_sem]) rfl ⟨rfl, fr _⟩

theorem vr_lies {w : World} {n : Int} (h : I64 n) : LiesT w (vr n) (.slice none 0 0) := OwnT.lies (S := fun _ => True) _ _ (vr_own h)
theorem int_lies {w : World} {n : Int} (h : I64 n) : LiesT w (.mk 1 n ⟨#[]⟩ []) (.slice none 0 0) := by
  unfold LiesT; exact ⟨⟨by omega, by omega⟩, h, by simp [ByteArray.size], .inl ⟨rfl, rfl⟩⟩
theorem Same_is (t u : Tm) (b : Bool) (hs : sameV t u = b) (v x : Value) (w : World) (h : LiesT w t v) (hx : LiesT w u x) : Calls Try.prog 9 #[tv t v, tv u x] w fun e w' => e = .returned (.bool b) ∧ Below w.heap.size w w' := by
  subst hs; exact Same_any t u v x w h hx
theorem Variant_is (t u : Tm) (b : Bool) (hs : variantV t u = b) (v x : Value) (w : World) (h : LiesT w t v) (hx : LiesT w u x) : Calls Try.prog 11 #[tv t v, tv u x] w fun e w' => e = .returned (.bool b) ∧ Below w.heap.size w w' := by
  subst hs; exact Variant_any t u v x w h hx
theorem Size_is (t : Tm) (n : Int) (hs : cntM t 2001 = n) (v : Value) (w : World) (h : LiesT w t v) : Calls Try.prog 32 #[tv t v] w fun e w' => e = .returned (.int .i64 n) ∧ Below w.heap.size w w' := by
  subst hs; exact Size_any t v w h

end Go.Proofs.Ytdgflagafilobaa
