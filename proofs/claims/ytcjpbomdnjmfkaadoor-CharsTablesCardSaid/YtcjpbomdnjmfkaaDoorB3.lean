/- The contracts of the specification's functions on one character: Is, among, Class, Digit, Escape, Unescape. They return what the program's functions return. -/
import Derived.Test.YtcjpbomdnjmfkaaDoorB2
namespace Go.Proofs.YtcjpbomdnjmfkaaDoor
open Go.RowKit

theorem is_any (c : Int) (w : World) :
    Calls Tryd.prog 34 #[.int .i64 c] w fun e w' => e = .returned (.bool (isC c)) ∧ w = w' := by
  by_cases h0 : 0 ≤ c
  · by_cases h1 : c ≤ 255
    · go_enter Tryd.func34, Tryd.ntmps34
      go_wp2
      go_ret
      exact ⟨ret_bool (isC_yes h0 h1).symm, rfl⟩
    · go_enter Tryd.func34, Tryd.ntmps34
      go_wp2
      go_ret
      exact ⟨ret_bool (isC_no (by omega)).symm, rfl⟩
  · go_enter Tryd.func34, Tryd.ntmps34
    go_wp2
    go_ret
    exact ⟨ret_bool (isC_no (by omega)).symm, rfl⟩

def amg (l : ByteArray) (c : Int) : Bool := l.data.toList.any fun b => (b.toNat : Int) == c
theorem amg_no {l : ByteArray} {c : Int} (h : ∀ i (hi : i < l.size), ¬ (l[i].toNat : Int) = c) : amg l c = false := by
  unfold amg
  rw [List.any_eq_false]
  intro b hb
  obtain ⟨i, hi, rfl⟩ := List.getElem_of_mem hb
  have h2 : ¬ (l.data[i]'(by simpa using hi)).toNat = c := h i (by simpa using hi)
  simpa using h2
theorem amg_yes {l : ByteArray} {c : Int} {i : Nat} (hi : i < l.size) (h : (l[i].toNat : Int) = c) : amg l c = true := by
  unfold amg
  rw [List.any_eq_true]
  exact ⟨l[i], by exact Array.getElem_mem_toList (by simpa using hi), by simpa using h⟩

theorem among_any (l : ByteArray) (hl : l.size ≤ maxLen) (c : Int) (w : World) :
    Calls Tryd.prog 35 #[.string l, .int .i64 c] w fun e w' => e = .returned (.bool (amg l c)) ∧ w = w' := by
  unfold maxLen at hl
  go_enter Tryd.func35, Tryd.ntmps35
  go_wp2
  go_loop [5] (fun i => ∃ k : Nat, k ≤ l.size ∧ i = .int .i64 k ∧ Hid (∀ j (hj : j < l.size), j < k → ¬ (l[j].toNat : Int) = c)) (fun i => l.size - (intOf i).toNat)
  case atStart => exact ⟨0, by omega, rfl, fun j hj h => absurd h (by omega)⟩
  case round =>
    obtain ⟨k, hk, rfl, hI⟩ := hrel
    by_cases hlt : k < l.size
    · have hb : l[k].toNat < 256 := l[k].toNat_lt
      by_cases he : (l[k].toNat : Int) = c
      · have HE := Lib.hid (amg_yes hlt he)
        have hq : ((l[k].toNat : Int) == c) = true := by simpa using he
        clear he
        go_wp2
        go_ret
        exact ⟨ret_bool HE.out.symm, rfl⟩
      · have hN : Hid (∀ j (hj : j < l.size), j < k + 1 → ¬ (l[j].toNat : Int) = c) := fun j hj hjk => by
          by_cases e : j = k
          · subst e; exact he
          · exact hI.out j hj (by omega)
        have hq : ((l[k].toNat : Int) == c) = false := by simpa using he
        clear he hI
        go_wp2
        go_round
        case rel => exact ⟨k + 1, by omega, by go_num, hN⟩
        case measure => simp [intOf]; omega
    · have HE : Hid (amg l c = false) := amg_no (fun i hi => hI.out i hi (by omega))
      go_wp2
      go_ret
      exact ⟨ret_bool HE.out.symm, rfl⟩

end Go.Proofs.YtcjpbomdnjmfkaaDoor
