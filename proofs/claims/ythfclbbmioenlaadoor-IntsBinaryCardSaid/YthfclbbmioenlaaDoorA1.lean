/- The contracts of the functions that make the table of the unary functions. -/
import Derived.Test.YthfclbbmioenlaaDoorF
import Derived.Test.YthfclbbmioenlaaDoorProg
import Derived.WalkKit
import Derived.WalkSpells
import Derived.WalkLawsBesides
import Derived.Lib.Hide
import Derived.Carry
namespace Go.Proofs.YthfclbbmioenlaaDoor
open Go.RowKit

theorem ret_bool {a b : Bool} (h : a = b) : Ending.returned (.bool a) = .returned (.bool b) := by rw [h]
theorem ret_int {k : IntKind} {a b : Int} (h : a = b) : Ending.returned (.int k a) = .returned (.int k b) := by rw [h]
theorem ret_str {a b : ByteArray} (h : a = b) : Ending.returned (.string a) = .returned (.string b) := by rw [h]
theorem ret_ii {k l : IntKind} {a b c d : Int} (h : a = b) (g : c = d) : Ending.returned (.tuple #[.int k a, .int l c]) = .returned (.tuple #[.int k b, .int l d]) := by rw [h, g]
theorem ret_ib {k : IntKind} {a b : Int} {c d : Bool} (h : a = b) (g : c = d) : Ending.returned (.tuple #[.int k a, .bool c]) = .returned (.tuple #[.int k b, .bool d]) := by rw [h, g]

/-- A function of the text, as a value. -/
abbrev fn (k : Nat) : Value := .func (.func k) #[] #[]
/-- A closure over one boxed variable. -/
abbrev clo (k p : Nat) : Value := .func (.func k) #[] #[.pointer (some ⟨p, 0, none⟩)]

theorem total1_any (k : Nat) (w : World) :
    Calls Tryd.prog 44 #[fn k] w fun e w' => e = .returned (clo 45 w.heap.size) ∧ w' = w.alloc (.cells #[fn k] 65) := by
  have hmf : ∀ (fn : Fn) (first cap : Array Value) (w : World), (Instr.makeFunc fn first cap).run Tryd.prog w = .ok (.func fn first cap) w := fun _ _ _ _ => rfl
  go_enter Tryd.func44, Tryd.ntmps44
  go_wp2
  go_ret
  exact ⟨rfl, rfl⟩

theorem total2_any (k : Nat) (w : World) :
    Calls Tryd.prog 51 #[fn k] w fun e w' => e = .returned (clo 52 w.heap.size) ∧ w' = w.alloc (.cells #[fn k] 56) := by
  have hmf : ∀ (fn : Fn) (first cap : Array Value) (w : World), (Instr.makeFunc fn first cap).run Tryd.prog w = .ok (.func fn first cap) w := fun _ _ _ _ => rfl
  go_enter Tryd.func51, Tryd.ntmps51
  go_wp2
  go_ret
  exact ⟨rfl, rfl⟩

/-- The names of the unary functions, as bytes. -/
abbrev nMinus : ByteArray := { data := #[45] }
abbrev nPlus : ByteArray := { data := #[43] }
abbrev nAbs : ByteArray := { data := #[97, 98, 115] }
abbrev nSign : ByteArray := { data := #[115, 105, 103, 110] }
abbrev nCompl : ByteArray := { data := #[92] }
/-- What the table of the unary functions holds, N the block of the table. -/
abbrev uList (N : Nat) : List (ByteArray × Value) := [(nMinus, fn 46), (nPlus, clo 45 (N + 1)), (nAbs, fn 48), (nSign, clo 45 (N + 2)), (nCompl, clo 45 (N + 3))]

/-- A block holds this one value. -/
def Box (w : World) (b : Nat) (v : Value) : Prop := ∃ t, w.heap[b]? = some (.cells #[v] t (0, 0))
theorem Box.lt {w : World} {b : Nat} {v : Value} (h : Box w b v) : b < w.heap.size := by
  obtain ⟨t, h⟩ := h
  exact (Array.getElem?_eq_some_iff.1 h).1
theorem Box.same {w w' : World} {b : Nat} {v : Value} (h : Box w b v) (hj : w'.heap[b]? = w.heap[b]?) : Box w' b v := by
  obtain ⟨t, h⟩ := h
  exact ⟨t, hj.trans h⟩
theorem Box.alloc {w : World} {b : Nat} {v : Value} (h : Box w b v) (o : Obj) : Box (w.alloc o) b v := h.same (Below.heap_alloc _ _ _ h.lt)
theorem Box.put {w w' : World} {b m : Nat} {v : Value} (h : Box w b v) (hj : ∀ j, j ≠ m → w'.heap[j]? = w.heap[j]?) (hm : b ≠ m) : Box w' b v := h.same (hj _ hm)
theorem Box.mk (w : World) (v : Value) (t : TypeId) : Box (w.alloc (.cells #[v] t)) w.heap.size v := ⟨t, (MapKept.heap_alloc w _).1⟩
theorem Box.below {w w' : World} {b B : Nat} {v : Value} (h : Box w b v) (hB : b < B) (hb : Below B w w') : Box w' b v := h.same (hb.block _ hB)
theorem Box.cell {w : World} {b : Nat} {v : Value} (h : Box w b v) : w.cell? ⟨b, 0, none⟩ = some v := by
  obtain ⟨t, h⟩ := h
  simp [World.cell?, h]

structure Un (w : World) (N : Nat) : Prop where
  map : HF.FnMap w N (uList N)
  plus : Box w (N + 1) (fn 47)
  sign : Box w (N + 2) (fn 49)
  compl : Box w (N + 3) (fn 50)

theorem unaries_any (w : World) :
    Calls Tryd.prog 26 #[] w fun e w' => e = .returned (.map (some w.heap.size)) ∧ Below w.heap.size w w' ∧ Un w' w.heap.size := by
  have hmm := @run_makeMap Tryd.prog
  have h0 := HF.FnMap.made w
  go_enter Tryd.func26, Tryd.ntmps26
  go_wp2_with (first
    | ((with_reducible refine HF.at_insert ?_); refine HF.wpList_insert_fn rfl _ _ _ rfl Tryd.underlying45 Tryd.underlying9 rfl h0 nMinus rfl (fn 46) rfl [] rfl (by decide) ?_; intro w1 h1 hb1 hs1 hj1; clear h0)
    | ((with_reducible refine HF.at_insert ?_); refine HF.wpList_insert_fn rfl _ _ _ rfl Tryd.underlying45 Tryd.underlying9 rfl (by first | exact h1 | exact HF.FnMap.alloc h1 _ | exact HF.FnMap.alloc (HF.FnMap.alloc h1 _) _) nPlus rfl (clo 45 (w.heap.size + 1)) rfl [nMinus] rfl (by decide) ?_; intro w2 h2 hb2 hs2 hj2; clear h1)
    | ((with_reducible refine HF.at_insert ?_); refine HF.wpList_insert_fn rfl _ _ _ rfl Tryd.underlying45 Tryd.underlying9 rfl (by first | exact h2 | exact HF.FnMap.alloc h2 _ | exact HF.FnMap.alloc (HF.FnMap.alloc h2 _) _) nAbs rfl (fn 48) rfl [nMinus, nPlus] rfl (by decide) ?_; intro w3 h3 hb3 hs3 hj3; clear h2)
    | ((with_reducible refine HF.at_insert ?_); refine HF.wpList_insert_fn rfl _ _ _ rfl Tryd.underlying45 Tryd.underlying9 rfl (by first | exact h3 | exact HF.FnMap.alloc h3 _ | exact HF.FnMap.alloc (HF.FnMap.alloc h3 _) _) nSign rfl (clo 45 (w.heap.size + 2)) rfl [nMinus, nPlus, nAbs] rfl (by decide) ?_; intro w4 h4 hb4 hs4 hj4; clear h3)
    | ((with_reducible refine HF.at_insert ?_); refine HF.wpList_insert_fn rfl _ _ _ rfl Tryd.underlying45 Tryd.underlying9 rfl (by first | exact h4 | exact HF.FnMap.alloc h4 _ | exact HF.FnMap.alloc (HF.FnMap.alloc h4 _) _) nCompl rfl (clo 45 (w.heap.size + 3)) rfl [nMinus, nPlus, nAbs, nSign] rfl (by decide) ?_; intro w5 h5 hb5 hs5 hj5; clear h4)
    | (go_at_call 44; refine (total1_any _ _).mono ?_; rintro e w' ⟨rfl, rfl⟩))
  have z1 : w1.heap.size = w.heap.size + 1 := by rw [hs1, World.size_alloc]
  have B1 : Below w.heap.size w w1 := ((Below.refl _ _).alloc (Nat.le_refl _) _).trans hb1
  have z2 : w2.heap.size = w.heap.size + 2 := by rw [hs2, World.size_alloc, z1]
  have B2 := (B1.alloc (by omega) _).trans hb2
  have p2_1 : Box w2 (w.heap.size + 1) (fn 47) := Box.put (m := w.heap.size) (by first | (rw [← z1]; exact (Box.mk w1 (fn 47) 65)) | (rw [show w.heap.size + 1 = (w1.alloc (.cells #[fn 47] 65)).heap.size by rw [World.size_alloc]; omega]; exact (Box.mk w1 (fn 47) 65))) hj2 (by omega)
  have z3 : w3.heap.size = w.heap.size + 2 := by rw [hs3, z2]
  have B3 := B2.trans hb3
  have p3_1 := p2_1.put hj3 (by omega)
  have z4 : w4.heap.size = w.heap.size + 3 := by rw [hs4, World.size_alloc, z3]
  have B4 := (B3.alloc (by omega) _).trans hb4
  have p4_1 := (p3_1.alloc _).put hj4 (by omega)
  have p4_2 : Box w4 (w.heap.size + 2) (fn 49) := Box.put (m := w.heap.size) (by first | (rw [← z3]; exact (Box.mk w3 (fn 49) 65)) | (rw [show w.heap.size + 2 = (w3.alloc (.cells #[fn 49] 65)).heap.size by rw [World.size_alloc]; omega]; exact (Box.mk w3 (fn 49) 65))) hj4 (by omega)
  have z5 : w5.heap.size = w.heap.size + 4 := by rw [hs5, World.size_alloc, z4]
  have B5 := (B4.alloc (by omega) _).trans hb5
  have p5_1 := (p4_1.alloc _).put hj5 (by omega)
  have p5_2 := (p4_2.alloc _).put hj5 (by omega)
  have p5_3 : Box w5 (w.heap.size + 3) (fn 50) := Box.put (m := w.heap.size) (by first | (rw [← z4]; exact (Box.mk w4 (fn 50) 65)) | (rw [show w.heap.size + 3 = (w4.alloc (.cells #[fn 50] 65)).heap.size by rw [World.size_alloc]; omega]; exact (Box.mk w4 (fn 50) 65))) hj5 (by omega)
  go_ret
  exact ⟨rfl, B5, ⟨h5, p5_1, p5_2, p5_3⟩⟩

end Go.Proofs.YthfclbbmioenlaaDoor
