/-
  NARROWER THAN 'FOR EVERY INPUT', by the rows' own cells (each row's printed sentence says how): TermAlike: loops · TermRenames: loops · TermReplaces: loops · TermMakes: loops · TermCanonical: loops · TermListed: loops.
  DERIVED. THE GIVEN ROWS OF THIS SEAT. 6 by the template 'for every input the law returns true; each argument reads behind the call as it read before'; 0 by the template 'total and deterministic' (their statements: YtdgflagafilobaaTotals.lean).
  GIVEN WITH THE SEED: the statements are not yours to turn. If you find one false, say at which input.
  Laid BY PROGRAM, IN A SANDBOX (cutbox-rows.mjs): the forced cells as the released guide's own fill.sh prints them over the translation 58b20abac95bb349… (all of the seat's roots in one cut). By AI agents, Wed Nov 11 2026. No macro, syntax, notation, axiom, sorry.
-/
import Derived.Test.YtdgflagafilobaaChecked
import GoSem.Claim
import GoSem.ClaimJoined
import GoSem.ClaimMapViews
import Derived.JoinedTies
import Derived.KernelRfl
namespace Go.Proofs.Ytdgflagafilobaa
/- THE CELL 'sum', in the pinned program and in every row, IS THE sha256 OF THE DUMP (.gsa) THAT YtdgflagafilobaaProg.lean LOADS. Nothing in Lean hashes anything: it is a label: what it is worth is what the hold of that sum in a sandbox is worth. -/
noncomputable def Try.pinned : Pinned := { name := "ytdgflagafilobaa", sum := "58b20abac95bb34904c907ac2b25c538d449b65be28cf93e14385d4ea77a473c", checked := Try.checked }
namespace Rows
def none {H : Type} : Left H := { results := [], args := [] }

/-- 'hornbeamlaw03.TermAlike': WHATEVER THE INPUT: true; the input reads as it did. -/
def termAlikeSpec : ChangeSpec := { name := "termAlike", fn := fun _ => fun
  | [d1, d2] => { results := [.lit (.bool true)], args := [d1, d2] }
  | _ => none }
def termAlikeRow : OpenClaim := { program := "ytdgflagafilobaa", sum := "58b20abac95bb34904c907ac2b25c538d449b65be28cf93e14385d4ea77a473c", func := "hornbeam/hornbeamlaw03.TermAlike", spec := "termAlike", unfollowed := true, recurses := true, loops := true, apart := false }
def TermAlikeSaid : Prop := termAlikeRow.holds Try.pinned (OpenSpec.ofChange termAlikeSpec)

/-- ITS FALSE NEIGHBOUR: 'it returns false'. Refute it at one input. -/
def termAlikeWrong : ChangeSpec := { name := "termAlike", fn := fun _ => fun
  | [d1, d2] => { results := [.lit (.bool false)], args := [d1, d2] }
  | _ => none }
def TermAlikeWrongFalsely : Prop := termAlikeRow.holds Try.pinned (OpenSpec.ofChange termAlikeWrong)

/-- 'hornbeamlaw03.TermRenames': WHATEVER THE INPUT: true; the input reads as it did. -/
def termRenamesSpec : ChangeSpec := { name := "termRenames", fn := fun _ => fun
  | [d1, d2] => { results := [.lit (.bool true)], args := [d1, d2] }
  | _ => none }
def termRenamesRow : OpenClaim := { program := "ytdgflagafilobaa", sum := "58b20abac95bb34904c907ac2b25c538d449b65be28cf93e14385d4ea77a473c", func := "hornbeam/hornbeamlaw03.TermRenames", spec := "termRenames", unfollowed := true, recurses := true, loops := true, apart := false }
def TermRenamesSaid : Prop := termRenamesRow.holds Try.pinned (OpenSpec.ofChange termRenamesSpec)

/-- ITS FALSE NEIGHBOUR: 'it returns false'. Refute it at one input. -/
def termRenamesWrong : ChangeSpec := { name := "termRenames", fn := fun _ => fun
  | [d1, d2] => { results := [.lit (.bool false)], args := [d1, d2] }
  | _ => none }
def TermRenamesWrongFalsely : Prop := termRenamesRow.holds Try.pinned (OpenSpec.ofChange termRenamesWrong)

/-- 'hornbeamlaw03.TermReplaces': WHATEVER THE INPUT: true; the input reads as it did. -/
def termReplacesSpec : ChangeSpec := { name := "termReplaces", fn := fun _ => fun
  | [d1, d2, d3] => { results := [.lit (.bool true)], args := [d1, d2, d3] }
  | _ => none }
def termReplacesRow : OpenClaim := { program := "ytdgflagafilobaa", sum := "58b20abac95bb34904c907ac2b25c538d449b65be28cf93e14385d4ea77a473c", func := "hornbeam/hornbeamlaw03.TermReplaces", spec := "termReplaces", unfollowed := true, recurses := true, loops := true, apart := false }
def TermReplacesSaid : Prop := termReplacesRow.holds Try.pinned (OpenSpec.ofChange termReplacesSpec)

/-- ITS FALSE NEIGHBOUR: 'it returns false'. Refute it at one input. -/
def termReplacesWrong : ChangeSpec := { name := "termReplaces", fn := fun _ => fun
  | [d1, d2, d3] => { results := [.lit (.bool false)], args := [d1, d2, d3] }
  | _ => none }
def TermReplacesWrongFalsely : Prop := termReplacesRow.holds Try.pinned (OpenSpec.ofChange termReplacesWrong)

/-- 'hornbeamlaw03.TermMakes': WHATEVER THE INPUT: true; the input reads as it did. -/
def termMakesSpec : ChangeSpec := { name := "termMakes", fn := fun _ => fun
  | [d1, d2, d3] => { results := [.lit (.bool true)], args := [d1, d2, d3] }
  | _ => none }
def termMakesRow : OpenClaim := { program := "ytdgflagafilobaa", sum := "58b20abac95bb34904c907ac2b25c538d449b65be28cf93e14385d4ea77a473c", func := "hornbeam/hornbeamlaw03.TermMakes", spec := "termMakes", unfollowed := true, recurses := true, loops := true, apart := false }
def TermMakesSaid : Prop := termMakesRow.holds Try.pinned (OpenSpec.ofChange termMakesSpec)

/-- ITS FALSE NEIGHBOUR: 'it returns false'. Refute it at one input. -/
def termMakesWrong : ChangeSpec := { name := "termMakes", fn := fun _ => fun
  | [d1, d2, d3] => { results := [.lit (.bool false)], args := [d1, d2, d3] }
  | _ => none }
def TermMakesWrongFalsely : Prop := termMakesRow.holds Try.pinned (OpenSpec.ofChange termMakesWrong)

/-- 'hornbeamlaw03.TermCanonical': WHATEVER THE INPUT: true; the input reads as it did. -/
def termCanonicalSpec : ChangeSpec := { name := "termCanonical", fn := fun _ => fun
  | [d1, d2] => { results := [.lit (.bool true)], args := [d1, d2] }
  | _ => none }
def termCanonicalRow : OpenClaim := { program := "ytdgflagafilobaa", sum := "58b20abac95bb34904c907ac2b25c538d449b65be28cf93e14385d4ea77a473c", func := "hornbeam/hornbeamlaw03.TermCanonical", spec := "termCanonical", unfollowed := true, recurses := true, loops := true, apart := false }
def TermCanonicalSaid : Prop := termCanonicalRow.holds Try.pinned (OpenSpec.ofChange termCanonicalSpec)

/-- ITS FALSE NEIGHBOUR: 'it returns false'. Refute it at one input. -/
def termCanonicalWrong : ChangeSpec := { name := "termCanonical", fn := fun _ => fun
  | [d1, d2] => { results := [.lit (.bool false)], args := [d1, d2] }
  | _ => none }
def TermCanonicalWrongFalsely : Prop := termCanonicalRow.holds Try.pinned (OpenSpec.ofChange termCanonicalWrong)

/-- 'hornbeamlaw03.TermListed': WHATEVER THE INPUT: true; the input reads as it did. -/
def termListedSpec : ChangeSpec := { name := "termListed", fn := fun _ => fun
  | [d1, d2] => { results := [.lit (.bool true)], args := [d1, d2] }
  | _ => none }
def termListedRow : OpenClaim := { program := "ytdgflagafilobaa", sum := "58b20abac95bb34904c907ac2b25c538d449b65be28cf93e14385d4ea77a473c", func := "hornbeam/hornbeamlaw03.TermListed", spec := "termListed", unfollowed := true, recurses := true, loops := true, apart := false }
def TermListedSaid : Prop := termListedRow.holds Try.pinned (OpenSpec.ofChange termListedSpec)

/-- ITS FALSE NEIGHBOUR: 'it returns false'. Refute it at one input. -/
def termListedWrong : ChangeSpec := { name := "termListed", fn := fun _ => fun
  | [d1, d2] => { results := [.lit (.bool false)], args := [d1, d2] }
  | _ => none }
def TermListedWrongFalsely : Prop := termListedRow.holds Try.pinned (OpenSpec.ofChange termListedWrong)

/- THE SECOND FORM. 'bulk': how many values and letters a reading holds, each counted each time it is reached (what is shared counts as often as it is met; a slice's spare places count too). A statement '..UptoSaid' is the law's where the arguments, and the package variables that the reading takes, are together of bulk at most 1048576: NARROWER than '..Said'. Prove '..Said' where nothing that the law and all that it calls make is longer than what came in: it says more and counts as full. Else prove '..UptoSaid'. A law counts once. -/
mutual
def uptoBulk {H : Type} : DataW H → Nat
  | .lit (.string bytes) => bytes.length + 1
  | .lit _ => 1
  | .nil => 1
  | .ptr d => uptoBulk d + 1
  | .slice elems spare => uptoBulkAll elems + uptoBulkAll spare + 1
  | .agg parts => uptoBulkAll parts + 1
  | .iface _ d => uptoBulk d + 1
  | .map entries => uptoBulkEntries entries + 1
  | .held _ => 1
def uptoBulkAll {H : Type} : List (DataW H) → Nat
  | [] => 0
  | d :: r => uptoBulk d + uptoBulkAll r
def uptoBulkEntries {H : Type} : List (Lit × DataW H) → Nat
  | [] => 0
  | x :: r => uptoBulkEntry x + uptoBulkEntries r
def uptoBulkEntry {H : Type} : Lit × DataW H → Nat
  | (.string bytes, d) => bytes.length + uptoBulk d + 1
  | (_, d) => uptoBulk d + 1
 end
def uptoSmall : (H : Type) → List (DataW H) → Bool := fun _ ds => decide (uptoBulkAll ds ≤ 1048576)
def OpenSpec.upto (s : _root_.Go.ChangeSpec) : _root_.Go.OpenSpec := { _root_.Go.OpenSpec.ofChange s with cond := some uptoSmall }

/-- 'hornbeamlaw03.TermAlike', WHERE WHAT IT READS IS OF BULK AT MOST 1048576: true; the input reads as it did. -/
def termAlikeUptoRow : OpenClaim := { program := "ytdgflagafilobaa", sum := "58b20abac95bb34904c907ac2b25c538d449b65be28cf93e14385d4ea77a473c", func := "hornbeam/hornbeamlaw03.TermAlike", spec := "termAlike", unfollowed := true, recurses := true, loops := true, apart := false, narrowed := true }
def TermAlikeUptoSaid : Prop := termAlikeUptoRow.holds Try.pinned (OpenSpec.upto termAlikeSpec)

/-- 'hornbeamlaw03.TermRenames', WHERE WHAT IT READS IS OF BULK AT MOST 1048576: true; the input reads as it did. -/
def termRenamesUptoRow : OpenClaim := { program := "ytdgflagafilobaa", sum := "58b20abac95bb34904c907ac2b25c538d449b65be28cf93e14385d4ea77a473c", func := "hornbeam/hornbeamlaw03.TermRenames", spec := "termRenames", unfollowed := true, recurses := true, loops := true, apart := false, narrowed := true }
def TermRenamesUptoSaid : Prop := termRenamesUptoRow.holds Try.pinned (OpenSpec.upto termRenamesSpec)

/-- 'hornbeamlaw03.TermReplaces', WHERE WHAT IT READS IS OF BULK AT MOST 1048576: true; the input reads as it did. -/
def termReplacesUptoRow : OpenClaim := { program := "ytdgflagafilobaa", sum := "58b20abac95bb34904c907ac2b25c538d449b65be28cf93e14385d4ea77a473c", func := "hornbeam/hornbeamlaw03.TermReplaces", spec := "termReplaces", unfollowed := true, recurses := true, loops := true, apart := false, narrowed := true }
def TermReplacesUptoSaid : Prop := termReplacesUptoRow.holds Try.pinned (OpenSpec.upto termReplacesSpec)

/-- 'hornbeamlaw03.TermMakes', WHERE WHAT IT READS IS OF BULK AT MOST 1048576: true; the input reads as it did. -/
def termMakesUptoRow : OpenClaim := { program := "ytdgflagafilobaa", sum := "58b20abac95bb34904c907ac2b25c538d449b65be28cf93e14385d4ea77a473c", func := "hornbeam/hornbeamlaw03.TermMakes", spec := "termMakes", unfollowed := true, recurses := true, loops := true, apart := false, narrowed := true }
def TermMakesUptoSaid : Prop := termMakesUptoRow.holds Try.pinned (OpenSpec.upto termMakesSpec)

/-- 'hornbeamlaw03.TermCanonical', WHERE WHAT IT READS IS OF BULK AT MOST 1048576: true; the input reads as it did. -/
def termCanonicalUptoRow : OpenClaim := { program := "ytdgflagafilobaa", sum := "58b20abac95bb34904c907ac2b25c538d449b65be28cf93e14385d4ea77a473c", func := "hornbeam/hornbeamlaw03.TermCanonical", spec := "termCanonical", unfollowed := true, recurses := true, loops := true, apart := false, narrowed := true }
def TermCanonicalUptoSaid : Prop := termCanonicalUptoRow.holds Try.pinned (OpenSpec.upto termCanonicalSpec)

/-- 'hornbeamlaw03.TermListed', WHERE WHAT IT READS IS OF BULK AT MOST 1048576: true; the input reads as it did. -/
def termListedUptoRow : OpenClaim := { program := "ytdgflagafilobaa", sum := "58b20abac95bb34904c907ac2b25c538d449b65be28cf93e14385d4ea77a473c", func := "hornbeam/hornbeamlaw03.TermListed", spec := "termListed", unfollowed := true, recurses := true, loops := true, apart := false, narrowed := true }
def TermListedUptoSaid : Prop := termListedUptoRow.holds Try.pinned (OpenSpec.upto termListedSpec)

end Rows
end Go.Proofs.Ytdgflagafilobaa
