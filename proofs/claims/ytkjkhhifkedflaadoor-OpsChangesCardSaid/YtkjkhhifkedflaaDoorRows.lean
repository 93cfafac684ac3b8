/-
  NARROWER THAN 'FOR EVERY INPUT', by the rows' own cells (each row's printed sentence says how): OpsExamples: laid · OpsDefault: laid · OpsLookups: laid · OpsSets: laid · OpsTypes: laid · OpsChanges: laid · OpsAgain: laid · OpsBounds: laid.
  DERIVED. THE GIVEN ROWS OF THIS SEAT. 8 by the template 'for every input the law returns true; each argument reads behind the call as it read before'; 0 by the template 'total and deterministic' (their statements: YtkjkhhifkedflaaDoorTotals.lean).
  GIVEN WITH THE SEED: the statements are not yours to turn. If you find one false, say at which input.
  Laid BY PROGRAM, IN A SANDBOX (cutbox-rows.mjs): the forced cells as the released guide's own fill.sh prints them over the translation dc1dc642cf8e9d44… (all of the seat's roots in one cut). By AI agents, Wed Nov 11 2026. No macro, syntax, notation, axiom, sorry.
-/
import Derived.Test.YtkjkhhifkedflaaDoorChecked
import GoSem.Claim
import GoSem.ClaimJoined
import GoSem.ClaimMapViews
import Derived.JoinedTies
import Derived.KernelRfl
namespace Go.Proofs.YtkjkhhifkedflaaDoor
/- THE CELL 'sum', in the pinned program and in every row, IS THE sha256 OF THE DUMP (.gsa) THAT YtkjkhhifkedflaaDoorProg.lean LOADS. Nothing in Lean hashes anything: it is a label: what it is worth is what the hold of that sum in a sandbox is worth. -/
noncomputable def Tryd.pinned : Pinned := { name := "ytkjkhhifkedflaadoor", sum := "dc1dc642cf8e9d443cd7799b96ba89a55da7a6804da28bce0c1ac2206e76dbb3", checked := Tryd.checked }
namespace Rows
def none {H : Type} : Left H := { results := [], args := [] }

/- WHAT THE LISTED PACKAGE-LEVEL VARIABLES READ AS WHEN THE CALL BEGINS. Each datum BY PROGRAM (the guide's laid-datum.mjs) off the statement by which the dump's own 'gosem.cut.vars' lays the variable. In a bare row this is a premise. The card (YtkjkhhifkedflaaDoorCards.lean) ties it to the program's text. -/
def laid_unicode_White_Space {H : Type} : DataW H := .ptr (.agg [.slice [.agg [.lit (.int .u16 9), .lit (.int .u16 13), .lit (.int .u16 1)], .agg [.lit (.int .u16 32), .lit (.int .u16 133), .lit (.int .u16 101)], .agg [.lit (.int .u16 160), .lit (.int .u16 5760), .lit (.int .u16 5600)], .agg [.lit (.int .u16 8192), .lit (.int .u16 8202), .lit (.int .u16 1)], .agg [.lit (.int .u16 8232), .lit (.int .u16 8233), .lit (.int .u16 1)], .agg [.lit (.int .u16 8239), .lit (.int .u16 8287), .lit (.int .u16 48)], .agg [.lit (.int .u16 12288), .lit (.int .u16 12288), .lit (.int .u16 1)]] [], .nil, .lit (.int .i64 2)])
def laid_strings_asciiSpace {H : Type} : DataW H := .agg [.lit (.int .u8 0), .lit (.int .u8 0), .lit (.int .u8 0), .lit (.int .u8 0), .lit (.int .u8 0), .lit (.int .u8 0), .lit (.int .u8 0), .lit (.int .u8 0), .lit (.int .u8 0), .lit (.int .u8 1), .lit (.int .u8 1), .lit (.int .u8 1), .lit (.int .u8 1), .lit (.int .u8 1), .lit (.int .u8 0), .lit (.int .u8 0), .lit (.int .u8 0), .lit (.int .u8 0), .lit (.int .u8 0), .lit (.int .u8 0), .lit (.int .u8 0), .lit (.int .u8 0), .lit (.int .u8 0), .lit (.int .u8 0), .lit (.int .u8 0), .lit (.int .u8 0), .lit (.int .u8 0), .lit (.int .u8 0), .lit (.int .u8 0), .lit (.int .u8 0), .lit (.int .u8 0), .lit (.int .u8 0), .lit (.int .u8 1), .lit (.int .u8 0), .lit (.int .u8 0), .lit (.int .u8 0), .lit (.int .u8 0), .lit (.int .u8 0), .lit (.int .u8 0), .lit (.int .u8 0), .lit (.int .u8 0), .lit (.int .u8 0), .lit (.int .u8 0), .lit (.int .u8 0), .lit (.int .u8 0), .lit (.int .u8 0), .lit (.int .u8 0), .lit (.int .u8 0), .lit (.int .u8 0), .lit (.int .u8 0), .lit (.int .u8 0), .lit (.int .u8 0), .lit (.int .u8 0), .lit (.int .u8 0), .lit (.int .u8 0), .lit (.int .u8 0), .lit (.int .u8 0), .lit (.int .u8 0), .lit (.int .u8 0), .lit (.int .u8 0), .lit (.int .u8 0), .lit (.int .u8 0), .lit (.int .u8 0), .lit (.int .u8 0), .lit (.int .u8 0), .lit (.int .u8 0), .lit (.int .u8 0), .lit (.int .u8 0), .lit (.int .u8 0), .lit (.int .u8 0), .lit (.int .u8 0), .lit (.int .u8 0), .lit (.int .u8 0), .lit (.int .u8 0), .lit (.int .u8 0), .lit (.int .u8 0), .lit (.int .u8 0), .lit (.int .u8 0), .lit (.int .u8 0), .lit (.int .u8 0), .lit (.int .u8 0), .lit (.int .u8 0), .lit (.int .u8 0), .lit (.int .u8 0), .lit (.int .u8 0), .lit (.int .u8 0), .lit (.int .u8 0), .lit (.int .u8 0), .lit (.int .u8 0), .lit (.int .u8 0), .lit (.int .u8 0), .lit (.int .u8 0), .lit (.int .u8 0), .lit (.int .u8 0), .lit (.int .u8 0), .lit (.int .u8 0), .lit (.int .u8 0), .lit (.int .u8 0), .lit (.int .u8 0), .lit (.int .u8 0), .lit (.int .u8 0), .lit (.int .u8 0), .lit (.int .u8 0), .lit (.int .u8 0), .lit (.int .u8 0), .lit (.int .u8 0), .lit (.int .u8 0), .lit (.int .u8 0), .lit (.int .u8 0), .lit (.int .u8 0), .lit (.int .u8 0), .lit (.int .u8 0), .lit (.int .u8 0), .lit (.int .u8 0), .lit (.int .u8 0), .lit (.int .u8 0), .lit (.int .u8 0), .lit (.int .u8 0), .lit (.int .u8 0), .lit (.int .u8 0), .lit (.int .u8 0), .lit (.int .u8 0), .lit (.int .u8 0), .lit (.int .u8 0), .lit (.int .u8 0), .lit (.int .u8 0), .lit (.int .u8 0), .lit (.int .u8 0), .lit (.int .u8 0), .lit (.int .u8 0), .lit (.int .u8 0), .lit (.int .u8 0), .lit (.int .u8 0), .lit (.int .u8 0), .lit (.int .u8 0), .lit (.int .u8 0), .lit (.int .u8 0), .lit (.int .u8 0), .lit (.int .u8 0), .lit (.int .u8 0), .lit (.int .u8 0), .lit (.int .u8 0), .lit (.int .u8 0), .lit (.int .u8 0), .lit (.int .u8 0), .lit (.int .u8 0), .lit (.int .u8 0), .lit (.int .u8 0), .lit (.int .u8 0), .lit (.int .u8 0), .lit (.int .u8 0), .lit (.int .u8 0), .lit (.int .u8 0), .lit (.int .u8 0), .lit (.int .u8 0), .lit (.int .u8 0), .lit (.int .u8 0), .lit (.int .u8 0), .lit (.int .u8 0), .lit (.int .u8 0), .lit (.int .u8 0), .lit (.int .u8 0), .lit (.int .u8 0), .lit (.int .u8 0), .lit (.int .u8 0), .lit (.int .u8 0), .lit (.int .u8 0), .lit (.int .u8 0), .lit (.int .u8 0), .lit (.int .u8 0), .lit (.int .u8 0), .lit (.int .u8 0), .lit (.int .u8 0), .lit (.int .u8 0), .lit (.int .u8 0), .lit (.int .u8 0), .lit (.int .u8 0), .lit (.int .u8 0), .lit (.int .u8 0), .lit (.int .u8 0), .lit (.int .u8 0), .lit (.int .u8 0), .lit (.int .u8 0), .lit (.int .u8 0), .lit (.int .u8 0), .lit (.int .u8 0), .lit (.int .u8 0), .lit (.int .u8 0), .lit (.int .u8 0), .lit (.int .u8 0), .lit (.int .u8 0), .lit (.int .u8 0), .lit (.int .u8 0), .lit (.int .u8 0), .lit (.int .u8 0), .lit (.int .u8 0), .lit (.int .u8 0), .lit (.int .u8 0), .lit (.int .u8 0), .lit (.int .u8 0), .lit (.int .u8 0), .lit (.int .u8 0), .lit (.int .u8 0), .lit (.int .u8 0), .lit (.int .u8 0), .lit (.int .u8 0), .lit (.int .u8 0), .lit (.int .u8 0), .lit (.int .u8 0), .lit (.int .u8 0), .lit (.int .u8 0), .lit (.int .u8 0), .lit (.int .u8 0), .lit (.int .u8 0), .lit (.int .u8 0), .lit (.int .u8 0), .lit (.int .u8 0), .lit (.int .u8 0), .lit (.int .u8 0), .lit (.int .u8 0), .lit (.int .u8 0), .lit (.int .u8 0), .lit (.int .u8 0), .lit (.int .u8 0), .lit (.int .u8 0), .lit (.int .u8 0), .lit (.int .u8 0), .lit (.int .u8 0), .lit (.int .u8 0), .lit (.int .u8 0), .lit (.int .u8 0), .lit (.int .u8 0), .lit (.int .u8 0), .lit (.int .u8 0), .lit (.int .u8 0), .lit (.int .u8 0), .lit (.int .u8 0), .lit (.int .u8 0), .lit (.int .u8 0), .lit (.int .u8 0), .lit (.int .u8 0), .lit (.int .u8 0), .lit (.int .u8 0), .lit (.int .u8 0), .lit (.int .u8 0), .lit (.int .u8 0), .lit (.int .u8 0), .lit (.int .u8 0), .lit (.int .u8 0), .lit (.int .u8 0), .lit (.int .u8 0), .lit (.int .u8 0), .lit (.int .u8 0), .lit (.int .u8 0), .lit (.int .u8 0), .lit (.int .u8 0)]
def laid_hornbeam_ops_kinds {H : Type} : DataW H := .agg [.agg [.lit (.string []), .lit (.int .i64 0), .lit (.int .i64 0), .lit (.int .i64 0)], .agg [.lit (.string [120, 102, 120]), .lit (.int .i64 2), .lit (.int .i64 1), .lit (.int .i64 1)], .agg [.lit (.string [120, 102, 121]), .lit (.int .i64 2), .lit (.int .i64 1), .lit (.int .i64 2)], .agg [.lit (.string [121, 102, 120]), .lit (.int .i64 2), .lit (.int .i64 2), .lit (.int .i64 1)], .agg [.lit (.string [102, 121]), .lit (.int .i64 1), .lit (.int .i64 0), .lit (.int .i64 2)], .agg [.lit (.string [102, 120]), .lit (.int .i64 1), .lit (.int .i64 0), .lit (.int .i64 1)], .agg [.lit (.string [120, 102]), .lit (.int .i64 3), .lit (.int .i64 1), .lit (.int .i64 0)], .agg [.lit (.string [121, 102]), .lit (.int .i64 3), .lit (.int .i64 2), .lit (.int .i64 0)]]
def laid_hornbeam_ops_predefined {H : Type} : DataW H := .agg [.agg [.lit (.int .i64 1200), .lit (.int .i64 1), .lit (.string [58, 45, 32, 45, 45, 62])], .agg [.lit (.int .i64 1200), .lit (.int .i64 5), .lit (.string [58, 45, 32, 63, 45])], .agg [.lit (.int .i64 1100), .lit (.int .i64 2), .lit (.string [59])], .agg [.lit (.int .i64 1050), .lit (.int .i64 2), .lit (.string [45, 62])], .agg [.lit (.int .i64 1000), .lit (.int .i64 2), .lit (.string [44])], .agg [.lit (.int .i64 900), .lit (.int .i64 4), .lit (.string [92, 43])], .agg [.lit (.int .i64 700), .lit (.int .i64 1), .lit (.string [61, 32, 92, 61, 32, 61, 61, 32, 92, 61, 61, 32, 64, 60, 32, 64, 61, 60, 32, 64, 62, 32, 64, 62, 61, 32, 61, 46, 46, 32, 105, 115, 32, 61, 58, 61, 32, 61, 92, 61, 32, 60, 32, 61, 60, 32, 62, 32, 62, 61])], .agg [.lit (.int .i64 500), .lit (.int .i64 3), .lit (.string [43, 32, 45, 32, 47, 92, 32, 92, 47])], .agg [.lit (.int .i64 400), .lit (.int .i64 3), .lit (.string [42, 32, 47, 32, 47, 47, 32, 114, 101, 109, 32, 109, 111, 100, 32, 100, 105, 118, 32, 60, 60, 32, 62, 62])], .agg [.lit (.int .i64 200), .lit (.int .i64 1), .lit (.string [42, 42])], .agg [.lit (.int .i64 200), .lit (.int .i64 2), .lit (.string [94])], .agg [.lit (.int .i64 200), .lit (.int .i64 4), .lit (.string [43, 32, 45, 32, 92])]]

/-- 'hornbeamlaw07.OpsExamples': WHATEVER THE INPUT: true; the input reads as it did. -/
def opsExamplesSpec : ChangeSpec := { name := "opsExamples", fn := fun _ => fun
  | [] => { results := [.lit (.bool true)], args := [] }
  | _ => none }
def opsExamplesRow : OpenClaim := { program := "ytkjkhhifkedflaadoor", sum := "dc1dc642cf8e9d443cd7799b96ba89a55da7a6804da28bce0c1ac2206e76dbb3", func := "hornbeam/hornbeamlaw07.OpsExamples", spec := "opsExamples", inPlace := ["slices.overlaps[hornbeam/api.Op]"], unfollowed := true, recurses := true, named := ["hornbeam/ops.predefined", "strings.asciiSpace", "unicode.White_Space", "hornbeam/ops.kinds"], apart := false, laid := [("unicode.White_Space", laid_unicode_White_Space), ("strings.asciiSpace", laid_strings_asciiSpace), ("hornbeam/ops.kinds", laid_hornbeam_ops_kinds), ("hornbeam/ops.predefined", laid_hornbeam_ops_predefined)] }
def OpsExamplesSaid : Prop := opsExamplesRow.holds Tryd.pinned (OpenSpec.ofChange opsExamplesSpec)

/-- ITS FALSE NEIGHBOUR: 'it returns false'. Refute it at one input. -/
def opsExamplesWrong : ChangeSpec := { name := "opsExamples", fn := fun _ => fun
  | [] => { results := [.lit (.bool false)], args := [] }
  | _ => none }
def OpsExamplesWrongFalsely : Prop := opsExamplesRow.holds Tryd.pinned (OpenSpec.ofChange opsExamplesWrong)

/-- 'hornbeamlaw07.OpsDefault': WHATEVER THE INPUT: true; the input reads as it did. -/
def opsDefaultSpec : ChangeSpec := { name := "opsDefault", fn := fun _ => fun
  | [] => { results := [.lit (.bool true)], args := [] }
  | _ => none }
def opsDefaultRow : OpenClaim := { program := "ytkjkhhifkedflaadoor", sum := "dc1dc642cf8e9d443cd7799b96ba89a55da7a6804da28bce0c1ac2206e76dbb3", func := "hornbeam/hornbeamlaw07.OpsDefault", spec := "opsDefault", inPlace := ["slices.overlaps[hornbeam/api.Op]"], unfollowed := true, recurses := true, named := ["hornbeam/ops.predefined", "strings.asciiSpace", "unicode.White_Space", "hornbeam/ops.kinds"], apart := false, laid := [("unicode.White_Space", laid_unicode_White_Space), ("strings.asciiSpace", laid_strings_asciiSpace), ("hornbeam/ops.kinds", laid_hornbeam_ops_kinds), ("hornbeam/ops.predefined", laid_hornbeam_ops_predefined)] }
def OpsDefaultSaid : Prop := opsDefaultRow.holds Tryd.pinned (OpenSpec.ofChange opsDefaultSpec)

/-- ITS FALSE NEIGHBOUR: 'it returns false'. Refute it at one input. -/
def opsDefaultWrong : ChangeSpec := { name := "opsDefault", fn := fun _ => fun
  | [] => { results := [.lit (.bool false)], args := [] }
  | _ => none }
def OpsDefaultWrongFalsely : Prop := opsDefaultRow.holds Tryd.pinned (OpenSpec.ofChange opsDefaultWrong)

/-- 'hornbeamlaw07.OpsLookups': WHATEVER THE INPUT: true; the input reads as it did. -/
def opsLookupsSpec : ChangeSpec := { name := "opsLookups", fn := fun _ => fun
  | [d1, d2] => { results := [.lit (.bool true)], args := [d1, d2] }
  | _ => none }
def opsLookupsRow : OpenClaim := { program := "ytkjkhhifkedflaadoor", sum := "dc1dc642cf8e9d443cd7799b96ba89a55da7a6804da28bce0c1ac2206e76dbb3", func := "hornbeam/hornbeamlaw07.OpsLookups", spec := "opsLookups", inPlace := ["slices.overlaps[hornbeam/api.Op]"], unfollowed := true, recurses := true, named := ["hornbeam/ops.predefined", "strings.asciiSpace", "unicode.White_Space", "hornbeam/ops.kinds"], apart := false, laid := [("unicode.White_Space", laid_unicode_White_Space), ("strings.asciiSpace", laid_strings_asciiSpace), ("hornbeam/ops.kinds", laid_hornbeam_ops_kinds), ("hornbeam/ops.predefined", laid_hornbeam_ops_predefined)] }
def OpsLookupsSaid : Prop := opsLookupsRow.holds Tryd.pinned (OpenSpec.ofChange opsLookupsSpec)

/-- ITS FALSE NEIGHBOUR: 'it returns false'. Refute it at one input. -/
def opsLookupsWrong : ChangeSpec := { name := "opsLookups", fn := fun _ => fun
  | [d1, d2] => { results := [.lit (.bool false)], args := [d1, d2] }
  | _ => none }
def OpsLookupsWrongFalsely : Prop := opsLookupsRow.holds Tryd.pinned (OpenSpec.ofChange opsLookupsWrong)

/-- 'hornbeamlaw07.OpsSets': WHATEVER THE INPUT: true; the input reads as it did. -/
def opsSetsSpec : ChangeSpec := { name := "opsSets", fn := fun _ => fun
  | [d1, d2, d3, d4] => { results := [.lit (.bool true)], args := [d1, d2, d3, d4] }
  | _ => none }
def opsSetsRow : OpenClaim := { program := "ytkjkhhifkedflaadoor", sum := "dc1dc642cf8e9d443cd7799b96ba89a55da7a6804da28bce0c1ac2206e76dbb3", func := "hornbeam/hornbeamlaw07.OpsSets", spec := "opsSets", inPlace := ["slices.overlaps[hornbeam/api.Op]"], unfollowed := true, recurses := true, named := ["hornbeam/ops.predefined", "strings.asciiSpace", "unicode.White_Space", "hornbeam/ops.kinds"], apart := false, laid := [("unicode.White_Space", laid_unicode_White_Space), ("strings.asciiSpace", laid_strings_asciiSpace), ("hornbeam/ops.kinds", laid_hornbeam_ops_kinds), ("hornbeam/ops.predefined", laid_hornbeam_ops_predefined)] }
def OpsSetsSaid : Prop := opsSetsRow.holds Tryd.pinned (OpenSpec.ofChange opsSetsSpec)

/-- ITS FALSE NEIGHBOUR: 'it returns false'. Refute it at one input. -/
def opsSetsWrong : ChangeSpec := { name := "opsSets", fn := fun _ => fun
  | [d1, d2, d3, d4] => { results := [.lit (.bool false)], args := [d1, d2, d3, d4] }
  | _ => none }
def OpsSetsWrongFalsely : Prop := opsSetsRow.holds Tryd.pinned (OpenSpec.ofChange opsSetsWrong)

/-- 'hornbeamlaw07.OpsTypes': WHATEVER THE INPUT: true; the input reads as it did. -/
def opsTypesSpec : ChangeSpec := { name := "opsTypes", fn := fun _ => fun
  | [d1, d2, d3] => { results := [.lit (.bool true)], args := [d1, d2, d3] }
  | _ => none }
def opsTypesRow : OpenClaim := { program := "ytkjkhhifkedflaadoor", sum := "dc1dc642cf8e9d443cd7799b96ba89a55da7a6804da28bce0c1ac2206e76dbb3", func := "hornbeam/hornbeamlaw07.OpsTypes", spec := "opsTypes", inPlace := ["slices.overlaps[hornbeam/api.Op]"], unfollowed := true, recurses := true, named := ["hornbeam/ops.kinds", "hornbeam/ops.predefined", "strings.asciiSpace", "unicode.White_Space"], apart := false, laid := [("unicode.White_Space", laid_unicode_White_Space), ("strings.asciiSpace", laid_strings_asciiSpace), ("hornbeam/ops.kinds", laid_hornbeam_ops_kinds), ("hornbeam/ops.predefined", laid_hornbeam_ops_predefined)] }
def OpsTypesSaid : Prop := opsTypesRow.holds Tryd.pinned (OpenSpec.ofChange opsTypesSpec)

/-- ITS FALSE NEIGHBOUR: 'it returns false'. Refute it at one input. -/
def opsTypesWrong : ChangeSpec := { name := "opsTypes", fn := fun _ => fun
  | [d1, d2, d3] => { results := [.lit (.bool false)], args := [d1, d2, d3] }
  | _ => none }
def OpsTypesWrongFalsely : Prop := opsTypesRow.holds Tryd.pinned (OpenSpec.ofChange opsTypesWrong)

/-- 'hornbeamlaw07.OpsChanges': WHATEVER THE INPUT: true; the input reads as it did. -/
def opsChangesSpec : ChangeSpec := { name := "opsChanges", fn := fun _ => fun
  | [d1, d2, d3, d4, d5, d6] => { results := [.lit (.bool true)], args := [d1, d2, d3, d4, d5, d6] }
  | _ => none }
def opsChangesRow : OpenClaim := { program := "ytkjkhhifkedflaadoor", sum := "dc1dc642cf8e9d443cd7799b96ba89a55da7a6804da28bce0c1ac2206e76dbb3", func := "hornbeam/hornbeamlaw07.OpsChanges", spec := "opsChanges", inPlace := ["slices.overlaps[hornbeam/api.Op]"], unfollowed := true, recurses := true, named := ["hornbeam/ops.predefined", "strings.asciiSpace", "unicode.White_Space", "hornbeam/ops.kinds"], apart := false, laid := [("unicode.White_Space", laid_unicode_White_Space), ("strings.asciiSpace", laid_strings_asciiSpace), ("hornbeam/ops.kinds", laid_hornbeam_ops_kinds), ("hornbeam/ops.predefined", laid_hornbeam_ops_predefined)] }
def OpsChangesSaid : Prop := opsChangesRow.holds Tryd.pinned (OpenSpec.ofChange opsChangesSpec)

/-- ITS FALSE NEIGHBOUR: 'it returns false'. Refute it at one input. -/
def opsChangesWrong : ChangeSpec := { name := "opsChanges", fn := fun _ => fun
  | [d1, d2, d3, d4, d5, d6] => { results := [.lit (.bool false)], args := [d1, d2, d3, d4, d5, d6] }
  | _ => none }
def OpsChangesWrongFalsely : Prop := opsChangesRow.holds Tryd.pinned (OpenSpec.ofChange opsChangesWrong)

/-- 'hornbeamlaw07.OpsAgain': WHATEVER THE INPUT: true; the input reads as it did. -/
def opsAgainSpec : ChangeSpec := { name := "opsAgain", fn := fun _ => fun
  | [d1, d2, d3, d4] => { results := [.lit (.bool true)], args := [d1, d2, d3, d4] }
  | _ => none }
def opsAgainRow : OpenClaim := { program := "ytkjkhhifkedflaadoor", sum := "dc1dc642cf8e9d443cd7799b96ba89a55da7a6804da28bce0c1ac2206e76dbb3", func := "hornbeam/hornbeamlaw07.OpsAgain", spec := "opsAgain", inPlace := ["slices.overlaps[hornbeam/api.Op]"], unfollowed := true, recurses := true, named := ["hornbeam/ops.predefined", "strings.asciiSpace", "unicode.White_Space", "hornbeam/ops.kinds"], apart := false, laid := [("unicode.White_Space", laid_unicode_White_Space), ("strings.asciiSpace", laid_strings_asciiSpace), ("hornbeam/ops.kinds", laid_hornbeam_ops_kinds), ("hornbeam/ops.predefined", laid_hornbeam_ops_predefined)] }
def OpsAgainSaid : Prop := opsAgainRow.holds Tryd.pinned (OpenSpec.ofChange opsAgainSpec)

/-- ITS FALSE NEIGHBOUR: 'it returns false'. Refute it at one input. -/
def opsAgainWrong : ChangeSpec := { name := "opsAgain", fn := fun _ => fun
  | [d1, d2, d3, d4] => { results := [.lit (.bool false)], args := [d1, d2, d3, d4] }
  | _ => none }
def OpsAgainWrongFalsely : Prop := opsAgainRow.holds Tryd.pinned (OpenSpec.ofChange opsAgainWrong)

/-- 'hornbeamlaw07.OpsBounds': WHATEVER THE INPUT: true; the input reads as it did. -/
def opsBoundsSpec : ChangeSpec := { name := "opsBounds", fn := fun _ => fun
  | [d1, d2] => { results := [.lit (.bool true)], args := [d1, d2] }
  | _ => none }
def opsBoundsRow : OpenClaim := { program := "ytkjkhhifkedflaadoor", sum := "dc1dc642cf8e9d443cd7799b96ba89a55da7a6804da28bce0c1ac2206e76dbb3", func := "hornbeam/hornbeamlaw07.OpsBounds", spec := "opsBounds", inPlace := ["slices.overlaps[hornbeam/api.Op]"], unfollowed := true, recurses := true, named := ["hornbeam/ops.predefined", "strings.asciiSpace", "unicode.White_Space", "hornbeam/ops.kinds"], apart := false, laid := [("unicode.White_Space", laid_unicode_White_Space), ("strings.asciiSpace", laid_strings_asciiSpace), ("hornbeam/ops.kinds", laid_hornbeam_ops_kinds), ("hornbeam/ops.predefined", laid_hornbeam_ops_predefined)] }
def OpsBoundsSaid : Prop := opsBoundsRow.holds Tryd.pinned (OpenSpec.ofChange opsBoundsSpec)

/-- ITS FALSE NEIGHBOUR: 'it returns false'. Refute it at one input. -/
def opsBoundsWrong : ChangeSpec := { name := "opsBounds", fn := fun _ => fun
  | [d1, d2] => { results := [.lit (.bool false)], args := [d1, d2] }
  | _ => none }
def OpsBoundsWrongFalsely : Prop := opsBoundsRow.holds Tryd.pinned (OpenSpec.ofChange opsBoundsWrong)

/- THE SECOND FORM. 'bulk': how many values and letters a reading holds, each counted each time it is reached (what is shared counts as often as it is met; a slice's spare places count too). A statement '..UptoSaid' is the law's where the arguments, and the package variables that the reading takes, are together of bulk at most 1048576: NARROWER than '..Said'. Prove '..Said' where nothing that the law and all that it calls make is longer than what came in: it says more and counts as full. Else prove '..UptoSaid'. A law counts once. -/
mutual
def uptoBulk {H : Type} : DataW H → Nat
  | .lit (.string bytes) => bytes.length + 1
  | .lit _ => 1
  | .nil => 1
  | .ptr d => uptoBulk d + 1
  | .slice elems spare => uptoBulkAll elems + uptoBulkAll spare + 1
  | .agg parts => uptoBulkAll parts + 1
  | .iface _ d => uptoBulk d + 1
  | .map entries => uptoBulkEntries entries + 1
  | .held _ => 1
def uptoBulkAll {H : Type} : List (DataW H) → Nat
  | [] => 0
  | d :: r => uptoBulk d + uptoBulkAll r
def uptoBulkEntries {H : Type} : List (Lit × DataW H) → Nat
  | [] => 0
  | x :: r => uptoBulkEntry x + uptoBulkEntries r
def uptoBulkEntry {H : Type} : Lit × DataW H → Nat
  | (.string bytes, d) => bytes.length + uptoBulk d + 1
  | (_, d) => uptoBulk d + 1
 end
def uptoSmall : (H : Type) → List (DataW H) → Bool := fun _ ds => decide (uptoBulkAll ds ≤ 1048576)
def OpenSpec.upto (s : _root_.Go.ChangeSpec) : _root_.Go.OpenSpec := { _root_.Go.OpenSpec.ofChange s with cond := some uptoSmall }

/-- 'hornbeamlaw07.OpsExamples', WHERE WHAT IT READS IS OF BULK AT MOST 1048576: true; the input reads as it did. -/
def opsExamplesUptoRow : OpenClaim := { program := "ytkjkhhifkedflaadoor", sum := "dc1dc642cf8e9d443cd7799b96ba89a55da7a6804da28bce0c1ac2206e76dbb3", func := "hornbeam/hornbeamlaw07.OpsExamples", spec := "opsExamples", inPlace := ["slices.overlaps[hornbeam/api.Op]"], unfollowed := true, recurses := true, named := ["hornbeam/ops.predefined", "strings.asciiSpace", "unicode.White_Space", "hornbeam/ops.kinds"], apart := false, laid := [("unicode.White_Space", laid_unicode_White_Space), ("strings.asciiSpace", laid_strings_asciiSpace), ("hornbeam/ops.kinds", laid_hornbeam_ops_kinds), ("hornbeam/ops.predefined", laid_hornbeam_ops_predefined)], narrowed := true }
def OpsExamplesUptoSaid : Prop := opsExamplesUptoRow.holds Tryd.pinned (OpenSpec.upto opsExamplesSpec)

/-- 'hornbeamlaw07.OpsDefault', WHERE WHAT IT READS IS OF BULK AT MOST 1048576: true; the input reads as it did. -/
def opsDefaultUptoRow : OpenClaim := { program := "ytkjkhhifkedflaadoor", sum := "dc1dc642cf8e9d443cd7799b96ba89a55da7a6804da28bce0c1ac2206e76dbb3", func := "hornbeam/hornbeamlaw07.OpsDefault", spec := "opsDefault", inPlace := ["slices.overlaps[hornbeam/api.Op]"], unfollowed := true, recurses := true, named := ["hornbeam/ops.predefined", "strings.asciiSpace", "unicode.White_Space", "hornbeam/ops.kinds"], apart := false, laid := [("unicode.White_Space", laid_unicode_White_Space), ("strings.asciiSpace", laid_strings_asciiSpace), ("hornbeam/ops.kinds", laid_hornbeam_ops_kinds), ("hornbeam/ops.predefined", laid_hornbeam_ops_predefined)], narrowed := true }
def OpsDefaultUptoSaid : Prop := opsDefaultUptoRow.holds Tryd.pinned (OpenSpec.upto opsDefaultSpec)

/-- 'hornbeamlaw07.OpsLookups', WHERE WHAT IT READS IS OF BULK AT MOST 1048576: true; the input reads as it did. -/
def opsLookupsUptoRow : OpenClaim := { program := "ytkjkhhifkedflaadoor", sum := "dc1dc642cf8e9d443cd7799b96ba89a55da7a6804da28bce0c1ac2206e76dbb3", func := "hornbeam/hornbeamlaw07.OpsLookups", spec := "opsLookups", inPlace := ["slices.overlaps[hornbeam/api.Op]"], unfollowed := true, recurses := true, named := ["hornbeam/ops.predefined", "strings.asciiSpace", "unicode.White_Space", "hornbeam/ops.kinds"], apart := false, laid := [("unicode.White_Space", laid_unicode_White_Space), ("strings.asciiSpace", laid_strings_asciiSpace), ("hornbeam/ops.kinds", laid_hornbeam_ops_kinds), ("hornbeam/ops.predefined", laid_hornbeam_ops_predefined)], narrowed := true }
def OpsLookupsUptoSaid : Prop := opsLookupsUptoRow.holds Tryd.pinned (OpenSpec.upto opsLookupsSpec)

/-- 'hornbeamlaw07.OpsSets', WHERE WHAT IT READS IS OF BULK AT MOST 1048576: true; the input reads as it did. -/
def opsSetsUptoRow : OpenClaim := { program := "ytkjkhhifkedflaadoor", sum := "dc1dc642cf8e9d443cd7799b96ba89a55da7a6804da28bce0c1ac2206e76dbb3", func := "hornbeam/hornbeamlaw07.OpsSets", spec := "opsSets", inPlace := ["slices.overlaps[hornbeam/api.Op]"], unfollowed := true, recurses := true, named := ["hornbeam/ops.predefined", "strings.asciiSpace", "unicode.White_Space", "hornbeam/ops.kinds"], apart := false, laid := [("unicode.White_Space", laid_unicode_White_Space), ("strings.asciiSpace", laid_strings_asciiSpace), ("hornbeam/ops.kinds", laid_hornbeam_ops_kinds), ("hornbeam/ops.predefined", laid_hornbeam_ops_predefined)], narrowed := true }
def OpsSetsUptoSaid : Prop := opsSetsUptoRow.holds Tryd.pinned (OpenSpec.upto opsSetsSpec)

/-- 'hornbeamlaw07.OpsTypes', WHERE WHAT IT READS IS OF BULK AT MOST 1048576: true; the input reads as it did. -/
def opsTypesUptoRow : OpenClaim := { program := "ytkjkhhifkedflaadoor", sum := "dc1dc642cf8e9d443cd7799b96ba89a55da7a6804da28bce0c1ac2206e76dbb3", func := "hornbeam/hornbeamlaw07.OpsTypes", spec := "opsTypes", inPlace := ["slices.overlaps[hornbeam/api.Op]"], unfollowed := true, recurses := true, named := ["hornbeam/ops.kinds", "hornbeam/ops.predefined", "strings.asciiSpace", "unicode.White_Space"], apart := false, laid := [("unicode.White_Space", laid_unicode_White_Space), ("strings.asciiSpace", laid_strings_asciiSpace), ("hornbeam/ops.kinds", laid_hornbeam_ops_kinds), ("hornbeam/ops.predefined", laid_hornbeam_ops_predefined)], narrowed := true }
def OpsTypesUptoSaid : Prop := opsTypesUptoRow.holds Tryd.pinned (OpenSpec.upto opsTypesSpec)

/-- 'hornbeamlaw07.OpsChanges', WHERE WHAT IT READS IS OF BULK AT MOST 1048576: true; the input reads as it did. -/
def opsChangesUptoRow : OpenClaim := { program := "ytkjkhhifkedflaadoor", sum := "dc1dc642cf8e9d443cd7799b96ba89a55da7a6804da28bce0c1ac2206e76dbb3", func := "hornbeam/hornbeamlaw07.OpsChanges", spec := "opsChanges", inPlace := ["slices.overlaps[hornbeam/api.Op]"], unfollowed := true, recurses := true, named := ["hornbeam/ops.predefined", "strings.asciiSpace", "unicode.White_Space", "hornbeam/ops.kinds"], apart := false, laid := [("unicode.White_Space", laid_unicode_White_Space), ("strings.asciiSpace", laid_strings_asciiSpace), ("hornbeam/ops.kinds", laid_hornbeam_ops_kinds), ("hornbeam/ops.predefined", laid_hornbeam_ops_predefined)], narrowed := true }
def OpsChangesUptoSaid : Prop := opsChangesUptoRow.holds Tryd.pinned (OpenSpec.upto opsChangesSpec)

/-- 'hornbeamlaw07.OpsAgain', WHERE WHAT IT READS IS OF BULK AT MOST 1048576: true; the input reads as it did. -/
def opsAgainUptoRow : OpenClaim := { program := "ytkjkhhifkedflaadoor", sum := "dc1dc642cf8e9d443cd7799b96ba89a55da7a6804da28bce0c1ac2206e76dbb3", func := "hornbeam/hornbeamlaw07.OpsAgain", spec := "opsAgain", inPlace := ["slices.overlaps[hornbeam/api.Op]"], unfollowed := true, recurses := true, named := ["hornbeam/ops.predefined", "strings.asciiSpace", "unicode.White_Space", "hornbeam/ops.kinds"], apart := false, laid := [("unicode.White_Space", laid_unicode_White_Space), ("strings.asciiSpace", laid_strings_asciiSpace), ("hornbeam/ops.kinds", laid_hornbeam_ops_kinds), ("hornbeam/ops.predefined", laid_hornbeam_ops_predefined)], narrowed := true }
def OpsAgainUptoSaid : Prop := opsAgainUptoRow.holds Tryd.pinned (OpenSpec.upto opsAgainSpec)

/-- 'hornbeamlaw07.OpsBounds', WHERE WHAT IT READS IS OF BULK AT MOST 1048576: true; the input reads as it did. -/
def opsBoundsUptoRow : OpenClaim := { program := "ytkjkhhifkedflaadoor", sum := "dc1dc642cf8e9d443cd7799b96ba89a55da7a6804da28bce0c1ac2206e76dbb3", func := "hornbeam/hornbeamlaw07.OpsBounds", spec := "opsBounds", inPlace := ["slices.overlaps[hornbeam/api.Op]"], unfollowed := true, recurses := true, named := ["hornbeam/ops.predefined", "strings.asciiSpace", "unicode.White_Space", "hornbeam/ops.kinds"], apart := false, laid := [("unicode.White_Space", laid_unicode_White_Space), ("strings.asciiSpace", laid_strings_asciiSpace), ("hornbeam/ops.kinds", laid_hornbeam_ops_kinds), ("hornbeam/ops.predefined", laid_hornbeam_ops_predefined)], narrowed := true }
def OpsBoundsUptoSaid : Prop := opsBoundsUptoRow.holds Tryd.pinned (OpenSpec.upto opsBoundsSpec)

end Rows
end Go.Proofs.YtkjkhhifkedflaaDoor
