/-
  DERIVED. GIVEN WITH THE SEED: THE CARDS: each row of YtkjkhhifkedflaaDoorRows.lean that lists a variable, with what it lists TIED to the program's text (the seventh form; the later family's looks); each row that meets fmt, with fmt's text TOLD by the authors' own Lean function (tested against real Go, not proved from fmt's source: count such statements apart). THE CARD IS WHAT COUNTS. Prove the row's statement (the work); the ties are given (YtkjkhhifkedflaaDoorTie.lean); close each card by the builder's one call (the guide's Derived/Test/ToyasCard.lean, 'card_holds'). Laid BY PROGRAM, IN A SANDBOX (cutbox-door.mjs). By AI agents, Wed Nov 11 2026. No macro, syntax, notation, axiom, sorry.
-/
import Derived.Test.YtkjkhhifkedflaaDoorRows
import GoSem.ClaimSeven
namespace Go.Proofs.YtkjkhhifkedflaaDoor
namespace Rows

/-- THE TIED CARD OF 'hornbeamlaw07.OpsExamples'. -/
def opsExamplesCard : Claim7 := { stood := { row := opsExamplesRow, standIns := [], harness := (true, "e9612cf0037b19cfdb47e3c4e433cc2946ff9aa05485650156249bcfbc22b7e8"), looks := false }, kinds := [], alts := [], laidByText := true, laidKinds := [.listed, .data, .data, .data], laidTests := true, laidLooks := .later }
def OpsExamplesCardSaid : Prop := Claim7.holds Tryd.pinned (.plain (OpenSpec.ofChange opsExamplesSpec)) opsExamplesCard

/-- THE TIED CARD OF 'hornbeamlaw07.OpsDefault'. -/
def opsDefaultCard : Claim7 := { stood := { row := opsDefaultRow, standIns := [], harness := (true, "e9612cf0037b19cfdb47e3c4e433cc2946ff9aa05485650156249bcfbc22b7e8"), looks := false }, kinds := [], alts := [], laidByText := true, laidKinds := [.listed, .data, .data, .data], laidTests := true, laidLooks := .later }
def OpsDefaultCardSaid : Prop := Claim7.holds Tryd.pinned (.plain (OpenSpec.ofChange opsDefaultSpec)) opsDefaultCard

/-- THE TIED CARD OF 'hornbeamlaw07.OpsLookups'. -/
def opsLookupsCard : Claim7 := { stood := { row := opsLookupsRow, standIns := [], harness := (true, "e9612cf0037b19cfdb47e3c4e433cc2946ff9aa05485650156249bcfbc22b7e8"), looks := false }, kinds := [], alts := [], laidByText := true, laidKinds := [.listed, .data, .data, .data], laidTests := true, laidLooks := .later }
def OpsLookupsCardSaid : Prop := Claim7.holds Tryd.pinned (.plain (OpenSpec.ofChange opsLookupsSpec)) opsLookupsCard

/-- THE TIED CARD OF 'hornbeamlaw07.OpsSets'. -/
def opsSetsCard : Claim7 := { stood := { row := opsSetsRow, standIns := [], harness := (true, "e9612cf0037b19cfdb47e3c4e433cc2946ff9aa05485650156249bcfbc22b7e8"), looks := false }, kinds := [], alts := [], laidByText := true, laidKinds := [.listed, .data, .data, .data], laidTests := true, laidLooks := .later }
def OpsSetsCardSaid : Prop := Claim7.holds Tryd.pinned (.plain (OpenSpec.ofChange opsSetsSpec)) opsSetsCard

/-- THE TIED CARD OF 'hornbeamlaw07.OpsTypes'. -/
def opsTypesCard : Claim7 := { stood := { row := opsTypesRow, standIns := [], harness := (true, "e9612cf0037b19cfdb47e3c4e433cc2946ff9aa05485650156249bcfbc22b7e8"), looks := false }, kinds := [], alts := [], laidByText := true, laidKinds := [.listed, .data, .data, .data], laidTests := true, laidLooks := .later }
def OpsTypesCardSaid : Prop := Claim7.holds Tryd.pinned (.plain (OpenSpec.ofChange opsTypesSpec)) opsTypesCard

/-- THE TIED CARD OF 'hornbeamlaw07.OpsChanges'. -/
def opsChangesCard : Claim7 := { stood := { row := opsChangesRow, standIns := [], harness := (true, "e9612cf0037b19cfdb47e3c4e433cc2946ff9aa05485650156249bcfbc22b7e8"), looks := false }, kinds := [], alts := [], laidByText := true, laidKinds := [.listed, .data, .data, .data], laidTests := true, laidLooks := .later }
def OpsChangesCardSaid : Prop := Claim7.holds Tryd.pinned (.plain (OpenSpec.ofChange opsChangesSpec)) opsChangesCard

/-- THE TIED CARD OF 'hornbeamlaw07.OpsAgain'. -/
def opsAgainCard : Claim7 := { stood := { row := opsAgainRow, standIns := [], harness := (true, "e9612cf0037b19cfdb47e3c4e433cc2946ff9aa05485650156249bcfbc22b7e8"), looks := false }, kinds := [], alts := [], laidByText := true, laidKinds := [.listed, .data, .data, .data], laidTests := true, laidLooks := .later }
def OpsAgainCardSaid : Prop := Claim7.holds Tryd.pinned (.plain (OpenSpec.ofChange opsAgainSpec)) opsAgainCard

/-- THE TIED CARD OF 'hornbeamlaw07.OpsBounds'. -/
def opsBoundsCard : Claim7 := { stood := { row := opsBoundsRow, standIns := [], harness := (true, "e9612cf0037b19cfdb47e3c4e433cc2946ff9aa05485650156249bcfbc22b7e8"), looks := false }, kinds := [], alts := [], laidByText := true, laidKinds := [.listed, .data, .data, .data], laidTests := true, laidLooks := .later }
def OpsBoundsCardSaid : Prop := Claim7.holds Tryd.pinned (.plain (OpenSpec.ofChange opsBoundsSpec)) opsBoundsCard

/-- THE SECOND FORM's CARD OF 'hornbeamlaw07.OpsExamples'. -/
def opsExamplesUptoCard : Claim7 := { stood := { row := opsExamplesUptoRow, standIns := [], harness := (true, "e9612cf0037b19cfdb47e3c4e433cc2946ff9aa05485650156249bcfbc22b7e8"), looks := false }, kinds := [], alts := [], laidByText := true, laidKinds := [.listed, .data, .data, .data], laidTests := true, laidLooks := .later }
def OpsExamplesUptoCardSaid : Prop := Claim7.holds Tryd.pinned (.plain (OpenSpec.upto opsExamplesSpec)) opsExamplesUptoCard

/-- THE SECOND FORM's CARD OF 'hornbeamlaw07.OpsDefault'. -/
def opsDefaultUptoCard : Claim7 := { stood := { row := opsDefaultUptoRow, standIns := [], harness := (true, "e9612cf0037b19cfdb47e3c4e433cc2946ff9aa05485650156249bcfbc22b7e8"), looks := false }, kinds := [], alts := [], laidByText := true, laidKinds := [.listed, .data, .data, .data], laidTests := true, laidLooks := .later }
def OpsDefaultUptoCardSaid : Prop := Claim7.holds Tryd.pinned (.plain (OpenSpec.upto opsDefaultSpec)) opsDefaultUptoCard

/-- THE SECOND FORM's CARD OF 'hornbeamlaw07.OpsLookups'. -/
def opsLookupsUptoCard : Claim7 := { stood := { row := opsLookupsUptoRow, standIns := [], harness := (true, "e9612cf0037b19cfdb47e3c4e433cc2946ff9aa05485650156249bcfbc22b7e8"), looks := false }, kinds := [], alts := [], laidByText := true, laidKinds := [.listed, .data, .data, .data], laidTests := true, laidLooks := .later }
def OpsLookupsUptoCardSaid : Prop := Claim7.holds Tryd.pinned (.plain (OpenSpec.upto opsLookupsSpec)) opsLookupsUptoCard

/-- THE SECOND FORM's CARD OF 'hornbeamlaw07.OpsSets'. -/
def opsSetsUptoCard : Claim7 := { stood := { row := opsSetsUptoRow, standIns := [], harness := (true, "e9612cf0037b19cfdb47e3c4e433cc2946ff9aa05485650156249bcfbc22b7e8"), looks := false }, kinds := [], alts := [], laidByText := true, laidKinds := [.listed, .data, .data, .data], laidTests := true, laidLooks := .later }
def OpsSetsUptoCardSaid : Prop := Claim7.holds Tryd.pinned (.plain (OpenSpec.upto opsSetsSpec)) opsSetsUptoCard

/-- THE SECOND FORM's CARD OF 'hornbeamlaw07.OpsTypes'. -/
def opsTypesUptoCard : Claim7 := { stood := { row := opsTypesUptoRow, standIns := [], harness := (true, "e9612cf0037b19cfdb47e3c4e433cc2946ff9aa05485650156249bcfbc22b7e8"), looks := false }, kinds := [], alts := [], laidByText := true, laidKinds := [.listed, .data, .data, .data], laidTests := true, laidLooks := .later }
def OpsTypesUptoCardSaid : Prop := Claim7.holds Tryd.pinned (.plain (OpenSpec.upto opsTypesSpec)) opsTypesUptoCard

/-- THE SECOND FORM's CARD OF 'hornbeamlaw07.OpsChanges'. -/
def opsChangesUptoCard : Claim7 := { stood := { row := opsChangesUptoRow, standIns := [], harness := (true, "e9612cf0037b19cfdb47e3c4e433cc2946ff9aa05485650156249bcfbc22b7e8"), looks := false }, kinds := [], alts := [], laidByText := true, laidKinds := [.listed, .data, .data, .data], laidTests := true, laidLooks := .later }
def OpsChangesUptoCardSaid : Prop := Claim7.holds Tryd.pinned (.plain (OpenSpec.upto opsChangesSpec)) opsChangesUptoCard

/-- THE SECOND FORM's CARD OF 'hornbeamlaw07.OpsAgain'. -/
def opsAgainUptoCard : Claim7 := { stood := { row := opsAgainUptoRow, standIns := [], harness := (true, "e9612cf0037b19cfdb47e3c4e433cc2946ff9aa05485650156249bcfbc22b7e8"), looks := false }, kinds := [], alts := [], laidByText := true, laidKinds := [.listed, .data, .data, .data], laidTests := true, laidLooks := .later }
def OpsAgainUptoCardSaid : Prop := Claim7.holds Tryd.pinned (.plain (OpenSpec.upto opsAgainSpec)) opsAgainUptoCard

/-- THE SECOND FORM's CARD OF 'hornbeamlaw07.OpsBounds'. -/
def opsBoundsUptoCard : Claim7 := { stood := { row := opsBoundsUptoRow, standIns := [], harness := (true, "e9612cf0037b19cfdb47e3c4e433cc2946ff9aa05485650156249bcfbc22b7e8"), looks := false }, kinds := [], alts := [], laidByText := true, laidKinds := [.listed, .data, .data, .data], laidTests := true, laidLooks := .later }
def OpsBoundsUptoCardSaid : Prop := Claim7.holds Tryd.pinned (.plain (OpenSpec.upto opsBoundsSpec)) opsBoundsUptoCard
end Rows
end Go.Proofs.YtkjkhhifkedflaaDoor
