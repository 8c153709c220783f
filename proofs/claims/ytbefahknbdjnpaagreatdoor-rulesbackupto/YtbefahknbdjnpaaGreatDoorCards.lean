/-
  DERIVED. GIVEN WITH THE SEED: THE CARDS: each row of YtbefahknbdjnpaaGreatDoorRows.lean that lists a variable, with what it lists TIED to the program's text (the seventh form; the later family's looks); each row that meets fmt, with fmt's text TOLD by the authors' own Lean function (tested against real Go, not proved from fmt's source: count such statements apart). THE CARD IS WHAT COUNTS. Prove the row's statement (the work); the ties are given (YtbefahknbdjnpaaGreatDoorTie.lean); close each card by the builder's one call (the guide's Derived/Test/ToyasCard.lean, 'card_holds'). Laid BY PROGRAM, IN A SANDBOX (cutbox-door.mjs). By AI agents, Wed Nov 11 2026. No macro, syntax, notation, axiom, sorry.
-/
import Derived.Test.YtbefahknbdjnpaaGreatDoorRows
import GoSem.ClaimSeven
namespace Go.Proofs.YtbefahknbdjnpaaGreatDoor
namespace Rows

/-- THE TIED CARD OF 'guiselaw5.RulesParses'. -/
def rulesParsesCard : Claim7 := { stood := { row := rulesParsesRow, standIns := [], harness := (true, "8e10679797f00409c82d3f3df12da28aa552df436bb213339b61647f33d07b62"), looks := true }, kinds := [], alts := [], laidByText := true, laidKinds := [.data, .data, .data, .data, .handle, .pinned, .pinned], laidTests := true, laidLooks := .later }
def RulesParsesCardSaid : Prop := Claim7.holds Tryz.pinned (.plain (OpenSpec.ofChange rulesParsesSpec)) rulesParsesCard

/-- THE TIED CARD OF 'guiselaw5.RulesPrints'. -/
def rulesPrintsCard : Claim7 := { stood := { row := rulesPrintsRow, standIns := [], harness := (true, "8e10679797f00409c82d3f3df12da28aa552df436bb213339b61647f33d07b62"), looks := true }, kinds := [], alts := [], laidByText := true, laidKinds := [.data, .data, .data, .data, .data, .data, .data, .data, .handle, .pinned, .pinned], laidTests := true, laidLooks := .later }
def RulesPrintsCardSaid : Prop := Claim7.holds Tryz.pinned (.plain (OpenSpec.ofChange rulesPrintsSpec)) rulesPrintsCard

/-- THE TIED CARD OF 'guiselaw5.RulesBack'. -/
def rulesBackCard : Claim7 := { stood := { row := rulesBackRow, standIns := [], harness := (true, "8e10679797f00409c82d3f3df12da28aa552df436bb213339b61647f33d07b62"), looks := true }, kinds := [], alts := [], laidByText := true, laidKinds := [.data, .data, .data, .data, .handle, .pinned, .pinned], laidTests := true, laidLooks := .later }
def RulesBackCardSaid : Prop := Claim7.holds Tryz.pinned (.plain (OpenSpec.ofChange rulesBackSpec)) rulesBackCard

/-- THE TIED CARD OF 'guiselaw5.RulesJoins'. -/
def rulesJoinsCard : Claim7 := { stood := { row := rulesJoinsRow, standIns := [], harness := (true, "8e10679797f00409c82d3f3df12da28aa552df436bb213339b61647f33d07b62"), looks := true }, kinds := [], alts := [], laidByText := true, laidKinds := [.data, .data, .data, .data, .data, .data, .data, .data, .handle, .pinned, .pinned], laidTests := true, laidLooks := .later }
def RulesJoinsCardSaid : Prop := Claim7.holds Tryz.pinned (.plain (OpenSpec.ofChange rulesJoinsSpec)) rulesJoinsCard

/-- THE TIED CARD OF 'guiselaw5.RulesPlaces'. -/
def rulesPlacesCard : Claim7 := { stood := { row := rulesPlacesRow, standIns := [], harness := (true, "8e10679797f00409c82d3f3df12da28aa552df436bb213339b61647f33d07b62"), looks := true }, kinds := [], alts := [], laidByText := true, laidKinds := [.data, .data, .data, .data, .handle, .pinned, .pinned], laidTests := true, laidLooks := .later }
def RulesPlacesCardSaid : Prop := Claim7.holds Tryz.pinned (.plain (OpenSpec.ofChange rulesPlacesSpec)) rulesPlacesCard

/-- THE TIED CARD OF 'guiselaw5.RulesLimits'. -/
def rulesLimitsCard : Claim7 := { stood := { row := rulesLimitsRow, standIns := [], harness := (true, "8e10679797f00409c82d3f3df12da28aa552df436bb213339b61647f33d07b62"), looks := true }, kinds := [], alts := [], laidByText := true, laidKinds := [.data, .data, .data, .data, .handle, .pinned, .pinned], laidTests := true, laidLooks := .later }
def RulesLimitsCardSaid : Prop := Claim7.holds Tryz.pinned (.plain (OpenSpec.ofChange rulesLimitsSpec)) rulesLimitsCard

/-- THE SECOND FORM's CARD OF 'guiselaw5.RulesParses'. -/
def rulesParsesUptoCard : Claim7 := { stood := { row := rulesParsesUptoRow, standIns := [], harness := (true, "8e10679797f00409c82d3f3df12da28aa552df436bb213339b61647f33d07b62"), looks := true }, kinds := [], alts := [], laidByText := true, laidKinds := [.data, .data, .data, .data, .handle, .pinned, .pinned], laidTests := true, laidLooks := .later }
def RulesParsesUptoCardSaid : Prop := Claim7.holds Tryz.pinned (.plain (OpenSpec.upto rulesParsesSpec)) rulesParsesUptoCard

/-- THE SECOND FORM's CARD OF 'guiselaw5.RulesPrints'. -/
def rulesPrintsUptoCard : Claim7 := { stood := { row := rulesPrintsUptoRow, standIns := [], harness := (true, "8e10679797f00409c82d3f3df12da28aa552df436bb213339b61647f33d07b62"), looks := true }, kinds := [], alts := [], laidByText := true, laidKinds := [.data, .data, .data, .data, .data, .data, .data, .data, .handle, .pinned, .pinned], laidTests := true, laidLooks := .later }
def RulesPrintsUptoCardSaid : Prop := Claim7.holds Tryz.pinned (.plain (OpenSpec.upto rulesPrintsSpec)) rulesPrintsUptoCard

/-- THE SECOND FORM's CARD OF 'guiselaw5.RulesBack'. -/
def rulesBackUptoCard : Claim7 := { stood := { row := rulesBackUptoRow, standIns := [], harness := (true, "8e10679797f00409c82d3f3df12da28aa552df436bb213339b61647f33d07b62"), looks := true }, kinds := [], alts := [], laidByText := true, laidKinds := [.data, .data, .data, .data, .handle, .pinned, .pinned], laidTests := true, laidLooks := .later }
def RulesBackUptoCardSaid : Prop := Claim7.holds Tryz.pinned (.plain (OpenSpec.upto rulesBackSpec)) rulesBackUptoCard

/-- THE SECOND FORM's CARD OF 'guiselaw5.RulesJoins'. -/
def rulesJoinsUptoCard : Claim7 := { stood := { row := rulesJoinsUptoRow, standIns := [], harness := (true, "8e10679797f00409c82d3f3df12da28aa552df436bb213339b61647f33d07b62"), looks := true }, kinds := [], alts := [], laidByText := true, laidKinds := [.data, .data, .data, .data, .data, .data, .data, .data, .handle, .pinned, .pinned], laidTests := true, laidLooks := .later }
def RulesJoinsUptoCardSaid : Prop := Claim7.holds Tryz.pinned (.plain (OpenSpec.upto rulesJoinsSpec)) rulesJoinsUptoCard

/-- THE SECOND FORM's CARD OF 'guiselaw5.RulesPlaces'. -/
def rulesPlacesUptoCard : Claim7 := { stood := { row := rulesPlacesUptoRow, standIns := [], harness := (true, "8e10679797f00409c82d3f3df12da28aa552df436bb213339b61647f33d07b62"), looks := true }, kinds := [], alts := [], laidByText := true, laidKinds := [.data, .data, .data, .data, .handle, .pinned, .pinned], laidTests := true, laidLooks := .later }
def RulesPlacesUptoCardSaid : Prop := Claim7.holds Tryz.pinned (.plain (OpenSpec.upto rulesPlacesSpec)) rulesPlacesUptoCard

/-- THE SECOND FORM's CARD OF 'guiselaw5.RulesLimits'. -/
def rulesLimitsUptoCard : Claim7 := { stood := { row := rulesLimitsUptoRow, standIns := [], harness := (true, "8e10679797f00409c82d3f3df12da28aa552df436bb213339b61647f33d07b62"), looks := true }, kinds := [], alts := [], laidByText := true, laidKinds := [.data, .data, .data, .data, .handle, .pinned, .pinned], laidTests := true, laidLooks := .later }
def RulesLimitsUptoCardSaid : Prop := Claim7.holds Tryz.pinned (.plain (OpenSpec.upto rulesLimitsSpec)) rulesLimitsUptoCard
end Rows
end Go.Proofs.YtbefahknbdjnpaaGreatDoor
