/-
  DERIVED. GIVEN WITH THE SEED: THE CARDS: each row of YtmdgejgokoadlaaGreatDoorRows.lean that lists a variable, with what it lists TIED to the program's text (the seventh form; the later family's looks); each row that meets fmt, with fmt's text TOLD by the authors' own Lean function (tested against real Go, not proved from fmt's source: count such statements apart). THE CARD IS WHAT COUNTS. Prove the row's statement (the work); the ties are given (YtmdgejgokoadlaaGreatDoorTie.lean); close each card by the builder's one call (the guide's Derived/Test/ToyasCard.lean, 'card_holds'). Laid BY PROGRAM, IN A SANDBOX (cutbox-door.mjs). By AI agents, Wed Nov 11 2026. No macro, syntax, notation, axiom, sorry.
-/
import Derived.Test.YtmdgejgokoadlaaGreatDoorRows
import GoSem.ClaimSeven
namespace Go.Proofs.YtmdgejgokoadlaaGreatDoor
namespace Rows

/-- THE TIED CARD OF 'guiselaw5.RulesParses'. -/
def rulesParsesCard : Claim7 := { stood := { row := rulesParsesRow, standIns := [], harness := (true, "084c3896fbda31b9220ae85f6095f1b7253facece129f21e4702728b3015d9bd"), looks := true }, kinds := [], alts := [], laidByText := true, laidKinds := [.data, .data, .data, .data, .handle, .pinned, .pinned], laidTests := true, laidLooks := .later }
def RulesParsesCardSaid : Prop := Claim7.holds Tryz.pinned (.plain (OpenSpec.ofChange rulesParsesSpec)) rulesParsesCard

/-- THE TIED CARD OF 'guiselaw5.RulesJoins'. -/
def rulesJoinsCard : Claim7 := { stood := { row := rulesJoinsRow, standIns := [], harness := (true, "084c3896fbda31b9220ae85f6095f1b7253facece129f21e4702728b3015d9bd"), looks := true }, kinds := [], alts := [], laidByText := true, laidKinds := [.data, .data, .data, .data, .data, .data, .data, .data, .handle, .pinned, .pinned], laidTests := true, laidLooks := .later }
def RulesJoinsCardSaid : Prop := Claim7.holds Tryz.pinned (.plain (OpenSpec.ofChange rulesJoinsSpec)) rulesJoinsCard

/-- THE TIED CARD OF 'guiselaw5.RulesKept'. -/
def rulesKeptCard : Claim7 := { stood := { row := rulesKeptRow, standIns := [], harness := (true, "084c3896fbda31b9220ae85f6095f1b7253facece129f21e4702728b3015d9bd"), looks := true }, kinds := [], alts := [], laidByText := true, laidKinds := [.data, .data, .data, .data, .data, .data, .data, .data, .handle, .pinned, .pinned], laidTests := true, laidLooks := .later }
def RulesKeptCardSaid : Prop := Claim7.holds Tryz.pinned (.plain (OpenSpec.ofChange rulesKeptSpec)) rulesKeptCard

/-- THE SECOND FORM's CARD OF 'guiselaw5.RulesParses'. -/
def rulesParsesUptoCard : Claim7 := { stood := { row := rulesParsesUptoRow, standIns := [], harness := (true, "084c3896fbda31b9220ae85f6095f1b7253facece129f21e4702728b3015d9bd"), looks := true }, kinds := [], alts := [], laidByText := true, laidKinds := [.data, .data, .data, .data, .handle, .pinned, .pinned], laidTests := true, laidLooks := .later }
def RulesParsesUptoCardSaid : Prop := Claim7.holds Tryz.pinned (.plain (OpenSpec.upto rulesParsesSpec)) rulesParsesUptoCard

/-- THE SECOND FORM's CARD OF 'guiselaw5.RulesJoins'. -/
def rulesJoinsUptoCard : Claim7 := { stood := { row := rulesJoinsUptoRow, standIns := [], harness := (true, "084c3896fbda31b9220ae85f6095f1b7253facece129f21e4702728b3015d9bd"), looks := true }, kinds := [], alts := [], laidByText := true, laidKinds := [.data, .data, .data, .data, .data, .data, .data, .data, .handle, .pinned, .pinned], laidTests := true, laidLooks := .later }
def RulesJoinsUptoCardSaid : Prop := Claim7.holds Tryz.pinned (.plain (OpenSpec.upto rulesJoinsSpec)) rulesJoinsUptoCard

/-- THE SECOND FORM's CARD OF 'guiselaw5.RulesKept'. -/
def rulesKeptUptoCard : Claim7 := { stood := { row := rulesKeptUptoRow, standIns := [], harness := (true, "084c3896fbda31b9220ae85f6095f1b7253facece129f21e4702728b3015d9bd"), looks := true }, kinds := [], alts := [], laidByText := true, laidKinds := [.data, .data, .data, .data, .data, .data, .data, .data, .handle, .pinned, .pinned], laidTests := true, laidLooks := .later }
def RulesKeptUptoCardSaid : Prop := Claim7.holds Tryz.pinned (.plain (OpenSpec.upto rulesKeptSpec)) rulesKeptUptoCard
end Rows
end Go.Proofs.YtmdgejgokoadlaaGreatDoor
