/-
  DERIVED. GIVEN WITH THE SEED: THE CARDS: each row of YtbbnppcpjpdpaaaGreatDoorRows.lean that lists a variable, with what it lists TIED to the program's text (the seventh form; the later family's looks); each row that meets fmt, with fmt's text TOLD by the authors' own Lean function (tested against real Go, not proved from fmt's source: count such statements apart). THE CARD IS WHAT COUNTS. Prove the row's statement (the work); the ties are given (YtbbnppcpjpdpaaaGreatDoorTie.lean); close each card by the builder's one call (the guide's Derived/Test/ToyasCard.lean, 'card_holds'). Laid BY PROGRAM, IN A SANDBOX (cutbox-door.mjs). By AI agents, Wed Nov 11 2026. No macro, syntax, notation, axiom, sorry.
-/
import Derived.Test.YtbbnppcpjpdpaaaGreatDoorRows
import GoSem.ClaimSeven
namespace Go.Proofs.YtbbnppcpjpdpaaaGreatDoor
namespace Rows

/-- THE TIED CARD OF 'guiselaw5.RulesNumbers'. -/
def rulesNumbersCard : Claim7 := { stood := { row := rulesNumbersRow, standIns := [], harness := (true, "b4b70fcc844b1671f49e37e064126f9f7bd5c17130af10734171982ae6c40cbe"), looks := true }, kinds := [], alts := [], laidByText := true, laidKinds := [.data, .data, .data, .data, .handle, .pinned, .pinned], laidTests := true, laidLooks := .later }
def RulesNumbersCardSaid : Prop := Claim7.holds Tryz.pinned (.plain (OpenSpec.ofChange rulesNumbersSpec)) rulesNumbersCard

/-- THE SECOND FORM's CARD OF 'guiselaw5.RulesNumbers'. -/
def rulesNumbersUptoCard : Claim7 := { stood := { row := rulesNumbersUptoRow, standIns := [], harness := (true, "b4b70fcc844b1671f49e37e064126f9f7bd5c17130af10734171982ae6c40cbe"), looks := true }, kinds := [], alts := [], laidByText := true, laidKinds := [.data, .data, .data, .data, .handle, .pinned, .pinned], laidTests := true, laidLooks := .later }
def RulesNumbersUptoCardSaid : Prop := Claim7.holds Tryz.pinned (.plain (OpenSpec.upto rulesNumbersSpec)) rulesNumbersUptoCard
end Rows
end Go.Proofs.YtbbnppcpjpdpaaaGreatDoor
