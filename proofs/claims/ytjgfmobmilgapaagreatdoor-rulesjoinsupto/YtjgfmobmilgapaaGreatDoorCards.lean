/-
  DERIVED. GIVEN WITH THE SEED: THE CARDS: each row of YtjgfmobmilgapaaGreatDoorRows.lean that lists a variable, with what it lists TIED to the program's text (the seventh form; the later family's looks); each row that meets fmt, with fmt's text TOLD by the authors' own Lean function (tested against real Go, not proved from fmt's source: count such statements apart). THE CARD IS WHAT COUNTS. Prove the row's statement (the work); the ties are given (YtjgfmobmilgapaaGreatDoorTie.lean); close each card by the builder's one call (the guide's Derived/Test/ToyasCard.lean, 'card_holds'). Laid BY PROGRAM, IN A SANDBOX (cutbox-door.mjs). By AI agents, Wed Nov 11 2026. No macro, syntax, notation, axiom, sorry.
-/
import Derived.Test.YtjgfmobmilgapaaGreatDoorRows
import GoSem.ClaimSeven
namespace Go.Proofs.YtjgfmobmilgapaaGreatDoor
namespace Rows

/-- THE TIED CARD OF 'guiselaw5.RulesJoins'. -/
def rulesJoinsCard : Claim7 := { stood := { row := rulesJoinsRow, standIns := [], harness := (true, "b9214da2241ce38357c7c6f4e2bf5c810cef50e481d6bd935f92a3a07efae956"), looks := true }, kinds := [], alts := [], laidByText := true, laidKinds := [.data, .data, .data, .data, .data, .data, .data, .data, .handle, .pinned, .pinned], laidTests := true, laidLooks := .later }
def RulesJoinsCardSaid : Prop := Claim7.holds Tryz.pinned (.plain (OpenSpec.ofChange rulesJoinsSpec)) rulesJoinsCard

/-- THE SECOND FORM's CARD OF 'guiselaw5.RulesJoins'. -/
def rulesJoinsUptoCard : Claim7 := { stood := { row := rulesJoinsUptoRow, standIns := [], harness := (true, "b9214da2241ce38357c7c6f4e2bf5c810cef50e481d6bd935f92a3a07efae956"), looks := true }, kinds := [], alts := [], laidByText := true, laidKinds := [.data, .data, .data, .data, .data, .data, .data, .data, .handle, .pinned, .pinned], laidTests := true, laidLooks := .later }
def RulesJoinsUptoCardSaid : Prop := Claim7.holds Tryz.pinned (.plain (OpenSpec.upto rulesJoinsSpec)) rulesJoinsUptoCard
end Rows
end Go.Proofs.YtjgfmobmilgapaaGreatDoor
