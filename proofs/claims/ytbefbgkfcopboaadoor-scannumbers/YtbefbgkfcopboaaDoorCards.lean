/-
  DERIVED. GIVEN WITH THE SEED: THE CARDS: each row of YtbefbgkfcopboaaDoorRows.lean that lists a variable, with what it lists TIED to the program's text (the seventh form; the later family's looks); each row that meets fmt, with fmt's text TOLD by the authors' own Lean function (tested against real Go, not proved from fmt's source: count such statements apart). THE CARD IS WHAT COUNTS. Prove the row's statement (the work); the ties are given (YtbefbgkfcopboaaDoorTie.lean); close each card by the builder's one call (the guide's Derived/Test/ToyasCard.lean, 'card_holds'). Laid BY PROGRAM, IN A SANDBOX (cutbox-door.mjs). By AI agents, Wed Nov 11 2026. No macro, syntax, notation, axiom, sorry.
-/
import Derived.Test.YtbefbgkfcopboaaDoorRows
import GoSem.ClaimSeven
namespace Go.Proofs.YtbefbgkfcopboaaDoor
namespace Rows

/-- THE TIED CARD OF 'guiselaw4.ScanNumbers'. -/
def scanNumbersCard : Claim7 := { stood := { row := scanNumbersRow, standIns := [], harness := (true, "d8d58f2845816a724e7ac164379051301b1b7e5cdcfb9c769ce4abff80e75d4a"), looks := false }, kinds := [], alts := [], laidByText := true, laidKinds := [.data, .data, .data, .data, .pinned, .pinned], laidTests := true, laidLooks := .later }
def ScanNumbersCardSaid : Prop := Claim7.holds Tryd.pinned (.plain (OpenSpec.ofChange scanNumbersSpec)) scanNumbersCard

/-- THE TIED CARD OF 'guiselaw4.ScanWhere'. -/
def scanWhereCard : Claim7 := { stood := { row := scanWhereRow, standIns := [], harness := (true, "d8d58f2845816a724e7ac164379051301b1b7e5cdcfb9c769ce4abff80e75d4a"), looks := false }, kinds := [], alts := [], laidByText := true, laidKinds := [.data, .data, .data, .data, .pinned, .pinned], laidTests := true, laidLooks := .later }
def ScanWhereCardSaid : Prop := Claim7.holds Tryd.pinned (.plain (OpenSpec.ofChange scanWhereSpec)) scanWhereCard

/-- THE SECOND FORM's CARD OF 'guiselaw4.ScanNumbers'. -/
def scanNumbersUptoCard : Claim7 := { stood := { row := scanNumbersUptoRow, standIns := [], harness := (true, "d8d58f2845816a724e7ac164379051301b1b7e5cdcfb9c769ce4abff80e75d4a"), looks := false }, kinds := [], alts := [], laidByText := true, laidKinds := [.data, .data, .data, .data, .pinned, .pinned], laidTests := true, laidLooks := .later }
def ScanNumbersUptoCardSaid : Prop := Claim7.holds Tryd.pinned (.plain (OpenSpec.upto scanNumbersSpec)) scanNumbersUptoCard

/-- THE SECOND FORM's CARD OF 'guiselaw4.ScanWhere'. -/
def scanWhereUptoCard : Claim7 := { stood := { row := scanWhereUptoRow, standIns := [], harness := (true, "d8d58f2845816a724e7ac164379051301b1b7e5cdcfb9c769ce4abff80e75d4a"), looks := false }, kinds := [], alts := [], laidByText := true, laidKinds := [.data, .data, .data, .data, .pinned, .pinned], laidTests := true, laidLooks := .later }
def ScanWhereUptoCardSaid : Prop := Claim7.holds Tryd.pinned (.plain (OpenSpec.upto scanWhereSpec)) scanWhereUptoCard
end Rows
end Go.Proofs.YtbefbgkfcopboaaDoor
