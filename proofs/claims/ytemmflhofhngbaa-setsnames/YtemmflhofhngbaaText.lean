/- Text, told for every list of numbers: the bytes of the runes, or the refusal where one is none. -/
import Derived.Test.YtemmflhofhngbaaVals
namespace Go.Proofs.Ytemmflhofhngbaa
open Go.RowKit Go.Shelf
set_option linter.unusedVariables false

/-- Are all numbers runes? -/
def allRunes (zs : List Int) : Bool := zs.all (fun z => !(widthOf z == 0))
def textV (zs : List Int) : Value := if allRunes zs then .tuple #[.string (runesBytes zs), .int .i64 0] else .tuple #[.string ⟨#[]⟩, .int .i64 12]

end Go.Proofs.Ytemmflhofhngbaa
