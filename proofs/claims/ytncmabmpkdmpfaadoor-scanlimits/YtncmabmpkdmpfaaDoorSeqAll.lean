/- The reference's Sequence once more: leading bytes of four, and all texts together. -/
import Derived.Test.YtncmabmpkdmpfaaDoorSeq
namespace Go.Proofs.YtncmabmpkdmpfaaDoor
open Go.RowKit Go.Shelf
set_option linter.unusedVariables false

end Go.Proofs.YtncmabmpkdmpfaaDoor
