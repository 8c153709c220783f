/- The reference's Sequence once more: leading bytes of four, and all texts together. -/
import Derived.Test.YtlblhjefakijmaaDoorSeq
namespace Go.Proofs.YtlblhjefakijmaaDoor
open Go.RowKit Go.Shelf
set_option linter.unusedVariables false

end Go.Proofs.YtlblhjefakijmaaDoor
