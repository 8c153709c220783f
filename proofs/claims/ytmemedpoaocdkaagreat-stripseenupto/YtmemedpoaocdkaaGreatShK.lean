/- The library's texts that are wanted here. -/
import Derived.Shelf.Small.Strs
import Derived.Shelf.SlicesE.Clone
import Derived.Test.YtmemedpoaocdkaaGreatProg
namespace Go.Proofs.YtmemedpoaocdkaaGreat
end Go.Proofs.YtmemedpoaocdkaaGreat
