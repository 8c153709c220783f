/- The library's texts that are wanted here. -/
import Derived.Shelf.Small.Strs
import Derived.Test.YtmemedpoaocdkaaGreatProg
namespace Go.Proofs.YtmemedpoaocdkaaGreat
end Go.Proofs.YtmemedpoaocdkaaGreat
