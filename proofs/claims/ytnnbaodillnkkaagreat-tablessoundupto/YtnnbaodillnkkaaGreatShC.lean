/- The library's texts that are wanted here. -/
import Derived.Shelf.Small.Strs
import Derived.Test.YtnnbaodillnkkaaGreatProg
namespace Go.Proofs.YtnnbaodillnkkaaGreat
end Go.Proofs.YtnnbaodillnkkaaGreat
