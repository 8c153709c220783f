/- The library's texts that are wanted here. -/
import Derived.Shelf.Small.Strs
import Derived.Lib.ValidU
import Derived.Test.YtoaiicbicdhkkaaGreatProg
namespace Go.Proofs.YtoaiicbicdhkkaaGreat
end Go.Proofs.YtoaiicbicdhkkaaGreat
