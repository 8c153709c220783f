/- The library's texts that are wanted here. -/
import Derived.Shelf.Small.Strs
import Derived.Lib.ValidU
import Derived.Test.YthchopdfmchpkaaGreatProg
namespace Go.Proofs.YthchopdfmchpkaaGreat
end Go.Proofs.YthchopdfmchpkaaGreat
