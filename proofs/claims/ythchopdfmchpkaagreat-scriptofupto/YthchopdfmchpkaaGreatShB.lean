/- The library's texts that are wanted here. -/
import Derived.Lib.Case
import Derived.Lib.Repeat
import Derived.Shelf.Strings.OnBuilder
import Derived.Shelf.Strings.Repeat
import Derived.Test.YthchopdfmchpkaaGreatProg
namespace Go.Proofs.YthchopdfmchpkaaGreat
end Go.Proofs.YthchopdfmchpkaaGreat
