/- The library's texts that are wanted here. -/
import Derived.Shelf.Small.Strs
import Derived.Shelf.Strings.Count
import Derived.Shelf.Strings.Prefix
import Derived.Shelf.Strings.Cut
import Derived.Shelf.Strings.LastIndex
import Derived.Lib.DecodeN
import Derived.Test.YthchopdfmchpkaaGreatProg
namespace Go.Proofs.YthchopdfmchpkaaGreat
end Go.Proofs.YthchopdfmchpkaaGreat
