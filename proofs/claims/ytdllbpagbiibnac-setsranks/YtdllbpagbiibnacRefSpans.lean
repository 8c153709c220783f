/- The reference's Spans. -/
import Derived.Test.YtdllbpagbiibnacRefSet
import Derived.Test.YtdllbpagbiibnacRefSpansM
namespace Go.Proofs.Ytdllbpagbiibnac
open Go.RowKit Go.Shelf
set_option linter.unusedVariables false
theorem drewN_two (w : World) (q n : Nat) : (w.drewN q).drewN n = w.drewN (q + n) := by simp [World.drewN, Nat.add_assoc]
def flagOf : Value → Nat
  | .bool true => 1
  | _ => 0
end Go.Proofs.Ytdllbpagbiibnac
