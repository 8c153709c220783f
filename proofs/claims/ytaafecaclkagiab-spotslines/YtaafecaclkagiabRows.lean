/-
  No cell of these rows narrows 'for every input' (looked for: loops, veiled, ifaces, maps, wideKeys, modest, calm, conditions, laid).
  DERIVED. THE GIVEN ROWS OF THIS SEAT. 6 by the template 'for every input the law returns true; each argument reads behind the call as it read before'; 0 by the template 'total and deterministic' (their statements: YtaafecaclkagiabTotals.lean).
  GIVEN WITH THE SEED: the statements are not yours to turn. If you find one false, say at which input.
  Laid BY PROGRAM, IN A SANDBOX (cutbox-rows.mjs): the forced cells as the released guide's own fill.sh prints them over the translation 4568be1d9342b384… (all of the seat's roots in one cut). By AI agents, Wed Nov 11 2026. No macro, syntax, notation, axiom, sorry.
-/
import Derived.Test.YtaafecaclkagiabChecked
import GoSem.Claim
import GoSem.ClaimJoined
import GoSem.ClaimMapViews
import Derived.JoinedTies
import Derived.KernelRfl
namespace Go.Proofs.Ytaafecaclkagiab
/- THE CELL 'sum', in the pinned program and in every row, IS THE sha256 OF THE DUMP (.gsa) THAT YtaafecaclkagiabProg.lean LOADS. Nothing in Lean hashes anything: it is a label: what it is worth is what the hold of that sum in a sandbox is worth. -/
noncomputable def Try.pinned : Pinned := { name := "ytaafecaclkagiab", sum := "4568be1d9342b3842be247069e041f9ca8bc94cdf14377c2195b52efee68d2fe", checked := Try.checked }
namespace Rows
def none {H : Type} : Left H := { results := [], args := [] }

/-- 'guiselaw1.UtfThere': WHATEVER THE INPUT: true; the input reads as it did. -/
def utfThereSpec : ChangeSpec := { name := "utfThere", fn := fun _ => fun
  | [d] => { results := [.lit (.bool true)], args := [d] }
  | _ => none }
def utfThereRow : OpenClaim := { program := "ytaafecaclkagiab", sum := "4568be1d9342b3842be247069e041f9ca8bc94cdf14377c2195b52efee68d2fe", func := "guise/guiselaw1.UtfThere", spec := "utfThere", unfollowed := true, recurses := true, apart := false }
def UtfThereSaid : Prop := utfThereRow.holds Try.pinned (OpenSpec.ofChange utfThereSpec)

/-- ITS FALSE NEIGHBOUR: 'it returns false'. Refute it at one input. -/
def utfThereWrong : ChangeSpec := { name := "utfThere", fn := fun _ => fun
  | [d] => { results := [.lit (.bool false)], args := [d] }
  | _ => none }
def UtfThereWrongFalsely : Prop := utfThereRow.holds Try.pinned (OpenSpec.ofChange utfThereWrong)

/-- 'guiselaw2.SpotsNames': WHATEVER THE INPUT: true; the input reads as it did. -/
def spotsNamesSpec : ChangeSpec := { name := "spotsNames", fn := fun _ => fun
  | [] => { results := [.lit (.bool true)], args := [] }
  | _ => none }
def spotsNamesRow : OpenClaim := { program := "ytaafecaclkagiab", sum := "4568be1d9342b3842be247069e041f9ca8bc94cdf14377c2195b52efee68d2fe", func := "guise/guiselaw2.SpotsNames", spec := "spotsNames", unfollowed := true, recurses := true, apart := false }
def SpotsNamesSaid : Prop := spotsNamesRow.holds Try.pinned (OpenSpec.ofChange spotsNamesSpec)

/-- ITS FALSE NEIGHBOUR: 'it returns false'. Refute it at one input. -/
def spotsNamesWrong : ChangeSpec := { name := "spotsNames", fn := fun _ => fun
  | [] => { results := [.lit (.bool false)], args := [] }
  | _ => none }
def SpotsNamesWrongFalsely : Prop := spotsNamesRow.holds Try.pinned (OpenSpec.ofChange spotsNamesWrong)

/-- 'guiselaw2.SpotsPlaces': WHATEVER THE INPUT: true; the input reads as it did. -/
def spotsPlacesSpec : ChangeSpec := { name := "spotsPlaces", fn := fun _ => fun
  | [d1, d2, d3] => { results := [.lit (.bool true)], args := [d1, d2, d3] }
  | _ => none }
def spotsPlacesRow : OpenClaim := { program := "ytaafecaclkagiab", sum := "4568be1d9342b3842be247069e041f9ca8bc94cdf14377c2195b52efee68d2fe", func := "guise/guiselaw2.SpotsPlaces", spec := "spotsPlaces", unfollowed := true, recurses := true, apart := false }
def SpotsPlacesSaid : Prop := spotsPlacesRow.holds Try.pinned (OpenSpec.ofChange spotsPlacesSpec)

/-- ITS FALSE NEIGHBOUR: 'it returns false'. Refute it at one input. -/
def spotsPlacesWrong : ChangeSpec := { name := "spotsPlaces", fn := fun _ => fun
  | [d1, d2, d3] => { results := [.lit (.bool false)], args := [d1, d2, d3] }
  | _ => none }
def SpotsPlacesWrongFalsely : Prop := spotsPlacesRow.holds Try.pinned (OpenSpec.ofChange spotsPlacesWrong)

/-- 'guiselaw2.SpotsLines': WHATEVER THE INPUT: true; the input reads as it did. -/
def spotsLinesSpec : ChangeSpec := { name := "spotsLines", fn := fun _ => fun
  | [d1, d2, d3, d4] => { results := [.lit (.bool true)], args := [d1, d2, d3, d4] }
  | _ => none }
def spotsLinesRow : OpenClaim := { program := "ytaafecaclkagiab", sum := "4568be1d9342b3842be247069e041f9ca8bc94cdf14377c2195b52efee68d2fe", func := "guise/guiselaw2.SpotsLines", spec := "spotsLines", apart := false }
def SpotsLinesSaid : Prop := spotsLinesRow.holds Try.pinned (OpenSpec.ofChange spotsLinesSpec)

/-- ITS FALSE NEIGHBOUR: 'it returns false'. Refute it at one input. -/
def spotsLinesWrong : ChangeSpec := { name := "spotsLines", fn := fun _ => fun
  | [d1, d2, d3, d4] => { results := [.lit (.bool false)], args := [d1, d2, d3, d4] }
  | _ => none }
def SpotsLinesWrongFalsely : Prop := spotsLinesRow.holds Try.pinned (OpenSpec.ofChange spotsLinesWrong)

/-- 'guiselaw2.SpotsPieces': WHATEVER THE INPUT: true; the input reads as it did. -/
def spotsPiecesSpec : ChangeSpec := { name := "spotsPieces", fn := fun _ => fun
  | [d1, d2, d3, d4] => { results := [.lit (.bool true)], args := [d1, d2, d3, d4] }
  | _ => none }
def spotsPiecesRow : OpenClaim := { program := "ytaafecaclkagiab", sum := "4568be1d9342b3842be247069e041f9ca8bc94cdf14377c2195b52efee68d2fe", func := "guise/guiselaw2.SpotsPieces", spec := "spotsPieces", unfollowed := true, recurses := true, apart := false }
def SpotsPiecesSaid : Prop := spotsPiecesRow.holds Try.pinned (OpenSpec.ofChange spotsPiecesSpec)

/-- ITS FALSE NEIGHBOUR: 'it returns false'. Refute it at one input. -/
def spotsPiecesWrong : ChangeSpec := { name := "spotsPieces", fn := fun _ => fun
  | [d1, d2, d3, d4] => { results := [.lit (.bool false)], args := [d1, d2, d3, d4] }
  | _ => none }
def SpotsPiecesWrongFalsely : Prop := spotsPiecesRow.holds Try.pinned (OpenSpec.ofChange spotsPiecesWrong)

/-- 'guiselaw2.SpotsAll': WHATEVER THE INPUT: true; the input reads as it did. -/
def spotsAllSpec : ChangeSpec := { name := "spotsAll", fn := fun _ => fun
  | [d1, d2] => { results := [.lit (.bool true)], args := [d1, d2] }
  | _ => none }
def spotsAllRow : OpenClaim := { program := "ytaafecaclkagiab", sum := "4568be1d9342b3842be247069e041f9ca8bc94cdf14377c2195b52efee68d2fe", func := "guise/guiselaw2.SpotsAll", spec := "spotsAll", unfollowed := true, recurses := true, apart := false }
def SpotsAllSaid : Prop := spotsAllRow.holds Try.pinned (OpenSpec.ofChange spotsAllSpec)

/-- ITS FALSE NEIGHBOUR: 'it returns false'. Refute it at one input. -/
def spotsAllWrong : ChangeSpec := { name := "spotsAll", fn := fun _ => fun
  | [d1, d2] => { results := [.lit (.bool false)], args := [d1, d2] }
  | _ => none }
def SpotsAllWrongFalsely : Prop := spotsAllRow.holds Try.pinned (OpenSpec.ofChange spotsAllWrong)

/- THE SECOND FORM. 'bulk': how many values and letters a reading holds, each counted each time it is reached (what is shared counts as often as it is met; a slice's spare places count too). A statement '..UptoSaid' is the law's where the arguments, and the package variables that the reading takes, are together of bulk at most 1048576: NARROWER than '..Said'. Prove '..Said' where nothing that the law and all that it calls make is longer than what came in: it says more and counts as full. Else prove '..UptoSaid'. A law counts once. -/
mutual
def uptoBulk {H : Type} : DataW H → Nat
  | .lit (.string bytes) => bytes.length + 1
  | .lit _ => 1
  | .nil => 1
  | .ptr d => uptoBulk d + 1
  | .slice elems spare => uptoBulkAll elems + uptoBulkAll spare + 1
  | .agg parts => uptoBulkAll parts + 1
  | .iface _ d => uptoBulk d + 1
  | .map entries => uptoBulkEntries entries + 1
  | .held _ => 1
def uptoBulkAll {H : Type} : List (DataW H) → Nat
  | [] => 0
  | d :: r => uptoBulk d + uptoBulkAll r
def uptoBulkEntries {H : Type} : List (Lit × DataW H) → Nat
  | [] => 0
  | x :: r => uptoBulkEntry x + uptoBulkEntries r
def uptoBulkEntry {H : Type} : Lit × DataW H → Nat
  | (.string bytes, d) => bytes.length + uptoBulk d + 1
  | (_, d) => uptoBulk d + 1
 end
def uptoSmall : (H : Type) → List (DataW H) → Bool := fun _ ds => decide (uptoBulkAll ds ≤ 1048576)
def OpenSpec.upto (s : _root_.Go.ChangeSpec) : _root_.Go.OpenSpec := { _root_.Go.OpenSpec.ofChange s with cond := some uptoSmall }

/-- 'guiselaw1.UtfThere', WHERE WHAT IT READS IS OF BULK AT MOST 1048576: true; the input reads as it did. -/
def utfThereUptoRow : OpenClaim := { program := "ytaafecaclkagiab", sum := "4568be1d9342b3842be247069e041f9ca8bc94cdf14377c2195b52efee68d2fe", func := "guise/guiselaw1.UtfThere", spec := "utfThere", unfollowed := true, recurses := true, apart := false, narrowed := true }
def UtfThereUptoSaid : Prop := utfThereUptoRow.holds Try.pinned (OpenSpec.upto utfThereSpec)

/-- 'guiselaw2.SpotsNames', WHERE WHAT IT READS IS OF BULK AT MOST 1048576: true; the input reads as it did. -/
def spotsNamesUptoRow : OpenClaim := { program := "ytaafecaclkagiab", sum := "4568be1d9342b3842be247069e041f9ca8bc94cdf14377c2195b52efee68d2fe", func := "guise/guiselaw2.SpotsNames", spec := "spotsNames", unfollowed := true, recurses := true, apart := false, narrowed := true }
def SpotsNamesUptoSaid : Prop := spotsNamesUptoRow.holds Try.pinned (OpenSpec.upto spotsNamesSpec)

/-- 'guiselaw2.SpotsPlaces', WHERE WHAT IT READS IS OF BULK AT MOST 1048576: true; the input reads as it did. -/
def spotsPlacesUptoRow : OpenClaim := { program := "ytaafecaclkagiab", sum := "4568be1d9342b3842be247069e041f9ca8bc94cdf14377c2195b52efee68d2fe", func := "guise/guiselaw2.SpotsPlaces", spec := "spotsPlaces", unfollowed := true, recurses := true, apart := false, narrowed := true }
def SpotsPlacesUptoSaid : Prop := spotsPlacesUptoRow.holds Try.pinned (OpenSpec.upto spotsPlacesSpec)

/-- 'guiselaw2.SpotsLines', WHERE WHAT IT READS IS OF BULK AT MOST 1048576: true; the input reads as it did. -/
def spotsLinesUptoRow : OpenClaim := { program := "ytaafecaclkagiab", sum := "4568be1d9342b3842be247069e041f9ca8bc94cdf14377c2195b52efee68d2fe", func := "guise/guiselaw2.SpotsLines", spec := "spotsLines", apart := false, narrowed := true }
def SpotsLinesUptoSaid : Prop := spotsLinesUptoRow.holds Try.pinned (OpenSpec.upto spotsLinesSpec)

/-- 'guiselaw2.SpotsPieces', WHERE WHAT IT READS IS OF BULK AT MOST 1048576: true; the input reads as it did. -/
def spotsPiecesUptoRow : OpenClaim := { program := "ytaafecaclkagiab", sum := "4568be1d9342b3842be247069e041f9ca8bc94cdf14377c2195b52efee68d2fe", func := "guise/guiselaw2.SpotsPieces", spec := "spotsPieces", unfollowed := true, recurses := true, apart := false, narrowed := true }
def SpotsPiecesUptoSaid : Prop := spotsPiecesUptoRow.holds Try.pinned (OpenSpec.upto spotsPiecesSpec)

/-- 'guiselaw2.SpotsAll', WHERE WHAT IT READS IS OF BULK AT MOST 1048576: true; the input reads as it did. -/
def spotsAllUptoRow : OpenClaim := { program := "ytaafecaclkagiab", sum := "4568be1d9342b3842be247069e041f9ca8bc94cdf14377c2195b52efee68d2fe", func := "guise/guiselaw2.SpotsAll", spec := "spotsAll", unfollowed := true, recurses := true, apart := false, narrowed := true }
def SpotsAllUptoSaid : Prop := spotsAllUptoRow.holds Try.pinned (OpenSpec.upto spotsAllSpec)

end Rows
end Go.Proofs.Ytaafecaclkagiab
