/-
  No cell of these rows narrows 'for every input' (looked for: loops, veiled, ifaces, maps, wideKeys, modest, calm, conditions, laid).
  DERIVED. THE GIVEN ROWS OF THIS SEAT. 6 by the template 'for every input the law returns true; each argument reads behind the call as it read before'; 0 by the template 'total and deterministic' (their statements: YtaafecaclkagiaaTotals.lean).
  GIVEN WITH THE SEED: the statements are not yours to turn. If you find one false, say at which input.
  Laid BY PROGRAM, IN A SANDBOX (cutbox-rows.mjs): the forced cells as the released guide's own fill.sh prints them over the translation 6e5d500bc1230fda… (all of the seat's roots in one cut). By AI agents, Wed Nov 11 2026. No macro, syntax, notation, axiom, sorry.
-/
import Derived.Test.YtaafecaclkagiaaChecked
import GoSem.Claim
import GoSem.ClaimJoined
import GoSem.ClaimMapViews
import Derived.JoinedTies
import Derived.KernelRfl
namespace Go.Proofs.Ytaafecaclkagiaa
/- THE CELL 'sum', in the pinned program and in every row, IS THE sha256 OF THE DUMP (.gsa) THAT YtaafecaclkagiaaProg.lean LOADS. Nothing in Lean hashes anything: it is a label: what it is worth is what the hold of that sum in a sandbox is worth. -/
noncomputable def Try.pinned : Pinned := { name := "ytaafecaclkagiaa", sum := "6e5d500bc1230fda3f87c3ef4fa5a42e9d3411702991d7fe7efc459b0173be3a", checked := Try.checked }
namespace Rows
def none {H : Type} : Left H := { results := [], args := [] }

/-- 'guiselaw1.UtfSpots': WHATEVER THE INPUT: true; the input reads as it did. -/
def utfSpotsSpec : ChangeSpec := { name := "utfSpots", fn := fun _ => fun
  | [d1, d2] => { results := [.lit (.bool true)], args := [d1, d2] }
  | _ => none }
def utfSpotsRow : OpenClaim := { program := "ytaafecaclkagiaa", sum := "6e5d500bc1230fda3f87c3ef4fa5a42e9d3411702991d7fe7efc459b0173be3a", func := "guise/guiselaw1.UtfSpots", spec := "utfSpots", unfollowed := true, recurses := true, apart := false }
def UtfSpotsSaid : Prop := utfSpotsRow.holds Try.pinned (OpenSpec.ofChange utfSpotsSpec)

/-- ITS FALSE NEIGHBOUR: 'it returns false'. Refute it at one input. -/
def utfSpotsWrong : ChangeSpec := { name := "utfSpots", fn := fun _ => fun
  | [d1, d2] => { results := [.lit (.bool false)], args := [d1, d2] }
  | _ => none }
def UtfSpotsWrongFalsely : Prop := utfSpotsRow.holds Try.pinned (OpenSpec.ofChange utfSpotsWrong)

/-- 'guiselaw1.UtfValid': WHATEVER THE INPUT: true; the input reads as it did. -/
def utfValidSpec : ChangeSpec := { name := "utfValid", fn := fun _ => fun
  | [d] => { results := [.lit (.bool true)], args := [d] }
  | _ => none }
def utfValidRow : OpenClaim := { program := "ytaafecaclkagiaa", sum := "6e5d500bc1230fda3f87c3ef4fa5a42e9d3411702991d7fe7efc459b0173be3a", func := "guise/guiselaw1.UtfValid", spec := "utfValid", unfollowed := true, recurses := true, apart := false }
def UtfValidSaid : Prop := utfValidRow.holds Try.pinned (OpenSpec.ofChange utfValidSpec)

/-- ITS FALSE NEIGHBOUR: 'it returns false'. Refute it at one input. -/
def utfValidWrong : ChangeSpec := { name := "utfValid", fn := fun _ => fun
  | [d] => { results := [.lit (.bool false)], args := [d] }
  | _ => none }
def UtfValidWrongFalsely : Prop := utfValidRow.holds Try.pinned (OpenSpec.ofChange utfValidWrong)

/-- 'guiselaw1.UtfRunes': WHATEVER THE INPUT: true; the input reads as it did. -/
def utfRunesSpec : ChangeSpec := { name := "utfRunes", fn := fun _ => fun
  | [d] => { results := [.lit (.bool true)], args := [d] }
  | _ => none }
def utfRunesRow : OpenClaim := { program := "ytaafecaclkagiaa", sum := "6e5d500bc1230fda3f87c3ef4fa5a42e9d3411702991d7fe7efc459b0173be3a", func := "guise/guiselaw1.UtfRunes", spec := "utfRunes", unfollowed := true, recurses := true, apart := false }
def UtfRunesSaid : Prop := utfRunesRow.holds Try.pinned (OpenSpec.ofChange utfRunesSpec)

/-- ITS FALSE NEIGHBOUR: 'it returns false'. Refute it at one input. -/
def utfRunesWrong : ChangeSpec := { name := "utfRunes", fn := fun _ => fun
  | [d] => { results := [.lit (.bool false)], args := [d] }
  | _ => none }
def UtfRunesWrongFalsely : Prop := utfRunesRow.holds Try.pinned (OpenSpec.ofChange utfRunesWrong)

/-- 'guiselaw1.UtfText': WHATEVER THE INPUT: true; the input reads as it did. -/
def utfTextSpec : ChangeSpec := { name := "utfText", fn := fun _ => fun
  | [d] => { results := [.lit (.bool true)], args := [d] }
  | _ => none }
def utfTextRow : OpenClaim := { program := "ytaafecaclkagiaa", sum := "6e5d500bc1230fda3f87c3ef4fa5a42e9d3411702991d7fe7efc459b0173be3a", func := "guise/guiselaw1.UtfText", spec := "utfText", unfollowed := true, recurses := true, apart := false }
def UtfTextSaid : Prop := utfTextRow.holds Try.pinned (OpenSpec.ofChange utfTextSpec)

/-- ITS FALSE NEIGHBOUR: 'it returns false'. Refute it at one input. -/
def utfTextWrong : ChangeSpec := { name := "utfText", fn := fun _ => fun
  | [d] => { results := [.lit (.bool false)], args := [d] }
  | _ => none }
def UtfTextWrongFalsely : Prop := utfTextRow.holds Try.pinned (OpenSpec.ofChange utfTextWrong)

/-- 'guiselaw1.UtfAppend': WHATEVER THE INPUT: true; the input reads as it did. -/
def utfAppendSpec : ChangeSpec := { name := "utfAppend", fn := fun _ => fun
  | [d1, d2] => { results := [.lit (.bool true)], args := [d1, d2] }
  | _ => none }
def utfAppendRow : OpenClaim := { program := "ytaafecaclkagiaa", sum := "6e5d500bc1230fda3f87c3ef4fa5a42e9d3411702991d7fe7efc459b0173be3a", func := "guise/guiselaw1.UtfAppend", spec := "utfAppend", unfollowed := true, recurses := true, apart := false }
def UtfAppendSaid : Prop := utfAppendRow.holds Try.pinned (OpenSpec.ofChange utfAppendSpec)

/-- ITS FALSE NEIGHBOUR: 'it returns false'. Refute it at one input. -/
def utfAppendWrong : ChangeSpec := { name := "utfAppend", fn := fun _ => fun
  | [d1, d2] => { results := [.lit (.bool false)], args := [d1, d2] }
  | _ => none }
def UtfAppendWrongFalsely : Prop := utfAppendRow.holds Try.pinned (OpenSpec.ofChange utfAppendWrong)

/-- 'guiselaw1.UtfRange': WHATEVER THE INPUT: true; the input reads as it did. -/
def utfRangeSpec : ChangeSpec := { name := "utfRange", fn := fun _ => fun
  | [d] => { results := [.lit (.bool true)], args := [d] }
  | _ => none }
def utfRangeRow : OpenClaim := { program := "ytaafecaclkagiaa", sum := "6e5d500bc1230fda3f87c3ef4fa5a42e9d3411702991d7fe7efc459b0173be3a", func := "guise/guiselaw1.UtfRange", spec := "utfRange", unfollowed := true, recurses := true, apart := false }
def UtfRangeSaid : Prop := utfRangeRow.holds Try.pinned (OpenSpec.ofChange utfRangeSpec)

/-- ITS FALSE NEIGHBOUR: 'it returns false'. Refute it at one input. -/
def utfRangeWrong : ChangeSpec := { name := "utfRange", fn := fun _ => fun
  | [d] => { results := [.lit (.bool false)], args := [d] }
  | _ => none }
def UtfRangeWrongFalsely : Prop := utfRangeRow.holds Try.pinned (OpenSpec.ofChange utfRangeWrong)

/- THE SECOND FORM. 'bulk': how many values and letters a reading holds, each counted each time it is reached (what is shared counts as often as it is met; a slice's spare places count too). A statement '..UptoSaid' is the law's where the arguments, and the package variables that the reading takes, are together of bulk at most 1048576: NARROWER than '..Said'. Prove '..Said' where nothing that the law and all that it calls make is longer than what came in: it says more and counts as full. Else prove '..UptoSaid'. A law counts once. -/
mutual
def uptoBulk {H : Type} : DataW H → Nat
  | .lit (.string bytes) => bytes.length + 1
  | .lit _ => 1
  | .nil => 1
  | .ptr d => uptoBulk d + 1
  | .slice elems spare => uptoBulkAll elems + uptoBulkAll spare + 1
  | .agg parts => uptoBulkAll parts + 1
  | .iface _ d => uptoBulk d + 1
  | .map entries => uptoBulkEntries entries + 1
  | .held _ => 1
def uptoBulkAll {H : Type} : List (DataW H) → Nat
  | [] => 0
  | d :: r => uptoBulk d + uptoBulkAll r
def uptoBulkEntries {H : Type} : List (Lit × DataW H) → Nat
  | [] => 0
  | x :: r => uptoBulkEntry x + uptoBulkEntries r
def uptoBulkEntry {H : Type} : Lit × DataW H → Nat
  | (.string bytes, d) => bytes.length + uptoBulk d + 1
  | (_, d) => uptoBulk d + 1
 end
def uptoSmall : (H : Type) → List (DataW H) → Bool := fun _ ds => decide (uptoBulkAll ds ≤ 1048576)
def OpenSpec.upto (s : _root_.Go.ChangeSpec) : _root_.Go.OpenSpec := { _root_.Go.OpenSpec.ofChange s with cond := some uptoSmall }

/-- 'guiselaw1.UtfSpots', WHERE WHAT IT READS IS OF BULK AT MOST 1048576: true; the input reads as it did. -/
def utfSpotsUptoRow : OpenClaim := { program := "ytaafecaclkagiaa", sum := "6e5d500bc1230fda3f87c3ef4fa5a42e9d3411702991d7fe7efc459b0173be3a", func := "guise/guiselaw1.UtfSpots", spec := "utfSpots", unfollowed := true, recurses := true, apart := false, narrowed := true }
def UtfSpotsUptoSaid : Prop := utfSpotsUptoRow.holds Try.pinned (OpenSpec.upto utfSpotsSpec)

/-- 'guiselaw1.UtfValid', WHERE WHAT IT READS IS OF BULK AT MOST 1048576: true; the input reads as it did. -/
def utfValidUptoRow : OpenClaim := { program := "ytaafecaclkagiaa", sum := "6e5d500bc1230fda3f87c3ef4fa5a42e9d3411702991d7fe7efc459b0173be3a", func := "guise/guiselaw1.UtfValid", spec := "utfValid", unfollowed := true, recurses := true, apart := false, narrowed := true }
def UtfValidUptoSaid : Prop := utfValidUptoRow.holds Try.pinned (OpenSpec.upto utfValidSpec)

/-- 'guiselaw1.UtfRunes', WHERE WHAT IT READS IS OF BULK AT MOST 1048576: true; the input reads as it did. -/
def utfRunesUptoRow : OpenClaim := { program := "ytaafecaclkagiaa", sum := "6e5d500bc1230fda3f87c3ef4fa5a42e9d3411702991d7fe7efc459b0173be3a", func := "guise/guiselaw1.UtfRunes", spec := "utfRunes", unfollowed := true, recurses := true, apart := false, narrowed := true }
def UtfRunesUptoSaid : Prop := utfRunesUptoRow.holds Try.pinned (OpenSpec.upto utfRunesSpec)

/-- 'guiselaw1.UtfText', WHERE WHAT IT READS IS OF BULK AT MOST 1048576: true; the input reads as it did. -/
def utfTextUptoRow : OpenClaim := { program := "ytaafecaclkagiaa", sum := "6e5d500bc1230fda3f87c3ef4fa5a42e9d3411702991d7fe7efc459b0173be3a", func := "guise/guiselaw1.UtfText", spec := "utfText", unfollowed := true, recurses := true, apart := false, narrowed := true }
def UtfTextUptoSaid : Prop := utfTextUptoRow.holds Try.pinned (OpenSpec.upto utfTextSpec)

/-- 'guiselaw1.UtfAppend', WHERE WHAT IT READS IS OF BULK AT MOST 1048576: true; the input reads as it did. -/
def utfAppendUptoRow : OpenClaim := { program := "ytaafecaclkagiaa", sum := "6e5d500bc1230fda3f87c3ef4fa5a42e9d3411702991d7fe7efc459b0173be3a", func := "guise/guiselaw1.UtfAppend", spec := "utfAppend", unfollowed := true, recurses := true, apart := false, narrowed := true }
def UtfAppendUptoSaid : Prop := utfAppendUptoRow.holds Try.pinned (OpenSpec.upto utfAppendSpec)

/-- 'guiselaw1.UtfRange', WHERE WHAT IT READS IS OF BULK AT MOST 1048576: true; the input reads as it did. -/
def utfRangeUptoRow : OpenClaim := { program := "ytaafecaclkagiaa", sum := "6e5d500bc1230fda3f87c3ef4fa5a42e9d3411702991d7fe7efc459b0173be3a", func := "guise/guiselaw1.UtfRange", spec := "utfRange", unfollowed := true, recurses := true, apart := false, narrowed := true }
def UtfRangeUptoSaid : Prop := utfRangeUptoRow.holds Try.pinned (OpenSpec.upto utfRangeSpec)

end Rows
end Go.Proofs.Ytaafecaclkagiaa
