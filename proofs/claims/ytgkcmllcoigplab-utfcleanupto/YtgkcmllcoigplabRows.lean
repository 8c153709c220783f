/-
  No cell of these rows narrows 'for every input' (looked for: loops, veiled, ifaces, maps, wideKeys, modest, calm, conditions, laid).
  DERIVED. THE GIVEN ROWS OF THIS SEAT. 6 by the template 'for every input the law returns true; each argument reads behind the call as it read before'; 0 by the template 'total and deterministic' (their statements: YtgkcmllcoigplabTotals.lean).
  GIVEN WITH THE SEED: the statements are not yours to turn. If you find one false, say at which input.
  Laid BY PROGRAM, IN A SANDBOX (cutbox-rows.mjs): the forced cells as the released guide's own fill.sh prints them over the translation e765482f6590cbb9… (all of the seat's roots in one cut). By AI agents, Wed Nov 11 2026. No macro, syntax, notation, axiom, sorry.
-/
import Derived.Test.YtgkcmllcoigplabChecked
import GoSem.Claim
import GoSem.ClaimJoined
import GoSem.ClaimMapViews
import Derived.JoinedTies
import Derived.KernelRfl
namespace Go.Proofs.Ytgkcmllcoigplab
/- THE CELL 'sum', in the pinned program and in every row, IS THE sha256 OF THE DUMP (.gsa) THAT YtgkcmllcoigplabProg.lean LOADS. Nothing in Lean hashes anything: it is a label: what it is worth is what the hold of that sum in a sandbox is worth. -/
noncomputable def Try.pinned : Pinned := { name := "ytgkcmllcoigplab", sum := "e765482f6590cbb9dca08859b7c073702ce7dc9c03f9dfb760b0715b8c8c6a61", checked := Try.checked }
namespace Rows
def none {H : Type} : Left H := { results := [], args := [] }

/-- 'guiselaw1.UtfAppend': WHATEVER THE INPUT: true; the input reads as it did. -/
def utfAppendSpec : ChangeSpec := { name := "utfAppend", fn := fun _ => fun
  | [d1, d2] => { results := [.lit (.bool true)], args := [d1, d2] }
  | _ => none }
def utfAppendRow : OpenClaim := { program := "ytgkcmllcoigplab", sum := "e765482f6590cbb9dca08859b7c073702ce7dc9c03f9dfb760b0715b8c8c6a61", func := "guise/guiselaw1.UtfAppend", spec := "utfAppend", unfollowed := true, recurses := true, apart := false }
def UtfAppendSaid : Prop := utfAppendRow.holds Try.pinned (OpenSpec.ofChange utfAppendSpec)

/-- ITS FALSE NEIGHBOUR: 'it returns false'. Refute it at one input. -/
def utfAppendWrong : ChangeSpec := { name := "utfAppend", fn := fun _ => fun
  | [d1, d2] => { results := [.lit (.bool false)], args := [d1, d2] }
  | _ => none }
def UtfAppendWrongFalsely : Prop := utfAppendRow.holds Try.pinned (OpenSpec.ofChange utfAppendWrong)

/-- 'guiselaw1.UtfBounds': WHATEVER THE INPUT: true; the input reads as it did. -/
def utfBoundsSpec : ChangeSpec := { name := "utfBounds", fn := fun _ => fun
  | [d1, d2] => { results := [.lit (.bool true)], args := [d1, d2] }
  | _ => none }
def utfBoundsRow : OpenClaim := { program := "ytgkcmllcoigplab", sum := "e765482f6590cbb9dca08859b7c073702ce7dc9c03f9dfb760b0715b8c8c6a61", func := "guise/guiselaw1.UtfBounds", spec := "utfBounds", unfollowed := true, recurses := true, apart := false }
def UtfBoundsSaid : Prop := utfBoundsRow.holds Try.pinned (OpenSpec.ofChange utfBoundsSpec)

/-- ITS FALSE NEIGHBOUR: 'it returns false'. Refute it at one input. -/
def utfBoundsWrong : ChangeSpec := { name := "utfBounds", fn := fun _ => fun
  | [d1, d2] => { results := [.lit (.bool false)], args := [d1, d2] }
  | _ => none }
def UtfBoundsWrongFalsely : Prop := utfBoundsRow.holds Try.pinned (OpenSpec.ofChange utfBoundsWrong)

/-- 'guiselaw1.UtfJoins': WHATEVER THE INPUT: true; the input reads as it did. -/
def utfJoinsSpec : ChangeSpec := { name := "utfJoins", fn := fun _ => fun
  | [d1, d2] => { results := [.lit (.bool true)], args := [d1, d2] }
  | _ => none }
def utfJoinsRow : OpenClaim := { program := "ytgkcmllcoigplab", sum := "e765482f6590cbb9dca08859b7c073702ce7dc9c03f9dfb760b0715b8c8c6a61", func := "guise/guiselaw1.UtfJoins", spec := "utfJoins", unfollowed := true, recurses := true, apart := false }
def UtfJoinsSaid : Prop := utfJoinsRow.holds Try.pinned (OpenSpec.ofChange utfJoinsSpec)

/-- ITS FALSE NEIGHBOUR: 'it returns false'. Refute it at one input. -/
def utfJoinsWrong : ChangeSpec := { name := "utfJoins", fn := fun _ => fun
  | [d1, d2] => { results := [.lit (.bool false)], args := [d1, d2] }
  | _ => none }
def UtfJoinsWrongFalsely : Prop := utfJoinsRow.holds Try.pinned (OpenSpec.ofChange utfJoinsWrong)

/-- 'guiselaw1.UtfRange': WHATEVER THE INPUT: true; the input reads as it did. -/
def utfRangeSpec : ChangeSpec := { name := "utfRange", fn := fun _ => fun
  | [d] => { results := [.lit (.bool true)], args := [d] }
  | _ => none }
def utfRangeRow : OpenClaim := { program := "ytgkcmllcoigplab", sum := "e765482f6590cbb9dca08859b7c073702ce7dc9c03f9dfb760b0715b8c8c6a61", func := "guise/guiselaw1.UtfRange", spec := "utfRange", unfollowed := true, recurses := true, apart := false }
def UtfRangeSaid : Prop := utfRangeRow.holds Try.pinned (OpenSpec.ofChange utfRangeSpec)

/-- ITS FALSE NEIGHBOUR: 'it returns false'. Refute it at one input. -/
def utfRangeWrong : ChangeSpec := { name := "utfRange", fn := fun _ => fun
  | [d] => { results := [.lit (.bool false)], args := [d] }
  | _ => none }
def UtfRangeWrongFalsely : Prop := utfRangeRow.holds Try.pinned (OpenSpec.ofChange utfRangeWrong)

/-- 'guiselaw1.UtfClean': WHATEVER THE INPUT: true; the input reads as it did. -/
def utfCleanSpec : ChangeSpec := { name := "utfClean", fn := fun _ => fun
  | [d] => { results := [.lit (.bool true)], args := [d] }
  | _ => none }
def utfCleanRow : OpenClaim := { program := "ytgkcmllcoigplab", sum := "e765482f6590cbb9dca08859b7c073702ce7dc9c03f9dfb760b0715b8c8c6a61", func := "guise/guiselaw1.UtfClean", spec := "utfClean", unfollowed := true, recurses := true, apart := false }
def UtfCleanSaid : Prop := utfCleanRow.holds Try.pinned (OpenSpec.ofChange utfCleanSpec)

/-- ITS FALSE NEIGHBOUR: 'it returns false'. Refute it at one input. -/
def utfCleanWrong : ChangeSpec := { name := "utfClean", fn := fun _ => fun
  | [d] => { results := [.lit (.bool false)], args := [d] }
  | _ => none }
def UtfCleanWrongFalsely : Prop := utfCleanRow.holds Try.pinned (OpenSpec.ofChange utfCleanWrong)

/-- 'guiselaw1.UtfThere': WHATEVER THE INPUT: true; the input reads as it did. -/
def utfThereSpec : ChangeSpec := { name := "utfThere", fn := fun _ => fun
  | [d] => { results := [.lit (.bool true)], args := [d] }
  | _ => none }
def utfThereRow : OpenClaim := { program := "ytgkcmllcoigplab", sum := "e765482f6590cbb9dca08859b7c073702ce7dc9c03f9dfb760b0715b8c8c6a61", func := "guise/guiselaw1.UtfThere", spec := "utfThere", unfollowed := true, recurses := true, apart := false }
def UtfThereSaid : Prop := utfThereRow.holds Try.pinned (OpenSpec.ofChange utfThereSpec)

/-- ITS FALSE NEIGHBOUR: 'it returns false'. Refute it at one input. -/
def utfThereWrong : ChangeSpec := { name := "utfThere", fn := fun _ => fun
  | [d] => { results := [.lit (.bool false)], args := [d] }
  | _ => none }
def UtfThereWrongFalsely : Prop := utfThereRow.holds Try.pinned (OpenSpec.ofChange utfThereWrong)

/- THE SECOND FORM. 'bulk': how many values and letters a reading holds, each counted each time it is reached (what is shared counts as often as it is met; a slice's spare places count too). A statement '..UptoSaid' is the law's where the arguments, and the package variables that the reading takes, are together of bulk at most 1048576: NARROWER than '..Said'. Prove '..Said' where nothing that the law and all that it calls make is longer than what came in: it says more and counts as full. Else prove '..UptoSaid'. A law counts once. -/
mutual
def uptoBulk {H : Type} : DataW H → Nat
  | .lit (.string bytes) => bytes.length + 1
  | .lit _ => 1
  | .nil => 1
  | .ptr d => uptoBulk d + 1
  | .slice elems spare => uptoBulkAll elems + uptoBulkAll spare + 1
  | .agg parts => uptoBulkAll parts + 1
  | .iface _ d => uptoBulk d + 1
  | .map entries => uptoBulkEntries entries + 1
  | .held _ => 1
def uptoBulkAll {H : Type} : List (DataW H) → Nat
  | [] => 0
  | d :: r => uptoBulk d + uptoBulkAll r
def uptoBulkEntries {H : Type} : List (Lit × DataW H) → Nat
  | [] => 0
  | x :: r => uptoBulkEntry x + uptoBulkEntries r
def uptoBulkEntry {H : Type} : Lit × DataW H → Nat
  | (.string bytes, d) => bytes.length + uptoBulk d + 1
  | (_, d) => uptoBulk d + 1
 end
def uptoSmall : (H : Type) → List (DataW H) → Bool := fun _ ds => decide (uptoBulkAll ds ≤ 1048576)
def OpenSpec.upto (s : _root_.Go.ChangeSpec) : _root_.Go.OpenSpec := { _root_.Go.OpenSpec.ofChange s with cond := some uptoSmall }

/-- 'guiselaw1.UtfAppend', WHERE WHAT IT READS IS OF BULK AT MOST 1048576: true; the input reads as it did. -/
def utfAppendUptoRow : OpenClaim := { program := "ytgkcmllcoigplab", sum := "e765482f6590cbb9dca08859b7c073702ce7dc9c03f9dfb760b0715b8c8c6a61", func := "guise/guiselaw1.UtfAppend", spec := "utfAppend", unfollowed := true, recurses := true, apart := false, narrowed := true }
def UtfAppendUptoSaid : Prop := utfAppendUptoRow.holds Try.pinned (OpenSpec.upto utfAppendSpec)

/-- 'guiselaw1.UtfBounds', WHERE WHAT IT READS IS OF BULK AT MOST 1048576: true; the input reads as it did. -/
def utfBoundsUptoRow : OpenClaim := { program := "ytgkcmllcoigplab", sum := "e765482f6590cbb9dca08859b7c073702ce7dc9c03f9dfb760b0715b8c8c6a61", func := "guise/guiselaw1.UtfBounds", spec := "utfBounds", unfollowed := true, recurses := true, apart := false, narrowed := true }
def UtfBoundsUptoSaid : Prop := utfBoundsUptoRow.holds Try.pinned (OpenSpec.upto utfBoundsSpec)

/-- 'guiselaw1.UtfJoins', WHERE WHAT IT READS IS OF BULK AT MOST 1048576: true; the input reads as it did. -/
def utfJoinsUptoRow : OpenClaim := { program := "ytgkcmllcoigplab", sum := "e765482f6590cbb9dca08859b7c073702ce7dc9c03f9dfb760b0715b8c8c6a61", func := "guise/guiselaw1.UtfJoins", spec := "utfJoins", unfollowed := true, recurses := true, apart := false, narrowed := true }
def UtfJoinsUptoSaid : Prop := utfJoinsUptoRow.holds Try.pinned (OpenSpec.upto utfJoinsSpec)

/-- 'guiselaw1.UtfRange', WHERE WHAT IT READS IS OF BULK AT MOST 1048576: true; the input reads as it did. -/
def utfRangeUptoRow : OpenClaim := { program := "ytgkcmllcoigplab", sum := "e765482f6590cbb9dca08859b7c073702ce7dc9c03f9dfb760b0715b8c8c6a61", func := "guise/guiselaw1.UtfRange", spec := "utfRange", unfollowed := true, recurses := true, apart := false, narrowed := true }
def UtfRangeUptoSaid : Prop := utfRangeUptoRow.holds Try.pinned (OpenSpec.upto utfRangeSpec)

/-- 'guiselaw1.UtfClean', WHERE WHAT IT READS IS OF BULK AT MOST 1048576: true; the input reads as it did. -/
def utfCleanUptoRow : OpenClaim := { program := "ytgkcmllcoigplab", sum := "e765482f6590cbb9dca08859b7c073702ce7dc9c03f9dfb760b0715b8c8c6a61", func := "guise/guiselaw1.UtfClean", spec := "utfClean", unfollowed := true, recurses := true, apart := false, narrowed := true }
def UtfCleanUptoSaid : Prop := utfCleanUptoRow.holds Try.pinned (OpenSpec.upto utfCleanSpec)

/-- 'guiselaw1.UtfThere', WHERE WHAT IT READS IS OF BULK AT MOST 1048576: true; the input reads as it did. -/
def utfThereUptoRow : OpenClaim := { program := "ytgkcmllcoigplab", sum := "e765482f6590cbb9dca08859b7c073702ce7dc9c03f9dfb760b0715b8c8c6a61", func := "guise/guiselaw1.UtfThere", spec := "utfThere", unfollowed := true, recurses := true, apart := false, narrowed := true }
def UtfThereUptoSaid : Prop := utfThereUptoRow.holds Try.pinned (OpenSpec.upto utfThereSpec)

end Rows
end Go.Proofs.Ytgkcmllcoigplab
