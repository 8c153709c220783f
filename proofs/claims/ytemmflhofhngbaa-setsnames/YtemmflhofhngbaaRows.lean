/-
  No cell of these rows narrows 'for every input' (looked for: loops, veiled, ifaces, maps, wideKeys, modest, calm, conditions, laid).
  DERIVED. THE GIVEN ROWS OF THIS SEAT. 3 by the template 'for every input the law returns true; each argument reads behind the call as it read before'; 0 by the template 'total and deterministic' (their statements: YtemmflhofhngbaaTotals.lean).
  GIVEN WITH THE SEED: the statements are not yours to turn. If you find one false, say at which input.
  Laid BY PROGRAM, IN A SANDBOX (cutbox-rows.mjs): the forced cells as the released guide's own fill.sh prints them over the translation 6714f09373006a9d… (all of the seat's roots in one cut). By AI agents, Wed Nov 11 2026. No macro, syntax, notation, axiom, sorry.
-/
import Derived.Test.YtemmflhofhngbaaChecked
import GoSem.Claim
import GoSem.ClaimJoined
import GoSem.ClaimMapViews
import Derived.JoinedTies
import Derived.KernelRfl
namespace Go.Proofs.Ytemmflhofhngbaa
/- THE CELL 'sum', in the pinned program and in every row, IS THE sha256 OF THE DUMP (.gsa) THAT YtemmflhofhngbaaProg.lean LOADS. Nothing in Lean hashes anything: it is a label: what it is worth is what the hold of that sum in a sandbox is worth. -/
noncomputable def Try.pinned : Pinned := { name := "ytemmflhofhngbaa", sum := "6714f09373006a9dede24bfddc1cbcd8ce76859c9351b473a7922ecd6712047d", checked := Try.checked }
namespace Rows
def none {H : Type} : Left H := { results := [], args := [] }

/-- 'guiselaw3.SetsNames': WHATEVER THE INPUT: true; the input reads as it did. -/
def setsNamesSpec : ChangeSpec := { name := "setsNames", fn := fun _ => fun
  | [] => { results := [.lit (.bool true)], args := [] }
  | _ => none }
def setsNamesRow : OpenClaim := { program := "ytemmflhofhngbaa", sum := "6714f09373006a9dede24bfddc1cbcd8ce76859c9351b473a7922ecd6712047d", func := "guise/guiselaw3.SetsNames", spec := "setsNames", unfollowed := true, recurses := true, apart := false }
def SetsNamesSaid : Prop := setsNamesRow.holds Try.pinned (OpenSpec.ofChange setsNamesSpec)

/-- ITS FALSE NEIGHBOUR: 'it returns false'. Refute it at one input. -/
def setsNamesWrong : ChangeSpec := { name := "setsNames", fn := fun _ => fun
  | [] => { results := [.lit (.bool false)], args := [] }
  | _ => none }
def SetsNamesWrongFalsely : Prop := setsNamesRow.holds Try.pinned (OpenSpec.ofChange setsNamesWrong)

/-- 'guiselaw3.SetsFrom': WHATEVER THE INPUT: true; the input reads as it did. -/
def setsFromSpec : ChangeSpec := { name := "setsFrom", fn := fun _ => fun
  | [d] => { results := [.lit (.bool true)], args := [d] }
  | _ => none }
def setsFromRow : OpenClaim := { program := "ytemmflhofhngbaa", sum := "6714f09373006a9dede24bfddc1cbcd8ce76859c9351b473a7922ecd6712047d", func := "guise/guiselaw3.SetsFrom", spec := "setsFrom", unfollowed := true, recurses := true, apart := false }
def SetsFromSaid : Prop := setsFromRow.holds Try.pinned (OpenSpec.ofChange setsFromSpec)

/-- ITS FALSE NEIGHBOUR: 'it returns false'. Refute it at one input. -/
def setsFromWrong : ChangeSpec := { name := "setsFrom", fn := fun _ => fun
  | [d] => { results := [.lit (.bool false)], args := [d] }
  | _ => none }
def SetsFromWrongFalsely : Prop := setsFromRow.holds Try.pinned (OpenSpec.ofChange setsFromWrong)

/-- 'guiselaw3.SetsText': WHATEVER THE INPUT: true; the input reads as it did. -/
def setsTextSpec : ChangeSpec := { name := "setsText", fn := fun _ => fun
  | [d] => { results := [.lit (.bool true)], args := [d] }
  | _ => none }
def setsTextRow : OpenClaim := { program := "ytemmflhofhngbaa", sum := "6714f09373006a9dede24bfddc1cbcd8ce76859c9351b473a7922ecd6712047d", func := "guise/guiselaw3.SetsText", spec := "setsText", unfollowed := true, recurses := true, apart := false }
def SetsTextSaid : Prop := setsTextRow.holds Try.pinned (OpenSpec.ofChange setsTextSpec)

/-- ITS FALSE NEIGHBOUR: 'it returns false'. Refute it at one input. -/
def setsTextWrong : ChangeSpec := { name := "setsText", fn := fun _ => fun
  | [d] => { results := [.lit (.bool false)], args := [d] }
  | _ => none }
def SetsTextWrongFalsely : Prop := setsTextRow.holds Try.pinned (OpenSpec.ofChange setsTextWrong)

/- THE SECOND FORM. 'bulk': how many values and letters a reading holds, each counted each time it is reached (what is shared counts as often as it is met; a slice's spare places count too). A statement '..UptoSaid' is the law's where the arguments, and the package variables that the reading takes, are together of bulk at most 1048576: NARROWER than '..Said'. Prove '..Said' where nothing that the law and all that it calls make is longer than what came in: it says more and counts as full. Else prove '..UptoSaid'. A law counts once. -/
mutual
def uptoBulk {H : Type} : DataW H → Nat
  | .lit (.string bytes) => bytes.length + 1
  | .lit _ => 1
  | .nil => 1
  | .ptr d => uptoBulk d + 1
  | .slice elems spare => uptoBulkAll elems + uptoBulkAll spare + 1
  | .agg parts => uptoBulkAll parts + 1
  | .iface _ d => uptoBulk d + 1
  | .map entries => uptoBulkEntries entries + 1
  | .held _ => 1
def uptoBulkAll {H : Type} : List (DataW H) → Nat
  | [] => 0
  | d :: r => uptoBulk d + uptoBulkAll r
def uptoBulkEntries {H : Type} : List (Lit × DataW H) → Nat
  | [] => 0
  | x :: r => uptoBulkEntry x + uptoBulkEntries r
def uptoBulkEntry {H : Type} : Lit × DataW H → Nat
  | (.string bytes, d) => bytes.length + uptoBulk d + 1
  | (_, d) => uptoBulk d + 1
 end
def uptoSmall : (H : Type) → List (DataW H) → Bool := fun _ ds => decide (uptoBulkAll ds ≤ 1048576)
def OpenSpec.upto (s : _root_.Go.ChangeSpec) : _root_.Go.OpenSpec := { _root_.Go.OpenSpec.ofChange s with cond := some uptoSmall }

/-- 'guiselaw3.SetsNames', WHERE WHAT IT READS IS OF BULK AT MOST 1048576: true; the input reads as it did. -/
def setsNamesUptoRow : OpenClaim := { program := "ytemmflhofhngbaa", sum := "6714f09373006a9dede24bfddc1cbcd8ce76859c9351b473a7922ecd6712047d", func := "guise/guiselaw3.SetsNames", spec := "setsNames", unfollowed := true, recurses := true, apart := false, narrowed := true }
def SetsNamesUptoSaid : Prop := setsNamesUptoRow.holds Try.pinned (OpenSpec.upto setsNamesSpec)

/-- 'guiselaw3.SetsFrom', WHERE WHAT IT READS IS OF BULK AT MOST 1048576: true; the input reads as it did. -/
def setsFromUptoRow : OpenClaim := { program := "ytemmflhofhngbaa", sum := "6714f09373006a9dede24bfddc1cbcd8ce76859c9351b473a7922ecd6712047d", func := "guise/guiselaw3.SetsFrom", spec := "setsFrom", unfollowed := true, recurses := true, apart := false, narrowed := true }
def SetsFromUptoSaid : Prop := setsFromUptoRow.holds Try.pinned (OpenSpec.upto setsFromSpec)

/-- 'guiselaw3.SetsText', WHERE WHAT IT READS IS OF BULK AT MOST 1048576: true; the input reads as it did. -/
def setsTextUptoRow : OpenClaim := { program := "ytemmflhofhngbaa", sum := "6714f09373006a9dede24bfddc1cbcd8ce76859c9351b473a7922ecd6712047d", func := "guise/guiselaw3.SetsText", spec := "setsText", unfollowed := true, recurses := true, apart := false, narrowed := true }
def SetsTextUptoSaid : Prop := setsTextUptoRow.holds Try.pinned (OpenSpec.upto setsTextSpec)

end Rows
end Go.Proofs.Ytemmflhofhngbaa
