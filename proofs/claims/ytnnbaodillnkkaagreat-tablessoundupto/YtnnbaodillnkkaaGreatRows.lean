/-
  No cell of these rows narrows 'for every input' (looked for: loops, veiled, ifaces, maps, wideKeys, modest, calm, conditions, laid).
  DERIVED. THE GIVEN ROWS OF THIS SEAT. 3 by the template 'for every input the law returns true; each argument reads behind the call as it read before'; 0 by the template 'total and deterministic' (their statements: YtnnbaodillnkkaaGreatTotals.lean).
  GIVEN WITH THE SEED: the statements are not yours to turn. If you find one false, say at which input.
  Laid BY PROGRAM, IN A SANDBOX (cutbox-rows.mjs): the forced cells as the released guide's own fill.sh prints them over the translation 153ddd6c9dc1baa4… (all of the seat's roots in one cut). By AI agents, Wed Nov 11 2026. No macro, syntax, notation, axiom, sorry.
-/
import Derived.Test.YtnnbaodillnkkaaGreatChecked
import GoSem.Claim
import GoSem.ClaimJoined
import GoSem.ClaimMapViews
import Derived.JoinedTies
import Derived.KernelRfl
namespace Go.Proofs.YtnnbaodillnkkaaGreat
/- THE CELL 'sum', in the pinned program and in every row, IS THE sha256 OF THE DUMP (.gsa) THAT YtnnbaodillnkkaaGreatProg.lean LOADS. Nothing in Lean hashes anything: it is a label: what it is worth is what the hold of that sum in a sandbox is worth. -/
noncomputable def Tryz.pinned : Pinned := { name := "ytnnbaodillnkkaagreat", sum := "153ddd6c9dc1baa452f117b00970a4f15e63a95fd8f21434ff63644c51d51436", checked := Tryz.checked }
namespace Rows
def none {H : Type} : Left H := { results := [], args := [] }

/-- 'guiselaw6.TablesNumbers': WHATEVER THE INPUT: true; the input reads as it did. -/
def tablesNumbersSpec : ChangeSpec := { name := "tablesNumbers", fn := fun _ => fun
  | [] => { results := [.lit (.bool true)], args := [] }
  | _ => none }
def tablesNumbersRow : OpenClaim := { program := "ytnnbaodillnkkaagreat", sum := "153ddd6c9dc1baa452f117b00970a4f15e63a95fd8f21434ff63644c51d51436", func := "guise/guiselaw6.TablesNumbers", spec := "tablesNumbers", unfollowed := true, recurses := true, plainKeys := false, apart := false }
def TablesNumbersSaid : Prop := tablesNumbersRow.holds Tryz.pinned (OpenSpec.ofChange tablesNumbersSpec)

/-- ITS FALSE NEIGHBOUR: 'it returns false'. Refute it at one input. -/
def tablesNumbersWrong : ChangeSpec := { name := "tablesNumbers", fn := fun _ => fun
  | [] => { results := [.lit (.bool false)], args := [] }
  | _ => none }
def TablesNumbersWrongFalsely : Prop := tablesNumbersRow.holds Tryz.pinned (OpenSpec.ofChange tablesNumbersWrong)

/-- 'guiselaw6.TablesSound': WHATEVER THE INPUT: true; the input reads as it did. -/
def tablesSoundSpec : ChangeSpec := { name := "tablesSound", fn := fun _ => fun
  | [d1, d2] => { results := [.lit (.bool true)], args := [d1, d2] }
  | _ => none }
def tablesSoundRow : OpenClaim := { program := "ytnnbaodillnkkaagreat", sum := "153ddd6c9dc1baa452f117b00970a4f15e63a95fd8f21434ff63644c51d51436", func := "guise/guiselaw6.TablesSound", spec := "tablesSound", unfollowed := true, recurses := true, plainKeys := false, apart := false }
def TablesSoundSaid : Prop := tablesSoundRow.holds Tryz.pinned (OpenSpec.ofChange tablesSoundSpec)

/-- ITS FALSE NEIGHBOUR: 'it returns false'. Refute it at one input. -/
def tablesSoundWrong : ChangeSpec := { name := "tablesSound", fn := fun _ => fun
  | [d1, d2] => { results := [.lit (.bool false)], args := [d1, d2] }
  | _ => none }
def TablesSoundWrongFalsely : Prop := tablesSoundRow.holds Tryz.pinned (OpenSpec.ofChange tablesSoundWrong)

/-- 'guiselaw6.TablesTurns': WHATEVER THE INPUT: true; the input reads as it did. -/
def tablesTurnsSpec : ChangeSpec := { name := "tablesTurns", fn := fun _ => fun
  | [d1, d2, d3] => { results := [.lit (.bool true)], args := [d1, d2, d3] }
  | _ => none }
def tablesTurnsRow : OpenClaim := { program := "ytnnbaodillnkkaagreat", sum := "153ddd6c9dc1baa452f117b00970a4f15e63a95fd8f21434ff63644c51d51436", func := "guise/guiselaw6.TablesTurns", spec := "tablesTurns", unfollowed := true, recurses := true, plainKeys := false, apart := false }
def TablesTurnsSaid : Prop := tablesTurnsRow.holds Tryz.pinned (OpenSpec.ofChange tablesTurnsSpec)

/-- ITS FALSE NEIGHBOUR: 'it returns false'. Refute it at one input. -/
def tablesTurnsWrong : ChangeSpec := { name := "tablesTurns", fn := fun _ => fun
  | [d1, d2, d3] => { results := [.lit (.bool false)], args := [d1, d2, d3] }
  | _ => none }
def TablesTurnsWrongFalsely : Prop := tablesTurnsRow.holds Tryz.pinned (OpenSpec.ofChange tablesTurnsWrong)

/- THE SECOND FORM. 'bulk': how many values and letters a reading holds, each counted each time it is reached (what is shared counts as often as it is met; a slice's spare places count too). A statement '..UptoSaid' is the law's where the arguments, and the package variables that the reading takes, are together of bulk at most 1048576: NARROWER than '..Said'. Prove '..Said' where nothing that the law and all that it calls make is longer than what came in: it says more and counts as full. Else prove '..UptoSaid'. A law counts once. -/
mutual
def uptoBulk {H : Type} : DataW H → Nat
  | .lit (.string bytes) => bytes.length + 1
  | .lit _ => 1
  | .nil => 1
  | .ptr d => uptoBulk d + 1
  | .slice elems spare => uptoBulkAll elems + uptoBulkAll spare + 1
  | .agg parts => uptoBulkAll parts + 1
  | .iface _ d => uptoBulk d + 1
  | .map entries => uptoBulkEntries entries + 1
  | .held _ => 1
def uptoBulkAll {H : Type} : List (DataW H) → Nat
  | [] => 0
  | d :: r => uptoBulk d + uptoBulkAll r
def uptoBulkEntries {H : Type} : List (Lit × DataW H) → Nat
  | [] => 0
  | x :: r => uptoBulkEntry x + uptoBulkEntries r
def uptoBulkEntry {H : Type} : Lit × DataW H → Nat
  | (.string bytes, d) => bytes.length + uptoBulk d + 1
  | (_, d) => uptoBulk d + 1
 end
def uptoSmall : (H : Type) → List (DataW H) → Bool := fun _ ds => decide (uptoBulkAll ds ≤ 1048576)
def OpenSpec.upto (s : _root_.Go.ChangeSpec) : _root_.Go.OpenSpec := { _root_.Go.OpenSpec.ofChange s with cond := some uptoSmall }

/-- 'guiselaw6.TablesNumbers', WHERE WHAT IT READS IS OF BULK AT MOST 1048576: true; the input reads as it did. -/
def tablesNumbersUptoRow : OpenClaim := { program := "ytnnbaodillnkkaagreat", sum := "153ddd6c9dc1baa452f117b00970a4f15e63a95fd8f21434ff63644c51d51436", func := "guise/guiselaw6.TablesNumbers", spec := "tablesNumbers", unfollowed := true, recurses := true, plainKeys := false, apart := false, narrowed := true }
def TablesNumbersUptoSaid : Prop := tablesNumbersUptoRow.holds Tryz.pinned (OpenSpec.upto tablesNumbersSpec)

/-- 'guiselaw6.TablesSound', WHERE WHAT IT READS IS OF BULK AT MOST 1048576: true; the input reads as it did. -/
def tablesSoundUptoRow : OpenClaim := { program := "ytnnbaodillnkkaagreat", sum := "153ddd6c9dc1baa452f117b00970a4f15e63a95fd8f21434ff63644c51d51436", func := "guise/guiselaw6.TablesSound", spec := "tablesSound", unfollowed := true, recurses := true, plainKeys := false, apart := false, narrowed := true }
def TablesSoundUptoSaid : Prop := tablesSoundUptoRow.holds Tryz.pinned (OpenSpec.upto tablesSoundSpec)

/-- 'guiselaw6.TablesTurns', WHERE WHAT IT READS IS OF BULK AT MOST 1048576: true; the input reads as it did. -/
def tablesTurnsUptoRow : OpenClaim := { program := "ytnnbaodillnkkaagreat", sum := "153ddd6c9dc1baa452f117b00970a4f15e63a95fd8f21434ff63644c51d51436", func := "guise/guiselaw6.TablesTurns", spec := "tablesTurns", unfollowed := true, recurses := true, plainKeys := false, apart := false, narrowed := true }
def TablesTurnsUptoSaid : Prop := tablesTurnsUptoRow.holds Tryz.pinned (OpenSpec.upto tablesTurnsSpec)

end Rows
end Go.Proofs.YtnnbaodillnkkaaGreat
