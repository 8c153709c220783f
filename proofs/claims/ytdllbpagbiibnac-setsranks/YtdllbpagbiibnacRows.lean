/-
  No cell of these rows narrows 'for every input' (looked for: loops, veiled, ifaces, maps, wideKeys, modest, calm, conditions, laid).
  DERIVED. THE GIVEN ROWS OF THIS SEAT. 2 by the template 'for every input the law returns true; each argument reads behind the call as it read before'; 0 by the template 'total and deterministic' (their statements: YtdllbpagbiibnacTotals.lean).
  GIVEN WITH THE SEED: the statements are not yours to turn. If you find one false, say at which input.
  Laid BY PROGRAM, IN A SANDBOX (cutbox-rows.mjs): the forced cells as the released guide's own fill.sh prints them over the translation cfd7122e82285d73… (all of the seat's roots in one cut). By AI agents, Wed Nov 11 2026. No macro, syntax, notation, axiom, sorry.
-/
import Derived.Test.YtdllbpagbiibnacChecked
import GoSem.Claim
import GoSem.ClaimJoined
import GoSem.ClaimMapViews
import Derived.JoinedTies
import Derived.KernelRfl
namespace Go.Proofs.Ytdllbpagbiibnac
/- THE CELL 'sum', in the pinned program and in every row, IS THE sha256 OF THE DUMP (.gsa) THAT YtdllbpagbiibnacProg.lean LOADS. Nothing in Lean hashes anything: it is a label: what it is worth is what the hold of that sum in a sandbox is worth. -/
noncomputable def Try.pinned : Pinned := { name := "ytdllbpagbiibnac", sum := "cfd7122e82285d73e0eeba3193258fdb5b85700d3d942da03720e0bd5762ba6a", checked := Try.checked }
namespace Rows
def none {H : Type} : Left H := { results := [], args := [] }

/-- 'guiselaw3.SetsMember': WHATEVER THE INPUT: true; the input reads as it did. -/
def setsMemberSpec : ChangeSpec := { name := "setsMember", fn := fun _ => fun
  | [d1, d2, d3] => { results := [.lit (.bool true)], args := [d1, d2, d3] }
  | _ => none }
def setsMemberRow : OpenClaim := { program := "ytdllbpagbiibnac", sum := "cfd7122e82285d73e0eeba3193258fdb5b85700d3d942da03720e0bd5762ba6a", func := "guise/guiselaw3.SetsMember", spec := "setsMember", unfollowed := true, recurses := true, apart := false }
def SetsMemberSaid : Prop := setsMemberRow.holds Try.pinned (OpenSpec.ofChange setsMemberSpec)

/-- ITS FALSE NEIGHBOUR: 'it returns false'. Refute it at one input. -/
def setsMemberWrong : ChangeSpec := { name := "setsMember", fn := fun _ => fun
  | [d1, d2, d3] => { results := [.lit (.bool false)], args := [d1, d2, d3] }
  | _ => none }
def SetsMemberWrongFalsely : Prop := setsMemberRow.holds Try.pinned (OpenSpec.ofChange setsMemberWrong)

/-- 'guiselaw3.SetsRanks': WHATEVER THE INPUT: true; the input reads as it did. -/
def setsRanksSpec : ChangeSpec := { name := "setsRanks", fn := fun _ => fun
  | [d1, d2] => { results := [.lit (.bool true)], args := [d1, d2] }
  | _ => none }
def setsRanksRow : OpenClaim := { program := "ytdllbpagbiibnac", sum := "cfd7122e82285d73e0eeba3193258fdb5b85700d3d942da03720e0bd5762ba6a", func := "guise/guiselaw3.SetsRanks", spec := "setsRanks", unfollowed := true, recurses := true, apart := false }
def SetsRanksSaid : Prop := setsRanksRow.holds Try.pinned (OpenSpec.ofChange setsRanksSpec)

/-- ITS FALSE NEIGHBOUR: 'it returns false'. Refute it at one input. -/
def setsRanksWrong : ChangeSpec := { name := "setsRanks", fn := fun _ => fun
  | [d1, d2] => { results := [.lit (.bool false)], args := [d1, d2] }
  | _ => none }
def SetsRanksWrongFalsely : Prop := setsRanksRow.holds Try.pinned (OpenSpec.ofChange setsRanksWrong)

/- THE SECOND FORM. 'bulk': how many values and letters a reading holds, each counted each time it is reached (what is shared counts as often as it is met; a slice's spare places count too). A statement '..UptoSaid' is the law's where the arguments, and the package variables that the reading takes, are together of bulk at most 1048576: NARROWER than '..Said'. Prove '..Said' where nothing that the law and all that it calls make is longer than what came in: it says more and counts as full. Else prove '..UptoSaid'. A law counts once. -/
mutual
def uptoBulk {H : Type} : DataW H → Nat
  | .lit (.string bytes) => bytes.length + 1
  | .lit _ => 1
  | .nil => 1
  | .ptr d => uptoBulk d + 1
  | .slice elems spare => uptoBulkAll elems + uptoBulkAll spare + 1
  | .agg parts => uptoBulkAll parts + 1
  | .iface _ d => uptoBulk d + 1
  | .map entries => uptoBulkEntries entries + 1
  | .held _ => 1
def uptoBulkAll {H : Type} : List (DataW H) → Nat
  | [] => 0
  | d :: r => uptoBulk d + uptoBulkAll r
def uptoBulkEntries {H : Type} : List (Lit × DataW H) → Nat
  | [] => 0
  | x :: r => uptoBulkEntry x + uptoBulkEntries r
def uptoBulkEntry {H : Type} : Lit × DataW H → Nat
  | (.string bytes, d) => bytes.length + uptoBulk d + 1
  | (_, d) => uptoBulk d + 1
 end
def uptoSmall : (H : Type) → List (DataW H) → Bool := fun _ ds => decide (uptoBulkAll ds ≤ 1048576)
def OpenSpec.upto (s : _root_.Go.ChangeSpec) : _root_.Go.OpenSpec := { _root_.Go.OpenSpec.ofChange s with cond := some uptoSmall }

/-- 'guiselaw3.SetsMember', WHERE WHAT IT READS IS OF BULK AT MOST 1048576: true; the input reads as it did. -/
def setsMemberUptoRow : OpenClaim := { program := "ytdllbpagbiibnac", sum := "cfd7122e82285d73e0eeba3193258fdb5b85700d3d942da03720e0bd5762ba6a", func := "guise/guiselaw3.SetsMember", spec := "setsMember", unfollowed := true, recurses := true, apart := false, narrowed := true }
def SetsMemberUptoSaid : Prop := setsMemberUptoRow.holds Try.pinned (OpenSpec.upto setsMemberSpec)

/-- 'guiselaw3.SetsRanks', WHERE WHAT IT READS IS OF BULK AT MOST 1048576: true; the input reads as it did. -/
def setsRanksUptoRow : OpenClaim := { program := "ytdllbpagbiibnac", sum := "cfd7122e82285d73e0eeba3193258fdb5b85700d3d942da03720e0bd5762ba6a", func := "guise/guiselaw3.SetsRanks", spec := "setsRanks", unfollowed := true, recurses := true, apart := false, narrowed := true }
def SetsRanksUptoSaid : Prop := setsRanksUptoRow.holds Try.pinned (OpenSpec.upto setsRanksSpec)

end Rows
end Go.Proofs.Ytdllbpagbiibnac
