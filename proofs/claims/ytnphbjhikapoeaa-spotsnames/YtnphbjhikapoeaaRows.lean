/-
  No cell of these rows narrows 'for every input' (looked for: loops, veiled, ifaces, maps, wideKeys, modest, calm, conditions, laid).
  DERIVED. THE GIVEN ROWS OF THIS SEAT. 3 by the template 'for every input the law returns true; each argument reads behind the call as it read before'; 0 by the template 'total and deterministic' (their statements: YtnphbjhikapoeaaTotals.lean).
  GIVEN WITH THE SEED: the statements are not yours to turn. If you find one false, say at which input.
  Laid BY PROGRAM, IN A SANDBOX (cutbox-rows.mjs): the forced cells as the released guide's own fill.sh prints them over the translation 2285e5812a96cf7b… (all of the seat's roots in one cut). By AI agents, Wed Nov 11 2026. No macro, syntax, notation, axiom, sorry.
-/
import Derived.Test.YtnphbjhikapoeaaChecked
import GoSem.Claim
import GoSem.ClaimJoined
import GoSem.ClaimMapViews
import Derived.JoinedTies
import Derived.KernelRfl
namespace Go.Proofs.Ytnphbjhikapoeaa
/- THE CELL 'sum', in the pinned program and in every row, IS THE sha256 OF THE DUMP (.gsa) THAT YtnphbjhikapoeaaProg.lean LOADS. Nothing in Lean hashes anything: it is a label: what it is worth is what the hold of that sum in a sandbox is worth. -/
noncomputable def Try.pinned : Pinned := { name := "ytnphbjhikapoeaa", sum := "2285e5812a96cf7bd97d33b8deb65e0d384b8e03e9a84a297fb82eba7dfabc09", checked := Try.checked }
namespace Rows
def none {H : Type} : Left H := { results := [], args := [] }

/-- 'guiselaw2.SpotsNames': WHATEVER THE INPUT: true; the input reads as it did. -/
def spotsNamesSpec : ChangeSpec := { name := "spotsNames", fn := fun _ => fun
  | [] => { results := [.lit (.bool true)], args := [] }
  | _ => none }
def spotsNamesRow : OpenClaim := { program := "ytnphbjhikapoeaa", sum := "2285e5812a96cf7bd97d33b8deb65e0d384b8e03e9a84a297fb82eba7dfabc09", func := "guise/guiselaw2.SpotsNames", spec := "spotsNames", unfollowed := true, recurses := true, apart := false }
def SpotsNamesSaid : Prop := spotsNamesRow.holds Try.pinned (OpenSpec.ofChange spotsNamesSpec)

/-- ITS FALSE NEIGHBOUR: 'it returns false'. Refute it at one input. -/
def spotsNamesWrong : ChangeSpec := { name := "spotsNames", fn := fun _ => fun
  | [] => { results := [.lit (.bool false)], args := [] }
  | _ => none }
def SpotsNamesWrongFalsely : Prop := spotsNamesRow.holds Try.pinned (OpenSpec.ofChange spotsNamesWrong)

/-- 'guiselaw2.SpotsAll': WHATEVER THE INPUT: true; the input reads as it did. -/
def spotsAllSpec : ChangeSpec := { name := "spotsAll", fn := fun _ => fun
  | [d1, d2] => { results := [.lit (.bool true)], args := [d1, d2] }
  | _ => none }
def spotsAllRow : OpenClaim := { program := "ytnphbjhikapoeaa", sum := "2285e5812a96cf7bd97d33b8deb65e0d384b8e03e9a84a297fb82eba7dfabc09", func := "guise/guiselaw2.SpotsAll", spec := "spotsAll", unfollowed := true, recurses := true, apart := false }
def SpotsAllSaid : Prop := spotsAllRow.holds Try.pinned (OpenSpec.ofChange spotsAllSpec)

/-- ITS FALSE NEIGHBOUR: 'it returns false'. Refute it at one input. -/
def spotsAllWrong : ChangeSpec := { name := "spotsAll", fn := fun _ => fun
  | [d1, d2] => { results := [.lit (.bool false)], args := [d1, d2] }
  | _ => none }
def SpotsAllWrongFalsely : Prop := spotsAllRow.holds Try.pinned (OpenSpec.ofChange spotsAllWrong)

/-- 'guiselaw3.SetsNames': WHATEVER THE INPUT: true; the input reads as it did. -/
def setsNamesSpec : ChangeSpec := { name := "setsNames", fn := fun _ => fun
  | [] => { results := [.lit (.bool true)], args := [] }
  | _ => none }
def setsNamesRow : OpenClaim := { program := "ytnphbjhikapoeaa", sum := "2285e5812a96cf7bd97d33b8deb65e0d384b8e03e9a84a297fb82eba7dfabc09", func := "guise/guiselaw3.SetsNames", spec := "setsNames", unfollowed := true, recurses := true, apart := false }
def SetsNamesSaid : Prop := setsNamesRow.holds Try.pinned (OpenSpec.ofChange setsNamesSpec)

/-- ITS FALSE NEIGHBOUR: 'it returns false'. Refute it at one input. -/
def setsNamesWrong : ChangeSpec := { name := "setsNames", fn := fun _ => fun
  | [] => { results := [.lit (.bool false)], args := [] }
  | _ => none }
def SetsNamesWrongFalsely : Prop := setsNamesRow.holds Try.pinned (OpenSpec.ofChange setsNamesWrong)

/- THE SECOND FORM. 'bulk': how many values and letters a reading holds, each counted each time it is reached (what is shared counts as often as it is met; a slice's spare places count too). A statement '..UptoSaid' is the law's where the arguments, and the package variables that the reading takes, are together of bulk at most 1048576: NARROWER than '..Said'. Prove '..Said' where nothing that the law and all that it calls make is longer than what came in: it says more and counts as full. Else prove '..UptoSaid'. A law counts once. -/
mutual
def uptoBulk {H : Type} : DataW H → Nat
  | .lit (.string bytes) => bytes.length + 1
  | .lit _ => 1
  | .nil => 1
  | .ptr d => uptoBulk d + 1
  | .slice elems spare => uptoBulkAll elems + uptoBulkAll spare + 1
  | .agg parts => uptoBulkAll parts + 1
  | .iface _ d => uptoBulk d + 1
  | .map entries => uptoBulkEntries entries + 1
  | .held _ => 1
def uptoBulkAll {H : Type} : List (DataW H) → Nat
  | [] => 0
  | d :: r => uptoBulk d + uptoBulkAll r
def uptoBulkEntries {H : Type} : List (Lit × DataW H) → Nat
  | [] => 0
  | x :: r => uptoBulkEntry x + uptoBulkEntries r
def uptoBulkEntry {H : Type} : Lit × DataW H → Nat
  | (.string bytes, d) => bytes.length + uptoBulk d + 1
  | (_, d) => uptoBulk d + 1
 end
def uptoSmall : (H : Type) → List (DataW H) → Bool := fun _ ds => decide (uptoBulkAll ds ≤ 1048576)
def OpenSpec.upto (s : _root_.Go.ChangeSpec) : _root_.Go.OpenSpec := { _root_.Go.OpenSpec.ofChange s with cond := some uptoSmall }

/-- 'guiselaw2.SpotsNames', WHERE WHAT IT READS IS OF BULK AT MOST 1048576: true; the input reads as it did. -/
def spotsNamesUptoRow : OpenClaim := { program := "ytnphbjhikapoeaa", sum := "2285e5812a96cf7bd97d33b8deb65e0d384b8e03e9a84a297fb82eba7dfabc09", func := "guise/guiselaw2.SpotsNames", spec := "spotsNames", unfollowed := true, recurses := true, apart := false, narrowed := true }
def SpotsNamesUptoSaid : Prop := spotsNamesUptoRow.holds Try.pinned (OpenSpec.upto spotsNamesSpec)

/-- 'guiselaw2.SpotsAll', WHERE WHAT IT READS IS OF BULK AT MOST 1048576: true; the input reads as it did. -/
def spotsAllUptoRow : OpenClaim := { program := "ytnphbjhikapoeaa", sum := "2285e5812a96cf7bd97d33b8deb65e0d384b8e03e9a84a297fb82eba7dfabc09", func := "guise/guiselaw2.SpotsAll", spec := "spotsAll", unfollowed := true, recurses := true, apart := false, narrowed := true }
def SpotsAllUptoSaid : Prop := spotsAllUptoRow.holds Try.pinned (OpenSpec.upto spotsAllSpec)

/-- 'guiselaw3.SetsNames', WHERE WHAT IT READS IS OF BULK AT MOST 1048576: true; the input reads as it did. -/
def setsNamesUptoRow : OpenClaim := { program := "ytnphbjhikapoeaa", sum := "2285e5812a96cf7bd97d33b8deb65e0d384b8e03e9a84a297fb82eba7dfabc09", func := "guise/guiselaw3.SetsNames", spec := "setsNames", unfollowed := true, recurses := true, apart := false, narrowed := true }
def SetsNamesUptoSaid : Prop := setsNamesUptoRow.holds Try.pinned (OpenSpec.upto setsNamesSpec)

end Rows
end Go.Proofs.Ytnphbjhikapoeaa
