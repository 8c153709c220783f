/-
  No cell of these rows narrows 'for every input' (looked for: loops, veiled, ifaces, maps, wideKeys, modest, calm, conditions, laid).
  DERIVED. THE GIVEN ROWS OF THIS SEAT. 5 by the template 'for every input the law returns true; each argument reads behind the call as it read before'; 0 by the template 'total and deterministic' (their statements: YthchopdfmchpkaaGreatTotals.lean).
  GIVEN WITH THE SEED: the statements are not yours to turn. If you find one false, say at which input.
  Laid BY PROGRAM, IN A SANDBOX (cutbox-rows.mjs): the forced cells as the released guide's own fill.sh prints them over the translation 3a945e97791c04c6… (all of the seat's roots in one cut). By AI agents, Wed Nov 11 2026. No macro, syntax, notation, axiom, sorry.
-/
import Derived.Test.YthchopdfmchpkaaGreatChecked
import GoSem.Claim
import GoSem.ClaimJoined
import GoSem.ClaimMapViews
import Derived.JoinedTies
import Derived.KernelRfl
namespace Go.Proofs.YthchopdfmchpkaaGreat
/- THE CELL 'sum', in the pinned program and in every row, IS THE sha256 OF THE DUMP (.gsa) THAT YthchopdfmchpkaaGreatProg.lean LOADS. Nothing in Lean hashes anything: it is a label: what it is worth is what the hold of that sum in a sandbox is worth. -/
noncomputable def Tryz.pinned : Pinned := { name := "ythchopdfmchpkaagreat", sum := "3a945e97791c04c606294333be75ffcd04580f2fffb8663230e819616b5ad3b4", checked := Tryz.checked }
namespace Rows
def none {H : Type} : Left H := { results := [], args := [] }

/-- 'guiselaw14.ScriptNumbers': WHATEVER THE INPUT: true; the input reads as it did. -/
def scriptNumbersSpec : ChangeSpec := { name := "scriptNumbers", fn := fun _ => fun
  | [] => { results := [.lit (.bool true)], args := [] }
  | _ => none }
def scriptNumbersRow : OpenClaim := { program := "ythchopdfmchpkaagreat", sum := "3a945e97791c04c606294333be75ffcd04580f2fffb8663230e819616b5ad3b4", func := "guise/guiselaw14.ScriptNumbers", spec := "scriptNumbers", unfollowed := true, recurses := true, plainKeys := false, apart := false }
def ScriptNumbersSaid : Prop := scriptNumbersRow.holds Tryz.pinned (OpenSpec.ofChange scriptNumbersSpec)

/-- ITS FALSE NEIGHBOUR: 'it returns false'. Refute it at one input. -/
def scriptNumbersWrong : ChangeSpec := { name := "scriptNumbers", fn := fun _ => fun
  | [] => { results := [.lit (.bool false)], args := [] }
  | _ => none }
def ScriptNumbersWrongFalsely : Prop := scriptNumbersRow.holds Tryz.pinned (OpenSpec.ofChange scriptNumbersWrong)

/-- 'guiselaw14.ScriptOf': WHATEVER THE INPUT: true; the input reads as it did. -/
def scriptOfSpec : ChangeSpec := { name := "scriptOf", fn := fun _ => fun
  | [d1, d2, d3] => { results := [.lit (.bool true)], args := [d1, d2, d3] }
  | _ => none }
def scriptOfRow : OpenClaim := { program := "ythchopdfmchpkaagreat", sum := "3a945e97791c04c606294333be75ffcd04580f2fffb8663230e819616b5ad3b4", func := "guise/guiselaw14.ScriptOf", spec := "scriptOf", unfollowed := true, recurses := true, plainKeys := false, apart := false }
def ScriptOfSaid : Prop := scriptOfRow.holds Tryz.pinned (OpenSpec.ofChange scriptOfSpec)

/-- ITS FALSE NEIGHBOUR: 'it returns false'. Refute it at one input. -/
def scriptOfWrong : ChangeSpec := { name := "scriptOf", fn := fun _ => fun
  | [d1, d2, d3] => { results := [.lit (.bool false)], args := [d1, d2, d3] }
  | _ => none }
def ScriptOfWrongFalsely : Prop := scriptOfRow.holds Tryz.pinned (OpenSpec.ofChange scriptOfWrong)

/-- 'guiselaw14.ScriptRuns': WHATEVER THE INPUT: true; the input reads as it did. -/
def scriptRunsSpec : ChangeSpec := { name := "scriptRuns", fn := fun _ => fun
  | [d1, d2, d3] => { results := [.lit (.bool true)], args := [d1, d2, d3] }
  | _ => none }
def scriptRunsRow : OpenClaim := { program := "ythchopdfmchpkaagreat", sum := "3a945e97791c04c606294333be75ffcd04580f2fffb8663230e819616b5ad3b4", func := "guise/guiselaw14.ScriptRuns", spec := "scriptRuns", unfollowed := true, recurses := true, plainKeys := false, apart := false }
def ScriptRunsSaid : Prop := scriptRunsRow.holds Tryz.pinned (OpenSpec.ofChange scriptRunsSpec)

/-- ITS FALSE NEIGHBOUR: 'it returns false'. Refute it at one input. -/
def scriptRunsWrong : ChangeSpec := { name := "scriptRuns", fn := fun _ => fun
  | [d1, d2, d3] => { results := [.lit (.bool false)], args := [d1, d2, d3] }
  | _ => none }
def ScriptRunsWrongFalsely : Prop := scriptRunsRow.holds Tryz.pinned (OpenSpec.ofChange scriptRunsWrong)

/-- 'guiselaw14.ScriptTally': WHATEVER THE INPUT: true; the input reads as it did. -/
def scriptTallySpec : ChangeSpec := { name := "scriptTally", fn := fun _ => fun
  | [d1, d2] => { results := [.lit (.bool true)], args := [d1, d2] }
  | _ => none }
def scriptTallyRow : OpenClaim := { program := "ythchopdfmchpkaagreat", sum := "3a945e97791c04c606294333be75ffcd04580f2fffb8663230e819616b5ad3b4", func := "guise/guiselaw14.ScriptTally", spec := "scriptTally", unfollowed := true, recurses := true, plainKeys := false, apart := false }
def ScriptTallySaid : Prop := scriptTallyRow.holds Tryz.pinned (OpenSpec.ofChange scriptTallySpec)

/-- ITS FALSE NEIGHBOUR: 'it returns false'. Refute it at one input. -/
def scriptTallyWrong : ChangeSpec := { name := "scriptTally", fn := fun _ => fun
  | [d1, d2] => { results := [.lit (.bool false)], args := [d1, d2] }
  | _ => none }
def ScriptTallyWrongFalsely : Prop := scriptTallyRow.holds Tryz.pinned (OpenSpec.ofChange scriptTallyWrong)

/-- 'guiselaw14.ScriptLeast': WHATEVER THE INPUT: true; the input reads as it did. -/
def scriptLeastSpec : ChangeSpec := { name := "scriptLeast", fn := fun _ => fun
  | [d1, d2] => { results := [.lit (.bool true)], args := [d1, d2] }
  | _ => none }
def scriptLeastRow : OpenClaim := { program := "ythchopdfmchpkaagreat", sum := "3a945e97791c04c606294333be75ffcd04580f2fffb8663230e819616b5ad3b4", func := "guise/guiselaw14.ScriptLeast", spec := "scriptLeast", unfollowed := true, recurses := true, plainKeys := false, apart := false }
def ScriptLeastSaid : Prop := scriptLeastRow.holds Tryz.pinned (OpenSpec.ofChange scriptLeastSpec)

/-- ITS FALSE NEIGHBOUR: 'it returns false'. Refute it at one input. -/
def scriptLeastWrong : ChangeSpec := { name := "scriptLeast", fn := fun _ => fun
  | [d1, d2] => { results := [.lit (.bool false)], args := [d1, d2] }
  | _ => none }
def ScriptLeastWrongFalsely : Prop := scriptLeastRow.holds Tryz.pinned (OpenSpec.ofChange scriptLeastWrong)

/- THE SECOND FORM. 'bulk': how many values and letters a reading holds, each counted each time it is reached (what is shared counts as often as it is met; a slice's spare places count too). A statement '..UptoSaid' is the law's where the arguments, and the package variables that the reading takes, are together of bulk at most 1048576: NARROWER than '..Said'. Prove '..Said' where nothing that the law and all that it calls make is longer than what came in: it says more and counts as full. Else prove '..UptoSaid'. A law counts once. -/
mutual
def uptoBulk {H : Type} : DataW H → Nat
  | .lit (.string bytes) => bytes.length + 1
  | .lit _ => 1
  | .nil => 1
  | .ptr d => uptoBulk d + 1
  | .slice elems spare => uptoBulkAll elems + uptoBulkAll spare + 1
  | .agg parts => uptoBulkAll parts + 1
  | .iface _ d => uptoBulk d + 1
  | .map entries => uptoBulkEntries entries + 1
  | .held _ => 1
def uptoBulkAll {H : Type} : List (DataW H) → Nat
  | [] => 0
  | d :: r => uptoBulk d + uptoBulkAll r
def uptoBulkEntries {H : Type} : List (Lit × DataW H) → Nat
  | [] => 0
  | x :: r => uptoBulkEntry x + uptoBulkEntries r
def uptoBulkEntry {H : Type} : Lit × DataW H → Nat
  | (.string bytes, d) => bytes.length + uptoBulk d + 1
  | (_, d) => uptoBulk d + 1
 end
def uptoSmall : (H : Type) → List (DataW H) → Bool := fun _ ds => decide (uptoBulkAll ds ≤ 1048576)
def OpenSpec.upto (s : _root_.Go.ChangeSpec) : _root_.Go.OpenSpec := { _root_.Go.OpenSpec.ofChange s with cond := some uptoSmall }

/-- 'guiselaw14.ScriptNumbers', WHERE WHAT IT READS IS OF BULK AT MOST 1048576: true; the input reads as it did. -/
def scriptNumbersUptoRow : OpenClaim := { program := "ythchopdfmchpkaagreat", sum := "3a945e97791c04c606294333be75ffcd04580f2fffb8663230e819616b5ad3b4", func := "guise/guiselaw14.ScriptNumbers", spec := "scriptNumbers", unfollowed := true, recurses := true, plainKeys := false, apart := false, narrowed := true }
def ScriptNumbersUptoSaid : Prop := scriptNumbersUptoRow.holds Tryz.pinned (OpenSpec.upto scriptNumbersSpec)

/-- 'guiselaw14.ScriptOf', WHERE WHAT IT READS IS OF BULK AT MOST 1048576: true; the input reads as it did. -/
def scriptOfUptoRow : OpenClaim := { program := "ythchopdfmchpkaagreat", sum := "3a945e97791c04c606294333be75ffcd04580f2fffb8663230e819616b5ad3b4", func := "guise/guiselaw14.ScriptOf", spec := "scriptOf", unfollowed := true, recurses := true, plainKeys := false, apart := false, narrowed := true }
def ScriptOfUptoSaid : Prop := scriptOfUptoRow.holds Tryz.pinned (OpenSpec.upto scriptOfSpec)

/-- 'guiselaw14.ScriptRuns', WHERE WHAT IT READS IS OF BULK AT MOST 1048576: true; the input reads as it did. -/
def scriptRunsUptoRow : OpenClaim := { program := "ythchopdfmchpkaagreat", sum := "3a945e97791c04c606294333be75ffcd04580f2fffb8663230e819616b5ad3b4", func := "guise/guiselaw14.ScriptRuns", spec := "scriptRuns", unfollowed := true, recurses := true, plainKeys := false, apart := false, narrowed := true }
def ScriptRunsUptoSaid : Prop := scriptRunsUptoRow.holds Tryz.pinned (OpenSpec.upto scriptRunsSpec)

/-- 'guiselaw14.ScriptTally', WHERE WHAT IT READS IS OF BULK AT MOST 1048576: true; the input reads as it did. -/
def scriptTallyUptoRow : OpenClaim := { program := "ythchopdfmchpkaagreat", sum := "3a945e97791c04c606294333be75ffcd04580f2fffb8663230e819616b5ad3b4", func := "guise/guiselaw14.ScriptTally", spec := "scriptTally", unfollowed := true, recurses := true, plainKeys := false, apart := false, narrowed := true }
def ScriptTallyUptoSaid : Prop := scriptTallyUptoRow.holds Tryz.pinned (OpenSpec.upto scriptTallySpec)

/-- 'guiselaw14.ScriptLeast', WHERE WHAT IT READS IS OF BULK AT MOST 1048576: true; the input reads as it did. -/
def scriptLeastUptoRow : OpenClaim := { program := "ythchopdfmchpkaagreat", sum := "3a945e97791c04c606294333be75ffcd04580f2fffb8663230e819616b5ad3b4", func := "guise/guiselaw14.ScriptLeast", spec := "scriptLeast", unfollowed := true, recurses := true, plainKeys := false, apart := false, narrowed := true }
def ScriptLeastUptoSaid : Prop := scriptLeastUptoRow.holds Tryz.pinned (OpenSpec.upto scriptLeastSpec)

end Rows
end Go.Proofs.YthchopdfmchpkaaGreat
