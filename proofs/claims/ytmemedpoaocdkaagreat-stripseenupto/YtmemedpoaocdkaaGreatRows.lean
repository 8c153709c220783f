/-
  No cell of these rows narrows 'for every input' (looked for: loops, veiled, ifaces, maps, wideKeys, modest, calm, conditions, laid).
  DERIVED. THE GIVEN ROWS OF THIS SEAT. 6 by the template 'for every input the law returns true; each argument reads behind the call as it read before'; 0 by the template 'total and deterministic' (their statements: YtmemedpoaocdkaaGreatTotals.lean).
  GIVEN WITH THE SEED: the statements are not yours to turn. If you find one false, say at which input.
  Laid BY PROGRAM, IN A SANDBOX (cutbox-rows.mjs): the forced cells as the released guide's own fill.sh prints them over the translation 5b9e476735e9f521… (all of the seat's roots in one cut). By AI agents, Wed Nov 11 2026. No macro, syntax, notation, axiom, sorry.
-/
import Derived.Test.YtmemedpoaocdkaaGreatChecked
import GoSem.Claim
import GoSem.ClaimJoined
import GoSem.ClaimMapViews
import Derived.JoinedTies
import Derived.KernelRfl
namespace Go.Proofs.YtmemedpoaocdkaaGreat
/- THE CELL 'sum', in the pinned program and in every row, IS THE sha256 OF THE DUMP (.gsa) THAT YtmemedpoaocdkaaGreatProg.lean LOADS. Nothing in Lean hashes anything: it is a label: what it is worth is what the hold of that sum in a sandbox is worth. -/
noncomputable def Tryz.pinned : Pinned := { name := "ytmemedpoaocdkaagreat", sum := "5b9e476735e9f521d469c41d082ea0ef9b3fb71404e733ec3e25bb69bcb05890", checked := Tryz.checked }
namespace Rows
def none {H : Type} : Left H := { results := [], args := [] }

/-- 'guiselaw11.StripStrips': WHATEVER THE INPUT: true; the input reads as it did. -/
def stripStripsSpec : ChangeSpec := { name := "stripStrips", fn := fun _ => fun
  | [d1, d2, d3, d4] => { results := [.lit (.bool true)], args := [d1, d2, d3, d4] }
  | _ => none }
def stripStripsRow : OpenClaim := { program := "ytmemedpoaocdkaagreat", sum := "5b9e476735e9f521d469c41d082ea0ef9b3fb71404e733ec3e25bb69bcb05890", func := "guise/guiselaw11.StripStrips", spec := "stripStrips", unfollowed := true, recurses := true, plainKeys := false, apart := false }
def StripStripsSaid : Prop := stripStripsRow.holds Tryz.pinned (OpenSpec.ofChange stripStripsSpec)

/-- ITS FALSE NEIGHBOUR: 'it returns false'. Refute it at one input. -/
def stripStripsWrong : ChangeSpec := { name := "stripStrips", fn := fun _ => fun
  | [d1, d2, d3, d4] => { results := [.lit (.bool false)], args := [d1, d2, d3, d4] }
  | _ => none }
def StripStripsWrongFalsely : Prop := stripStripsRow.holds Tryz.pinned (OpenSpec.ofChange stripStripsWrong)

/-- 'guiselaw11.StripSeen': WHATEVER THE INPUT: true; the input reads as it did. -/
def stripSeenSpec : ChangeSpec := { name := "stripSeen", fn := fun _ => fun
  | [d1, d2, d3] => { results := [.lit (.bool true)], args := [d1, d2, d3] }
  | _ => none }
def stripSeenRow : OpenClaim := { program := "ytmemedpoaocdkaagreat", sum := "5b9e476735e9f521d469c41d082ea0ef9b3fb71404e733ec3e25bb69bcb05890", func := "guise/guiselaw11.StripSeen", spec := "stripSeen", unfollowed := true, recurses := true, plainKeys := false, apart := false }
def StripSeenSaid : Prop := stripSeenRow.holds Tryz.pinned (OpenSpec.ofChange stripSeenSpec)

/-- ITS FALSE NEIGHBOUR: 'it returns false'. Refute it at one input. -/
def stripSeenWrong : ChangeSpec := { name := "stripSeen", fn := fun _ => fun
  | [d1, d2, d3] => { results := [.lit (.bool false)], args := [d1, d2, d3] }
  | _ => none }
def StripSeenWrongFalsely : Prop := stripSeenRow.holds Tryz.pinned (OpenSpec.ofChange stripSeenWrong)

/-- 'guiselaw11.StripJoins': WHATEVER THE INPUT: true; the input reads as it did. -/
def stripJoinsSpec : ChangeSpec := { name := "stripJoins", fn := fun _ => fun
  | [d1, d2, d3] => { results := [.lit (.bool true)], args := [d1, d2, d3] }
  | _ => none }
def stripJoinsRow : OpenClaim := { program := "ytmemedpoaocdkaagreat", sum := "5b9e476735e9f521d469c41d082ea0ef9b3fb71404e733ec3e25bb69bcb05890", func := "guise/guiselaw11.StripJoins", spec := "stripJoins", unfollowed := true, recurses := true, plainKeys := false, apart := false }
def StripJoinsSaid : Prop := stripJoinsRow.holds Tryz.pinned (OpenSpec.ofChange stripJoinsSpec)

/-- ITS FALSE NEIGHBOUR: 'it returns false'. Refute it at one input. -/
def stripJoinsWrong : ChangeSpec := { name := "stripJoins", fn := fun _ => fun
  | [d1, d2, d3] => { results := [.lit (.bool false)], args := [d1, d2, d3] }
  | _ => none }
def StripJoinsWrongFalsely : Prop := stripJoinsRow.holds Tryz.pinned (OpenSpec.ofChange stripJoinsWrong)

/-- 'guiselaw14.ScriptPieces': WHATEVER THE INPUT: true; the input reads as it did. -/
def scriptPiecesSpec : ChangeSpec := { name := "scriptPieces", fn := fun _ => fun
  | [d1, d2, d3, d4] => { results := [.lit (.bool true)], args := [d1, d2, d3, d4] }
  | _ => none }
def scriptPiecesRow : OpenClaim := { program := "ytmemedpoaocdkaagreat", sum := "5b9e476735e9f521d469c41d082ea0ef9b3fb71404e733ec3e25bb69bcb05890", func := "guise/guiselaw14.ScriptPieces", spec := "scriptPieces", unfollowed := true, recurses := true, plainKeys := false, apart := false }
def ScriptPiecesSaid : Prop := scriptPiecesRow.holds Tryz.pinned (OpenSpec.ofChange scriptPiecesSpec)

/-- ITS FALSE NEIGHBOUR: 'it returns false'. Refute it at one input. -/
def scriptPiecesWrong : ChangeSpec := { name := "scriptPieces", fn := fun _ => fun
  | [d1, d2, d3, d4] => { results := [.lit (.bool false)], args := [d1, d2, d3, d4] }
  | _ => none }
def ScriptPiecesWrongFalsely : Prop := scriptPiecesRow.holds Tryz.pinned (OpenSpec.ofChange scriptPiecesWrong)

/-- 'guiselaw14.ScriptJoins': WHATEVER THE INPUT: true; the input reads as it did. -/
def scriptJoinsSpec : ChangeSpec := { name := "scriptJoins", fn := fun _ => fun
  | [d1, d2, d3] => { results := [.lit (.bool true)], args := [d1, d2, d3] }
  | _ => none }
def scriptJoinsRow : OpenClaim := { program := "ytmemedpoaocdkaagreat", sum := "5b9e476735e9f521d469c41d082ea0ef9b3fb71404e733ec3e25bb69bcb05890", func := "guise/guiselaw14.ScriptJoins", spec := "scriptJoins", unfollowed := true, recurses := true, plainKeys := false, apart := false }
def ScriptJoinsSaid : Prop := scriptJoinsRow.holds Tryz.pinned (OpenSpec.ofChange scriptJoinsSpec)

/-- ITS FALSE NEIGHBOUR: 'it returns false'. Refute it at one input. -/
def scriptJoinsWrong : ChangeSpec := { name := "scriptJoins", fn := fun _ => fun
  | [d1, d2, d3] => { results := [.lit (.bool false)], args := [d1, d2, d3] }
  | _ => none }
def ScriptJoinsWrongFalsely : Prop := scriptJoinsRow.holds Tryz.pinned (OpenSpec.ofChange scriptJoinsWrong)

/-- 'guiselaw14.ScriptStops': WHATEVER THE INPUT: true; the input reads as it did. -/
def scriptStopsSpec : ChangeSpec := { name := "scriptStops", fn := fun _ => fun
  | [d1, d2, d3] => { results := [.lit (.bool true)], args := [d1, d2, d3] }
  | _ => none }
def scriptStopsRow : OpenClaim := { program := "ytmemedpoaocdkaagreat", sum := "5b9e476735e9f521d469c41d082ea0ef9b3fb71404e733ec3e25bb69bcb05890", func := "guise/guiselaw14.ScriptStops", spec := "scriptStops", unfollowed := true, recurses := true, plainKeys := false, apart := false }
def ScriptStopsSaid : Prop := scriptStopsRow.holds Tryz.pinned (OpenSpec.ofChange scriptStopsSpec)

/-- ITS FALSE NEIGHBOUR: 'it returns false'. Refute it at one input. -/
def scriptStopsWrong : ChangeSpec := { name := "scriptStops", fn := fun _ => fun
  | [d1, d2, d3] => { results := [.lit (.bool false)], args := [d1, d2, d3] }
  | _ => none }
def ScriptStopsWrongFalsely : Prop := scriptStopsRow.holds Tryz.pinned (OpenSpec.ofChange scriptStopsWrong)

/- THE SECOND FORM. 'bulk': how many values and letters a reading holds, each counted each time it is reached (what is shared counts as often as it is met; a slice's spare places count too). A statement '..UptoSaid' is the law's where the arguments, and the package variables that the reading takes, are together of bulk at most 1048576: NARROWER than '..Said'. Prove '..Said' where nothing that the law and all that it calls make is longer than what came in: it says more and counts as full. Else prove '..UptoSaid'. A law counts once. -/
mutual
def uptoBulk {H : Type} : DataW H → Nat
  | .lit (.string bytes) => bytes.length + 1
  | .lit _ => 1
  | .nil => 1
  | .ptr d => uptoBulk d + 1
  | .slice elems spare => uptoBulkAll elems + uptoBulkAll spare + 1
  | .agg parts => uptoBulkAll parts + 1
  | .iface _ d => uptoBulk d + 1
  | .map entries => uptoBulkEntries entries + 1
  | .held _ => 1
def uptoBulkAll {H : Type} : List (DataW H) → Nat
  | [] => 0
  | d :: r => uptoBulk d + uptoBulkAll r
def uptoBulkEntries {H : Type} : List (Lit × DataW H) → Nat
  | [] => 0
  | x :: r => uptoBulkEntry x + uptoBulkEntries r
def uptoBulkEntry {H : Type} : Lit × DataW H → Nat
  | (.string bytes, d) => bytes.length + uptoBulk d + 1
  | (_, d) => uptoBulk d + 1
 end
def uptoSmall : (H : Type) → List (DataW H) → Bool := fun _ ds => decide (uptoBulkAll ds ≤ 1048576)
def OpenSpec.upto (s : _root_.Go.ChangeSpec) : _root_.Go.OpenSpec := { _root_.Go.OpenSpec.ofChange s with cond := some uptoSmall }

/-- 'guiselaw11.StripStrips', WHERE WHAT IT READS IS OF BULK AT MOST 1048576: true; the input reads as it did. -/
def stripStripsUptoRow : OpenClaim := { program := "ytmemedpoaocdkaagreat", sum := "5b9e476735e9f521d469c41d082ea0ef9b3fb71404e733ec3e25bb69bcb05890", func := "guise/guiselaw11.StripStrips", spec := "stripStrips", unfollowed := true, recurses := true, plainKeys := false, apart := false, narrowed := true }
def StripStripsUptoSaid : Prop := stripStripsUptoRow.holds Tryz.pinned (OpenSpec.upto stripStripsSpec)

/-- 'guiselaw11.StripSeen', WHERE WHAT IT READS IS OF BULK AT MOST 1048576: true; the input reads as it did. -/
def stripSeenUptoRow : OpenClaim := { program := "ytmemedpoaocdkaagreat", sum := "5b9e476735e9f521d469c41d082ea0ef9b3fb71404e733ec3e25bb69bcb05890", func := "guise/guiselaw11.StripSeen", spec := "stripSeen", unfollowed := true, recurses := true, plainKeys := false, apart := false, narrowed := true }
def StripSeenUptoSaid : Prop := stripSeenUptoRow.holds Tryz.pinned (OpenSpec.upto stripSeenSpec)

/-- 'guiselaw11.StripJoins', WHERE WHAT IT READS IS OF BULK AT MOST 1048576: true; the input reads as it did. -/
def stripJoinsUptoRow : OpenClaim := { program := "ytmemedpoaocdkaagreat", sum := "5b9e476735e9f521d469c41d082ea0ef9b3fb71404e733ec3e25bb69bcb05890", func := "guise/guiselaw11.StripJoins", spec := "stripJoins", unfollowed := true, recurses := true, plainKeys := false, apart := false, narrowed := true }
def StripJoinsUptoSaid : Prop := stripJoinsUptoRow.holds Tryz.pinned (OpenSpec.upto stripJoinsSpec)

/-- 'guiselaw14.ScriptPieces', WHERE WHAT IT READS IS OF BULK AT MOST 1048576: true; the input reads as it did. -/
def scriptPiecesUptoRow : OpenClaim := { program := "ytmemedpoaocdkaagreat", sum := "5b9e476735e9f521d469c41d082ea0ef9b3fb71404e733ec3e25bb69bcb05890", func := "guise/guiselaw14.ScriptPieces", spec := "scriptPieces", unfollowed := true, recurses := true, plainKeys := false, apart := false, narrowed := true }
def ScriptPiecesUptoSaid : Prop := scriptPiecesUptoRow.holds Tryz.pinned (OpenSpec.upto scriptPiecesSpec)

/-- 'guiselaw14.ScriptJoins', WHERE WHAT IT READS IS OF BULK AT MOST 1048576: true; the input reads as it did. -/
def scriptJoinsUptoRow : OpenClaim := { program := "ytmemedpoaocdkaagreat", sum := "5b9e476735e9f521d469c41d082ea0ef9b3fb71404e733ec3e25bb69bcb05890", func := "guise/guiselaw14.ScriptJoins", spec := "scriptJoins", unfollowed := true, recurses := true, plainKeys := false, apart := false, narrowed := true }
def ScriptJoinsUptoSaid : Prop := scriptJoinsUptoRow.holds Tryz.pinned (OpenSpec.upto scriptJoinsSpec)

/-- 'guiselaw14.ScriptStops', WHERE WHAT IT READS IS OF BULK AT MOST 1048576: true; the input reads as it did. -/
def scriptStopsUptoRow : OpenClaim := { program := "ytmemedpoaocdkaagreat", sum := "5b9e476735e9f521d469c41d082ea0ef9b3fb71404e733ec3e25bb69bcb05890", func := "guise/guiselaw14.ScriptStops", spec := "scriptStops", unfollowed := true, recurses := true, plainKeys := false, apart := false, narrowed := true }
def ScriptStopsUptoSaid : Prop := scriptStopsUptoRow.holds Tryz.pinned (OpenSpec.upto scriptStopsSpec)

end Rows
end Go.Proofs.YtmemedpoaocdkaaGreat
