/-
  No cell of these rows narrows 'for every input' (looked for: loops, veiled, ifaces, maps, wideKeys, modest, calm, conditions, laid).
  DERIVED. THE GIVEN ROWS OF THIS SEAT. 6 by the template 'for every input the law returns true; each argument reads behind the call as it read before'; 0 by the template 'total and deterministic' (their statements: YtoaiicbicdhkkaaGreatTotals.lean).
  GIVEN WITH THE SEED: the statements are not yours to turn. If you find one false, say at which input.
  Laid BY PROGRAM, IN A SANDBOX (cutbox-rows.mjs): the forced cells as the released guide's own fill.sh prints them over the translation fe6a364d6a034c41… (all of the seat's roots in one cut). By AI agents, Wed Nov 11 2026. No macro, syntax, notation, axiom, sorry.
-/
import Derived.Test.YtoaiicbicdhkkaaGreatChecked
import GoSem.Claim
import GoSem.ClaimJoined
import GoSem.ClaimMapViews
import Derived.JoinedTies
import Derived.KernelRfl
namespace Go.Proofs.YtoaiicbicdhkkaaGreat
/- THE CELL 'sum', in the pinned program and in every row, IS THE sha256 OF THE DUMP (.gsa) THAT YtoaiicbicdhkkaaGreatProg.lean LOADS. Nothing in Lean hashes anything: it is a label: what it is worth is what the hold of that sum in a sandbox is worth. -/
noncomputable def Tryz.pinned : Pinned := { name := "ytoaiicbicdhkkaagreat", sum := "fe6a364d6a034c41a9733ef679d98c0f0c28c8ad7d7c51b4046c3201e494f655", checked := Tryz.checked }
namespace Rows
def none {H : Type} : Left H := { results := [], args := [] }

/-- 'guiselaw11.StripNumbers': WHATEVER THE INPUT: true; the input reads as it did. -/
def stripNumbersSpec : ChangeSpec := { name := "stripNumbers", fn := fun _ => fun
  | [] => { results := [.lit (.bool true)], args := [] }
  | _ => none }
def stripNumbersRow : OpenClaim := { program := "ytoaiicbicdhkkaagreat", sum := "fe6a364d6a034c41a9733ef679d98c0f0c28c8ad7d7c51b4046c3201e494f655", func := "guise/guiselaw11.StripNumbers", spec := "stripNumbers", unfollowed := true, recurses := true, plainKeys := false, apart := false }
def StripNumbersSaid : Prop := stripNumbersRow.holds Tryz.pinned (OpenSpec.ofChange stripNumbersSpec)

/-- ITS FALSE NEIGHBOUR: 'it returns false'. Refute it at one input. -/
def stripNumbersWrong : ChangeSpec := { name := "stripNumbers", fn := fun _ => fun
  | [] => { results := [.lit (.bool false)], args := [] }
  | _ => none }
def StripNumbersWrongFalsely : Prop := stripNumbersRow.holds Tryz.pinned (OpenSpec.ofChange stripNumbersWrong)

/-- 'guiselaw11.StripStrips': WHATEVER THE INPUT: true; the input reads as it did. -/
def stripStripsSpec : ChangeSpec := { name := "stripStrips", fn := fun _ => fun
  | [d1, d2, d3, d4] => { results := [.lit (.bool true)], args := [d1, d2, d3, d4] }
  | _ => none }
def stripStripsRow : OpenClaim := { program := "ytoaiicbicdhkkaagreat", sum := "fe6a364d6a034c41a9733ef679d98c0f0c28c8ad7d7c51b4046c3201e494f655", func := "guise/guiselaw11.StripStrips", spec := "stripStrips", unfollowed := true, recurses := true, plainKeys := false, apart := false }
def StripStripsSaid : Prop := stripStripsRow.holds Tryz.pinned (OpenSpec.ofChange stripStripsSpec)

/-- ITS FALSE NEIGHBOUR: 'it returns false'. Refute it at one input. -/
def stripStripsWrong : ChangeSpec := { name := "stripStrips", fn := fun _ => fun
  | [d1, d2, d3, d4] => { results := [.lit (.bool false)], args := [d1, d2, d3, d4] }
  | _ => none }
def StripStripsWrongFalsely : Prop := stripStripsRow.holds Tryz.pinned (OpenSpec.ofChange stripStripsWrong)

/-- 'guiselaw11.StripSeen': WHATEVER THE INPUT: true; the input reads as it did. -/
def stripSeenSpec : ChangeSpec := { name := "stripSeen", fn := fun _ => fun
  | [d1, d2, d3] => { results := [.lit (.bool true)], args := [d1, d2, d3] }
  | _ => none }
def stripSeenRow : OpenClaim := { program := "ytoaiicbicdhkkaagreat", sum := "fe6a364d6a034c41a9733ef679d98c0f0c28c8ad7d7c51b4046c3201e494f655", func := "guise/guiselaw11.StripSeen", spec := "stripSeen", unfollowed := true, recurses := true, plainKeys := false, apart := false }
def StripSeenSaid : Prop := stripSeenRow.holds Tryz.pinned (OpenSpec.ofChange stripSeenSpec)

/-- ITS FALSE NEIGHBOUR: 'it returns false'. Refute it at one input. -/
def stripSeenWrong : ChangeSpec := { name := "stripSeen", fn := fun _ => fun
  | [d1, d2, d3] => { results := [.lit (.bool false)], args := [d1, d2, d3] }
  | _ => none }
def StripSeenWrongFalsely : Prop := stripSeenRow.holds Tryz.pinned (OpenSpec.ofChange stripSeenWrong)

/-- 'guiselaw11.StripOnce': WHATEVER THE INPUT: true; the input reads as it did. -/
def stripOnceSpec : ChangeSpec := { name := "stripOnce", fn := fun _ => fun
  | [d1, d2] => { results := [.lit (.bool true)], args := [d1, d2] }
  | _ => none }
def stripOnceRow : OpenClaim := { program := "ytoaiicbicdhkkaagreat", sum := "fe6a364d6a034c41a9733ef679d98c0f0c28c8ad7d7c51b4046c3201e494f655", func := "guise/guiselaw11.StripOnce", spec := "stripOnce", unfollowed := true, recurses := true, plainKeys := false, apart := false }
def StripOnceSaid : Prop := stripOnceRow.holds Tryz.pinned (OpenSpec.ofChange stripOnceSpec)

/-- ITS FALSE NEIGHBOUR: 'it returns false'. Refute it at one input. -/
def stripOnceWrong : ChangeSpec := { name := "stripOnce", fn := fun _ => fun
  | [d1, d2] => { results := [.lit (.bool false)], args := [d1, d2] }
  | _ => none }
def StripOnceWrongFalsely : Prop := stripOnceRow.holds Tryz.pinned (OpenSpec.ofChange stripOnceWrong)

/-- 'guiselaw11.StripJoins': WHATEVER THE INPUT: true; the input reads as it did. -/
def stripJoinsSpec : ChangeSpec := { name := "stripJoins", fn := fun _ => fun
  | [d1, d2, d3] => { results := [.lit (.bool true)], args := [d1, d2, d3] }
  | _ => none }
def stripJoinsRow : OpenClaim := { program := "ytoaiicbicdhkkaagreat", sum := "fe6a364d6a034c41a9733ef679d98c0f0c28c8ad7d7c51b4046c3201e494f655", func := "guise/guiselaw11.StripJoins", spec := "stripJoins", unfollowed := true, recurses := true, plainKeys := false, apart := false }
def StripJoinsSaid : Prop := stripJoinsRow.holds Tryz.pinned (OpenSpec.ofChange stripJoinsSpec)

/-- ITS FALSE NEIGHBOUR: 'it returns false'. Refute it at one input. -/
def stripJoinsWrong : ChangeSpec := { name := "stripJoins", fn := fun _ => fun
  | [d1, d2, d3] => { results := [.lit (.bool false)], args := [d1, d2, d3] }
  | _ => none }
def StripJoinsWrongFalsely : Prop := stripJoinsRow.holds Tryz.pinned (OpenSpec.ofChange stripJoinsWrong)

/-- 'guiselaw11.StripPlaces': WHATEVER THE INPUT: true; the input reads as it did. -/
def stripPlacesSpec : ChangeSpec := { name := "stripPlaces", fn := fun _ => fun
  | [d1, d2, d3] => { results := [.lit (.bool true)], args := [d1, d2, d3] }
  | _ => none }
def stripPlacesRow : OpenClaim := { program := "ytoaiicbicdhkkaagreat", sum := "fe6a364d6a034c41a9733ef679d98c0f0c28c8ad7d7c51b4046c3201e494f655", func := "guise/guiselaw11.StripPlaces", spec := "stripPlaces", unfollowed := true, recurses := true, plainKeys := false, apart := false }
def StripPlacesSaid : Prop := stripPlacesRow.holds Tryz.pinned (OpenSpec.ofChange stripPlacesSpec)

/-- ITS FALSE NEIGHBOUR: 'it returns false'. Refute it at one input. -/
def stripPlacesWrong : ChangeSpec := { name := "stripPlaces", fn := fun _ => fun
  | [d1, d2, d3] => { results := [.lit (.bool false)], args := [d1, d2, d3] }
  | _ => none }
def StripPlacesWrongFalsely : Prop := stripPlacesRow.holds Tryz.pinned (OpenSpec.ofChange stripPlacesWrong)

/- THE SECOND FORM. 'bulk': how many values and letters a reading holds, each counted each time it is reached (what is shared counts as often as it is met; a slice's spare places count too). A statement '..UptoSaid' is the law's where the arguments, and the package variables that the reading takes, are together of bulk at most 1048576: NARROWER than '..Said'. Prove '..Said' where nothing that the law and all that it calls make is longer than what came in: it says more and counts as full. Else prove '..UptoSaid'. A law counts once. -/
mutual
def uptoBulk {H : Type} : DataW H → Nat
  | .lit (.string bytes) => bytes.length + 1
  | .lit _ => 1
  | .nil => 1
  | .ptr d => uptoBulk d + 1
  | .slice elems spare => uptoBulkAll elems + uptoBulkAll spare + 1
  | .agg parts => uptoBulkAll parts + 1
  | .iface _ d => uptoBulk d + 1
  | .map entries => uptoBulkEntries entries + 1
  | .held _ => 1
def uptoBulkAll {H : Type} : List (DataW H) → Nat
  | [] => 0
  | d :: r => uptoBulk d + uptoBulkAll r
def uptoBulkEntries {H : Type} : List (Lit × DataW H) → Nat
  | [] => 0
  | x :: r => uptoBulkEntry x + uptoBulkEntries r
def uptoBulkEntry {H : Type} : Lit × DataW H → Nat
  | (.string bytes, d) => bytes.length + uptoBulk d + 1
  | (_, d) => uptoBulk d + 1
 end
def uptoSmall : (H : Type) → List (DataW H) → Bool := fun _ ds => decide (uptoBulkAll ds ≤ 1048576)
def OpenSpec.upto (s : _root_.Go.ChangeSpec) : _root_.Go.OpenSpec := { _root_.Go.OpenSpec.ofChange s with cond := some uptoSmall }

/-- 'guiselaw11.StripNumbers', WHERE WHAT IT READS IS OF BULK AT MOST 1048576: true; the input reads as it did. -/
def stripNumbersUptoRow : OpenClaim := { program := "ytoaiicbicdhkkaagreat", sum := "fe6a364d6a034c41a9733ef679d98c0f0c28c8ad7d7c51b4046c3201e494f655", func := "guise/guiselaw11.StripNumbers", spec := "stripNumbers", unfollowed := true, recurses := true, plainKeys := false, apart := false, narrowed := true }
def StripNumbersUptoSaid : Prop := stripNumbersUptoRow.holds Tryz.pinned (OpenSpec.upto stripNumbersSpec)

/-- 'guiselaw11.StripStrips', WHERE WHAT IT READS IS OF BULK AT MOST 1048576: true; the input reads as it did. -/
def stripStripsUptoRow : OpenClaim := { program := "ytoaiicbicdhkkaagreat", sum := "fe6a364d6a034c41a9733ef679d98c0f0c28c8ad7d7c51b4046c3201e494f655", func := "guise/guiselaw11.StripStrips", spec := "stripStrips", unfollowed := true, recurses := true, plainKeys := false, apart := false, narrowed := true }
def StripStripsUptoSaid : Prop := stripStripsUptoRow.holds Tryz.pinned (OpenSpec.upto stripStripsSpec)

/-- 'guiselaw11.StripSeen', WHERE WHAT IT READS IS OF BULK AT MOST 1048576: true; the input reads as it did. -/
def stripSeenUptoRow : OpenClaim := { program := "ytoaiicbicdhkkaagreat", sum := "fe6a364d6a034c41a9733ef679d98c0f0c28c8ad7d7c51b4046c3201e494f655", func := "guise/guiselaw11.StripSeen", spec := "stripSeen", unfollowed := true, recurses := true, plainKeys := false, apart := false, narrowed := true }
def StripSeenUptoSaid : Prop := stripSeenUptoRow.holds Tryz.pinned (OpenSpec.upto stripSeenSpec)

/-- 'guiselaw11.StripOnce', WHERE WHAT IT READS IS OF BULK AT MOST 1048576: true; the input reads as it did. -/
def stripOnceUptoRow : OpenClaim := { program := "ytoaiicbicdhkkaagreat", sum := "fe6a364d6a034c41a9733ef679d98c0f0c28c8ad7d7c51b4046c3201e494f655", func := "guise/guiselaw11.StripOnce", spec := "stripOnce", unfollowed := true, recurses := true, plainKeys := false, apart := false, narrowed := true }
def StripOnceUptoSaid : Prop := stripOnceUptoRow.holds Tryz.pinned (OpenSpec.upto stripOnceSpec)

/-- 'guiselaw11.StripJoins', WHERE WHAT IT READS IS OF BULK AT MOST 1048576: true; the input reads as it did. -/
def stripJoinsUptoRow : OpenClaim := { program := "ytoaiicbicdhkkaagreat", sum := "fe6a364d6a034c41a9733ef679d98c0f0c28c8ad7d7c51b4046c3201e494f655", func := "guise/guiselaw11.StripJoins", spec := "stripJoins", unfollowed := true, recurses := true, plainKeys := false, apart := false, narrowed := true }
def StripJoinsUptoSaid : Prop := stripJoinsUptoRow.holds Tryz.pinned (OpenSpec.upto stripJoinsSpec)

/-- 'guiselaw11.StripPlaces', WHERE WHAT IT READS IS OF BULK AT MOST 1048576: true; the input reads as it did. -/
def stripPlacesUptoRow : OpenClaim := { program := "ytoaiicbicdhkkaagreat", sum := "fe6a364d6a034c41a9733ef679d98c0f0c28c8ad7d7c51b4046c3201e494f655", func := "guise/guiselaw11.StripPlaces", spec := "stripPlaces", unfollowed := true, recurses := true, plainKeys := false, apart := false, narrowed := true }
def StripPlacesUptoSaid : Prop := stripPlacesUptoRow.holds Tryz.pinned (OpenSpec.upto stripPlacesSpec)

end Rows
end Go.Proofs.YtoaiicbicdhkkaaGreat
