/- Chapter 5's runs, reckoned. -/
import Derived.Test.YtbbnppcpjpdpaaaGreatDoorM24
import Derived.Test.YtbbnppcpjpdpaaaGreatDoorM25
namespace Go.Proofs.YtbbnppcpjpdpaaaGreatDoor
open Go.RowKit Go.Shelf
set_option linter.unusedVariables false
def kn1 : ByteArray := ⟨#[115, 99, 114, 105, 112, 116, 32, 97, 32, 123, 32, 39, 97, 39, 46, 46, 39, 122, 39, 32, 85, 43, 48, 48, 69, 57, 32, 125, 32, 102, 111, 108, 100, 32, 39, 65, 39, 32, 61, 32, 39, 97, 39, 32, 39, 98, 39, 32, 59, 32, 100, 114, 111, 112, 32, 123, 32, 39, 97, 39, 32, 39, 98, 39, 32, 125]⟩
def kn2 : ByteArray := ⟨#[102, 111, 108, 100, 32, 39, 65, 39, 32, 61, 32, 59]⟩
def knP : ByteArray := ⟨#[115, 99, 114, 105, 112, 116, 32, 97, 32, 123, 32, 39, 97, 39, 32, 46, 46, 32, 39, 122, 39, 32, 85, 43, 48, 48, 69, 57, 32, 125, 10, 102, 111, 108, 100, 32, 39, 65, 39, 32, 61, 32, 39, 97, 39, 32, 39, 98, 39, 32, 59, 10, 100, 114, 111, 112, 32, 123, 32, 39, 97, 39, 32, 39, 98, 39, 32, 125, 10]⟩
def knT : TV := ⟨[(⟨#[97]⟩, [(97, 122), (233, 233)])], [], [], [], [(65, ⟨#[97, 98]⟩)], [], [(97, 97), (98, 98)], [], [(0, 1, 1)], [], [], [], [(29, 1, 30)], [], [(57, 1, 58), (61, 1, 62)], []⟩
theorem kn1_bad : (parseA kn1).bad.isNone = true := by decide +kernel
theorem kn1_sc : (parseA kn1).T.sc = knT.sc := by decide +kernel
theorem kn2_bad : (parseA kn2).bad.map (fun r => (r.b, r.l, r.c, r.why)) = some (11, 1, 12, 5) := by decide +kernel
theorem knP_p : printV knT = (knP, 0) := by decide +kernel
end Go.Proofs.YtbbnppcpjpdpaaaGreatDoor
