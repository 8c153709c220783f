/- The library's contract of slices.Clone, laid at this program: each field a fact of the program. -/
import Derived.Shelf.SlicesE.Clone
import Derived.Test.YtbbnppcpjpdpaaaGreatDoorProg
namespace Go.Proofs.YtbbnppcpjpdpaaaGreatDoor
open Go.Shelf
def cloneScript_ren : Go.Shelf.Ren := ⟨fun | 41 => 53 | n => n, fun | 22 => 25 | 23 => 52 | 4 => 4 | n => n, fun | n => n⟩
theorem cloneScript : Go.Proofs.SlLaysE0.n41 Tryz.prog cloneScript_ren := {
  mixed := by kernel_rfl
  f41 := ⟨Tryz.f53.name, by decide, Tryz.func53.trans (congrArg some (by kernel_rfl))⟩
  t4 := Tryz.underlying4
  a4 := Tryz.isAgg4
  z4 := Tryz.sizeOf4
  v4 := Tryz.zeroValue4
  t22 := Tryz.underlying25
  a22 := Tryz.isAgg25
  z22 := Tryz.sizeOf25
  v22 := Tryz.zeroValue25 }
def cloneSpan_ren : Go.Shelf.Ren := ⟨fun | 41 => 31 | n => n, fun | 22 => 26 | 23 => 54 | 4 => 4 | n => n, fun | n => n⟩
theorem cloneSpan : Go.Proofs.SlLaysE0.n41 Tryz.prog cloneSpan_ren := {
  mixed := by kernel_rfl
  f41 := ⟨Tryz.f31.name, by decide, Tryz.func31.trans (congrArg some (by kernel_rfl))⟩
  t4 := Tryz.underlying4
  a4 := Tryz.isAgg4
  z4 := Tryz.sizeOf4
  v4 := Tryz.zeroValue4
  t22 := Tryz.underlying26
  a22 := Tryz.isAgg26
  z22 := Tryz.sizeOf26
  v22 := Tryz.zeroValue26 }
def cloneMark_ren : Go.Shelf.Ren := ⟨fun | 41 => 32 | n => n, fun | 22 => 27 | 23 => 72 | 4 => 4 | n => n, fun | n => n⟩
theorem cloneMark : Go.Proofs.SlLaysE0.n41 Tryz.prog cloneMark_ren := {
  mixed := by kernel_rfl
  f41 := ⟨Tryz.f32.name, by decide, Tryz.func32.trans (congrArg some (by kernel_rfl))⟩
  t4 := Tryz.underlying4
  a4 := Tryz.isAgg4
  z4 := Tryz.sizeOf4
  v4 := Tryz.zeroValue4
  t22 := Tryz.underlying27
  a22 := Tryz.isAgg27
  z22 := Tryz.sizeOf27
  v22 := Tryz.zeroValue27 }
def clonePair_ren : Go.Shelf.Ren := ⟨fun | 41 => 33 | n => n, fun | 22 => 28 | 23 => 76 | 4 => 4 | n => n, fun | n => n⟩
theorem clonePair : Go.Proofs.SlLaysE0.n41 Tryz.prog clonePair_ren := {
  mixed := by kernel_rfl
  f41 := ⟨Tryz.f33.name, by decide, Tryz.func33.trans (congrArg some (by kernel_rfl))⟩
  t4 := Tryz.underlying4
  a4 := Tryz.isAgg4
  z4 := Tryz.sizeOf4
  v4 := Tryz.zeroValue4
  t22 := Tryz.underlying28
  a22 := Tryz.isAgg28
  z22 := Tryz.sizeOf28
  v22 := Tryz.zeroValue28 }
def cloneMap_ren : Go.Shelf.Ren := ⟨fun | 41 => 34 | n => n, fun | 22 => 29 | 23 => 56 | 4 => 4 | n => n, fun | n => n⟩
theorem cloneMap : Go.Proofs.SlLaysE0.n41 Tryz.prog cloneMap_ren := {
  mixed := by kernel_rfl
  f41 := ⟨Tryz.f34.name, by decide, Tryz.func34.trans (congrArg some (by kernel_rfl))⟩
  t4 := Tryz.underlying4
  a4 := Tryz.isAgg4
  z4 := Tryz.sizeOf4
  v4 := Tryz.zeroValue4
  t22 := Tryz.underlying29
  a22 := Tryz.isAgg29
  z22 := Tryz.sizeOf29
  v22 := Tryz.zeroValue29 }
end Go.Proofs.YtbbnppcpjpdpaaaGreatDoor
