/- The library's contract of slices.Clone, laid at this program: each field a fact of the program. -/
import Derived.Shelf.SlicesE.Clone
import Derived.Test.YtmdgejgokoadlaaGreatDoorProg
namespace Go.Proofs.YtmdgejgokoadlaaGreatDoor
open Go.Shelf
def cloneScript_ren : Go.Shelf.Ren := ⟨fun | 41 => 65 | n => n, fun | 22 => 27 | 23 => 71 | 4 => 4 | n => n, fun | n => n⟩
theorem cloneScript : Go.Proofs.SlLaysE0.n41 Tryz.prog cloneScript_ren := {
  mixed := by kernel_rfl
  f41 := ⟨Tryz.f65.name, by decide, Tryz.func65.trans (congrArg some (by kernel_rfl))⟩
  t4 := Tryz.underlying4
  a4 := Tryz.isAgg4
  z4 := Tryz.sizeOf4
  v4 := Tryz.zeroValue4
  t22 := Tryz.underlying27
  a22 := Tryz.isAgg27
  z22 := Tryz.sizeOf27
  v22 := Tryz.zeroValue27 }
def cloneSpan_ren : Go.Shelf.Ren := ⟨fun | 41 => 33 | n => n, fun | 22 => 28 | 23 => 73 | 4 => 4 | n => n, fun | n => n⟩
theorem cloneSpan : Go.Proofs.SlLaysE0.n41 Tryz.prog cloneSpan_ren := {
  mixed := by kernel_rfl
  f41 := ⟨Tryz.f33.name, by decide, Tryz.func33.trans (congrArg some (by kernel_rfl))⟩
  t4 := Tryz.underlying4
  a4 := Tryz.isAgg4
  z4 := Tryz.sizeOf4
  v4 := Tryz.zeroValue4
  t22 := Tryz.underlying28
  a22 := Tryz.isAgg28
  z22 := Tryz.sizeOf28
  v22 := Tryz.zeroValue28 }
def cloneMark_ren : Go.Shelf.Ren := ⟨fun | 41 => 34 | n => n, fun | 22 => 29 | 23 => 93 | 4 => 4 | n => n, fun | n => n⟩
theorem cloneMark : Go.Proofs.SlLaysE0.n41 Tryz.prog cloneMark_ren := {
  mixed := by kernel_rfl
  f41 := ⟨Tryz.f34.name, by decide, Tryz.func34.trans (congrArg some (by kernel_rfl))⟩
  t4 := Tryz.underlying4
  a4 := Tryz.isAgg4
  z4 := Tryz.sizeOf4
  v4 := Tryz.zeroValue4
  t22 := Tryz.underlying29
  a22 := Tryz.isAgg29
  z22 := Tryz.sizeOf29
  v22 := Tryz.zeroValue29 }
def clonePair_ren : Go.Shelf.Ren := ⟨fun | 41 => 35 | n => n, fun | 22 => 30 | 23 => 96 | 4 => 4 | n => n, fun | n => n⟩
theorem clonePair : Go.Proofs.SlLaysE0.n41 Tryz.prog clonePair_ren := {
  mixed := by kernel_rfl
  f41 := ⟨Tryz.f35.name, by decide, Tryz.func35.trans (congrArg some (by kernel_rfl))⟩
  t4 := Tryz.underlying4
  a4 := Tryz.isAgg4
  z4 := Tryz.sizeOf4
  v4 := Tryz.zeroValue4
  t22 := Tryz.underlying30
  a22 := Tryz.isAgg30
  z22 := Tryz.sizeOf30
  v22 := Tryz.zeroValue30 }
def cloneMap_ren : Go.Shelf.Ren := ⟨fun | 41 => 36 | n => n, fun | 22 => 31 | 23 => 75 | 4 => 4 | n => n, fun | n => n⟩
theorem cloneMap : Go.Proofs.SlLaysE0.n41 Tryz.prog cloneMap_ren := {
  mixed := by kernel_rfl
  f41 := ⟨Tryz.f36.name, by decide, Tryz.func36.trans (congrArg some (by kernel_rfl))⟩
  t4 := Tryz.underlying4
  a4 := Tryz.isAgg4
  z4 := Tryz.sizeOf4
  v4 := Tryz.zeroValue4
  t22 := Tryz.underlying31
  a22 := Tryz.isAgg31
  z22 := Tryz.sizeOf31
  v22 := Tryz.zeroValue31 }
end Go.Proofs.YtmdgejgokoadlaaGreatDoor
