/- The library's contract of slices.Clone, laid at this program: each field a fact of the program. -/
import Derived.Shelf.SlicesE.Clone
import Derived.Test.YtgchlilpjkndlaaGreatDoorProg
namespace Go.Proofs.YtgchlilpjkndlaaGreatDoor
open Go.Shelf
def cloneScript_ren : Go.Shelf.Ren := ⟨fun | 41 => 92 | n => n, fun | 22 => 27 | 23 => 74 | 4 => 4 | n => n, fun | n => n⟩
theorem cloneScript : Go.Proofs.SlLaysE0.n41 Tryz.prog cloneScript_ren := {
  mixed := by kernel_rfl
  f41 := ⟨Tryz.f92.name, by decide, Tryz.func92.trans (congrArg some (by kernel_rfl))⟩
  t4 := Tryz.underlying4
  a4 := Tryz.isAgg4
  z4 := Tryz.sizeOf4
  v4 := Tryz.zeroValue4
  t22 := Tryz.underlying27
  a22 := Tryz.isAgg27
  z22 := Tryz.sizeOf27
  v22 := Tryz.zeroValue27 }
def cloneSpan_ren : Go.Shelf.Ren := ⟨fun | 41 => 58 | n => n, fun | 22 => 28 | 23 => 76 | 4 => 4 | n => n, fun | n => n⟩
theorem cloneSpan : Go.Proofs.SlLaysE0.n41 Tryz.prog cloneSpan_ren := {
  mixed := by kernel_rfl
  f41 := ⟨Tryz.f58.name, by decide, Tryz.func58.trans (congrArg some (by kernel_rfl))⟩
  t4 := Tryz.underlying4
  a4 := Tryz.isAgg4
  z4 := Tryz.sizeOf4
  v4 := Tryz.zeroValue4
  t22 := Tryz.underlying28
  a22 := Tryz.isAgg28
  z22 := Tryz.sizeOf28
  v22 := Tryz.zeroValue28 }
def cloneMark_ren : Go.Shelf.Ren := ⟨fun | 41 => 59 | n => n, fun | 22 => 29 | 23 => 82 | 4 => 4 | n => n, fun | n => n⟩
theorem cloneMark : Go.Proofs.SlLaysE0.n41 Tryz.prog cloneMark_ren := {
  mixed := by kernel_rfl
  f41 := ⟨Tryz.f59.name, by decide, Tryz.func59.trans (congrArg some (by kernel_rfl))⟩
  t4 := Tryz.underlying4
  a4 := Tryz.isAgg4
  z4 := Tryz.sizeOf4
  v4 := Tryz.zeroValue4
  t22 := Tryz.underlying29
  a22 := Tryz.isAgg29
  z22 := Tryz.sizeOf29
  v22 := Tryz.zeroValue29 }
def clonePair_ren : Go.Shelf.Ren := ⟨fun | 41 => 60 | n => n, fun | 22 => 30 | 23 => 85 | 4 => 4 | n => n, fun | n => n⟩
theorem clonePair : Go.Proofs.SlLaysE0.n41 Tryz.prog clonePair_ren := {
  mixed := by kernel_rfl
  f41 := ⟨Tryz.f60.name, by decide, Tryz.func60.trans (congrArg some (by kernel_rfl))⟩
  t4 := Tryz.underlying4
  a4 := Tryz.isAgg4
  z4 := Tryz.sizeOf4
  v4 := Tryz.zeroValue4
  t22 := Tryz.underlying30
  a22 := Tryz.isAgg30
  z22 := Tryz.sizeOf30
  v22 := Tryz.zeroValue30 }
def cloneMap_ren : Go.Shelf.Ren := ⟨fun | 41 => 61 | n => n, fun | 22 => 31 | 23 => 78 | 4 => 4 | n => n, fun | n => n⟩
theorem cloneMap : Go.Proofs.SlLaysE0.n41 Tryz.prog cloneMap_ren := {
  mixed := by kernel_rfl
  f41 := ⟨Tryz.f61.name, by decide, Tryz.func61.trans (congrArg some (by kernel_rfl))⟩
  t4 := Tryz.underlying4
  a4 := Tryz.isAgg4
  z4 := Tryz.sizeOf4
  v4 := Tryz.zeroValue4
  t22 := Tryz.underlying31
  a22 := Tryz.isAgg31
  z22 := Tryz.sizeOf31
  v22 := Tryz.zeroValue31 }
end Go.Proofs.YtgchlilpjkndlaaGreatDoor
