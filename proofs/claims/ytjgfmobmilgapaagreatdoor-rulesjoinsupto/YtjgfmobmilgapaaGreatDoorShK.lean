/- The library's contract of slices.Clone, laid at this program: each field a fact of the program. -/
import Derived.Shelf.SlicesE.Clone
import Derived.Test.YtjgfmobmilgapaaGreatDoorProg
namespace Go.Proofs.YtjgfmobmilgapaaGreatDoor
open Go.Shelf
def cloneScript_ren : Go.Shelf.Ren := ⟨fun | 41 => 46 | n => n, fun | 22 => 22 | 23 => 64 | 4 => 4 | n => n, fun | n => n⟩
theorem cloneScript : Go.Proofs.SlLaysE0.n41 Tryz.prog cloneScript_ren := {
  mixed := by kernel_rfl
  f41 := ⟨Tryz.f46.name, by decide, Tryz.func46.trans (congrArg some (by kernel_rfl))⟩
  t4 := Tryz.underlying4
  a4 := Tryz.isAgg4
  z4 := Tryz.sizeOf4
  v4 := Tryz.zeroValue4
  t22 := Tryz.underlying22
  a22 := Tryz.isAgg22
  z22 := Tryz.sizeOf22
  v22 := Tryz.zeroValue22 }
def cloneSpan_ren : Go.Shelf.Ren := ⟨fun | 41 => 23 | n => n, fun | 22 => 23 | 23 => 68 | 4 => 4 | n => n, fun | n => n⟩
theorem cloneSpan : Go.Proofs.SlLaysE0.n41 Tryz.prog cloneSpan_ren := {
  mixed := by kernel_rfl
  f41 := ⟨Tryz.f23.name, by decide, Tryz.func23.trans (congrArg some (by kernel_rfl))⟩
  t4 := Tryz.underlying4
  a4 := Tryz.isAgg4
  z4 := Tryz.sizeOf4
  v4 := Tryz.zeroValue4
  t22 := Tryz.underlying23
  a22 := Tryz.isAgg23
  z22 := Tryz.sizeOf23
  v22 := Tryz.zeroValue23 }
def cloneMark_ren : Go.Shelf.Ren := ⟨fun | 41 => 24 | n => n, fun | 22 => 24 | 23 => 71 | 4 => 4 | n => n, fun | n => n⟩
theorem cloneMark : Go.Proofs.SlLaysE0.n41 Tryz.prog cloneMark_ren := {
  mixed := by kernel_rfl
  f41 := ⟨Tryz.f24.name, by decide, Tryz.func24.trans (congrArg some (by kernel_rfl))⟩
  t4 := Tryz.underlying4
  a4 := Tryz.isAgg4
  z4 := Tryz.sizeOf4
  v4 := Tryz.zeroValue4
  t22 := Tryz.underlying24
  a22 := Tryz.isAgg24
  z22 := Tryz.sizeOf24
  v22 := Tryz.zeroValue24 }
def clonePair_ren : Go.Shelf.Ren := ⟨fun | 41 => 25 | n => n, fun | 22 => 25 | 23 => 74 | 4 => 4 | n => n, fun | n => n⟩
theorem clonePair : Go.Proofs.SlLaysE0.n41 Tryz.prog clonePair_ren := {
  mixed := by kernel_rfl
  f41 := ⟨Tryz.f25.name, by decide, Tryz.func25.trans (congrArg some (by kernel_rfl))⟩
  t4 := Tryz.underlying4
  a4 := Tryz.isAgg4
  z4 := Tryz.sizeOf4
  v4 := Tryz.zeroValue4
  t22 := Tryz.underlying25
  a22 := Tryz.isAgg25
  z22 := Tryz.sizeOf25
  v22 := Tryz.zeroValue25 }
def cloneMap_ren : Go.Shelf.Ren := ⟨fun | 41 => 26 | n => n, fun | 22 => 26 | 23 => 77 | 4 => 4 | n => n, fun | n => n⟩
theorem cloneMap : Go.Proofs.SlLaysE0.n41 Tryz.prog cloneMap_ren := {
  mixed := by kernel_rfl
  f41 := ⟨Tryz.f26.name, by decide, Tryz.func26.trans (congrArg some (by kernel_rfl))⟩
  t4 := Tryz.underlying4
  a4 := Tryz.isAgg4
  z4 := Tryz.sizeOf4
  v4 := Tryz.zeroValue4
  t22 := Tryz.underlying26
  a22 := Tryz.isAgg26
  z22 := Tryz.sizeOf26
  v22 := Tryz.zeroValue26 }
end Go.Proofs.YtjgfmobmilgapaaGreatDoor
