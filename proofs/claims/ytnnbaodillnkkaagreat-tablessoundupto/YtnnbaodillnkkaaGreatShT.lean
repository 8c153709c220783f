/- The library's contract of slices.Clone, laid at this program: each field a fact of the program. -/
import Derived.Shelf.SlicesE.Compact
import Derived.Test.YtnnbaodillnkkaaGreatProg
namespace Go.Proofs.YtnnbaodillnkkaaGreat
open Go.Shelf
def compactRune_ren : Go.Shelf.Ren := ⟨fun | 43 => 32 | n => n, fun | 22 => 33 | 23 => 21 | 3 => 3 | 4 => 4 | 0 => 0 | n => n, fun | n => n⟩
theorem compactRune : Go.Proofs.SlLaysE.n43 Tryz.prog compactRune_ren := {
  mixed := by kernel_rfl
  f43 := ⟨Tryz.f32.name, by decide, Tryz.func32.trans (congrArg some (by kernel_rfl))⟩
  t0 := Tryz.underlying0
  a0 := Tryz.isAgg0
  z0 := Tryz.sizeOf0
  v0 := Tryz.zeroValue0
  t3 := Tryz.underlying3
  a3 := Tryz.isAgg3
  z3 := Tryz.sizeOf3
  v3 := Tryz.zeroValue3
  t4 := Tryz.underlying4
  a4 := Tryz.isAgg4
  z4 := Tryz.sizeOf4
  v4 := Tryz.zeroValue4
  t22 := Tryz.underlying33
  a22 := Tryz.isAgg33
  z22 := Tryz.sizeOf33
  v22 := Tryz.zeroValue33
  a23 := Tryz.isAgg21
  z23 := Tryz.sizeOf21 }
end Go.Proofs.YtnnbaodillnkkaaGreat
