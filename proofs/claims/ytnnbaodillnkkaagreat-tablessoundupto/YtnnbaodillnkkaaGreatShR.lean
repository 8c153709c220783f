/- The library's contract of slices.Clone, laid at this program: each field a fact of the program. -/
import Derived.Shelf.SlicesE.Clone
import Derived.Test.YtnnbaodillnkkaaGreatProg
namespace Go.Proofs.YtnnbaodillnkkaaGreat
open Go.Shelf
def cloneRune_ren : Go.Shelf.Ren := ⟨fun | 41 => 34 | n => n, fun | 22 => 33 | 23 => 21 | 4 => 4 | n => n, fun | n => n⟩
theorem cloneRune : Go.Proofs.SlLaysE0.n41 Tryz.prog cloneRune_ren := {
  mixed := by kernel_rfl
  f41 := ⟨Tryz.f34.name, by decide, Tryz.func34.trans (congrArg some (by kernel_rfl))⟩
  t4 := Tryz.underlying4
  a4 := Tryz.isAgg4
  z4 := Tryz.sizeOf4
  v4 := Tryz.zeroValue4
  t22 := Tryz.underlying33
  a22 := Tryz.isAgg33
  z22 := Tryz.sizeOf33
  v22 := Tryz.zeroValue33 }
end Go.Proofs.YtnnbaodillnkkaaGreat
