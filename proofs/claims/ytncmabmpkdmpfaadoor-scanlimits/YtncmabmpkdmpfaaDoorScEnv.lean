/- What a row's first world gives the walks. -/
import Derived.Test.YtncmabmpkdmpfaaDoorScKn
import Derived.Test.YtncmabmpkdmpfaaDoorShM
import Derived.Test.YtncmabmpkdmpfaaDoorRows
import Derived.LaidMore
import Derived.ProofKit
import Derived.Lib.LaidTab
import Derived.Stop.Joined
namespace Go.Proofs.YtncmabmpkdmpfaaDoor
open Go.ChangeShapes Go.WideShapes Go.ChangeAt Go.RowKit
set_option linter.unusedVariables false
def tab64 : List Int := [0, 1, 56, 2, 57, 49, 28, 3, 61, 58, 42, 50, 38, 29, 17, 4, 62, 47, 59, 36, 45, 43, 51, 22, 53, 39, 33, 30, 24, 18, 12, 5, 63, 55, 48, 27, 60, 41, 37, 16, 46, 35, 44, 21, 52, 32, 23, 11, 54, 26, 40, 15, 34, 20, 31, 10, 25, 14, 19, 9, 13, 8, 7, 6]
theorem laid64 : (Rows.laid_math_bits_deBruijn64tab : DataW Unit) = Lib.tabData .u8 tab64 := by kernel_rfl
theorem gTab : Tryd.prog.globalNamed "math/bits.deBruijn64tab" = some 6 := by kernel_rfl
theorem gTabT : (Tryd.prog.globals[6]?).map (·.type) = some 143 := by kernel_rfl
theorem cellsT : Tryd.prog.cellsOf 143 = 64 := by kernel_rfl
theorem cells5 : Tryd.prog.cellsOf 5 = 1 := by kernel_rfl
theorem env_of {rest : List (String × DataW Unit)} {n0 : String} {d0 : DataW Unit} {W : World} (h : laidMet Tryd.prog ((n0, d0) :: ("math/bits.deBruijn64tab", Rows.laid_math_bits_deBruijn64tab) :: rest) W) (hS : World.ShapedOpen Tryd.prog W) : ∃ m, Env m W := by
  obtain ⟨m, hm⟩ := layM145.s1_3 W hS
  obtain ⟨ps, ⟨g0, t0, cs0, f0, p0, q0, hg0, ht0, hv0, hd0, ⟨g1, t1, cs1, f1, p1, q1, hg1, ht1, hv1, hd1, _⟩, _⟩, _⟩ := h
  obtain rfl := Option.some.inj (gTab.symm.trans hg1)
  obtain rfl := Option.some.inj (gTabT.symm.trans ht1)
  rw [laid64] at hd1
  have hc := Lib.cells_of_tab Tryd.underlying143 Tryd.underlying5 cells5 cellsT hd1
  refine ⟨m, hm, ?_⟩
  have := World.var?_cell hg1 hv1 15
  rw [this, ← Array.getElem?_toList, hc]
  rfl
end Go.Proofs.YtncmabmpkdmpfaaDoor
