/- String of a text. -/
import Derived.Test.YtnphbjhikapoeaaSp
namespace Go.Proofs.Ytnphbjhikapoeaa
open Go.RowKit Go.Shelf
set_option linter.unusedVariables false

theorem string_text (B : Nat) (s : ByteArray) (W : World) (h : TextAt W B s) : Calls Try.prog 16 #[.pointer (some ⟨B, 0, none⟩)] W fun e w' => e = .returned (.string s) ∧ w' = W := by
  obtain ⟨g1, c1, g2, c2, hB, _⟩ := h
  have k0 := hB.cell 0
  go_enter Try.func16, Try.ntmps16
  go_wp2
  go_ret
  exact ⟨rfl, rfl⟩
end Go.Proofs.Ytnphbjhikapoeaa
