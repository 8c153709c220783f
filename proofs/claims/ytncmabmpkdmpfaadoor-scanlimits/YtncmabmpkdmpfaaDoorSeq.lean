/- The reference's own Sequence, told for every text: the width and the rune of the decoding, or nothing where it is bad. -/
import Derived.Test.YtncmabmpkdmpfaaDoorLast
import Derived.Test.YtncmabmpkdmpfaaDoorSeqMath
namespace Go.Proofs.YtncmabmpkdmpfaaDoor
open Go.RowKit Go.Shelf
set_option linter.unusedVariables false

/-- A bound for the rune's bits. -/
def bndOf (k : Nat) : Nat := if k = 1 then 32 else if k = 2 then 2048 else if k = 3 then 131072 else 8388608
theorem bnd_step (k A c : Nat) (h1 : 1 ≤ k) (h4 : k < 4) (hA : A < bndOf k) : A < 33554432 ∧ A * 64 + c % 64 < bndOf (k + 1) := by
  have : k = 1 ∨ k = 2 ∨ k = 3 := by omega
  rcases this with rfl | rfl | rfl <;> simp [bndOf] at hA ⊢ <;> omega
theorem step_bits (A c : Nat) (hA : A < 33554432) : bits BinOp.or IntKind.i32 (wrap32 (↑A * 64)) (↑c % 64) = ((A * 64 + c % 64 : Nat) : Int) := by
  rw [show wrap32 ((A : Int) * 64) = (A : Int) * 64 by unfold wrap32; omega]
  have h := i32_or6 ((A : Int) * 64) ((c : Int) % 64) (by omega) (by omega) (by omega) (by omega) (by omega)
  rw [h]
  omega

theorem and7 (b : Nat) (h : b < 256) : bits BinOp.and IntKind.u8 (b : Int) 7 = (b : Int) % 8 := by
  have e := u8_and_nat b 7 h (by omega)
  rw [show ((7 : Nat) : Int) = 7 from rfl] at e
  rw [e, show (7 : Nat) = 2 ^ 3 - 1 from rfl, Nat.and_two_pow_sub_one_eq_mod]
  omega

end Go.Proofs.YtncmabmpkdmpfaaDoor
