/- The reference's own list of spots, told for every text that is not too great: a new list, spot by spot, the decoding's. -/
import Derived.Test.YtncmabmpkdmpfaaDoorSeqAll
namespace Go.Proofs.YtncmabmpkdmpfaaDoor
open Go.RowKit Go.Shelf
set_option linter.unusedVariables false

/-- The cells of the reference's spot at i. -/
def refCells (s : ByteArray) (i : Nat) : List Value := [.int .i32 (rn s i), .int .i64 i, .int .i64 (wd s i), .bool (decide (rn s i = 65533 ∧ wd s i = 1))]
theorem seqV_at (s : ByteArray) (i : Nat) (h : i < s.size) : seqV (s.extract i s.size) = if rn s i = 65533 ∧ wd s i = 1 then (0, 0) else ((wd s i : Int), (rn s i : Int)) := by
  unfold seqV
  have e : (s.extract i s.size).size ≠ 0 := by rw [ByteArray.size_extract]; omega
  simp only [rn, wd, decode_suffix s i 0 (Nat.le_of_lt h), Nat.add_zero, e, false_or]

theorem own_lt {W : World} {base : Nat} {e : TypeId} {size : Nat} {v : Value} {n : Nat} {xs : List Value} (h : W.ownsRow base e size v n xs) : ∀ g, v.ownBlock = some g → base ≤ g ∧ g < W.heap.size := by
  intro g hg
  rcases h.2 with ⟨rfl, _⟩ | ⟨g', cap, cur, rfl, hb, hh, _⟩
  · cases hg
  · cases hg
    exact ⟨hb, (Array.getElem?_eq_some_iff.1 hh).1⟩
theorem new_cells (W : World) (c0 c1 c2 c3 : Value) (t : TypeId) : ∀ j u, [c0, c1, c2, c3][j]? = some u → (W.alloc (.cells #[c0, c1, c2, c3] t)).cell? ((⟨W.heap.size, 0, none⟩ : Addr).add j) = some u := by
  intro j u hj
  have := (Blk.new W #[c0, c1, c2, c3] t).cell j
  rw [show (⟨W.heap.size, 0, none⟩ : Addr).add j = ⟨W.heap.size, j, none⟩ by unfold Addr.add; split <;> simp_all, this, ← hj]
  simp

end Go.Proofs.YtncmabmpkdmpfaaDoor
