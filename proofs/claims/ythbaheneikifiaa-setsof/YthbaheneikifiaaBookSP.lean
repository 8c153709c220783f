/- The book's Same at lists of spans. -/
import Derived.Test.YthbaheneikifiaaBookMP
namespace Go.Proofs.Ythbaheneikifiaa
open Go.RowKit Go.Shelf
set_option linter.unusedVariables false
theorem below_drewNP {B : Nat} {a w : World} (h : Below B a w) (n : Nat) : Below B a (w.drewN n) := below_drewN h n
theorem own_lstP {W : World} {lo : Nat} {v : Value} {zs : List (Int × Int)} (h : W.ownsRow lo 63 2 v zs.length (encP zs)) : ∃ a cap, v = .slice a zs.length cap ∧ RowP W a zs ∧ zs.length ≤ cap ∧ cap ≤ maxLen := by
  obtain ⟨a, c, rfl, hr, _, hc⟩ := own_row h
  refine ⟨a, c, rfl, hr, hc, ?_⟩
  rcases h.2 with ⟨e, _⟩ | ⟨g, cap, cur, e, _, _, _, h2, _⟩
  · injection e with _ _ e3; rw [e3]; simp
  · injection e with _ _ e3; rw [e3]; exact h2
theorem same_ownP (lo : Nat) (v c : Value) (zs : List (Int × Int)) (w : World) (hv : w.ownsRow lo 63 2 v zs.length (encP zs)) (hc : w.ownsRow lo 63 2 c zs.length (encP zs)) :
    Calls Try.prog 25 #[v, c] w fun e w' => e = .returned (.bool true) ∧ Below w.heap.size w w' := by
  obtain ⟨a, ca, rfl, ha, h1, h2⟩ := own_lstP hv
  obtain ⟨b, cb, rfl, hb, _, _⟩ := own_lstP hc
  exact sameP_row a b ca cb zs (by unfold maxLen at h2; omega) w ha hb
end Go.Proofs.Ythbaheneikifiaa
