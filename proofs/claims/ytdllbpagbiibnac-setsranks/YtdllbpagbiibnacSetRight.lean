/- Right, of the sets and of their reference, told for every list of spans. -/
import Derived.Test.YtdllbpagbiibnacSetLeaf
import Derived.Test.YtdllbpagbiibnacSl
import Derived.Deep.QuietTactic
import Derived.BigQuiet
namespace Go.Proofs.Ytdllbpagbiibnac
open Go.RowKit Go.Shelf
set_option linter.unusedVariables false

theorem below_drewN {B : Nat} {a w : World} (h : Below B a w) (n : Nat) : Below B a (w.drewN n) := h.trans ⟨rfl, rfl, rfl, Nat.le_refl _, fun _ _ => rfl⟩
/-- A list of spans as it lies in a world. -/
def RowP (W : World) (a : Option Addr) (zs : List (Int × Int)) : Prop := 0 < zs.length → ∃ g o, a = some ⟨g, o, none⟩ ∧ g < W.heap.size ∧ ∀ j x, zs[j]? = some x → W.cell? ⟨g, o + j * 2, none⟩ = some (.int .i32 x.1) ∧ W.cell? ⟨g, o + j * 2 + 1, none⟩ = some (.int .i32 x.2)
theorem RowP.below {W W' : World} {a : Option Addr} {zs : List (Int × Int)} (h : RowP W a zs) (hb : Below W.heap.size W W') : RowP W' a zs := fun h0 => by
  obtain ⟨g, o, ha, hg, hc⟩ := h h0
  have := hb.size
  exact ⟨g, o, ha, by omega, fun j x hj => ⟨(hb.cell (p := ⟨g, o + j * 2, none⟩) hg).trans (hc j x hj).1, (hb.cell (p := ⟨g, o + j * 2 + 1, none⟩) hg).trans (hc j x hj).2⟩⟩

/-- Why row j may not stand; 0: it may. -/
def badRow (zs : List (Int × Int)) (j : Nat) : Int :=
  if wrongOf (zs.getD j (0, 0)) ≠ 0 then wrongOf (zs.getD j (0, 0)) else if 0 < j ∧ (zs.getD j (0, 0)).1 ≤ (zs.getD (j - 1) (0, 0)).2 then 13 else 0
/-- What Right answers. -/
def rightV (zs : List (Int × Int)) : Value := match (List.range zs.length).find? (fun j => badRow zs j != 0) with
  | some j => .tuple #[.int .i64 j, .int .i64 (badRow zs j)]
  | none => .tuple #[.int .i64 0, .int .i64 0]
theorem rightV_bad (zs : List (Int × Int)) (k : Nat) (hk : k < zs.length) (h0 : ∀ i, i < k → badRow zs i = 0) (h1 : badRow zs k ≠ 0) : rightV zs = .tuple #[.int .i64 k, .int .i64 (badRow zs k)] := by
  have : (List.range zs.length).find? (fun j => badRow zs j != 0) = some k := by
    rw [List.find?_range_eq_some]
    exact ⟨by simpa using h1, by simpa using hk, fun j hj => by simp [h0 j hj]⟩
  unfold rightV
  rw [this]
theorem rightV_ok (zs : List (Int × Int)) (h0 : ∀ i, i < zs.length → badRow zs i = 0) : rightV zs = .tuple #[.int .i64 0, .int .i64 0] := by
  have : (List.range zs.length).find? (fun j => badRow zs j != 0) = none := by
    rw [List.find?_eq_none]
    intro j hj
    simp [h0 j (by simpa using hj)]
  unfold rightV
  rw [this]

end Go.Proofs.Ytdllbpagbiibnac
