/- slices.Concat at two lists of spans. -/
import Derived.Test.YtemmflhofhngbaaSetMeet
import Derived.Lib.AppendZeros
namespace Go.Proofs.Ytemmflhofhngbaa
open Go.RowKit Go.Shelf
set_option linter.unusedVariables false
set_option linter.unusedSimpArgs false
/-- A list of spans behind another one that the call owns. -/
theorem appendP_run (W : World) (lo : Nat) (v : Value) (xs ys : List (Int × Int)) (b : Option Addr) (cb : Nat) (hx : xs.length ≤ 1000000) (hy : ys.length ≤ 1000000) (hv : W.ownsRow lo 28 2 v xs.length (encP xs)) (hr : RowP W b ys) (hlo : lo ≤ W.heap.size) :
    ∃ v1 W1, (Builtin.append_ #[30, 30] 30 #[v, .slice b ys.length cb]).run Try.prog W = .ok v1 W1 ∧ W1.ownsRow lo 28 2 v1 (xs ++ ys).length (encP (xs ++ ys)) ∧ W.grownBy W1 v.ownBlock := by
  obtain ⟨iP, hi0, hi1, hi2, hi3⟩ := info_parts infoP
  have hcells : ∀ p, b = some p → ∀ j u, (encP ys)[j]? = some u → W.cell? (p.add j) = some u := fun p hp j u hu => by
    have hl := (List.getElem?_eq_some_iff.1 hu).1
    rw [encP_length] at hl
    obtain ⟨g, o, h, hg, hc⟩ := hr (by omega)
    rw [hp] at h
    cases h
    rw [add_none']
    exact encP_cells hc j u hu
  cases b with
  | none =>
    have h0 : ys = [] := by
      by_cases e : 0 < ys.length
      · obtain ⟨g, o, h, _⟩ := hr e; cases h
      · exact List.eq_nil_of_length_eq_zero (by omega)
    subst h0
    refine ⟨v, W, ?_, by simpa using hv, ⟨rfl, rfl, rfl, Nat.le_refl _, fun _ _ _ => rfl⟩⟩
    rcases hv.2 with ⟨rfl, _⟩ | ⟨g, cap, cur, rfl, _, hg, h1, _⟩
    · simp [Builtin.append_, run_underlying Try.underlying30, sizeOf, typeInfo, hi0, Builtin.lenOf, Builtin.firstCells, loadCells, loadCellsFrom]
    · simp [Builtin.append_, run_underlying Try.underlying30, sizeOf, typeInfo, hi0, Builtin.lenOf, Builtin.firstCells, loadCells, loadCellsFrom, h1, storeCells]
  | some p =>
    obtain ⟨v2, w2, hr2, ho2, hg2, _⟩ := run_append_own (P := Try.prog) W lo 30 30 28 iP (.agg #[.int .i32 0, .int .i32 0]) 2 8 Try.underlying30 hi0 hi1 hi2 hi3 rfl (by decide) v xs.length (encP xs) hv p ys.length cb (encP ys) (encP_length ys) (hcells p rfl) (encP_one ys) (by unfold maxLen; omega) (by omega) hlo
    exact ⟨v2, w2, hr2, by rw [encP_append, List.length_append]; exact ho2, hg2⟩
end Go.Proofs.Ytemmflhofhngbaa
