/- UtfClean, for every text of at most a million letters: a clean text is valid, stays, has the same runes, is their text; a text is valid just if it is clean. -/
import Derived.Test.YthjndkjbjflmfaaText
import Derived.Test.YthjndkjbjflmfaaEnc
namespace Go.Proofs.Ythjndkjbjflmfaa
open Go.RowKit Go.Shelf
set_option linter.unusedVariables false

/-- A row of numbers in a world. -/
def RunesAt (W : World) (g o : Nat) (zs : List Int) : Prop := ∀ j, j < zs.length → W.cell? ⟨g, o + j, none⟩ = some (.int .i32 (zs.getD j 0))
theorem RunesAt.below {W W' : World} {N g o : Nat} {zs : List Int} (h : RunesAt W g o zs) (hb : Below N W W') (hg : g < N) : RunesAt W' g o zs := fun j hj => (hb.cell (p := ⟨g, o + j, none⟩) hg).trans (h j hj)

theorem cleanV_size (s : ByteArray) : (cleanV s).size ≤ 4 * s.size := by
  have h1 := runesBytes_size_le (runesL s)
  have h2 := starts_length s
  rw [runesL_length] at h1
  unfold cleanV
  omega

theorem runes2_any (s : ByteArray) (hs : s.size ≤ 70368744177664) (w : World) : Calls Try.prog 30 #[.string s] w fun e w' => ∃ cap, e = .returned (.slice (some ⟨w.heap.size, 0, none⟩) (runesL s).length cap) ∧ RunesAt w' w.heap.size 0 (runesL s) ∧ w.heap.size < w'.heap.size ∧ Below w.heap.size w w' := by
  refine (runes_any s hs w).mono ?_
  rintro e w' ⟨cap, rfl, hcap, cs, rfl⟩
  refine ⟨cap, rfl, fun j hj => ?_, by show w.heap.size < (w.drew.alloc _).heap.size; simp, ((Below.refl _ _).drew).alloc (Nat.le_refl _) _⟩
  have := runes_cell w.drew (runesL s) cs 21 j hj
  rw [show (⟨w.drew.heap.size, 0, none⟩ : Addr).add j = ⟨w.heap.size, 0 + j, none⟩ by unfold Addr.add; split <;> simp_all] at this
  exact this

theorem text_runes (s : ByteArray) : runesTV (runesL s) = .tuple #[.string (cleanV s), .int .i64 0] := by
  unfold runesTV
  rw [if_pos]
  · rfl
  · unfold allRunes
    rw [List.all_eq_true]
    intro z hz
    have := runesL_runes s z hz
    simpa using this

end Go.Proofs.Ythjndkjbjflmfaa
