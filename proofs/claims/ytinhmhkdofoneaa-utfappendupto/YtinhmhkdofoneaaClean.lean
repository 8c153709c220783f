/- UtfClean, for every text of at most a million letters: a clean text is valid, stays, has the same runes, is their text; a text is valid just if it is clean. -/
import Derived.Test.YtinhmhkdofoneaaText
import Derived.Test.YtinhmhkdofoneaaEnc
namespace Go.Proofs.Ytinhmhkdofoneaa
open Go.RowKit Go.Shelf
set_option linter.unusedVariables false

/-- A row of numbers in a world. -/
def RunesAt (W : World) (g o : Nat) (zs : List Int) : Prop := ∀ j, j < zs.length → W.cell? ⟨g, o + j, none⟩ = some (.int .i32 (zs.getD j 0))
theorem RunesAt.below {W W' : World} {N g o : Nat} {zs : List Int} (h : RunesAt W g o zs) (hb : Below N W W') (hg : g < N) : RunesAt W' g o zs := fun j hj => (hb.cell (p := ⟨g, o + j, none⟩) hg).trans (h j hj)

theorem cleanV_size (s : ByteArray) : (cleanV s).size ≤ 4 * s.size := by
  have h1 := runesBytes_size_le (runesL s)
  have h2 := starts_length s
  rw [runesL_length] at h1
  unfold cleanV
  omega

theorem runes2_any (s : ByteArray) (hs : s.size ≤ 70368744177664) (w : World) : Calls Try.prog 16 #[.string s] w fun e w' => ∃ cap, e = .returned (.slice (some ⟨w.heap.size, 0, none⟩) (runesL s).length cap) ∧ RunesAt w' w.heap.size 0 (runesL s) ∧ w.heap.size < w'.heap.size ∧ Below w.heap.size w w' := by
  refine (runes_any s hs w).mono ?_
  rintro e w' ⟨cap, rfl, hcap, cs, rfl⟩
  refine ⟨cap, rfl, fun j hj => ?_, by show w.heap.size < (w.drew.alloc _).heap.size; simp, ((Below.refl _ _).drew).alloc (Nat.le_refl _) _⟩
  have := runes_cell w.drew (runesL s) cs 21 j hj
  rw [show (⟨w.drew.heap.size, 0, none⟩ : Addr).add j = ⟨w.heap.size, 0 + j, none⟩ by unfold Addr.add; split <;> simp_all] at this
  exact this

set_option maxRecDepth 100000 in
set_option maxHeartbeats 2000000 in
theorem sameR_eq (g o ca h p cb : Nat) (zs : List Int) (hz : zs.length ≤ 9223372036854775807) (w : World) (hg : RunesAt w g o zs) (hh : RunesAt w h p zs) :
    Calls Try.prog 17 #[.slice (some ⟨g, o, none⟩) zs.length ca, .slice (some ⟨h, p, none⟩) zs.length cb] w fun e w' => e = .returned (.bool true) ∧ Below w.heap.size w w' := by
  have HG := hide hg
  have HH := hide hh
  clear hg hh
  have hne : (((zs.length : Nat) : Int) != ((zs.length : Nat) : Int)) = false := by simp
  go_enter Try.func17, Try.ntmps17
  go_wp2
  go_loopw [5] (fun i wr => ∃ k : Nat, k ≤ zs.length ∧ i = .int .i64 k ∧ ∃ q, wr = w.drewN q) (fun i _ => zs.length - (intOf i).toNat)
  case atStart => exact ⟨0, by omega, rfl, 0, rfl⟩
  case round =>
    obtain ⟨k, hk, rfl, q, rfl⟩ := hrel
    by_cases hkn : k < zs.length
    · have c0 := unhide HG k hkn
      have c1 := unhide HH k hkn
      have hk1 : (k : Int) < (zs.length : Int) := by omega
      have hk2 : ((k : Nat) : Int).toNat = k := by omega
      generalize zs.getD k 0 = z at c0 c1
      have hzz : (z != z) = false := by simp
      go_wp2
      go_quiet (fail)
      go_wp2
      go_roundw
      case rel => exact ⟨k + 1, by omega, by go_num, _, rfl⟩
      case measure => simp [intOf]; omega
    · have hk1 : ¬ (k : Int) < (zs.length : Int) := by omega
      go_wp2
      go_ret
      exact ⟨rfl, below_drewN (Below.refl _ _) _⟩

theorem text_runes (s : ByteArray) : textV (runesL s) = .tuple #[.string (cleanV s), .int .i64 0] := by
  unfold textV
  rw [if_pos]
  · rfl
  · unfold allRunes
    rw [List.all_eq_true]
    intro z hz
    have := runesL_runes s z hz
    simpa using this

end Go.Proofs.Ytinhmhkdofoneaa
