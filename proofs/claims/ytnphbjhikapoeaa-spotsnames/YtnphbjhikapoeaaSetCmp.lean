/- cmp.Compare at runes, and the three comparisons that the sets hand to the library. -/
import Derived.Test.YtnphbjhikapoeaaSetRight
namespace Go.Proofs.Ytnphbjhikapoeaa
open Go.RowKit Go.Shelf
set_option linter.unusedVariables false

def cmpOf (a b : Int) : Int := if a < b then -1 else if b < a then 1 else 0
theorem nan_any (a : Int) (w : World) : Calls Try.prog 81 #[.int .i32 a] w fun e w' => e = .returned (.bool false) ∧ w' = w := by
  go_enter Try.func81, Try.ntmps81
  go_wp2
  go_ret
  exact ⟨rfl, rfl⟩
theorem compare_any (a b : Int) (w : World) : Calls Try.prog 56 #[.int .i32 a, .int .i32 b] w fun e w' => e = .returned (.int .i64 (cmpOf a b)) ∧ w' = w := by
  have HA := hide (nan_any a w)
  have HB := hide (nan_any b w)
  by_cases h1 : a < b
  · have h : cmpOf a b = -1 := by unfold cmpOf; rw [if_pos h1]
    rw [h]
    clear h
    go_enter Try.func56, Try.ntmps56
    go_wp2_with fail
    refine (unhide HA).mono ?_
    rintro e w2 ⟨rfl, rfl⟩
    go_wp2_with fail
    refine (unhide HB).mono ?_
    rintro e w2 ⟨rfl, rfl⟩
    go_wp2
    go_ret
    exact ⟨rfl, rfl⟩
  · by_cases h2 : b < a
    · have h : cmpOf a b = 1 := by unfold cmpOf; rw [if_neg h1, if_pos h2]
      rw [h]
      clear h
      go_enter Try.func56, Try.ntmps56
      go_wp2_with fail
      refine (unhide HA).mono ?_
      rintro e w2 ⟨rfl, rfl⟩
      go_wp2_with fail
      refine (unhide HB).mono ?_
      rintro e w2 ⟨rfl, rfl⟩
      go_wp2
      go_ret
      exact ⟨rfl, rfl⟩
    · have h : cmpOf a b = 0 := by unfold cmpOf; rw [if_neg h1, if_neg h2]
      rw [h]
      clear h
      go_enter Try.func56, Try.ntmps56
      go_wp2_with fail
      refine (unhide HA).mono ?_
      rintro e w2 ⟨rfl, rfl⟩
      go_wp2_with fail
      refine (unhide HB).mono ?_
      rintro e w2 ⟨rfl, rfl⟩
      go_wp2
      go_ret
      exact ⟨rfl, rfl⟩

theorem of1_any (x y : Int × Int) (w : World) : Calls Try.prog 55 #[spanV x, spanV y] w fun e w' => e = .returned (.int .i64 (cmpOf x.1 y.1)) ∧ Below w.heap.size w w' := by
  have HC := hide (fun w => compare_any x.1 y.1 w)
  obtain ⟨lo, hi⟩ := x
  obtain ⟨mo, mi⟩ := y
  simp only at HC
  go_enter Try.func55, Try.ntmps55
  go_wp2_with fail
  refine (unhide HC _).mono ?_
  rintro e w2 ⟨rfl, rfl⟩
  go_wp2
  go_ret
  exact ⟨rfl, ((Below.refl _ w).alloc (Nat.le_refl _) _).alloc (by simp) _⟩
theorem in1_any (x : Int × Int) (r : Int) (w : World) : Calls Try.prog 72 #[spanV x, .int .i32 r] w fun e w' => e = .returned (.int .i64 (cmpOf x.2 r)) ∧ Below w.heap.size w w' := by
  have HC := hide (fun w => compare_any x.2 r w)
  obtain ⟨lo, hi⟩ := x
  simp only at HC
  go_enter Try.func72, Try.ntmps72
  go_wp2_with fail
  refine (unhide HC _).mono ?_
  rintro e w2 ⟨rfl, rfl⟩
  go_wp2
  go_ret
  exact ⟨rfl, (Below.refl _ w).alloc (Nat.le_refl _) _⟩
theorem below1_any (x : Int × Int) (r : Int) (w : World) : Calls Try.prog 70 #[spanV x, .int .i32 r] w fun e w' => e = .returned (.int .i64 (cmpOf x.1 r)) ∧ Below w.heap.size w w' := by
  have HC := hide (fun w => compare_any x.1 r w)
  obtain ⟨lo, hi⟩ := x
  simp only at HC
  go_enter Try.func70, Try.ntmps70
  go_wp2_with fail
  refine (unhide HC _).mono ?_
  rintro e w2 ⟨rfl, rfl⟩
  go_wp2
  go_ret
  exact ⟨rfl, (Below.refl _ w).alloc (Nat.le_refl _) _⟩

end Go.Proofs.Ytnphbjhikapoeaa
