/- The small functions of scan. -/
import Derived.Test.YtncmabmpkdmpfaaDoorScM
import Derived.Test.YtncmabmpkdmpfaaDoorBound
namespace Go.Proofs.YtncmabmpkdmpfaaDoor
open Go.RowKit Go.Shelf
set_option linter.unusedVariables false
theorem ret_b {a b : Bool} (h : a = b) : Ending.returned (.bool a) = .returned (.bool b) := by rw [h]
theorem isBlank_any (c : Nat) (w : World) : Calls Tryd.prog 69 #[.int .u8 (c : Int)] w fun e w' => e = .returned (.bool (blankB c)) ∧ w' = w := by
  go_enter Tryd.func69, Tryd.ntmps69
  go_wp2
  all_goals (go_ret; refine ⟨ret_b ?_, rfl⟩; first | (unfold blankB; rw [Bool.eq_iff_iff]; simp; omega) | (unfold blankB; simp_all))
theorem isSmall_any (c : Nat) (w : World) : Calls Tryd.prog 45 #[.int .u8 (c : Int)] w fun e w' => e = .returned (.bool (smallB c)) ∧ w' = w := by
  go_enter Tryd.func45, Tryd.ntmps45
  go_wp2
  all_goals (go_ret; refine ⟨ret_b ?_, rfl⟩; first | (unfold smallB; rw [Bool.eq_iff_iff]; simp; omega) | (unfold smallB; simp_all))
theorem isDigit_any (c : Nat) (w : World) : Calls Tryd.prog 46 #[.int .u8 (c : Int)] w fun e w' => e = .returned (.bool (digB c)) ∧ w' = w := by
  go_enter Tryd.func46, Tryd.ntmps46
  go_wp2
  all_goals (go_ret; refine ⟨ret_b ?_, rfl⟩; first | (unfold digB; rw [Bool.eq_iff_iff]; simp; omega) | (unfold digB; simp_all))
theorem inName_any (c : Nat) (w : World) : Calls Tryd.prog 52 #[.int .u8 (c : Int)] w fun e w' => e = .returned (.bool (inNB c)) ∧ w' = w := by
  go_enter Tryd.func52, Tryd.ntmps52
  go_wp2_with (first | (go_at_call 45; refine (isSmall_any c _).mono ?_; rintro e w' ⟨rfl, rfl⟩) | (go_at_call 46; refine (isDigit_any c _).mono ?_; rintro e w' ⟨rfl, rfl⟩))
  all_goals (go_ret; refine ⟨ret_b ?_, rfl⟩; first | (unfold inNB; rw [Bool.eq_iff_iff]; simp; omega) | (unfold inNB; simp_all; done) | (unfold inNB; simp_all; rw [Bool.eq_iff_iff]; simp; omega))
theorem sticks_any (c : Nat) (w : World) : Calls Tryd.prog 51 #[.int .u8 (c : Int)] w fun e w' => e = .returned (.bool (stkB c)) ∧ w' = w := by
  go_enter Tryd.func51, Tryd.ntmps51
  go_wp2_with (go_at_call 52; refine (inName_any c _).mono ?_; rintro e w' ⟨rfl, rfl⟩)
  all_goals (go_ret; refine ⟨ret_b ?_, rfl⟩; first | (unfold stkB; rw [Bool.eq_iff_iff]; simp; omega) | (unfold stkB; simp_all; done) | (unfold stkB; simp_all; rw [Bool.eq_iff_iff]; simp; omega))
end Go.Proofs.YtncmabmpkdmpfaaDoor
