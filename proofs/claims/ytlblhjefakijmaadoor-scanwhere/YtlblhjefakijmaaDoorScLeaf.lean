/- The small functions of scan. -/
import Derived.Test.YtlblhjefakijmaaDoorScM
import Derived.Test.YtlblhjefakijmaaDoorBound
namespace Go.Proofs.YtlblhjefakijmaaDoor
open Go.RowKit Go.Shelf
set_option linter.unusedVariables false
theorem ret_b {a b : Bool} (h : a = b) : Ending.returned (.bool a) = .returned (.bool b) := by rw [h]
theorem isBlank_any (c : Nat) (w : World) : Calls Tryd.prog 58 #[.int .u8 (c : Int)] w fun e w' => e = .returned (.bool (blankB c)) ∧ w' = w := by
  go_enter Tryd.func58, Tryd.ntmps58
  go_wp2
  all_goals (go_ret; refine ⟨ret_b ?_, rfl⟩; first | (unfold blankB; rw [Bool.eq_iff_iff]; simp; omega) | (unfold blankB; simp_all))
theorem isSmall_any (c : Nat) (w : World) : Calls Tryd.prog 38 #[.int .u8 (c : Int)] w fun e w' => e = .returned (.bool (smallB c)) ∧ w' = w := by
  go_enter Tryd.func38, Tryd.ntmps38
  go_wp2
  all_goals (go_ret; refine ⟨ret_b ?_, rfl⟩; first | (unfold smallB; rw [Bool.eq_iff_iff]; simp; omega) | (unfold smallB; simp_all))
theorem isDigit_any (c : Nat) (w : World) : Calls Tryd.prog 39 #[.int .u8 (c : Int)] w fun e w' => e = .returned (.bool (digB c)) ∧ w' = w := by
  go_enter Tryd.func39, Tryd.ntmps39
  go_wp2
  all_goals (go_ret; refine ⟨ret_b ?_, rfl⟩; first | (unfold digB; rw [Bool.eq_iff_iff]; simp; omega) | (unfold digB; simp_all))
theorem inName_any (c : Nat) (w : World) : Calls Tryd.prog 57 #[.int .u8 (c : Int)] w fun e w' => e = .returned (.bool (inNB c)) ∧ w' = w := by
  go_enter Tryd.func57, Tryd.ntmps57
  go_wp2_with (first | (go_at_call 38; refine (isSmall_any c _).mono ?_; rintro e w' ⟨rfl, rfl⟩) | (go_at_call 39; refine (isDigit_any c _).mono ?_; rintro e w' ⟨rfl, rfl⟩))
  all_goals (go_ret; refine ⟨ret_b ?_, rfl⟩; first | (unfold inNB; rw [Bool.eq_iff_iff]; simp; omega) | (unfold inNB; simp_all; done) | (unfold inNB; simp_all; rw [Bool.eq_iff_iff]; simp; omega))
theorem sticks_any (c : Nat) (w : World) : Calls Tryd.prog 44 #[.int .u8 (c : Int)] w fun e w' => e = .returned (.bool (stkB c)) ∧ w' = w := by
  go_enter Tryd.func44, Tryd.ntmps44
  go_wp2_with (go_at_call 57; refine (inName_any c _).mono ?_; rintro e w' ⟨rfl, rfl⟩)
  all_goals (go_ret; refine ⟨ret_b ?_, rfl⟩; first | (unfold stkB; rw [Bool.eq_iff_iff]; simp; omega) | (unfold stkB; simp_all; done) | (unfold stkB; simp_all; rw [Bool.eq_iff_iff]; simp; omega))
end Go.Proofs.YtlblhjefakijmaaDoor
