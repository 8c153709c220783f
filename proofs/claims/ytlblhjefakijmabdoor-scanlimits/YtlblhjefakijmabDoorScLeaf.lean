/- The small functions of scan. -/
import Derived.Test.YtlblhjefakijmabDoorScM
import Derived.Test.YtlblhjefakijmabDoorBound
namespace Go.Proofs.YtlblhjefakijmabDoor
open Go.RowKit Go.Shelf
set_option linter.unusedVariables false
theorem ret_b {a b : Bool} (h : a = b) : Ending.returned (.bool a) = .returned (.bool b) := by rw [h]
theorem isBlank_any (c : Nat) (w : World) : Calls Tryd.prog 42 #[.int .u8 (c : Int)] w fun e w' => e = .returned (.bool (blankB c)) ∧ w' = w := by
  go_enter Tryd.func42, Tryd.ntmps42
  go_wp2
  all_goals (go_ret; refine ⟨ret_b ?_, rfl⟩; first | (unfold blankB; rw [Bool.eq_iff_iff]; simp; omega) | (unfold blankB; simp_all))
theorem isSmall_any (c : Nat) (w : World) : Calls Tryd.prog 25 #[.int .u8 (c : Int)] w fun e w' => e = .returned (.bool (smallB c)) ∧ w' = w := by
  go_enter Tryd.func25, Tryd.ntmps25
  go_wp2
  all_goals (go_ret; refine ⟨ret_b ?_, rfl⟩; first | (unfold smallB; rw [Bool.eq_iff_iff]; simp; omega) | (unfold smallB; simp_all))
theorem isDigit_any (c : Nat) (w : World) : Calls Tryd.prog 26 #[.int .u8 (c : Int)] w fun e w' => e = .returned (.bool (digB c)) ∧ w' = w := by
  go_enter Tryd.func26, Tryd.ntmps26
  go_wp2
  all_goals (go_ret; refine ⟨ret_b ?_, rfl⟩; first | (unfold digB; rw [Bool.eq_iff_iff]; simp; omega) | (unfold digB; simp_all))
theorem inName_any (c : Nat) (w : World) : Calls Tryd.prog 45 #[.int .u8 (c : Int)] w fun e w' => e = .returned (.bool (inNB c)) ∧ w' = w := by
  go_enter Tryd.func45, Tryd.ntmps45
  go_wp2_with (first | (go_at_call 25; refine (isSmall_any c _).mono ?_; rintro e w' ⟨rfl, rfl⟩) | (go_at_call 26; refine (isDigit_any c _).mono ?_; rintro e w' ⟨rfl, rfl⟩))
  all_goals (go_ret; refine ⟨ret_b ?_, rfl⟩; first | (unfold inNB; rw [Bool.eq_iff_iff]; simp; omega) | (unfold inNB; simp_all; done) | (unfold inNB; simp_all; rw [Bool.eq_iff_iff]; simp; omega))
theorem sticks_any (c : Nat) (w : World) : Calls Tryd.prog 32 #[.int .u8 (c : Int)] w fun e w' => e = .returned (.bool (stkB c)) ∧ w' = w := by
  go_enter Tryd.func32, Tryd.ntmps32
  go_wp2_with (go_at_call 45; refine (inName_any c _).mono ?_; rintro e w' ⟨rfl, rfl⟩)
  all_goals (go_ret; refine ⟨ret_b ?_, rfl⟩; first | (unfold stkB; rw [Bool.eq_iff_iff]; simp; omega) | (unfold stkB; simp_all; done) | (unfold stkB; simp_all; rw [Bool.eq_iff_iff]; simp; omega))
end Go.Proofs.YtlblhjefakijmabDoor
