/- The smallest calls of package boot: within, Right. -/
import Derived.Test.YthjndkjbjflmfaaVals
import Derived.Test.YthjndkjbjflmfaaBtM
namespace Go.Proofs.Ythjndkjbjflmfaa
open Go.RowKit Go.Shelf
set_option linter.unusedVariables false
theorem width_in (r : Int) : 0 ≤ widthOf r ∧ widthOf r ≤ 4 := by unfold widthOf; repeat' split <;> omega
/-- A Params as a value; its cells. -/
abbrev cellsP (p : Pm) : Array Value := #[.int .i64 p.B, .int .i64 p.lo, .int .i64 p.hi, .int .i64 p.sk, .int .i64 p.da, .int .i64 p.bi, .int .i32 p.fi]
theorem within_t {n lo hi : Int} (h : lo ≤ n ∧ n ≤ hi) (w : World) : Calls Try.prog 23 #[.int .i64 n, .int .i64 lo, .int .i64 hi] w fun e w' => e = .returned (.bool true) ∧ w' = w := by
  have h1 := h.1
  have h2 := h.2
  go_enter Try.func23, Try.ntmps23
  go_wp2_with fail
  go_ret
  exact ⟨rfl, rfl⟩
theorem within_f {n lo hi : Int} (h : ¬ (lo ≤ n ∧ n ≤ hi)) (w : World) : Calls Try.prog 23 #[.int .i64 n, .int .i64 lo, .int .i64 hi] w fun e w' => e = .returned (.bool false) ∧ w' = w := by
  by_cases h1 : lo ≤ n
  · have h2 : ¬ n ≤ hi := fun x => h ⟨h1, x⟩
    go_enter Try.func23, Try.ntmps23
    go_wp2_with fail
    go_ret
    exact ⟨rfl, rfl⟩
  · go_enter Try.func23, Try.ntmps23
    go_wp2_with fail
    go_ret
    exact ⟨rfl, rfl⟩
set_option maxRecDepth 100000 in
set_option maxHeartbeats 4000000 in
theorem right_any (p : Pm) (w : World) : Calls Try.prog 13 #[.agg (cellsP p)] w fun e w' => e = .returned (.bool (rightB p)) ∧ Below w.heap.size w w' := by
  obtain ⟨B, lo, hi, sk, da, bi, fi⟩ := p
  unfold rightB
  dsimp only [cellsP]
  have fin : Below w.heap.size w (w.alloc (.cells #[.int .i64 B, .int .i64 lo, .int .i64 hi, .int .i64 sk, .int .i64 da, .int .i64 bi, .int .i32 fi] 26)) := (Below.refl _ _).alloc (Nat.le_refl _) _
  have FIN := hide fin
  clear fin
  have go : ∀ b : Bool, b = ((decide (3 ≤ B) && decide (B ≤ 36)) && decide (1 ≤ lo) && (decide (lo ≤ hi) && decide (hi ≤ B - 2)) && (decide (1 ≤ sk) && decide (sk ≤ 1000)) && (decide (2 ≤ da) && decide (da ≤ 10000)) && (decide (0 ≤ bi) && decide (bi ≤ 1000)) && decide (128 ≤ fi) && !(widthOf fi == 0)) → Calls Try.prog 13 #[.agg #[.int .i64 B, .int .i64 lo, .int .i64 hi, .int .i64 sk, .int .i64 da, .int .i64 bi, .int .i32 fi]] w fun e w' => e = .returned (.bool b) ∧ Below w.heap.size w w' := by
    intro b hb
    by_cases h1 : 3 ≤ B ∧ B ≤ 36
    case neg =>
      have e : b = false := by rw [hb]; simp only [Bool.and_eq_false_iff, decide_eq_false_iff_not]; omega
      subst e
      clear hb
      go_enter Try.func13, Try.ntmps13
      go_wp2_with (first | (go_at_call 23; (first | refine (within_t (by omega) _).mono ?_ | refine (within_f (by omega) _).mono ?_); rintro e w1 ⟨rfl, rfl⟩) | (go_at_call 24; refine (width_any _ _).mono ?_; rintro e w1 ⟨rfl, rfl⟩))
      go_ret
      exact ⟨rfl, unhide FIN⟩
    by_cases h2 : 1 ≤ lo
    case neg =>
      have e : b = false := by rw [hb]; simp only [Bool.and_eq_false_iff, decide_eq_false_iff_not]; omega
      subst e
      clear hb
      go_enter Try.func13, Try.ntmps13
      go_wp2_with (first | (go_at_call 23; (first | refine (within_t (by omega) _).mono ?_ | refine (within_f (by omega) _).mono ?_); rintro e w1 ⟨rfl, rfl⟩) | (go_at_call 24; refine (width_any _ _).mono ?_; rintro e w1 ⟨rfl, rfl⟩))
      go_ret
      exact ⟨rfl, unhide FIN⟩
    by_cases h3 : lo ≤ hi ∧ hi ≤ B - 2
    case neg =>
      have e : b = false := by rw [hb]; simp only [Bool.and_eq_false_iff, decide_eq_false_iff_not]; omega
      subst e
      clear hb
      go_enter Try.func13, Try.ntmps13
      go_wp2_with (first | (go_at_call 23; (first | refine (within_t (by omega) _).mono ?_ | refine (within_f (by omega) _).mono ?_); rintro e w1 ⟨rfl, rfl⟩) | (go_at_call 24; refine (width_any _ _).mono ?_; rintro e w1 ⟨rfl, rfl⟩))
      go_ret
      exact ⟨rfl, unhide FIN⟩
    by_cases h4 : 1 ≤ sk ∧ sk ≤ 1000
    case neg =>
      have e : b = false := by rw [hb]; simp only [Bool.and_eq_false_iff, decide_eq_false_iff_not]; omega
      subst e
      clear hb
      go_enter Try.func13, Try.ntmps13
      go_wp2_with (first | (go_at_call 23; (first | refine (within_t (by omega) _).mono ?_ | refine (within_f (by omega) _).mono ?_); rintro e w1 ⟨rfl, rfl⟩) | (go_at_call 24; refine (width_any _ _).mono ?_; rintro e w1 ⟨rfl, rfl⟩))
      go_ret
      exact ⟨rfl, unhide FIN⟩
    by_cases h5 : 2 ≤ da ∧ da ≤ 10000
    case neg =>
      have e : b = false := by rw [hb]; simp only [Bool.and_eq_false_iff, decide_eq_false_iff_not]; omega
      subst e
      clear hb
      go_enter Try.func13, Try.ntmps13
      go_wp2_with (first | (go_at_call 23; (first | refine (within_t (by omega) _).mono ?_ | refine (within_f (by omega) _).mono ?_); rintro e w1 ⟨rfl, rfl⟩) | (go_at_call 24; refine (width_any _ _).mono ?_; rintro e w1 ⟨rfl, rfl⟩))
      go_ret
      exact ⟨rfl, unhide FIN⟩
    by_cases h6 : 0 ≤ bi ∧ bi ≤ 1000
    case neg =>
      have e : b = false := by rw [hb]; simp only [Bool.and_eq_false_iff, decide_eq_false_iff_not]; omega
      subst e
      clear hb
      go_enter Try.func13, Try.ntmps13
      go_wp2_with (first | (go_at_call 23; (first | refine (within_t (by omega) _).mono ?_ | refine (within_f (by omega) _).mono ?_); rintro e w1 ⟨rfl, rfl⟩) | (go_at_call 24; refine (width_any _ _).mono ?_; rintro e w1 ⟨rfl, rfl⟩))
      go_ret
      exact ⟨rfl, unhide FIN⟩
    by_cases h7 : 128 ≤ fi
    case neg =>
      have e : b = false := by rw [hb]; simp only [Bool.and_eq_false_iff, decide_eq_false_iff_not]; omega
      subst e
      clear hb
      go_enter Try.func13, Try.ntmps13
      go_wp2_with (first | (go_at_call 23; (first | refine (within_t (by omega) _).mono ?_ | refine (within_f (by omega) _).mono ?_); rintro e w1 ⟨rfl, rfl⟩) | (go_at_call 24; refine (width_any _ _).mono ?_; rintro e w1 ⟨rfl, rfl⟩))
      go_ret
      exact ⟨rfl, unhide FIN⟩
    by_cases h8 : widthOf fi = 0
    case pos =>
      have e : b = false := by rw [hb, h8]; simp
      subst e
      clear hb
      go_enter Try.func13, Try.ntmps13
      go_wp2_with (first | (go_at_call 23; (first | refine (within_t (by omega) _).mono ?_ | refine (within_f (by omega) _).mono ?_); rintro e w1 ⟨rfl, rfl⟩) | (go_at_call 24; refine (width_any _ _).mono ?_; rintro e w1 ⟨rfl, rfl⟩))
      go_ret
      exact ⟨rfl, unhide FIN⟩
    have h9 : 0 < widthOf fi := by have := width_in fi; omega
    have e : b = true := by rw [hb]; simp only [Bool.and_eq_true, decide_eq_true_eq, Bool.not_eq_true', beq_eq_false_iff_ne, ne_eq]; omega
    subst e
    clear hb
    go_enter Try.func13, Try.ntmps13
    go_wp2_with (first | (go_at_call 23; (first | refine (within_t (by omega) _).mono ?_ | refine (within_f (by omega) _).mono ?_); rintro e w1 ⟨rfl, rfl⟩) | (go_at_call 24; refine (width_any _ _).mono ?_; rintro e w1 ⟨rfl, rfl⟩))
    go_ret
    exact ⟨rfl, unhide FIN⟩
  exact go _ rfl
end Go.Proofs.Ythjndkjbjflmfaa
