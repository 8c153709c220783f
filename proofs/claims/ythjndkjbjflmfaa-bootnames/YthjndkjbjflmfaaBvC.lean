/- The form's small calls: a sort of at most one, a search of one, a number of one digit. -/
import Derived.Test.YthjndkjbjflmfaaBvB
import Derived.Test.YthjndkjbjflmfaaBtIZ
import Derived.Test.YthjndkjbjflmfaaBtW
namespace Go.Proofs.Ythjndkjbjflmfaa
open Go.RowKit Go.Shelf
set_option linter.unusedVariables false
set_option maxRecDepth 100000 in
theorem insort1 (ha : Option Addr) (n hc : Nat) (hn : n ≤ 1) (c : Value) (w : World) : Calls Try.prog 77 #[.slice ha n hc, .int .i64 0, .int .i64 n, c] w fun e w' => e = .returned (.tuple #[]) ∧ w' = w := by
  have h1 : ¬ (1 : Int) < (n : Int) := by omega
  go_enter Try.func77, Try.ntmps77
  go_wp2_with fail
  refine wp_loop_rounds 1 ?_
  rw [rounds_succ]
  go_wp2_with fail
  go_end0
  exact ⟨rfl, rfl⟩
set_option maxRecDepth 100000 in
theorem stable1 (ha : Option Addr) (n hc : Nat) (hn : n ≤ 1) (c : Value) (w : World) : Calls Try.prog 61 #[.slice ha n hc, .int .i64 n, c] w fun e w' => e = .returned (.tuple #[]) ∧ w' = w := by
  have h1 : ¬ (20 : Int) ≤ (n : Int) := by omega
  have h2 : ¬ (20 : Int) < (n : Int) := by omega
  have HS := hide (fun w => insort1 ha n hc hn c w)
  go_enter Try.func61, Try.ntmps61
  go_wp2_with fail
  refine wp_loop_rounds 1 ?_
  rw [rounds_succ]
  go_wp2_with (go_at_call 77; refine (unhide HS _).mono ?_; rintro e w3 ⟨rfl, hw3⟩; have hw4 := hw3.symm; clear hw3; subst hw4)
  refine wp_loop_rounds 1 ?_
  rw [rounds_succ]
  go_wp2_with fail
  go_end0
  exact ⟨rfl, rfl⟩
set_option maxRecDepth 100000 in
theorem sort1 (ha : Option Addr) (n hc : Nat) (hn : n ≤ 1) (c : Value) (w : World) : Calls Try.prog 41 #[.slice ha n hc, c] w fun e w' => e = .returned (.tuple #[]) ∧ w' = w := by
  have HS := hide (fun w => stable1 ha n hc hn c w)
  go_enter Try.func41, Try.ntmps41
  go_wp2_with (go_at_call 61; refine (unhide HS _).mono ?_; rintro e w3 ⟨rfl, hw3⟩; have hw4 := hw3.symm; clear hw3; subst hw4)
  go_end0
  exact ⟨rfl, rfl⟩
theorem nan_int (a : Int) (w : World) : Calls Try.prog 79 #[.int .i64 a] w fun e w' => e = .returned (.bool false) ∧ w' = w := by
  go_enter Try.func79, Try.ntmps79
  go_wp2_with fail
  go_ret
  exact ⟨by simp, rfl⟩
set_option maxRecDepth 100000 in
theorem less_int (a b : Int) (w : World) (h : a < b) : Calls Try.prog 63 #[.int .i64 a, .int .i64 b] w fun e w' => e = .returned (.bool true) ∧ w' = w := by
  go_enter Try.func63, Try.ntmps63
  go_wp2_with (go_at_call 79; refine (nan_int _ _).mono ?_; rintro e w3 ⟨rfl, hw3⟩; have hw4 := hw3.symm; clear hw3; subst hw4)
  go_ret
  exact ⟨rfl, rfl⟩
set_option maxRecDepth 100000 in
theorem search1 {g c : Nat} {v0 t : Int} {w : World} (hc : w.cell? ⟨g, 0, none⟩ = some (.int .i64 v0)) (h : v0 < t) : Calls Try.prog 45 #[.slice (some ⟨g, 0, none⟩) 1 c, .int .i64 t] w fun e w' => e = .returned (.tuple #[.int .i64 1, .bool false]) ∧ w' = w := by
  have HL := hide (fun w => less_int v0 t w h)
  go_enter Try.func45, Try.ntmps45
  go_wp2_with fail
  refine wp_loop_rounds 2 ?_
  rw [rounds_succ]
  go_wp2_with (go_at_call 63; refine (unhide HL _).mono ?_; rintro e w3 ⟨rfl, hw3⟩; have hw4 := hw3.symm; clear hw3; subst hw4)
  rw [rounds_succ]
  go_wp2_with fail
  go_ret2
  exact ⟨rfl, rfl⟩
end Go.Proofs.Ythjndkjbjflmfaa
