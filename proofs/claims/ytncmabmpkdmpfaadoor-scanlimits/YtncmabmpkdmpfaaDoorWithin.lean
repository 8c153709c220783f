/- Within of the books, told for all numbers within the reach. -/
import Derived.Test.YtncmabmpkdmpfaaDoorFirst
namespace Go.Proofs.YtncmabmpkdmpfaaDoor
open Go.RowKit Go.Shelf
set_option linter.unusedVariables false

theorem within_any (n lo hi : Int) (hl : -4 ≤ lo) (hlh : lo ≤ hi) (hh : hi ≤ 1099511627776) (w : World) : Calls Tryd.prog 9 #[.int .i64 n, .int .i64 lo, .int .i64 hi] w fun e w' => e = .returned (.int .i64 (lo + n % (hi - lo + 1))) ∧ w' = w := by
  have hm : (hi - lo + 1 == 0) = false := by rw [beq_eq_false_iff_ne]; omega
  have ht := Int.tmod_eq_emod (a := n) (b := hi - lo + 1)
  have h1 := Int.emod_nonneg n (show hi - lo + 1 ≠ 0 by omega)
  have h2 := Int.emod_lt_of_pos n (show 0 < hi - lo + 1 by omega)
  have hab : ((hi - lo + 1).natAbs : Int) = hi - lo + 1 := by omega
  have HE : Hz ((n.tmod (hi - lo + 1) = n % (hi - lo + 1)) ∨ (n.tmod (hi - lo + 1) = n % (hi - lo + 1) - (hi - lo + 1))) := hide <| by
    rw [ht]
    split
    · exact .inl (by omega)
    · exact .inr (by omega)
  have H1 := hide h1
  have H2 := hide h2
  clear ht h1 h2 hab
  generalize n % (hi - lo + 1) = q at *
  go_enter Tryd.func9, Tryd.ntmps9
  go_wp2
  all_goals rename_i hc
  all_goals go_ret
  all_goals refine ⟨?_, rfl⟩
  all_goals have he := unhide HE
  all_goals have h1 := unhide H1
  all_goals have h2 := unhide H2
  all_goals generalize n.tmod (hi - lo + 1) = r at *
  all_goals first
    | (show Ending.returned (Value.int .i64 (wrap64 (lo + wrap64 (wrap64 (wrap64 (r + hi) - lo) + 1)))) = _; rw [show wrap64 (lo + wrap64 (wrap64 (wrap64 (r + hi) - lo) + 1)) = lo + q by unfold wrap64; omega])
    | (show Ending.returned (Value.int .i64 (wrap64 (lo + r))) = _; rw [show wrap64 (lo + r) = lo + q by unfold wrap64; omega])
end Go.Proofs.YtncmabmpkdmpfaaDoor
