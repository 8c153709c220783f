/- strconv.FormatInt at 16. -/
import Derived.Test.YtncmabmpkdmpfaaDoorScHex
namespace Go.Proofs.YtncmabmpkdmpfaaDoor
open Go.RowKit Go.Shelf
set_option linter.unusedVariables false
theorem ifmt16 (n : Nat) (hn : n < 2147483648) (w : World) (hT : w.cell? ⟨6, 15, none⟩ = some (.int .u8 4)) : Calls Tryd.prog 38 #[.int .i64 n, .int .i64 16] w fun e w' => e = .returned (.string ⟨(hexL n).toArray⟩) ∧ Below w.heap.size w w' := by
  have h0 : ¬ (n : Int) < 0 := by omega
  have h00 : (0 : Int) ≤ (n : Int) := by omega
  have hb : (n : Int) ≤ 2147483648 := by omega
  have HF := hide (formatBits_any n (by omega) w hT)
  go_enter Tryd.func38, Tryd.ntmps38
  go_wp2_with fail
  refine (unhide HF).mono ?_
  rintro e w1 ⟨rfl, hb1⟩
  have HB := hide hb1
  clear hb1
  go_wp2_with fail
  go_ret
  exact ⟨rfl, unhide HB⟩
theorem fmt16 (n : Nat) (hn : n < 2147483648) (w : World) (hT : w.cell? ⟨6, 15, none⟩ = some (.int .u8 4)) : Calls Tryd.prog 22 #[.int .i64 n, .int .i64 16] w fun e w' => e = .returned (.string ⟨(hexL n).toArray⟩) ∧ Below w.heap.size w w' := by
  have HF := hide (ifmt16 n hn w hT)
  go_enter Tryd.func22, Tryd.ntmps22
  go_wp2_with fail
  refine (unhide HF).mono ?_
  rintro e w1 ⟨rfl, hb1⟩
  have HB := hide hb1
  clear hb1
  go_wp2_with fail
  go_ret
  exact ⟨rfl, unhide HB⟩
end Go.Proofs.YtncmabmpkdmpfaaDoor
