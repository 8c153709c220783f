/- The reference's Decode. -/
import Derived.Test.YthjndkjbjflmfaaBtX
import Derived.Test.YthjndkjbjflmfaaBtW
import Derived.Test.YthjndkjbjflmfaaBtV
import Derived.Test.YthjndkjbjflmfaaBtS
namespace Go.Proofs.Ythjndkjbjflmfaa
open Go.RowKit Go.Shelf
set_option linter.unusedVariables false
set_option maxRecDepth 100000 in
set_option maxHeartbeats 4000000 in
theorem refDec_wrong {p : Pm} (hp : rightB p = false) (a : ByteArray) (w : World) : Calls Try.prog 19 #[.agg (cellsP p), .string a] w fun e w' => e = .returned (encD (⟨#[]⟩, 0, 1)) ∧ Below w.heap.size w w' := by
  have hr := fun w => refRight_any p w
  rw [hp] at hr
  have HR := hide hr
  clear hr
  obtain ⟨B, lo, hi, sk, da, bi, fi⟩ := p
  dsimp only [cellsP] at *
  go_enter Try.func19, Try.ntmps19
  go_wp2_with (go_at_call 16; refine (unhide HR _).mono ?_; rintro e w2 ⟨rfl, hb⟩)
  go_ret3
  exact ⟨rfl, ((Below.refl _ w).alloc (Nat.le_refl _) _).trans (hb.mono (by simp))⟩
set_option maxRecDepth 100000 in
set_option maxHeartbeats 4000000 in
theorem refDec_long {p : Pm} (hp : rightB p = true) (a : ByteArray) (hl : 65536 < a.size) (w : World) : Calls Try.prog 19 #[.agg (cellsP p), .string a] w fun e w' => e = .returned (encD (⟨#[]⟩, 0, 3)) ∧ Below w.heap.size w w' := by
  have hr := fun w => refRight_any p w
  rw [hp] at hr
  have HR := hide hr
  clear hr
  have hl2 : (65536 : Int) < (a.size : Int) := by omega
  obtain ⟨B, lo, hi, sk, da, bi, fi⟩ := p
  dsimp only [cellsP] at *
  go_enter Try.func19, Try.ntmps19
  go_wp2_with (go_at_call 16; refine (unhide HR _).mono ?_; rintro e w2 ⟨rfl, hb⟩)
  go_ret3
  exact ⟨rfl, ((Below.refl _ w).alloc (Nat.le_refl _) _).trans (hb.mono (by simp))⟩
end Go.Proofs.Ythjndkjbjflmfaa
