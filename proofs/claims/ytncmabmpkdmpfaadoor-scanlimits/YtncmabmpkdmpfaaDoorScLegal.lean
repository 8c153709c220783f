/- Legal: is a text a name? -/
import Derived.Test.YtncmabmpkdmpfaaDoorScName
namespace Go.Proofs.YtncmabmpkdmpfaaDoor
open Go.RowKit Go.Shelf
set_option linter.unusedVariables false
def legalB (s : ByteArray) : Bool := decide (0 < s.size ∧ nameLen s = s.size)
theorem legal_any (s : ByteArray) (hs : s.size ≤ maxLen) (w : World) : Calls Tryd.prog 14 #[.string s] w fun e w' => e = .returned (.bool (legalB s)) ∧ w' = w := by
  by_cases h0 : 0 < s.size
  · have hne := toList_ne s h0
    have hne' : (s.toList != []) = true := by simpa using hne
    have hv : legalB s = ((nameLen s : Int) == (s.size : Int)) := by
      unfold legalB
      rw [Bool.eq_iff_iff]
      simp [h0]
      omega
    have HV := hide hv
    have HN := hide (named_any s hs)
    have hm : s.size ≤ 9223372036854775807 := by unfold maxLen at hs; exact hs
    clear hv
    go_enter Tryd.func14, Tryd.ntmps14
    go_wp2_with fail
    refine (unhide HN _).mono ?_
    rintro e w1 ⟨rfl, rfl⟩
    go_wp2_with fail
    go_ret
    refine ⟨?_, rfl⟩
    show Ending.returned (.bool (!s.toList.isEmpty && ((nameLen s : Int) == (s.size : Int)))) = _
    rw [unhide HV, show s.toList.isEmpty = false by simpa using hne]
    rfl
  · obtain rfl := toList_nil s (by omega)
    have hv : legalB ByteArray.empty = false := by unfold legalB; simp
    rw [hv]
    go_enter Tryd.func14, Tryd.ntmps14
    go_wp2_with fail
    go_ret
    exact ⟨rfl, rfl⟩
end Go.Proofs.YtncmabmpkdmpfaaDoor
