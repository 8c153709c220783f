/- SetsRight: what Right says of any list is what the reference says; the list stays as it was. -/
import Derived.Test.YtaimkkdilahagaaSetAlive
import Derived.Test.YtaimkkdilahagaaRoomyP
import Derived.Test.YtaimkkdilahagaaArgP
namespace Go.Proofs.Ytaimkkdilahagaa
open Go.RowKit Go.Shelf
set_option linter.unusedVariables false
theorem rightV_form (zs : List (Int × Int)) : ∃ i e : Int, rightV zs = .tuple #[.int .i64 i, .int .i64 e] := by
  unfold rightV
  split <;> exact ⟨_, _, rfl⟩
set_option maxRecDepth 100000 in
set_option maxHeartbeats 4000000 in
theorem law_right (a : Option Addr) (cap : Nat) (zs : List (Int × Int)) (hz : zs.length ≤ 1048576) (hf : ∀ x ∈ zs, fitB x) (w : World) (hr : RowP w a zs) :
    Calls Try.prog 4 #[.slice a zs.length cap] w fun e w' => e = .returned (.bool true) ∧ Below w.heap.size w w' := by
  have HR := hide hr
  have HF := hide hf
  have HQ := hide (roomyP_any a cap zs (by omega) (7, 7) w hr)
  obtain ⟨i0, e0, hv⟩ := rightV_form zs
  have HV := hide hv
  have h1 : (i0 == i0) = true := by simp
  have h2 : (e0 == e0) = true := by simp
  clear hr hf hv
  go_enter Try.func4, Try.ntmps4
  go_wp2_with fail
  refine (unhide HQ).mono ?_
  rintro e w1 ⟨g, rfl, hg, hN, hb1⟩
  have HN1 := hide hN
  have HB1 := hide hb1
  have HRo := hide (roomyP_take zs (7, 7) ▸ NumsP.row hN zs.length (by rw [roomyP_length]; omega))
  have hlt := Blk.lt hN
  clear hN hb1 HQ
  go_wp2_with fail
  refine (right_any (some ⟨g, 0, none⟩) _ zs (by omega) w1 (unhide HRo)).mono ?_
  rintro e w2 ⟨rfl, hb2⟩
  rw [unhide HV]
  have HN2 := hide (Blk.below (unhide HN1) hb2 hlt)
  have HB2 := hide ((unhide HB1).trans (hb2.mono (unhide HB1).size))
  clear hb2 HRo
  go_wp2_with fail
  refine (refRight_any a cap zs (by omega) (unhide HF) w2 ((unhide HR).below (unhide HB2))).mono ?_
  rintro e w3 ⟨rfl, hb3⟩
  rw [unhide HV]
  have HN3 := hide (Blk.below (unhide HN2) hb3 (unhide HN2).lt)
  have HB3 := hide ((unhide HB2).trans (hb3.mono (unhide HB2).size))
  clear hb3
  go_wp2_with fail
  refine (alive_any w3).mono ?_
  rintro e w4 ⟨rfl, hb4⟩
  have HN4 := hide (Blk.below (unhide HN3) hb4 (unhide HN3).lt)
  have HB4 := hide ((unhide HB3).trans (hb4.mono (unhide HB3).size))
  clear hb4
  go_wp2_with fail
  refine (intactP_any g a cap zs (by omega) (7, 7) w4 (unhide HN4) ((unhide HR).below (unhide HB4))).mono ?_
  rintro e w5 ⟨rfl, hb5⟩
  have HB5 := hide ((unhide HB4).trans (hb5.mono (unhide HB4).size))
  clear hb5
  go_wp2
  go_ret
  exact ⟨rfl, unhide HB5⟩
end Go.Proofs.Ytaimkkdilahagaa
