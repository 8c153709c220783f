/- ScanWhere: the place of any byte of any text. -/
import Derived.Test.YtncmabmpkdmpfaaDoorScKn
import Derived.Test.YtncmabmpkdmpfaaDoorScRWh
import Derived.Test.YtncmabmpkdmpfaaDoorScWhA
import Derived.Test.YtncmabmpkdmpfaaDoorWithin
namespace Go.Proofs.YtncmabmpkdmpfaaDoor
open Go.RowKit Go.Shelf
set_option linter.unusedVariables false
/-- A text, cut off. -/
def fewV (s : ByteArray) (n : Nat) : ByteArray := if n < s.size then s.extract 0 n else s
theorem fewV_size (s : ByteArray) (n : Nat) : (fewV s n).size ≤ n := by
  unfold fewV
  split
  · rw [ByteArray.size_extract]; omega
  · omega
set_option maxRecDepth 100000 in
theorem few_any (s : ByteArray) (hs : s.size ≤ maxLen) (n : Nat) (hn : n ≤ 1099511627776) (w : World) : Calls Tryd.prog 8 #[.string s, .int .i64 n] w fun e w' => e = .returned (.string (fewV s n)) ∧ w' = w := by
  unfold maxLen at hs
  unfold fewV
  by_cases h : n < s.size
  · rw [if_pos h]
    have h1 : (n : Int) < (s.size : Int) := by omega
    have h2 : (n : Int) ≤ (s.size : Int) := by omega
    go_enter Tryd.func8, Tryd.ntmps8
    go_wp2_with fail
    go_ret
    exact ⟨rfl, rfl⟩
  · rw [if_neg h]
    have h1 : ¬ (n : Int) < (s.size : Int) := by omega
    go_enter Tryd.func8, Tryd.ntmps8
    go_wp2_with fail
    go_ret
    exact ⟨rfl, rfl⟩
/-- A number, brought within a text. -/
def clampZ (s : ByteArray) (z : Int) : Nat := (min (max z 0) (s.size : Int)).toNat
theorem clampZ_le (s : ByteArray) (z : Int) : clampZ s z ≤ s.size ∧ min (max z 0) (s.size : Int) = (clampZ s z : Int) := by unfold clampZ; omega
set_option maxRecDepth 100000 in
set_option maxHeartbeats 4000000 in
theorem law_scanwhere (src : ByteArray) (hsrc : src.size ≤ maxLen) (z : Int) (m : Int) (w : World) (hE : Env m w) : Calls Tryd.prog 4 #[.string src, .int .i64 z] w fun e w' => e = .returned (.bool true) ∧ Below w.heap.size w w' := by
  obtain ⟨s, hs⟩ : ∃ s, s = fewV src 20000 := ⟨_, rfl⟩
  have hz : s.size ≤ 20000 := by rw [hs]; exact fewV_size src 20000
  have hfew := few_any src hsrc 20000 (by decide) w
  rw [← hs] at hfew
  obtain ⟨hk1, hk2⟩ := clampZ_le s z
  obtain ⟨k, hk⟩ : ∃ k, k = clampZ s z := ⟨_, rfl⟩
  rw [← hk] at hk1 hk2
  have hP1 := fun w => where_all s (by omega) k hk1 z hk2 w
  have hR1 := fun w => refWhere_in s (by omega) k hk1 z (by omega) w
  have hwi := within_any z 0 s.size (by omega) (by omega) (by omega)
  obtain ⟨q, hq⟩ : ∃ q : Nat, (0 : Int) + z % ((s.size : Int) - 0 + 1) = q := ⟨(0 + z % ((s.size : Int) - 0 + 1)).toNat, by have := Int.emod_nonneg z (show (s.size : Int) - 0 + 1 ≠ 0 by omega); omega⟩
  have hq2 : q ≤ s.size := by have := Int.emod_lt_of_pos z (show 0 < (s.size : Int) - 0 + 1 by omega); omega
  rw [hq] at hwi
  have hP2 := fun w => where_all s (by omega) q hq2 q (by omega) w
  have hR2 := fun w => refWhere_in s (by omega) q hq2 q (by omega) w
  obtain ⟨a1, a2, ha⟩ : ∃ a1 a2, whL s k = (a1, a2) := ⟨_, _, rfl⟩
  obtain ⟨b1, b2, hb⟩ : ∃ b1 b2, whL s q = (b1, b2) := ⟨_, _, rfl⟩
  rw [ha] at hP1 hR1
  rw [hb] at hP2 hR2
  have H0 := hide hfew
  have H1 := hide hP1
  have H2 := hide hR1
  have H3 := hide hP2
  have H4 := hide hR2
  have H5 := hide hwi
  have HE := hide hE
  clear hfew hP1 hR1 hP2 hR2 hwi ha hb hq hk hk1 hk2 hs hq2 hE hsrc
  go_enter Tryd.func4, Tryd.ntmps4
  go_wp2_with fail
  refine (unhide H0).mono ?_
  rintro e w1 ⟨rfl, rfl⟩
  go_wp2_with fail
  refine (unhide H5 _).mono ?_
  rintro e w2 ⟨rfl, rfl⟩
  go_wp2_with fail
  refine (unhide H1 _).mono ?_
  rintro e w3 ⟨rfl, hb⟩
  have HB3 := hide hb
  clear hb
  go_wp2_with fail
  refine (unhide H2 _).mono ?_
  rintro e w4 ⟨rfl, hb⟩
  have HB4 := hide ((unhide HB3).trans (hb.mono (unhide HB3).size))
  clear hb
  go_wp2_with fail
  refine (unhide H3 _).mono ?_
  rintro e w5 ⟨rfl, hb⟩
  have HB5 := hide ((unhide HB4).trans (hb.mono (unhide HB4).size))
  clear hb
  go_wp2_with fail
  refine (unhide H4 _).mono ?_
  rintro e w6 ⟨rfl, hb⟩
  have HB6 := hide ((unhide HB5).trans (hb.mono (unhide HB5).size))
  clear hb
  have HE6 := hide ((unhide HE).below (unhide HB6) (Nat.le_refl _))
  go_wp2_with fail
  refine (known_any m _ (unhide HE6)).mono ?_
  rintro e w7 ⟨rfl, hb⟩
  have HB7 := hide ((unhide HB6).trans (hb.mono (unhide HB6).size))
  clear hb
  go_wp2_with fail
  go_ret
  exact ⟨rfl, unhide HB7⟩
end Go.Proofs.YtncmabmpkdmpfaaDoor
