/- The laws: any parameters; any bytes. -/
import Derived.Test.YthjndkjbjflmfaaBvG
import Derived.Test.YthjndkjbjflmfaaBtZz
namespace Go.Proofs.Ythjndkjbjflmfaa
open Go.RowKit Go.Shelf
set_option linter.unusedVariables false
theorem refDec_any (p : Pm) (a : ByteArray) (w : World) : Calls Try.prog 19 #[.agg (cellsP p), .string a] w fun e w' => e = .returned (encD (decV p a)) ∧ Below w.heap.size w w' := by
  by_cases h1 : rightB p = false
  · have := refDec_wrong h1 a w
    unfold decV
    rw [if_pos h1]; exact this
  have h1' : rightB p = true := by simpa using h1
  by_cases h2 : 65536 < a.size
  · have := refDec_long h1' a h2 w
    unfold decV
    rw [if_neg h1, if_pos h2]; exact this
  · exact refDec_main h1' a h2 w
/-- A text of at most so many bytes. -/
def fewB (s : ByteArray) (n : Nat) : ByteArray := if n < s.size then s.extract 0 n else s
theorem fewB_size (s : ByteArray) (n : Nat) : (fewB s n).size ≤ n := by
  unfold fewB
  split
  · rw [ByteArray.size_extract]; omega
  · omega
theorem fewL_any (s : ByteArray) (n : Nat) (w : World) : Calls Try.prog 17 #[.string s, .int .i64 n] w fun e w' => e = .returned (.string (fewB s n)) ∧ w' = w := by
  unfold fewB
  by_cases h : n < s.size
  · have h1 : (n : Int) < (s.size : Int) := by omega
    have h2 : (n : Int) ≤ (s.size : Int) := by omega
    rw [if_pos h]
    go_enter Try.func17, Try.ntmps17
    go_wp2_with fail
    go_ret
    exact ⟨rfl, rfl⟩
  · have h1 : ¬ (n : Int) < (s.size : Int) := by omega
    rw [if_neg h]
    go_enter Try.func17, Try.ntmps17
    go_wp2_with fail
    go_ret
    exact ⟨rfl, rfl⟩
set_option maxRecDepth 100000 in
set_option maxHeartbeats 4000000 in
theorem decodes17 (p : Pm) (a : ByteArray) (w : World) : Calls Try.prog 6 #[.agg (cellsP p), .string a] w fun e w' => e = .returned (.bool true) ∧ Below w.heap.size w w' := by
  have hf := fun w => fewL_any a 2000 w
  have hs := fewB_size a 2000
  rw [show (((2000 : Nat) : Int)) = 2000 from rfl] at hf
  obtain ⟨s, hs'⟩ : ∃ s, fewB a 2000 = s := ⟨_, rfl⟩
  rw [hs'] at hf hs
  have hd := fun w => dec_any p s (by omega) w
  have hr := fun w => refDec_any p s w
  have hp := fun w => plain_any p w
  obtain ⟨⟨d1, d2, d3⟩, hD⟩ : ∃ D, decV p s = D := ⟨_, rfl⟩
  rw [hD] at hd hr
  dsimp only [encD] at hd hr
  have e1 : (d1.toList == d1.toList) = true := by simp
  have e2 : ((d2 : Int) == (d2 : Int)) = true := by simp
  have e3 : (d3 == d3) = true := by simp
  obtain ⟨B, lo, hi, sk, da, bi, fi⟩ := p
  dsimp only [cellsP] at *
  have HF := hide hf
  have HD := hide hd
  have HR := hide hr
  have HPL := hide hp
  have PB0 := hide (Blk.new w #[.int .i64 B, .int .i64 lo, .int .i64 hi, .int .i64 sk, .int .i64 da, .int .i64 bi, .int .i32 fi] 26)
  clear hf hd hr hp hD hs hs'
  go_enter Try.func6, Try.ntmps6
  go_wp2_with (go_at_call 17; refine (unhide HF _).mono ?_; rintro e w1 ⟨rfl, hw1⟩; have hw2 := hw1.symm; clear hw1; subst hw2)
  refine (unhide HD _).mono ?_
  rintro e w2 ⟨rfl, hb2⟩
  have P2 := hide ((unhide PB0).below hb2 (by simp))
  have B2 := hide (((Below.refl _ w).alloc (Nat.le_refl _) _).trans (hb2.mono (by simp)))
  have p0 : w2.cell? ⟨w.heap.size, 0, none⟩ = some (.int .i64 B) := (unhide P2).cell 0
  have p1 : w2.cell? ⟨w.heap.size, 1, none⟩ = some (.int .i64 lo) := (unhide P2).cell 1
  have p2 : w2.cell? ⟨w.heap.size, 2, none⟩ = some (.int .i64 hi) := (unhide P2).cell 2
  have p3 : w2.cell? ⟨w.heap.size, 3, none⟩ = some (.int .i64 sk) := (unhide P2).cell 3
  have p4 : w2.cell? ⟨w.heap.size, 4, none⟩ = some (.int .i64 da) := (unhide P2).cell 4
  have p5 : w2.cell? ⟨w.heap.size, 5, none⟩ = some (.int .i64 bi) := (unhide P2).cell 5
  have p6 : w2.cell? ⟨w.heap.size, 6, none⟩ = some (.int .i32 fi) := (unhide P2).cell 6
  clear hb2
  go_wp2_with (go_at_call 10; refine (unhide HPL _).mono ?_; rintro e w3 ⟨rfl, hb3⟩; have B3 := hide ((unhide B2).trans (hb3.mono (unhide B2).size)); clear hb3)
  refine (unhide HR _).mono ?_
  rintro e w4 ⟨rfl, hb4⟩
  have B4 := hide ((unhide B3).trans (hb4.mono (unhide B3).size))
  clear hb4
  go_wp2_with (go_at_call 9; refine (known_any _).mono ?_; rintro e w5 ⟨rfl, hb5⟩; have B5 := hide ((unhide B4).trans (hb5.mono (unhide B4).size)); clear hb5)
  go_ret
  exact ⟨rfl, unhide B5⟩
end Go.Proofs.Ythjndkjbjflmfaa
