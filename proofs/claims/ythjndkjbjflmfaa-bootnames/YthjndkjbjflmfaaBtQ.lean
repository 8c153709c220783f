/- boot.Decode: behind the first looks. -/
import Derived.Test.YthjndkjbjflmfaaBtP
namespace Go.Proofs.Ythjndkjbjflmfaa
open Go.RowKit Go.Shelf
set_option linter.unusedVariables false
set_option maxRecDepth 100000 in
set_option maxHeartbeats 4000000 in
theorem dec_ref {p : Pm} (hp : rightB p = true) (a : ByteArray) (hl : ¬ 65536 < a.size) (m : Nat) (hm : (lastH a = -1 ∧ m = 0) ∨ (lastH a = m ∧ 0 < m ∧ m < a.size)) (S : ByteArray) (hS : a.extract 0 m = S) (hr0 : (refV S).2 ≠ 0) (w : World) : Calls Try.prog 15 #[.agg (cellsP p), .string a] w fun e w' => e = .returned (encD (⟨#[]⟩, (refV S).1, (refV S).2)) ∧ Below w.heap.size w w' := by
  have li := fun w => Any.strings_LastIndexByte lay149 a 45 (by omega) w
  rw [show Lib.lastIndexByte a 45 = lastH a from rfl] at li
  have hr := fun w => right_any p w
  rw [hp] at hr
  have HR := hide hr
  have hSs : S.size ≤ 65536 := by rw [← hS, ByteArray.size_extract]; omega
  have rf := fun w => refused_any S hSs w
  obtain ⟨R, hR⟩ : ∃ R, refV S = R := ⟨_, rfl⟩
  rw [hR] at rf hr0 ⊢
  have HRF := hide rf
  clear hr rf hR hSs
  obtain ⟨rp, re⟩ := R
  dsimp only at *
  have hre : (re != 0) = true := by simpa using hr0
  have hl2 : ¬ (65536 : Int) < (a.size : Int) := by omega
  generalize lastH a = L at *
  obtain ⟨B, lo, hi, sk, da, bi, fi⟩ := p
  dsimp only [cellsP] at *
  rcases hm with ⟨rfl, rfl⟩ | ⟨rfl, hm0, hm1⟩
  · have HLI := hide li
    clear li
    have hS2 : a.extract 0 (max (-1 : Int) 0).toNat = S := hS
    have HS := hide hS2
    clear hS2
    go_enter Try.func15, Try.ntmps15
    go_wp2_with (first | (go_at_call 27; refine (unhide HLI _).mono ?_; rintro e w1 ⟨rfl, rfl⟩) | (go_at_call 13; refine (unhide HR _).mono ?_; rintro e w2 ⟨rfl, hb⟩) | (go_at_call 28; rw [unhide HS]; refine (unhide HRF _).mono ?_; rintro e w3 ⟨rfl, hb3⟩))
    go_ret3
    exact ⟨rfl, (((Below.refl _ w).alloc (Nat.le_refl _) _).trans (hb.mono (by simp))).trans (hb3.mono (by have := hb.size; simp at this; omega))⟩
  · have HLI := hide li
    clear li
    have hm2 : ¬ (m : Int) = 0 := by omega
    have hm3 : ((m : Int) == 0) = false := by rw [beq_eq_false_iff_ne]; omega
    have hm4 : (m : Int) ≤ (a.size : Int) := by omega
    go_enter Try.func15, Try.ntmps15
    go_wp2_with (first | (go_at_call 27; refine (unhide HLI _).mono ?_; rintro e w1 ⟨rfl, rfl⟩) | (go_at_call 13; refine (unhide HR _).mono ?_; rintro e w2 ⟨rfl, hb⟩) | (go_at_call 28; refine (unhide HRF _).mono ?_; rintro e w3 ⟨rfl, hb3⟩))
    go_ret3
    exact ⟨rfl, (((Below.refl _ w).alloc (Nat.le_refl _) _).trans (hb.mono (by simp))).trans (hb3.mono (by have := hb.size; simp at this; omega))⟩
end Go.Proofs.Ythjndkjbjflmfaa
