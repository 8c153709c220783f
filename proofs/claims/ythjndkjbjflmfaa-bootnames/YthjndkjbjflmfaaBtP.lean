/- boot.Decode: the walk. -/
import Derived.Laws.Small
import Derived.Deep.RegionWith
import Derived.Test.YthjndkjbjflmfaaBtO
namespace Go.Proofs.Ythjndkjbjflmfaa
open Go.RowKit Go.Shelf
set_option linter.unusedVariables false
abbrev encD (x : ByteArray × Nat × Int) : Value := .tuple #[.string x.1, .int .i64 x.2.1, .int .i64 x.2.2]
set_option maxRecDepth 100000 in
set_option maxHeartbeats 4000000 in
theorem dec_wrong {p : Pm} (hp : rightB p = false) (a : ByteArray) (ha : a.size ≤ 1000000) (w : World) : Calls Try.prog 15 #[.agg (cellsP p), .string a] w fun e w' => e = .returned (encD (⟨#[]⟩, 0, 1)) ∧ Below w.heap.size w w' := by
  have HLI := hide (fun w => Any.strings_LastIndexByte lay149 a 45 (by omega) w)
  have hr := fun w => right_any p w
  rw [hp] at hr
  have HR := hide hr
  clear hr
  obtain ⟨B, lo, hi, sk, da, bi, fi⟩ := p
  dsimp only [cellsP] at *
  go_enter Try.func15, Try.ntmps15
  go_wp2_with (first | (go_at_call 27; refine (unhide HLI _).mono ?_; rintro e w1 ⟨rfl, rfl⟩) | (go_at_call 13; refine (unhide HR _).mono ?_; rintro e w2 ⟨rfl, hb⟩))
  go_ret3
  exact ⟨rfl, ((Below.refl _ w).alloc (Nat.le_refl _) _).trans (hb.mono (by simp))⟩
set_option maxRecDepth 100000 in
set_option maxHeartbeats 4000000 in
theorem dec_long {p : Pm} (hp : rightB p = true) (a : ByteArray) (ha : a.size ≤ 1000000) (hl : 65536 < a.size) (w : World) : Calls Try.prog 15 #[.agg (cellsP p), .string a] w fun e w' => e = .returned (encD (⟨#[]⟩, 0, 3)) ∧ Below w.heap.size w w' := by
  have HLI := hide (fun w => Any.strings_LastIndexByte lay149 a 45 (by omega) w)
  have hr := fun w => right_any p w
  rw [hp] at hr
  have HR := hide hr
  clear hr
  have hl2 : (65536 : Int) < (a.size : Int) := by omega
  obtain ⟨B, lo, hi, sk, da, bi, fi⟩ := p
  dsimp only [cellsP] at *
  go_enter Try.func15, Try.ntmps15
  go_wp2_with (first | (go_at_call 27; refine (unhide HLI _).mono ?_; rintro e w1 ⟨rfl, rfl⟩) | (go_at_call 13; refine (unhide HR _).mono ?_; rintro e w2 ⟨rfl, hb⟩))
  go_ret3
  exact ⟨rfl, ((Below.refl _ w).alloc (Nat.le_refl _) _).trans (hb.mono (by simp))⟩
set_option maxRecDepth 100000 in
set_option maxHeartbeats 4000000 in
theorem dec_spell {p : Pm} (hp : rightB p = true) (a : ByteArray) (hl : ¬ 65536 < a.size) (h0 : lastH a = 0) (w : World) : Calls Try.prog 15 #[.agg (cellsP p), .string a] w fun e w' => e = .returned (encD (⟨#[]⟩, 0, 52)) ∧ Below w.heap.size w w' := by
  have li := fun w => Any.strings_LastIndexByte lay149 a 45 (by omega) w
  rw [show Lib.lastIndexByte a 45 = 0 from h0] at li
  have HLI := hide li
  have hr := fun w => right_any p w
  rw [hp] at hr
  have HR := hide hr
  clear hr li
  have hl2 : ¬ (65536 : Int) < (a.size : Int) := by omega
  obtain ⟨B, lo, hi, sk, da, bi, fi⟩ := p
  dsimp only [cellsP] at *
  go_enter Try.func15, Try.ntmps15
  go_wp2_with (first | (go_at_call 27; refine (unhide HLI _).mono ?_; rintro e w1 ⟨rfl, rfl⟩) | (go_at_call 13; refine (unhide HR _).mono ?_; rintro e w2 ⟨rfl, hb⟩))
  go_ret3
  exact ⟨rfl, ((Below.refl _ w).alloc (Nat.le_refl _) _).trans (hb.mono (by simp))⟩
end Go.Proofs.Ythjndkjbjflmfaa
