/- The reference's smallest calls of chapter 17. -/
import Derived.Test.YthjndkjbjflmfaaBtH
import Derived.Test.YthjndkjbjflmfaaBtC
import Derived.Test.YthjndkjbjflmfaaRefBytes
namespace Go.Proofs.Ythjndkjbjflmfaa
open Go.RowKit Go.Shelf
set_option linter.unusedVariables false
set_option maxRecDepth 100000 in
set_option maxHeartbeats 4000000 in
theorem refRight_any (p : Pm) (w : World) : Calls Try.prog 16 #[.agg (cellsP p)] w fun e w' => e = .returned (.bool (rightB p)) ∧ Below w.heap.size w w' := by
  obtain ⟨B, lo, hi, sk, da, bi, fi⟩ := p
  unfold rightB
  dsimp only [cellsP]
  have fin : Below w.heap.size w (w.alloc (.cells #[.int .i64 B, .int .i64 lo, .int .i64 hi, .int .i64 sk, .int .i64 da, .int .i64 bi, .int .i32 fi] 24)) := (Below.refl _ _).alloc (Nat.le_refl _) _
  have FIN := hide fin
  clear fin
  have go : ∀ b : Bool, b = ((decide (3 ≤ B) && decide (B ≤ 36)) && decide (1 ≤ lo) && (decide (lo ≤ hi) && decide (hi ≤ B - 2)) && (decide (1 ≤ sk) && decide (sk ≤ 1000)) && (decide (2 ≤ da) && decide (da ≤ 10000)) && (decide (0 ≤ bi) && decide (bi ≤ 1000)) && decide (128 ≤ fi) && !(widthOf fi == 0)) → Calls Try.prog 16 #[.agg #[.int .i64 B, .int .i64 lo, .int .i64 hi, .int .i64 sk, .int .i64 da, .int .i64 bi, .int .i32 fi]] w fun e w' => e = .returned (.bool b) ∧ Below w.heap.size w w' := by
    intro b hb
    by_cases h0 : B < 3
    case pos =>
      have e : b = false := by rw [hb]; simp only [Bool.and_eq_false_iff, decide_eq_false_iff_not]; omega
      subst e
      clear hb
      go_enter Try.func16, Try.ntmps16
      go_wp2_with (go_at_call 32; refine (refWidth_any _ _).mono ?_; rintro e w1 ⟨rfl, rfl⟩)
      go_ret
      exact ⟨rfl, unhide FIN⟩
    by_cases h1 : 36 < B
    case pos =>
      have e : b = false := by rw [hb]; simp only [Bool.and_eq_false_iff, decide_eq_false_iff_not]; omega
      subst e
      clear hb
      go_enter Try.func16, Try.ntmps16
      go_wp2_with (go_at_call 32; refine (refWidth_any _ _).mono ?_; rintro e w1 ⟨rfl, rfl⟩)
      go_ret
      exact ⟨rfl, unhide FIN⟩
    by_cases h2 : lo < 1
    case pos =>
      have e : b = false := by rw [hb]; simp only [Bool.and_eq_false_iff, decide_eq_false_iff_not]; omega
      subst e
      clear hb
      go_enter Try.func16, Try.ntmps16
      go_wp2_with (go_at_call 32; refine (refWidth_any _ _).mono ?_; rintro e w1 ⟨rfl, rfl⟩)
      go_ret
      exact ⟨rfl, unhide FIN⟩
    by_cases h3 : hi < lo
    case pos =>
      have e : b = false := by rw [hb]; simp only [Bool.and_eq_false_iff, decide_eq_false_iff_not]; omega
      subst e
      clear hb
      go_enter Try.func16, Try.ntmps16
      go_wp2_with (go_at_call 32; refine (refWidth_any _ _).mono ?_; rintro e w1 ⟨rfl, rfl⟩)
      go_ret
      exact ⟨rfl, unhide FIN⟩
    by_cases h4 : B - 2 < hi
    case pos =>
      have e : b = false := by rw [hb]; simp only [Bool.and_eq_false_iff, decide_eq_false_iff_not]; omega
      subst e
      clear hb
      go_enter Try.func16, Try.ntmps16
      go_wp2_with (go_at_call 32; refine (refWidth_any _ _).mono ?_; rintro e w1 ⟨rfl, rfl⟩)
      go_ret
      exact ⟨rfl, unhide FIN⟩
    by_cases h5 : sk < 1
    case pos =>
      have e : b = false := by rw [hb]; simp only [Bool.and_eq_false_iff, decide_eq_false_iff_not]; omega
      subst e
      clear hb
      go_enter Try.func16, Try.ntmps16
      go_wp2_with (go_at_call 32; refine (refWidth_any _ _).mono ?_; rintro e w1 ⟨rfl, rfl⟩)
      go_ret
      exact ⟨rfl, unhide FIN⟩
    by_cases h6 : 1000 < sk
    case pos =>
      have e : b = false := by rw [hb]; simp only [Bool.and_eq_false_iff, decide_eq_false_iff_not]; omega
      subst e
      clear hb
      go_enter Try.func16, Try.ntmps16
      go_wp2_with (go_at_call 32; refine (refWidth_any _ _).mono ?_; rintro e w1 ⟨rfl, rfl⟩)
      go_ret
      exact ⟨rfl, unhide FIN⟩
    by_cases h7 : da < 2
    case pos =>
      have e : b = false := by rw [hb]; simp only [Bool.and_eq_false_iff, decide_eq_false_iff_not]; omega
      subst e
      clear hb
      go_enter Try.func16, Try.ntmps16
      go_wp2_with (go_at_call 32; refine (refWidth_any _ _).mono ?_; rintro e w1 ⟨rfl, rfl⟩)
      go_ret
      exact ⟨rfl, unhide FIN⟩
    by_cases h8 : 10000 < da
    case pos =>
      have e : b = false := by rw [hb]; simp only [Bool.and_eq_false_iff, decide_eq_false_iff_not]; omega
      subst e
      clear hb
      go_enter Try.func16, Try.ntmps16
      go_wp2_with (go_at_call 32; refine (refWidth_any _ _).mono ?_; rintro e w1 ⟨rfl, rfl⟩)
      go_ret
      exact ⟨rfl, unhide FIN⟩
    by_cases h9 : bi < 0
    case pos =>
      have e : b = false := by rw [hb]; simp only [Bool.and_eq_false_iff, decide_eq_false_iff_not]; omega
      subst e
      clear hb
      go_enter Try.func16, Try.ntmps16
      go_wp2_with (go_at_call 32; refine (refWidth_any _ _).mono ?_; rintro e w1 ⟨rfl, rfl⟩)
      go_ret
      exact ⟨rfl, unhide FIN⟩
    by_cases h10 : 1000 < bi
    case pos =>
      have e : b = false := by rw [hb]; simp only [Bool.and_eq_false_iff, decide_eq_false_iff_not]; omega
      subst e
      clear hb
      go_enter Try.func16, Try.ntmps16
      go_wp2_with (go_at_call 32; refine (refWidth_any _ _).mono ?_; rintro e w1 ⟨rfl, rfl⟩)
      go_ret
      exact ⟨rfl, unhide FIN⟩
    by_cases k1 : 128 ≤ fi
    case neg =>
      have e : b = false := by rw [hb]; simp only [Bool.and_eq_false_iff, decide_eq_false_iff_not]; omega
      subst e
      clear hb
      go_enter Try.func16, Try.ntmps16
      go_wp2_with (go_at_call 32; refine (refWidth_any _ _).mono ?_; rintro e w1 ⟨rfl, rfl⟩)
      go_ret
      exact ⟨rfl, unhide FIN⟩
    by_cases k2 : widthOf fi = 0
    case pos =>
      have e : b = false := by rw [hb, k2]; simp
      subst e
      clear hb
      go_enter Try.func16, Try.ntmps16
      go_wp2_with (go_at_call 32; refine (refWidth_any _ _).mono ?_; rintro e w1 ⟨rfl, rfl⟩)
      go_ret
      exact ⟨rfl, unhide FIN⟩
    have k3 : 0 < widthOf fi := by have := width_in fi; omega
    have e : b = true := by rw [hb]; simp only [Bool.and_eq_true, decide_eq_true_eq, Bool.not_eq_true', beq_eq_false_iff_ne, ne_eq]; omega
    subst e
    clear hb
    go_enter Try.func16, Try.ntmps16
    go_wp2_with (go_at_call 32; refine (refWidth_any _ _).mono ?_; rintro e w1 ⟨rfl, rfl⟩)
    go_ret
    exact ⟨rfl, unhide FIN⟩
  exact go _ rfl
set_option maxRecDepth 100000 in
theorem refBasic_any (r : Int) (w : World) : Calls Try.prog 34 #[.int .i32 r] w fun e w' => e = .returned (.bool (basicB r)) ∧ w' = w := by
  by_cases h1 : r = 45
  · subst h1
    rw [show basicB 45 = true by decide]
    go_enter Try.func34, Try.ntmps34
    go_wp2_with fail
    go_ret
    exact ⟨rfl, rfl⟩
  have h1b : (r == 45) = false := by rw [beq_eq_false_iff_ne]; exact h1
  by_cases h2 : 97 ≤ r ∧ r ≤ 122
  · obtain ⟨h3, h4⟩ := h2
    rw [show basicB r = true by unfold basicB; exact decide_eq_true (by omega)]
    go_enter Try.func34, Try.ntmps34
    go_wp2_with fail
    go_ret
    exact ⟨rfl, rfl⟩
  by_cases h5 : 48 ≤ r ∧ r ≤ 57
  · obtain ⟨h3, h4⟩ := h5
    have h6 : ¬ 97 ≤ r := by omega
    rw [show basicB r = true by unfold basicB; exact decide_eq_true (by omega)]
    go_enter Try.func34, Try.ntmps34
    go_wp2_with fail
    go_ret
    exact ⟨rfl, rfl⟩
  rw [show basicB r = false by unfold basicB; exact decide_eq_false (by omega)]
  by_cases h6 : 97 ≤ r
  · have h7 : ¬ r ≤ 122 := by omega
    have h8 : ¬ r ≤ 57 := by omega
    have h9 : 48 ≤ r := by omega
    go_enter Try.func34, Try.ntmps34
    go_wp2_with fail
    go_ret
    exact ⟨rfl, rfl⟩
  by_cases h7 : 48 ≤ r
  · have h8 : ¬ r ≤ 57 := by omega
    go_enter Try.func34, Try.ntmps34
    go_wp2_with fail
    go_ret
    exact ⟨rfl, rfl⟩
  · go_enter Try.func34, Try.ntmps34
    go_wp2_with fail
    go_ret
    exact ⟨rfl, rfl⟩
set_option maxRecDepth 100000 in
set_option maxHeartbeats 4000000 in
theorem refThr_any {p : Pm} (hp : rightP p) {bias k : Int} (hb : 0 ≤ bias ∧ bias ≤ 4000) (hk : 0 ≤ k ∧ k ≤ 1000000) (w : World) : Calls Try.prog 55 #[.agg (cellsP p), .int .i64 bias, .int .i64 k] w fun e w' => e = .returned (.int .i64 (thr p bias k)) ∧ Below w.heap.size w w' := by
  obtain ⟨a1, a2, a3, a4, a5, -⟩ := hp
  obtain ⟨B, lo, hi, sk, da, bi, fi⟩ := p
  unfold thr
  dsimp only [cellsP] at *
  have m1 : 0 ≤ k * B := Int.mul_nonneg hk.1 (by omega)
  have m2 : k * B ≤ 1000000 * 36 := Int.mul_le_mul hk.2 a2 (by omega) (by omega)
  by_cases h1 : k * B - bias < lo
  · have h2 : ¬ hi < lo := by omega
    rw [show min (max (k * B - bias) lo) hi = lo by omega]
    go_enter Try.func55, Try.ntmps55
    go_wp2_with fail
    go_ret
    exact ⟨rfl, (Below.refl _ _).alloc (Nat.le_refl _) _⟩
  · by_cases h2 : hi < k * B - bias
    · rw [show min (max (k * B - bias) lo) hi = hi by omega]
      go_enter Try.func55, Try.ntmps55
      go_wp2_with fail
      go_ret
      exact ⟨rfl, (Below.refl _ _).alloc (Nat.le_refl _) _⟩
    · rw [show min (max (k * B - bias) lo) hi = k * B - bias by omega]
      go_enter Try.func55, Try.ntmps55
      go_wp2_with fail
      go_ret
      exact ⟨rfl, (Below.refl _ _).alloc (Nat.le_refl _) _⟩
set_option maxRecDepth 100000 in
set_option maxHeartbeats 4000000 in
theorem refValue_any {p : Pm} (hp : rightP p) (c : Nat) (hc : c < 256) (w : World) : Calls Try.prog 57 #[.agg (cellsP p), .int .u8 c] w fun e w' => e = .returned (.int .i64 (digV p.B c)) ∧ Below w.heap.size w w' := by
  obtain ⟨a1, a2, -⟩ := hp
  obtain ⟨B, lo, hi, sk, da, bi, fi⟩ := p
  dsimp only [cellsP] at *
  have fin : Below w.heap.size w (w.alloc (.cells #[.int .i64 B, .int .i64 lo, .int .i64 hi, .int .i64 sk, .int .i64 da, .int .i64 bi, .int .i32 fi] 24)) := (Below.refl _ _).alloc (Nat.le_refl _) _
  have FIN := hide fin
  clear fin
  by_cases h1 : (97 : Int) ≤ (c : Int) ∧ (c : Int) ≤ 122
  · obtain ⟨h2, h3⟩ := h1
    have h4 : ¬ (c : Int) ≤ 57 := by omega
    have h4' : (48 : Int) ≤ (c : Int) := by omega
    by_cases h5 : B ≤ (c : Int) - 97
    · rw [show digV B c = -1 by unfold digV; rw [if_neg (by omega), if_neg (by omega)]]
      go_enter Try.func57, Try.ntmps57
      go_wp2_with fail
      go_ret
      exact ⟨rfl, unhide FIN⟩
    · rw [show digV B c = (c : Int) - 97 by unfold digV; rw [if_pos (by omega)]]
      go_enter Try.func57, Try.ntmps57
      go_wp2_with fail
      go_ret
      exact ⟨rfl, unhide FIN⟩
  by_cases h2 : (48 : Int) ≤ (c : Int) ∧ (c : Int) ≤ 57
  · obtain ⟨h3, h4⟩ := h2
    have h6 : ¬ (97 : Int) ≤ (c : Int) := by omega
    by_cases h5 : B ≤ (c : Int) - 48 + 26
    · rw [show digV B c = -1 by unfold digV; rw [if_neg (by omega), if_neg (by omega)]]
      go_enter Try.func57, Try.ntmps57
      go_wp2_with fail
      go_ret
      exact ⟨rfl, unhide FIN⟩
    · rw [show digV B c = (c : Int) - 48 + 26 by unfold digV; rw [if_neg (by omega), if_pos (by omega)]; omega]
      go_enter Try.func57, Try.ntmps57
      go_wp2_with fail
      go_ret
      exact ⟨rfl, unhide FIN⟩
  rw [show digV B c = -1 by unfold digV; rw [if_neg (by omega), if_neg (by omega)]]
  have hB : ¬ B ≤ -1 := by omega
  by_cases k1 : (97 : Int) ≤ (c : Int)
  · have k2 : ¬ (c : Int) ≤ 122 := by omega
    have k3 : ¬ (c : Int) ≤ 57 := by omega
    have k4 : (48 : Int) ≤ (c : Int) := by omega
    go_enter Try.func57, Try.ntmps57
    go_wp2_with fail
    go_ret
    exact ⟨rfl, unhide FIN⟩
  by_cases k4 : (48 : Int) ≤ (c : Int)
  · have k3 : ¬ (c : Int) ≤ 57 := by omega
    go_enter Try.func57, Try.ntmps57
    go_wp2_with fail
    go_ret
    exact ⟨rfl, unhide FIN⟩
  · go_enter Try.func57, Try.ntmps57
    go_wp2_with fail
    go_ret
    exact ⟨rfl, unhide FIN⟩
end Go.Proofs.Ythjndkjbjflmfaa
