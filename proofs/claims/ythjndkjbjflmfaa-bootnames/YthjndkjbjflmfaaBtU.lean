/- The reference's bias. -/
import Derived.Test.YthjndkjbjflmfaaBtT
import Derived.Test.YthjndkjbjflmfaaBtL
namespace Go.Proofs.Ythjndkjbjflmfaa
open Go.RowKit Go.Shelf
set_option linter.unusedVariables false
set_option maxRecDepth 100000 in
set_option maxHeartbeats 4000000 in
theorem refAdp_first {p : Pm} (hp : rightP p) {v l : Int} (hv : 0 ≤ v ∧ v ≤ 1152921504606846975) (hl : 1 ≤ l ∧ l ≤ 5000) (w : World) : Calls Try.prog 36 #[.agg (cellsP p), .int .i64 v, .int .i64 l, .bool true] w fun e w' => e = .returned (.int .i64 (adp p v l p.da)) ∧ Below w.heap.size w w' := by
  obtain ⟨a1, a2, a3, a4, a5, a6, a7, a8, a9, -⟩ := hp
  obtain ⟨B, lo, hi, sk, da, bi, fi⟩ := p
  dsimp only [cellsP] at *
  have x0 : 0 ≤ v / da := Int.ediv_nonneg hv.1 (by omega)
  have x1 : 0 ≤ v / da / l := Int.ediv_nonneg x0 (by omega)
  have x2 : v / da ≤ v := Int.ediv_le_self da hv.1
  have x3 : v / da / l ≤ v / da := Int.ediv_le_self l x0
  have d0 : ¬ da = 0 := by omega
  have d1 : 1 ≤ da := by omega
  have l0 : ¬ l = 0 := by omega
  have hm1 : 0 ≤ (B - lo) * hi := Int.mul_nonneg (by omega) (by omega)
  have hm2 : (B - lo) * hi ≤ 36 * 36 := Int.mul_le_mul (by omega) (by omega) (by omega) (by omega)
  have b0 : ¬ B - lo = 0 := by omega
  have b1 : 1 ≤ B - lo := by omega
  unfold adp
  dsimp only
  have START : DvAt (B - lo) ((B - lo) * hi / 2) (v / da + v / da / l) (.int .i64 (v / da + v / da / l)) (.int .i64 0) := ⟨64, _, _, rfl, rfl, by omega, Int.le_refl _, by omega, by omega, by omega, rfl⟩
  have ST := hide START
  clear START
  have hq := divs_m (B - lo) ((B - lo) * hi / 2) 64 (v / da + v / da / l) 0
  have hr := divs_x (b := B - lo) (by omega) ((B - lo) * hi / 2) 64 (v / da + v / da / l) 0 (by omega)
  have hs := divs_le (b := B - lo) (l := (B - lo) * hi / 2) (by omega) (by omega) 64 (v / da + v / da / l) 0 (by omega) (by omega)
  generalize hX0 : v / da + v / da / l = X0 at *
  obtain ⟨rx, rm, hR⟩ : ∃ rx rm, divs (B - lo) ((B - lo) * hi / 2) 64 X0 0 = (rx, rm) := ⟨_, _, rfl⟩
  rw [hR] at hq hr hs ⊢
  dsimp only at hq hr hs ⊢
  have q1 : 0 ≤ rm * B := Int.mul_nonneg (by omega) (by omega)
  have q2 : rm * B ≤ 64 * 36 := Int.mul_le_mul (by omega) (by omega) (by omega) (by omega)
  have q3 : 0 ≤ (B - lo + 1) * rx := Int.mul_nonneg (by omega) hr
  have q4 : (B - lo + 1) * rx ≤ 36 * 1000 := Int.mul_le_mul (by omega) (by omega) hr (by omega)
  have q5 : 0 ≤ (B - lo + 1) * rx / (rx + sk) := Int.ediv_nonneg q3 (by omega)
  have q6 : (B - lo + 1) * rx / (rx + sk) ≤ (B - lo + 1) * rx := Int.ediv_le_self _ q3
  have q7 : ¬ rx + sk = 0 := by omega
  have HR' := hide hR
  clear hR
  go_enter Try.func36, Try.ntmps36
  go_wp2_with fail
  go_loopw [9, 10] (fun x m wr => DvAt (B - lo) ((B - lo) * hi / 2) X0 x m ∧ wr = (w.alloc (.cells #[.int .i64 B, .int .i64 lo, .int .i64 hi, .int .i64 sk, .int .i64 da, .int .i64 bi, .int .i32 fi] 24))) (fun _ m _ => 64 - (intOf m).toNat)
  case atStart => exact ⟨unhide ST, rfl⟩
  case round =>
    obtain ⟨⟨f, x, m, rfl, rfl, f1, f0, f2, f3, f4, f5⟩, rfl⟩ := hrel
    have F5 := hide f5
    clear f5
    have hlim : 0 ≤ (B - lo) * hi / 2 := Int.ediv_nonneg hm1 (by omega)
    by_cases hx : (B - lo) * hi / 2 < x
    · obtain ⟨f, rfl⟩ : ∃ g, f = g + 1 := ⟨f - 1, by
        rcases f with _ | f
        · exact absurd f4 (by simp; omega)
        · rfl⟩
      have F4 := hide f4
      clear f4
      have y0 : 0 ≤ x / (B - lo) := Int.ediv_nonneg f1 (by omega)
      have y1 : x / (B - lo) ≤ x := Int.ediv_le_self _ f1
      go_wp2_with fail
      go_roundw
      case rel =>
        refine ⟨⟨f, x / (B - lo), m + 1, rfl, rfl, y0, by omega, by omega, by omega, half_lt (by omega) f1 ?_, ?_⟩, trivial⟩
        · have := unhide F4
          rw [Int.pow_succ] at this
          omega
        · rw [← divs_yes hx]; exact unhide F5
      case measure => simp [intOf]; omega
    · have E := (divs_no (b := B - lo) (m := m) hx f).symm.trans ((unhide F5).trans (unhide HR'))
      obtain ⟨rfl, rfl⟩ := Prod.mk.inj E
      clear E
      have nw := Blk.new w #[.int .i64 B, .int .i64 lo, .int .i64 hi, .int .i64 sk, .int .i64 da, .int .i64 bi, .int .i32 fi] 24
      have bw : Below w.heap.size w (w.alloc (.cells #[.int .i64 B, .int .i64 lo, .int .i64 hi, .int .i64 sk, .int .i64 da, .int .i64 bi, .int .i32 fi] 24)) := (Below.refl _ _).alloc (Nat.le_refl _) _
      have BW := hide bw
      have n0 : (w.alloc (.cells #[.int .i64 B, .int .i64 lo, .int .i64 hi, .int .i64 sk, .int .i64 da, .int .i64 bi, .int .i32 fi] 24)).cell? ⟨w.heap.size, 0, none⟩ = some (.int .i64 B) := nw.cell 0
      have n1 : (w.alloc (.cells #[.int .i64 B, .int .i64 lo, .int .i64 hi, .int .i64 sk, .int .i64 da, .int .i64 bi, .int .i32 fi] 24)).cell? ⟨w.heap.size, 1, none⟩ = some (.int .i64 lo) := nw.cell 1
      have n2 : (w.alloc (.cells #[.int .i64 B, .int .i64 lo, .int .i64 hi, .int .i64 sk, .int .i64 da, .int .i64 bi, .int .i32 fi] 24)).cell? ⟨w.heap.size, 2, none⟩ = some (.int .i64 hi) := nw.cell 2
      have n3 : (w.alloc (.cells #[.int .i64 B, .int .i64 lo, .int .i64 hi, .int .i64 sk, .int .i64 da, .int .i64 bi, .int .i32 fi] 24)).cell? ⟨w.heap.size, 3, none⟩ = some (.int .i64 sk) := nw.cell 3
      clear bw nw
      generalize (w.alloc (.cells #[.int .i64 B, .int .i64 lo, .int .i64 hi, .int .i64 sk, .int .i64 da, .int .i64 bi, .int .i32 fi] 24)) = W1 at *
      go_wp2_with fail
      go_quiet (fail)
      go_wp2_with fail
      go_ret
      exact ⟨rfl, below_drewC (unhide BW) _⟩
set_option maxRecDepth 100000 in
set_option maxHeartbeats 4000000 in
theorem refAdp_more {p : Pm} (hp : rightP p) {v l : Int} (hv : 0 ≤ v ∧ v ≤ 1152921504606846975) (hl : 1 ≤ l ∧ l ≤ 5000) (w : World) : Calls Try.prog 36 #[.agg (cellsP p), .int .i64 v, .int .i64 l, .bool false] w fun e w' => e = .returned (.int .i64 (adp p v l 2)) ∧ Below w.heap.size w w' := by
  obtain ⟨a1, a2, a3, a4, a5, a6, a7, a8, a9, -⟩ := hp
  obtain ⟨B, lo, hi, sk, da, bi, fi⟩ := p
  dsimp only [cellsP] at *
  have x0 : 0 ≤ v / 2 := Int.ediv_nonneg hv.1 (by omega)
  have x1 : 0 ≤ v / 2 / l := Int.ediv_nonneg x0 (by omega)
  have x2 : v / 2 ≤ v := Int.ediv_le_self 2 hv.1
  have x3 : v / 2 / l ≤ v / 2 := Int.ediv_le_self l x0
  have d0 : ¬ da = 0 := by omega
  have d1 : 1 ≤ da := by omega
  have l0 : ¬ l = 0 := by omega
  have hm1 : 0 ≤ (B - lo) * hi := Int.mul_nonneg (by omega) (by omega)
  have hm2 : (B - lo) * hi ≤ 36 * 36 := Int.mul_le_mul (by omega) (by omega) (by omega) (by omega)
  have b0 : ¬ B - lo = 0 := by omega
  have b1 : 1 ≤ B - lo := by omega
  unfold adp
  dsimp only
  have START : DvAt (B - lo) ((B - lo) * hi / 2) (v / 2 + v / 2 / l) (.int .i64 (v / 2 + v / 2 / l)) (.int .i64 0) := ⟨64, _, _, rfl, rfl, by omega, Int.le_refl _, by omega, by omega, by omega, rfl⟩
  have ST := hide START
  clear START
  have hq := divs_m (B - lo) ((B - lo) * hi / 2) 64 (v / 2 + v / 2 / l) 0
  have hr := divs_x (b := B - lo) (by omega) ((B - lo) * hi / 2) 64 (v / 2 + v / 2 / l) 0 (by omega)
  have hs := divs_le (b := B - lo) (l := (B - lo) * hi / 2) (by omega) (by omega) 64 (v / 2 + v / 2 / l) 0 (by omega) (by omega)
  generalize hX0 : v / 2 + v / 2 / l = X0 at *
  obtain ⟨rx, rm, hR⟩ : ∃ rx rm, divs (B - lo) ((B - lo) * hi / 2) 64 X0 0 = (rx, rm) := ⟨_, _, rfl⟩
  rw [hR] at hq hr hs ⊢
  dsimp only at hq hr hs ⊢
  have q1 : 0 ≤ rm * B := Int.mul_nonneg (by omega) (by omega)
  have q2 : rm * B ≤ 64 * 36 := Int.mul_le_mul (by omega) (by omega) (by omega) (by omega)
  have q3 : 0 ≤ (B - lo + 1) * rx := Int.mul_nonneg (by omega) hr
  have q4 : (B - lo + 1) * rx ≤ 36 * 1000 := Int.mul_le_mul (by omega) (by omega) hr (by omega)
  have q5 : 0 ≤ (B - lo + 1) * rx / (rx + sk) := Int.ediv_nonneg q3 (by omega)
  have q6 : (B - lo + 1) * rx / (rx + sk) ≤ (B - lo + 1) * rx := Int.ediv_le_self _ q3
  have q7 : ¬ rx + sk = 0 := by omega
  have HR' := hide hR
  clear hR
  go_enter Try.func36, Try.ntmps36
  go_wp2_with fail
  go_loopw [9, 10] (fun x m wr => DvAt (B - lo) ((B - lo) * hi / 2) X0 x m ∧ wr = (w.alloc (.cells #[.int .i64 B, .int .i64 lo, .int .i64 hi, .int .i64 sk, .int .i64 da, .int .i64 bi, .int .i32 fi] 24))) (fun _ m _ => 64 - (intOf m).toNat)
  case atStart => exact ⟨unhide ST, rfl⟩
  case round =>
    obtain ⟨⟨f, x, m, rfl, rfl, f1, f0, f2, f3, f4, f5⟩, rfl⟩ := hrel
    have F5 := hide f5
    clear f5
    have hlim : 0 ≤ (B - lo) * hi / 2 := Int.ediv_nonneg hm1 (by omega)
    by_cases hx : (B - lo) * hi / 2 < x
    · obtain ⟨f, rfl⟩ : ∃ g, f = g + 1 := ⟨f - 1, by
        rcases f with _ | f
        · exact absurd f4 (by simp; omega)
        · rfl⟩
      have F4 := hide f4
      clear f4
      have y0 : 0 ≤ x / (B - lo) := Int.ediv_nonneg f1 (by omega)
      have y1 : x / (B - lo) ≤ x := Int.ediv_le_self _ f1
      go_wp2_with fail
      go_roundw
      case rel =>
        refine ⟨⟨f, x / (B - lo), m + 1, rfl, rfl, y0, by omega, by omega, by omega, half_lt (by omega) f1 ?_, ?_⟩, trivial⟩
        · have := unhide F4
          rw [Int.pow_succ] at this
          omega
        · rw [← divs_yes hx]; exact unhide F5
      case measure => simp [intOf]; omega
    · have E := (divs_no (b := B - lo) (m := m) hx f).symm.trans ((unhide F5).trans (unhide HR'))
      obtain ⟨rfl, rfl⟩ := Prod.mk.inj E
      clear E
      have nw := Blk.new w #[.int .i64 B, .int .i64 lo, .int .i64 hi, .int .i64 sk, .int .i64 da, .int .i64 bi, .int .i32 fi] 24
      have bw : Below w.heap.size w (w.alloc (.cells #[.int .i64 B, .int .i64 lo, .int .i64 hi, .int .i64 sk, .int .i64 da, .int .i64 bi, .int .i32 fi] 24)) := (Below.refl _ _).alloc (Nat.le_refl _) _
      have BW := hide bw
      have n0 : (w.alloc (.cells #[.int .i64 B, .int .i64 lo, .int .i64 hi, .int .i64 sk, .int .i64 da, .int .i64 bi, .int .i32 fi] 24)).cell? ⟨w.heap.size, 0, none⟩ = some (.int .i64 B) := nw.cell 0
      have n1 : (w.alloc (.cells #[.int .i64 B, .int .i64 lo, .int .i64 hi, .int .i64 sk, .int .i64 da, .int .i64 bi, .int .i32 fi] 24)).cell? ⟨w.heap.size, 1, none⟩ = some (.int .i64 lo) := nw.cell 1
      have n2 : (w.alloc (.cells #[.int .i64 B, .int .i64 lo, .int .i64 hi, .int .i64 sk, .int .i64 da, .int .i64 bi, .int .i32 fi] 24)).cell? ⟨w.heap.size, 2, none⟩ = some (.int .i64 hi) := nw.cell 2
      have n3 : (w.alloc (.cells #[.int .i64 B, .int .i64 lo, .int .i64 hi, .int .i64 sk, .int .i64 da, .int .i64 bi, .int .i32 fi] 24)).cell? ⟨w.heap.size, 3, none⟩ = some (.int .i64 sk) := nw.cell 3
      clear bw nw
      generalize (w.alloc (.cells #[.int .i64 B, .int .i64 lo, .int .i64 hi, .int .i64 sk, .int .i64 da, .int .i64 bi, .int .i32 fi] 24)) = W1 at *
      go_wp2_with fail
      go_quiet (fail)
      go_wp2_with fail
      go_ret
      exact ⟨rfl, below_drewC (unhide BW) _⟩
end Go.Proofs.Ythjndkjbjflmfaa
