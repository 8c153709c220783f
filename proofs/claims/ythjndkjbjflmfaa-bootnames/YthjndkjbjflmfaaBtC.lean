/- The bias behind a number. -/
import Derived.Test.YthjndkjbjflmfaaBtB
namespace Go.Proofs.Ythjndkjbjflmfaa
open Go.RowKit Go.Shelf
set_option linter.unusedVariables false
theorem divs_no {b l x m : Int} (h : ¬ l < x) : ∀ f, divs b l f x m = (x, m)
  | 0 => rfl
  | f + 1 => by unfold divs; rw [if_neg h]
theorem divs_yes {b l x m : Int} {f : Nat} (h : l < x) : divs b l (f + 1) x m = divs b l f (x / b) (m + 1) := by
  rw [divs, if_pos h]
/-- Where the divisions stand: x has been divided m times, f may follow. -/
def DvAt (b lim x0 : Int) (x m : Value) : Prop := ∃ (f : Nat) (x' m' : Int), x = .int .i64 x' ∧ m = .int .i64 m' ∧ 0 ≤ x' ∧ x' ≤ x0 ∧ 0 ≤ m' ∧ m' + f = 64 ∧ x' < 2 ^ f ∧ divs b lim f x' m' = divs b lim 64 x0 0
set_option maxRecDepth 100000 in
set_option maxHeartbeats 4000000 in
theorem bias_any {p : Pm} (hp : rightP p) {W : World} {c : Nat} {bias d l n nx v : Int} (hC : CAt W c p bias d l n nx) (hv : 0 ≤ v ∧ v ≤ 1152921504606846975) (hl : 1 ≤ l ∧ l ≤ 5000) (hd : 1 ≤ d ∧ d ≤ 10000) : Calls Try.prog 68 #[.pointer (some ⟨c, 0, none⟩), .int .i64 v] W fun e w' => e = .returned (.int .i64 (adp p v l d)) ∧ ∃ q, w' = W.drewN q := by
  have c0 : W.cell? ⟨c, 0, none⟩ = some (.int .i64 p.B) := hC.cell 0
  have c1 : W.cell? ⟨c, 1, none⟩ = some (.int .i64 p.lo) := hC.cell 1
  have c2 : W.cell? ⟨c, 2, none⟩ = some (.int .i64 p.hi) := hC.cell 2
  have c3 : W.cell? ⟨c, 3, none⟩ = some (.int .i64 p.sk) := hC.cell 3
  have c8 : W.cell? ⟨c, 8, none⟩ = some (.int .i64 d) := hC.cell 8
  have c9 : W.cell? ⟨c, 9, none⟩ = some (.int .i64 l) := hC.cell 9
  clear hC
  obtain ⟨a1, a2, a3, a4, a5, a6, a7, -⟩ := hp
  obtain ⟨B, lo, hi, sk, da, bi, fi⟩ := p
  have x0 : 0 ≤ v / d := Int.ediv_nonneg hv.1 (by omega)
  have x1 : 0 ≤ v / d / l := Int.ediv_nonneg x0 (by omega)
  have x2 : v / d ≤ v := Int.ediv_le_self d hv.1
  have x3 : v / d / l ≤ v / d := Int.ediv_le_self l x0
  have d0 : ¬ d = 0 := by omega
  have l0 : ¬ l = 0 := by omega
  dsimp only at *
  have hm1 : 0 ≤ (B - lo) * hi := Int.mul_nonneg (by omega) (by omega)
  have hm2 : (B - lo) * hi ≤ 36 * 36 := Int.mul_le_mul (by omega) (by omega) (by omega) (by omega)
  have b0 : ¬ B - lo = 0 := by omega
  have b1 : 1 ≤ B - lo := by omega
  unfold adp
  dsimp only
  have HR := hide (rfl : divs (B - lo) ((B - lo) * hi / 2) 64 (v / d + v / d / l) 0 = divs (B - lo) ((B - lo) * hi / 2) 64 (v / d + v / d / l) 0)
  have START : DvAt (B - lo) ((B - lo) * hi / 2) (v / d + v / d / l) (.int .i64 (v / d + v / d / l)) (.int .i64 0) := ⟨64, _, _, rfl, rfl, by omega, Int.le_refl _, by omega, by omega, by omega, rfl⟩
  have ST := hide START
  clear START
  have hq := divs_m (B - lo) ((B - lo) * hi / 2) 64 (v / d + v / d / l) 0
  have hr := divs_x (b := B - lo) (by omega) ((B - lo) * hi / 2) 64 (v / d + v / d / l) 0 (by omega)
  have hs := divs_le (b := B - lo) (l := (B - lo) * hi / 2) (by omega) (by omega) 64 (v / d + v / d / l) 0 (by omega) (by omega)
  generalize hX0 : v / d + v / d / l = X0 at *
  obtain ⟨rx, rm, hR⟩ : ∃ rx rm, divs (B - lo) ((B - lo) * hi / 2) 64 X0 0 = (rx, rm) := ⟨_, _, rfl⟩
  rw [hR] at hq hr hs ⊢
  dsimp only at hq hr hs ⊢
  have q1 : 0 ≤ rm * B := Int.mul_nonneg (by omega) (by omega)
  have q2 : rm * B ≤ 64 * 36 := Int.mul_le_mul (by omega) (by omega) (by omega) (by omega)
  have q3 : 0 ≤ (B - lo + 1) * rx := Int.mul_nonneg (by omega) hr
  have q4 : (B - lo + 1) * rx ≤ 36 * 1000 := Int.mul_le_mul (by omega) (by omega) hr (by omega)
  have q5 : 0 ≤ (B - lo + 1) * rx / (rx + sk) := Int.ediv_nonneg q3 (by omega)
  have q6 : (B - lo + 1) * rx / (rx + sk) ≤ (B - lo + 1) * rx := Int.ediv_le_self _ q3
  have q7 : ¬ rx + sk = 0 := by omega
  have HR' := hide hR
  clear hR HR
  go_enter Try.func68, Try.ntmps68
  go_wp2_with fail
  go_quiet (fail)
  go_wp2_with fail
  go_loopw [5, 7] (fun x m wr => DvAt (B - lo) ((B - lo) * hi / 2) X0 x m ∧ ∃ q, wr = W.drewN q) (fun _ m _ => 64 - (intOf m).toNat)
  case atStart => exact ⟨unhide ST, _, rfl⟩
  case round =>
    obtain ⟨⟨f, x, m, rfl, rfl, f1, f0, f2, f3, f4, f5⟩, q, rfl⟩ := hrel
    have F5 := hide f5
    clear f5
    have hlim : 0 ≤ (B - lo) * hi / 2 := Int.ediv_nonneg hm1 (by omega)
    by_cases hx : (B - lo) * hi / 2 < x
    · obtain ⟨f, rfl⟩ : ∃ g, f = g + 1 := ⟨f - 1, by
        rcases f with _ | f
        · exact absurd f4 (by simp; omega)
        · rfl⟩
      have F4 := hide f4
      clear f4
      have y0 : 0 ≤ x / (B - lo) := Int.ediv_nonneg f1 (by omega)
      have y1 : x / (B - lo) ≤ x := Int.ediv_le_self _ f1
      go_wp2_with fail
      go_roundw
      case rel =>
        refine ⟨⟨f, x / (B - lo), m + 1, rfl, rfl, y0, by omega, by omega, by omega, half_lt (by omega) f1 ?_, ?_⟩, _, rfl⟩
        · have := unhide F4
          rw [Int.pow_succ] at this
          omega
        · rw [← divs_yes hx]; exact unhide F5
      case measure => simp [intOf]; omega
    · have E := (divs_no (b := B - lo) (m := m) hx f).symm.trans ((unhide F5).trans (unhide HR'))
      obtain ⟨rfl, rfl⟩ := Prod.mk.inj E
      clear E
      go_wp2_with fail
      go_quiet (fail)
      go_wp2_with fail
      go_ret
      exact ⟨rfl, _, drewN_add _ _ _⟩
end Go.Proofs.Ythjndkjbjflmfaa
