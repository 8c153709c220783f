/- The reference's number. -/
import Derived.Deep.RegionHeld3
import Derived.Test.YthjndkjbjflmfaaBtU
import Derived.Test.YthjndkjbjflmfaaBtF
namespace Go.Proofs.Ythjndkjbjflmfaa
open Go.RowKit Go.Shelf
set_option linter.unusedVariables false
/-- How far the reference's reading has come. -/
def RnF (p : Pm) (bias h n nx : Int) (a : ByteArray) (j0 : Nat) (R : Int × Nat × Int) (v w k : Value) : Prop :=
  ∃ (f j : Nat) (v' w' k' : Int), v = .int .i64 v' ∧ w = .int .i64 w' ∧ k = .int .i64 k' ∧ (j0 : Int) + k' - 1 = j ∧ f + j = a.size ∧ j0 ≤ j ∧ 0 ≤ v' ∧ v' ≤ 4564516864 ∧ 1 ≤ w' ∧ w' ≤ 36 * v' + 1 ∧ rdN p bias h n nx a f j k' v' w' = R
/-- The world of the reading: what was there stays, the parameters lie in their box. -/
def RnW (w0 : World) (b0 : Nat) (p : Pm) (wr : World) : Prop := Below w0.heap.size w0 wr ∧ Blk wr b0 (cellsP p) 24
set_option maxRecDepth 100000 in
set_option maxHeartbeats 4000000 in
theorem refNum_any {p : Pm} (hp : rightP p) {bias h n jj : Int} (hb : 0 ≤ bias ∧ bias ≤ 4000) (hl : 0 ≤ h ∧ h ≤ 4096) (hn : 0 ≤ n ∧ n ≤ 1114111) (hx : 0 ≤ jj + 1 ∧ jj + 1 ≤ 5000) (a : ByteArray) (ha : a.size ≤ 65536) (j0 : Nat) (h0 : j0 ≤ a.size) (R1 : Int) (R2 : Nat) (R3 : Int) (hR : rdN p bias h n (jj + 1) a (a.size - j0) j0 1 0 1 = (R1, R2, R3)) (w : World) :
    Calls Try.prog 37 #[.agg (cellsP p), .string a, .int .i64 j0, .int .i64 bias, .int .i64 h, .int .i32 n, .int .i64 jj] w fun e w' => (∃ K : Int, e = .returned (.tuple #[.int .i64 R1, .int .i64 K, .int .i64 R3]) ∧ ((R3 = 0 → K = R2 - j0 + 1) ∧ (R3 ≠ 0 → K = R2))) ∧ Below w.heap.size w w' := by
  have START : RnF p bias h n (jj + 1) a j0 (R1, R2, R3) (.int .i64 0) (.int .i64 1) (.int .i64 1) :=
    ⟨a.size - j0, j0, 0, 1, 1, rfl, rfl, rfl, by omega, by omega, Nat.le_refl _, by omega, by omega, by omega, by omega, hR⟩
  have ST := hide START
  have HP := hide hp
  obtain ⟨a1, a2, a3, a4, a5, -⟩ := hp
  obtain ⟨nB, hB⟩ : ∃ m : Nat, p.B = m := ⟨p.B.toNat, by omega⟩
  have HHB := hide hB
  have hnB : nB ≤ 36 := by omega
  have hBT : 3 ≤ (nB : Int) := by omega
  clear START hR
  obtain ⟨b0, hb0⟩ : ∃ b0, b0 = w.heap.size := ⟨_, rfl⟩
  have hvl := fun (c : Nat) (hc : c < 256) (w : World) => refValue_any (unhide HP) c hc w
  have hth := fun (k : Int) (hk : 0 ≤ k ∧ k ≤ 1000000) (w : World) => refThr_any (unhide HP) hb hk w
  rw [hB] at hvl a1 a2 a5
  clear hB
  have HVL := hide hvl
  have HTH := hide hth
  clear hvl hth
  have NW : RnW w b0 p (w.alloc (.cells (cellsP p) 24)) := ⟨(Below.refl _ _).alloc (Nat.le_refl _) _, by rw [hb0]; exact Blk.new _ _ _⟩
  have HNW := hide NW
  clear NW
  have HST := ST
  clear ST
  have tl := thr_ge (p := p) a4 bias
  have tg := thr_le p bias
  have HTL := hide tl
  have HTG := hide tg
  clear tl tg
  go_enter Try.func37, Try.ntmps37
  go_wp2_with fail
  rw [← hb0]
  have HB0 := hide hb0
  clear hb0
  go_loopw [17, 18, 19] (fun v wt k wr => RnF p bias h n (jj + 1) a j0 (R1, R2, R3) v wt k ∧ RnW w b0 p wr) (fun _ _ k _ => a.size + 1 - (intOf k).toNat)
  case atStart => exact ⟨unhide HST, unhide HNW⟩
  case round =>
    obtain ⟨⟨f, j, v, wt, k, rfl, rfl, rfl, y0, y1, y2, y3, y4, y5, y6, y7⟩, hW, hP0⟩ := hrel
    have F7 := hide y7
    have HW0 := hide hW
    have hlt : b0 < wr.heap.size := hP0.lt
    have hwl := hW.size
    clear y7 HST HNW hW
    by_cases hj : j < a.size
    · have hj1 : ¬ (a.size : Int) ≤ (j : Int) := by omega
      have hj2 : (j : Int) < (a.size : Int) := by omega
      obtain ⟨g, rfl⟩ : ∃ g, f = g + 1 := ⟨f - 1, by omega⟩
      have hbt : bt a j = (a[j]'hj).toNat := bt_get a j hj
      have hdg := fun w => unhide HVL (a[j]'hj).toNat (UInt8.toNat_lt _) w
      have hD0 := digV_in nB (a[j]'hj).toNat
      have hDp : digV p.B (bt a j) = digV nB (a[j]'hj).toNat := by rw [unhide HHB, hbt]
      generalize digV nB (a[j]'hj).toNat = D at *
      have HDG := hide hdg
      have HDP := hide hDp
      clear hdg hDp hbt
      obtain ⟨d1, d2, d3⟩ := hD0
      have hjn : ¬ a.size ≤ j := by omega
      have HP0 := hide hP0
      clear hP0 d3
      obtain ⟨B, lo, hi, sk, da, bi, fi⟩ := p
      dsimp only [cellsP] at *
      have d0 : wr.drew.cell? ⟨b0, 0, none⟩ = some (.int .i64 B) := (unhide HP0).cell 0
      have d1 : wr.drew.cell? ⟨b0, 1, none⟩ = some (.int .i64 lo) := (unhide HP0).cell 1
      have d2 : wr.drew.cell? ⟨b0, 2, none⟩ = some (.int .i64 hi) := (unhide HP0).cell 2
      have d3 : wr.drew.cell? ⟨b0, 3, none⟩ = some (.int .i64 sk) := (unhide HP0).cell 3
      have d4 : wr.drew.cell? ⟨b0, 4, none⟩ = some (.int .i64 da) := (unhide HP0).cell 4
      have d5 : wr.drew.cell? ⟨b0, 5, none⟩ = some (.int .i64 bi) := (unhide HP0).cell 5
      have d6 : wr.drew.cell? ⟨b0, 6, none⟩ = some (.int .i32 fi) := (unhide HP0).cell 6
      by_cases hd : D < 0
      · obtain ⟨rfl, rfl, rfl⟩ : R1 = 0 ∧ R2 = j ∧ R3 = 50 := by
          have := (unhide F7).symm.trans (rdN_dig hjn (by rw [unhide HDP]; exact hd))
          simpa [Prod.ext_iff] using this
        go_wp2_with fail
        go_region_held3 (fun w' => w'.cell? ⟨b0, 0, none⟩ = some (.int .i64 B) ∧ w'.cell? ⟨b0, 1, none⟩ = some (.int .i64 lo) ∧ w'.cell? ⟨b0, 2, none⟩ = some (.int .i64 hi) ∧ w'.cell? ⟨b0, 3, none⟩ = some (.int .i64 sk) ∧ w'.cell? ⟨b0, 4, none⟩ = some (.int .i64 da) ∧ w'.cell? ⟨b0, 5, none⟩ = some (.int .i64 bi) ∧ w'.cell? ⟨b0, 6, none⟩ = some (.int .i32 fi)) (first | with_reducible exact ⟨d0, d1, d2, d3, d4, d5, d6⟩ | with_reducible exact ⟨f0, f1, f2, f3, f4, f5, f6⟩)
          (first
          | (go_at_call 57; refine (unhide HDG wr.drew).mono ?_; rintro e w4 ⟨rfl, hb4⟩; have f0 := (Below.cell (p := ⟨b0, 0, none⟩) hb4 hlt).trans d0; have f1 := (Below.cell (p := ⟨b0, 1, none⟩) hb4 hlt).trans d1; have f2 := (Below.cell (p := ⟨b0, 2, none⟩) hb4 hlt).trans d2; have f3 := (Below.cell (p := ⟨b0, 3, none⟩) hb4 hlt).trans d3; have f4 := (Below.cell (p := ⟨b0, 4, none⟩) hb4 hlt).trans d4; have f5 := (Below.cell (p := ⟨b0, 5, none⟩) hb4 hlt).trans d5; have f6 := (Below.cell (p := ⟨b0, 6, none⟩) hb4 hlt).trans d6; have HB4 := hide hb4; clear hb4))
        go_wp2_with fail
        go_ret3
        exact ⟨⟨_, rfl, fun h => absurd h (by decide), fun _ => rfl⟩, (unhide HW0).trans ((below_drewC (Below.refl _ _) 1).trans ((unhide HB4).mono (by show _ ≤ wr.heap.size; omega)))⟩
      · have m1 : 0 ≤ D * wt := Int.mul_nonneg (by omega) (by omega)
        have m2 : D * wt ≤ 35 * 164322607105 := Int.mul_le_mul (by omega) (by omega) (by omega) (by omega)
        have m5 : 0 ≤ (jj + 1 + (v + D * wt)) / (h + 1) := Int.ediv_nonneg (by omega) (by omega)
        have m6 : (jj + 1 + (v + D * wt)) / (h + 1) ≤ jj + 1 + (v + D * wt) := Int.ediv_le_self _ (by omega)
        have m7 : ¬ h + 1 = 0 := by omega
        have m8 : v + D * wt + (jj + 1) = jj + 1 + (v + D * wt) := by omega
        have m9 : 1 ≤ h + 1 := by omega
        have HM8 := hide m8
        clear m8
        by_cases ho : 1114111 < n + (jj + 1 + (v + D * wt)) / (h + 1)
        · obtain ⟨rfl, rfl, rfl⟩ : R1 = 0 ∧ R2 = j ∧ R3 = 51 := by
            have := (unhide F7).symm.trans (rdN_over hjn (by rw [unhide HDP]; exact hd) (by rw [unhide HDP, unhide HM8]; omega))
            simpa [Prod.ext_iff] using this
          go_wp2_with fail
          go_region_held3 (fun w' => w'.cell? ⟨b0, 0, none⟩ = some (.int .i64 B) ∧ w'.cell? ⟨b0, 1, none⟩ = some (.int .i64 lo) ∧ w'.cell? ⟨b0, 2, none⟩ = some (.int .i64 hi) ∧ w'.cell? ⟨b0, 3, none⟩ = some (.int .i64 sk) ∧ w'.cell? ⟨b0, 4, none⟩ = some (.int .i64 da) ∧ w'.cell? ⟨b0, 5, none⟩ = some (.int .i64 bi) ∧ w'.cell? ⟨b0, 6, none⟩ = some (.int .i32 fi)) (first | with_reducible exact ⟨d0, d1, d2, d3, d4, d5, d6⟩ | with_reducible exact ⟨f0, f1, f2, f3, f4, f5, f6⟩)
          (first
          | (go_at_call 57; refine (unhide HDG wr.drew).mono ?_; rintro e w4 ⟨rfl, hb4⟩; have f0 := (Below.cell (p := ⟨b0, 0, none⟩) hb4 hlt).trans d0; have f1 := (Below.cell (p := ⟨b0, 1, none⟩) hb4 hlt).trans d1; have f2 := (Below.cell (p := ⟨b0, 2, none⟩) hb4 hlt).trans d2; have f3 := (Below.cell (p := ⟨b0, 3, none⟩) hb4 hlt).trans d3; have f4 := (Below.cell (p := ⟨b0, 4, none⟩) hb4 hlt).trans d4; have f5 := (Below.cell (p := ⟨b0, 5, none⟩) hb4 hlt).trans d5; have f6 := (Below.cell (p := ⟨b0, 6, none⟩) hb4 hlt).trans d6; have HB4 := hide hb4; clear hb4))
          go_wp2_with fail
          go_ret3
          exact ⟨⟨_, rfl, fun h => absurd h (by decide), fun _ => rfl⟩, (unhide HW0).trans ((below_drewC (Below.refl _ _) 1).trans ((unhide HB4).mono (by show _ ≤ wr.heap.size; omega)))⟩
        · have v1 := not_over (v := v + D * wt) (nx := jj + 1) (h := h) (n := n) (by rw [unhide HM8]; omega) hn.1 hx.1 hl (by omega)
          have hk1 : 0 ≤ k ∧ k ≤ 1000000 := by omega
          have hth := fun w => unhide HTH k hk1 w
          have t1 := unhide HTL k
          have t2 := unhide HTG k
          obtain ⟨T, hT⟩ : ∃ T, thr ⟨B, lo, hi, sk, da, bi, fi⟩ bias k = T := ⟨_, rfl⟩
          rw [hT] at hth t1 t2
          have HT1 := hide hth
          have HT := hide hT
          have HO := hide ho
          have hoF : decide (1114111 < n + (jj + 1 + (v + D * wt)) / (h + 1)) = false := decide_eq_false ho
          clear hth hT
          by_cases ht : D < T
          · obtain ⟨rfl, rfl, rfl⟩ : R1 = v + D * wt ∧ R2 = j ∧ R3 = 0 := by
              have := (unhide F7).symm.trans (rdN_last hjn (by rw [unhide HDP]; exact hd) (by rw [unhide HDP, unhide HM8]; have := unhide HO; omega) (by rw [unhide HDP, unhide HT]; exact ht))
              rw [unhide HDP] at this
              simpa [Prod.ext_iff] using this
            go_wp2_with fail
            go_region_held3 (fun w' => w'.cell? ⟨b0, 0, none⟩ = some (.int .i64 B) ∧ w'.cell? ⟨b0, 1, none⟩ = some (.int .i64 lo) ∧ w'.cell? ⟨b0, 2, none⟩ = some (.int .i64 hi) ∧ w'.cell? ⟨b0, 3, none⟩ = some (.int .i64 sk) ∧ w'.cell? ⟨b0, 4, none⟩ = some (.int .i64 da) ∧ w'.cell? ⟨b0, 5, none⟩ = some (.int .i64 bi) ∧ w'.cell? ⟨b0, 6, none⟩ = some (.int .i32 fi)) (first | with_reducible exact ⟨d0, d1, d2, d3, d4, d5, d6⟩ | with_reducible exact ⟨f0, f1, f2, f3, f4, f5, f6⟩)
          (first
          | (go_at_call 57; refine (unhide HDG wr.drew).mono ?_; rintro e w4 ⟨rfl, hb4⟩; have f0 := (Below.cell (p := ⟨b0, 0, none⟩) hb4 hlt).trans d0; have f1 := (Below.cell (p := ⟨b0, 1, none⟩) hb4 hlt).trans d1; have f2 := (Below.cell (p := ⟨b0, 2, none⟩) hb4 hlt).trans d2; have f3 := (Below.cell (p := ⟨b0, 3, none⟩) hb4 hlt).trans d3; have f4 := (Below.cell (p := ⟨b0, 4, none⟩) hb4 hlt).trans d4; have f5 := (Below.cell (p := ⟨b0, 5, none⟩) hb4 hlt).trans d5; have f6 := (Below.cell (p := ⟨b0, 6, none⟩) hb4 hlt).trans d6; have HB4 := hide hb4; clear hb4))
            go_wp2_with (go_at_call 55; refine (unhide HT1 _).mono ?_; rintro e w5 ⟨rfl, hb5⟩; have HB5 := hide hb5; clear hb5)
            go_ret3
            refine ⟨?_, ((unhide HW0).trans ((below_drewC (Below.refl _ _) 1).trans ((unhide HB4).mono (by show _ ≤ wr.heap.size; omega)))).trans ((unhide HB5).mono (by have := (unhide HB4).size; have e : wr.drew.heap.size = wr.heap.size := rfl; omega))⟩
            rw [show (R2 : Int) - (j0 : Int) + 1 = k by omega]
            rfl
          · have F8 := hide ((rdN_next hjn (by rw [unhide HDP]; exact hd) (by rw [unhide HDP, unhide HM8]; have := unhide HO; omega) (by rw [unhide HDP, unhide HT]; exact ht)).symm.trans (unhide F7))
            have m4 : wt ≤ D * wt := by
              have := Int.mul_le_mul_of_nonneg_right (show (1 : Int) ≤ D by omega) (show 0 ≤ wt by omega)
              omega
            have hBn : B = (nB : Int) := unhide HHB
            have w1 : 1 ≤ B - T := by omega
            have w2 : 0 ≤ wt * (B - T) := Int.mul_nonneg (by omega) (by omega)
            have w3 : wt * (B - T) ≤ wt * 36 := Int.mul_le_mul_of_nonneg_left (by omega) (by omega)
            have w4 : wt * 1 ≤ wt * (B - T) := Int.mul_le_mul_of_nonneg_left (by omega) (by omega)
            have hB1 : B ≤ 36 := by omega
            have hB2 : 3 ≤ B := by omega
            have HBN := hide hBn
            clear hBn
            go_wp2_with fail
            go_region_held3 (fun w' => w'.cell? ⟨b0, 0, none⟩ = some (.int .i64 B) ∧ w'.cell? ⟨b0, 1, none⟩ = some (.int .i64 lo) ∧ w'.cell? ⟨b0, 2, none⟩ = some (.int .i64 hi) ∧ w'.cell? ⟨b0, 3, none⟩ = some (.int .i64 sk) ∧ w'.cell? ⟨b0, 4, none⟩ = some (.int .i64 da) ∧ w'.cell? ⟨b0, 5, none⟩ = some (.int .i64 bi) ∧ w'.cell? ⟨b0, 6, none⟩ = some (.int .i32 fi)) (first | with_reducible exact ⟨d0, d1, d2, d3, d4, d5, d6⟩ | with_reducible exact ⟨f0, f1, f2, f3, f4, f5, f6⟩)
          (first
          | (go_at_call 57; refine (unhide HDG wr.drew).mono ?_; rintro e w4 ⟨rfl, hb4⟩; have f0 := (Below.cell (p := ⟨b0, 0, none⟩) hb4 hlt).trans d0; have f1 := (Below.cell (p := ⟨b0, 1, none⟩) hb4 hlt).trans d1; have f2 := (Below.cell (p := ⟨b0, 2, none⟩) hb4 hlt).trans d2; have f3 := (Below.cell (p := ⟨b0, 3, none⟩) hb4 hlt).trans d3; have f4 := (Below.cell (p := ⟨b0, 4, none⟩) hb4 hlt).trans d4; have f5 := (Below.cell (p := ⟨b0, 5, none⟩) hb4 hlt).trans d5; have f6 := (Below.cell (p := ⟨b0, 6, none⟩) hb4 hlt).trans d6; have HB4 := hide hb4; clear hb4))
            go_wp2_with (go_at_call 55; refine (unhide HT1 _).mono ?_; rintro e w5 ⟨rfl, hb5⟩; have HB5 := hide hb5; have z4 := (unhide HB4).size; have z6 : wr.drew.heap.size = wr.heap.size := rfl; have s0 := (Below.cell (p := ⟨b0, 0, none⟩) hb5 (show b0 < w4.heap.size by omega)).trans f0; clear hb5)
            go_roundw
            case rel =>
              have e : wr.drew.heap.size = wr.heap.size := rfl
              have z4 := (unhide HB4).size
              have z5 := (unhide HB5).size
              refine ⟨⟨g, j + 1, v + D * wt, wt * (B - T), k + 1, rfl, rfl, rfl, by omega, by omega, by omega, by omega, v1, by omega, by omega, ?_⟩, ((unhide HW0).trans ((below_drewC (Below.refl _ _) 1).trans ((unhide HB4).mono (by omega)))).trans ((unhide HB5).mono (by omega)), Blk.below (Blk.below (W := wr.drew) (unhide HP0) (unhide HB4) (by omega)) (unhide HB5) (by omega)⟩
              have := unhide F8
              rw [unhide HDP, unhide HT] at this
              exact this
            case measure => simp [intOf]; omega
    · have hj1 : (a.size : Int) ≤ (j : Int) := by omega
      obtain ⟨rfl, rfl, rfl⟩ : R1 = 0 ∧ R2 = a.size ∧ R3 = 21 := by
        have := (unhide F7).symm.trans (rdN_end (by omega))
        simpa [Prod.ext_iff] using this
      go_wp2_with fail
      go_ret3
      exact ⟨⟨_, rfl, fun h => absurd h (by decide), fun _ => by omega⟩, unhide HW0⟩
end Go.Proofs.Ythjndkjbjflmfaa
