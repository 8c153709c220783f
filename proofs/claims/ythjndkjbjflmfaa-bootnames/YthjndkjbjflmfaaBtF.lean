/- A number is read: the method's walk. -/
import Derived.Test.YthjndkjbjflmfaaBtE
import Derived.Test.YthjndkjbjflmfaaSeqMath
namespace Go.Proofs.Ythjndkjbjflmfaa
open Go.RowKit Go.Shelf
set_option linter.unusedVariables false
theorem rdN_end {p : Pm} {bias h n nx : Int} {a : ByteArray} {f j : Nat} {k v w : Int} (hj : a.size ≤ j) : rdN p bias h n nx a f j k v w = (0, a.size, 21) := by
  cases f with
  | zero => rfl
  | succ f => unfold rdN; rw [if_pos hj]
theorem rdN_dig {p : Pm} {bias h n nx : Int} {a : ByteArray} {f j : Nat} {k v w : Int} (hj : ¬ a.size ≤ j) (hd : digV p.B (bt a j) < 0) : rdN p bias h n nx a (f + 1) j k v w = (0, j, 50) := by
  unfold rdN; rw [if_neg hj, if_pos hd]
theorem rdN_over {p : Pm} {bias h n nx : Int} {a : ByteArray} {f j : Nat} {k v w : Int} (hj : ¬ a.size ≤ j) (hd : ¬ digV p.B (bt a j) < 0) (ho : 1114111 - n < (v + digV p.B (bt a j) * w + nx) / (h + 1)) : rdN p bias h n nx a (f + 1) j k v w = (0, j, 51) := by
  unfold rdN; rw [if_neg hj, if_neg hd, if_pos ho]
theorem rdN_last {p : Pm} {bias h n nx : Int} {a : ByteArray} {f j : Nat} {k v w : Int} (hj : ¬ a.size ≤ j) (hd : ¬ digV p.B (bt a j) < 0) (ho : ¬ 1114111 - n < (v + digV p.B (bt a j) * w + nx) / (h + 1)) (ht : digV p.B (bt a j) < thr p bias k) : rdN p bias h n nx a (f + 1) j k v w = (v + digV p.B (bt a j) * w, j, 0) := by
  unfold rdN; rw [if_neg hj, if_neg hd, if_neg ho, if_pos ht]
theorem rdN_next {p : Pm} {bias h n nx : Int} {a : ByteArray} {f j : Nat} {k v w : Int} (hj : ¬ a.size ≤ j) (hd : ¬ digV p.B (bt a j) < 0) (ho : ¬ 1114111 - n < (v + digV p.B (bt a j) * w + nx) / (h + 1)) (ht : ¬ digV p.B (bt a j) < thr p bias k) : rdN p bias h n nx a (f + 1) j k v w = rdN p bias h n nx a f (j + 1) (k + 1) (v + digV p.B (bt a j) * w) (w * (p.B - thr p bias k)) := by
  rw [rdN]; rw [if_neg hj, if_neg hd, if_neg ho, if_neg ht]
theorem not_over {v nx h n : Int} (ho : ¬ 1114111 - n < (v + nx) / (h + 1)) (hn : 0 ≤ n) (hx : 0 ≤ nx) (hh : 0 ≤ h ∧ h ≤ 4096) (hv : 0 ≤ v) : v ≤ 4564516864 := by
  have h1 : (v + nx) / (h + 1) ≤ 1114111 := by omega
  have h2 : v + nx < (1114111 + 1) * (h + 1) := by
    apply Int.lt_mul_of_ediv_lt (by omega)
    omega
  have h3 : (1114111 + 1) * (h + 1) ≤ 1114112 * 4097 := Int.mul_le_mul (by omega) (by omega) (by omega) (by omega)
  omega
/-- How far the reading has come. -/
def RdF (p : Pm) (bias h n nx : Int) (a : ByteArray) (j0 : Nat) (R : Int × Nat × Int) (x v w k : Value) : Prop :=
  ∃ (f j : Nat) (v' w' : Int), x = .int .i64 j ∧ v = .int .i64 v' ∧ w = .int .i64 w' ∧ k = .int .i64 ((j : Int) - j0 + 1) ∧ f + j = a.size ∧ j0 ≤ j ∧ 0 ≤ v' ∧ v' ≤ 4564516864 ∧ 1 ≤ w' ∧ w' ≤ 36 * v' + 1 ∧ rdN p bias h n nx a f j ((j : Int) - j0 + 1) v' w' = R
set_option maxRecDepth 100000 in
set_option maxHeartbeats 4000000 in
theorem read_any {p : Pm} (hp : rightP p) {W : World} {c : Nat} {bias d l n nx : Int} (hC : CAt W c p bias d l n nx) (hb : 0 ≤ bias ∧ bias ≤ 4000) (hl : 0 ≤ l ∧ l ≤ 4096) (hn : 0 ≤ n ∧ n ≤ 1114111) (hx : 0 ≤ nx ∧ nx ≤ 5000) (a : ByteArray) (ha : a.size ≤ 65536) (j0 : Nat) (h0 : j0 ≤ a.size) :
    Calls Try.prog 51 #[.pointer (some ⟨c, 0, none⟩), .string a, .int .i64 j0] W fun e w' => e = .returned (.tuple #[.int .i64 (rdN p bias l n nx a (a.size - j0) j0 1 0 1).1, .int .i64 (rdN p bias l n nx a (a.size - j0) j0 1 0 1).2.1, .int .i64 (rdN p bias l n nx a (a.size - j0) j0 1 0 1).2.2]) ∧ ∃ q, w' = W.drewN q := by
  have c0 : W.cell? ⟨c, 0, none⟩ = some (.int .i64 p.B) := hC.cell 0
  have HC := hide hC
  clear hC
  have HP := hide hp
  obtain ⟨a1, a2, a3, a4, a5, -⟩ := hp
  obtain ⟨nB, hB⟩ : ∃ m : Nat, p.B = m := ⟨p.B.toNat, by omega⟩
  have START : RdF p bias l n nx a j0 (rdN p bias l n nx a (a.size - j0) j0 1 0 1) (.int .i64 j0) (.int .i64 0) (.int .i64 1) (.int .i64 1) :=
    ⟨a.size - j0, j0, 0, 1, rfl, rfl, rfl, by congr 1; omega, by omega, Nat.le_refl _, by omega, by omega, by omega, by omega, by rw [show ((j0 : Int) - j0 + 1) = 1 by omega]⟩
  have ST := hide START
  clear START
  generalize rdN p bias l n nx a (a.size - j0) j0 1 0 1 = R at *
  rw [hB] at c0 a1 a2 a5
  have HHB := hide hB
  clear hB
  have hnB : nB ≤ 36 := by omega
  go_enter Try.func51, Try.ntmps51
  go_wp2_with fail
  go_loopw [2, 9, 10, 11] (fun x v w k wr => RdF p bias l n nx a j0 R x v w k ∧ ∃ q, wr = W.drewN q) (fun x _ _ _ _ => a.size - (intOf x).toNat)
  case atStart => exact ⟨unhide ST, 0, rfl⟩
  case round =>
    obtain ⟨⟨f, j, v, w, rfl, rfl, rfl, rfl, f1, f2, f3, f4, f5, f6, f7⟩, q, rfl⟩ := hrel
    have F7 := hide f7
    clear f7 ST
    by_cases hj : j < a.size
    · have hj1 : (j : Int) < (a.size : Int) := by omega
      obtain ⟨g, rfl⟩ : ∃ g, f = g + 1 := ⟨f - 1, by omega⟩
      have hbt : bt a j = (a[j]'hj).toNat := bt_get a j hj
      have hdg := fun w => dig_sh nB (a[j]'hj).toNat hnB (UInt8.toNat_lt _) w
      have hD0 := digV_in nB (a[j]'hj).toNat
      rw [← hbt] at hdg hD0
      have hDp : digV p.B (bt a j) = digV nB (bt a j) := by rw [unhide HHB]
      rw [hbt] at hdg
      rw [show digV nB (a[j]'hj).toNat = digV nB (bt a j) by rw [hbt]] at hdg
      generalize digV nB (bt a j) = D at *
      have HDG := hide hdg
      have HDP := hide hDp
      clear hdg hDp hbt
      obtain ⟨d1, d2, d3⟩ := hD0
      have hjn : ¬ a.size ≤ j := by omega
      by_cases hd : D < 0
      · obtain rfl : R = (0, j, 50) := (unhide F7).symm.trans (rdN_dig hjn (by rw [unhide HDP]; exact hd))
        go_wp2_with fail
        go_quiet (exact (unhide HDG _).mono fun e w h => ⟨h.1, _, h.2⟩)
        go_wp2_with fail
        go_ret3
        exact ⟨rfl, _, rfl⟩
      · have m1 : 0 ≤ D * w := Int.mul_nonneg (by omega) (by omega)
        have m2 : D * w ≤ 35 * 164322607105 := Int.mul_le_mul (by omega) (by omega) (by omega) (by omega)
        have m3 : D * w = 0 ∨ w ≤ D * w := by
          by_cases h : D = 0
          · left; rw [h]; simp
          · right
            have := Int.mul_le_mul_of_nonneg_right (show (1 : Int) ≤ D by omega) (show 0 ≤ w by omega)
            omega
        by_cases ho : 1114111 - n < (v + D * w + nx) / (l + 1)
        · obtain rfl : R = (0, j, 51) := (unhide F7).symm.trans (rdN_over hjn (by rw [unhide HDP]; exact hd) (by rw [unhide HDP]; exact ho))
          have hov : decide (1114111 - n < (v + D * w + nx) / (l + 1)) = true := decide_eq_true ho
          have HOV := hide hov
          clear hov ho
          go_wp2_with fail
          go_quiet (exact (unhide HDG _).mono fun e w h => ⟨h.1, _, h.2⟩)
          go_wp2_with (go_at_call 70; refine (over_any (W := W.drewN _) (unhide HC) (by omega) hl hn hx).mono ?_; rintro e w1 ⟨rfl, q2, rfl⟩; rw [unhide HOV])
          go_ret3
          exact ⟨rfl, _, rfl⟩
        · have hov : decide (1114111 - n < (v + D * w + nx) / (l + 1)) = false := decide_eq_false ho
          have HOV := hide hov
          have HO := hide ho
          have v1 := not_over ho hn.1 hx.1 hl (by omega)
          clear hov ho
          have hth := fun q => thr_any (W := W.drewN q) (k := (j : Int) - j0 + 1) (unhide HP) (unhide HC) hb (by omega)
          have t1 := thr_ge (p := p) a4 bias ((j : Int) - j0 + 1)
          have t2 := thr_le p bias ((j : Int) - j0 + 1)
          obtain ⟨T, hT⟩ : ∃ T, thr p bias ((j : Int) - j0 + 1) = T := ⟨_, rfl⟩
          rw [hT] at hth t1 t2
          have HTH := hide hth
          have HT := hide hT
          clear hth hT
          by_cases ht : D < T
          · obtain rfl : R = (v + D * w, j, 0) := (unhide F7).symm.trans ((rdN_last hjn (by rw [unhide HDP]; exact hd) (by rw [unhide HDP]; exact unhide HO) (by rw [unhide HDP, unhide HT]; exact ht)).trans (by rw [unhide HDP]))
            go_wp2_with fail
            go_quiet (exact (unhide HDG _).mono fun e w h => ⟨h.1, _, h.2⟩)
            go_wp2_with (first | (go_at_call 70; refine (over_any (W := W.drewN _) (unhide HC) (by omega) hl hn hx).mono ?_; rintro e w1 ⟨rfl, q2, rfl⟩; rw [unhide HOV]) | (go_at_call 67; refine (unhide HTH _).mono ?_; rintro e w1 ⟨rfl, q3, rfl⟩))
            go_ret3
            exact ⟨rfl, _, rfl⟩
          · have F8 := hide ((rdN_next hjn (by rw [unhide HDP]; exact hd) (by rw [unhide HDP]; exact unhide HO) (by rw [unhide HDP, unhide HT]; exact ht)).symm.trans (unhide F7))
            have c0q : ∀ q, (W.drewN q).cell? ⟨c, 0, none⟩ = some (.int .i64 nB) := fun _ => c0
            have m4 : w ≤ D * w := by
              have := Int.mul_le_mul_of_nonneg_right (show (1 : Int) ≤ D by omega) (show 0 ≤ w by omega)
              omega
            have w1 : 1 ≤ (nB : Int) - T := by omega
            have w2 : 0 ≤ w * ((nB : Int) - T) := Int.mul_nonneg (by omega) (by omega)
            have w3 : w * ((nB : Int) - T) ≤ w * 36 := Int.mul_le_mul_of_nonneg_left (by omega) (by omega)
            have w4 : w * 1 ≤ w * ((nB : Int) - T) := Int.mul_le_mul_of_nonneg_left (by omega) (by omega)
            go_wp2_with fail
            go_quiet (exact (unhide HDG _).mono fun e w h => ⟨h.1, _, h.2⟩)
            go_wp2_with (first | (go_at_call 70; refine (over_any (W := W.drewN _) (unhide HC) (by omega) hl hn hx).mono ?_; rintro e w1 ⟨rfl, q2, rfl⟩; rw [unhide HOV]) | (go_at_call 67; refine (unhide HTH _).mono ?_; rintro e w1 ⟨rfl, q3, rfl⟩))
            go_roundw
            case rel =>
              refine ⟨⟨g, j + 1, v + D * w, w * ((nB : Int) - T), rfl, rfl, rfl, by go_num, by omega, by omega, by omega, v1, by omega, by omega, ?_⟩, _, rfl⟩
              have := unhide F8
              rw [unhide HDP, unhide HT, unhide HHB] at this
              rw [show (((j + 1 : Nat) : Int) - j0 + 1) = (j : Int) - j0 + 1 + 1 by omega]
              exact this
            case measure => simp [intOf]; omega
    · have hj1 : ¬ (j : Int) < (a.size : Int) := by omega
      obtain rfl : R = (0, a.size, 21) := (unhide F7).symm.trans (rdN_end (by omega))
      go_wp2_with fail
      go_ret3
      exact ⟨rfl, _, rfl⟩
end Go.Proofs.Ythjndkjbjflmfaa
