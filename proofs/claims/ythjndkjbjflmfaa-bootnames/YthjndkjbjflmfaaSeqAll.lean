/- The reference's Sequence once more: leading bytes of four, and all texts together. -/
import Derived.Test.YthjndkjbjflmfaaSeq
namespace Go.Proofs.Ythjndkjbjflmfaa
open Go.RowKit Go.Shelf
set_option linter.unusedVariables false

set_option maxRecDepth 100000 in
set_option maxHeartbeats 4000000 in
theorem seq_loop4 (t : ByteArray) (ht : t.size ≤ maxLen) (h2 : 2 ≤ t.size) (hb : 128 ≤ bt t 0) (hq : 240 ≤ bt t 0) (hs : (secOf (bt t 0)).1 ≠ 0) (hx1 : (secOf (bt t 0)).1 ≤ bt t 1) (hx2 : bt t 1 ≤ (secOf (bt t 0)).2) (w : World) :
    Calls Try.prog 54 #[.string t] w fun e w' => e = .returned (seqR (seqV t)) ∧ w' = w := by
  have h : 0 < t.size := by omega
  have hz : szOf (bt t 0) = 4 := by
    unfold szOf; repeat' split
    all_goals omega
  have hl1 : accOf t 1 = bt t 0 % 8 := by
    show leadOf (bt t 0) = _
    unfold leadOf; repeat' split
    all_goals omega
  have hGG := seqV_good t h hb hs hx1 hx2
  have hBB := fun k h1 h2 h3 => seqV_bad t h hb hs (.inr (.inr (.inr ⟨k, h1, h2, h3⟩)))
  rw [hz] at hGG hBB
  have HG := hide hGG
  have HB := hide hBB
  clear hGG hBB hz
  unfold maxLen at ht
  have hg := bt_get t 0 h
  have hb256 := bt_lt t 0
  obtain ⟨b0, e0⟩ : ∃ b0, (t[0]'h).toNat = b0 := ⟨_, rfl⟩
  have hg1 := bt_get t 1 h2
  obtain ⟨b1, e1⟩ : ∃ b1, (t[1]'h2).toNat = b1 := ⟨_, rfl⟩
  rw [hg, e0] at hb hs hx1 hx2 hl1 hq hb256
  rw [hg1, e1] at hx1 hx2
  have HL := hide hl1
  have h' : ((t.size : Int) == 0) = false := beq_eq_false_iff_ne.2 (by omega)
  have hb' : decide ((b0 : Int) < 128) = false := decide_eq_false (by omega)
  have HC := hide (second_any b0)
  obtain ⟨lo, hlo⟩ : ∃ lo, (secOf b0).1 = lo := ⟨_, rfl⟩
  obtain ⟨hi, hhi⟩ : ∃ hi, (secOf b0).2 = hi := ⟨_, rfl⟩
  rw [hlo] at HC hx1 hs
  rw [hhi] at HC hx2
  have hs' : ((lo : Int) == 0) = false := beq_eq_false_iff_ne.2 (by omega)
  have h2' : decide ((t.size : Int) < 2) = false := decide_eq_false (by omega)
  have h3' : (1 : Int) < t.size := by omega
  have hx' : decide (b1 < lo) = false := decide_eq_false (by omega)
  have hx'' : decide (hi < b1) = false := decide_eq_false (by omega)
  have hx1n : ¬ b1 < lo := by omega
  have hx2n : ¬ hi < b1 := by omega
  have hq1 : (240 : Int) ≤ b0 := by omega
  have hq7 := and7 b0 hb256
  clear hs hx1 hx2 hg1 hg hlo hhi hl1 hq
  go_enter Try.func54, Try.ntmps54
  go_wp2_with fail
  refine (unhide HC _).mono ?_
  rintro e w1 ⟨rfl, rfl⟩
  go_wp2_with fail
  go_loop [8, 9] (fun r i => ∃ k : Nat, 1 ≤ k ∧ k ≤ 4 ∧ i = .int .i64 k ∧ r = .int .i32 (accOf t k) ∧ Hz (Goes t k) ∧ Hz (accOf t k < bndOf k)) (fun _ i => 4 - (intOf i).toNat)
  case atStart => exact ⟨1, by omega, by omega, rfl, by rw [unhide HL]; rfl, hide (fun j h1 h2 => by omega), hide (by rw [unhide HL]; show _ < 32; omega)⟩
  case round =>
    obtain ⟨k, hk1, hk2, rfl, rfl, HGo, HA⟩ := hrel
    by_cases hkz : k < 4
    · have hkz' : (k : Int) < 4 := by omega
      by_cases hkn : k < t.size
      · have hgk := bt_get t k hkn
        obtain ⟨c, ec⟩ : ∃ c, (t[k]'hkn).toNat = c := ⟨_, rfl⟩
        have hst := acc_step t k hk1
        rw [ec] at hgk
        rw [hgk] at hst
        have hA := unhide HA
        generalize accOf t k = A at hst hA
        have HST := hide hst
        have HGK := hide hgk
        have HBS := hide (bnd_step k A c hk1 (by omega) hA)
        clear hgk hst HA hA
        have hkn' : decide ((t.size : Int) ≤ k) = false := decide_eq_false (by omega)
        have hkn2 : (k : Int) < t.size := by omega
        by_cases hc1 : c < 128
        · have hc1' : decide ((c : Int) < 128) = true := decide_eq_true (by omega)
          go_wp2
          go_ret2
          exact ⟨by rw [unhide HB k hk1 hkz (.inr (.inl (by rw [unhide HGK]; exact hc1)))]; rfl, rfl⟩
        · have hc1' : decide ((c : Int) < 128) = false := decide_eq_false (by omega)
          by_cases hc2 : 191 < c
          · have hc2' : decide ((191 : Int) < c) = true := decide_eq_true (by omega)
            go_wp2
            go_ret2
            exact ⟨by rw [unhide HB k hk1 hkz (.inr (.inr (by rw [unhide HGK]; exact hc2)))]; rfl, rfl⟩
          · have hc2' : decide ((191 : Int) < c) = false := decide_eq_false (by omega)
            go_wp2
            refine ⟨⟨u2, u3, _, _, ?_, rfl, rfl, rfl, rfl⟩, by simp [intOf]; omega⟩
            refine ⟨k + 1, by omega, by omega, by go_num, ?_, hide (fun j h1 h2 => ?_), hide ?_⟩
            · rw [unhide HST, step_bits A c (unhide HBS).1]
            · by_cases e : j = k
              · subst e; rw [unhide HGK]; omega
              · exact unhide HGo j h1 (by omega)
            · rw [unhide HST]; exact (unhide HBS).2
      · have hkn' : decide ((t.size : Int) ≤ k) = true := decide_eq_true (by omega)
        go_wp2
        go_ret2
        exact ⟨by rw [unhide HB k hk1 hkz (.inl (by omega))]; rfl, rfl⟩
    · have hkz' : ¬ (k : Int) < 4 := by omega
      obtain rfl : k = 4 := by omega
      go_wp2
      go_ret2
      exact ⟨by rw [unhide HG (unhide HGo)]; rfl, rfl⟩

theorem seq_any (t : ByteArray) (ht : t.size ≤ maxLen) (w : World) : Calls Try.prog 54 #[.string t] w fun e w' => e = .returned (seqR (seqV t)) ∧ w' = w := by
  by_cases h0 : t.size = 0 ∨ (0 < t.size ∧ bt t 0 < 128)
  · exact seq_small t ht h0 w
  by_cases h1 : (secOf (bt t 0)).1 = 0 ∨ ((secOf (bt t 0)).1 ≠ 0 ∧ (t.size < 2 ∨ (2 ≤ t.size ∧ (bt t 1 < (secOf (bt t 0)).1 ∨ ((secOf (bt t 0)).1 ≤ bt t 1 ∧ (secOf (bt t 0)).2 < bt t 1)))))
  · exact seq_second t ht (by omega) (by omega) h1 w
  by_cases h2 : bt t 0 < 224
  · exact seq_loop2 t ht (by omega) (by omega) h2 (by omega) (by omega) (by omega) w
  by_cases h3 : bt t 0 < 240
  · exact seq_loop3 t ht (by omega) (by omega) ⟨by omega, h3⟩ (by omega) (by omega) (by omega) w
  · exact seq_loop4 t ht (by omega) (by omega) (by omega) (by omega) (by omega) (by omega) w
end Go.Proofs.Ythjndkjbjflmfaa
