/- The reference's own Sequence, told for every text: the width and the rune of the decoding, or nothing where it is bad. -/
import Derived.Test.YthjndkjbjflmfaaLast
import Derived.Test.YthjndkjbjflmfaaSeqMath
namespace Go.Proofs.Ythjndkjbjflmfaa
open Go.RowKit Go.Shelf
set_option linter.unusedVariables false

set_option maxHeartbeats 4000000 in
theorem second_any (c : Nat) (w : World) : Calls Try.prog 73 #[.int .u8 c] w fun e w' => e = .returned (.tuple #[.int .u8 (secOf c).1, .int .u8 (secOf c).2]) ∧ w' = w := by
  have hc : (c < 194 ∧ secOf c = (0, 0)) ∨ (194 ≤ c ∧ c ≤ 223 ∧ secOf c = (128, 191)) ∨ (c = 224 ∧ secOf c = (160, 191)) ∨ (225 ≤ c ∧ c ≤ 236 ∧ secOf c = (128, 191)) ∨ (c = 237 ∧ secOf c = (128, 159)) ∨ (c = 238 ∧ secOf c = (128, 191)) ∨ (c = 239 ∧ secOf c = (128, 191)) ∨
      (c = 240 ∧ secOf c = (144, 191)) ∨ (241 ≤ c ∧ c ≤ 243 ∧ secOf c = (128, 191)) ∨ (c = 244 ∧ secOf c = (128, 143)) ∨ (245 ≤ c ∧ secOf c = (0, 0)) := by
    unfold secOf
    repeat' split
    all_goals simp
    all_goals omega
  rcases hc with ⟨h, e⟩ | ⟨h, h', e⟩ | ⟨rfl, e⟩ | ⟨h, h', e⟩ | ⟨rfl, e⟩ | ⟨rfl, e⟩ | ⟨rfl, e⟩ | ⟨rfl, e⟩ | ⟨h, h', e⟩ | ⟨rfl, e⟩ | ⟨h, e⟩
  all_goals
    rw [e]; clear e
    go_enter Try.func73, Try.ntmps73
    go_wp2
    go_ret2
    exact ⟨rfl, rfl⟩


set_option maxRecDepth 100000 in
set_option maxHeartbeats 2000000 in
theorem seq_small (t : ByteArray) (ht : t.size ≤ maxLen) (h : t.size = 0 ∨ (0 < t.size ∧ bt t 0 < 128)) (w : World) : Calls Try.prog 54 #[.string t] w fun e w' => e = .returned (seqR (seqV t)) ∧ w' = w := by
  unfold maxLen at ht
  rcases h with h | ⟨h, hb⟩
  · have HV := hide (show seqV t = (0, 0) by unfold seqV; rw [if_pos (.inl h)])
    have h' : ((t.size : Int) == 0) = true := by simp [h]
    clear h
    go_enter Try.func54, Try.ntmps54
    go_wp2
    go_ret2
    exact ⟨by rw [unhide HV]; rfl, rfl⟩
  · have HV := hide (seqV_ascii t h hb)
    have hg := bt_get t 0 h
    obtain ⟨b0, e0⟩ : ∃ b0, (t[0]'h).toNat = b0 := ⟨_, rfl⟩
    have HB := hide (hg.trans e0)
    rw [hg, e0] at hb
    have hb' : decide ((b0 : Int) < 128) = true := decide_eq_true (by omega)
    have hb2 : (b0 : Int) < 128 := by omega
    have h' : ((t.size : Int) == 0) = false := beq_eq_false_iff_ne.2 (by omega)
    clear hg
    go_enter Try.func54, Try.ntmps54
    go_wp2
    go_ret2
    exact ⟨by rw [unhide HV, unhide HB]; rfl, rfl⟩

set_option maxRecDepth 100000 in
set_option maxHeartbeats 4000000 in
theorem seq_second (t : ByteArray) (ht : t.size ≤ maxLen) (h : 0 < t.size) (hb : 128 ≤ bt t 0)
    (hx : (secOf (bt t 0)).1 = 0 ∨ ((secOf (bt t 0)).1 ≠ 0 ∧ (t.size < 2 ∨ (2 ≤ t.size ∧ (bt t 1 < (secOf (bt t 0)).1 ∨ ((secOf (bt t 0)).1 ≤ bt t 1 ∧ (secOf (bt t 0)).2 < bt t 1)))))) (w : World) :
    Calls Try.prog 54 #[.string t] w fun e w' => e = .returned (seqR (seqV t)) ∧ w' = w := by
  have HV : Hz (seqV t = (0, 0)) := by
    rcases hx with hx | ⟨hs, hx⟩
    · exact hide (seqV_none t h hb hx)
    · refine hide (seqV_bad t h hb hs ?_)
      rcases hx with hx | ⟨_, hx | ⟨_, hx⟩⟩
      · exact .inl hx
      · exact .inr (.inl hx)
      · exact .inr (.inr (.inl hx))
  unfold maxLen at ht
  have hg := bt_get t 0 h
  obtain ⟨b0, e0⟩ : ∃ b0, (t[0]'h).toNat = b0 := ⟨_, rfl⟩
  rw [hg, e0] at hx hb
  have h' : ((t.size : Int) == 0) = false := beq_eq_false_iff_ne.2 (by omega)
  have hb' : decide ((b0 : Int) < 128) = false := decide_eq_false (by omega)
  have HC := hide (second_any b0)
  obtain ⟨lo, hlo⟩ : ∃ lo, (secOf b0).1 = lo := ⟨_, rfl⟩
  obtain ⟨hi, hhi⟩ : ∃ hi, (secOf b0).2 = hi := ⟨_, rfl⟩
  rw [hlo, hhi] at HC hx
  clear hlo hhi hg
  rcases hx with rfl | ⟨hs, hx⟩
  · go_enter Try.func54, Try.ntmps54
    go_wp2_with fail
    refine (unhide HC _).mono ?_
    rintro e w1 ⟨rfl, rfl⟩
    go_wp2
    go_ret2
    exact ⟨by rw [unhide HV]; rfl, rfl⟩
  · have hs' : ((lo : Int) == 0) = false := beq_eq_false_iff_ne.2 (by omega)
    rcases hx with hx | ⟨h2, hx⟩
    · have hx' : decide ((t.size : Int) < 2) = true := decide_eq_true (by omega)
      clear hs
      go_enter Try.func54, Try.ntmps54
      go_wp2_with fail
      refine (unhide HC _).mono ?_
      rintro e w1 ⟨rfl, rfl⟩
      go_wp2
      go_ret2
      exact ⟨by rw [unhide HV]; rfl, rfl⟩
    · have hg1 := bt_get t 1 h2
      obtain ⟨b1, e1⟩ : ∃ b1, (t[1]'h2).toNat = b1 := ⟨_, rfl⟩
      rw [hg1, e1] at hx
      have h2' : decide ((t.size : Int) < 2) = false := decide_eq_false (by omega)
      have h3' : (1 : Int) < t.size := by omega
      rcases hx with hx | ⟨hx1, hx2⟩
      · have hx' : decide (b1 < lo) = true := decide_eq_true (by omega)
        clear hs hg1
        go_enter Try.func54, Try.ntmps54
        go_wp2_with fail
        refine (unhide HC _).mono ?_
        rintro e w1 ⟨rfl, rfl⟩
        go_wp2
        go_ret2
        exact ⟨by rw [unhide HV]; rfl, rfl⟩
      · have hx' : decide (b1 < lo) = false := decide_eq_false (by omega)
        have hx'' : decide (hi < b1) = true := decide_eq_true (by omega)
        clear hs hg1
        have hx1n : ¬ b1 < lo := by omega
        go_enter Try.func54, Try.ntmps54
        go_wp2_with fail
        refine (unhide HC _).mono ?_
        rintro e w1 ⟨rfl, rfl⟩
        go_wp2
        go_ret2
        exact ⟨by rw [unhide HV]; rfl, rfl⟩
/-- A bound for the rune's bits. -/
def bndOf (k : Nat) : Nat := if k = 1 then 32 else if k = 2 then 2048 else if k = 3 then 131072 else 8388608
theorem bnd_step (k A c : Nat) (h1 : 1 ≤ k) (h4 : k < 4) (hA : A < bndOf k) : A < 33554432 ∧ A * 64 + c % 64 < bndOf (k + 1) := by
  have : k = 1 ∨ k = 2 ∨ k = 3 := by omega
  rcases this with rfl | rfl | rfl <;> simp [bndOf] at hA ⊢ <;> omega
theorem step_bits (A c : Nat) (hA : A < 33554432) : bits BinOp.or IntKind.i32 (wrap32 (↑A * 64)) (↑c % 64) = ((A * 64 + c % 64 : Nat) : Int) := by
  rw [show wrap32 ((A : Int) * 64) = (A : Int) * 64 by unfold wrap32; omega]
  have h := i32_or6 ((A : Int) * 64) ((c : Int) % 64) (by omega) (by omega) (by omega) (by omega) (by omega)
  rw [h]
  omega

theorem and7 (b : Nat) (h : b < 256) : bits BinOp.and IntKind.u8 (b : Int) 7 = (b : Int) % 8 := by
  have e := u8_and_nat b 7 h (by omega)
  rw [show ((7 : Nat) : Int) = 7 from rfl] at e
  rw [e, show (7 : Nat) = 2 ^ 3 - 1 from rfl, Nat.and_two_pow_sub_one_eq_mod]
  omega

set_option maxRecDepth 100000 in
set_option maxHeartbeats 4000000 in
theorem seq_loop2 (t : ByteArray) (ht : t.size ≤ maxLen) (h2 : 2 ≤ t.size) (hb : 128 ≤ bt t 0) (hq : bt t 0 < 224) (hs : (secOf (bt t 0)).1 ≠ 0) (hx1 : (secOf (bt t 0)).1 ≤ bt t 1) (hx2 : bt t 1 ≤ (secOf (bt t 0)).2) (w : World) :
    Calls Try.prog 54 #[.string t] w fun e w' => e = .returned (seqR (seqV t)) ∧ w' = w := by
  have h : 0 < t.size := by omega
  have hz : szOf (bt t 0) = 2 := by
    unfold szOf; repeat' split
    all_goals omega
  have hl1 : accOf t 1 = bt t 0 % 32 := by
    show leadOf (bt t 0) = _
    unfold leadOf; repeat' split
    all_goals omega
  have hGG := seqV_good t h hb hs hx1 hx2
  have hBB := fun k h1 h2 h3 => seqV_bad t h hb hs (.inr (.inr (.inr ⟨k, h1, h2, h3⟩)))
  rw [hz] at hGG hBB
  have HG := hide hGG
  have HB := hide hBB
  clear hGG hBB hz
  unfold maxLen at ht
  have hg := bt_get t 0 h
  obtain ⟨b0, e0⟩ : ∃ b0, (t[0]'h).toNat = b0 := ⟨_, rfl⟩
  have hg1 := bt_get t 1 h2
  obtain ⟨b1, e1⟩ : ∃ b1, (t[1]'h2).toNat = b1 := ⟨_, rfl⟩
  rw [hg, e0] at hb hs hx1 hx2 hl1 hq
  rw [hg1, e1] at hx1 hx2
  have HL := hide hl1
  have h' : ((t.size : Int) == 0) = false := beq_eq_false_iff_ne.2 (by omega)
  have hb' : decide ((b0 : Int) < 128) = false := decide_eq_false (by omega)
  have HC := hide (second_any b0)
  obtain ⟨lo, hlo⟩ : ∃ lo, (secOf b0).1 = lo := ⟨_, rfl⟩
  obtain ⟨hi, hhi⟩ : ∃ hi, (secOf b0).2 = hi := ⟨_, rfl⟩
  rw [hlo] at HC hx1 hs
  rw [hhi] at HC hx2
  have hs' : ((lo : Int) == 0) = false := beq_eq_false_iff_ne.2 (by omega)
  have h2' : decide ((t.size : Int) < 2) = false := decide_eq_false (by omega)
  have h3' : (1 : Int) < t.size := by omega
  have hx' : decide (b1 < lo) = false := decide_eq_false (by omega)
  have hx'' : decide (hi < b1) = false := decide_eq_false (by omega)
  have hx1n : ¬ b1 < lo := by omega
  have hx2n : ¬ hi < b1 := by omega
  have hq1 : (b0 : Int) < 224 := by omega
  clear hs hx1 hx2 hg1 hg hlo hhi hl1 hq
  go_enter Try.func54, Try.ntmps54
  go_wp2_with fail
  refine (unhide HC _).mono ?_
  rintro e w1 ⟨rfl, rfl⟩
  go_wp2_with fail
  go_loop [8, 9] (fun r i => ∃ k : Nat, 1 ≤ k ∧ k ≤ 2 ∧ i = .int .i64 k ∧ r = .int .i32 (accOf t k) ∧ Hz (Goes t k) ∧ Hz (accOf t k < bndOf k)) (fun _ i => 2 - (intOf i).toNat)
  case atStart => exact ⟨1, by omega, by omega, rfl, by rw [unhide HL]; rfl, hide (fun j h1 h2 => by omega), hide (by rw [unhide HL]; show _ < 32; omega)⟩
  case round =>
    obtain ⟨k, hk1, hk2, rfl, rfl, HGo, HA⟩ := hrel
    by_cases hkz : k < 2
    · have hkz' : (k : Int) < 2 := by omega
      by_cases hkn : k < t.size
      · have hgk := bt_get t k hkn
        obtain ⟨c, ec⟩ : ∃ c, (t[k]'hkn).toNat = c := ⟨_, rfl⟩
        have hst := acc_step t k hk1
        rw [ec] at hgk
        rw [hgk] at hst
        have hA := unhide HA
        generalize accOf t k = A at hst hA
        have HST := hide hst
        have HGK := hide hgk
        have HBS := hide (bnd_step k A c hk1 (by omega) hA)
        clear hgk hst HA hA
        have hkn' : decide ((t.size : Int) ≤ k) = false := decide_eq_false (by omega)
        have hkn2 : (k : Int) < t.size := by omega
        by_cases hc1 : c < 128
        · have hc1' : decide ((c : Int) < 128) = true := decide_eq_true (by omega)
          go_wp2
          go_ret2
          exact ⟨by rw [unhide HB k hk1 hkz (.inr (.inl (by rw [unhide HGK]; exact hc1)))]; rfl, rfl⟩
        · have hc1' : decide ((c : Int) < 128) = false := decide_eq_false (by omega)
          by_cases hc2 : 191 < c
          · have hc2' : decide ((191 : Int) < c) = true := decide_eq_true (by omega)
            go_wp2
            go_ret2
            exact ⟨by rw [unhide HB k hk1 hkz (.inr (.inr (by rw [unhide HGK]; exact hc2)))]; rfl, rfl⟩
          · have hc2' : decide ((191 : Int) < c) = false := decide_eq_false (by omega)
            go_wp2
            go_round
            case rel =>
              refine ⟨k + 1, by omega, by omega, by go_num, ?_, hide (fun j h1 h2 => ?_), hide ?_⟩
              · rw [unhide HST, step_bits A c (unhide HBS).1]
              · by_cases e : j = k
                · subst e; rw [unhide HGK]; omega
                · exact unhide HGo j h1 (by omega)
              · rw [unhide HST]; exact (unhide HBS).2
            case measure => simp [intOf]; omega
      · have hkn' : decide ((t.size : Int) ≤ k) = true := decide_eq_true (by omega)
        go_wp2
        go_ret2
        exact ⟨by rw [unhide HB k hk1 hkz (.inl (by omega))]; rfl, rfl⟩
    · have hkz' : ¬ (k : Int) < 2 := by omega
      obtain rfl : k = 2 := by omega
      go_wp2
      go_ret2
      exact ⟨by rw [unhide HG (unhide HGo)]; rfl, rfl⟩

set_option maxRecDepth 100000 in
set_option maxHeartbeats 4000000 in
theorem seq_loop3 (t : ByteArray) (ht : t.size ≤ maxLen) (h2 : 2 ≤ t.size) (hb : 128 ≤ bt t 0) (hq : 224 ≤ bt t 0 ∧ bt t 0 < 240) (hs : (secOf (bt t 0)).1 ≠ 0) (hx1 : (secOf (bt t 0)).1 ≤ bt t 1) (hx2 : bt t 1 ≤ (secOf (bt t 0)).2) (w : World) :
    Calls Try.prog 54 #[.string t] w fun e w' => e = .returned (seqR (seqV t)) ∧ w' = w := by
  have h : 0 < t.size := by omega
  have hz : szOf (bt t 0) = 3 := by
    unfold szOf; repeat' split
    all_goals omega
  have hl1 : accOf t 1 = bt t 0 % 16 := by
    show leadOf (bt t 0) = _
    unfold leadOf; repeat' split
    all_goals omega
  have hGG := seqV_good t h hb hs hx1 hx2
  have hBB := fun k h1 h2 h3 => seqV_bad t h hb hs (.inr (.inr (.inr ⟨k, h1, h2, h3⟩)))
  rw [hz] at hGG hBB
  have HG := hide hGG
  have HB := hide hBB
  clear hGG hBB hz
  unfold maxLen at ht
  have hg := bt_get t 0 h
  obtain ⟨b0, e0⟩ : ∃ b0, (t[0]'h).toNat = b0 := ⟨_, rfl⟩
  have hg1 := bt_get t 1 h2
  obtain ⟨b1, e1⟩ : ∃ b1, (t[1]'h2).toNat = b1 := ⟨_, rfl⟩
  rw [hg, e0] at hb hs hx1 hx2 hl1 hq
  rw [hg1, e1] at hx1 hx2
  have HL := hide hl1
  have h' : ((t.size : Int) == 0) = false := beq_eq_false_iff_ne.2 (by omega)
  have hb' : decide ((b0 : Int) < 128) = false := decide_eq_false (by omega)
  have HC := hide (second_any b0)
  obtain ⟨lo, hlo⟩ : ∃ lo, (secOf b0).1 = lo := ⟨_, rfl⟩
  obtain ⟨hi, hhi⟩ : ∃ hi, (secOf b0).2 = hi := ⟨_, rfl⟩
  rw [hlo] at HC hx1 hs
  rw [hhi] at HC hx2
  have hs' : ((lo : Int) == 0) = false := beq_eq_false_iff_ne.2 (by omega)
  have h2' : decide ((t.size : Int) < 2) = false := decide_eq_false (by omega)
  have h3' : (1 : Int) < t.size := by omega
  have hx' : decide (b1 < lo) = false := decide_eq_false (by omega)
  have hx'' : decide (hi < b1) = false := decide_eq_false (by omega)
  have hx1n : ¬ b1 < lo := by omega
  have hx2n : ¬ hi < b1 := by omega
  have hq1 : (224 : Int) ≤ b0 := by omega
  have hq2 : (b0 : Int) < 240 := by omega
  clear hs hx1 hx2 hg1 hg hlo hhi hl1 hq
  go_enter Try.func54, Try.ntmps54
  go_wp2_with fail
  refine (unhide HC _).mono ?_
  rintro e w1 ⟨rfl, rfl⟩
  go_wp2_with fail
  go_loop [8, 9] (fun r i => ∃ k : Nat, 1 ≤ k ∧ k ≤ 3 ∧ i = .int .i64 k ∧ r = .int .i32 (accOf t k) ∧ Hz (Goes t k) ∧ Hz (accOf t k < bndOf k)) (fun _ i => 3 - (intOf i).toNat)
  case atStart => exact ⟨1, by omega, by omega, rfl, by rw [unhide HL]; rfl, hide (fun j h1 h2 => by omega), hide (by rw [unhide HL]; show _ < 32; omega)⟩
  case round =>
    obtain ⟨k, hk1, hk2, rfl, rfl, HGo, HA⟩ := hrel
    by_cases hkz : k < 3
    · have hkz' : (k : Int) < 3 := by omega
      by_cases hkn : k < t.size
      · have hgk := bt_get t k hkn
        obtain ⟨c, ec⟩ : ∃ c, (t[k]'hkn).toNat = c := ⟨_, rfl⟩
        have hst := acc_step t k hk1
        rw [ec] at hgk
        rw [hgk] at hst
        have hA := unhide HA
        generalize accOf t k = A at hst hA
        have HST := hide hst
        have HGK := hide hgk
        have HBS := hide (bnd_step k A c hk1 (by omega) hA)
        clear hgk hst HA hA
        have hkn' : decide ((t.size : Int) ≤ k) = false := decide_eq_false (by omega)
        have hkn2 : (k : Int) < t.size := by omega
        by_cases hc1 : c < 128
        · have hc1' : decide ((c : Int) < 128) = true := decide_eq_true (by omega)
          go_wp2
          go_ret2
          exact ⟨by rw [unhide HB k hk1 hkz (.inr (.inl (by rw [unhide HGK]; exact hc1)))]; rfl, rfl⟩
        · have hc1' : decide ((c : Int) < 128) = false := decide_eq_false (by omega)
          by_cases hc2 : 191 < c
          · have hc2' : decide ((191 : Int) < c) = true := decide_eq_true (by omega)
            go_wp2
            go_ret2
            exact ⟨by rw [unhide HB k hk1 hkz (.inr (.inr (by rw [unhide HGK]; exact hc2)))]; rfl, rfl⟩
          · have hc2' : decide ((191 : Int) < c) = false := decide_eq_false (by omega)
            go_wp2
            go_round
            case rel =>
              refine ⟨k + 1, by omega, by omega, by go_num, ?_, hide (fun j h1 h2 => ?_), hide ?_⟩
              · rw [unhide HST, step_bits A c (unhide HBS).1]
              · by_cases e : j = k
                · subst e; rw [unhide HGK]; omega
                · exact unhide HGo j h1 (by omega)
              · rw [unhide HST]; exact (unhide HBS).2
            case measure => simp [intOf]; omega
      · have hkn' : decide ((t.size : Int) ≤ k) = true := decide_eq_true (by omega)
        go_wp2
        go_ret2
        exact ⟨by rw [unhide HB k hk1 hkz (.inl (by omega))]; rfl, rfl⟩
    · have hkz' : ¬ (k : Int) < 3 := by omega
      obtain rfl : k = 3 := by omega
      go_wp2
      go_ret2
      exact ⟨by rw [unhide HG (unhide HGo)]; rfl, rfl⟩

end Go.Proofs.Ythjndkjbjflmfaa
