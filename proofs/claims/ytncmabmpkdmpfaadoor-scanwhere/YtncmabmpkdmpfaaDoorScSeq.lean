/- The reference's need and sequence. -/
import Derived.Test.YtncmabmpkdmpfaaDoorScSeqM
namespace Go.Proofs.YtncmabmpkdmpfaaDoor
open Go.RowKit Go.Shelf
set_option linter.unusedVariables false
/-- How a sequence goes on behind its first byte. -/
def needV (c : Nat) : Nat × Nat × Nat × Bool := if c < 128 then (0, 0, 0, true) else if (secOf c).1 = 0 then (0, 0, 0, false) else (szOf c - 1, (secOf c).1, (secOf c).2, true)
set_option maxRecDepth 100000 in
set_option maxHeartbeats 4000000 in
theorem need_any (c : Nat) (hc : c < 256) (w : World) : Calls Tryd.prog 31 #[.int .u8 c] w fun e w' => e = .returned (.tuple #[.int .i64 (needV c).1, .int .u8 (needV c).2.1, .int .u8 (needV c).2.2.1, .bool (needV c).2.2.2]) ∧ w' = w := by
  have hc : (c < 128 ∧ needV c = (0, 0, 0, true)) ∨ (128 ≤ c ∧ c < 194 ∧ needV c = (0, 0, 0, false)) ∨ (194 ≤ c ∧ c ≤ 223 ∧ needV c = (1, 128, 191, true)) ∨ (c = 224 ∧ needV c = (2, 160, 191, true)) ∨ (225 ≤ c ∧ c ≤ 236 ∧ needV c = (2, 128, 191, true)) ∨ (c = 237 ∧ needV c = (2, 128, 159, true)) ∨ (c = 238 ∧ needV c = (2, 128, 191, true)) ∨ (c = 239 ∧ needV c = (2, 128, 191, true)) ∨
      (c = 240 ∧ needV c = (3, 144, 191, true)) ∨ (241 ≤ c ∧ c ≤ 243 ∧ needV c = (3, 128, 191, true)) ∨ (c = 244 ∧ needV c = (3, 128, 143, true)) ∨ (245 ≤ c ∧ needV c = (0, 0, 0, false)) := by
    unfold needV secOf szOf
    repeat' split
    all_goals simp_all
    all_goals omega
  rcases hc with ⟨h, e⟩ | ⟨h, h', e⟩ | ⟨h, h', e⟩ | ⟨rfl, e⟩ | ⟨h, h', e⟩ | ⟨rfl, e⟩ | ⟨rfl, e⟩ | ⟨rfl, e⟩ | ⟨rfl, e⟩ | ⟨h, h', e⟩ | ⟨rfl, e⟩ | ⟨h, e⟩
  all_goals
    rw [e]; clear e
    go_enter Tryd.func31, Tryd.ntmps31
    go_wp2
    exact bodyPost_ret (v := .tuple #[_, _, _, _]) (by simp [results, Tryd.results31, go_sem]; first | done | exact ⟨rfl, rfl, rfl, rfl⟩) rfl ⟨rfl, rfl⟩
theorem and31 : ∀ b : Nat, b < 256 → bits BinOp.and IntKind.i32 (b : Int) 31 = ((b % 32 : Nat) : Int) := by decide +kernel
theorem and15c : ∀ b : Nat, b < 256 → bits BinOp.and IntKind.i32 (b : Int) 15 = ((b % 16 : Nat) : Int) := by decide +kernel
theorem and7c : ∀ b : Nat, b < 256 → bits BinOp.and IntKind.i32 (b : Int) 7 = ((b % 8 : Nat) : Int) := by decide +kernel
theorem and63 : ∀ b : Nat, b < 256 → bits BinOp.and IntKind.u8 (b : Int) 63 = ((b % 64 : Nat) : Int) := by decide +kernel
theorem step_add (A c : Nat) (hA : A < 33554432) (hc : c < 256) : wrap32 (wrap32 ((A : Int) * 64) + wrap32 (bits BinOp.and IntKind.u8 (c : Int) 63)) = ((A * 64 + c % 64 : Nat) : Int) := by
  rw [and63 c hc]
  unfold wrap32
  omega
abbrev seqR4 (a : Nat) (x : Nat × Nat × Bool) : Value := .tuple #[.int .i32 x.1, .int .i64 ((a + x.2.1 : Nat) : Int), .bool x.2.2]
theorem rst_bt (s : ByteArray) (a k : Nat) (h : a ≤ s.size) : bt (rst s a) k = bt s (a + k) := by unfold bt; rw [get_suffix s a k h]
set_option maxRecDepth 100000 in
set_option maxHeartbeats 4000000 in
theorem sequence_small (s : ByteArray) (hs : s.size ≤ 1099511627776) (a : Nat) (ha : a ≤ 1099511627776) (h : s.size ≤ a ∨ (a < s.size ∧ (bt s a < 128 ∨ (128 ≤ bt s a ∧ (secOf (bt s a)).1 = 0)))) (w : World) : Calls Tryd.prog 19 #[.string s, .int .i64 a] w fun e w' => e = .returned (seqR4 a (seq4V (rst s a))) ∧ w' = w := by
  rcases h with h | ⟨h, hx⟩
  · have HV := hide (seq4_end (t := rst s a) (by rw [rst_size]; omega))
    have h' : (s.size : Int) ≤ (a : Int) := by omega
    clear h
    go_enter Tryd.func19, Tryd.ntmps19
    go_wp2
    go_ret3
    exact ⟨by rw [unhide HV]; rfl, rfl⟩
  · have h' : ¬ (s.size : Int) ≤ (a : Int) := by omega
    have hl : (a : Int) < (s.size : Int) := by omega
    have hgb := bt_get s a h
    have hb0 : bt (rst s a) 0 = bt s a := rst_bt s a 0 (by omega)
    have hpos : 0 < (rst s a).size := by rw [rst_size]; omega
    have hlt := bt_lt s a
    obtain ⟨b, eb⟩ : ∃ b, (s[a]'h).toNat = b := ⟨_, rfl⟩
    rw [hgb, eb] at hx hb0 hlt
    have HC := hide (need_any b hlt)
    rcases hx with hx | ⟨hx, hs0⟩
    · have HV := hide (seq4_ascii hpos (by rw [hb0]; exact hx))
      rw [hb0] at HV
      have hn : needV b = (0, 0, 0, true) := by unfold needV; rw [if_pos hx]
      rw [hn] at HC
      clear hn hb0 hpos hgb
      go_enter Tryd.func19, Tryd.ntmps19
      go_wp2_with fail
      refine (unhide HC _).mono ?_
      rintro e w1 ⟨rfl, rfl⟩
      go_wp2_with fail
      refine wp_loop_rounds 1 ?_
      rw [rounds_succ]
      go_wp2_with fail
      go_ret3
      exact ⟨by rw [unhide HV]; rfl, rfl⟩
    · have HV := hide (seq4_none hpos (by rw [hb0]; exact hx) (by rw [hb0]; exact hs0))
      have hn : needV b = (0, 0, 0, false) := by unfold needV; rw [if_neg (by omega), if_pos hs0]
      rw [hn] at HC
      clear hn hb0 hpos hgb
      go_enter Tryd.func19, Tryd.ntmps19
      go_wp2_with fail
      refine (unhide HC _).mono ?_
      rintro e w1 ⟨rfl, rfl⟩
      go_wp2_with fail
      go_ret3
      exact ⟨by rw [unhide HV]; rfl, rfl⟩
set_option maxRecDepth 100000 in
set_option maxHeartbeats 8000000 in
theorem sequence_long (s : ByteArray) (hs : s.size ≤ 1099511627776) (a : Nat) (ha : a < s.size) (hx : (secOf (bt s a)).1 ≠ 0) (w : World) : Calls Tryd.prog 19 #[.string s, .int .i64 a] w fun e w' => e = .returned (seqR4 a (seq4V (rst s a))) ∧ w' = w := by
  have hb0 : bt (rst s a) 0 = bt s a := rst_bt s a 0 (by omega)
  have hpos : 0 < (rst s a).size := by rw [rst_size]; omega
  have hq := secOf_lo _ hx
  have hGG := seq4_good hpos (by rw [hb0]; exact hx)
  have hBB := fun k h1 h2 h3 h4 => seq4_bad hpos (by rw [hb0]; exact hx) k h1 h2 h3 h4
  have hgo : ∀ k, 1 ≤ k → good4 (rst s a) k = decide (a + k < s.size ∧ (if k = 1 then (secOf (bt s a)).1 else 128) ≤ bt s (a + k) ∧ bt s (a + k) ≤ (if k = 1 then (secOf (bt s a)).2 else 191)) := fun k hk => by
    unfold good4
    rw [hb0, rst_bt s a k (by omega)]
    congr 1
    rw [rst_size]
    apply propext
    constructor <;> intro h <;> exact ⟨by omega, h.2⟩
  have hac : ∀ k, 1 ≤ k → accOf (rst s a) (k + 1) = accOf (rst s a) k * 64 + bt s (a + k) % 64 := fun k hk => by rw [acc_step _ k hk, rst_bt s a k (by omega)]
  have ha1 : accOf (rst s a) 1 = leadOf (bt s a) := by show leadOf (bt (rst s a) 0) = _; rw [hb0]
  rw [hb0] at hGG hBB
  have hgb := bt_get s a ha
  have hlt := bt_lt s a
  have hsz : (szOf (bt s a) = 1 + 1 ∧ leadOf (bt s a) = bt s a % 32) ∨ (szOf (bt s a) = 2 + 1 ∧ leadOf (bt s a) = bt s a % 16) ∨ (szOf (bt s a) = 3 + 1 ∧ leadOf (bt s a) = bt s a % 8) := by
    unfold szOf leadOf; repeat' split
    all_goals simp
  have hnv : needV (bt s a) = (szOf (bt s a) - 1, (secOf (bt s a)).1, (secOf (bt s a)).2, true) := by unfold needV; rw [if_neg (by omega), if_neg hx]
  have HC := hide (need_any (bt s a) hlt)
  rw [hnv] at HC
  obtain ⟨lo, hlo⟩ : ∃ lo, (secOf (bt s a)).1 = lo := ⟨_, rfl⟩
  obtain ⟨hi, hhi⟩ : ∃ hi, (secOf (bt s a)).2 = hi := ⟨_, rfl⟩
  obtain ⟨z, hz⟩ : ∃ z, szOf (bt s a) = z := ⟨_, rfl⟩
  rw [hlo, hhi] at hgo hq HC
  rw [hz] at hsz HC hGG hBB
  clear hnv hb0 hpos hx hlo hhi hz
  obtain ⟨b, eb⟩ : ∃ b, (s[a]'ha).toNat = b := ⟨_, rfl⟩
  rw [hgb, eb] at hlt HC ha1 hsz
  have h' : ¬ (s.size : Int) ≤ (a : Int) := by omega
  have hl : (a : Int) < (s.size : Int) := by omega
  have HGG := hide hGG
  have HBB := hide hBB
  have HGO := hide hgo
  have HAC := hide hac
  clear hGG hBB hgo hac hgb
  have hlo2 : 128 ≤ lo ∧ lo ≤ 191 ∧ 128 ≤ hi ∧ hi ≤ 191 := by omega
  clear hq
  obtain ⟨N, rfl⟩ : ∃ N, z = N + 1 := ⟨z - 1, by omega⟩
  have hN : 1 ≤ N ∧ N ≤ 3 := by omega
  have HINI : Hz (accOf (rst s a) 1 < 32) := hide (by omega)
  simp only [Nat.add_sub_cancel] at HC
  rcases hsz with ⟨hz, hl1⟩ | ⟨hz, hl1⟩ | ⟨hz, hl1⟩
  all_goals
    rw [hl1] at ha1
    have n1 : ((N : Int) == 1) = decide (N = 1) := by cases hd : decide (N = 1) <;> simp at hd ⊢ <;> omega
    have n2 : ((N : Int) == 2) = decide (N = 2) := by cases hd : decide (N = 2) <;> simp at hd ⊢ <;> omega
    have n3 : ((N : Int) == 3) = decide (N = 3) := by cases hd : decide (N = 3) <;> simp at hd ⊢ <;> omega
    first | rw [decide_eq_true (by omega)] at n1 | rw [decide_eq_false (by omega)] at n1
    first | rw [decide_eq_true (by omega)] at n2 | rw [decide_eq_false (by omega)] at n2
    first | rw [decide_eq_true (by omega)] at n3 | rw [decide_eq_false (by omega)] at n3
    have HA1 := hide ha1
    clear hl1 ha1 hz
    go_enter Tryd.func19, Tryd.ntmps19
    go_wp2_with fail
    refine (unhide HC _).mono ?_
    rintro e w1 ⟨rfl, rfl⟩
    go_wp2_with fail
    first | rw [and31 b hlt] | rw [and15c b hlt] | rw [and7c b hlt]
    rw [← unhide HA1]
    clear HA1 HC n1 n2 n3 hlo2 eb hlt hl h'
    go_loop [8, 9, 11, 12] (fun l h r i => ∃ K L H : Nat, 1 ≤ K ∧ K ≤ N + 1 ∧ i = .int .i64 K ∧ r = .int .i32 (accOf (rst s a) K) ∧ l = .int .u8 L ∧ h = .int .u8 H ∧ Hz (L = if K = 1 then lo else 128) ∧ Hz (H = if K = 1 then hi else 191) ∧ Hz (∀ j, 1 ≤ j → j < K → good4 (rst s a) j = true) ∧ Hz (accOf (rst s a) K < bndOf K)) (fun _ _ _ i => N + 1 - (intOf i).toNat)
    case atStart => exact ⟨1, lo, hi, by omega, by omega, rfl, rfl, rfl, rfl, hide rfl, hide rfl, hide (fun j h1 h2 => by omega), HINI⟩
    case round =>
      obtain ⟨K, L, H, hK1, hK2, rfl, rfl, rfl, rfl, HL, HH, HGo, HA⟩ := hrel
      have hgK := unhide HGO K hK1
      rw [← unhide HL, ← unhide HH] at hgK
      by_cases hkn : K ≤ N
      · have hkn' : (K : Int) ≤ (N : Int) := by omega
        by_cases hks : a + K < s.size
        · have hks' : ¬ (s.size : Int) ≤ (a : Int) + (K : Int) := by omega
          have hks2 : (a : Int) + (K : Int) < (s.size : Int) := by omega
          have hgc := bt_get s (a + K) hks
          obtain ⟨c, ec⟩ : ∃ c, (s[a + K]'hks).toNat = c := ⟨_, rfl⟩
          rw [hgc, ec] at hgK
          by_cases hc1 : c < L
          · have hc1' : decide (c < L) = true := decide_eq_true hc1
            have HV := hide (unhide HBB K hK1 (by omega) (unhide HGo) (by rw [hgK]; exact decide_eq_false (by omega)))
            clear hgK hgc
            go_wp2_with fail
            go_ret3
            exact ⟨by rw [unhide HV]; rfl, rfl⟩
          · have hc1' : ¬ c < L := hc1
            by_cases hc2 : H < c
            · have hc2' : decide (H < c) = true := decide_eq_true hc2
              have HV := hide (unhide HBB K hK1 (by omega) (unhide HGo) (by rw [hgK]; exact decide_eq_false (by omega)))
              clear hgK hgc
              go_wp2_with fail
              go_ret3
              exact ⟨by rw [unhide HV]; rfl, rfl⟩
            · have hst := unhide HAC K hK1
              have hcl := bt_lt s (a + K)
              rw [hgc, ec] at hst hcl
              have hA := unhide HA
              have hgd : good4 (rst s a) K = true := by rw [hgK]; exact decide_eq_true (by omega)
              have HGD := hide hgd
              generalize accOf (rst s a) K = A at hst hA
              have HST := hide hst
              have hbs := bnd_step K A c hK1 (by omega) hA
              have HBS := hide hbs
              have hcl' : Hz (c < 256) := hide hcl
              clear hgK hgc hst HA hA hgd hbs hcl hN
              go_wp2_with fail
              go_round
              case rel =>
                refine ⟨K + 1, 128, 191, by omega, by omega, by go_num, ?_, rfl, rfl, hide (by rw [if_neg (by omega)]), hide (by rw [if_neg (by omega)]), hide (fun j h1 h2 => ?_), hide ?_⟩
                · rw [unhide HST, step_add A c (unhide HBS).1 (unhide hcl')]
                · by_cases e : j = K
                  · subst e; exact unhide HGD
                  · exact unhide HGo j h1 (by omega)
                · rw [unhide HST]; exact (unhide HBS).2
              case measure => simp [intOf]; omega
        · have hks' : (s.size : Int) ≤ (a : Int) + (K : Int) := by omega
          have HV := hide (unhide HBB K hK1 (by omega) (unhide HGo) (by rw [hgK]; exact decide_eq_false (by omega)))
          clear hgK
          go_wp2_with fail
          go_ret3
          exact ⟨by rw [unhide HV]; rfl, rfl⟩
      · have hkn' : ¬ (K : Int) ≤ (N : Int) := by omega
        have hKN : K = N + 1 := by omega
        have HV : Hz (seq4V (rst s a) = (accOf (rst s a) K, N + 1, true)) := hide (by rw [hKN]; exact unhide HGG (fun j h1 h2 => unhide HGo j h1 (by omega)))
        clear hgK hKN
        go_wp2_with fail
        go_ret3
        exact ⟨by rw [unhide HV]; rfl, rfl⟩
end Go.Proofs.YtncmabmpkdmpfaaDoor
