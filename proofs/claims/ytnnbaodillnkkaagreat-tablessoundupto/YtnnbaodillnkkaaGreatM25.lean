/- Texts of this claim, one behind the other. -/
import Derived.Test.YtnnbaodillnkkaaGreatM24
import Derived.Sort.LotA
import Derived.Sort.LotB
/- partialInsertionSortOrdered at runes. -/
namespace Go.Proofs.YtnnbaodillnkkaaGreat
open Go.RowKit Go.Shelf
set_option linter.unusedVariables false
theorem ss_go {d : Array Int} {b i : Nat} (h : i < b) (hl : Sort.ltInt d[i]! d[i - 1]! = false) : Sort.scanSorted Sort.ltInt d b i = Sort.scanSorted Sort.ltInt d b (i + 1) := by
  rw [Sort.scanSorted, if_pos (by rw [hl]; simpa using h)]
theorem ss_stop {d : Array Int} {b i : Nat} (h : ¬ i < b ∨ Sort.ltInt d[i]! d[i - 1]! = true) : Sort.scanSorted Sort.ltInt d b i = i := by
  rw [Sort.scanSorted, if_neg (by
    intro e
    rcases Bool.and_eq_true_iff.1 e with ⟨e1, e2⟩
    have := of_decide_eq_true e1
    rcases h with h | h
    · omega
    · rw [h] at e2; exact absurd e2 (by decide))]
theorem dn_go {d : Array Int} {j : Nat} (h : 1 ≤ j) (hl : Sort.ltInt d[j]! d[j - 1]! = true) : Sort.shiftDown Sort.ltInt j d = Sort.shiftDown Sort.ltInt (j - 1) (Sort.swp d j (j - 1)) := by
  cases j with
  | zero => omega
  | succ k =>
    rw [Nat.add_sub_cancel] at hl ⊢
    show (if _ then _ else _) = _
    rw [if_neg (by rw [hl]; decide)]
theorem dn_stop {d : Array Int} {j : Nat} (h : ¬ 1 ≤ j ∨ Sort.ltInt d[j]! d[j - 1]! = false) : Sort.shiftDown Sort.ltInt j d = d := by
  cases j with
  | zero => rfl
  | succ k =>
    rw [Nat.add_sub_cancel] at h
    show (if _ then _ else _) = _
    rw [if_pos (by
      rcases h with h | h
      · omega
      · rw [h]; decide)]
theorem su_go {d : Array Int} {b j : Nat} (h : j < b) (hl : Sort.ltInt d[j]! d[j - 1]! = true) : Sort.shiftUp Sort.ltInt b j d = Sort.shiftUp Sort.ltInt b (j + 1) (Sort.swp d j (j - 1)) := by
  rw [Sort.shiftUp, if_pos h, if_neg (by rw [hl]; decide)]
theorem su_stop {d : Array Int} {b j : Nat} (h : ¬ j < b ∨ Sort.ltInt d[j]! d[j - 1]! = false) : Sort.shiftUp Sort.ltInt b j d = d := by
  rw [Sort.shiftUp]
  by_cases hb : j < b
  · rw [if_pos hb, if_pos (by
      rcases h with h | h
      · omega
      · rw [h]; decide)]
  · rw [if_neg hb]
theorem pI_true {a b m i : Nat} {d : Array Int} (hk : Sort.scanSorted Sort.ltInt d b i = b) : Sort.partialIns Sort.ltInt a b (m + 1) i d = (d, true) := by
  rw [Sort.partialIns]
  simp only [hk, if_true]
theorem pI_false {a b m i k : Nat} {d : Array Int} (hk : Sort.scanSorted Sort.ltInt d b i = k) (h1 : k ≠ b) (h2 : b - a < 50) : Sort.partialIns Sort.ltInt a b (m + 1) i d = (d, false) := by
  rw [Sort.partialIns]
  simp only [hk, if_neg h1, if_pos h2]
def dnD (a k : Nat) (d : Array Int) : Array Int := if k - a ≥ 2 then Sort.shiftDown Sort.ltInt (k - 1) d else d
def upSo (b k : Nat) (d : Array Int) : Array Int := if b - k ≥ 2 then Sort.shiftUp Sort.ltInt b (k + 1) d else d
theorem pI_next {a b m i k : Nat} {d : Array Int} (hk : Sort.scanSorted Sort.ltInt d b i = k) (h1 : k ≠ b) (h2 : ¬ b - a < 50) : Sort.partialIns Sort.ltInt a b (m + 1) i d = Sort.partialIns Sort.ltInt a b m k (upSo b k (dnD a k (Sort.swp d k (k - 1)))) := by
  rw [Sort.partialIns]
  simp only [hk, if_neg h1, if_neg h2]
  rfl
set_option maxRecDepth 100000 in
set_option maxHeartbeats 16000000 in
theorem so_partial (blk off cap a b N : Nat) (d : Array Int) (hN : d.size = N) (hab : a < b) (hb : b ≤ N) (hsz : N ≤ 1000000) (w : World) (hH : Sort.Holds (Value.int .i32) w blk off d) :
    Calls Tryz.prog 131 #[.slice (some ⟨blk, off, none⟩) N cap, .int .i64 a, .int .i64 b] w fun e w' => e = .returned (.bool (Sort.partialInsertionSort Sort.ltInt d a b).2) ∧ SoAt w w' blk off (Sort.partialInsertionSort Sort.ltInt d a b).1 := by
  have HS := hide (SoAt.start hH)
  have HN := hide hN
  obtain ⟨R, hR⟩ : ∃ R, R = Sort.partialInsertionSort Sort.ltInt d a b := ⟨_, rfl⟩
  rw [← hR]
  have HR := hide (show Sort.partialIns Sort.ltInt a b 5 (a + 1) d = R by rw [hR]; rfl)
  clear hH hN hR
  go_enter Tryz.func131, Tryz.ntmps131
  go_wp2_with fail
  go_loopw [7, 8] (fun vi vs wr => ∃ (i s : Nat) (dk0 : Array Int), vi = .int .i64 i ∧ vs = .int .i64 s ∧ s ≤ 5 ∧ a < i ∧ i ≤ b ∧ Hz (dk0.size = N ∧ SoAt w wr blk off dk0 ∧ Sort.partialIns Sort.ltInt a b (5 - s) i dk0 = R)) (fun vi vs _ => 5 - (intOf vs).toNat)
  case atStart => exact ⟨a + 1, 0, d, by go_num, rfl, by omega, by omega, by omega, hide ⟨unhide HN, unhide HS, unhide HR⟩⟩
  case round =>
    clear HS HR
    obtain ⟨i, s, dk0, rfl, rfl, hs, hai, hib, HI⟩ := hrel
    have HZ := hide (unhide HI).1
    have HA := hide (unhide HI).2.1
    have HE := hide (unhide HI).2.2
    clear HI
    by_cases hs5 : s < 5
    · have hs5' : (s : Int) < 5 := by omega
      rw [show 5 - s = 4 - s + 1 by omega] at HE
      go_wp2_with fail
      go_loopw [7] (fun vi wr => ∃ (k : Nat), vi = .int .i64 k ∧ i ≤ k ∧ k ≤ b ∧ Hz (SoAt w wr blk off dk0 ∧ Sort.scanSorted Sort.ltInt dk0 b i = Sort.scanSorted Sort.ltInt dk0 b k)) (fun vi _ => b - (intOf vi).toNat)
      case atStart => exact ⟨i, rfl, Nat.le_refl _, hib, hide ⟨unhide HA, rfl⟩⟩
      case round =>
        clear HA
        obtain ⟨k, rfl, hik, hkb, HI⟩ := hrel
        have HA := hide (unhide HI).1
        have HK := hide (unhide HI).2
        clear HI
        obtain ⟨G, hG, hc, hf⟩ := (unhide HA).cells N (unhide HZ)
        have HG := hide hG
        clear hG
        go_wp2_with fail
        by_cases hlt : k < b
        · have hlt' : (k : Int) < (b : Int) := by omega
          cases hl : Sort.ltInt (G k) (G (k - 1)) with
          | false =>
            go_big_quiet (first | (go_at_call 132; refine Calls.quiet_of_same (less32 _ _ _)))
            go_wp2_with fail
            go_roundw
            case rel => exact ⟨k + 1, by go_num, by omega, by omega, hide ⟨(unhide HA).drewN _, by rw [unhide HK, ss_go hlt (by rw [← unhide HG, ← unhide HG]; exact hl)]⟩⟩
            case measure => simp [intOf]; omega
          | true =>
            have hne : ((k : Int) == (b : Int)) = false := beq_eq_false_iff_ne.2 (by omega)
            have HK2 : Hz (Sort.scanSorted Sort.ltInt dk0 b i = k) := hide (by rw [unhide HK, ss_stop (.inr (by rw [← unhide HG, ← unhide HG]; exact hl))])
            by_cases h50 : b < a + 50
            · have h50' : (b : Int) - (a : Int) < 50 := by omega
              go_big_quiet (first | (go_at_call 132; refine Calls.quiet_of_same (less32 _ _ _)))
              go_wp2_with fail
              go_ret
              exact ⟨by rw [← unhide HE, pI_false (unhide HK2) (by omega) (by omega)]; rfl, by rw [← unhide HE, pI_false (unhide HK2) (by omega) (by omega)]; exact (unhide HA).drewN _⟩
            · have h50' : ¬ (b : Int) - (a : Int) < 50 := by omega
              go_big_quiet (first | (go_at_call 132; refine Calls.quiet_of_same (less32 _ _ _)))
              go_wp2_with fail
              have HA1 : Hz (SoAt w (wr.drewN nq) blk off dk0) := hide ((unhide HA).drewN nq)
              clear HK hl hc hf HA HG
              generalize wr.drewN nq = W1 at *
              clear nq
              rw [pI_next (unhide HK2) (by omega) (by omega)] at HE
              obtain ⟨G, hG, hc, hf⟩ := (unhide HA1).cells N (unhide HZ)
              have hm1 := mid_cell hc (i := k) (j := k - 1) (by omega) (by omega)
              have hm2 := mid_frozen (G := G) hf (i := k) (j := k - 1) (by omega)
              have hA2 := (unhide HA1).drew.swap (i := k) (j := k - 1) (by have := unhide HZ; omega) (by have := unhide HZ; omega)
              rw [← hG, ← hG] at hA2
              have HA2 := hide hA2
              clear hG hA2
              clear HA1
              have HZ3 := hide (show (Sort.swp dk0 k (k - 1)).size = N by rw [size_swp']; exact unhide HZ)
              by_cases h2 : a + 2 ≤ k
              · have h2' : (2 : Int) ≤ (k : Int) - (a : Int) := by omega
                by_cases h3 : k + 2 ≤ b
                · have h3' : (2 : Int) ≤ (b : Int) - (k : Int) := by omega
                  go_region
                  all_goals go_wp2_with fail
                  clear HZ hm1 hm2 hc hf
                  have HZ := HZ3
                  have HA := HA2
                  clear HZ3 HA2
                  go_loopw [9] (fun vj wr => ∃ (j : Nat) (dn : Array Int), vj = .int .i64 j ∧ j ≤ k - 1 ∧ Hz (dn.size = N ∧ SoAt w wr blk off dn ∧ Sort.shiftDown Sort.ltInt j dn = dnD a k (Sort.swp dk0 k (k - 1)))) (fun vj _ => (intOf vj).toNat)
                  case atStart => exact ⟨k - 1, Sort.swp dk0 k (k - 1), by congr 1; omega, Nat.le_refl _, hide ⟨unhide HZ, unhide HA, by unfold dnD; rw [if_pos (by omega)]⟩⟩
                  case round =>
                    clear HZ HA
                    obtain ⟨j, dn, rfl, hj1, HI⟩ := hrel
                    have HZ := hide (unhide HI).1
                    have HA := hide (unhide HI).2.1
                    have HU := hide (unhide HI).2.2
                    clear HI
                    obtain ⟨G, hG, hc, hf⟩ := (unhide HA).cells N (unhide HZ)
                    have HG := hide hG
                    clear hG
                    by_cases hjb : 1 ≤ j
                    · have hjb' : (1 : Int) ≤ (j : Int) := by omega
                      cases hl : Sort.ltInt (G j) (G (j - 1)) with
                      | true =>
                        go_wp2_with fail
                        go_big_quiet (first | (go_at_call 132; refine Calls.quiet_of_same (less32 _ _ _)))
                        go_wp2_with fail
                        have HA1 : Hz (SoAt w (wr.drewN nq) blk off dn) := hide ((unhide HA).drewN nq)
                        have HL := hide (show Sort.ltInt dn[j]! dn[j - 1]! = true by rw [← unhide HG, ← unhide HG]; exact hl)
                        clear hc hf HA HG hl
                        generalize wr.drewN nq = W1 at *
                        clear nq
                        obtain ⟨G, hG, hc, hf⟩ := (unhide HA1).cells N (unhide HZ)
                        have hm1 := mid_cell hc (i := j) (j := j - 1) (by omega) (by omega)
                        have hm2 := mid_frozen (G := G) hf (i := j) (j := j - 1) (by omega)
                        have hA2 := (unhide HA1).drew.swap (i := j) (j := j - 1) (by have := unhide HZ; omega) (by have := unhide HZ; omega)
                        rw [← hG, ← hG] at hA2
                        have HA2 := hide hA2
                        clear hG hA2
                        clear HA1
                        go_region
                        all_goals go_wp2_with fail
                        go_roundw
                        case rel => exact ⟨j - 1, Sort.swp dn j (j - 1), by congr 1; omega, by omega, hide ⟨by rw [size_swp']; exact unhide HZ, unhide HA2, by rw [← dn_go hjb (unhide HL)]; exact unhide HU⟩⟩
                        case measure => simp [intOf]; omega
                      | false =>
                        go_wp2_with fail
                        go_big_quiet (first | (go_at_call 132; refine Calls.quiet_of_same (less32 _ _ _)))
                        go_wp2_with fail
                        have HD : Hz (dnD a k (Sort.swp dk0 k (k - 1)) = dn) := hide (by rw [← unhide HU, dn_stop (.inr (by rw [← unhide HG, ← unhide HG]; exact hl))])
                        have HA1 : Hz (SoAt w (wr.drewN nq) blk off dn) := hide ((unhide HA).drewN nq)
                        clear HA
                        have HA := HA1
                        clear hc hf HG hl HU HA1
                        generalize wr.drewN nq = W3 at *
                        clear nq
                        go_loopw [10] (fun vj wr => ∃ (j : Nat) (du : Array Int), vj = .int .i64 j ∧ k + 1 ≤ j ∧ j ≤ b ∧ Hz (du.size = N ∧ SoAt w wr blk off du ∧ Sort.shiftUp Sort.ltInt b j du = upSo b k (dnD a k (Sort.swp dk0 k (k - 1))))) (fun vj _ => b - (intOf vj).toNat)
                        case atStart => exact ⟨k + 1, dn, by go_num, by omega, by omega, hide ⟨unhide HZ, unhide HA, by rw [unhide HD]; unfold upSo; rw [if_pos (by omega)]⟩⟩
                        case round =>
                          clear HZ HA HD
                          obtain ⟨j, du, rfl, hj1, hj2, HI⟩ := hrel
                          have HZ := hide (unhide HI).1
                          have HA := hide (unhide HI).2.1
                          have HU := hide (unhide HI).2.2
                          clear HI
                          obtain ⟨G, hG, hc, hf⟩ := (unhide HA).cells N (unhide HZ)
                          have HG := hide hG
                          clear hG
                          by_cases hjb : j < b
                          · have hjb' : (j : Int) < (b : Int) := by omega
                            cases hl : Sort.ltInt (G j) (G (j - 1)) with
                            | true =>
                              go_wp2_with fail
                              go_big_quiet (first | (go_at_call 132; refine Calls.quiet_of_same (less32 _ _ _)))
                              go_wp2_with fail
                              have HA1 : Hz (SoAt w (wr.drewN nq) blk off du) := hide ((unhide HA).drewN nq)
                              have HL := hide (show Sort.ltInt du[j]! du[j - 1]! = true by rw [← unhide HG, ← unhide HG]; exact hl)
                              clear hc hf HA HG hl
                              generalize wr.drewN nq = W1 at *
                              clear nq
                              obtain ⟨G, hG, hc, hf⟩ := (unhide HA1).cells N (unhide HZ)
                              have hm1 := mid_cell hc (i := j) (j := j - 1) (by omega) (by omega)
                              have hm2 := mid_frozen (G := G) hf (i := j) (j := j - 1) (by omega)
                              have hA2 := (unhide HA1).drew.swap (i := j) (j := j - 1) (by have := unhide HZ; omega) (by have := unhide HZ; omega)
                              rw [← hG, ← hG] at hA2
                              have HA2 := hide hA2
                              clear hG hA2
                              clear HA1
                              go_region
                              all_goals go_wp2_with fail
                              go_roundw
                              case rel => exact ⟨j + 1, Sort.swp du j (j - 1), by go_num, by omega, by omega, hide ⟨by rw [size_swp']; exact unhide HZ, unhide HA2, by rw [← su_go hjb (unhide HL)]; exact unhide HU⟩⟩
                              case measure => simp [intOf]; omega
                            | false =>
                              go_wp2_with fail
                              go_big_quiet (first | (go_at_call 132; refine Calls.quiet_of_same (less32 _ _ _)))
                              go_wp2_with fail
                              have HD : Hz (upSo b k (dnD a k (Sort.swp dk0 k (k - 1))) = du) := hide (by rw [← unhide HU, su_stop (.inr (by rw [← unhide HG, ← unhide HG]; exact hl))])
                              have HA1 : Hz (SoAt w (wr.drewN nq) blk off du) := hide ((unhide HA).drewN nq)
                              clear HA
                              have HA := HA1
                              clear hc hf HG hl HU HA1
                              go_roundw
                              case rel => exact ⟨k, s + 1, du, rfl, by go_num, by omega, by omega, by omega, hide ⟨unhide HZ, unhide HA, by rw [show 5 - (s + 1) = 4 - s by omega, ← unhide HD]; exact unhide HE⟩⟩
                              case measure => simp [intOf]; omega
                          · have hjb' : ¬ (j : Int) < (b : Int) := by omega
                            go_wp2_with fail
                            have HD : Hz (upSo b k (dnD a k (Sort.swp dk0 k (k - 1))) = du) := hide (by rw [← unhide HU, su_stop (.inl hjb)])
                            clear hc hf HG HU
                            go_roundw
                            case rel => exact ⟨k, s + 1, du, rfl, by go_num, by omega, by omega, by omega, hide ⟨unhide HZ, unhide HA, by rw [show 5 - (s + 1) = 4 - s by omega, ← unhide HD]; exact unhide HE⟩⟩
                            case measure => simp [intOf]; omega
                    · have hjb' : ¬ (1 : Int) ≤ (j : Int) := by omega
                      go_wp2_with fail
                      have HD : Hz (dnD a k (Sort.swp dk0 k (k - 1)) = dn) := hide (by rw [← unhide HU, dn_stop (.inl hjb)])
                      clear hc hf HG HU
                      go_loopw [10] (fun vj wr => ∃ (j : Nat) (du : Array Int), vj = .int .i64 j ∧ k + 1 ≤ j ∧ j ≤ b ∧ Hz (du.size = N ∧ SoAt w wr blk off du ∧ Sort.shiftUp Sort.ltInt b j du = upSo b k (dnD a k (Sort.swp dk0 k (k - 1))))) (fun vj _ => b - (intOf vj).toNat)
                      case atStart => exact ⟨k + 1, dn, by go_num, by omega, by omega, hide ⟨unhide HZ, unhide HA, by rw [unhide HD]; unfold upSo; rw [if_pos (by omega)]⟩⟩
                      case round =>
                        clear HZ HA HD
                        obtain ⟨j, du, rfl, hj1, hj2, HI⟩ := hrel
                        have HZ := hide (unhide HI).1
                        have HA := hide (unhide HI).2.1
                        have HU := hide (unhide HI).2.2
                        clear HI
                        obtain ⟨G, hG, hc, hf⟩ := (unhide HA).cells N (unhide HZ)
                        have HG := hide hG
                        clear hG
                        by_cases hjb : j < b
                        · have hjb' : (j : Int) < (b : Int) := by omega
                          cases hl : Sort.ltInt (G j) (G (j - 1)) with
                          | true =>
                            go_wp2_with fail
                            go_big_quiet (first | (go_at_call 132; refine Calls.quiet_of_same (less32 _ _ _)))
                            go_wp2_with fail
                            have HA1 : Hz (SoAt w (wr.drewN nq) blk off du) := hide ((unhide HA).drewN nq)
                            have HL := hide (show Sort.ltInt du[j]! du[j - 1]! = true by rw [← unhide HG, ← unhide HG]; exact hl)
                            clear hc hf HA HG hl
                            generalize wr.drewN nq = W1 at *
                            clear nq
                            obtain ⟨G, hG, hc, hf⟩ := (unhide HA1).cells N (unhide HZ)
                            have hm1 := mid_cell hc (i := j) (j := j - 1) (by omega) (by omega)
                            have hm2 := mid_frozen (G := G) hf (i := j) (j := j - 1) (by omega)
                            have hA2 := (unhide HA1).drew.swap (i := j) (j := j - 1) (by have := unhide HZ; omega) (by have := unhide HZ; omega)
                            rw [← hG, ← hG] at hA2
                            have HA2 := hide hA2
                            clear hG hA2
                            clear HA1
                            go_region
                            all_goals go_wp2_with fail
                            go_roundw
                            case rel => exact ⟨j + 1, Sort.swp du j (j - 1), by go_num, by omega, by omega, hide ⟨by rw [size_swp']; exact unhide HZ, unhide HA2, by rw [← su_go hjb (unhide HL)]; exact unhide HU⟩⟩
                            case measure => simp [intOf]; omega
                          | false =>
                            go_wp2_with fail
                            go_big_quiet (first | (go_at_call 132; refine Calls.quiet_of_same (less32 _ _ _)))
                            go_wp2_with fail
                            have HD : Hz (upSo b k (dnD a k (Sort.swp dk0 k (k - 1))) = du) := hide (by rw [← unhide HU, su_stop (.inr (by rw [← unhide HG, ← unhide HG]; exact hl))])
                            have HA1 : Hz (SoAt w (wr.drewN nq) blk off du) := hide ((unhide HA).drewN nq)
                            clear HA
                            have HA := HA1
                            clear hc hf HG hl HU HA1
                            go_roundw
                            case rel => exact ⟨k, s + 1, du, rfl, by go_num, by omega, by omega, by omega, hide ⟨unhide HZ, unhide HA, by rw [show 5 - (s + 1) = 4 - s by omega, ← unhide HD]; exact unhide HE⟩⟩
                            case measure => simp [intOf]; omega
                        · have hjb' : ¬ (j : Int) < (b : Int) := by omega
                          go_wp2_with fail
                          have HD : Hz (upSo b k (dnD a k (Sort.swp dk0 k (k - 1))) = du) := hide (by rw [← unhide HU, su_stop (.inl hjb)])
                          clear hc hf HG HU
                          go_roundw
                          case rel => exact ⟨k, s + 1, du, rfl, by go_num, by omega, by omega, by omega, hide ⟨unhide HZ, unhide HA, by rw [show 5 - (s + 1) = 4 - s by omega, ← unhide HD]; exact unhide HE⟩⟩
                          case measure => simp [intOf]; omega
                · have h3' : ¬ (2 : Int) ≤ (b : Int) - (k : Int) := by omega
                  go_region
                  all_goals go_wp2_with fail
                  clear HZ hm1 hm2 hc hf
                  have HZ := HZ3
                  have HA := HA2
                  clear HZ3 HA2
                  go_loopw [9] (fun vj wr => ∃ (j : Nat) (dn : Array Int), vj = .int .i64 j ∧ j ≤ k - 1 ∧ Hz (dn.size = N ∧ SoAt w wr blk off dn ∧ Sort.shiftDown Sort.ltInt j dn = dnD a k (Sort.swp dk0 k (k - 1)))) (fun vj _ => (intOf vj).toNat)
                  case atStart => exact ⟨k - 1, Sort.swp dk0 k (k - 1), by congr 1; omega, Nat.le_refl _, hide ⟨unhide HZ, unhide HA, by unfold dnD; rw [if_pos (by omega)]⟩⟩
                  case round =>
                    clear HZ HA
                    obtain ⟨j, dn, rfl, hj1, HI⟩ := hrel
                    have HZ := hide (unhide HI).1
                    have HA := hide (unhide HI).2.1
                    have HU := hide (unhide HI).2.2
                    clear HI
                    obtain ⟨G, hG, hc, hf⟩ := (unhide HA).cells N (unhide HZ)
                    have HG := hide hG
                    clear hG
                    by_cases hjb : 1 ≤ j
                    · have hjb' : (1 : Int) ≤ (j : Int) := by omega
                      cases hl : Sort.ltInt (G j) (G (j - 1)) with
                      | true =>
                        go_wp2_with fail
                        go_big_quiet (first | (go_at_call 132; refine Calls.quiet_of_same (less32 _ _ _)))
                        go_wp2_with fail
                        have HA1 : Hz (SoAt w (wr.drewN nq) blk off dn) := hide ((unhide HA).drewN nq)
                        have HL := hide (show Sort.ltInt dn[j]! dn[j - 1]! = true by rw [← unhide HG, ← unhide HG]; exact hl)
                        clear hc hf HA HG hl
                        generalize wr.drewN nq = W1 at *
                        clear nq
                        obtain ⟨G, hG, hc, hf⟩ := (unhide HA1).cells N (unhide HZ)
                        have hm1 := mid_cell hc (i := j) (j := j - 1) (by omega) (by omega)
                        have hm2 := mid_frozen (G := G) hf (i := j) (j := j - 1) (by omega)
                        have hA2 := (unhide HA1).drew.swap (i := j) (j := j - 1) (by have := unhide HZ; omega) (by have := unhide HZ; omega)
                        rw [← hG, ← hG] at hA2
                        have HA2 := hide hA2
                        clear hG hA2
                        clear HA1
                        go_region
                        all_goals go_wp2_with fail
                        go_roundw
                        case rel => exact ⟨j - 1, Sort.swp dn j (j - 1), by congr 1; omega, by omega, hide ⟨by rw [size_swp']; exact unhide HZ, unhide HA2, by rw [← dn_go hjb (unhide HL)]; exact unhide HU⟩⟩
                        case measure => simp [intOf]; omega
                      | false =>
                        go_wp2_with fail
                        go_big_quiet (first | (go_at_call 132; refine Calls.quiet_of_same (less32 _ _ _)))
                        go_wp2_with fail
                        have HD : Hz (dnD a k (Sort.swp dk0 k (k - 1)) = dn) := hide (by rw [← unhide HU, dn_stop (.inr (by rw [← unhide HG, ← unhide HG]; exact hl))])
                        have HA1 : Hz (SoAt w (wr.drewN nq) blk off dn) := hide ((unhide HA).drewN nq)
                        clear HA
                        have HA := HA1
                        clear hc hf HG hl HU HA1
                        generalize wr.drewN nq = W3 at *
                        clear nq
                        have HD2 : Hz (upSo b k (dnD a k (Sort.swp dk0 k (k - 1))) = dn) := hide (by rw [unhide HD]; unfold upSo; rw [if_neg (by omega)])
                        clear HD
                        have HD := HD2
                        clear HD2
                        go_roundw
                        case rel => exact ⟨k, s + 1, dn, rfl, by go_num, by omega, by omega, by omega, hide ⟨unhide HZ, unhide HA, by rw [show 5 - (s + 1) = 4 - s by omega, ← unhide HD]; exact unhide HE⟩⟩
                        case measure => simp [intOf]; omega
                    · have hjb' : ¬ (1 : Int) ≤ (j : Int) := by omega
                      go_wp2_with fail
                      have HD : Hz (dnD a k (Sort.swp dk0 k (k - 1)) = dn) := hide (by rw [← unhide HU, dn_stop (.inl hjb)])
                      clear hc hf HG HU
                      have HD2 : Hz (upSo b k (dnD a k (Sort.swp dk0 k (k - 1))) = dn) := hide (by rw [unhide HD]; unfold upSo; rw [if_neg (by omega)])
                      clear HD
                      have HD := HD2
                      clear HD2
                      go_roundw
                      case rel => exact ⟨k, s + 1, dn, rfl, by go_num, by omega, by omega, by omega, hide ⟨unhide HZ, unhide HA, by rw [show 5 - (s + 1) = 4 - s by omega, ← unhide HD]; exact unhide HE⟩⟩
                      case measure => simp [intOf]; omega
              · have h2' : ¬ (2 : Int) ≤ (k : Int) - (a : Int) := by omega
                by_cases h3 : k + 2 ≤ b
                · have h3' : (2 : Int) ≤ (b : Int) - (k : Int) := by omega
                  go_region
                  all_goals go_wp2_with fail
                  clear HZ hm1 hm2 hc hf
                  have HZ := HZ3
                  have HA := HA2
                  clear HZ3 HA2
                  have HD : Hz (dnD a k (Sort.swp dk0 k (k - 1)) = Sort.swp dk0 k (k - 1)) := hide (by unfold dnD; rw [if_neg (by omega)])
                  go_loopw [10] (fun vj wr => ∃ (j : Nat) (du : Array Int), vj = .int .i64 j ∧ k + 1 ≤ j ∧ j ≤ b ∧ Hz (du.size = N ∧ SoAt w wr blk off du ∧ Sort.shiftUp Sort.ltInt b j du = upSo b k (dnD a k (Sort.swp dk0 k (k - 1))))) (fun vj _ => b - (intOf vj).toNat)
                  case atStart => exact ⟨k + 1, (Sort.swp dk0 k (k - 1)), by go_num, by omega, by omega, hide ⟨unhide HZ, unhide HA, by rw [unhide HD]; unfold upSo; rw [if_pos (by omega)]⟩⟩
                  case round =>
                    clear HZ HA HD
                    obtain ⟨j, du, rfl, hj1, hj2, HI⟩ := hrel
                    have HZ := hide (unhide HI).1
                    have HA := hide (unhide HI).2.1
                    have HU := hide (unhide HI).2.2
                    clear HI
                    obtain ⟨G, hG, hc, hf⟩ := (unhide HA).cells N (unhide HZ)
                    have HG := hide hG
                    clear hG
                    by_cases hjb : j < b
                    · have hjb' : (j : Int) < (b : Int) := by omega
                      cases hl : Sort.ltInt (G j) (G (j - 1)) with
                      | true =>
                        go_wp2_with fail
                        go_big_quiet (first | (go_at_call 132; refine Calls.quiet_of_same (less32 _ _ _)))
                        go_wp2_with fail
                        have HA1 : Hz (SoAt w (wr.drewN nq) blk off du) := hide ((unhide HA).drewN nq)
                        have HL := hide (show Sort.ltInt du[j]! du[j - 1]! = true by rw [← unhide HG, ← unhide HG]; exact hl)
                        clear hc hf HA HG hl
                        generalize wr.drewN nq = W1 at *
                        clear nq
                        obtain ⟨G, hG, hc, hf⟩ := (unhide HA1).cells N (unhide HZ)
                        have hm1 := mid_cell hc (i := j) (j := j - 1) (by omega) (by omega)
                        have hm2 := mid_frozen (G := G) hf (i := j) (j := j - 1) (by omega)
                        have hA2 := (unhide HA1).drew.swap (i := j) (j := j - 1) (by have := unhide HZ; omega) (by have := unhide HZ; omega)
                        rw [← hG, ← hG] at hA2
                        have HA2 := hide hA2
                        clear hG hA2
                        clear HA1
                        go_region
                        all_goals go_wp2_with fail
                        go_roundw
                        case rel => exact ⟨j + 1, Sort.swp du j (j - 1), by go_num, by omega, by omega, hide ⟨by rw [size_swp']; exact unhide HZ, unhide HA2, by rw [← su_go hjb (unhide HL)]; exact unhide HU⟩⟩
                        case measure => simp [intOf]; omega
                      | false =>
                        go_wp2_with fail
                        go_big_quiet (first | (go_at_call 132; refine Calls.quiet_of_same (less32 _ _ _)))
                        go_wp2_with fail
                        have HD : Hz (upSo b k (dnD a k (Sort.swp dk0 k (k - 1))) = du) := hide (by rw [← unhide HU, su_stop (.inr (by rw [← unhide HG, ← unhide HG]; exact hl))])
                        have HA1 : Hz (SoAt w (wr.drewN nq) blk off du) := hide ((unhide HA).drewN nq)
                        clear HA
                        have HA := HA1
                        clear hc hf HG hl HU HA1
                        go_roundw
                        case rel => exact ⟨k, s + 1, du, rfl, by go_num, by omega, by omega, by omega, hide ⟨unhide HZ, unhide HA, by rw [show 5 - (s + 1) = 4 - s by omega, ← unhide HD]; exact unhide HE⟩⟩
                        case measure => simp [intOf]; omega
                    · have hjb' : ¬ (j : Int) < (b : Int) := by omega
                      go_wp2_with fail
                      have HD : Hz (upSo b k (dnD a k (Sort.swp dk0 k (k - 1))) = du) := hide (by rw [← unhide HU, su_stop (.inl hjb)])
                      clear hc hf HG HU
                      go_roundw
                      case rel => exact ⟨k, s + 1, du, rfl, by go_num, by omega, by omega, by omega, hide ⟨unhide HZ, unhide HA, by rw [show 5 - (s + 1) = 4 - s by omega, ← unhide HD]; exact unhide HE⟩⟩
                      case measure => simp [intOf]; omega
                · have h3' : ¬ (2 : Int) ≤ (b : Int) - (k : Int) := by omega
                  exfalso
                  omega
        · have hlt' : decide ((k : Int) < (b : Int)) = false := decide_eq_false (by omega)
          obtain rfl : k = b := by omega
          have hne : ((k : Int) == (k : Int)) = true := by simp
          have HK2 : Hz (Sort.scanSorted Sort.ltInt dk0 k i = k) := hide (by rw [unhide HK, ss_stop (.inl hlt)])
          go_big_quiet (first | (go_at_call 132; refine Calls.quiet_of_same (less32 _ _ _)))
          go_wp2_with fail
          go_ret
          exact ⟨by rw [← unhide HE, pI_true (unhide HK2)]; rfl, by rw [← unhide HE, pI_true (unhide HK2)]; exact (unhide HA).drewN _⟩
    · have hs5' : ¬ (s : Int) < 5 := by omega
      obtain rfl : s = 5 := by omega
      go_wp2_with fail
      go_ret
      exact ⟨by rw [← unhide HE]; rfl, by rw [← unhide HE]; exact unhide HA⟩
theorem ltI_t {x y : Int} (h : Sort.ltInt x y = true) : x < y := of_decide_eq_true h
theorem ltI_f {x y : Int} (h : Sort.ltInt x y = false) : y ≤ x := by have := of_decide_eq_false h; omega
theorem ltI_mk {x y : Int} (h : y ≤ x) : Sort.ltInt x y = false := decide_eq_false (by omega)
theorem swoI : Sort.SWO Sort.ltInt := ⟨fun x => ltI_mk (Int.le_refl _), fun x y z h1 h2 => decide_eq_true (by have := ltI_t h1; have := ltI_t h2; omega), fun x y z h1 h2 => ltI_mk (by have := ltI_f h1; have := ltI_f h2; omega)⟩
structure PdI (a0 b0 N : Nat) (d : Array Int) (a b : Nat) (dk : Array Int) : Prop where
  le : a ≤ b
  bN : b ≤ N
  size : dk.size = N
  bel : Sort.Below Sort.ltInt a b dk
  fin : ∀ d', Sort.PermIn a b dk d' → Sort.SortedIn Sort.ltInt a b d' → Sort.PermIn a0 b0 d d' ∧ Sort.SortedIn Sort.ltInt a0 b0 d'
theorem PdI.perm {a0 b0 N a b : Nat} {d dk dk' : Array Int} (h : PdI a0 b0 N d a b dk) (hp : Sort.PermIn a b dk dk') : PdI a0 b0 N d a b dk' :=
  ⟨h.le, h.bN, hp.1.trans h.size, h.bel.perm (by have := h.bN; have := h.size; omega) hp, fun d' h1 h2 => h.fin d' (Sort.permIn_trans _ _ _ _ _ hp h1) h2⟩
theorem PdI.eqs {a0 b0 N a b m pv : Nat} {d dk d2 : Array Int} (h : PdI a0 b0 N d a b dk) (ha : 0 < a) (hp1 : a ≤ pv) (hp2 : pv < b) (hl : Sort.ltInt dk[a - 1]! dk[pv]! = false) (he : EqOk a b m dk[pv]! dk d2) : PdI a0 b0 N d m b d2 := by
  have hN := h.bN
  have hz := h.size
  have hlow : ∀ t, a ≤ t → t < b → dk[pv]! ≤ d2[t]! := by
    have h1 : ∀ t, a ≤ t → t < b → dk[pv]! ≤ dk[t]! := fun t h1 h2 => by
      rcases h.bel with h0 | h0
      · omega
      · have := ltI_f (h0 t h1 h2)
        have := ltI_f hl
        omega
    exact Sort.permIn_all dk d2 a b (fun x => dk[pv]! ≤ x) (by omega) he.perm h1
  have heq : ∀ t, a ≤ t → t < m → d2[t]! = dk[pv]! := fun t h1 h2 => by
    have := ltI_f (he.lo t h1 h2)
    have := hlow t h1 (by have := he.mb; omega)
    omega
  have h2z : d2.size = N := he.perm.1.trans hz
  refine ⟨he.mb, hN, h2z, .inr fun t h1 h2 => ?_, fun d' h1 h2 => ?_⟩
  · refine ltI_mk ?_
    rw [heq (m - 1) (by have := he.am; omega) (by have := he.am; omega)]
    exact hlow t (by have := he.am; omega) h2
  · have ham := he.am
    have hmb := he.mb
    refine h.fin d' (Sort.permIn_trans _ _ _ _ _ he.perm (Sort.permIn_mono _ _ m b a b (by omega) (Nat.le_refl _) (by omega) h1)) (fun i j hi hij hj => ltI_mk ?_)
    have hup : ∀ t, m ≤ t → t < b → dk[pv]! < d'[t]! := Sort.permIn_all d2 d' m b (fun x => dk[pv]! < x) (by omega) h1 (fun t h3 h4 => ltI_t (he.hi t h3 h4))
    have hsame : ∀ t, a ≤ t → t < m → d'[t]! = dk[pv]! := fun t h3 h4 => (h1.2.1 t (.inl h4)).trans (heq t h3 h4)
    by_cases c1 : j < m
    · rw [hsame i hi (by omega), hsame j (by omega) c1]; exact Int.le_refl _
    · by_cases c2 : i < m
      · rw [hsame i hi c2]; have := hup j (by omega) hj; omega
      · exact ltI_f (h2 i j (by omega) hij hj)
theorem PdI.left {a0 b0 N a b m : Nat} {d dk d2 L : Array Int} (h : PdI a0 b0 N d a b dk) (hp : PartOk a b m dk d2) (h1 : Sort.PermIn a m d2 L) (h2 : Sort.SortedIn Sort.ltInt a m L) : PdI a0 b0 N d (m + 1) b L := by
  have hN := h.bN
  have hz := h.size
  have ham := hp.am
  have hmb := hp.mb
  have h2z : d2.size = N := hp.perm.1.trans hz
  have hLz : L.size = N := h1.1.trans h2z
  have eL : ∀ t, m ≤ t → L[t]! = d2[t]! := fun t ht => h1.2.1 t (.inr ht)
  have hlo : ∀ t, a ≤ t → t < m → L[t]! < d2[m]! := Sort.permIn_all d2 L a m (fun x => x < d2[m]!) (by omega) h1 (fun t h3 h4 => ltI_t (hp.lo t h3 h4))
  have hhi : ∀ t, m < t → t < b → d2[m]! ≤ L[t]! := fun t h3 h4 => by rw [eL t (by omega)]; exact ltI_f (hp.hi t h3 h4)
  refine ⟨by omega, hN, hLz, .inr fun t h3 h4 => ltI_mk ?_, fun d' h3 h4 => ?_⟩
  · rw [Nat.add_sub_cancel, eL m (Nat.le_refl _)]; exact hhi t (by omega) h4
  · have eD : ∀ t, t ≤ m → d'[t]! = L[t]! := fun t ht => h3.2.1 t (.inl (by omega))
    have hD : ∀ t, m + 1 ≤ t → t < b → d2[m]! ≤ d'[t]! := Sort.permIn_all L d' (m + 1) b (fun x => d2[m]! ≤ x) (by omega) h3 (fun t h5 h6 => hhi t (by omega) h6)
    refine h.fin d' (Sort.permIn_trans _ _ _ _ _ hp.perm (Sort.permIn_trans _ _ _ _ _ (Sort.permIn_mono _ _ a m a b (Nat.le_refl _) (by omega) (by omega) h1) (Sort.permIn_mono _ _ (m + 1) b a b (by omega) (Nat.le_refl _) (by omega) h3))) (fun i j hi hij hj => ltI_mk ?_)
    by_cases c1 : j ≤ m
    · rw [eD i (by omega), eD j c1]
      by_cases c2 : j = m
      · subst c2; rw [eL j (Nat.le_refl _)]; have := hlo i hi (by omega); omega
      · exact ltI_f (h2 i j hi hij (by omega))
    · have hj2 := hD j (by omega) hj
      by_cases c2 : i ≤ m
      · rw [eD i c2]
        by_cases c3 : i = m
        · subst c3; rw [eL i (Nat.le_refl _)]; exact hj2
        · have := hlo i hi (by omega); omega
      · exact ltI_f (h4 i j (by omega) hij hj)
theorem PdI.right {a0 b0 N a b m : Nat} {d dk d2 L : Array Int} (h : PdI a0 b0 N d a b dk) (hp : PartOk a b m dk d2) (h1 : Sort.PermIn (m + 1) b d2 L) (h2 : Sort.SortedIn Sort.ltInt (m + 1) b L) : PdI a0 b0 N d a m L := by
  have hN := h.bN
  have hz := h.size
  have ham := hp.am
  have hmb := hp.mb
  have h2z : d2.size = N := hp.perm.1.trans hz
  have hLz : L.size = N := h1.1.trans h2z
  have eL : ∀ t, t ≤ m → L[t]! = d2[t]! := fun t ht => h1.2.1 t (.inl (by omega))
  have hlo : ∀ t, a ≤ t → t < m → L[t]! < d2[m]! := fun t h3 h4 => by rw [eL t (by omega)]; exact ltI_t (hp.lo t h3 h4)
  have hhi : ∀ t, m + 1 ≤ t → t < b → d2[m]! ≤ L[t]! := Sort.permIn_all d2 L (m + 1) b (fun x => d2[m]! ≤ x) (by omega) h1 (fun t h3 h4 => ltI_f (hp.hi t (by omega) h4))
  have hb2 : Sort.Below Sort.ltInt a b d2 := h.bel.perm (by omega) hp.perm
  refine ⟨ham, by omega, hLz, ?_, fun d' h3 h4 => ?_⟩
  · rcases hb2 with h0 | h0
    · exact .inl h0
    · by_cases ha : a = 0
      · exact .inl ha
      · exact .inr fun t h5 h6 => by rw [eL t (by omega), eL (a - 1) (by omega)]; exact h0 t h5 (by omega)
  · have eD : ∀ t, m ≤ t → d'[t]! = L[t]! := fun t ht => h3.2.1 t (.inr ht)
    have hD : ∀ t, a ≤ t → t < m → d'[t]! < d2[m]! := Sort.permIn_all L d' a m (fun x => x < d2[m]!) (by omega) h3 hlo
    refine h.fin d' (Sort.permIn_trans _ _ _ _ _ hp.perm (Sort.permIn_trans _ _ _ _ _ (Sort.permIn_mono _ _ (m + 1) b a b (by omega) (Nat.le_refl _) (by omega) h1) (Sort.permIn_mono _ _ a m a b (Nat.le_refl _) (by omega) (by omega) h3))) (fun i j hi hij hj => ltI_mk ?_)
    by_cases c1 : j < m
    · exact ltI_f (h4 i j hi hij c1)
    · rw [eD j (by omega)]
      have hj2 : d2[m]! ≤ L[j]! := by
        by_cases c2 : j = m
        · subst c2; rw [eL j (Nat.le_refl _)]; exact Int.le_refl _
        · exact hhi j (by omega) hj
      by_cases c3 : i < m
      · have := hD i hi c3; omega
      · rw [eD i (by omega)]
        by_cases c4 : i = m
        · subst c4; rw [eL i (Nat.le_refl _)]; exact hj2
        · exact ltI_f (h2 i j (by omega) hij hj)
end Go.Proofs.YtnnbaodillnkkaaGreat
