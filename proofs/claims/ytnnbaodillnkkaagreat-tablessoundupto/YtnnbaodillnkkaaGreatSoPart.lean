/- partitionOrdered at runes. -/
import Derived.Test.YtnnbaodillnkkaaGreatM24
namespace Go.Proofs.YtnnbaodillnkkaaGreat
open Go.RowKit Go.Shelf
set_option linter.unusedVariables false
set_option maxRecDepth 100000 in
set_option maxHeartbeats 16000000 in
theorem so_part (blk off cap a b pv N : Nat) (d : Array Int) (hN : d.size = N) (hap : a ≤ pv) (hpb : pv < b) (hb : b ≤ N) (hsz : N ≤ 1000000) (w : World) (hH : Sort.Holds (Value.int .i32) w blk off d) :
    Calls Tryz.prog 134 #[.slice (some ⟨blk, off, none⟩) N cap, .int .i64 a, .int .i64 b, .int .i64 pv] w fun e w' => ∃ (m : Nat) (ap : Bool) (d' : Array Int), e = .returned (.tuple #[.int .i64 m, .bool ap]) ∧ PartOk a b m d d' ∧ SoAt w w' blk off d' := by
  obtain ⟨G, hG, hc, hf⟩ := (SoAt.start hH).cells N hN
  have hm1 := mid_cell hc (i := a) (j := pv) (by omega) (by omega)
  have hm2 := mid_frozen (G := G) hf (i := a) (j := pv) (by omega)
  have hA0 := (SoAt.start hH).drew.swap (i := a) (j := pv) (by omega) (by omega)
  rw [← hG, ← hG] at hA0
  have HA0 := hide hA0
  obtain ⟨p, hp⟩ : ∃ p, p = d[pv]! := ⟨_, rfl⟩
  have HP0 := hide (show PartI (fun x => Sort.ltInt x p) p a b (a + 1) (b - 1) d (Sort.swp d a pv) by rw [hp]; exact PartI.start hap hpb (by omega))
  have HZ := hide (show (Sort.swp d a pv).size = N by rw [size_swp']; exact hN)
  obtain ⟨j0, hj0⟩ : ∃ j0, j0 = b - 1 := ⟨_, rfl⟩
  rw [← hj0] at HP0
  have Hj := hide (show (b : Int) - 1 = (j0 : Int) by omega)
  have hj1 : a ≤ j0 ∧ j0 < b := by omega
  have HPV := hide hp
  clear hA0 hG hH hj0 hp hN
  go_enter Tryz.func134, Tryz.ntmps134
  go_wp2_with fail
  go_region
  all_goals go_wp2_with fail
  clear hm1 hm2 hc hf
  generalize Sort.swp d a pv = dk at *
  rw [unhide Hj]
  go_loopw [10] (fun vi wr => ∃ i : Nat, vi = .int .i64 i ∧ a + 1 ≤ i ∧ i ≤ j0 + 1 ∧ Hz (PartI (fun x => Sort.ltInt x p) p a b i j0 d dk ∧ SoAt w wr blk off dk)) (fun vi _ => j0 + 1 - (intOf vi).toNat)
  case atStart => exact ⟨a + 1, by go_num, Nat.le_refl _, by omega, hide ⟨unhide HP0, unhide HA0⟩⟩
  case round =>
    clear HP0 HA0
    obtain ⟨i, rfl, hio, hij1, HI⟩ := hrel
    have HP := hide (unhide HI).1
    have HA := hide (unhide HI).2
    clear HI
    obtain ⟨G, hG, hc, hf⟩ := (unhide HA).cells N (unhide HZ)
    have HG := hide hG
    clear hG
    go_wp2_with fail
    by_cases hij : i ≤ j0
    · have hij' : (i : Int) ≤ (j0 : Int) := by omega
      cases hl : Sort.ltInt (G i) (G a) with
      | true =>
        go_big_quiet (first | (go_at_call 132; refine Calls.quiet_of_same (less32 _ _ _)))
        go_wp2_with fail
        go_roundw
        case rel => exact ⟨i + 1, by go_num, by omega, by omega, hide ⟨(unhide HP).up hij (by rw [← unhide HG]; have hp1 := (unhide HP).at_; rw [← unhide HG] at hp1; rw [← hp1]; exact hl), (unhide HA).drewN _⟩⟩
        case measure => simp [intOf]; omega
      | false =>
        go_big_quiet (first | (go_at_call 132; refine Calls.quiet_of_same (less32 _ _ _)))
        go_wp2_with fail
        have HST : Hz (j0 < i ∨ (fun x => Sort.ltInt x p) dk[i]! = false) := hide (.inr (by rw [← unhide HG]; have hp1 := (unhide HP).at_; rw [← unhide HG] at hp1; rw [← hp1]; exact hl))
        have HA1 : Hz (SoAt w (wr.drewN nq) blk off dk) := hide ((unhide HA).drewN nq)
        clear hc hf HA HG hl
        generalize wr.drewN nq = W1 at *
        clear nq
        go_loopw [11] (fun vj wr => ∃ j2 : Nat, vj = .int .i64 j2 ∧ i ≤ j2 + 1 ∧ j2 ≤ j0 ∧ Hz (PartI (fun x => Sort.ltInt x p) p a b i j2 d dk ∧ SoAt w wr blk off dk ∧ (j2 < i ∨ (fun x => Sort.ltInt x p) dk[i]! = false))) (fun vj _ => (intOf vj).toNat)
        case atStart => exact ⟨j0, rfl, by omega, Nat.le_refl _, hide ⟨unhide HP, unhide HA1, unhide HST⟩⟩
        case round =>
          clear HP HA1 HST
          obtain ⟨j2, rfl, hij2, hjb2, HI⟩ := hrel
          have HP := hide (unhide HI).1
          have HA := hide (unhide HI).2.1
          have HST := hide (unhide HI).2.2
          clear HI
          obtain ⟨G, hG, hc, hf⟩ := (unhide HA).cells N (unhide HZ)
          have HG := hide hG
          clear hG
          go_wp2_with fail
          by_cases hij : i ≤ j2
          · have hij' : (i : Int) ≤ (j2 : Int) := by omega
            cases hl : Sort.ltInt (G j2) (G a) with
            | false =>
              go_big_quiet (first | (go_at_call 132; refine Calls.quiet_of_same (less32 _ _ _)))
              go_wp2_with fail
              go_roundw
              case rel => exact ⟨j2 - 1, by congr 1; omega, by omega, by omega, hide ⟨(unhide HP).down hij (by rw [← unhide HG]; have hp1 := (unhide HP).at_; rw [← unhide HG] at hp1; rw [← hp1]; exact hl), (unhide HA).drewN _, by rcases unhide HST with h | h; exact .inl (by omega); exact .inr h⟩⟩
              case measure => simp [intOf]; omega
            | true =>
              go_big_quiet (first | (go_at_call 132; refine Calls.quiet_of_same (less32 _ _ _)))
              go_wp2_with fail
              have hF1 : (fun x => Sort.ltInt x p) dk[i]! = false := by rcases unhide HST with h | h; omega; exact h
              have hF2 : (fun x => Sort.ltInt x p) dk[j2]! = true := by rw [← unhide HG]; have hp1 := (unhide HP).at_; rw [← unhide HG] at hp1; rw [← hp1]; exact hl
              obtain ⟨hlt, hP2⟩ := (unhide HP).swap (by have := unhide HZ; omega) hij hF1 hF2
              have HP2 := hide hP2
              have HA1 : Hz (SoAt w (wr.drewN nq) blk off dk) := hide ((unhide HA).drewN nq)
              clear hP2 hF1 hF2 hl hc hf HA HG HP HST
              generalize wr.drewN nq = W2 at *
              clear nq
              have hnot : ¬ (j2 : Int) < (i : Int) := by omega
              obtain ⟨G, hG, hc, hf⟩ := (unhide HA1).cells N (unhide HZ)
              have hm1 := mid_cell hc (i := i) (j := j2) (by omega) (by omega)
              have hm2 := mid_frozen (G := G) hf (i := i) (j := j2) (by omega)
              have hA2 := (unhide HA1).drew.swap (i := i) (j := j2) (by have := unhide HZ; omega) (by have := unhide HZ; omega)
              rw [← hG, ← hG] at hA2
              have HA2 := hide hA2
              have HZ2 := hide (show (Sort.swp dk i j2).size = N by rw [size_swp']; exact unhide HZ)
              clear hG hA2 HA1
              go_wp2_with fail
              go_region
              all_goals go_wp2_with fail
              clear hm1 hm2 hc hf
              go_loopw [10, 11] (fun vi vj wr => ∃ (i j : Nat) (dk : Array Int), vi = .int .i64 i ∧ vj = .int .i64 j ∧ a < i ∧ i ≤ j + 1 ∧ j < b ∧ Hz (PartI (fun x => Sort.ltInt x p) p a b i j d dk ∧ SoAt w wr blk off dk ∧ dk.size = N)) (fun vi vj _ => (intOf vj + 1 - intOf vi).toNat)
              case atStart => exact ⟨i + 1, j2 - 1, Sort.swp dk i j2, by go_num, by congr 1; omega, by omega, by omega, by omega, hide ⟨unhide HP2, unhide HA2, unhide HZ2⟩⟩
              case round =>
                clear HP2 HA2 HZ2 HZ
                obtain ⟨io, jo, dk, rfl, rfl, hai, hij, hjb, HI⟩ := hrel
                have HP := hide (unhide HI).1
                have HA := hide (unhide HI).2.1
                have HZ := hide (unhide HI).2.2
                clear HI
                go_wp2_with fail
                go_loopw [10] (fun vi wr => ∃ i : Nat, vi = .int .i64 i ∧ io ≤ i ∧ i ≤ jo + 1 ∧ Hz (PartI (fun x => Sort.ltInt x p) p a b i jo d dk ∧ SoAt w wr blk off dk)) (fun vi _ => jo + 1 - (intOf vi).toNat)
                case atStart => exact ⟨io, rfl, Nat.le_refl _, hij, hide ⟨unhide HP, unhide HA⟩⟩
                case round =>
                  clear HP HA
                  obtain ⟨i, rfl, hio, hij1, HI⟩ := hrel
                  have HP := hide (unhide HI).1
                  have HA := hide (unhide HI).2
                  clear HI
                  obtain ⟨G, hG, hc, hf⟩ := (unhide HA).cells N (unhide HZ)
                  have HG := hide hG
                  clear hG
                  go_wp2_with fail
                  by_cases hij : i ≤ jo
                  · have hij' : (i : Int) ≤ (jo : Int) := by omega
                    cases hl : Sort.ltInt (G i) (G a) with
                    | true =>
                      go_big_quiet (first | (go_at_call 132; refine Calls.quiet_of_same (less32 _ _ _)))
                      go_wp2_with fail
                      go_roundw
                      case rel => exact ⟨i + 1, by go_num, by omega, by omega, hide ⟨(unhide HP).up hij (by rw [← unhide HG]; have hp1 := (unhide HP).at_; rw [← unhide HG] at hp1; rw [← hp1]; exact hl), (unhide HA).drewN _⟩⟩
                      case measure => simp [intOf]; omega
                    | false =>
                      go_big_quiet (first | (go_at_call 132; refine Calls.quiet_of_same (less32 _ _ _)))
                      go_wp2_with fail
                      have HST : Hz (jo < i ∨ (fun x => Sort.ltInt x p) dk[i]! = false) := hide (.inr (by rw [← unhide HG]; have hp1 := (unhide HP).at_; rw [← unhide HG] at hp1; rw [← hp1]; exact hl))
                      have HA1 : Hz (SoAt w (wr.drewN nq) blk off dk) := hide ((unhide HA).drewN nq)
                      clear hc hf HA HG hl
                      generalize wr.drewN nq = W1 at *
                      clear nq
                      go_loopw [11] (fun vj wr => ∃ j2 : Nat, vj = .int .i64 j2 ∧ i ≤ j2 + 1 ∧ j2 ≤ jo ∧ Hz (PartI (fun x => Sort.ltInt x p) p a b i j2 d dk ∧ SoAt w wr blk off dk ∧ (j2 < i ∨ (fun x => Sort.ltInt x p) dk[i]! = false))) (fun vj _ => (intOf vj).toNat)
                      case atStart => exact ⟨jo, rfl, by omega, Nat.le_refl _, hide ⟨unhide HP, unhide HA1, unhide HST⟩⟩
                      case round =>
                        clear HP HA1 HST
                        obtain ⟨j2, rfl, hij2, hjb2, HI⟩ := hrel
                        have HP := hide (unhide HI).1
                        have HA := hide (unhide HI).2.1
                        have HST := hide (unhide HI).2.2
                        clear HI
                        obtain ⟨G, hG, hc, hf⟩ := (unhide HA).cells N (unhide HZ)
                        have HG := hide hG
                        clear hG
                        go_wp2_with fail
                        by_cases hij : i ≤ j2
                        · have hij' : (i : Int) ≤ (j2 : Int) := by omega
                          cases hl : Sort.ltInt (G j2) (G a) with
                          | false =>
                            go_big_quiet (first | (go_at_call 132; refine Calls.quiet_of_same (less32 _ _ _)))
                            go_wp2_with fail
                            go_roundw
                            case rel => exact ⟨j2 - 1, by congr 1; omega, by omega, by omega, hide ⟨(unhide HP).down hij (by rw [← unhide HG]; have hp1 := (unhide HP).at_; rw [← unhide HG] at hp1; rw [← hp1]; exact hl), (unhide HA).drewN _, by rcases unhide HST with h | h; exact .inl (by omega); exact .inr h⟩⟩
                            case measure => simp [intOf]; omega
                          | true =>
                            go_big_quiet (first | (go_at_call 132; refine Calls.quiet_of_same (less32 _ _ _)))
                            go_wp2_with fail
                            have hF1 : (fun x => Sort.ltInt x p) dk[i]! = false := by rcases unhide HST with h | h; omega; exact h
                            have hF2 : (fun x => Sort.ltInt x p) dk[j2]! = true := by rw [← unhide HG]; have hp1 := (unhide HP).at_; rw [← unhide HG] at hp1; rw [← hp1]; exact hl
                            obtain ⟨hlt, hP2⟩ := (unhide HP).swap (by have := unhide HZ; omega) hij hF1 hF2
                            have HP2 := hide hP2
                            have HA1 : Hz (SoAt w (wr.drewN nq) blk off dk) := hide ((unhide HA).drewN nq)
                            clear hP2 hF1 hF2 hl hc hf HA HG HP HST
                            generalize wr.drewN nq = W2 at *
                            clear nq
                            have hnot : ¬ (j2 : Int) < (i : Int) := by omega
                            obtain ⟨G, hG, hc, hf⟩ := (unhide HA1).cells N (unhide HZ)
                            have hm1 := mid_cell hc (i := i) (j := j2) (by omega) (by omega)
                            have hm2 := mid_frozen (G := G) hf (i := i) (j := j2) (by omega)
                            have hA2 := (unhide HA1).drew.swap (i := i) (j := j2) (by have := unhide HZ; omega) (by have := unhide HZ; omega)
                            rw [← hG, ← hG] at hA2
                            have HA2 := hide hA2
                            have HZ2 := hide (show (Sort.swp dk i j2).size = N by rw [size_swp']; exact unhide HZ)
                            clear hG hA2 HA1
                            go_wp2_with fail
                            go_region
                            all_goals go_wp2_with fail
                            clear hm1 hm2 hc hf
                            go_roundw
                            case rel => exact ⟨i + 1, j2 - 1, Sort.swp dk i j2, by go_num, by congr 1; omega, by omega, by omega, by omega, hide ⟨unhide HP2, unhide HA2, unhide HZ2⟩⟩
                            case measure => simp [intOf]; omega
                        · have hij' : decide ((i : Int) ≤ (j2 : Int)) = false := decide_eq_false (by omega)
                          go_big_quiet (first | (go_at_call 132; refine Calls.quiet_of_same (less32 _ _ _)))
                          go_wp2_with fail
                          have HA1 : Hz (SoAt w (wr.drewN nq) blk off dk) := hide ((unhide HA).drewN nq)
                          clear hc hf HA HG HST hij'
                          generalize wr.drewN nq = W2 at *
                          clear nq
                          have hyes : (j2 : Int) < (i : Int) := by omega
                          obtain ⟨G, hG, hc, hf⟩ := (unhide HA1).cells N (unhide HZ)
                          have hm1 := mid_cell hc (i := j2) (j := a) (by omega) (by omega)
                          have hm2 := mid_frozen (G := G) hf (i := j2) (j := a) (by omega)
                          have hA2 := (unhide HA1).drew.swap (i := j2) (j := a) (by have := unhide HZ; omega) (by have := unhide HZ; omega)
                          rw [← hG, ← hG] at hA2
                          have HA2 := hide hA2
                          clear hG hA2 HA1
                          go_wp2_with fail
                          go_region
                          all_goals go_wp2_with fail
                          go_ret2
                          exact ⟨j2, false, Sort.swp dk j2 a, rfl, (unhide HP).done (by have := unhide HZ; omega) (by omega), unhide HA2⟩
                  · have hij' : decide ((i : Int) ≤ (jo : Int)) = false := decide_eq_false (by omega)
                    go_big_quiet (first | (go_at_call 132; refine Calls.quiet_of_same (less32 _ _ _)))
                    go_wp2_with fail
                    have HST : Hz (jo < i ∨ (fun x => Sort.ltInt x p) dk[i]! = false) := hide (.inl (by omega))
                    have HA1 : Hz (SoAt w (wr.drewN nq) blk off dk) := hide ((unhide HA).drewN nq)
                    clear hc hf HA HG hij' hij
                    generalize wr.drewN nq = W1 at *
                    clear nq
                    go_loopw [11] (fun vj wr => ∃ j2 : Nat, vj = .int .i64 j2 ∧ i ≤ j2 + 1 ∧ j2 ≤ jo ∧ Hz (PartI (fun x => Sort.ltInt x p) p a b i j2 d dk ∧ SoAt w wr blk off dk ∧ (j2 < i ∨ (fun x => Sort.ltInt x p) dk[i]! = false))) (fun vj _ => (intOf vj).toNat)
                    case atStart => exact ⟨jo, rfl, by omega, Nat.le_refl _, hide ⟨unhide HP, unhide HA1, unhide HST⟩⟩
                    case round =>
                      clear HP HA1 HST
                      obtain ⟨j2, rfl, hij2, hjb2, HI⟩ := hrel
                      have HP := hide (unhide HI).1
                      have HA := hide (unhide HI).2.1
                      have HST := hide (unhide HI).2.2
                      clear HI
                      obtain ⟨G, hG, hc, hf⟩ := (unhide HA).cells N (unhide HZ)
                      have HG := hide hG
                      clear hG
                      go_wp2_with fail
                      by_cases hij : i ≤ j2
                      · have hij' : (i : Int) ≤ (j2 : Int) := by omega
                        cases hl : Sort.ltInt (G j2) (G a) with
                        | false =>
                          go_big_quiet (first | (go_at_call 132; refine Calls.quiet_of_same (less32 _ _ _)))
                          go_wp2_with fail
                          go_roundw
                          case rel => exact ⟨j2 - 1, by congr 1; omega, by omega, by omega, hide ⟨(unhide HP).down hij (by rw [← unhide HG]; have hp1 := (unhide HP).at_; rw [← unhide HG] at hp1; rw [← hp1]; exact hl), (unhide HA).drewN _, by rcases unhide HST with h | h; exact .inl (by omega); exact .inr h⟩⟩
                          case measure => simp [intOf]; omega
                        | true =>
                          go_big_quiet (first | (go_at_call 132; refine Calls.quiet_of_same (less32 _ _ _)))
                          go_wp2_with fail
                          have hF1 : (fun x => Sort.ltInt x p) dk[i]! = false := by rcases unhide HST with h | h; omega; exact h
                          have hF2 : (fun x => Sort.ltInt x p) dk[j2]! = true := by rw [← unhide HG]; have hp1 := (unhide HP).at_; rw [← unhide HG] at hp1; rw [← hp1]; exact hl
                          obtain ⟨hlt, hP2⟩ := (unhide HP).swap (by have := unhide HZ; omega) hij hF1 hF2
                          have HP2 := hide hP2
                          have HA1 : Hz (SoAt w (wr.drewN nq) blk off dk) := hide ((unhide HA).drewN nq)
                          clear hP2 hF1 hF2 hl hc hf HA HG HP HST
                          generalize wr.drewN nq = W2 at *
                          clear nq
                          have hnot : ¬ (j2 : Int) < (i : Int) := by omega
                          obtain ⟨G, hG, hc, hf⟩ := (unhide HA1).cells N (unhide HZ)
                          have hm1 := mid_cell hc (i := i) (j := j2) (by omega) (by omega)
                          have hm2 := mid_frozen (G := G) hf (i := i) (j := j2) (by omega)
                          have hA2 := (unhide HA1).drew.swap (i := i) (j := j2) (by have := unhide HZ; omega) (by have := unhide HZ; omega)
                          rw [← hG, ← hG] at hA2
                          have HA2 := hide hA2
                          have HZ2 := hide (show (Sort.swp dk i j2).size = N by rw [size_swp']; exact unhide HZ)
                          clear hG hA2 HA1
                          go_wp2_with fail
                          go_region
                          all_goals go_wp2_with fail
                          clear hm1 hm2 hc hf
                          go_roundw
                          case rel => exact ⟨i + 1, j2 - 1, Sort.swp dk i j2, by go_num, by congr 1; omega, by omega, by omega, by omega, hide ⟨unhide HP2, unhide HA2, unhide HZ2⟩⟩
                          case measure => simp [intOf]; omega
                      · have hij' : decide ((i : Int) ≤ (j2 : Int)) = false := decide_eq_false (by omega)
                        go_big_quiet (first | (go_at_call 132; refine Calls.quiet_of_same (less32 _ _ _)))
                        go_wp2_with fail
                        have HA1 : Hz (SoAt w (wr.drewN nq) blk off dk) := hide ((unhide HA).drewN nq)
                        clear hc hf HA HG HST hij'
                        generalize wr.drewN nq = W2 at *
                        clear nq
                        have hyes : (j2 : Int) < (i : Int) := by omega
                        obtain ⟨G, hG, hc, hf⟩ := (unhide HA1).cells N (unhide HZ)
                        have hm1 := mid_cell hc (i := j2) (j := a) (by omega) (by omega)
                        have hm2 := mid_frozen (G := G) hf (i := j2) (j := a) (by omega)
                        have hA2 := (unhide HA1).drew.swap (i := j2) (j := a) (by have := unhide HZ; omega) (by have := unhide HZ; omega)
                        rw [← hG, ← hG] at hA2
                        have HA2 := hide hA2
                        clear hG hA2 HA1
                        go_wp2_with fail
                        go_region
                        all_goals go_wp2_with fail
                        go_ret2
                        exact ⟨j2, false, Sort.swp dk j2 a, rfl, (unhide HP).done (by have := unhide HZ; omega) (by omega), unhide HA2⟩
          · have hij' : decide ((i : Int) ≤ (j2 : Int)) = false := decide_eq_false (by omega)
            go_big_quiet (first | (go_at_call 132; refine Calls.quiet_of_same (less32 _ _ _)))
            go_wp2_with fail
            have HA1 : Hz (SoAt w (wr.drewN nq) blk off dk) := hide ((unhide HA).drewN nq)
            clear hc hf HA HG HST hij'
            generalize wr.drewN nq = W2 at *
            clear nq
            have hyes : (j2 : Int) < (i : Int) := by omega
            obtain ⟨G, hG, hc, hf⟩ := (unhide HA1).cells N (unhide HZ)
            have hm1 := mid_cell hc (i := j2) (j := a) (by omega) (by omega)
            have hm2 := mid_frozen (G := G) hf (i := j2) (j := a) (by omega)
            have hA2 := (unhide HA1).drew.swap (i := j2) (j := a) (by have := unhide HZ; omega) (by have := unhide HZ; omega)
            rw [← hG, ← hG] at hA2
            have HA2 := hide hA2
            clear hG hA2 HA1
            go_wp2_with fail
            go_region
            all_goals go_wp2_with fail
            go_ret2
            exact ⟨j2, true, Sort.swp dk j2 a, rfl, (unhide HP).done (by have := unhide HZ; omega) (by omega), unhide HA2⟩
    · have hij' : decide ((i : Int) ≤ (j0 : Int)) = false := decide_eq_false (by omega)
      go_big_quiet (first | (go_at_call 132; refine Calls.quiet_of_same (less32 _ _ _)))
      go_wp2_with fail
      have HST : Hz (j0 < i ∨ (fun x => Sort.ltInt x p) dk[i]! = false) := hide (.inl (by omega))
      have HA1 : Hz (SoAt w (wr.drewN nq) blk off dk) := hide ((unhide HA).drewN nq)
      clear hc hf HA HG hij' hij
      generalize wr.drewN nq = W1 at *
      clear nq
      go_loopw [11] (fun vj wr => ∃ j2 : Nat, vj = .int .i64 j2 ∧ i ≤ j2 + 1 ∧ j2 ≤ j0 ∧ Hz (PartI (fun x => Sort.ltInt x p) p a b i j2 d dk ∧ SoAt w wr blk off dk ∧ (j2 < i ∨ (fun x => Sort.ltInt x p) dk[i]! = false))) (fun vj _ => (intOf vj).toNat)
      case atStart => exact ⟨j0, rfl, by omega, Nat.le_refl _, hide ⟨unhide HP, unhide HA1, unhide HST⟩⟩
      case round =>
        clear HP HA1 HST
        obtain ⟨j2, rfl, hij2, hjb2, HI⟩ := hrel
        have HP := hide (unhide HI).1
        have HA := hide (unhide HI).2.1
        have HST := hide (unhide HI).2.2
        clear HI
        obtain ⟨G, hG, hc, hf⟩ := (unhide HA).cells N (unhide HZ)
        have HG := hide hG
        clear hG
        go_wp2_with fail
        by_cases hij : i ≤ j2
        · have hij' : (i : Int) ≤ (j2 : Int) := by omega
          cases hl : Sort.ltInt (G j2) (G a) with
          | false =>
            go_big_quiet (first | (go_at_call 132; refine Calls.quiet_of_same (less32 _ _ _)))
            go_wp2_with fail
            go_roundw
            case rel => exact ⟨j2 - 1, by congr 1; omega, by omega, by omega, hide ⟨(unhide HP).down hij (by rw [← unhide HG]; have hp1 := (unhide HP).at_; rw [← unhide HG] at hp1; rw [← hp1]; exact hl), (unhide HA).drewN _, by rcases unhide HST with h | h; exact .inl (by omega); exact .inr h⟩⟩
            case measure => simp [intOf]; omega
          | true =>
            go_big_quiet (first | (go_at_call 132; refine Calls.quiet_of_same (less32 _ _ _)))
            go_wp2_with fail
            have hF1 : (fun x => Sort.ltInt x p) dk[i]! = false := by rcases unhide HST with h | h; omega; exact h
            have hF2 : (fun x => Sort.ltInt x p) dk[j2]! = true := by rw [← unhide HG]; have hp1 := (unhide HP).at_; rw [← unhide HG] at hp1; rw [← hp1]; exact hl
            obtain ⟨hlt, hP2⟩ := (unhide HP).swap (by have := unhide HZ; omega) hij hF1 hF2
            have HP2 := hide hP2
            have HA1 : Hz (SoAt w (wr.drewN nq) blk off dk) := hide ((unhide HA).drewN nq)
            clear hP2 hF1 hF2 hl hc hf HA HG HP HST
            generalize wr.drewN nq = W2 at *
            clear nq
            have hnot : ¬ (j2 : Int) < (i : Int) := by omega
            obtain ⟨G, hG, hc, hf⟩ := (unhide HA1).cells N (unhide HZ)
            have hm1 := mid_cell hc (i := i) (j := j2) (by omega) (by omega)
            have hm2 := mid_frozen (G := G) hf (i := i) (j := j2) (by omega)
            have hA2 := (unhide HA1).drew.swap (i := i) (j := j2) (by have := unhide HZ; omega) (by have := unhide HZ; omega)
            rw [← hG, ← hG] at hA2
            have HA2 := hide hA2
            have HZ2 := hide (show (Sort.swp dk i j2).size = N by rw [size_swp']; exact unhide HZ)
            clear hG hA2 HA1
            go_wp2_with fail
            go_region
            all_goals go_wp2_with fail
            clear hm1 hm2 hc hf
            go_loopw [10, 11] (fun vi vj wr => ∃ (i j : Nat) (dk : Array Int), vi = .int .i64 i ∧ vj = .int .i64 j ∧ a < i ∧ i ≤ j + 1 ∧ j < b ∧ Hz (PartI (fun x => Sort.ltInt x p) p a b i j d dk ∧ SoAt w wr blk off dk ∧ dk.size = N)) (fun vi vj _ => (intOf vj + 1 - intOf vi).toNat)
            case atStart => exact ⟨i + 1, j2 - 1, Sort.swp dk i j2, by go_num, by congr 1; omega, by omega, by omega, by omega, hide ⟨unhide HP2, unhide HA2, unhide HZ2⟩⟩
            case round =>
              clear HP2 HA2 HZ2 HZ
              obtain ⟨io, jo, dk, rfl, rfl, hai, hij, hjb, HI⟩ := hrel
              have HP := hide (unhide HI).1
              have HA := hide (unhide HI).2.1
              have HZ := hide (unhide HI).2.2
              clear HI
              go_wp2_with fail
              go_loopw [10] (fun vi wr => ∃ i : Nat, vi = .int .i64 i ∧ io ≤ i ∧ i ≤ jo + 1 ∧ Hz (PartI (fun x => Sort.ltInt x p) p a b i jo d dk ∧ SoAt w wr blk off dk)) (fun vi _ => jo + 1 - (intOf vi).toNat)
              case atStart => exact ⟨io, rfl, Nat.le_refl _, hij, hide ⟨unhide HP, unhide HA⟩⟩
              case round =>
                clear HP HA
                obtain ⟨i, rfl, hio, hij1, HI⟩ := hrel
                have HP := hide (unhide HI).1
                have HA := hide (unhide HI).2
                clear HI
                obtain ⟨G, hG, hc, hf⟩ := (unhide HA).cells N (unhide HZ)
                have HG := hide hG
                clear hG
                go_wp2_with fail
                by_cases hij : i ≤ jo
                · have hij' : (i : Int) ≤ (jo : Int) := by omega
                  cases hl : Sort.ltInt (G i) (G a) with
                  | true =>
                    go_big_quiet (first | (go_at_call 132; refine Calls.quiet_of_same (less32 _ _ _)))
                    go_wp2_with fail
                    go_roundw
                    case rel => exact ⟨i + 1, by go_num, by omega, by omega, hide ⟨(unhide HP).up hij (by rw [← unhide HG]; have hp1 := (unhide HP).at_; rw [← unhide HG] at hp1; rw [← hp1]; exact hl), (unhide HA).drewN _⟩⟩
                    case measure => simp [intOf]; omega
                  | false =>
                    go_big_quiet (first | (go_at_call 132; refine Calls.quiet_of_same (less32 _ _ _)))
                    go_wp2_with fail
                    have HST : Hz (jo < i ∨ (fun x => Sort.ltInt x p) dk[i]! = false) := hide (.inr (by rw [← unhide HG]; have hp1 := (unhide HP).at_; rw [← unhide HG] at hp1; rw [← hp1]; exact hl))
                    have HA1 : Hz (SoAt w (wr.drewN nq) blk off dk) := hide ((unhide HA).drewN nq)
                    clear hc hf HA HG hl
                    generalize wr.drewN nq = W1 at *
                    clear nq
                    go_loopw [11] (fun vj wr => ∃ j2 : Nat, vj = .int .i64 j2 ∧ i ≤ j2 + 1 ∧ j2 ≤ jo ∧ Hz (PartI (fun x => Sort.ltInt x p) p a b i j2 d dk ∧ SoAt w wr blk off dk ∧ (j2 < i ∨ (fun x => Sort.ltInt x p) dk[i]! = false))) (fun vj _ => (intOf vj).toNat)
                    case atStart => exact ⟨jo, rfl, by omega, Nat.le_refl _, hide ⟨unhide HP, unhide HA1, unhide HST⟩⟩
                    case round =>
                      clear HP HA1 HST
                      obtain ⟨j2, rfl, hij2, hjb2, HI⟩ := hrel
                      have HP := hide (unhide HI).1
                      have HA := hide (unhide HI).2.1
                      have HST := hide (unhide HI).2.2
                      clear HI
                      obtain ⟨G, hG, hc, hf⟩ := (unhide HA).cells N (unhide HZ)
                      have HG := hide hG
                      clear hG
                      go_wp2_with fail
                      by_cases hij : i ≤ j2
                      · have hij' : (i : Int) ≤ (j2 : Int) := by omega
                        cases hl : Sort.ltInt (G j2) (G a) with
                        | false =>
                          go_big_quiet (first | (go_at_call 132; refine Calls.quiet_of_same (less32 _ _ _)))
                          go_wp2_with fail
                          go_roundw
                          case rel => exact ⟨j2 - 1, by congr 1; omega, by omega, by omega, hide ⟨(unhide HP).down hij (by rw [← unhide HG]; have hp1 := (unhide HP).at_; rw [← unhide HG] at hp1; rw [← hp1]; exact hl), (unhide HA).drewN _, by rcases unhide HST with h | h; exact .inl (by omega); exact .inr h⟩⟩
                          case measure => simp [intOf]; omega
                        | true =>
                          go_big_quiet (first | (go_at_call 132; refine Calls.quiet_of_same (less32 _ _ _)))
                          go_wp2_with fail
                          have hF1 : (fun x => Sort.ltInt x p) dk[i]! = false := by rcases unhide HST with h | h; omega; exact h
                          have hF2 : (fun x => Sort.ltInt x p) dk[j2]! = true := by rw [← unhide HG]; have hp1 := (unhide HP).at_; rw [← unhide HG] at hp1; rw [← hp1]; exact hl
                          obtain ⟨hlt, hP2⟩ := (unhide HP).swap (by have := unhide HZ; omega) hij hF1 hF2
                          have HP2 := hide hP2
                          have HA1 : Hz (SoAt w (wr.drewN nq) blk off dk) := hide ((unhide HA).drewN nq)
                          clear hP2 hF1 hF2 hl hc hf HA HG HP HST
                          generalize wr.drewN nq = W2 at *
                          clear nq
                          have hnot : ¬ (j2 : Int) < (i : Int) := by omega
                          obtain ⟨G, hG, hc, hf⟩ := (unhide HA1).cells N (unhide HZ)
                          have hm1 := mid_cell hc (i := i) (j := j2) (by omega) (by omega)
                          have hm2 := mid_frozen (G := G) hf (i := i) (j := j2) (by omega)
                          have hA2 := (unhide HA1).drew.swap (i := i) (j := j2) (by have := unhide HZ; omega) (by have := unhide HZ; omega)
                          rw [← hG, ← hG] at hA2
                          have HA2 := hide hA2
                          have HZ2 := hide (show (Sort.swp dk i j2).size = N by rw [size_swp']; exact unhide HZ)
                          clear hG hA2 HA1
                          go_wp2_with fail
                          go_region
                          all_goals go_wp2_with fail
                          clear hm1 hm2 hc hf
                          go_roundw
                          case rel => exact ⟨i + 1, j2 - 1, Sort.swp dk i j2, by go_num, by congr 1; omega, by omega, by omega, by omega, hide ⟨unhide HP2, unhide HA2, unhide HZ2⟩⟩
                          case measure => simp [intOf]; omega
                      · have hij' : decide ((i : Int) ≤ (j2 : Int)) = false := decide_eq_false (by omega)
                        go_big_quiet (first | (go_at_call 132; refine Calls.quiet_of_same (less32 _ _ _)))
                        go_wp2_with fail
                        have HA1 : Hz (SoAt w (wr.drewN nq) blk off dk) := hide ((unhide HA).drewN nq)
                        clear hc hf HA HG HST hij'
                        generalize wr.drewN nq = W2 at *
                        clear nq
                        have hyes : (j2 : Int) < (i : Int) := by omega
                        obtain ⟨G, hG, hc, hf⟩ := (unhide HA1).cells N (unhide HZ)
                        have hm1 := mid_cell hc (i := j2) (j := a) (by omega) (by omega)
                        have hm2 := mid_frozen (G := G) hf (i := j2) (j := a) (by omega)
                        have hA2 := (unhide HA1).drew.swap (i := j2) (j := a) (by have := unhide HZ; omega) (by have := unhide HZ; omega)
                        rw [← hG, ← hG] at hA2
                        have HA2 := hide hA2
                        clear hG hA2 HA1
                        go_wp2_with fail
                        go_region
                        all_goals go_wp2_with fail
                        go_ret2
                        exact ⟨j2, false, Sort.swp dk j2 a, rfl, (unhide HP).done (by have := unhide HZ; omega) (by omega), unhide HA2⟩
                · have hij' : decide ((i : Int) ≤ (jo : Int)) = false := decide_eq_false (by omega)
                  go_big_quiet (first | (go_at_call 132; refine Calls.quiet_of_same (less32 _ _ _)))
                  go_wp2_with fail
                  have HST : Hz (jo < i ∨ (fun x => Sort.ltInt x p) dk[i]! = false) := hide (.inl (by omega))
                  have HA1 : Hz (SoAt w (wr.drewN nq) blk off dk) := hide ((unhide HA).drewN nq)
                  clear hc hf HA HG hij' hij
                  generalize wr.drewN nq = W1 at *
                  clear nq
                  go_loopw [11] (fun vj wr => ∃ j2 : Nat, vj = .int .i64 j2 ∧ i ≤ j2 + 1 ∧ j2 ≤ jo ∧ Hz (PartI (fun x => Sort.ltInt x p) p a b i j2 d dk ∧ SoAt w wr blk off dk ∧ (j2 < i ∨ (fun x => Sort.ltInt x p) dk[i]! = false))) (fun vj _ => (intOf vj).toNat)
                  case atStart => exact ⟨jo, rfl, by omega, Nat.le_refl _, hide ⟨unhide HP, unhide HA1, unhide HST⟩⟩
                  case round =>
                    clear HP HA1 HST
                    obtain ⟨j2, rfl, hij2, hjb2, HI⟩ := hrel
                    have HP := hide (unhide HI).1
                    have HA := hide (unhide HI).2.1
                    have HST := hide (unhide HI).2.2
                    clear HI
                    obtain ⟨G, hG, hc, hf⟩ := (unhide HA).cells N (unhide HZ)
                    have HG := hide hG
                    clear hG
                    go_wp2_with fail
                    by_cases hij : i ≤ j2
                    · have hij' : (i : Int) ≤ (j2 : Int) := by omega
                      cases hl : Sort.ltInt (G j2) (G a) with
                      | false =>
                        go_big_quiet (first | (go_at_call 132; refine Calls.quiet_of_same (less32 _ _ _)))
                        go_wp2_with fail
                        go_roundw
                        case rel => exact ⟨j2 - 1, by congr 1; omega, by omega, by omega, hide ⟨(unhide HP).down hij (by rw [← unhide HG]; have hp1 := (unhide HP).at_; rw [← unhide HG] at hp1; rw [← hp1]; exact hl), (unhide HA).drewN _, by rcases unhide HST with h | h; exact .inl (by omega); exact .inr h⟩⟩
                        case measure => simp [intOf]; omega
                      | true =>
                        go_big_quiet (first | (go_at_call 132; refine Calls.quiet_of_same (less32 _ _ _)))
                        go_wp2_with fail
                        have hF1 : (fun x => Sort.ltInt x p) dk[i]! = false := by rcases unhide HST with h | h; omega; exact h
                        have hF2 : (fun x => Sort.ltInt x p) dk[j2]! = true := by rw [← unhide HG]; have hp1 := (unhide HP).at_; rw [← unhide HG] at hp1; rw [← hp1]; exact hl
                        obtain ⟨hlt, hP2⟩ := (unhide HP).swap (by have := unhide HZ; omega) hij hF1 hF2
                        have HP2 := hide hP2
                        have HA1 : Hz (SoAt w (wr.drewN nq) blk off dk) := hide ((unhide HA).drewN nq)
                        clear hP2 hF1 hF2 hl hc hf HA HG HP HST
                        generalize wr.drewN nq = W2 at *
                        clear nq
                        have hnot : ¬ (j2 : Int) < (i : Int) := by omega
                        obtain ⟨G, hG, hc, hf⟩ := (unhide HA1).cells N (unhide HZ)
                        have hm1 := mid_cell hc (i := i) (j := j2) (by omega) (by omega)
                        have hm2 := mid_frozen (G := G) hf (i := i) (j := j2) (by omega)
                        have hA2 := (unhide HA1).drew.swap (i := i) (j := j2) (by have := unhide HZ; omega) (by have := unhide HZ; omega)
                        rw [← hG, ← hG] at hA2
                        have HA2 := hide hA2
                        have HZ2 := hide (show (Sort.swp dk i j2).size = N by rw [size_swp']; exact unhide HZ)
                        clear hG hA2 HA1
                        go_wp2_with fail
                        go_region
                        all_goals go_wp2_with fail
                        clear hm1 hm2 hc hf
                        go_roundw
                        case rel => exact ⟨i + 1, j2 - 1, Sort.swp dk i j2, by go_num, by congr 1; omega, by omega, by omega, by omega, hide ⟨unhide HP2, unhide HA2, unhide HZ2⟩⟩
                        case measure => simp [intOf]; omega
                    · have hij' : decide ((i : Int) ≤ (j2 : Int)) = false := decide_eq_false (by omega)
                      go_big_quiet (first | (go_at_call 132; refine Calls.quiet_of_same (less32 _ _ _)))
                      go_wp2_with fail
                      have HA1 : Hz (SoAt w (wr.drewN nq) blk off dk) := hide ((unhide HA).drewN nq)
                      clear hc hf HA HG HST hij'
                      generalize wr.drewN nq = W2 at *
                      clear nq
                      have hyes : (j2 : Int) < (i : Int) := by omega
                      obtain ⟨G, hG, hc, hf⟩ := (unhide HA1).cells N (unhide HZ)
                      have hm1 := mid_cell hc (i := j2) (j := a) (by omega) (by omega)
                      have hm2 := mid_frozen (G := G) hf (i := j2) (j := a) (by omega)
                      have hA2 := (unhide HA1).drew.swap (i := j2) (j := a) (by have := unhide HZ; omega) (by have := unhide HZ; omega)
                      rw [← hG, ← hG] at hA2
                      have HA2 := hide hA2
                      clear hG hA2 HA1
                      go_wp2_with fail
                      go_region
                      all_goals go_wp2_with fail
                      go_ret2
                      exact ⟨j2, false, Sort.swp dk j2 a, rfl, (unhide HP).done (by have := unhide HZ; omega) (by omega), unhide HA2⟩
        · have hij' : decide ((i : Int) ≤ (j2 : Int)) = false := decide_eq_false (by omega)
          go_big_quiet (first | (go_at_call 132; refine Calls.quiet_of_same (less32 _ _ _)))
          go_wp2_with fail
          have HA1 : Hz (SoAt w (wr.drewN nq) blk off dk) := hide ((unhide HA).drewN nq)
          clear hc hf HA HG HST hij'
          generalize wr.drewN nq = W2 at *
          clear nq
          have hyes : (j2 : Int) < (i : Int) := by omega
          obtain ⟨G, hG, hc, hf⟩ := (unhide HA1).cells N (unhide HZ)
          have hm1 := mid_cell hc (i := j2) (j := a) (by omega) (by omega)
          have hm2 := mid_frozen (G := G) hf (i := j2) (j := a) (by omega)
          have hA2 := (unhide HA1).drew.swap (i := j2) (j := a) (by have := unhide HZ; omega) (by have := unhide HZ; omega)
          rw [← hG, ← hG] at hA2
          have HA2 := hide hA2
          clear hG hA2 HA1
          go_wp2_with fail
          go_region
          all_goals go_wp2_with fail
          go_ret2
          exact ⟨j2, true, Sort.swp dk j2 a, rfl, (unhide HP).done (by have := unhide HZ; omega) (by omega), unhide HA2⟩
end Go.Proofs.YtnnbaodillnkkaaGreat
