/- Texts of this claim, one behind the other. -/
import Derived.Test.YtemmflhofhngbaaM1
import Derived.Sort.LotA
import Derived.Sort.LotB
import Derived.Deep.Cut
/- partitionOrdered at runes. -/
namespace Go.Proofs.Ytemmflhofhngbaa
open Go.RowKit Go.Shelf
set_option linter.unusedVariables false
set_option maxRecDepth 100000 in
set_option maxHeartbeats 16000000 in
theorem so_part (blk off cap a b pv N : Nat) (d : Array Int) (hN : d.size = N) (hap : a ≤ pv) (hpb : pv < b) (hb : b ≤ N) (hsz : N ≤ 1000000) (w : World) (hH : Sort.Holds (Value.int .i32) w blk off d) :
    Calls Try.prog 89 #[.slice (some ⟨blk, off, none⟩) N cap, .int .i64 a, .int .i64 b, .int .i64 pv] w fun e w' => ∃ (m : Nat) (ap : Bool) (d' : Array Int), e = .returned (.tuple #[.int .i64 m, .bool ap]) ∧ PartOk a b m d d' ∧ SoAt w w' blk off d' := by
  obtain ⟨G, hG, hc, hf⟩ := (SoAt.start hH).cells N hN
  have hm1 := mid_cell hc (i := a) (j := pv) (by omega) (by omega)
  have hm2 := mid_frozen (G := G) hf (i := a) (j := pv) (by omega)
  have hA0 := (SoAt.start hH).drew.swap (i := a) (j := pv) (by omega) (by omega)
  rw [← hG, ← hG] at hA0
  have HA0 := hide hA0
  obtain ⟨p, hp⟩ : ∃ p, p = d[pv]! := ⟨_, rfl⟩
  have HP0 := hide (show PartI (fun x => Sort.ltInt x p) p a b (a + 1) (b - 1) d (Sort.swp d a pv) by rw [hp]; exact PartI.start hap hpb (by omega))
  have HZ := hide (show (Sort.swp d a pv).size = N by rw [size_swp']; exact hN)
  obtain ⟨j0, hj0⟩ : ∃ j0, j0 = b - 1 := ⟨_, rfl⟩
  rw [← hj0] at HP0
  have Hj := hide (show (b : Int) - 1 = (j0 : Int) by omega)
  have hj1 : a ≤ j0 ∧ j0 < b := by omega
  have HPV := hide hp
  clear hA0 hG hH hj0 hp hN
  go_enter Try.func89, Try.ntmps89
  go_wp2_with fail
  go_region
  all_goals go_wp2_with fail
  clear hm1 hm2 hc hf
  generalize Sort.swp d a pv = dk at *
  rw [unhide Hj]
  go_loopw [10] (fun vi wr => ∃ i : Nat, vi = .int .i64 i ∧ a + 1 ≤ i ∧ i ≤ j0 + 1 ∧ Hz (PartI (fun x => Sort.ltInt x p) p a b i j0 d dk ∧ SoAt w wr blk off dk)) (fun vi _ => j0 + 1 - (intOf vi).toNat)
  case atStart => exact ⟨a + 1, by go_num, Nat.le_refl _, by omega, hide ⟨unhide HP0, unhide HA0⟩⟩
  case round =>
    clear HP0 HA0
    obtain ⟨i, rfl, hio, hij1, HI⟩ := hrel
    have HP := hide (unhide HI).1
    have HA := hide (unhide HI).2
    clear HI
    obtain ⟨G, hG, hc, hf⟩ := (unhide HA).cells N (unhide HZ)
    have HG := hide hG
    clear hG
    go_wp2_with fail
    by_cases hij : i ≤ j0
    · have hij' : (i : Int) ≤ (j0 : Int) := by omega
      cases hl : Sort.ltInt (G i) (G a) with
      | true =>
        go_big_quiet (first | (go_at_call 87; refine Calls.quiet_of_same (less32 _ _ _)))
        go_wp2_with fail
        go_roundw
        case rel => exact ⟨i + 1, by go_num, by omega, by omega, hide ⟨(unhide HP).up hij (by rw [← unhide HG]; have hp1 := (unhide HP).at_; rw [← unhide HG] at hp1; rw [← hp1]; exact hl), (unhide HA).drewN _⟩⟩
        case measure => simp [intOf]; omega
      | false =>
        go_big_quiet (first | (go_at_call 87; refine Calls.quiet_of_same (less32 _ _ _)))
        go_wp2_with fail
        have HST : Hz (j0 < i ∨ (fun x => Sort.ltInt x p) dk[i]! = false) := hide (.inr (by rw [← unhide HG]; have hp1 := (unhide HP).at_; rw [← unhide HG] at hp1; rw [← hp1]; exact hl))
        have HA1 : Hz (SoAt w (wr.drewN nq) blk off dk) := hide ((unhide HA).drewN nq)
        clear hc hf HA HG hl
        generalize wr.drewN nq = W1 at *
        clear nq
        go_loopw [11] (fun vj wr => ∃ j2 : Nat, vj = .int .i64 j2 ∧ i ≤ j2 + 1 ∧ j2 ≤ j0 ∧ Hz (PartI (fun x => Sort.ltInt x p) p a b i j2 d dk ∧ SoAt w wr blk off dk ∧ (j2 < i ∨ (fun x => Sort.ltInt x p) dk[i]! = false))) (fun vj _ => (intOf vj).toNat)
        case atStart => exact ⟨j0, rfl, by omega, Nat.le_refl _, hide ⟨unhide HP, unhide HA1, unhide HST⟩⟩
        case round =>
          clear HP HA1 HST
          obtain ⟨j2, rfl, hij2, hjb2, HI⟩ := hrel
          have HP := hide (unhide HI).1
          have HA := hide (unhide HI).2.1
          have HST := hide (unhide HI).2.2
          clear HI
          obtain ⟨G, hG, hc, hf⟩ := (unhide HA).cells N (unhide HZ)
          have HG := hide hG
          clear hG
          go_wp2_with fail
          by_cases hij : i ≤ j2
          · have hij' : (i : Int) ≤ (j2 : Int) := by omega
            cases hl : Sort.ltInt (G j2) (G a) with
            | false =>
              go_big_quiet (first | (go_at_call 87; refine Calls.quiet_of_same (less32 _ _ _)))
              go_wp2_with fail
              go_roundw
              case rel => exact ⟨j2 - 1, by congr 1; omega, by omega, by omega, hide ⟨(unhide HP).down hij (by rw [← unhide HG]; have hp1 := (unhide HP).at_; rw [← unhide HG] at hp1; rw [← hp1]; exact hl), (unhide HA).drewN _, by rcases unhide HST with h | h; exact .inl (by omega); exact .inr h⟩⟩
              case measure => simp [intOf]; omega
            | true =>
              go_big_quiet (first | (go_at_call 87; refine Calls.quiet_of_same (less32 _ _ _)))
              go_wp2_with fail
              have hF1 : (fun x => Sort.ltInt x p) dk[i]! = false := by rcases unhide HST with h | h; omega; exact h
              have hF2 : (fun x => Sort.ltInt x p) dk[j2]! = true := by rw [← unhide HG]; have hp1 := (unhide HP).at_; rw [← unhide HG] at hp1; rw [← hp1]; exact hl
              obtain ⟨hlt, hP2⟩ := (unhide HP).swap (by have := unhide HZ; omega) hij hF1 hF2
              have HP2 := hide hP2
              have HA1 : Hz (SoAt w (wr.drewN nq) blk off dk) := hide ((unhide HA).drewN nq)
              clear hP2 hF1 hF2 hl hc hf HA HG HP HST
              generalize wr.drewN nq = W2 at *
              clear nq
              have hnot : ¬ (j2 : Int) < (i : Int) := by omega
              obtain ⟨G, hG, hc, hf⟩ := (unhide HA1).cells N (unhide HZ)
              have hm1 := mid_cell hc (i := i) (j := j2) (by omega) (by omega)
              have hm2 := mid_frozen (G := G) hf (i := i) (j := j2) (by omega)
              have hA2 := (unhide HA1).drew.swap (i := i) (j := j2) (by have := unhide HZ; omega) (by have := unhide HZ; omega)
              rw [← hG, ← hG] at hA2
              have HA2 := hide hA2
              have HZ2 := hide (show (Sort.swp dk i j2).size = N by rw [size_swp']; exact unhide HZ)
              clear hG hA2 HA1
              go_wp2_with fail
              go_region
              all_goals go_wp2_with fail
              clear hm1 hm2 hc hf
              go_loopw [10, 11] (fun vi vj wr => ∃ (i j : Nat) (dk : Array Int), vi = .int .i64 i ∧ vj = .int .i64 j ∧ a < i ∧ i ≤ j + 1 ∧ j < b ∧ Hz (PartI (fun x => Sort.ltInt x p) p a b i j d dk ∧ SoAt w wr blk off dk ∧ dk.size = N)) (fun vi vj _ => (intOf vj + 1 - intOf vi).toNat)
              case atStart => exact ⟨i + 1, j2 - 1, Sort.swp dk i j2, by go_num, by congr 1; omega, by omega, by omega, by omega, hide ⟨unhide HP2, unhide HA2, unhide HZ2⟩⟩
              case round =>
                clear HP2 HA2 HZ2 HZ
                obtain ⟨io, jo, dk, rfl, rfl, hai, hij, hjb, HI⟩ := hrel
                have HP := hide (unhide HI).1
                have HA := hide (unhide HI).2.1
                have HZ := hide (unhide HI).2.2
                clear HI
                go_wp2_with fail
                go_loopw [10] (fun vi wr => ∃ i : Nat, vi = .int .i64 i ∧ io ≤ i ∧ i ≤ jo + 1 ∧ Hz (PartI (fun x => Sort.ltInt x p) p a b i jo d dk ∧ SoAt w wr blk off dk)) (fun vi _ => jo + 1 - (intOf vi).toNat)
                case atStart => exact ⟨io, rfl, Nat.le_refl _, hij, hide ⟨unhide HP, unhide HA⟩⟩
                case round =>
                  clear HP HA
                  obtain ⟨i, rfl, hio, hij1, HI⟩ := hrel
                  have HP := hide (unhide HI).1
                  have HA := hide (unhide HI).2
                  clear HI
                  obtain ⟨G, hG, hc, hf⟩ := (unhide HA).cells N (unhide HZ)
                  have HG := hide hG
                  clear hG
                  go_wp2_with fail
                  by_cases hij : i ≤ jo
                  · have hij' : (i : Int) ≤ (jo : Int) := by omega
                    cases hl : Sort.ltInt (G i) (G a) with
                    | true =>
                      go_big_quiet (first | (go_at_call 87; refine Calls.quiet_of_same (less32 _ _ _)))
                      go_wp2_with fail
                      go_roundw
                      case rel => exact ⟨i + 1, by go_num, by omega, by omega, hide ⟨(unhide HP).up hij (by rw [← unhide HG]; have hp1 := (unhide HP).at_; rw [← unhide HG] at hp1; rw [← hp1]; exact hl), (unhide HA).drewN _⟩⟩
                      case measure => simp [intOf]; omega
                    | false =>
                      go_big_quiet (first | (go_at_call 87; refine Calls.quiet_of_same (less32 _ _ _)))
                      go_wp2_with fail
                      have HST : Hz (jo < i ∨ (fun x => Sort.ltInt x p) dk[i]! = false) := hide (.inr (by rw [← unhide HG]; have hp1 := (unhide HP).at_; rw [← unhide HG] at hp1; rw [← hp1]; exact hl))
                      have HA1 : Hz (SoAt w (wr.drewN nq) blk off dk) := hide ((unhide HA).drewN nq)
                      clear hc hf HA HG hl
                      generalize wr.drewN nq = W1 at *
                      clear nq
                      go_loopw [11] (fun vj wr => ∃ j2 : Nat, vj = .int .i64 j2 ∧ i ≤ j2 + 1 ∧ j2 ≤ jo ∧ Hz (PartI (fun x => Sort.ltInt x p) p a b i j2 d dk ∧ SoAt w wr blk off dk ∧ (j2 < i ∨ (fun x => Sort.ltInt x p) dk[i]! = false))) (fun vj _ => (intOf vj).toNat)
                      case atStart => exact ⟨jo, rfl, by omega, Nat.le_refl _, hide ⟨unhide HP, unhide HA1, unhide HST⟩⟩
                      case round =>
                        clear HP HA1 HST
                        obtain ⟨j2, rfl, hij2, hjb2, HI⟩ := hrel
                        have HP := hide (unhide HI).1
                        have HA := hide (unhide HI).2.1
                        have HST := hide (unhide HI).2.2
                        clear HI
                        obtain ⟨G, hG, hc, hf⟩ := (unhide HA).cells N (unhide HZ)
                        have HG := hide hG
                        clear hG
                        go_wp2_with fail
                        by_cases hij : i ≤ j2
                        · have hij' : (i : Int) ≤ (j2 : Int) := by omega
                          cases hl : Sort.ltInt (G j2) (G a) with
                          | false =>
                            go_big_quiet (first | (go_at_call 87; refine Calls.quiet_of_same (less32 _ _ _)))
                            go_wp2_with fail
                            go_roundw
                            case rel => exact ⟨j2 - 1, by congr 1; omega, by omega, by omega, hide ⟨(unhide HP).down hij (by rw [← unhide HG]; have hp1 := (unhide HP).at_; rw [← unhide HG] at hp1; rw [← hp1]; exact hl), (unhide HA).drewN _, by rcases unhide HST with h | h; exact .inl (by omega); exact .inr h⟩⟩
                            case measure => simp [intOf]; omega
                          | true =>
                            go_big_quiet (first | (go_at_call 87; refine Calls.quiet_of_same (less32 _ _ _)))
                            go_wp2_with fail
                            have hF1 : (fun x => Sort.ltInt x p) dk[i]! = false := by rcases unhide HST with h | h; omega; exact h
                            have hF2 : (fun x => Sort.ltInt x p) dk[j2]! = true := by rw [← unhide HG]; have hp1 := (unhide HP).at_; rw [← unhide HG] at hp1; rw [← hp1]; exact hl
                            obtain ⟨hlt, hP2⟩ := (unhide HP).swap (by have := unhide HZ; omega) hij hF1 hF2
                            have HP2 := hide hP2
                            have HA1 : Hz (SoAt w (wr.drewN nq) blk off dk) := hide ((unhide HA).drewN nq)
                            clear hP2 hF1 hF2 hl hc hf HA HG HP HST
                            generalize wr.drewN nq = W2 at *
                            clear nq
                            have hnot : ¬ (j2 : Int) < (i : Int) := by omega
                            obtain ⟨G, hG, hc, hf⟩ := (unhide HA1).cells N (unhide HZ)
                            have hm1 := mid_cell hc (i := i) (j := j2) (by omega) (by omega)
                            have hm2 := mid_frozen (G := G) hf (i := i) (j := j2) (by omega)
                            have hA2 := (unhide HA1).drew.swap (i := i) (j := j2) (by have := unhide HZ; omega) (by have := unhide HZ; omega)
                            rw [← hG, ← hG] at hA2
                            have HA2 := hide hA2
                            have HZ2 := hide (show (Sort.swp dk i j2).size = N by rw [size_swp']; exact unhide HZ)
                            clear hG hA2 HA1
                            go_wp2_with fail
                            go_region
                            all_goals go_wp2_with fail
                            clear hm1 hm2 hc hf
                            go_roundw
                            case rel => exact ⟨i + 1, j2 - 1, Sort.swp dk i j2, by go_num, by congr 1; omega, by omega, by omega, by omega, hide ⟨unhide HP2, unhide HA2, unhide HZ2⟩⟩
                            case measure => simp [intOf]; omega
                        · have hij' : decide ((i : Int) ≤ (j2 : Int)) = false := decide_eq_false (by omega)
                          go_big_quiet (first | (go_at_call 87; refine Calls.quiet_of_same (less32 _ _ _)))
                          go_wp2_with fail
                          have HA1 : Hz (SoAt w (wr.drewN nq) blk off dk) := hide ((unhide HA).drewN nq)
                          clear hc hf HA HG HST hij'
                          generalize wr.drewN nq = W2 at *
                          clear nq
                          have hyes : (j2 : Int) < (i : Int) := by omega
                          obtain ⟨G, hG, hc, hf⟩ := (unhide HA1).cells N (unhide HZ)
                          have hm1 := mid_cell hc (i := j2) (j := a) (by omega) (by omega)
                          have hm2 := mid_frozen (G := G) hf (i := j2) (j := a) (by omega)
                          have hA2 := (unhide HA1).drew.swap (i := j2) (j := a) (by have := unhide HZ; omega) (by have := unhide HZ; omega)
                          rw [← hG, ← hG] at hA2
                          have HA2 := hide hA2
                          clear hG hA2 HA1
                          go_wp2_with fail
                          go_region
                          all_goals go_wp2_with fail
                          go_ret2
                          exact ⟨j2, false, Sort.swp dk j2 a, rfl, (unhide HP).done (by have := unhide HZ; omega) (by omega), unhide HA2⟩
                  · have hij' : decide ((i : Int) ≤ (jo : Int)) = false := decide_eq_false (by omega)
                    go_big_quiet (first | (go_at_call 87; refine Calls.quiet_of_same (less32 _ _ _)))
                    go_wp2_with fail
                    have HST : Hz (jo < i ∨ (fun x => Sort.ltInt x p) dk[i]! = false) := hide (.inl (by omega))
                    have HA1 : Hz (SoAt w (wr.drewN nq) blk off dk) := hide ((unhide HA).drewN nq)
                    clear hc hf HA HG hij' hij
                    generalize wr.drewN nq = W1 at *
                    clear nq
                    go_loopw [11] (fun vj wr => ∃ j2 : Nat, vj = .int .i64 j2 ∧ i ≤ j2 + 1 ∧ j2 ≤ jo ∧ Hz (PartI (fun x => Sort.ltInt x p) p a b i j2 d dk ∧ SoAt w wr blk off dk ∧ (j2 < i ∨ (fun x => Sort.ltInt x p) dk[i]! = false))) (fun vj _ => (intOf vj).toNat)
                    case atStart => exact ⟨jo, rfl, by omega, Nat.le_refl _, hide ⟨unhide HP, unhide HA1, unhide HST⟩⟩
                    case round =>
                      clear HP HA1 HST
                      obtain ⟨j2, rfl, hij2, hjb2, HI⟩ := hrel
                      have HP := hide (unhide HI).1
                      have HA := hide (unhide HI).2.1
                      have HST := hide (unhide HI).2.2
                      clear HI
                      obtain ⟨G, hG, hc, hf⟩ := (unhide HA).cells N (unhide HZ)
                      have HG := hide hG
                      clear hG
                      go_wp2_with fail
                      by_cases hij : i ≤ j2
                      · have hij' : (i : Int) ≤ (j2 : Int) := by omega
                        cases hl : Sort.ltInt (G j2) (G a) with
                        | false =>
                          go_big_quiet (first | (go_at_call 87; refine Calls.quiet_of_same (less32 _ _ _)))
                          go_wp2_with fail
                          go_roundw
                          case rel => exact ⟨j2 - 1, by congr 1; omega, by omega, by omega, hide ⟨(unhide HP).down hij (by rw [← unhide HG]; have hp1 := (unhide HP).at_; rw [← unhide HG] at hp1; rw [← hp1]; exact hl), (unhide HA).drewN _, by rcases unhide HST with h | h; exact .inl (by omega); exact .inr h⟩⟩
                          case measure => simp [intOf]; omega
                        | true =>
                          go_big_quiet (first | (go_at_call 87; refine Calls.quiet_of_same (less32 _ _ _)))
                          go_wp2_with fail
                          have hF1 : (fun x => Sort.ltInt x p) dk[i]! = false := by rcases unhide HST with h | h; omega; exact h
                          have hF2 : (fun x => Sort.ltInt x p) dk[j2]! = true := by rw [← unhide HG]; have hp1 := (unhide HP).at_; rw [← unhide HG] at hp1; rw [← hp1]; exact hl
                          obtain ⟨hlt, hP2⟩ := (unhide HP).swap (by have := unhide HZ; omega) hij hF1 hF2
                          have HP2 := hide hP2
                          have HA1 : Hz (SoAt w (wr.drewN nq) blk off dk) := hide ((unhide HA).drewN nq)
                          clear hP2 hF1 hF2 hl hc hf HA HG HP HST
                          generalize wr.drewN nq = W2 at *
                          clear nq
                          have hnot : ¬ (j2 : Int) < (i : Int) := by omega
                          obtain ⟨G, hG, hc, hf⟩ := (unhide HA1).cells N (unhide HZ)
                          have hm1 := mid_cell hc (i := i) (j := j2) (by omega) (by omega)
                          have hm2 := mid_frozen (G := G) hf (i := i) (j := j2) (by omega)
                          have hA2 := (unhide HA1).drew.swap (i := i) (j := j2) (by have := unhide HZ; omega) (by have := unhide HZ; omega)
                          rw [← hG, ← hG] at hA2
                          have HA2 := hide hA2
                          have HZ2 := hide (show (Sort.swp dk i j2).size = N by rw [size_swp']; exact unhide HZ)
                          clear hG hA2 HA1
                          go_wp2_with fail
                          go_region
                          all_goals go_wp2_with fail
                          clear hm1 hm2 hc hf
                          go_roundw
                          case rel => exact ⟨i + 1, j2 - 1, Sort.swp dk i j2, by go_num, by congr 1; omega, by omega, by omega, by omega, hide ⟨unhide HP2, unhide HA2, unhide HZ2⟩⟩
                          case measure => simp [intOf]; omega
                      · have hij' : decide ((i : Int) ≤ (j2 : Int)) = false := decide_eq_false (by omega)
                        go_big_quiet (first | (go_at_call 87; refine Calls.quiet_of_same (less32 _ _ _)))
                        go_wp2_with fail
                        have HA1 : Hz (SoAt w (wr.drewN nq) blk off dk) := hide ((unhide HA).drewN nq)
                        clear hc hf HA HG HST hij'
                        generalize wr.drewN nq = W2 at *
                        clear nq
                        have hyes : (j2 : Int) < (i : Int) := by omega
                        obtain ⟨G, hG, hc, hf⟩ := (unhide HA1).cells N (unhide HZ)
                        have hm1 := mid_cell hc (i := j2) (j := a) (by omega) (by omega)
                        have hm2 := mid_frozen (G := G) hf (i := j2) (j := a) (by omega)
                        have hA2 := (unhide HA1).drew.swap (i := j2) (j := a) (by have := unhide HZ; omega) (by have := unhide HZ; omega)
                        rw [← hG, ← hG] at hA2
                        have HA2 := hide hA2
                        clear hG hA2 HA1
                        go_wp2_with fail
                        go_region
                        all_goals go_wp2_with fail
                        go_ret2
                        exact ⟨j2, false, Sort.swp dk j2 a, rfl, (unhide HP).done (by have := unhide HZ; omega) (by omega), unhide HA2⟩
          · have hij' : decide ((i : Int) ≤ (j2 : Int)) = false := decide_eq_false (by omega)
            go_big_quiet (first | (go_at_call 87; refine Calls.quiet_of_same (less32 _ _ _)))
            go_wp2_with fail
            have HA1 : Hz (SoAt w (wr.drewN nq) blk off dk) := hide ((unhide HA).drewN nq)
            clear hc hf HA HG HST hij'
            generalize wr.drewN nq = W2 at *
            clear nq
            have hyes : (j2 : Int) < (i : Int) := by omega
            obtain ⟨G, hG, hc, hf⟩ := (unhide HA1).cells N (unhide HZ)
            have hm1 := mid_cell hc (i := j2) (j := a) (by omega) (by omega)
            have hm2 := mid_frozen (G := G) hf (i := j2) (j := a) (by omega)
            have hA2 := (unhide HA1).drew.swap (i := j2) (j := a) (by have := unhide HZ; omega) (by have := unhide HZ; omega)
            rw [← hG, ← hG] at hA2
            have HA2 := hide hA2
            clear hG hA2 HA1
            go_wp2_with fail
            go_region
            all_goals go_wp2_with fail
            go_ret2
            exact ⟨j2, true, Sort.swp dk j2 a, rfl, (unhide HP).done (by have := unhide HZ; omega) (by omega), unhide HA2⟩
    · have hij' : decide ((i : Int) ≤ (j0 : Int)) = false := decide_eq_false (by omega)
      go_big_quiet (first | (go_at_call 87; refine Calls.quiet_of_same (less32 _ _ _)))
      go_wp2_with fail
      have HST : Hz (j0 < i ∨ (fun x => Sort.ltInt x p) dk[i]! = false) := hide (.inl (by omega))
      have HA1 : Hz (SoAt w (wr.drewN nq) blk off dk) := hide ((unhide HA).drewN nq)
      clear hc hf HA HG hij' hij
      generalize wr.drewN nq = W1 at *
      clear nq
      go_loopw [11] (fun vj wr => ∃ j2 : Nat, vj = .int .i64 j2 ∧ i ≤ j2 + 1 ∧ j2 ≤ j0 ∧ Hz (PartI (fun x => Sort.ltInt x p) p a b i j2 d dk ∧ SoAt w wr blk off dk ∧ (j2 < i ∨ (fun x => Sort.ltInt x p) dk[i]! = false))) (fun vj _ => (intOf vj).toNat)
      case atStart => exact ⟨j0, rfl, by omega, Nat.le_refl _, hide ⟨unhide HP, unhide HA1, unhide HST⟩⟩
      case round =>
        clear HP HA1 HST
        obtain ⟨j2, rfl, hij2, hjb2, HI⟩ := hrel
        have HP := hide (unhide HI).1
        have HA := hide (unhide HI).2.1
        have HST := hide (unhide HI).2.2
        clear HI
        obtain ⟨G, hG, hc, hf⟩ := (unhide HA).cells N (unhide HZ)
        have HG := hide hG
        clear hG
        go_wp2_with fail
        by_cases hij : i ≤ j2
        · have hij' : (i : Int) ≤ (j2 : Int) := by omega
          cases hl : Sort.ltInt (G j2) (G a) with
          | false =>
            go_big_quiet (first | (go_at_call 87; refine Calls.quiet_of_same (less32 _ _ _)))
            go_wp2_with fail
            go_roundw
            case rel => exact ⟨j2 - 1, by congr 1; omega, by omega, by omega, hide ⟨(unhide HP).down hij (by rw [← unhide HG]; have hp1 := (unhide HP).at_; rw [← unhide HG] at hp1; rw [← hp1]; exact hl), (unhide HA).drewN _, by rcases unhide HST with h | h; exact .inl (by omega); exact .inr h⟩⟩
            case measure => simp [intOf]; omega
          | true =>
            go_big_quiet (first | (go_at_call 87; refine Calls.quiet_of_same (less32 _ _ _)))
            go_wp2_with fail
            have hF1 : (fun x => Sort.ltInt x p) dk[i]! = false := by rcases unhide HST with h | h; omega; exact h
            have hF2 : (fun x => Sort.ltInt x p) dk[j2]! = true := by rw [← unhide HG]; have hp1 := (unhide HP).at_; rw [← unhide HG] at hp1; rw [← hp1]; exact hl
            obtain ⟨hlt, hP2⟩ := (unhide HP).swap (by have := unhide HZ; omega) hij hF1 hF2
            have HP2 := hide hP2
            have HA1 : Hz (SoAt w (wr.drewN nq) blk off dk) := hide ((unhide HA).drewN nq)
            clear hP2 hF1 hF2 hl hc hf HA HG HP HST
            generalize wr.drewN nq = W2 at *
            clear nq
            have hnot : ¬ (j2 : Int) < (i : Int) := by omega
            obtain ⟨G, hG, hc, hf⟩ := (unhide HA1).cells N (unhide HZ)
            have hm1 := mid_cell hc (i := i) (j := j2) (by omega) (by omega)
            have hm2 := mid_frozen (G := G) hf (i := i) (j := j2) (by omega)
            have hA2 := (unhide HA1).drew.swap (i := i) (j := j2) (by have := unhide HZ; omega) (by have := unhide HZ; omega)
            rw [← hG, ← hG] at hA2
            have HA2 := hide hA2
            have HZ2 := hide (show (Sort.swp dk i j2).size = N by rw [size_swp']; exact unhide HZ)
            clear hG hA2 HA1
            go_wp2_with fail
            go_region
            all_goals go_wp2_with fail
            clear hm1 hm2 hc hf
            go_loopw [10, 11] (fun vi vj wr => ∃ (i j : Nat) (dk : Array Int), vi = .int .i64 i ∧ vj = .int .i64 j ∧ a < i ∧ i ≤ j + 1 ∧ j < b ∧ Hz (PartI (fun x => Sort.ltInt x p) p a b i j d dk ∧ SoAt w wr blk off dk ∧ dk.size = N)) (fun vi vj _ => (intOf vj + 1 - intOf vi).toNat)
            case atStart => exact ⟨i + 1, j2 - 1, Sort.swp dk i j2, by go_num, by congr 1; omega, by omega, by omega, by omega, hide ⟨unhide HP2, unhide HA2, unhide HZ2⟩⟩
            case round =>
              clear HP2 HA2 HZ2 HZ
              obtain ⟨io, jo, dk, rfl, rfl, hai, hij, hjb, HI⟩ := hrel
              have HP := hide (unhide HI).1
              have HA := hide (unhide HI).2.1
              have HZ := hide (unhide HI).2.2
              clear HI
              go_wp2_with fail
              go_loopw [10] (fun vi wr => ∃ i : Nat, vi = .int .i64 i ∧ io ≤ i ∧ i ≤ jo + 1 ∧ Hz (PartI (fun x => Sort.ltInt x p) p a b i jo d dk ∧ SoAt w wr blk off dk)) (fun vi _ => jo + 1 - (intOf vi).toNat)
              case atStart => exact ⟨io, rfl, Nat.le_refl _, hij, hide ⟨unhide HP, unhide HA⟩⟩
              case round =>
                clear HP HA
                obtain ⟨i, rfl, hio, hij1, HI⟩ := hrel
                have HP := hide (unhide HI).1
                have HA := hide (unhide HI).2
                clear HI
                obtain ⟨G, hG, hc, hf⟩ := (unhide HA).cells N (unhide HZ)
                have HG := hide hG
                clear hG
                go_wp2_with fail
                by_cases hij : i ≤ jo
                · have hij' : (i : Int) ≤ (jo : Int) := by omega
                  cases hl : Sort.ltInt (G i) (G a) with
                  | true =>
                    go_big_quiet (first | (go_at_call 87; refine Calls.quiet_of_same (less32 _ _ _)))
                    go_wp2_with fail
                    go_roundw
                    case rel => exact ⟨i + 1, by go_num, by omega, by omega, hide ⟨(unhide HP).up hij (by rw [← unhide HG]; have hp1 := (unhide HP).at_; rw [← unhide HG] at hp1; rw [← hp1]; exact hl), (unhide HA).drewN _⟩⟩
                    case measure => simp [intOf]; omega
                  | false =>
                    go_big_quiet (first | (go_at_call 87; refine Calls.quiet_of_same (less32 _ _ _)))
                    go_wp2_with fail
                    have HST : Hz (jo < i ∨ (fun x => Sort.ltInt x p) dk[i]! = false) := hide (.inr (by rw [← unhide HG]; have hp1 := (unhide HP).at_; rw [← unhide HG] at hp1; rw [← hp1]; exact hl))
                    have HA1 : Hz (SoAt w (wr.drewN nq) blk off dk) := hide ((unhide HA).drewN nq)
                    clear hc hf HA HG hl
                    generalize wr.drewN nq = W1 at *
                    clear nq
                    go_loopw [11] (fun vj wr => ∃ j2 : Nat, vj = .int .i64 j2 ∧ i ≤ j2 + 1 ∧ j2 ≤ jo ∧ Hz (PartI (fun x => Sort.ltInt x p) p a b i j2 d dk ∧ SoAt w wr blk off dk ∧ (j2 < i ∨ (fun x => Sort.ltInt x p) dk[i]! = false))) (fun vj _ => (intOf vj).toNat)
                    case atStart => exact ⟨jo, rfl, by omega, Nat.le_refl _, hide ⟨unhide HP, unhide HA1, unhide HST⟩⟩
                    case round =>
                      clear HP HA1 HST
                      obtain ⟨j2, rfl, hij2, hjb2, HI⟩ := hrel
                      have HP := hide (unhide HI).1
                      have HA := hide (unhide HI).2.1
                      have HST := hide (unhide HI).2.2
                      clear HI
                      obtain ⟨G, hG, hc, hf⟩ := (unhide HA).cells N (unhide HZ)
                      have HG := hide hG
                      clear hG
                      go_wp2_with fail
                      by_cases hij : i ≤ j2
                      · have hij' : (i : Int) ≤ (j2 : Int) := by omega
                        cases hl : Sort.ltInt (G j2) (G a) with
                        | false =>
                          go_big_quiet (first | (go_at_call 87; refine Calls.quiet_of_same (less32 _ _ _)))
                          go_wp2_with fail
                          go_roundw
                          case rel => exact ⟨j2 - 1, by congr 1; omega, by omega, by omega, hide ⟨(unhide HP).down hij (by rw [← unhide HG]; have hp1 := (unhide HP).at_; rw [← unhide HG] at hp1; rw [← hp1]; exact hl), (unhide HA).drewN _, by rcases unhide HST with h | h; exact .inl (by omega); exact .inr h⟩⟩
                          case measure => simp [intOf]; omega
                        | true =>
                          go_big_quiet (first | (go_at_call 87; refine Calls.quiet_of_same (less32 _ _ _)))
                          go_wp2_with fail
                          have hF1 : (fun x => Sort.ltInt x p) dk[i]! = false := by rcases unhide HST with h | h; omega; exact h
                          have hF2 : (fun x => Sort.ltInt x p) dk[j2]! = true := by rw [← unhide HG]; have hp1 := (unhide HP).at_; rw [← unhide HG] at hp1; rw [← hp1]; exact hl
                          obtain ⟨hlt, hP2⟩ := (unhide HP).swap (by have := unhide HZ; omega) hij hF1 hF2
                          have HP2 := hide hP2
                          have HA1 : Hz (SoAt w (wr.drewN nq) blk off dk) := hide ((unhide HA).drewN nq)
                          clear hP2 hF1 hF2 hl hc hf HA HG HP HST
                          generalize wr.drewN nq = W2 at *
                          clear nq
                          have hnot : ¬ (j2 : Int) < (i : Int) := by omega
                          obtain ⟨G, hG, hc, hf⟩ := (unhide HA1).cells N (unhide HZ)
                          have hm1 := mid_cell hc (i := i) (j := j2) (by omega) (by omega)
                          have hm2 := mid_frozen (G := G) hf (i := i) (j := j2) (by omega)
                          have hA2 := (unhide HA1).drew.swap (i := i) (j := j2) (by have := unhide HZ; omega) (by have := unhide HZ; omega)
                          rw [← hG, ← hG] at hA2
                          have HA2 := hide hA2
                          have HZ2 := hide (show (Sort.swp dk i j2).size = N by rw [size_swp']; exact unhide HZ)
                          clear hG hA2 HA1
                          go_wp2_with fail
                          go_region
                          all_goals go_wp2_with fail
                          clear hm1 hm2 hc hf
                          go_roundw
                          case rel => exact ⟨i + 1, j2 - 1, Sort.swp dk i j2, by go_num, by congr 1; omega, by omega, by omega, by omega, hide ⟨unhide HP2, unhide HA2, unhide HZ2⟩⟩
                          case measure => simp [intOf]; omega
                      · have hij' : decide ((i : Int) ≤ (j2 : Int)) = false := decide_eq_false (by omega)
                        go_big_quiet (first | (go_at_call 87; refine Calls.quiet_of_same (less32 _ _ _)))
                        go_wp2_with fail
                        have HA1 : Hz (SoAt w (wr.drewN nq) blk off dk) := hide ((unhide HA).drewN nq)
                        clear hc hf HA HG HST hij'
                        generalize wr.drewN nq = W2 at *
                        clear nq
                        have hyes : (j2 : Int) < (i : Int) := by omega
                        obtain ⟨G, hG, hc, hf⟩ := (unhide HA1).cells N (unhide HZ)
                        have hm1 := mid_cell hc (i := j2) (j := a) (by omega) (by omega)
                        have hm2 := mid_frozen (G := G) hf (i := j2) (j := a) (by omega)
                        have hA2 := (unhide HA1).drew.swap (i := j2) (j := a) (by have := unhide HZ; omega) (by have := unhide HZ; omega)
                        rw [← hG, ← hG] at hA2
                        have HA2 := hide hA2
                        clear hG hA2 HA1
                        go_wp2_with fail
                        go_region
                        all_goals go_wp2_with fail
                        go_ret2
                        exact ⟨j2, false, Sort.swp dk j2 a, rfl, (unhide HP).done (by have := unhide HZ; omega) (by omega), unhide HA2⟩
                · have hij' : decide ((i : Int) ≤ (jo : Int)) = false := decide_eq_false (by omega)
                  go_big_quiet (first | (go_at_call 87; refine Calls.quiet_of_same (less32 _ _ _)))
                  go_wp2_with fail
                  have HST : Hz (jo < i ∨ (fun x => Sort.ltInt x p) dk[i]! = false) := hide (.inl (by omega))
                  have HA1 : Hz (SoAt w (wr.drewN nq) blk off dk) := hide ((unhide HA).drewN nq)
                  clear hc hf HA HG hij' hij
                  generalize wr.drewN nq = W1 at *
                  clear nq
                  go_loopw [11] (fun vj wr => ∃ j2 : Nat, vj = .int .i64 j2 ∧ i ≤ j2 + 1 ∧ j2 ≤ jo ∧ Hz (PartI (fun x => Sort.ltInt x p) p a b i j2 d dk ∧ SoAt w wr blk off dk ∧ (j2 < i ∨ (fun x => Sort.ltInt x p) dk[i]! = false))) (fun vj _ => (intOf vj).toNat)
                  case atStart => exact ⟨jo, rfl, by omega, Nat.le_refl _, hide ⟨unhide HP, unhide HA1, unhide HST⟩⟩
                  case round =>
                    clear HP HA1 HST
                    obtain ⟨j2, rfl, hij2, hjb2, HI⟩ := hrel
                    have HP := hide (unhide HI).1
                    have HA := hide (unhide HI).2.1
                    have HST := hide (unhide HI).2.2
                    clear HI
                    obtain ⟨G, hG, hc, hf⟩ := (unhide HA).cells N (unhide HZ)
                    have HG := hide hG
                    clear hG
                    go_wp2_with fail
                    by_cases hij : i ≤ j2
                    · have hij' : (i : Int) ≤ (j2 : Int) := by omega
                      cases hl : Sort.ltInt (G j2) (G a) with
                      | false =>
                        go_big_quiet (first | (go_at_call 87; refine Calls.quiet_of_same (less32 _ _ _)))
                        go_wp2_with fail
                        go_roundw
                        case rel => exact ⟨j2 - 1, by congr 1; omega, by omega, by omega, hide ⟨(unhide HP).down hij (by rw [← unhide HG]; have hp1 := (unhide HP).at_; rw [← unhide HG] at hp1; rw [← hp1]; exact hl), (unhide HA).drewN _, by rcases unhide HST with h | h; exact .inl (by omega); exact .inr h⟩⟩
                        case measure => simp [intOf]; omega
                      | true =>
                        go_big_quiet (first | (go_at_call 87; refine Calls.quiet_of_same (less32 _ _ _)))
                        go_wp2_with fail
                        have hF1 : (fun x => Sort.ltInt x p) dk[i]! = false := by rcases unhide HST with h | h; omega; exact h
                        have hF2 : (fun x => Sort.ltInt x p) dk[j2]! = true := by rw [← unhide HG]; have hp1 := (unhide HP).at_; rw [← unhide HG] at hp1; rw [← hp1]; exact hl
                        obtain ⟨hlt, hP2⟩ := (unhide HP).swap (by have := unhide HZ; omega) hij hF1 hF2
                        have HP2 := hide hP2
                        have HA1 : Hz (SoAt w (wr.drewN nq) blk off dk) := hide ((unhide HA).drewN nq)
                        clear hP2 hF1 hF2 hl hc hf HA HG HP HST
                        generalize wr.drewN nq = W2 at *
                        clear nq
                        have hnot : ¬ (j2 : Int) < (i : Int) := by omega
                        obtain ⟨G, hG, hc, hf⟩ := (unhide HA1).cells N (unhide HZ)
                        have hm1 := mid_cell hc (i := i) (j := j2) (by omega) (by omega)
                        have hm2 := mid_frozen (G := G) hf (i := i) (j := j2) (by omega)
                        have hA2 := (unhide HA1).drew.swap (i := i) (j := j2) (by have := unhide HZ; omega) (by have := unhide HZ; omega)
                        rw [← hG, ← hG] at hA2
                        have HA2 := hide hA2
                        have HZ2 := hide (show (Sort.swp dk i j2).size = N by rw [size_swp']; exact unhide HZ)
                        clear hG hA2 HA1
                        go_wp2_with fail
                        go_region
                        all_goals go_wp2_with fail
                        clear hm1 hm2 hc hf
                        go_roundw
                        case rel => exact ⟨i + 1, j2 - 1, Sort.swp dk i j2, by go_num, by congr 1; omega, by omega, by omega, by omega, hide ⟨unhide HP2, unhide HA2, unhide HZ2⟩⟩
                        case measure => simp [intOf]; omega
                    · have hij' : decide ((i : Int) ≤ (j2 : Int)) = false := decide_eq_false (by omega)
                      go_big_quiet (first | (go_at_call 87; refine Calls.quiet_of_same (less32 _ _ _)))
                      go_wp2_with fail
                      have HA1 : Hz (SoAt w (wr.drewN nq) blk off dk) := hide ((unhide HA).drewN nq)
                      clear hc hf HA HG HST hij'
                      generalize wr.drewN nq = W2 at *
                      clear nq
                      have hyes : (j2 : Int) < (i : Int) := by omega
                      obtain ⟨G, hG, hc, hf⟩ := (unhide HA1).cells N (unhide HZ)
                      have hm1 := mid_cell hc (i := j2) (j := a) (by omega) (by omega)
                      have hm2 := mid_frozen (G := G) hf (i := j2) (j := a) (by omega)
                      have hA2 := (unhide HA1).drew.swap (i := j2) (j := a) (by have := unhide HZ; omega) (by have := unhide HZ; omega)
                      rw [← hG, ← hG] at hA2
                      have HA2 := hide hA2
                      clear hG hA2 HA1
                      go_wp2_with fail
                      go_region
                      all_goals go_wp2_with fail
                      go_ret2
                      exact ⟨j2, false, Sort.swp dk j2 a, rfl, (unhide HP).done (by have := unhide HZ; omega) (by omega), unhide HA2⟩
        · have hij' : decide ((i : Int) ≤ (j2 : Int)) = false := decide_eq_false (by omega)
          go_big_quiet (first | (go_at_call 87; refine Calls.quiet_of_same (less32 _ _ _)))
          go_wp2_with fail
          have HA1 : Hz (SoAt w (wr.drewN nq) blk off dk) := hide ((unhide HA).drewN nq)
          clear hc hf HA HG HST hij'
          generalize wr.drewN nq = W2 at *
          clear nq
          have hyes : (j2 : Int) < (i : Int) := by omega
          obtain ⟨G, hG, hc, hf⟩ := (unhide HA1).cells N (unhide HZ)
          have hm1 := mid_cell hc (i := j2) (j := a) (by omega) (by omega)
          have hm2 := mid_frozen (G := G) hf (i := j2) (j := a) (by omega)
          have hA2 := (unhide HA1).drew.swap (i := j2) (j := a) (by have := unhide HZ; omega) (by have := unhide HZ; omega)
          rw [← hG, ← hG] at hA2
          have HA2 := hide hA2
          clear hG hA2 HA1
          go_wp2_with fail
          go_region
          all_goals go_wp2_with fail
          go_ret2
          exact ⟨j2, true, Sort.swp dk j2 a, rfl, (unhide HP).done (by have := unhide HZ; omega) (by omega), unhide HA2⟩
end Go.Proofs.Ytemmflhofhngbaa
/- partialInsertionSortOrdered at runes. -/
namespace Go.Proofs.Ytemmflhofhngbaa
open Go.RowKit Go.Shelf
set_option linter.unusedVariables false
theorem ss_go {d : Array Int} {b i : Nat} (h : i < b) (hl : Sort.ltInt d[i]! d[i - 1]! = false) : Sort.scanSorted Sort.ltInt d b i = Sort.scanSorted Sort.ltInt d b (i + 1) := by
  rw [Sort.scanSorted, if_pos (by rw [hl]; simpa using h)]
theorem ss_stop {d : Array Int} {b i : Nat} (h : ¬ i < b ∨ Sort.ltInt d[i]! d[i - 1]! = true) : Sort.scanSorted Sort.ltInt d b i = i := by
  rw [Sort.scanSorted, if_neg (by
    intro e
    rcases Bool.and_eq_true_iff.1 e with ⟨e1, e2⟩
    have := of_decide_eq_true e1
    rcases h with h | h
    · omega
    · rw [h] at e2; exact absurd e2 (by decide))]
theorem dn_go {d : Array Int} {j : Nat} (h : 1 ≤ j) (hl : Sort.ltInt d[j]! d[j - 1]! = true) : Sort.shiftDown Sort.ltInt j d = Sort.shiftDown Sort.ltInt (j - 1) (Sort.swp d j (j - 1)) := by
  cases j with
  | zero => omega
  | succ k =>
    rw [Nat.add_sub_cancel] at hl ⊢
    show (if _ then _ else _) = _
    rw [if_neg (by rw [hl]; decide)]
theorem dn_stop {d : Array Int} {j : Nat} (h : ¬ 1 ≤ j ∨ Sort.ltInt d[j]! d[j - 1]! = false) : Sort.shiftDown Sort.ltInt j d = d := by
  cases j with
  | zero => rfl
  | succ k =>
    rw [Nat.add_sub_cancel] at h
    show (if _ then _ else _) = _
    rw [if_pos (by
      rcases h with h | h
      · omega
      · rw [h]; decide)]
theorem su_go {d : Array Int} {b j : Nat} (h : j < b) (hl : Sort.ltInt d[j]! d[j - 1]! = true) : Sort.shiftUp Sort.ltInt b j d = Sort.shiftUp Sort.ltInt b (j + 1) (Sort.swp d j (j - 1)) := by
  rw [Sort.shiftUp, if_pos h, if_neg (by rw [hl]; decide)]
theorem su_stop {d : Array Int} {b j : Nat} (h : ¬ j < b ∨ Sort.ltInt d[j]! d[j - 1]! = false) : Sort.shiftUp Sort.ltInt b j d = d := by
  rw [Sort.shiftUp]
  by_cases hb : j < b
  · rw [if_pos hb, if_pos (by
      rcases h with h | h
      · omega
      · rw [h]; decide)]
  · rw [if_neg hb]
theorem pI_true {a b m i : Nat} {d : Array Int} (hk : Sort.scanSorted Sort.ltInt d b i = b) : Sort.partialIns Sort.ltInt a b (m + 1) i d = (d, true) := by
  rw [Sort.partialIns]
  simp only [hk, if_true]
theorem pI_false {a b m i k : Nat} {d : Array Int} (hk : Sort.scanSorted Sort.ltInt d b i = k) (h1 : k ≠ b) (h2 : b - a < 50) : Sort.partialIns Sort.ltInt a b (m + 1) i d = (d, false) := by
  rw [Sort.partialIns]
  simp only [hk, if_neg h1, if_pos h2]
def dnD (a k : Nat) (d : Array Int) : Array Int := if k - a ≥ 2 then Sort.shiftDown Sort.ltInt (k - 1) d else d
def upD (b k : Nat) (d : Array Int) : Array Int := if b - k ≥ 2 then Sort.shiftUp Sort.ltInt b (k + 1) d else d
theorem pI_next {a b m i k : Nat} {d : Array Int} (hk : Sort.scanSorted Sort.ltInt d b i = k) (h1 : k ≠ b) (h2 : ¬ b - a < 50) : Sort.partialIns Sort.ltInt a b (m + 1) i d = Sort.partialIns Sort.ltInt a b m k (upD b k (dnD a k (Sort.swp d k (k - 1)))) := by
  rw [Sort.partialIns]
  simp only [hk, if_neg h1, if_neg h2]
  rfl
set_option maxRecDepth 100000 in
set_option maxHeartbeats 16000000 in
theorem so_partial (blk off cap a b N : Nat) (d : Array Int) (hN : d.size = N) (hab : a < b) (hb : b ≤ N) (hsz : N ≤ 1000000) (w : World) (hH : Sort.Holds (Value.int .i32) w blk off d) :
    Calls Try.prog 86 #[.slice (some ⟨blk, off, none⟩) N cap, .int .i64 a, .int .i64 b] w fun e w' => e = .returned (.bool (Sort.partialInsertionSort Sort.ltInt d a b).2) ∧ SoAt w w' blk off (Sort.partialInsertionSort Sort.ltInt d a b).1 := by
  have HS := hide (SoAt.start hH)
  have HN := hide hN
  obtain ⟨R, hR⟩ : ∃ R, R = Sort.partialInsertionSort Sort.ltInt d a b := ⟨_, rfl⟩
  rw [← hR]
  have HR := hide (show Sort.partialIns Sort.ltInt a b 5 (a + 1) d = R by rw [hR]; rfl)
  clear hH hN hR
  go_enter Try.func86, Try.ntmps86
  go_wp2_with fail
  go_loopw [7, 8] (fun vi vs wr => ∃ (i s : Nat) (dk0 : Array Int), vi = .int .i64 i ∧ vs = .int .i64 s ∧ s ≤ 5 ∧ a < i ∧ i ≤ b ∧ Hz (dk0.size = N ∧ SoAt w wr blk off dk0 ∧ Sort.partialIns Sort.ltInt a b (5 - s) i dk0 = R)) (fun vi vs _ => 5 - (intOf vs).toNat)
  case atStart => exact ⟨a + 1, 0, d, by go_num, rfl, by omega, by omega, by omega, hide ⟨unhide HN, unhide HS, unhide HR⟩⟩
  case round =>
    clear HS HR
    obtain ⟨i, s, dk0, rfl, rfl, hs, hai, hib, HI⟩ := hrel
    have HZ := hide (unhide HI).1
    have HA := hide (unhide HI).2.1
    have HE := hide (unhide HI).2.2
    clear HI
    by_cases hs5 : s < 5
    · have hs5' : (s : Int) < 5 := by omega
      rw [show 5 - s = 4 - s + 1 by omega] at HE
      go_wp2_with fail
      go_loopw [7] (fun vi wr => ∃ (k : Nat), vi = .int .i64 k ∧ i ≤ k ∧ k ≤ b ∧ Hz (SoAt w wr blk off dk0 ∧ Sort.scanSorted Sort.ltInt dk0 b i = Sort.scanSorted Sort.ltInt dk0 b k)) (fun vi _ => b - (intOf vi).toNat)
      case atStart => exact ⟨i, rfl, Nat.le_refl _, hib, hide ⟨unhide HA, rfl⟩⟩
      case round =>
        clear HA
        obtain ⟨k, rfl, hik, hkb, HI⟩ := hrel
        have HA := hide (unhide HI).1
        have HK := hide (unhide HI).2
        clear HI
        obtain ⟨G, hG, hc, hf⟩ := (unhide HA).cells N (unhide HZ)
        have HG := hide hG
        clear hG
        go_wp2_with fail
        by_cases hlt : k < b
        · have hlt' : (k : Int) < (b : Int) := by omega
          cases hl : Sort.ltInt (G k) (G (k - 1)) with
          | false =>
            go_big_quiet (first | (go_at_call 87; refine Calls.quiet_of_same (less32 _ _ _)))
            go_wp2_with fail
            go_roundw
            case rel => exact ⟨k + 1, by go_num, by omega, by omega, hide ⟨(unhide HA).drewN _, by rw [unhide HK, ss_go hlt (by rw [← unhide HG, ← unhide HG]; exact hl)]⟩⟩
            case measure => simp [intOf]; omega
          | true =>
            have hne : ((k : Int) == (b : Int)) = false := beq_eq_false_iff_ne.2 (by omega)
            have HK2 : Hz (Sort.scanSorted Sort.ltInt dk0 b i = k) := hide (by rw [unhide HK, ss_stop (.inr (by rw [← unhide HG, ← unhide HG]; exact hl))])
            by_cases h50 : b < a + 50
            · have h50' : (b : Int) - (a : Int) < 50 := by omega
              go_big_quiet (first | (go_at_call 87; refine Calls.quiet_of_same (less32 _ _ _)))
              go_wp2_with fail
              go_ret
              exact ⟨by rw [← unhide HE, pI_false (unhide HK2) (by omega) (by omega)]; rfl, by rw [← unhide HE, pI_false (unhide HK2) (by omega) (by omega)]; exact (unhide HA).drewN _⟩
            · have h50' : ¬ (b : Int) - (a : Int) < 50 := by omega
              go_big_quiet (first | (go_at_call 87; refine Calls.quiet_of_same (less32 _ _ _)))
              go_wp2_with fail
              have HA1 : Hz (SoAt w (wr.drewN nq) blk off dk0) := hide ((unhide HA).drewN nq)
              clear HK hl hc hf HA HG
              generalize wr.drewN nq = W1 at *
              clear nq
              rw [pI_next (unhide HK2) (by omega) (by omega)] at HE
              obtain ⟨G, hG, hc, hf⟩ := (unhide HA1).cells N (unhide HZ)
              have hm1 := mid_cell hc (i := k) (j := k - 1) (by omega) (by omega)
              have hm2 := mid_frozen (G := G) hf (i := k) (j := k - 1) (by omega)
              have hA2 := (unhide HA1).drew.swap (i := k) (j := k - 1) (by have := unhide HZ; omega) (by have := unhide HZ; omega)
              rw [← hG, ← hG] at hA2
              have HA2 := hide hA2
              clear hG hA2
              clear HA1
              have HZ3 := hide (show (Sort.swp dk0 k (k - 1)).size = N by rw [size_swp']; exact unhide HZ)
              by_cases h2 : a + 2 ≤ k
              · have h2' : (2 : Int) ≤ (k : Int) - (a : Int) := by omega
                by_cases h3 : k + 2 ≤ b
                · have h3' : (2 : Int) ≤ (b : Int) - (k : Int) := by omega
                  go_region
                  all_goals go_wp2_with fail
                  clear HZ hm1 hm2 hc hf
                  have HZ := HZ3
                  have HA := HA2
                  clear HZ3 HA2
                  go_loopw [9] (fun vj wr => ∃ (j : Nat) (dn : Array Int), vj = .int .i64 j ∧ j ≤ k - 1 ∧ Hz (dn.size = N ∧ SoAt w wr blk off dn ∧ Sort.shiftDown Sort.ltInt j dn = dnD a k (Sort.swp dk0 k (k - 1)))) (fun vj _ => (intOf vj).toNat)
                  case atStart => exact ⟨k - 1, Sort.swp dk0 k (k - 1), by congr 1; omega, Nat.le_refl _, hide ⟨unhide HZ, unhide HA, by unfold dnD; rw [if_pos (by omega)]⟩⟩
                  case round =>
                    clear HZ HA
                    obtain ⟨j, dn, rfl, hj1, HI⟩ := hrel
                    have HZ := hide (unhide HI).1
                    have HA := hide (unhide HI).2.1
                    have HU := hide (unhide HI).2.2
                    clear HI
                    obtain ⟨G, hG, hc, hf⟩ := (unhide HA).cells N (unhide HZ)
                    have HG := hide hG
                    clear hG
                    by_cases hjb : 1 ≤ j
                    · have hjb' : (1 : Int) ≤ (j : Int) := by omega
                      cases hl : Sort.ltInt (G j) (G (j - 1)) with
                      | true =>
                        go_wp2_with fail
                        go_big_quiet (first | (go_at_call 87; refine Calls.quiet_of_same (less32 _ _ _)))
                        go_wp2_with fail
                        have HA1 : Hz (SoAt w (wr.drewN nq) blk off dn) := hide ((unhide HA).drewN nq)
                        have HL := hide (show Sort.ltInt dn[j]! dn[j - 1]! = true by rw [← unhide HG, ← unhide HG]; exact hl)
                        clear hc hf HA HG hl
                        generalize wr.drewN nq = W1 at *
                        clear nq
                        obtain ⟨G, hG, hc, hf⟩ := (unhide HA1).cells N (unhide HZ)
                        have hm1 := mid_cell hc (i := j) (j := j - 1) (by omega) (by omega)
                        have hm2 := mid_frozen (G := G) hf (i := j) (j := j - 1) (by omega)
                        have hA2 := (unhide HA1).drew.swap (i := j) (j := j - 1) (by have := unhide HZ; omega) (by have := unhide HZ; omega)
                        rw [← hG, ← hG] at hA2
                        have HA2 := hide hA2
                        clear hG hA2
                        clear HA1
                        go_region
                        all_goals go_wp2_with fail
                        go_roundw
                        case rel => exact ⟨j - 1, Sort.swp dn j (j - 1), by congr 1; omega, by omega, hide ⟨by rw [size_swp']; exact unhide HZ, unhide HA2, by rw [← dn_go hjb (unhide HL)]; exact unhide HU⟩⟩
                        case measure => simp [intOf]; omega
                      | false =>
                        go_wp2_with fail
                        go_big_quiet (first | (go_at_call 87; refine Calls.quiet_of_same (less32 _ _ _)))
                        go_wp2_with fail
                        have HD : Hz (dnD a k (Sort.swp dk0 k (k - 1)) = dn) := hide (by rw [← unhide HU, dn_stop (.inr (by rw [← unhide HG, ← unhide HG]; exact hl))])
                        have HA1 : Hz (SoAt w (wr.drewN nq) blk off dn) := hide ((unhide HA).drewN nq)
                        clear HA
                        have HA := HA1
                        clear hc hf HG hl HU HA1
                        generalize wr.drewN nq = W3 at *
                        clear nq
                        go_loopw [10] (fun vj wr => ∃ (j : Nat) (du : Array Int), vj = .int .i64 j ∧ k + 1 ≤ j ∧ j ≤ b ∧ Hz (du.size = N ∧ SoAt w wr blk off du ∧ Sort.shiftUp Sort.ltInt b j du = upD b k (dnD a k (Sort.swp dk0 k (k - 1))))) (fun vj _ => b - (intOf vj).toNat)
                        case atStart => exact ⟨k + 1, dn, by go_num, by omega, by omega, hide ⟨unhide HZ, unhide HA, by rw [unhide HD]; unfold upD; rw [if_pos (by omega)]⟩⟩
                        case round =>
                          clear HZ HA HD
                          obtain ⟨j, du, rfl, hj1, hj2, HI⟩ := hrel
                          have HZ := hide (unhide HI).1
                          have HA := hide (unhide HI).2.1
                          have HU := hide (unhide HI).2.2
                          clear HI
                          obtain ⟨G, hG, hc, hf⟩ := (unhide HA).cells N (unhide HZ)
                          have HG := hide hG
                          clear hG
                          by_cases hjb : j < b
                          · have hjb' : (j : Int) < (b : Int) := by omega
                            cases hl : Sort.ltInt (G j) (G (j - 1)) with
                            | true =>
                              go_wp2_with fail
                              go_big_quiet (first | (go_at_call 87; refine Calls.quiet_of_same (less32 _ _ _)))
                              go_wp2_with fail
                              have HA1 : Hz (SoAt w (wr.drewN nq) blk off du) := hide ((unhide HA).drewN nq)
                              have HL := hide (show Sort.ltInt du[j]! du[j - 1]! = true by rw [← unhide HG, ← unhide HG]; exact hl)
                              clear hc hf HA HG hl
                              generalize wr.drewN nq = W1 at *
                              clear nq
                              obtain ⟨G, hG, hc, hf⟩ := (unhide HA1).cells N (unhide HZ)
                              have hm1 := mid_cell hc (i := j) (j := j - 1) (by omega) (by omega)
                              have hm2 := mid_frozen (G := G) hf (i := j) (j := j - 1) (by omega)
                              have hA2 := (unhide HA1).drew.swap (i := j) (j := j - 1) (by have := unhide HZ; omega) (by have := unhide HZ; omega)
                              rw [← hG, ← hG] at hA2
                              have HA2 := hide hA2
                              clear hG hA2
                              clear HA1
                              go_region
                              all_goals go_wp2_with fail
                              go_roundw
                              case rel => exact ⟨j + 1, Sort.swp du j (j - 1), by go_num, by omega, by omega, hide ⟨by rw [size_swp']; exact unhide HZ, unhide HA2, by rw [← su_go hjb (unhide HL)]; exact unhide HU⟩⟩
                              case measure => simp [intOf]; omega
                            | false =>
                              go_wp2_with fail
                              go_big_quiet (first | (go_at_call 87; refine Calls.quiet_of_same (less32 _ _ _)))
                              go_wp2_with fail
                              have HD : Hz (upD b k (dnD a k (Sort.swp dk0 k (k - 1))) = du) := hide (by rw [← unhide HU, su_stop (.inr (by rw [← unhide HG, ← unhide HG]; exact hl))])
                              have HA1 : Hz (SoAt w (wr.drewN nq) blk off du) := hide ((unhide HA).drewN nq)
                              clear HA
                              have HA := HA1
                              clear hc hf HG hl HU HA1
                              go_roundw
                              case rel => exact ⟨k, s + 1, du, rfl, by go_num, by omega, by omega, by omega, hide ⟨unhide HZ, unhide HA, by rw [show 5 - (s + 1) = 4 - s by omega, ← unhide HD]; exact unhide HE⟩⟩
                              case measure => simp [intOf]; omega
                          · have hjb' : ¬ (j : Int) < (b : Int) := by omega
                            go_wp2_with fail
                            have HD : Hz (upD b k (dnD a k (Sort.swp dk0 k (k - 1))) = du) := hide (by rw [← unhide HU, su_stop (.inl hjb)])
                            clear hc hf HG HU
                            go_roundw
                            case rel => exact ⟨k, s + 1, du, rfl, by go_num, by omega, by omega, by omega, hide ⟨unhide HZ, unhide HA, by rw [show 5 - (s + 1) = 4 - s by omega, ← unhide HD]; exact unhide HE⟩⟩
                            case measure => simp [intOf]; omega
                    · have hjb' : ¬ (1 : Int) ≤ (j : Int) := by omega
                      go_wp2_with fail
                      have HD : Hz (dnD a k (Sort.swp dk0 k (k - 1)) = dn) := hide (by rw [← unhide HU, dn_stop (.inl hjb)])
                      clear hc hf HG HU
                      go_loopw [10] (fun vj wr => ∃ (j : Nat) (du : Array Int), vj = .int .i64 j ∧ k + 1 ≤ j ∧ j ≤ b ∧ Hz (du.size = N ∧ SoAt w wr blk off du ∧ Sort.shiftUp Sort.ltInt b j du = upD b k (dnD a k (Sort.swp dk0 k (k - 1))))) (fun vj _ => b - (intOf vj).toNat)
                      case atStart => exact ⟨k + 1, dn, by go_num, by omega, by omega, hide ⟨unhide HZ, unhide HA, by rw [unhide HD]; unfold upD; rw [if_pos (by omega)]⟩⟩
                      case round =>
                        clear HZ HA HD
                        obtain ⟨j, du, rfl, hj1, hj2, HI⟩ := hrel
                        have HZ := hide (unhide HI).1
                        have HA := hide (unhide HI).2.1
                        have HU := hide (unhide HI).2.2
                        clear HI
                        obtain ⟨G, hG, hc, hf⟩ := (unhide HA).cells N (unhide HZ)
                        have HG := hide hG
                        clear hG
                        by_cases hjb : j < b
                        · have hjb' : (j : Int) < (b : Int) := by omega
                          cases hl : Sort.ltInt (G j) (G (j - 1)) with
                          | true =>
                            go_wp2_with fail
                            go_big_quiet (first | (go_at_call 87; refine Calls.quiet_of_same (less32 _ _ _)))
                            go_wp2_with fail
                            have HA1 : Hz (SoAt w (wr.drewN nq) blk off du) := hide ((unhide HA).drewN nq)
                            have HL := hide (show Sort.ltInt du[j]! du[j - 1]! = true by rw [← unhide HG, ← unhide HG]; exact hl)
                            clear hc hf HA HG hl
                            generalize wr.drewN nq = W1 at *
                            clear nq
                            obtain ⟨G, hG, hc, hf⟩ := (unhide HA1).cells N (unhide HZ)
                            have hm1 := mid_cell hc (i := j) (j := j - 1) (by omega) (by omega)
                            have hm2 := mid_frozen (G := G) hf (i := j) (j := j - 1) (by omega)
                            have hA2 := (unhide HA1).drew.swap (i := j) (j := j - 1) (by have := unhide HZ; omega) (by have := unhide HZ; omega)
                            rw [← hG, ← hG] at hA2
                            have HA2 := hide hA2
                            clear hG hA2
                            clear HA1
                            go_region
                            all_goals go_wp2_with fail
                            go_roundw
                            case rel => exact ⟨j + 1, Sort.swp du j (j - 1), by go_num, by omega, by omega, hide ⟨by rw [size_swp']; exact unhide HZ, unhide HA2, by rw [← su_go hjb (unhide HL)]; exact unhide HU⟩⟩
                            case measure => simp [intOf]; omega
                          | false =>
                            go_wp2_with fail
                            go_big_quiet (first | (go_at_call 87; refine Calls.quiet_of_same (less32 _ _ _)))
                            go_wp2_with fail
                            have HD : Hz (upD b k (dnD a k (Sort.swp dk0 k (k - 1))) = du) := hide (by rw [← unhide HU, su_stop (.inr (by rw [← unhide HG, ← unhide HG]; exact hl))])
                            have HA1 : Hz (SoAt w (wr.drewN nq) blk off du) := hide ((unhide HA).drewN nq)
                            clear HA
                            have HA := HA1
                            clear hc hf HG hl HU HA1
                            go_roundw
                            case rel => exact ⟨k, s + 1, du, rfl, by go_num, by omega, by omega, by omega, hide ⟨unhide HZ, unhide HA, by rw [show 5 - (s + 1) = 4 - s by omega, ← unhide HD]; exact unhide HE⟩⟩
                            case measure => simp [intOf]; omega
                        · have hjb' : ¬ (j : Int) < (b : Int) := by omega
                          go_wp2_with fail
                          have HD : Hz (upD b k (dnD a k (Sort.swp dk0 k (k - 1))) = du) := hide (by rw [← unhide HU, su_stop (.inl hjb)])
                          clear hc hf HG HU
                          go_roundw
                          case rel => exact ⟨k, s + 1, du, rfl, by go_num, by omega, by omega, by omega, hide ⟨unhide HZ, unhide HA, by rw [show 5 - (s + 1) = 4 - s by omega, ← unhide HD]; exact unhide HE⟩⟩
                          case measure => simp [intOf]; omega
                · have h3' : ¬ (2 : Int) ≤ (b : Int) - (k : Int) := by omega
                  go_region
                  all_goals go_wp2_with fail
                  clear HZ hm1 hm2 hc hf
                  have HZ := HZ3
                  have HA := HA2
                  clear HZ3 HA2
                  go_loopw [9] (fun vj wr => ∃ (j : Nat) (dn : Array Int), vj = .int .i64 j ∧ j ≤ k - 1 ∧ Hz (dn.size = N ∧ SoAt w wr blk off dn ∧ Sort.shiftDown Sort.ltInt j dn = dnD a k (Sort.swp dk0 k (k - 1)))) (fun vj _ => (intOf vj).toNat)
                  case atStart => exact ⟨k - 1, Sort.swp dk0 k (k - 1), by congr 1; omega, Nat.le_refl _, hide ⟨unhide HZ, unhide HA, by unfold dnD; rw [if_pos (by omega)]⟩⟩
                  case round =>
                    clear HZ HA
                    obtain ⟨j, dn, rfl, hj1, HI⟩ := hrel
                    have HZ := hide (unhide HI).1
                    have HA := hide (unhide HI).2.1
                    have HU := hide (unhide HI).2.2
                    clear HI
                    obtain ⟨G, hG, hc, hf⟩ := (unhide HA).cells N (unhide HZ)
                    have HG := hide hG
                    clear hG
                    by_cases hjb : 1 ≤ j
                    · have hjb' : (1 : Int) ≤ (j : Int) := by omega
                      cases hl : Sort.ltInt (G j) (G (j - 1)) with
                      | true =>
                        go_wp2_with fail
                        go_big_quiet (first | (go_at_call 87; refine Calls.quiet_of_same (less32 _ _ _)))
                        go_wp2_with fail
                        have HA1 : Hz (SoAt w (wr.drewN nq) blk off dn) := hide ((unhide HA).drewN nq)
                        have HL := hide (show Sort.ltInt dn[j]! dn[j - 1]! = true by rw [← unhide HG, ← unhide HG]; exact hl)
                        clear hc hf HA HG hl
                        generalize wr.drewN nq = W1 at *
                        clear nq
                        obtain ⟨G, hG, hc, hf⟩ := (unhide HA1).cells N (unhide HZ)
                        have hm1 := mid_cell hc (i := j) (j := j - 1) (by omega) (by omega)
                        have hm2 := mid_frozen (G := G) hf (i := j) (j := j - 1) (by omega)
                        have hA2 := (unhide HA1).drew.swap (i := j) (j := j - 1) (by have := unhide HZ; omega) (by have := unhide HZ; omega)
                        rw [← hG, ← hG] at hA2
                        have HA2 := hide hA2
                        clear hG hA2
                        clear HA1
                        go_region
                        all_goals go_wp2_with fail
                        go_roundw
                        case rel => exact ⟨j - 1, Sort.swp dn j (j - 1), by congr 1; omega, by omega, hide ⟨by rw [size_swp']; exact unhide HZ, unhide HA2, by rw [← dn_go hjb (unhide HL)]; exact unhide HU⟩⟩
                        case measure => simp [intOf]; omega
                      | false =>
                        go_wp2_with fail
                        go_big_quiet (first | (go_at_call 87; refine Calls.quiet_of_same (less32 _ _ _)))
                        go_wp2_with fail
                        have HD : Hz (dnD a k (Sort.swp dk0 k (k - 1)) = dn) := hide (by rw [← unhide HU, dn_stop (.inr (by rw [← unhide HG, ← unhide HG]; exact hl))])
                        have HA1 : Hz (SoAt w (wr.drewN nq) blk off dn) := hide ((unhide HA).drewN nq)
                        clear HA
                        have HA := HA1
                        clear hc hf HG hl HU HA1
                        generalize wr.drewN nq = W3 at *
                        clear nq
                        have HD2 : Hz (upD b k (dnD a k (Sort.swp dk0 k (k - 1))) = dn) := hide (by rw [unhide HD]; unfold upD; rw [if_neg (by omega)])
                        clear HD
                        have HD := HD2
                        clear HD2
                        go_roundw
                        case rel => exact ⟨k, s + 1, dn, rfl, by go_num, by omega, by omega, by omega, hide ⟨unhide HZ, unhide HA, by rw [show 5 - (s + 1) = 4 - s by omega, ← unhide HD]; exact unhide HE⟩⟩
                        case measure => simp [intOf]; omega
                    · have hjb' : ¬ (1 : Int) ≤ (j : Int) := by omega
                      go_wp2_with fail
                      have HD : Hz (dnD a k (Sort.swp dk0 k (k - 1)) = dn) := hide (by rw [← unhide HU, dn_stop (.inl hjb)])
                      clear hc hf HG HU
                      have HD2 : Hz (upD b k (dnD a k (Sort.swp dk0 k (k - 1))) = dn) := hide (by rw [unhide HD]; unfold upD; rw [if_neg (by omega)])
                      clear HD
                      have HD := HD2
                      clear HD2
                      go_roundw
                      case rel => exact ⟨k, s + 1, dn, rfl, by go_num, by omega, by omega, by omega, hide ⟨unhide HZ, unhide HA, by rw [show 5 - (s + 1) = 4 - s by omega, ← unhide HD]; exact unhide HE⟩⟩
                      case measure => simp [intOf]; omega
              · have h2' : ¬ (2 : Int) ≤ (k : Int) - (a : Int) := by omega
                by_cases h3 : k + 2 ≤ b
                · have h3' : (2 : Int) ≤ (b : Int) - (k : Int) := by omega
                  go_region
                  all_goals go_wp2_with fail
                  clear HZ hm1 hm2 hc hf
                  have HZ := HZ3
                  have HA := HA2
                  clear HZ3 HA2
                  have HD : Hz (dnD a k (Sort.swp dk0 k (k - 1)) = Sort.swp dk0 k (k - 1)) := hide (by unfold dnD; rw [if_neg (by omega)])
                  go_loopw [10] (fun vj wr => ∃ (j : Nat) (du : Array Int), vj = .int .i64 j ∧ k + 1 ≤ j ∧ j ≤ b ∧ Hz (du.size = N ∧ SoAt w wr blk off du ∧ Sort.shiftUp Sort.ltInt b j du = upD b k (dnD a k (Sort.swp dk0 k (k - 1))))) (fun vj _ => b - (intOf vj).toNat)
                  case atStart => exact ⟨k + 1, (Sort.swp dk0 k (k - 1)), by go_num, by omega, by omega, hide ⟨unhide HZ, unhide HA, by rw [unhide HD]; unfold upD; rw [if_pos (by omega)]⟩⟩
                  case round =>
                    clear HZ HA HD
                    obtain ⟨j, du, rfl, hj1, hj2, HI⟩ := hrel
                    have HZ := hide (unhide HI).1
                    have HA := hide (unhide HI).2.1
                    have HU := hide (unhide HI).2.2
                    clear HI
                    obtain ⟨G, hG, hc, hf⟩ := (unhide HA).cells N (unhide HZ)
                    have HG := hide hG
                    clear hG
                    by_cases hjb : j < b
                    · have hjb' : (j : Int) < (b : Int) := by omega
                      cases hl : Sort.ltInt (G j) (G (j - 1)) with
                      | true =>
                        go_wp2_with fail
                        go_big_quiet (first | (go_at_call 87; refine Calls.quiet_of_same (less32 _ _ _)))
                        go_wp2_with fail
                        have HA1 : Hz (SoAt w (wr.drewN nq) blk off du) := hide ((unhide HA).drewN nq)
                        have HL := hide (show Sort.ltInt du[j]! du[j - 1]! = true by rw [← unhide HG, ← unhide HG]; exact hl)
                        clear hc hf HA HG hl
                        generalize wr.drewN nq = W1 at *
                        clear nq
                        obtain ⟨G, hG, hc, hf⟩ := (unhide HA1).cells N (unhide HZ)
                        have hm1 := mid_cell hc (i := j) (j := j - 1) (by omega) (by omega)
                        have hm2 := mid_frozen (G := G) hf (i := j) (j := j - 1) (by omega)
                        have hA2 := (unhide HA1).drew.swap (i := j) (j := j - 1) (by have := unhide HZ; omega) (by have := unhide HZ; omega)
                        rw [← hG, ← hG] at hA2
                        have HA2 := hide hA2
                        clear hG hA2
                        clear HA1
                        go_region
                        all_goals go_wp2_with fail
                        go_roundw
                        case rel => exact ⟨j + 1, Sort.swp du j (j - 1), by go_num, by omega, by omega, hide ⟨by rw [size_swp']; exact unhide HZ, unhide HA2, by rw [← su_go hjb (unhide HL)]; exact unhide HU⟩⟩
                        case measure => simp [intOf]; omega
                      | false =>
                        go_wp2_with fail
                        go_big_quiet (first | (go_at_call 87; refine Calls.quiet_of_same (less32 _ _ _)))
                        go_wp2_with fail
                        have HD : Hz (upD b k (dnD a k (Sort.swp dk0 k (k - 1))) = du) := hide (by rw [← unhide HU, su_stop (.inr (by rw [← unhide HG, ← unhide HG]; exact hl))])
                        have HA1 : Hz (SoAt w (wr.drewN nq) blk off du) := hide ((unhide HA).drewN nq)
                        clear HA
                        have HA := HA1
                        clear hc hf HG hl HU HA1
                        go_roundw
                        case rel => exact ⟨k, s + 1, du, rfl, by go_num, by omega, by omega, by omega, hide ⟨unhide HZ, unhide HA, by rw [show 5 - (s + 1) = 4 - s by omega, ← unhide HD]; exact unhide HE⟩⟩
                        case measure => simp [intOf]; omega
                    · have hjb' : ¬ (j : Int) < (b : Int) := by omega
                      go_wp2_with fail
                      have HD : Hz (upD b k (dnD a k (Sort.swp dk0 k (k - 1))) = du) := hide (by rw [← unhide HU, su_stop (.inl hjb)])
                      clear hc hf HG HU
                      go_roundw
                      case rel => exact ⟨k, s + 1, du, rfl, by go_num, by omega, by omega, by omega, hide ⟨unhide HZ, unhide HA, by rw [show 5 - (s + 1) = 4 - s by omega, ← unhide HD]; exact unhide HE⟩⟩
                      case measure => simp [intOf]; omega
                · have h3' : ¬ (2 : Int) ≤ (b : Int) - (k : Int) := by omega
                  exfalso
                  omega
        · have hlt' : decide ((k : Int) < (b : Int)) = false := decide_eq_false (by omega)
          obtain rfl : k = b := by omega
          have hne : ((k : Int) == (k : Int)) = true := by simp
          have HK2 : Hz (Sort.scanSorted Sort.ltInt dk0 k i = k) := hide (by rw [unhide HK, ss_stop (.inl hlt)])
          go_big_quiet (first | (go_at_call 87; refine Calls.quiet_of_same (less32 _ _ _)))
          go_wp2_with fail
          go_ret
          exact ⟨by rw [← unhide HE, pI_true (unhide HK2)]; rfl, by rw [← unhide HE, pI_true (unhide HK2)]; exact (unhide HA).drewN _⟩
    · have hs5' : ¬ (s : Int) < 5 := by omega
      obtain rfl : s = 5 := by omega
      go_wp2_with fail
      go_ret
      exact ⟨by rw [← unhide HE]; rfl, by rw [← unhide HE]; exact unhide HA⟩
end Go.Proofs.Ytemmflhofhngbaa
/- What a round of pdqsort keeps: mathematics. -/
namespace Go.Proofs.Ytemmflhofhngbaa
open Go.RowKit Go.Shelf
set_option linter.unusedVariables false
theorem ltI (x y : Int) : Sort.ltInt x y = decide (x < y) := rfl
theorem ltI_t {x y : Int} (h : Sort.ltInt x y = true) : x < y := of_decide_eq_true h
theorem ltI_f {x y : Int} (h : Sort.ltInt x y = false) : y ≤ x := by have := of_decide_eq_false h; omega
theorem ltI_mk {x y : Int} (h : y ≤ x) : Sort.ltInt x y = false := decide_eq_false (by omega)
theorem swoI : Sort.SWO Sort.ltInt := ⟨fun x => ltI_mk (Int.le_refl _), fun x y z h1 h2 => decide_eq_true (by have := ltI_t h1; have := ltI_t h2; omega), fun x y z h1 h2 => ltI_mk (by have := ltI_f h1; have := ltI_f h2; omega)⟩
/-- What is left to do between a and b, so that all from a0 to b0 is sorted. -/
structure PdI (a0 b0 N : Nat) (d : Array Int) (a b : Nat) (dk : Array Int) : Prop where
  le : a ≤ b
  bN : b ≤ N
  size : dk.size = N
  bel : Sort.Below Sort.ltInt a b dk
  fin : ∀ d', Sort.PermIn a b dk d' → Sort.SortedIn Sort.ltInt a b d' → Sort.PermIn a0 b0 d d' ∧ Sort.SortedIn Sort.ltInt a0 b0 d'
theorem PdI.perm {a0 b0 N a b : Nat} {d dk dk' : Array Int} (h : PdI a0 b0 N d a b dk) (hp : Sort.PermIn a b dk dk') : PdI a0 b0 N d a b dk' :=
  ⟨h.le, h.bN, hp.1.trans h.size, h.bel.perm (by have := h.bN; have := h.size; omega) hp, fun d' h1 h2 => h.fin d' (Sort.permIn_trans _ _ _ _ _ hp h1) h2⟩
theorem PdI.eqs {a0 b0 N a b m pv : Nat} {d dk d2 : Array Int} (h : PdI a0 b0 N d a b dk) (ha : 0 < a) (hp1 : a ≤ pv) (hp2 : pv < b) (hl : Sort.ltInt dk[a - 1]! dk[pv]! = false) (he : EqOk a b m dk[pv]! dk d2) : PdI a0 b0 N d m b d2 := by
  have hN := h.bN
  have hz := h.size
  have hlow : ∀ t, a ≤ t → t < b → dk[pv]! ≤ d2[t]! := by
    have h1 : ∀ t, a ≤ t → t < b → dk[pv]! ≤ dk[t]! := fun t h1 h2 => by
      rcases h.bel with h0 | h0
      · omega
      · have := ltI_f (h0 t h1 h2)
        have := ltI_f hl
        omega
    exact Sort.permIn_all dk d2 a b (fun x => dk[pv]! ≤ x) (by omega) he.perm h1
  have heq : ∀ t, a ≤ t → t < m → d2[t]! = dk[pv]! := fun t h1 h2 => by
    have := ltI_f (he.lo t h1 h2)
    have := hlow t h1 (by have := he.mb; omega)
    omega
  have h2z : d2.size = N := he.perm.1.trans hz
  refine ⟨he.mb, hN, h2z, .inr fun t h1 h2 => ?_, fun d' h1 h2 => ?_⟩
  · refine ltI_mk ?_
    rw [heq (m - 1) (by have := he.am; omega) (by have := he.am; omega)]
    exact hlow t (by have := he.am; omega) h2
  · have ham := he.am
    have hmb := he.mb
    refine h.fin d' (Sort.permIn_trans _ _ _ _ _ he.perm (Sort.permIn_mono _ _ m b a b (by omega) (Nat.le_refl _) (by omega) h1)) (fun i j hi hij hj => ltI_mk ?_)
    have hup : ∀ t, m ≤ t → t < b → dk[pv]! < d'[t]! := Sort.permIn_all d2 d' m b (fun x => dk[pv]! < x) (by omega) h1 (fun t h3 h4 => ltI_t (he.hi t h3 h4))
    have hsame : ∀ t, a ≤ t → t < m → d'[t]! = dk[pv]! := fun t h3 h4 => (h1.2.1 t (.inl h4)).trans (heq t h3 h4)
    by_cases c1 : j < m
    · rw [hsame i hi (by omega), hsame j (by omega) c1]; exact Int.le_refl _
    · by_cases c2 : i < m
      · rw [hsame i hi c2]; have := hup j (by omega) hj; omega
      · exact ltI_f (h2 i j (by omega) hij hj)
/-- Behind a partition the left part has been sorted: the right one is left. -/
theorem PdI.left {a0 b0 N a b m : Nat} {d dk d2 L : Array Int} (h : PdI a0 b0 N d a b dk) (hp : PartOk a b m dk d2) (h1 : Sort.PermIn a m d2 L) (h2 : Sort.SortedIn Sort.ltInt a m L) : PdI a0 b0 N d (m + 1) b L := by
  have hN := h.bN
  have hz := h.size
  have ham := hp.am
  have hmb := hp.mb
  have h2z : d2.size = N := hp.perm.1.trans hz
  have hLz : L.size = N := h1.1.trans h2z
  have eL : ∀ t, m ≤ t → L[t]! = d2[t]! := fun t ht => h1.2.1 t (.inr ht)
  have hlo : ∀ t, a ≤ t → t < m → L[t]! < d2[m]! := Sort.permIn_all d2 L a m (fun x => x < d2[m]!) (by omega) h1 (fun t h3 h4 => ltI_t (hp.lo t h3 h4))
  have hhi : ∀ t, m < t → t < b → d2[m]! ≤ L[t]! := fun t h3 h4 => by rw [eL t (by omega)]; exact ltI_f (hp.hi t h3 h4)
  refine ⟨by omega, hN, hLz, .inr fun t h3 h4 => ltI_mk ?_, fun d' h3 h4 => ?_⟩
  · rw [Nat.add_sub_cancel, eL m (Nat.le_refl _)]; exact hhi t (by omega) h4
  · have eD : ∀ t, t ≤ m → d'[t]! = L[t]! := fun t ht => h3.2.1 t (.inl (by omega))
    have hD : ∀ t, m + 1 ≤ t → t < b → d2[m]! ≤ d'[t]! := Sort.permIn_all L d' (m + 1) b (fun x => d2[m]! ≤ x) (by omega) h3 (fun t h5 h6 => hhi t (by omega) h6)
    refine h.fin d' (Sort.permIn_trans _ _ _ _ _ hp.perm (Sort.permIn_trans _ _ _ _ _ (Sort.permIn_mono _ _ a m a b (Nat.le_refl _) (by omega) (by omega) h1) (Sort.permIn_mono _ _ (m + 1) b a b (by omega) (Nat.le_refl _) (by omega) h3))) (fun i j hi hij hj => ltI_mk ?_)
    by_cases c1 : j ≤ m
    · rw [eD i (by omega), eD j c1]
      by_cases c2 : j = m
      · subst c2; rw [eL j (Nat.le_refl _)]; have := hlo i hi (by omega); omega
      · exact ltI_f (h2 i j hi hij (by omega))
    · have hj2 := hD j (by omega) hj
      by_cases c2 : i ≤ m
      · rw [eD i c2]
        by_cases c3 : i = m
        · subst c3; rw [eL i (Nat.le_refl _)]; exact hj2
        · have := hlo i hi (by omega); omega
      · exact ltI_f (h4 i j (by omega) hij hj)
/-- The right part has been sorted: the left one is left. -/
theorem PdI.right {a0 b0 N a b m : Nat} {d dk d2 L : Array Int} (h : PdI a0 b0 N d a b dk) (hp : PartOk a b m dk d2) (h1 : Sort.PermIn (m + 1) b d2 L) (h2 : Sort.SortedIn Sort.ltInt (m + 1) b L) : PdI a0 b0 N d a m L := by
  have hN := h.bN
  have hz := h.size
  have ham := hp.am
  have hmb := hp.mb
  have h2z : d2.size = N := hp.perm.1.trans hz
  have hLz : L.size = N := h1.1.trans h2z
  have eL : ∀ t, t ≤ m → L[t]! = d2[t]! := fun t ht => h1.2.1 t (.inl (by omega))
  have hlo : ∀ t, a ≤ t → t < m → L[t]! < d2[m]! := fun t h3 h4 => by rw [eL t (by omega)]; exact ltI_t (hp.lo t h3 h4)
  have hhi : ∀ t, m + 1 ≤ t → t < b → d2[m]! ≤ L[t]! := Sort.permIn_all d2 L (m + 1) b (fun x => d2[m]! ≤ x) (by omega) h1 (fun t h3 h4 => ltI_f (hp.hi t (by omega) h4))
  have hb2 : Sort.Below Sort.ltInt a b d2 := h.bel.perm (by omega) hp.perm
  refine ⟨ham, by omega, hLz, ?_, fun d' h3 h4 => ?_⟩
  · rcases hb2 with h0 | h0
    · exact .inl h0
    · by_cases ha : a = 0
      · exact .inl ha
      · exact .inr fun t h5 h6 => by rw [eL t (by omega), eL (a - 1) (by omega)]; exact h0 t h5 (by omega)
  · have eD : ∀ t, m ≤ t → d'[t]! = L[t]! := fun t ht => h3.2.1 t (.inr ht)
    have hD : ∀ t, a ≤ t → t < m → d'[t]! < d2[m]! := Sort.permIn_all L d' a m (fun x => x < d2[m]!) (by omega) h3 hlo
    refine h.fin d' (Sort.permIn_trans _ _ _ _ _ hp.perm (Sort.permIn_trans _ _ _ _ _ (Sort.permIn_mono _ _ (m + 1) b a b (by omega) (Nat.le_refl _) (by omega) h1) (Sort.permIn_mono _ _ a m a b (Nat.le_refl _) (by omega) (by omega) h3))) (fun i j hi hij hj => ltI_mk ?_)
    by_cases c1 : j < m
    · exact ltI_f (h4 i j hi hij c1)
    · rw [eD j (by omega)]
      have hj2 : d2[m]! ≤ L[j]! := by
        by_cases c2 : j = m
        · subst c2; rw [eL j (Nat.le_refl _)]; exact Int.le_refl _
        · exact hhi j (by omega) hj
      by_cases c3 : i < m
      · have := hD i hi c3; omega
      · rw [eD i (by omega)]
        by_cases c4 : i = m
        · subst c4; rw [eL i (Nat.le_refl _)]; exact hj2
        · exact ltI_f (h2 i j (by omega) hij hj)
end Go.Proofs.Ytemmflhofhngbaa
/- pdqsortOrdered at runes, slices.Sort at runes. -/
namespace Go.Proofs.Ytemmflhofhngbaa
open Go.RowKit Go.Shelf
set_option linter.unusedVariables false
set_option maxRecDepth 100000 in
set_option maxHeartbeats 16000000 in
theorem so_pdq (blk off cap N : Nat) (hsz : N ≤ 1000000) : ∀ (n a b limit : Nat) (d : Array Int) (w : World), b - a < n → d.size = N → a ≤ b → b ≤ N → limit ≤ 1000 → blk < w.heap.size → Sort.Below Sort.ltInt a b d → Sort.Holds (Value.int .i32) w blk off d →
    Calls Try.prog 74 #[.slice (some ⟨blk, off, none⟩) N cap, .int .i64 a, .int .i64 b, .int .i64 limit] w fun e w' => e = .returned (.tuple #[]) ∧ ∃ d', Sort.PermIn a b d d' ∧ Sort.SortedIn Sort.ltInt a b d' ∧ SoAt w w' blk off d' := by
  intro n
  induction n with
  | zero => intro a b limit d w h; omega
  | succ n ih =>
    intro a b limit d w hn hN hab hb hlimit hblk hBel hH
    have HIH := hide ih
    have HI0 := hide (show PdI a b N d a b d from ⟨hab, hb, hN, hBel, fun d' h1 h2 => ⟨h1, h2⟩⟩)
    have HS := hide (SoAt.start hH)
    clear ih hBel hH hN
    go_enter Try.func74, Try.ntmps74
    go_wp2_with fail
    go_loopw [1, 2, 3, 8, 9] (fun s1 s2 s3 s8 s9 wr => ∃ (a' b' lim : Nat) (wb wp : Bool), s1 = .int .i64 a' ∧ s2 = .int .i64 b' ∧ s3 = .int .i64 lim ∧ s8 = .bool wb ∧ s9 = .bool wp ∧ a' ≤ b' ∧ b' ≤ N ∧ b' - a' ≤ b - a ∧ lim ≤ 1000 ∧ Hz (∃ dk, PdI a b N d a' b' dk ∧ SoAt w wr blk off dk)) (fun s1 s2 _ _ _ _ => (intOf s2 - intOf s1).toNat)
    case atStart => exact ⟨a, b, limit, true, true, rfl, rfl, rfl, rfl, rfl, hab, hb, Nat.le_refl _, hlimit, hide ⟨d, unhide HI0, unhide HS⟩⟩
    case round =>
      clear HI0 HS
      obtain ⟨a', b', lim, wb, wp, rfl, rfl, rfl, rfl, rfl, hab', hb', hle, hlim, HI⟩ := hrel
      obtain ⟨dk, hI, hA⟩ := unhide HI
      have hbw : blk < wr.heap.size := Nat.lt_of_lt_of_le hblk hA.gr.size
      have HI1 := hide hI
      have HA := hide hA
      have HZ := hide hI.size
      clear HI hI hA
      by_cases h12 : b' ≤ a' + 12
      · have h12z : (b' : Int) - (a' : Int) ≤ 12 := by omega
        have hc := so_ins blk off cap a' b' dk hab' (by rw [unhide HZ]; exact hb') (by rw [unhide HZ]; exact hsz) wr (unhide HA).row
        rw [unhide HZ] at hc
        have HC := hide hc
        clear hc
        go_wp2_with (go_at_call 81; refine (unhide HC).mono ?_; rintro e w1 ⟨rfl, hw1⟩)
        (try simp only [Exit.inBlock, Exit.then])
        refine bodyPost_ret (results_none rfl _ _ _) rfl ?_
        have hx := Sort.insertionSort_holds (lt := Sort.ltInt) swoI dk a' b' hab' (by rw [unhide HZ]; exact hb')
        obtain ⟨y1, y2⟩ := (unhide HI1).fin _ hx.1 hx.2
        exact ⟨rfl, _, y1, y2, (unhide HA).trans hw1⟩
      · have h12z : ¬ ((b' : Int) - (a' : Int) ≤ 12) := by omega
        by_cases hl0 : lim = 0
        · subst hl0
          have HC := hide (so_heap blk off cap a' b' N dk (unhide HZ) (by omega) hb' hsz wr (unhide HA).row)
          go_wp2_with (go_at_call 82; refine (unhide HC).mono ?_; rintro e w1 ⟨rfl, hw1⟩)
          (try simp only [Exit.inBlock, Exit.then])
          refine bodyPost_ret (results_none rfl _ _ _) rfl ?_
          have hx := Sort.heapSort_holds (lt := Sort.ltInt) swoI dk a' b' hab' (by rw [unhide HZ]; exact hb')
          obtain ⟨y1, y2⟩ := (unhide HI1).fin _ hx.1 hx.2
          exact ⟨rfl, _, y1, y2, (unhide HA).trans hw1⟩
        · have hl0z : ¬ ((lim : Int) = 0) := by omega
          go_upto_if 35 with fail
          go_cut [3] from 19 (fun s3 wc => ∃ lim' : Nat, s3 = .int .i64 lim' ∧ lim' ≤ 1000 ∧ Hz (∃ d1, PdI a b N d a' b' d1 ∧ SoAt w wc blk off d1))
          case first =>
            cases wb
            · have HC := hide (so_break blk off cap a' b' N dk (unhide HZ) (by omega) hb' hsz wr hbw (unhide HA).row)
              go_wp2_with (go_at_call 83; refine (unhide HC).mono ?_; rintro e w1 ⟨rfl, d1, hp, hw1⟩)
              go_meet
              case rel => exact ⟨lim - 1, by congr 1; omega, by omega, hide ⟨d1, (unhide HI1).perm hp, (unhide HA).trans hw1⟩⟩
            · go_wp2_with fail
              go_meet
              case rel => exact ⟨lim, rfl, hlim, hide ⟨dk, unhide HI1, unhide HA⟩⟩
          case rest =>
            clear HI1 HA HZ
            obtain ⟨lim', rfl, hlim', HI⟩ := hcut
            obtain ⟨d1, hI, hA⟩ := unhide HI
            have HI1 := hide hI
            have HA := hide hA
            have HC := hide (so_pivot blk off cap a' b' N d1 hI.size (by omega) hb' hsz wc (Nat.lt_of_lt_of_le hblk hA.gr.size) hA.row)
            clear HI hI hA
            go_upto_if 50 with (go_at_call 84; refine (unhide HC).mono ?_; rintro e w2 ⟨pv, hint, rfl, hpv1, hpv2, hw2⟩)
            have HA2 := hide ((unhide HA).trans hw2)
            clear hw2 HC HA
            go_cut [11, 12] from 19 (fun s11 s12 wc => ∃ (pv : Nat) (hint : Int), s11 = .int .i64 pv ∧ s12 = .int .i64 hint ∧ a' ≤ pv ∧ pv < b' ∧ Hz (∃ d1, PdI a b N d a' b' d1 ∧ SoAt w wc blk off d1))
            case first =>
              by_cases hh : hint = 2
              · subst hh
                have HC := hide (so_rev blk off cap a' b' N d1 (unhide HI1).size (by omega) hb' hsz w2 (unhide HA2).row)
                go_wp2_with (go_at_call 85; refine (unhide HC).mono ?_; rintro e w3 ⟨rfl, d2, hp, hw3⟩)
                go_meet
                case rel => exact ⟨(b' - 1) - (pv - a'), 1, by congr 1; omega, rfl, by omega, by omega, hide ⟨d2, (unhide HI1).perm hp, (unhide HA2).trans hw3⟩⟩
              · go_wp2_with fail
                go_meet
                case rel => exact ⟨pv, hint, rfl, rfl, hpv1, hpv2, hide ⟨d1, unhide HI1, unhide HA2⟩⟩
            case rest =>
              clear HI1 HA2
              clear d1
              clear hpv1 hpv2
              obtain ⟨pw, hint', rfl, rfl, hpv1, hpv2, HI⟩ := hcut
              go_upto_region 15 with fail
              go_cut [12, 68] from 19 (fun s12 s68 wx => ∃ c : Bool, s12 = .int .i64 hint' ∧ s68 = .bool c ∧ wx = wc)
              case first =>
                by_cases hh : hint' = 1
                · subst hh
                  cases wb <;> cases wp <;> (go_wp2_with fail; go_meet; exact ⟨_, rfl, rfl, rfl⟩)
                · have hh' : (hint' == 1) = false := beq_eq_false_iff_ne.2 hh
                  cases wb <;> cases wp <;> (go_wp2_with fail; go_meet; exact ⟨_, rfl, rfl, rfl⟩)
              case rest =>
                obtain ⟨c68, rfl, rfl, rfl⟩ := hcut
                obtain ⟨d1, hI, hA⟩ := unhide HI
                have HI1 := hide hI
                have HA := hide hA
                clear HI hI hA
                go_upto_if 68 with fail
                go_cut [] from 19 (fun wx => Hz (∃ d1, PdI a b N d a' b' d1 ∧ SoAt w wx blk off d1))
                case first =>
                  cases c68
                  · go_wp2_with fail
                    go_meet
                    case rel => exact hide ⟨d1, unhide HI1, unhide HA⟩
                  · have hx := Sort.partialInsertionSort_holds (lt := Sort.ltInt) swoI d1 a' b' (by omega) (by rw [(unhide HI1).size]; exact hb') (unhide HI1).bel
                    have HC := hide (so_partial blk off cap a' b' N d1 (unhide HI1).size (by omega) hb' hsz wc (unhide HA).row)
                    obtain ⟨R, hR⟩ : ∃ R, R = Sort.partialInsertionSort Sort.ltInt d1 a' b' := ⟨_, rfl⟩
                    rw [← hR] at HC hx
                    have HX := hide hx
                    clear hx hR
                    obtain ⟨D, r⟩ := R
                    cases r
                    · go_wp2_with (go_at_call 86; refine (unhide HC).mono ?_; rintro e w4 ⟨rfl, hw4⟩)
                      go_meet
                      case rel => exact hide ⟨D, (unhide HI1).perm (unhide HX).1, (unhide HA).trans hw4⟩
                    · go_wp2_with (go_at_call 86; refine (unhide HC).mono ?_; rintro e w4 ⟨rfl, hw4⟩)
                      (try simp only [Exit.inBlock, Exit.then])
                      refine bodyPost_ret (results_none rfl _ _ _) rfl ?_
                      obtain ⟨y1, y2⟩ := (unhide HI1).fin _ (unhide HX).1 (by first | exact (unhide HX).2 rfl | exact (unhide HX).2 trivial)
                      exact ⟨rfl, _, y1, y2, (unhide HA).trans hw4⟩
                case rest =>
                  clear HI1 HA
                  clear d1
                  obtain ⟨d3, hI, hA⟩ := unhide hcut
                  obtain ⟨G, hG, hc, hf⟩ := hA.cells N hI.size
                  have HI1 := hide hI
                  have HA := hide hA
                  have HG := hide hG
                  clear hcut hI hA hG
                  go_upto_region 17 with fail
                  go_cut [87] from 19 (fun s87 wx => ∃ c : Bool, s87 = .bool c ∧ Hz ((c = true → 0 < a' ∧ Sort.ltInt d3[a' - 1]! d3[pw]! = false) ∧ SoAt w wx blk off d3))
                  case first =>
                    by_cases ha0 : 0 < a'
                    · have ha0z : (0 : Int) < (a' : Int) := by omega
                      go_big_quiet (first | (go_at_call 87; refine Calls.quiet_of_same (less32 _ _ _)))
                      go_wp2_with fail
                      go_meet
                      case rel => exact ⟨_, rfl, hide ⟨fun h => ⟨ha0, by rw [← unhide HG, ← unhide HG]; simpa using h⟩, (unhide HA).drewN nq⟩⟩
                    · have ha0z : decide ((0 : Int) < (a' : Int)) = false := decide_eq_false (by omega)
                      go_big_quiet (first | (go_at_call 87; refine Calls.quiet_of_same (less32 _ _ _)))
                      go_wp2_with fail
                      go_meet
                      case rel => exact ⟨_, rfl, hide ⟨fun h => absurd h (by simp), (unhide HA).drewN nq⟩⟩
                  case rest =>
                    clear HA hc hf HG
                    obtain ⟨c87, rfl, HI⟩ := hcut
                    have HA := hide (unhide HI).2
                    cases c87
                    · clear HI
                      have HC := hide (so_part blk off cap a' b' pw N d3 (unhide HI1).size hpv1 hpv2 hb' hsz wc (unhide HA).row)
                      go_upto_if 113 with (go_at_call 89; refine (unhide HC).mono ?_; rintro e w7 ⟨mid, ap, d4, rfl, hP, hw7⟩; have r1 := hP.am; have r2 := hP.mb)
                      have HP := hide hP
                      have HA7 := hide ((unhide HA).trans hw7)
                      clear hP hw7 HC HA
                      have hb7 : blk < w7.heap.size := Nat.lt_of_lt_of_le hblk (unhide HA7).gr.size
                      have hz4 := hide ((unhide HP).perm.1.trans (unhide HI1).size)
                      have hBl := (unhide HI1).bel.perm (by have := (unhide HI1).size; omega) (unhide HP).perm
                      by_cases h4 : mid - a' < b' - mid
                      · have h4z : (mid : Int) - (a' : Int) < (b' : Int) - (mid : Int) := by omega
                        have HIC := hide (unhide HIH a' mid lim' d4 w7 (by omega) (unhide hz4) r1 (by omega) hlim' hb7 (hBl.mono (by omega)) (unhide HA7).row)
                        have HF := hide (show b' - (mid + 1) ≤ b - a by omega)
                        have HM := hide hlim'
                        clear hBl hn hle h4 hl0 hl0z hlim hlim' hlimit h12 h12z hpv1 hpv2 hb7 hblk
                        go_wp2_with (go_at_call 74; refine (unhide HIC).mono ?_; rintro e w8 ⟨rfl, L, hL1, hL2, hw8⟩)
                        go_roundw
                        case rel => exact ⟨mid + 1, b', lim', _, ap, by simp, rfl, rfl, rfl, rfl, by omega, by omega, unhide HF, unhide HM, hide ⟨L, (unhide HI1).left (unhide HP) hL1 hL2, (unhide HA7).trans hw8⟩⟩
                        case measure => simp [intOf]; omega
                      · have h4z : ¬ ((mid : Int) - (a' : Int) < (b' : Int) - (mid : Int)) := by omega
                        have HBr : Hz (Sort.Below Sort.ltInt (mid + 1) b' d4) := hide (.inr fun i h1 h2 => by rw [Nat.add_sub_cancel]; exact (unhide HP).hi i (by omega) h2)
                        have HIC := hide (unhide HIH (mid + 1) b' lim' d4 w7 (by omega) (unhide hz4) (by omega) (by omega) hlim' hb7 (unhide HBr) (unhide HA7).row)
                        rw [show ((mid + 1 : Nat) : Int) = (mid : Int) + 1 from rfl] at HIC
                        have HF := hide (show mid - a' ≤ b - a by omega)
                        have HM := hide hlim'
                        clear hBl hn hle h4 hl0 hl0z hlim hlim' hlimit h12 h12z hpv1 hpv2 hb7 hblk
                        go_wp2_with (go_at_call 74; refine (unhide HIC).mono ?_; rintro e w8 ⟨rfl, L, hL1, hL2, hw8⟩)
                        go_roundw
                        case rel => exact ⟨a', mid, lim', _, ap, rfl, rfl, rfl, rfl, rfl, by omega, by omega, unhide HF, unhide HM, hide ⟨L, (unhide HI1).right (unhide HP) hL1 hL2, (unhide HA7).trans hw8⟩⟩
                        case measure => simp [intOf]; omega
                    · have hq := (unhide HI).1 rfl
                      have HQ := hide hq
                      clear HI hq
                      have HC := hide (so_equal blk off cap a' b' pw N d3 (unhide HI1).size hpv1 hpv2 hb' hsz wc (unhide HA).row)
                      go_wp2_with (go_at_call 88; refine (unhide HC).mono ?_; rintro e w7 ⟨mid, d4, rfl, hE, hw7⟩)
                      have r1 := hE.am
                      have r2 := hE.mb
                      go_roundw
                      case rel => exact ⟨mid, b', lim', wb, wp, rfl, rfl, rfl, rfl, rfl, by omega, hb', by omega, hlim', hide ⟨d4, (unhide HI1).eqs (unhide HQ).1 hpv1 hpv2 (unhide HQ).2 hE, (unhide HA).trans hw7⟩⟩
                      case measure => simp [intOf]; omega
/-- slices.Sort at runes. -/
theorem so_sort (blk off cap N : Nat) (hsz : N ≤ 1000000) (d : Array Int) (hN : d.size = N) (w : World) (hblk : blk < w.heap.size) (hH : Sort.Holds (Value.int .i32) w blk off d) :
    Calls Try.prog 60 #[.slice (some ⟨blk, off, none⟩) N cap] w fun e w' => e = .returned (.tuple #[]) ∧ ∃ d', Sort.PermIn 0 N d d' ∧ Sort.SortedIn Sort.ltInt 0 N d' ∧ SoAt w w' blk off d' := by
  have hbl : Sort.bitsLen N ≤ 20 := (Sort.bitsLen_le_iff N 20).2 (by omega)
  obtain ⟨l, hl⟩ : ∃ l, l = Sort.bitsLen N := ⟨_, rfl⟩
  have HL := hide (len_any N (by omega))
  rw [← hl] at HL hbl
  have HC := hide (so_pdq blk off cap N hsz (N + 1) 0 N l d w (by omega) hN (Nat.zero_le _) (Nat.le_refl _) (by omega) hblk (.inl rfl) hH)
  clear hl hH hN
  go_enter Try.func60, Try.ntmps60
  go_wp2_with (go_at_call 58; refine (unhide HL _).mono ?_; rintro e w' ⟨rfl, rfl⟩)
  refine (unhide HC).mono ?_
  rintro e w1 ⟨rfl, d', h1, h2, h3⟩
  go_wp2_with fail
  go_end0
  exact ⟨rfl, d', h1, h2, h3⟩
end Go.Proofs.Ytemmflhofhngbaa
/- The smallest functions of the sets and of their reference, each told for every argument. -/
namespace Go.Proofs.Ytemmflhofhngbaa
open Go.RowKit Go.Shelf
set_option linter.unusedVariables false

/-- How many runes are below a number from 0 on. -/
def rankOf (r : Int) : Int := if 57344 ≤ r then r - 2048 else if 55296 < r then 55296 else r
def rankedOf (n : Int) : Int := if 55296 ≤ n then n + 2048 else n
/-- Is a number a rune's? -/
def runeB (n : Int) : Bool := decide (0 ≤ n ∧ n ≤ 1114111 ∧ (n < 55296 ∨ 57343 < n))
theorem width_rune (z : Int) : (widthOf z == 0) = !runeB z := by
  unfold widthOf runeB
  repeat' split
  all_goals simp
  all_goals omega

theorem rank_any (r : Int) (h0 : -2147483648 ≤ r) (h1 : r ≤ 2147483647) (w : World) : Calls Try.prog 37 #[.int .i32 r] w fun e w' => e = .returned (.int .i64 (rankOf r)) ∧ w' = w := by
  by_cases a : 57344 ≤ r
  · have h : rankOf r = r - 2048 := by unfold rankOf; rw [if_pos a]
    rw [h]
    go_enter Try.func37, Try.ntmps37
    go_wp2
    go_ret
    exact ⟨rfl, rfl⟩
  · by_cases b : 55296 < r
    · have h : rankOf r = 55296 := by unfold rankOf; rw [if_neg a, if_pos b]
      rw [h]
      go_enter Try.func37, Try.ntmps37
      go_wp2
      go_ret
      exact ⟨rfl, rfl⟩
    · have h : rankOf r = r := by unfold rankOf; rw [if_neg a, if_neg b]
      rw [h]
      go_enter Try.func37, Try.ntmps37
      go_wp2
      go_ret
      exact ⟨rfl, rfl⟩

theorem ranked_any (n : Int) (h0 : 0 ≤ n) (h1 : n ≤ 1112063) (w : World) : Calls Try.prog 43 #[.int .i64 n] w fun e w' => e = .returned (.int .i32 (rankedOf n)) ∧ w' = w := by
  by_cases a : 55296 ≤ n
  · have h : rankedOf n = n + 2048 := by unfold rankedOf; rw [if_pos a]
    rw [h]
    go_enter Try.func43, Try.ntmps43
    go_wp2
    go_ret
    exact ⟨rfl, rfl⟩
  · have h : rankedOf n = n := by unfold rankedOf; rw [if_neg a]
    rw [h]
    go_enter Try.func43, Try.ntmps43
    go_wp2
    go_ret
    exact ⟨rfl, rfl⟩

/-- A span, as it is handed on. -/
abbrev spanV (x : Int × Int) : Value := .agg #[.int .i32 x.1, .int .i32 x.2]
/-- May its ends stand? -/
def endsB (x : Int × Int) : Bool := runeB x.1 && runeB x.2

theorem noRunes_any (x : Int × Int) (w : World) : Calls Try.prog 29 #[spanV x] w fun e w' => e = .returned (.bool (!endsB x)) ∧ Below w.heap.size w w' := by
  obtain ⟨lo, hi⟩ := x
  have b := Blk.new w #[.int .i32 lo, .int .i32 hi] 28
  have c0 := b.cell 0
  have c1 := b.cell 1
  have HB := hide ((Below.refl w.heap.size w).alloc (Nat.le_refl _) (.cells #[.int .i32 lo, .int .i32 hi] 28))
  have e0 := width_rune lo
  have e1 := width_rune hi
  clear b
  show Calls Try.prog 29 #[.agg #[.int .i32 lo, .int .i32 hi]] w _
  cases hl : runeB lo with
  | false =>
    have HE : Hz ((!endsB (lo, hi)) = true) := hide (by simp [endsB, hl])
    rw [hl] at e0
    have e0' : (widthOf lo == 0) = true := e0
    clear hl e0
    go_enter Try.func29, Try.ntmps29
    go_wp2_with (go_at_call 40; refine (width_any _ _).mono ?_; rintro e w' ⟨rfl, rfl⟩)
    go_ret
    exact ⟨by rw [unhide HE]; rfl, unhide HB⟩
  | true =>
    have HE : Hz ((!endsB (lo, hi)) = !runeB hi) := hide (by simp [endsB, hl])
    rw [hl] at e0
    have e0' : (widthOf lo == 0) = false := e0
    clear hl e0
    generalize runeB hi = q at *
    go_enter Try.func29, Try.ntmps29
    go_wp2_with (go_at_call 40; refine (width_any _ _).mono ?_; rintro e w' ⟨rfl, rfl⟩)
    go_ret
    exact ⟨by rw [unhide HE]; rfl, unhide HB⟩

theorem falling_any (x : Int × Int) (w : World) : Calls Try.prog 30 #[spanV x] w fun e w' => e = .returned (.bool (decide (x.2 < x.1))) ∧ Below w.heap.size w w' := by
  obtain ⟨lo, hi⟩ := x
  have b := Blk.new w #[.int .i32 lo, .int .i32 hi] 28
  have c0 := b.cell 0
  have c1 := b.cell 1
  have HB := hide ((Below.refl w.heap.size w).alloc (Nat.le_refl _) (.cells #[.int .i32 lo, .int .i32 hi] 28))
  clear b
  show Calls Try.prog 30 #[.agg #[.int .i32 lo, .int .i32 hi]] w _
  go_enter Try.func30, Try.ntmps30
  go_wp2
  go_ret
  exact ⟨rfl, unhide HB⟩

theorem refRune_any (n : Int) (w : World) : Calls Try.prog 51 #[.int .i64 n] w fun e w' => e = .returned (.bool (runeB n)) ∧ w' = w := by
  by_cases h0 : 0 ≤ n
  · by_cases h1 : n ≤ 1114111
    · by_cases h2 : n < 55296
      · have h : runeB n = true := by simp [runeB, h0, h1, h2]
        rw [h]
        go_enter Try.func51, Try.ntmps51
        go_wp2
        go_ret
        exact ⟨rfl, rfl⟩
      · have h : runeB n = decide (57343 < n) := by simp [runeB, h0, h1, h2]
        rw [h]
        go_enter Try.func51, Try.ntmps51
        go_wp2
        go_ret
        exact ⟨rfl, rfl⟩
    · have h : runeB n = false := by simp [runeB, h1]
      rw [h]
      go_enter Try.func51, Try.ntmps51
      go_wp2
      go_ret
      exact ⟨rfl, rfl⟩
  · have h : runeB n = false := by simp [runeB, h0]
    rw [h]
    go_enter Try.func51, Try.ntmps51
    go_wp2
    go_ret
    exact ⟨rfl, rfl⟩

/-- Its ends are numbers of their kind. -/
def fitB (x : Int × Int) : Prop := (-2147483648 ≤ x.1 ∧ x.1 ≤ 2147483647) ∧ (-2147483648 ≤ x.2 ∧ x.2 ≤ 2147483647)
/-- Why a span is none. -/
def wrongOf (x : Int × Int) : Int := if endsB x then (if x.2 < x.1 then 11 else 0) else 12
end Go.Proofs.Ytemmflhofhngbaa
