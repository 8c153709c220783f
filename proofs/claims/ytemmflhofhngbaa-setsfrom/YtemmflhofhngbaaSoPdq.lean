/- pdqsortOrdered at runes, slices.Sort at runes. -/
import Derived.Test.YtemmflhofhngbaaM1
import Derived.Test.YtemmflhofhngbaaSoBrk
import Derived.Test.YtemmflhofhngbaaSoPdqM
import Derived.Deep.Cut
namespace Go.Proofs.Ytemmflhofhngbaa
open Go.RowKit Go.Shelf
set_option linter.unusedVariables false
set_option maxRecDepth 100000 in
set_option maxHeartbeats 16000000 in
theorem so_pdq (blk off cap N : Nat) (hsz : N ≤ 1000000) : ∀ (n a b limit : Nat) (d : Array Int) (w : World), b - a < n → d.size = N → a ≤ b → b ≤ N → limit ≤ 1000 → blk < w.heap.size → Sort.Below Sort.ltInt a b d → Sort.Holds (Value.int .i32) w blk off d →
    Calls Try.prog 74 #[.slice (some ⟨blk, off, none⟩) N cap, .int .i64 a, .int .i64 b, .int .i64 limit] w fun e w' => e = .returned (.tuple #[]) ∧ ∃ d', Sort.PermIn a b d d' ∧ Sort.SortedIn Sort.ltInt a b d' ∧ SoAt w w' blk off d' := by
  intro n
  induction n with
  | zero => intro a b limit d w h; omega
  | succ n ih =>
    intro a b limit d w hn hN hab hb hlimit hblk hBel hH
    have HIH := hide ih
    have HI0 := hide (show PdI a b N d a b d from ⟨hab, hb, hN, hBel, fun d' h1 h2 => ⟨h1, h2⟩⟩)
    have HS := hide (SoAt.start hH)
    clear ih hBel hH hN
    go_enter Try.func74, Try.ntmps74
    go_wp2_with fail
    go_loopw [1, 2, 3, 8, 9] (fun s1 s2 s3 s8 s9 wr => ∃ (a' b' lim : Nat) (wb wp : Bool), s1 = .int .i64 a' ∧ s2 = .int .i64 b' ∧ s3 = .int .i64 lim ∧ s8 = .bool wb ∧ s9 = .bool wp ∧ a' ≤ b' ∧ b' ≤ N ∧ b' - a' ≤ b - a ∧ lim ≤ 1000 ∧ Hz (∃ dk, PdI a b N d a' b' dk ∧ SoAt w wr blk off dk)) (fun s1 s2 _ _ _ _ => (intOf s2 - intOf s1).toNat)
    case atStart => exact ⟨a, b, limit, true, true, rfl, rfl, rfl, rfl, rfl, hab, hb, Nat.le_refl _, hlimit, hide ⟨d, unhide HI0, unhide HS⟩⟩
    case round =>
      clear HI0 HS
      obtain ⟨a', b', lim, wb, wp, rfl, rfl, rfl, rfl, rfl, hab', hb', hle, hlim, HI⟩ := hrel
      obtain ⟨dk, hI, hA⟩ := unhide HI
      have hbw : blk < wr.heap.size := Nat.lt_of_lt_of_le hblk hA.gr.size
      have HI1 := hide hI
      have HA := hide hA
      have HZ := hide hI.size
      clear HI hI hA
      by_cases h12 : b' ≤ a' + 12
      · have h12z : (b' : Int) - (a' : Int) ≤ 12 := by omega
        have hc := so_ins blk off cap a' b' dk hab' (by rw [unhide HZ]; exact hb') (by rw [unhide HZ]; exact hsz) wr (unhide HA).row
        rw [unhide HZ] at hc
        have HC := hide hc
        clear hc
        go_wp2_with (go_at_call 81; refine (unhide HC).mono ?_; rintro e w1 ⟨rfl, hw1⟩)
        (try simp only [Exit.inBlock, Exit.then])
        refine bodyPost_ret (results_none rfl _ _ _) rfl ?_
        have hx := Sort.insertionSort_holds (lt := Sort.ltInt) swoI dk a' b' hab' (by rw [unhide HZ]; exact hb')
        obtain ⟨y1, y2⟩ := (unhide HI1).fin _ hx.1 hx.2
        exact ⟨rfl, _, y1, y2, (unhide HA).trans hw1⟩
      · have h12z : ¬ ((b' : Int) - (a' : Int) ≤ 12) := by omega
        by_cases hl0 : lim = 0
        · subst hl0
          have HC := hide (so_heap blk off cap a' b' N dk (unhide HZ) (by omega) hb' hsz wr (unhide HA).row)
          go_wp2_with (go_at_call 82; refine (unhide HC).mono ?_; rintro e w1 ⟨rfl, hw1⟩)
          (try simp only [Exit.inBlock, Exit.then])
          refine bodyPost_ret (results_none rfl _ _ _) rfl ?_
          have hx := Sort.heapSort_holds (lt := Sort.ltInt) swoI dk a' b' hab' (by rw [unhide HZ]; exact hb')
          obtain ⟨y1, y2⟩ := (unhide HI1).fin _ hx.1 hx.2
          exact ⟨rfl, _, y1, y2, (unhide HA).trans hw1⟩
        · have hl0z : ¬ ((lim : Int) = 0) := by omega
          go_upto_if 35 with fail
          go_cut [3] from 19 (fun s3 wc => ∃ lim' : Nat, s3 = .int .i64 lim' ∧ lim' ≤ 1000 ∧ Hz (∃ d1, PdI a b N d a' b' d1 ∧ SoAt w wc blk off d1))
          case first =>
            cases wb
            · have HC := hide (so_break blk off cap a' b' N dk (unhide HZ) (by omega) hb' hsz wr hbw (unhide HA).row)
              go_wp2_with (go_at_call 83; refine (unhide HC).mono ?_; rintro e w1 ⟨rfl, d1, hp, hw1⟩)
              go_meet
              case rel => exact ⟨lim - 1, by congr 1; omega, by omega, hide ⟨d1, (unhide HI1).perm hp, (unhide HA).trans hw1⟩⟩
            · go_wp2_with fail
              go_meet
              case rel => exact ⟨lim, rfl, hlim, hide ⟨dk, unhide HI1, unhide HA⟩⟩
          case rest =>
            clear HI1 HA HZ
            obtain ⟨lim', rfl, hlim', HI⟩ := hcut
            obtain ⟨d1, hI, hA⟩ := unhide HI
            have HI1 := hide hI
            have HA := hide hA
            have HC := hide (so_pivot blk off cap a' b' N d1 hI.size (by omega) hb' hsz wc (Nat.lt_of_lt_of_le hblk hA.gr.size) hA.row)
            clear HI hI hA
            go_upto_if 50 with (go_at_call 84; refine (unhide HC).mono ?_; rintro e w2 ⟨pv, hint, rfl, hpv1, hpv2, hw2⟩)
            have HA2 := hide ((unhide HA).trans hw2)
            clear hw2 HC HA
            go_cut [11, 12] from 19 (fun s11 s12 wc => ∃ (pv : Nat) (hint : Int), s11 = .int .i64 pv ∧ s12 = .int .i64 hint ∧ a' ≤ pv ∧ pv < b' ∧ Hz (∃ d1, PdI a b N d a' b' d1 ∧ SoAt w wc blk off d1))
            case first =>
              by_cases hh : hint = 2
              · subst hh
                have HC := hide (so_rev blk off cap a' b' N d1 (unhide HI1).size (by omega) hb' hsz w2 (unhide HA2).row)
                go_wp2_with (go_at_call 85; refine (unhide HC).mono ?_; rintro e w3 ⟨rfl, d2, hp, hw3⟩)
                go_meet
                case rel => exact ⟨(b' - 1) - (pv - a'), 1, by congr 1; omega, rfl, by omega, by omega, hide ⟨d2, (unhide HI1).perm hp, (unhide HA2).trans hw3⟩⟩
              · go_wp2_with fail
                go_meet
                case rel => exact ⟨pv, hint, rfl, rfl, hpv1, hpv2, hide ⟨d1, unhide HI1, unhide HA2⟩⟩
            case rest =>
              clear HI1 HA2
              clear d1
              clear hpv1 hpv2
              obtain ⟨pw, hint', rfl, rfl, hpv1, hpv2, HI⟩ := hcut
              go_upto_region 15 with fail
              go_cut [12, 68] from 19 (fun s12 s68 wx => ∃ c : Bool, s12 = .int .i64 hint' ∧ s68 = .bool c ∧ wx = wc)
              case first =>
                by_cases hh : hint' = 1
                · subst hh
                  cases wb <;> cases wp <;> (go_wp2_with fail; go_meet; exact ⟨_, rfl, rfl, rfl⟩)
                · have hh' : (hint' == 1) = false := beq_eq_false_iff_ne.2 hh
                  cases wb <;> cases wp <;> (go_wp2_with fail; go_meet; exact ⟨_, rfl, rfl, rfl⟩)
              case rest =>
                obtain ⟨c68, rfl, rfl, rfl⟩ := hcut
                obtain ⟨d1, hI, hA⟩ := unhide HI
                have HI1 := hide hI
                have HA := hide hA
                clear HI hI hA
                go_upto_if 68 with fail
                go_cut [] from 19 (fun wx => Hz (∃ d1, PdI a b N d a' b' d1 ∧ SoAt w wx blk off d1))
                case first =>
                  cases c68
                  · go_wp2_with fail
                    go_meet
                    case rel => exact hide ⟨d1, unhide HI1, unhide HA⟩
                  · have hx := Sort.partialInsertionSort_holds (lt := Sort.ltInt) swoI d1 a' b' (by omega) (by rw [(unhide HI1).size]; exact hb') (unhide HI1).bel
                    have HC := hide (so_partial blk off cap a' b' N d1 (unhide HI1).size (by omega) hb' hsz wc (unhide HA).row)
                    obtain ⟨R, hR⟩ : ∃ R, R = Sort.partialInsertionSort Sort.ltInt d1 a' b' := ⟨_, rfl⟩
                    rw [← hR] at HC hx
                    have HX := hide hx
                    clear hx hR
                    obtain ⟨D, r⟩ := R
                    cases r
                    · go_wp2_with (go_at_call 86; refine (unhide HC).mono ?_; rintro e w4 ⟨rfl, hw4⟩)
                      go_meet
                      case rel => exact hide ⟨D, (unhide HI1).perm (unhide HX).1, (unhide HA).trans hw4⟩
                    · go_wp2_with (go_at_call 86; refine (unhide HC).mono ?_; rintro e w4 ⟨rfl, hw4⟩)
                      (try simp only [Exit.inBlock, Exit.then])
                      refine bodyPost_ret (results_none rfl _ _ _) rfl ?_
                      obtain ⟨y1, y2⟩ := (unhide HI1).fin _ (unhide HX).1 (by first | exact (unhide HX).2 rfl | exact (unhide HX).2 trivial)
                      exact ⟨rfl, _, y1, y2, (unhide HA).trans hw4⟩
                case rest =>
                  clear HI1 HA
                  clear d1
                  obtain ⟨d3, hI, hA⟩ := unhide hcut
                  obtain ⟨G, hG, hc, hf⟩ := hA.cells N hI.size
                  have HI1 := hide hI
                  have HA := hide hA
                  have HG := hide hG
                  clear hcut hI hA hG
                  go_upto_region 17 with fail
                  go_cut [87] from 19 (fun s87 wx => ∃ c : Bool, s87 = .bool c ∧ Hz ((c = true → 0 < a' ∧ Sort.ltInt d3[a' - 1]! d3[pw]! = false) ∧ SoAt w wx blk off d3))
                  case first =>
                    by_cases ha0 : 0 < a'
                    · have ha0z : (0 : Int) < (a' : Int) := by omega
                      go_big_quiet (first | (go_at_call 87; refine Calls.quiet_of_same (less32 _ _ _)))
                      go_wp2_with fail
                      go_meet
                      case rel => exact ⟨_, rfl, hide ⟨fun h => ⟨ha0, by rw [← unhide HG, ← unhide HG]; simpa using h⟩, (unhide HA).drewN nq⟩⟩
                    · have ha0z : decide ((0 : Int) < (a' : Int)) = false := decide_eq_false (by omega)
                      go_big_quiet (first | (go_at_call 87; refine Calls.quiet_of_same (less32 _ _ _)))
                      go_wp2_with fail
                      go_meet
                      case rel => exact ⟨_, rfl, hide ⟨fun h => absurd h (by simp), (unhide HA).drewN nq⟩⟩
                  case rest =>
                    clear HA hc hf HG
                    obtain ⟨c87, rfl, HI⟩ := hcut
                    have HA := hide (unhide HI).2
                    cases c87
                    · clear HI
                      have HC := hide (so_part blk off cap a' b' pw N d3 (unhide HI1).size hpv1 hpv2 hb' hsz wc (unhide HA).row)
                      go_upto_if 113 with (go_at_call 89; refine (unhide HC).mono ?_; rintro e w7 ⟨mid, ap, d4, rfl, hP, hw7⟩; have r1 := hP.am; have r2 := hP.mb)
                      have HP := hide hP
                      have HA7 := hide ((unhide HA).trans hw7)
                      clear hP hw7 HC HA
                      have hb7 : blk < w7.heap.size := Nat.lt_of_lt_of_le hblk (unhide HA7).gr.size
                      have hz4 := hide ((unhide HP).perm.1.trans (unhide HI1).size)
                      have hBl := (unhide HI1).bel.perm (by have := (unhide HI1).size; omega) (unhide HP).perm
                      by_cases h4 : mid - a' < b' - mid
                      · have h4z : (mid : Int) - (a' : Int) < (b' : Int) - (mid : Int) := by omega
                        have HIC := hide (unhide HIH a' mid lim' d4 w7 (by omega) (unhide hz4) r1 (by omega) hlim' hb7 (hBl.mono (by omega)) (unhide HA7).row)
                        have HF := hide (show b' - (mid + 1) ≤ b - a by omega)
                        have HM := hide hlim'
                        clear hBl hn hle h4 hl0 hl0z hlim hlim' hlimit h12 h12z hpv1 hpv2 hb7 hblk
                        go_wp2_with (go_at_call 74; refine (unhide HIC).mono ?_; rintro e w8 ⟨rfl, L, hL1, hL2, hw8⟩)
                        go_roundw
                        case rel => exact ⟨mid + 1, b', lim', _, ap, by simp, rfl, rfl, rfl, rfl, by omega, by omega, unhide HF, unhide HM, hide ⟨L, (unhide HI1).left (unhide HP) hL1 hL2, (unhide HA7).trans hw8⟩⟩
                        case measure => simp [intOf]; omega
                      · have h4z : ¬ ((mid : Int) - (a' : Int) < (b' : Int) - (mid : Int)) := by omega
                        have HBr : Hz (Sort.Below Sort.ltInt (mid + 1) b' d4) := hide (.inr fun i h1 h2 => by rw [Nat.add_sub_cancel]; exact (unhide HP).hi i (by omega) h2)
                        have HIC := hide (unhide HIH (mid + 1) b' lim' d4 w7 (by omega) (unhide hz4) (by omega) (by omega) hlim' hb7 (unhide HBr) (unhide HA7).row)
                        rw [show ((mid + 1 : Nat) : Int) = (mid : Int) + 1 from rfl] at HIC
                        have HF := hide (show mid - a' ≤ b - a by omega)
                        have HM := hide hlim'
                        clear hBl hn hle h4 hl0 hl0z hlim hlim' hlimit h12 h12z hpv1 hpv2 hb7 hblk
                        go_wp2_with (go_at_call 74; refine (unhide HIC).mono ?_; rintro e w8 ⟨rfl, L, hL1, hL2, hw8⟩)
                        go_roundw
                        case rel => exact ⟨a', mid, lim', _, ap, rfl, rfl, rfl, rfl, rfl, by omega, by omega, unhide HF, unhide HM, hide ⟨L, (unhide HI1).right (unhide HP) hL1 hL2, (unhide HA7).trans hw8⟩⟩
                        case measure => simp [intOf]; omega
                    · have hq := (unhide HI).1 rfl
                      have HQ := hide hq
                      clear HI hq
                      have HC := hide (so_equal blk off cap a' b' pw N d3 (unhide HI1).size hpv1 hpv2 hb' hsz wc (unhide HA).row)
                      go_wp2_with (go_at_call 88; refine (unhide HC).mono ?_; rintro e w7 ⟨mid, d4, rfl, hE, hw7⟩)
                      have r1 := hE.am
                      have r2 := hE.mb
                      go_roundw
                      case rel => exact ⟨mid, b', lim', wb, wp, rfl, rfl, rfl, rfl, rfl, by omega, hb', by omega, hlim', hide ⟨d4, (unhide HI1).eqs (unhide HQ).1 hpv1 hpv2 (unhide HQ).2 hE, (unhide HA).trans hw7⟩⟩
                      case measure => simp [intOf]; omega
/-- slices.Sort at runes. -/
theorem so_sort (blk off cap N : Nat) (hsz : N ≤ 1000000) (d : Array Int) (hN : d.size = N) (w : World) (hblk : blk < w.heap.size) (hH : Sort.Holds (Value.int .i32) w blk off d) :
    Calls Try.prog 60 #[.slice (some ⟨blk, off, none⟩) N cap] w fun e w' => e = .returned (.tuple #[]) ∧ ∃ d', Sort.PermIn 0 N d d' ∧ Sort.SortedIn Sort.ltInt 0 N d' ∧ SoAt w w' blk off d' := by
  have hbl : Sort.bitsLen N ≤ 20 := (Sort.bitsLen_le_iff N 20).2 (by omega)
  obtain ⟨l, hl⟩ : ∃ l, l = Sort.bitsLen N := ⟨_, rfl⟩
  have HL := hide (len_any N (by omega))
  rw [← hl] at HL hbl
  have HC := hide (so_pdq blk off cap N hsz (N + 1) 0 N l d w (by omega) hN (Nat.zero_le _) (Nat.le_refl _) (by omega) hblk (.inl rfl) hH)
  clear hl hH hN
  go_enter Try.func60, Try.ntmps60
  go_wp2_with (go_at_call 58; refine (unhide HL _).mono ?_; rintro e w' ⟨rfl, rfl⟩)
  refine (unhide HC).mono ?_
  rintro e w1 ⟨rfl, d', h1, h2, h3⟩
  go_wp2_with fail
  go_end0
  exact ⟨rfl, d', h1, h2, h3⟩
end Go.Proofs.Ytemmflhofhngbaa
