/- Texts of this claim, one behind the other. -/
import Derived.Test.YtnnbaodillnkkaaGreatM23
import Derived.Test.YtnnbaodillnkkaaGreatM24
import Derived.Test.YtnnbaodillnkkaaGreatSoEq
import Derived.Test.YtnnbaodillnkkaaGreatSoPart
import Derived.Test.YtnnbaodillnkkaaGreatM25
import Derived.Deep.Cut
import Derived.Test.YtnnbaodillnkkaaGreatM13
import Derived.Test.YtnnbaodillnkkaaGreatShR
/- pdqsortOrdered at runes, slices.Sort at runes. -/
namespace Go.Proofs.YtnnbaodillnkkaaGreat
open Go.RowKit Go.Shelf
set_option linter.unusedVariables false
set_option maxRecDepth 100000 in
set_option maxHeartbeats 16000000 in
theorem so_pdq (blk off cap N : Nat) (hsz : N ≤ 1000000) : ∀ (n a b limit : Nat) (d : Array Int) (w : World), b - a < n → d.size = N → a ≤ b → b ≤ N → limit ≤ 1000 → blk < w.heap.size → Sort.Below Sort.ltInt a b d → Sort.Holds (Value.int .i32) w blk off d →
    Calls Tryz.prog 61 #[.slice (some ⟨blk, off, none⟩) N cap, .int .i64 a, .int .i64 b, .int .i64 limit] w fun e w' => e = .returned (.tuple #[]) ∧ ∃ d', Sort.PermIn a b d d' ∧ Sort.SortedIn Sort.ltInt a b d' ∧ SoAt w w' blk off d' := by
  intro n
  induction n with
  | zero => intro a b limit d w h; omega
  | succ n ih =>
    intro a b limit d w hn hN hab hb hlimit hblk hBel hH
    have HIH := hide ih
    have HI0 := hide (show PdI a b N d a b d from ⟨hab, hb, hN, hBel, fun d' h1 h2 => ⟨h1, h2⟩⟩)
    have HS := hide (SoAt.start hH)
    clear ih hBel hH hN
    go_enter Tryz.func61, Tryz.ntmps61
    go_wp2_with fail
    go_loopw [1, 2, 3, 8, 9] (fun s1 s2 s3 s8 s9 wr => ∃ (a' b' lim : Nat) (wb wp : Bool), s1 = .int .i64 a' ∧ s2 = .int .i64 b' ∧ s3 = .int .i64 lim ∧ s8 = .bool wb ∧ s9 = .bool wp ∧ a' ≤ b' ∧ b' ≤ N ∧ b' - a' ≤ b - a ∧ lim ≤ 1000 ∧ Hz (∃ dk, PdI a b N d a' b' dk ∧ SoAt w wr blk off dk)) (fun s1 s2 _ _ _ _ => (intOf s2 - intOf s1).toNat)
    case atStart => exact ⟨a, b, limit, true, true, rfl, rfl, rfl, rfl, rfl, hab, hb, Nat.le_refl _, hlimit, hide ⟨d, unhide HI0, unhide HS⟩⟩
    case round =>
      clear HI0 HS
      obtain ⟨a', b', lim, wb, wp, rfl, rfl, rfl, rfl, rfl, hab', hb', hle, hlim, HI⟩ := hrel
      obtain ⟨dk, hI, hA⟩ := unhide HI
      have hbw : blk < wr.heap.size := Nat.lt_of_lt_of_le hblk hA.gr.size
      have HI1 := hide hI
      have HA := hide hA
      have HZ := hide hI.size
      clear HI hI hA
      by_cases h12 : b' ≤ a' + 12
      · have h12z : (b' : Int) - (a' : Int) ≤ 12 := by omega
        have hc := so_ins blk off cap a' b' dk hab' (by rw [unhide HZ]; exact hb') (by rw [unhide HZ]; exact hsz) wr (unhide HA).row
        rw [unhide HZ] at hc
        have HC := hide hc
        clear hc
        go_wp2_with (go_at_call 126; refine (unhide HC).mono ?_; rintro e w1 ⟨rfl, hw1⟩)
        (try simp only [Exit.inBlock, Exit.then])
        refine bodyPost_ret (results_none rfl _ _ _) rfl ?_
        have hx := Sort.insertionSort_holds (lt := Sort.ltInt) swoI dk a' b' hab' (by rw [unhide HZ]; exact hb')
        obtain ⟨y1, y2⟩ := (unhide HI1).fin _ hx.1 hx.2
        exact ⟨rfl, _, y1, y2, (unhide HA).trans hw1⟩
      · have h12z : ¬ ((b' : Int) - (a' : Int) ≤ 12) := by omega
        by_cases hl0 : lim = 0
        · subst hl0
          have HC := hide (so_heap blk off cap a' b' N dk (unhide HZ) (by omega) hb' hsz wr (unhide HA).row)
          go_wp2_with (go_at_call 127; refine (unhide HC).mono ?_; rintro e w1 ⟨rfl, hw1⟩)
          (try simp only [Exit.inBlock, Exit.then])
          refine bodyPost_ret (results_none rfl _ _ _) rfl ?_
          have hx := Sort.heapSort_holds (lt := Sort.ltInt) swoI dk a' b' hab' (by rw [unhide HZ]; exact hb')
          obtain ⟨y1, y2⟩ := (unhide HI1).fin _ hx.1 hx.2
          exact ⟨rfl, _, y1, y2, (unhide HA).trans hw1⟩
        · have hl0z : ¬ ((lim : Int) = 0) := by omega
          go_upto_if 35 with fail
          go_cut [3] from 19 (fun s3 wc => ∃ lim' : Nat, s3 = .int .i64 lim' ∧ lim' ≤ 1000 ∧ Hz (∃ d1, PdI a b N d a' b' d1 ∧ SoAt w wc blk off d1))
          case first =>
            cases wb
            · have HC := hide (so_break blk off cap a' b' N dk (unhide HZ) (by omega) hb' hsz wr hbw (unhide HA).row)
              go_wp2_with (go_at_call 128; refine (unhide HC).mono ?_; rintro e w1 ⟨rfl, d1, hp, hw1⟩)
              go_meet
              case rel => exact ⟨lim - 1, by congr 1; omega, by omega, hide ⟨d1, (unhide HI1).perm hp, (unhide HA).trans hw1⟩⟩
            · go_wp2_with fail
              go_meet
              case rel => exact ⟨lim, rfl, hlim, hide ⟨dk, unhide HI1, unhide HA⟩⟩
          case rest =>
            clear HI1 HA HZ
            obtain ⟨lim', rfl, hlim', HI⟩ := hcut
            obtain ⟨d1, hI, hA⟩ := unhide HI
            have HI1 := hide hI
            have HA := hide hA
            have HC := hide (so_pivot blk off cap a' b' N d1 hI.size (by omega) hb' hsz wc (Nat.lt_of_lt_of_le hblk hA.gr.size) hA.row)
            clear HI hI hA
            go_upto_if 50 with (go_at_call 129; refine (unhide HC).mono ?_; rintro e w2 ⟨pv, hint, rfl, hpv1, hpv2, hw2⟩)
            have HA2 := hide ((unhide HA).trans hw2)
            clear hw2 HC HA
            go_cut [11, 12] from 19 (fun s11 s12 wc => ∃ (pv : Nat) (hint : Int), s11 = .int .i64 pv ∧ s12 = .int .i64 hint ∧ a' ≤ pv ∧ pv < b' ∧ Hz (∃ d1, PdI a b N d a' b' d1 ∧ SoAt w wc blk off d1))
            case first =>
              by_cases hh : hint = 2
              · subst hh
                have HC := hide (so_rev blk off cap a' b' N d1 (unhide HI1).size (by omega) hb' hsz w2 (unhide HA2).row)
                go_wp2_with (go_at_call 130; refine (unhide HC).mono ?_; rintro e w3 ⟨rfl, d2, hp, hw3⟩)
                go_meet
                case rel => exact ⟨(b' - 1) - (pv - a'), 1, by congr 1; omega, rfl, by omega, by omega, hide ⟨d2, (unhide HI1).perm hp, (unhide HA2).trans hw3⟩⟩
              · go_wp2_with fail
                go_meet
                case rel => exact ⟨pv, hint, rfl, rfl, hpv1, hpv2, hide ⟨d1, unhide HI1, unhide HA2⟩⟩
            case rest =>
              clear HI1 HA2
              clear d1
              clear hpv1 hpv2
              obtain ⟨pw, hint', rfl, rfl, hpv1, hpv2, HI⟩ := hcut
              go_upto_region 15 with fail
              go_cut [12, 68] from 19 (fun s12 s68 wx => ∃ c : Bool, s12 = .int .i64 hint' ∧ s68 = .bool c ∧ wx = wc)
              case first =>
                by_cases hh : hint' = 1
                · subst hh
                  cases wb <;> cases wp <;> (go_wp2_with fail; go_meet; exact ⟨_, rfl, rfl, rfl⟩)
                · have hh' : (hint' == 1) = false := beq_eq_false_iff_ne.2 hh
                  cases wb <;> cases wp <;> (go_wp2_with fail; go_meet; exact ⟨_, rfl, rfl, rfl⟩)
              case rest =>
                obtain ⟨c68, rfl, rfl, rfl⟩ := hcut
                obtain ⟨d1, hI, hA⟩ := unhide HI
                have HI1 := hide hI
                have HA := hide hA
                clear HI hI hA
                go_upto_if 68 with fail
                go_cut [] from 19 (fun wx => Hz (∃ d1, PdI a b N d a' b' d1 ∧ SoAt w wx blk off d1))
                case first =>
                  cases c68
                  · go_wp2_with fail
                    go_meet
                    case rel => exact hide ⟨d1, unhide HI1, unhide HA⟩
                  · have hx := Sort.partialInsertionSort_holds (lt := Sort.ltInt) swoI d1 a' b' (by omega) (by rw [(unhide HI1).size]; exact hb') (unhide HI1).bel
                    have HC := hide (so_partial blk off cap a' b' N d1 (unhide HI1).size (by omega) hb' hsz wc (unhide HA).row)
                    obtain ⟨R, hR⟩ : ∃ R, R = Sort.partialInsertionSort Sort.ltInt d1 a' b' := ⟨_, rfl⟩
                    rw [← hR] at HC hx
                    have HX := hide hx
                    clear hx hR
                    obtain ⟨D, r⟩ := R
                    cases r
                    · go_wp2_with (go_at_call 131; refine (unhide HC).mono ?_; rintro e w4 ⟨rfl, hw4⟩)
                      go_meet
                      case rel => exact hide ⟨D, (unhide HI1).perm (unhide HX).1, (unhide HA).trans hw4⟩
                    · go_wp2_with (go_at_call 131; refine (unhide HC).mono ?_; rintro e w4 ⟨rfl, hw4⟩)
                      (try simp only [Exit.inBlock, Exit.then])
                      refine bodyPost_ret (results_none rfl _ _ _) rfl ?_
                      obtain ⟨y1, y2⟩ := (unhide HI1).fin _ (unhide HX).1 (by first | exact (unhide HX).2 rfl | exact (unhide HX).2 trivial)
                      exact ⟨rfl, _, y1, y2, (unhide HA).trans hw4⟩
                case rest =>
                  clear HI1 HA
                  clear d1
                  obtain ⟨d3, hI, hA⟩ := unhide hcut
                  obtain ⟨G, hG, hc, hf⟩ := hA.cells N hI.size
                  have HI1 := hide hI
                  have HA := hide hA
                  have HG := hide hG
                  clear hcut hI hA hG
                  go_upto_region 17 with fail
                  go_cut [87] from 19 (fun s87 wx => ∃ c : Bool, s87 = .bool c ∧ Hz ((c = true → 0 < a' ∧ Sort.ltInt d3[a' - 1]! d3[pw]! = false) ∧ SoAt w wx blk off d3))
                  case first =>
                    by_cases ha0 : 0 < a'
                    · have ha0z : (0 : Int) < (a' : Int) := by omega
                      go_big_quiet (first | (go_at_call 132; refine Calls.quiet_of_same (less32 _ _ _)))
                      go_wp2_with fail
                      go_meet
                      case rel => exact ⟨_, rfl, hide ⟨fun h => ⟨ha0, by rw [← unhide HG, ← unhide HG]; simpa using h⟩, (unhide HA).drewN nq⟩⟩
                    · have ha0z : decide ((0 : Int) < (a' : Int)) = false := decide_eq_false (by omega)
                      go_big_quiet (first | (go_at_call 132; refine Calls.quiet_of_same (less32 _ _ _)))
                      go_wp2_with fail
                      go_meet
                      case rel => exact ⟨_, rfl, hide ⟨fun h => absurd h (by simp), (unhide HA).drewN nq⟩⟩
                  case rest =>
                    clear HA hc hf HG
                    obtain ⟨c87, rfl, HI⟩ := hcut
                    have HA := hide (unhide HI).2
                    cases c87
                    · clear HI
                      have HC := hide (so_part blk off cap a' b' pw N d3 (unhide HI1).size hpv1 hpv2 hb' hsz wc (unhide HA).row)
                      go_upto_if 113 with (go_at_call 134; refine (unhide HC).mono ?_; rintro e w7 ⟨mid, ap, d4, rfl, hP, hw7⟩; have r1 := hP.am; have r2 := hP.mb)
                      have HP := hide hP
                      have HA7 := hide ((unhide HA).trans hw7)
                      clear hP hw7 HC HA
                      have hb7 : blk < w7.heap.size := Nat.lt_of_lt_of_le hblk (unhide HA7).gr.size
                      have hz4 := hide ((unhide HP).perm.1.trans (unhide HI1).size)
                      have hBl := (unhide HI1).bel.perm (by have := (unhide HI1).size; omega) (unhide HP).perm
                      by_cases h4 : mid - a' < b' - mid
                      · have h4z : (mid : Int) - (a' : Int) < (b' : Int) - (mid : Int) := by omega
                        have HIC := hide (unhide HIH a' mid lim' d4 w7 (by omega) (unhide hz4) r1 (by omega) hlim' hb7 (hBl.mono (by omega)) (unhide HA7).row)
                        have HF := hide (show b' - (mid + 1) ≤ b - a by omega)
                        have HM := hide hlim'
                        clear hBl hn hle h4 hl0 hl0z hlim hlim' hlimit h12 h12z hpv1 hpv2 hb7 hblk
                        go_wp2_with (go_at_call 61; refine (unhide HIC).mono ?_; rintro e w8 ⟨rfl, L, hL1, hL2, hw8⟩)
                        go_roundw
                        case rel => exact ⟨mid + 1, b', lim', _, ap, by simp, rfl, rfl, rfl, rfl, by omega, by omega, unhide HF, unhide HM, hide ⟨L, (unhide HI1).left (unhide HP) hL1 hL2, (unhide HA7).trans hw8⟩⟩
                        case measure => simp [intOf]; omega
                      · have h4z : ¬ ((mid : Int) - (a' : Int) < (b' : Int) - (mid : Int)) := by omega
                        have HBr : Hz (Sort.Below Sort.ltInt (mid + 1) b' d4) := hide (.inr fun i h1 h2 => by rw [Nat.add_sub_cancel]; exact (unhide HP).hi i (by omega) h2)
                        have HIC := hide (unhide HIH (mid + 1) b' lim' d4 w7 (by omega) (unhide hz4) (by omega) (by omega) hlim' hb7 (unhide HBr) (unhide HA7).row)
                        rw [show ((mid + 1 : Nat) : Int) = (mid : Int) + 1 from rfl] at HIC
                        have HF := hide (show mid - a' ≤ b - a by omega)
                        have HM := hide hlim'
                        clear hBl hn hle h4 hl0 hl0z hlim hlim' hlimit h12 h12z hpv1 hpv2 hb7 hblk
                        go_wp2_with (go_at_call 61; refine (unhide HIC).mono ?_; rintro e w8 ⟨rfl, L, hL1, hL2, hw8⟩)
                        go_roundw
                        case rel => exact ⟨a', mid, lim', _, ap, rfl, rfl, rfl, rfl, rfl, by omega, by omega, unhide HF, unhide HM, hide ⟨L, (unhide HI1).right (unhide HP) hL1 hL2, (unhide HA7).trans hw8⟩⟩
                        case measure => simp [intOf]; omega
                    · have hq := (unhide HI).1 rfl
                      have HQ := hide hq
                      clear HI hq
                      have HC := hide (so_equal blk off cap a' b' pw N d3 (unhide HI1).size hpv1 hpv2 hb' hsz wc (unhide HA).row)
                      go_wp2_with (go_at_call 133; refine (unhide HC).mono ?_; rintro e w7 ⟨mid, d4, rfl, hE, hw7⟩)
                      have r1 := hE.am
                      have r2 := hE.mb
                      go_roundw
                      case rel => exact ⟨mid, b', lim', wb, wp, rfl, rfl, rfl, rfl, rfl, by omega, hb', by omega, hlim', hide ⟨d4, (unhide HI1).eqs (unhide HQ).1 hpv1 hpv2 (unhide HQ).2 hE, (unhide HA).trans hw7⟩⟩
                      case measure => simp [intOf]; omega
theorem so_sort (blk off cap N : Nat) (hsz : N ≤ 1000000) (d : Array Int) (hN : d.size = N) (w : World) (hblk : blk < w.heap.size) (hH : Sort.Holds (Value.int .i32) w blk off d) :
    Calls Tryz.prog 31 #[.slice (some ⟨blk, off, none⟩) N cap] w fun e w' => e = .returned (.tuple #[]) ∧ ∃ d', Sort.PermIn 0 N d d' ∧ Sort.SortedIn Sort.ltInt 0 N d' ∧ SoAt w w' blk off d' := by
  have hbl : Sort.bitsLen N ≤ 20 := (Sort.bitsLen_le_iff N 20).2 (by omega)
  obtain ⟨l, hl⟩ : ∃ l, l = Sort.bitsLen N := ⟨_, rfl⟩
  have HL := hide (len_any N (by omega))
  rw [← hl] at HL hbl
  have HC := hide (so_pdq blk off cap N hsz (N + 1) 0 N l d w (by omega) hN (Nat.zero_le _) (Nat.le_refl _) (by omega) hblk (.inl rfl) hH)
  clear hl hH hN
  go_enter Tryz.func31, Tryz.ntmps31
  go_wp2_with (go_at_call 62; refine (unhide HL _).mono ?_; rintro e w' ⟨rfl, rfl⟩)
  refine (unhide HC).mono ?_
  rintro e w1 ⟨rfl, d', h1, h2, h3⟩
  go_wp2_with fail
  go_end0
  exact ⟨rfl, d', h1, h2, h3⟩
theorem so_ins0 (p : Option Addr) (cap : Nat) (w : World) : Calls Tryz.prog 126 #[.slice p 0 cap, .int .i64 0, .int .i64 0] w fun e w' => e = .returned (.tuple #[]) ∧ w' = w := by
  go_enter Tryz.func126, Tryz.ntmps126
  go_wp2
  go_loopw [6] (fun vi wr => vi = .int .i64 1 ∧ wr = w) (fun vi _ => 0)
  case atStart => exact ⟨rfl, rfl⟩
  case round =>
    obtain ⟨rfl, rfl⟩ := hrel
    go_wp2
    go_end0
    exact ⟨rfl, rfl⟩
theorem so_pdq0 (p : Option Addr) (cap : Nat) (w : World) : Calls Tryz.prog 61 #[.slice p 0 cap, .int .i64 0, .int .i64 0, .int .i64 0] w fun e w' => e = .returned (.tuple #[]) ∧ w' = w := by
  go_enter Tryz.func61, Tryz.ntmps61
  go_wp2_with fail
  go_loopw [1, 2, 3, 8, 9] (fun s1 s2 s3 s8 s9 wr => s1 = .int .i64 0 ∧ s2 = .int .i64 0 ∧ s3 = .int .i64 0 ∧ s8 = .bool true ∧ s9 = .bool true ∧ wr = w) (fun _ _ _ _ _ _ => 0)
  case atStart => exact ⟨rfl, rfl, rfl, rfl, rfl, rfl⟩
  case round =>
    obtain ⟨rfl, rfl, rfl, rfl, rfl, rfl⟩ := hrel
    go_wp2_with (go_at_call 126; refine (so_ins0 p cap _).mono ?_; rintro e w1 ⟨rfl, rfl⟩)
    (try simp only [Exit.inBlock, Exit.then])
    refine bodyPost_ret (results_none rfl _ _ _) rfl ?_
    exact ⟨rfl, rfl⟩
theorem so_sort0 (p : Option Addr) (cap : Nat) (w : World) : Calls Tryz.prog 31 #[.slice p 0 cap] w fun e w' => e = .returned (.tuple #[]) ∧ w' = w := by
  have HL := hide (len_any 0 (by omega))
  have e0 : Sort.bitsLen 0 = 0 := by decide
  rw [e0] at HL
  go_enter Tryz.func31, Tryz.ntmps31
  go_wp2_with (first | (go_at_call 62; refine (unhide HL _).mono ?_; rintro e w' ⟨rfl, rfl⟩) | (go_at_call 61; refine (so_pdq0 p cap _).mono ?_; rintro e w' ⟨rfl, rfl⟩))
  go_end0
  exact ⟨rfl, rfl⟩
theorem perm_list {zs : List Int} {d : Array Int} (h : Sort.PermIn 0 zs.length zs.toArray d) : d.toList.Perm zs := by
  have h1 := h.1
  have h2 := h.2.2
  rw [show zs.toArray.extract 0 zs.length = zs.toArray by simp, show d.extract 0 zs.length = d by rw [show zs.length = d.size by simpa using h1.symm]; simp] at h2
  simpa using h2
theorem append_v {w : World} {ops : Array Oper} {rest : List Oper} {o : Oper} {a : Act} {Q : Exit → Act → World → Prop} (hgd : o.guard = none) (s x : Operand) (T E : TypeId)
    (ho : o.op = .call { callee := .builtin .append, args := #[s, x], argTypes := #[T, T] }) (i : TypeInfo) (z : Value) (bytes : Nat) (hT : Tryz.prog.underlying T = some (.slice E)) (hi : Tryz.prog.info? E = some i) (h1 : i.zero = some z) (h2 : i.size = 1) (h3 : i.bytes = bytes) (hzs : z.cells.size = 1) (hb8 : bytes ≤ 64)
    (lo : Nat) (v : Value) (xs : List Value) (u : Value) (hs : a.eval s = v) (hl : xs.length ≤ 900000) (W : World) (hW : w = W.alloc (.cells #[u] E)) (hu : u.oneCell' = true) (hv : W.ownsRow lo E 1 v xs.length xs) (hlo : lo ≤ W.heap.size) (n : Nat) (hn : n = W.heap.size) (hx : a.eval x = .slice (some ⟨n, 0, none⟩) 1 1)
    (h : ∀ v' w', w'.ownsRow lo E 1 v' (xs ++ [u]).length (xs ++ [u]) → Below lo W w' → wpList Tryz.prog ops Q rest (a.put o.dst v') w') : wpList Tryz.prog ops Q (o :: rest) a w := by
  subst hW
  subst hn
  have b := Blk.new W #[u] E
  refine wpList_append_own _ hgd s x T ho lo E i z 1 bytes hT hi h1 h2 h3 hzs (by decide) v xs.length xs hs (hv.alloc _) ⟨W.heap.size, 0, none⟩ 1 1 [u] hx (by simp) (fun j y hj => ?_) (fun y hy => by rw [List.mem_singleton.1 hy]; exact hu) (by unfold maxLen; omega) ?_ (by simp; omega) (fun v' w' h4 h5 _ => h v' w' (by rw [List.length_append, List.length_singleton]; exact h4) ?_)
  · match j, hj with
    | 0, hj => cases hj; exact b.cell 0
    | j + 1, hj => simp at hj
  · have : (xs.length + 1) * bytes ≤ 900001 * 64 := Nat.mul_le_mul (by omega) hb8
    omega
  · exact ((Below.refl lo W).alloc hlo _).grown h5 (by simp; omega) (fun k e => ((hv.alloc (.cells #[u] E)).lt k e).1)
theorem infoR32 : (Tryz.prog.info? 21).map (fun i => (i.zero, i.size, i.bytes)) = some (some (.int .i32 0), 1, 4) := by kernel_rfl
end Go.Proofs.YtnnbaodillnkkaaGreat
namespace Go.Proofs.YtnnbaodillnkkaaGreat
open Go.RowKit Go.Shelf Go.Maps
set_option linter.unusedVariables false
def toL (l : List (Int × ByteArray)) (r : Int) : List Int := ((toP l r).map (fun x => runesL x.2)).getD []
set_option maxRecDepth 100000 in
theorem cloneR_any (g n cap : Nat) (zs : List Int) (hn : n = zs.length) (hl : zs.length ≤ 1000000) (w : World) (hr : RnC w w.heap.size (some ⟨g, 0, none⟩) zs) : Calls Tryz.prog 34 #[.slice (some ⟨g, 0, none⟩) n cap] w fun e w' => ∃ v', e = .returned v' ∧ w'.ownsRow w.heap.size 21 1 v' zs.length (zs.map (Value.int .i32)) ∧ Below w.heap.size w w' := by
  subst hn
  obtain ⟨i0, hi, hz0, hz1, hz2⟩ := info_parts infoR32
  refine (show Calls Tryz.prog 34 #[.slice (some ⟨g, 0, none⟩) zs.length cap] w _ from AnyE.slices_Clone cloneRune i0 (.int .i32 0) 1 4 hi hz0 hz1 hz2 rfl (by decide) Tryz.sizeOf21 g 0 zs.length cap (zs.map (Value.int .i32)) w (by simp) (by unfold maxLen; omega) (by omega) (fun j u hu => ?_) (fun u hu => ?_)).mono ?_
  · rw [List.getElem?_map] at hu
    cases hz : zs[j]? with
    | none => rw [hz] at hu; cases hu
    | some x =>
      rw [hz] at hu
      obtain rfl : Value.int .i32 x = u := Option.some.inj hu
      obtain ⟨g', o', e, _, hc⟩ := hr (by have := (List.getElem?_eq_some_iff.1 hz).1; omega)
      injection e with e
      injection e with e1 e2 e3
      subst e1 e2
      exact hc j x hz
  · obtain ⟨x, _, rfl⟩ := List.mem_map.1 hu
    rfl
  · rintro e w' ⟨v', rfl, h2, _, h3⟩
    exact ⟨v', rfl, h2, h3⟩
theorem cloneR_nil (w : World) : Calls Tryz.prog 34 #[.slice none 0 0] w fun e w' => e = .returned (.slice none 0 0) ∧ w' = w := AnyE.slices_Clone_nil cloneRune 0 0 w
theorem toL_small {l : List (Int × ByteArray)} (h : ∀ x ∈ l, runeB x.1 = true ∧ toB x.2 = true) (r : Int) : (toL l r).length ≤ 4 := by
  unfold toL
  cases e : toP l r with
  | none => simp
  | some x => exact (toB_iff (h x (List.mem_of_find?_eq_some e)).2).2.2
set_option maxRecDepth 100000 in
theorem bkFold_any {T : TV} (hO : RowsOk T) (B : Nat) (r : Int) (hr : R32 r) (w : World) (h : BookAt w B T) : Calls Tryz.prog 15 #[.pointer (some ⟨B, 0, none⟩), .int .i32 r] w fun e w' => ∃ v, e = .returned (.tuple #[v, .bool (fromB T.fo r)]) ∧ w'.ownsRow w.heap.size 21 1 v (toL T.fo r).length ((toL T.fo r).map (Value.int .i32)) ∧ Below w.heap.size w w' := by
  obtain ⟨M, n, c0, hs⟩ := h.fos
  obtain ⟨a, c, hl, hrn, hno⟩ := toLook (T := T) hO.t4 hs hr
  have hsm := toL_small (l := T.fo) (r := r) hO.f4
  rw [show ((toP T.fo r).map (fun x => runesL x.2)).getD [] = toL T.fo r from rfl] at hl hrn
  rw [to_some] at hl
  have ha : (a = none ∧ c = 0 ∧ toL T.fo r = []) ∨ ∃ g, a = some ⟨g, 0, none⟩ := by
    cases e : toP T.fo r with
    | none => exact .inl ⟨(hno e).1, (hno e).2, by unfold toL; rw [e]; rfl⟩
    | some x =>
      refine .inr ?_
      have h0 : 0 < (toL T.fo r).length := by
        unfold toL
        rw [e]
        exact (toB_iff (hO.f4 x (List.mem_of_find?_eq_some e)).2).2.1
      obtain ⟨G, hm, hg⟩ := hs.mp
      rcases hg r hr with ⟨h1, _⟩ | ⟨y, hy, ey, g, c', h2, h3, h4⟩
      · exact absurd (by simpa using List.find?_some e) (h1 x (List.mem_of_find?_eq_some e))
      · obtain ⟨v, ps, hl2, hv⟩ := hm.look (int_keyed Tryz.underlying21) Tryz.underlying80 (z := .slice none 0 0) (by kernel_rfl) hdrElem_nil (keyOf_int_mk Tryz.underlying21 (wf32 hr)) trivial
        rw [h2] at hv hl2
        rw [hdrElem_inv hv, hl] at hl2
        injection hl2 with hl2 _
        injection hl2 with hl2
        have := congrArg (fun l : Array Value => l[0]?) hl2
        simp at this
        exact ⟨g, this.1⟩
  clear hs hno h
  generalize fromB T.fo r = ok at *
  generalize toL T.fo r = zs at *
  rcases ha with ⟨rfl, rfl, rfl⟩ | ⟨g, rfl⟩
  · have HC := hide (cloneR_nil w)
    clear hrn hsm
    dsimp only [List.length_nil] at hl
    go_enter Tryz.func15, Tryz.ntmps15
    go_wp2_with fail
    refine (unhide HC).mono ?_
    rintro e w1 ⟨rfl, hw⟩
    rw [hw]
    clear hw
    go_wp2_with fail
    exact bodyPost_ret (results_tmp2 Tryz.results15 _ _ _) rfl ⟨_, rfl, World.ownsRow_nil _ _ _ _, Below.refl _ _⟩
  · have HC := hide (cloneR_any g zs.length c zs rfl (by omega) w hrn)
    clear hrn hsm
    go_enter Tryz.func15, Tryz.ntmps15
    go_wp2_with fail
    refine (unhide HC).mono ?_
    rintro e w1 ⟨v', rfl, ho, hb⟩
    have HB := hide (And.intro ho hb)
    clear ho hb HC
    go_wp2_with fail
    exact bodyPost_ret (results_tmp2 Tryz.results15 _ _ _) rfl ⟨_, rfl, (unhide HB).1, (unhide HB).2⟩
theorem BookAt.scs {w : World} {B : Nat} {T : TV} (h : BookAt w B T) : ∃ (a : Option Addr) (c : Nat) (bs : List Nat), w.cell? ⟨B, 8, none⟩ = some (.slice a T.sc.length c) ∧ bs.length = T.sc.length ∧ RowC w w.heap.size a (bs.map ptrV) ∧ ∀ (j : Nat) (s : ByteArray × List (Int × Int)) (b : Nat), T.sc[j]? = some s → bs[j]? = some b → SetV w s.2 b := by
  obtain ⟨lo, t0, t1, t2, t3, t4, t5, t6, t7, sv, bs, Bc, Bd, Ba, M5, n5, M6, n6, M7, n7, MF, nF, ML, nL, h⟩ := h
  have hk := h.bx.cell 8
  rw [bkCs_8] at hk
  obtain ⟨a, c, rfl⟩ : ∃ a c, sv = .slice a T.sc.length c := by
    rcases h.row.2 with ⟨e, h0⟩ | ⟨g, cap, cur, e, _⟩
    · refine ⟨none, 0, ?_⟩
      have : T.sc.length = 0 := h0
      rw [e, this]
    · exact ⟨_, _, e⟩
  exact ⟨a, c, bs, hk, h.len, own_rowC h.row, h.sets⟩
def scrsK (T : TV) (r : Int) (k : Nat) : List Nat := (List.range k).filter (fun j => memB (T.sc.getD j sc0).2 r)
theorem scrsK_succ (T : TV) (r : Int) (k : Nat) : scrsK T r (k + 1) = scrsK T r k ++ (if memB (T.sc.getD k sc0).2 r then [k] else []) := by
  unfold scrsK
  rw [List.range_succ, List.filter_append]
  congr 1
  cases h : memB (T.sc.getD k sc0).2 r
  · simp only [List.filter_cons, List.filter_nil, h]
  · simp only [List.filter_cons, List.filter_nil, h]
theorem scrsK_le (T : TV) (r : Int) (k : Nat) : (scrsK T r k).length ≤ k := by
  have := List.length_filter_le (fun j => memB (T.sc.getD j sc0).2 r) (List.range k)
  rwa [List.length_range] at this
def intV (n : Nat) : Value := .int .i64 (n : Int)
theorem infoInt3 : (Tryz.prog.info? 3).map (fun i => (i.zero, i.size, i.bytes)) = some (some (.int .i64 0), 1, 8) := by kernel_rfl
theorem infoStr9 : (Tryz.prog.info? 9).map (fun i => (i.zero, i.size, i.bytes)) = some (some (.string ByteArray.empty), 1, 16) := by kernel_rfl
set_option maxRecDepth 100000 in
set_option maxHeartbeats 4000000 in
theorem bkScripts_any {T : TV} (hO : RowsOk T) (B : Nat) (r : Int) (W : World) (h : BookAt W B T) : Calls Tryz.prog 27 #[.pointer (some ⟨B, 0, none⟩), .int .i32 r] W fun e w' => ∃ v, e = .returned v ∧ w'.ownsRow W.heap.size 3 1 v (scrsOf T r).length ((scrsOf T r).map intV) ∧ Below W.heap.size W w' := by
  obtain ⟨i0, hi, hz0, hz1, hz2⟩ := info_parts infoInt3
  obtain ⟨a, c, bs, k8, hbl, hrow, hsets⟩ := h.scs
  have hL := hO.l0
  have HR := hide (And.intro hrow (And.intro hbl hsets))
  have HO := hide hO
  have H0 : Hz (W.ownsRow W.heap.size 3 1 (.slice none 0 0) (scrsK T r 0).length ((scrsK T r 0).map intV) ∧ Below W.heap.size W W) := hide ⟨World.ownsRow_nil _ _ _ _, Below.refl _ _⟩
  clear hrow hbl hsets h hO
  go_enter Tryz.func27, Tryz.ntmps27
  go_wp2_with fail
  go_loopw [5, 6, 7, 13] (fun s5 _ _ s13 wr => ∃ (k : Nat) (v5 : Value), k ≤ T.sc.length ∧ v5 = s5 ∧ s13 = .int .i64 k ∧ Hz (wr.ownsRow W.heap.size 3 1 v5 (scrsK T r k).length ((scrsK T r k).map intV) ∧ Below W.heap.size W wr)) (fun _ _ _ s13 _ => T.sc.length - (intOf s13).toNat)
  case atStart => exact ⟨0, _, Nat.zero_le _, rfl, rfl, H0⟩
  case round =>
    obtain ⟨k, v5, hk, e5, rfl, HS⟩ := hrel
    subst e5
    clear H0
    by_cases hkn : k < T.sc.length
    · obtain ⟨s, hs⟩ : ∃ s, T.sc[k]? = some s := ⟨_, List.getElem?_eq_getElem hkn⟩
      obtain ⟨b, hbs⟩ : ∃ b, bs[k]? = some b := ⟨_, List.getElem?_eq_getElem (by have := (unhide HR).2.1; omega)⟩
      obtain ⟨g, q, rfl, hg, hc⟩ := (unhide HR).1 (by rw [List.length_map, (unhide HR).2.1]; omega)
      have kc : wr.cell? ⟨g, q + k, none⟩ = some (.pointer (some ⟨b, 0, none⟩)) := ((unhide HS).2.cell (p := ⟨g, q + k, none⟩) hg).trans (hc k _ (by rw [List.getElem?_map, hbs]; rfl))
      have hlen : s.2.length ≤ 1000000 := by have := (unhide HO).s0 s (List.mem_of_getElem? hs); omega
      have HI := hide (setIn_any hlen (((unhide HR).2.2 k s b hs hbs).below (unhide HS).2) r)
      have HK : Hz (scrsK T r (k + 1) = scrsK T r k ++ (if memB s.2 r then [k] else [])) := hide (by rw [scrsK_succ, getD_of sc0 hs])
      have hk1 : (k : Int) < (T.sc.length : Int) := by omega
      have hk2 : ((k : Nat) : Int).toNat = k := by omega
      clear hs hbs hc hg hlen
      generalize memB s.2 r = bb at *
      go_wp2_with fail
      refine (unhide HI).mono ?_
      rintro e w2 ⟨rfl, hb⟩
      have HS2 := hide (And.intro (own_below (unhide HS).1 hb) ((unhide HS).2.trans (hb.mono (unhide HS).2.size)))
      clear hb HI HS kc
      cases bb with
      | false =>
        have HS3 : Hz (w2.ownsRow W.heap.size 3 1 v5 (scrsK T r (k + 1)).length ((scrsK T r (k + 1)).map intV) ∧ Below W.heap.size W w2) := hide (by rw [unhide HK, if_neg (by decide), List.append_nil]; exact unhide HS2)
        go_wp2_with fail
        exact ⟨⟨k + 1, _, by omega, rfl, by go_num, HS3⟩, by simp [intOf]; omega⟩
      | true =>
        have hsl := scrsK_le T r k
        go_wp2_with (at_builtin; refine append_v rfl _ _ 24 3 rfl i0 _ 8 Tryz.underlying24 hi hz0 hz1 hz2 rfl (by decide) W.heap.size v5 ((scrsK T r k).map intV) (intV k) rfl (by rw [List.length_map]; omega) w2 rfl rfl (by rw [List.length_map]; exact (unhide HS2).1) (unhide HS2).2.size _ rfl rfl ?_)
        intro v' w3 ho hb
        have HS3 : Hz (w3.ownsRow W.heap.size 3 1 v' (scrsK T r (k + 1)).length ((scrsK T r (k + 1)).map intV) ∧ Below W.heap.size W w3) := hide (by
          rw [unhide HK, if_pos trivial, List.map_append, List.length_append, List.map_singleton]
          exact ⟨ho, (unhide HS2).2.trans hb⟩)
        clear ho hb
        go_wp2_with fail
        exact ⟨⟨k + 1, _, by omega, rfl, by go_num, HS3⟩, by simp [intOf]; omega⟩
    · have hk1 : ¬ (k : Int) < (T.sc.length : Int) := by omega
      obtain rfl : k = T.sc.length := by omega
      go_wp2_with fail
      go_ret
      exact ⟨_, rfl, (unhide HS).1, (unhide HS).2⟩
def namesK (T : TV) (k : Nat) : List Value := (T.sc.take k).map (fun x => Value.string x.1)
set_option maxRecDepth 100000 in
set_option maxHeartbeats 4000000 in
theorem bkNames_any {T : TV} (hO : RowsOk T) (B : Nat) (W : World) (h : BookAt W B T) : Calls Tryz.prog 24 #[.pointer (some ⟨B, 0, none⟩)] W fun e w' => ∃ v, e = .returned v ∧ w'.ownsRow W.heap.size 9 1 v T.sc.length (T.sc.map (fun x => Value.string x.1)) ∧ Below W.heap.size W w' := by
  obtain ⟨i0, hi, hz0, hz1, hz2⟩ := info_parts infoStr9
  obtain ⟨a0, a1, a2, a3, a4, a5, a6, a7, c0, c1, c2, c3, c4, c5, c6, c7, us, tb⟩ := h.tabs
  have k0 := tb.k0
  have hL := hO.l0
  have HT := hide tb
  have H0 : Hz (W.ownsRow W.heap.size 9 1 (.slice none 0 0) (namesK T 0).length (namesK T 0) ∧ Below W.heap.size W W) := hide ⟨World.ownsRow_nil _ _ _ _, Below.refl _ _⟩
  clear tb h hO
  go_enter Tryz.func24, Tryz.ntmps24
  go_wp2_with fail
  go_loopw [3, 5, 12] (fun s3 _ s12 wr => ∃ (k : Nat) (v5 : Value), k ≤ T.sc.length ∧ v5 = s3 ∧ s12 = .int .i64 k ∧ Hz (wr.ownsRow W.heap.size 9 1 v5 (namesK T k).length (namesK T k) ∧ Below W.heap.size W wr)) (fun _ _ s12 _ => T.sc.length - (intOf s12).toNat)
  case atStart => exact ⟨0, _, Nat.zero_le _, rfl, rfl, H0⟩
  case round =>
    obtain ⟨k, v5, hk, e5, rfl, HS⟩ := hrel
    subst e5
    clear H0
    by_cases hkn : k < T.sc.length
    · obtain ⟨s, hs⟩ : ∃ s, T.sc[k]? = some s := ⟨_, List.getElem?_eq_getElem hkn⟩
      obtain ⟨u, hu⟩ : ∃ u, us[k]? = some u := ⟨_, List.getElem?_eq_getElem (by have := (unhide HT).ti.lu; omega)⟩
      obtain ⟨p, d, rfl, _⟩ := (unhide HT).ti.rs k s u hs hu
      have n0 := encSc_nm T.sc us (unhide HT).ti.lu k s hs
      have n1 : (encSc T.sc us)[k * 2 + 1]? = some (.slice p s.2.length d) := by rw [show k * 2 + 1 = 2 * k + 1 by omega, encSc_at _ _ (unhide HT).ti.lu]; exact hu
      obtain ⟨g, q, rfl, hg, hc⟩ := (unhide HT).ti.r0 (by have := (List.getElem?_eq_some_iff.1 n0).1; omega)
      have kc0 : wr.cell? ⟨g, q + k * 2, none⟩ = some (.string s.1) := ((unhide HS).2.cell (p := ⟨g, q + k * 2, none⟩) hg).trans (hc _ _ n0)
      have kc1 : wr.cell? ⟨g, q + k * 2 + 1, none⟩ = some (.slice p s.2.length d) := ((unhide HS).2.cell (p := ⟨g, q + k * 2 + 1, none⟩) hg).trans (hc _ _ n1)
      have HK : Hz (namesK T (k + 1) = namesK T k ++ [.string s.1]) := hide (by unfold namesK; rw [List.take_add_one, hs]; simp)
      have hk1 : (k : Int) < (T.sc.length : Int) := by omega
      have hk2 : ((k : Nat) : Int).toNat = k := by omega
      have hkl : (namesK T k).length ≤ 900000 := by unfold namesK; rw [List.length_map, List.length_take]; omega
      obtain ⟨s1, s2⟩ := s
      dsimp only at kc0 kc1 HK
      have hn := al1 wr (.cells #[.string s1, .slice p s2.length d] 70)
      have HS2 := hide (And.intro (own_below (unhide HS).1 hn) ((unhide HS).2.trans (hn.mono (unhide HS).2.size)))
      clear hs hu hc n0 n1 hg hn HS
      go_wp2_with (at_builtin; refine append_v rfl _ _ 62 9 rfl i0 _ 16 Tryz.underlying62 hi hz0 hz1 hz2 rfl (by decide) W.heap.size v5 (namesK T k) (.string s1) rfl hkl (wr.alloc (.cells #[.string s1, .slice p s2.length d] 70)) rfl rfl (unhide HS2).1 (unhide HS2).2.size (wr.heap.size + 1) (by simp) rfl ?_)
      intro v' w3 ho hb
      have HS3 : Hz (w3.ownsRow W.heap.size 9 1 v' (namesK T (k + 1)).length (namesK T (k + 1)) ∧ Below W.heap.size W w3) := hide (by
        rw [unhide HK, List.length_append]
        exact ⟨ho, (unhide HS2).2.trans hb⟩)
      clear ho hb
      go_wp2_with fail
      exact ⟨⟨k + 1, _, by omega, rfl, by go_num, HS3⟩, by simp [intOf]; omega⟩
    · have hk1 : ¬ (k : Int) < (T.sc.length : Int) := by omega
      obtain rfl : k = T.sc.length := by omega
      go_wp2_with fail
      go_ret
      refine ⟨_, rfl, ?_, (unhide HS).2⟩
      have := (unhide HS).1
      unfold namesK at this
      rw [List.take_of_length_le (Nat.le_refl _), List.length_map] at this
      exact this
end Go.Proofs.YtnnbaodillnkkaaGreat
