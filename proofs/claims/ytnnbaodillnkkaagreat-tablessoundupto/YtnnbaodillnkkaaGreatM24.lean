/- Texts of this claim, one behind the other. -/
import Derived.Test.YtnnbaodillnkkaaGreatM23
import Derived.Test.YtnnbaodillnkkaaGreatM12
import Derived.Shelf.SlSortCmp.Xorshift
/- heapSortOrdered at runes. -/
namespace Go.Proofs.YtnnbaodillnkkaaGreat
open Go.RowKit Go.Shelf
set_option linter.unusedVariables false
theorem sift_size (hi F : Nat) : ∀ (f root : Nat) (d : Array Int), hi ≤ f + root → (Sort.siftDown Sort.ltInt hi F root d).size = d.size
  | 0, root, d, h => by rw [Sort.siftDown, dif_pos (by omega)]
  | f + 1, root, d, h => by
    rw [Sort.siftDown]
    split
    · rfl
    · split
      · split
        · rfl
        · split
          · rw [sift_size hi F f _ _ (by omega), size_swp']
          · rfl
      · split
        · rfl
        · rw [sift_size hi F f _ _ (by omega), size_swp']
theorem half_from {a b : Nat} (h : a < b) : ((b : Int) - (a : Int) - 1).tdiv 2 = (((b - a - 1) / 2 + 1 : Nat) : Int) - 1 := by
  rw [Int.tdiv_eq_ediv_of_nonneg (by omega)]
  omega
set_option maxRecDepth 100000 in
set_option maxHeartbeats 8000000 in
theorem so_heap (blk off cap a b N : Nat) (d : Array Int) (hN : d.size = N) (hab : a < b) (hb : b ≤ N) (hsz : N ≤ 1000000) (w : World) (hH : Sort.Holds (Value.int .i32) w blk off d) :
    Calls Tryz.prog 127 #[.slice (some ⟨blk, off, none⟩) N cap, .int .i64 a, .int .i64 b] w fun e w' => e = .returned (.tuple #[]) ∧ SoAt w w' blk off (Sort.heapSort Sort.ltInt d a b) := by
  have HS := hide (SoAt.start hH)
  have HN := hide hN
  obtain ⟨H, hHd⟩ : ∃ H, H = b - a := ⟨_, rfl⟩
  have HHi := hide (show (b : Int) - (a : Int) = (H : Int) by omega)
  have HF := hide (half_from hab)
  have hH1 : 1 ≤ H := by omega
  have hHb : a + H ≤ N := by omega
  have HHd := hide hHd
  clear hH hN hHd
  go_enter Tryz.func127, Tryz.ntmps127
  go_wp2_with fail
  rw [← unhide HHd] at HF
  rw [unhide HHi] at HF ⊢
  go_loopw [9] (fun vi wr => ∃ (k : Nat) (dk : Array Int), vi = .int .i64 ((k : Int) - 1) ∧ k ≤ (H - 1) / 2 + 1 ∧ Hz (dk.size = N ∧ SoAt w wr blk off dk ∧ Sort.heapBuild Sort.ltInt H a k dk = Sort.heapBuild Sort.ltInt H a ((H - 1) / 2 + 1) d)) (fun vi _ => (intOf vi + 1).toNat)
  case atStart => exact ⟨(H - 1) / 2 + 1, d, by congr 1; omega, Nat.le_refl _, hide ⟨unhide HN, unhide HS, rfl⟩⟩
  case round =>
    obtain ⟨k, dk, rfl, hk, HI⟩ := hrel
    clear HS
    cases k with
    | zero =>
      clear HF
      rw [show (((0 : Nat) : Int)) - 1 = -1 from rfl]
      go_wp2_with fail
      go_loopw [10] (fun vi wr2 => ∃ (k : Nat) (dj : Array Int), vi = .int .i64 ((k : Int) - 1) ∧ k ≤ H ∧ Hz (dj.size = N ∧ SoAt w wr2 blk off dj ∧ Sort.heapPop Sort.ltInt a k dj = Sort.heapSort Sort.ltInt d a b)) (fun vi _ => (intOf vi + 1).toNat)
      case atStart => exact ⟨H, dk, rfl, Nat.le_refl _, hide ⟨(unhide HI).1, (unhide HI).2.1, by unfold Sort.heapSort; rw [← unhide HHd, ← (unhide HI).2.2]; rfl⟩⟩
      case round =>
        obtain ⟨k, dj, rfl, hk2, HJ⟩ := hrel
        cases k with
        | zero =>
          go_wp2_with fail
          go_end0
          exact ⟨rfl, by rw [← (unhide HJ).2.2]; exact (unhide HJ).2.1⟩
        | succ k =>
          obtain ⟨G, hG, hc, hf⟩ := (unhide HJ).2.1.cells N (unhide HJ).1
          have HG := hide hG
          clear hG
          have hkk : (((k + 1 : Nat) : Int)) - 1 = (k : Int) := by omega
          rw [hkk]
          clear hkk
          have hszj := (unhide HJ).1
          have HA := (unhide HJ).2.1.drew.swap (i := a) (j := a + k) (by omega) (by omega)
          rw [← unhide HG, ← unhide HG] at HA
          have HA2 := hide HA
          clear HA hszj
          have hm1 := mid_cell hc (i := a) (j := a + k) (by omega) (by omega)
          have hm2 := mid_frozen (G := G) hf (i := a) (j := a + k) (by omega)
          go_wp2_with fail
          go_region
          all_goals go_wp2_with fail
          refine (so_sift blk off cap 0 k a N (Sort.swp dj a (a + k)) (by rw [size_swp']; exact (unhide HJ).1) (by omega) (by omega) hsz _ (unhide HA2).row).mono ?_
          rintro e w' ⟨rfl, hA⟩
          go_wp2_with fail
          go_roundw
          case rel => exact ⟨k, Sort.siftDown Sort.ltInt k a 0 (Sort.swp dj a (a + k)), by simp, by omega, hide ⟨by rw [sift_size k a k 0 _ (by omega), size_swp']; exact (unhide HJ).1, (unhide HA2).trans hA, by rw [← (unhide HJ).2.2]; rfl⟩⟩
          case measure => simp [intOf]
    | succ k =>
      have hkk : (((k + 1 : Nat) : Int)) - 1 = (k : Int) := by omega
      rw [hkk]
      clear hkk
      go_wp2_with (go_at_call 163; refine (so_sift blk off cap k H a N dk (unhide HI).1 (by omega) (by omega) hsz _ (unhide HI).2.1.row).mono ?_; rintro e w' ⟨rfl, hA⟩)
      go_roundw
      case rel => exact ⟨k, Sort.siftDown Sort.ltInt H a k dk, by simp, by omega, hide ⟨by rw [sift_size H a H k dk (by omega)]; exact (unhide HI).1, (unhide HI).2.1.trans hA, by rw [← (unhide HI).2.2]; rfl⟩⟩
      case measure => simp [intOf]
set_option maxRecDepth 100000 in
set_option maxHeartbeats 4000000 in
theorem so_rev (blk off cap a b N : Nat) (d : Array Int) (hN : d.size = N) (hab : a < b) (hb : b ≤ N) (hsz : N ≤ 1000000) (w : World) (hH : Sort.Holds (Value.int .i32) w blk off d) :
    Calls Tryz.prog 130 #[.slice (some ⟨blk, off, none⟩) N cap, .int .i64 a, .int .i64 b] w fun e w' => e = .returned (.tuple #[]) ∧ ∃ d', Sort.PermIn a b d d' ∧ SoAt w w' blk off d' := by
  have HS := hide (SoAt.start hH)
  have HN := hide hN
  clear hH hN
  go_enter Tryz.func130, Tryz.ntmps130
  go_wp2
  go_loopw [6, 7] (fun vi vj wr => ∃ (i j : Nat) (dk : Array Int), vi = .int .i64 i ∧ vj = .int .i64 j ∧ a ≤ i ∧ j < b ∧ Hz (dk.size = N ∧ SoAt w wr blk off dk ∧ Sort.PermIn a b d dk)) (fun vi vj _ => ((intOf vj) - (intOf vi)).toNat)
  case atStart => exact ⟨a, b - 1, d, rfl, by congr 1; omega, Nat.le_refl _, by omega, hide ⟨unhide HN, unhide HS, Sort.permIn_refl _ _ _⟩⟩
  case round =>
    obtain ⟨i, j, dk, rfl, rfl, hi, hj, HI⟩ := hrel
    clear HS
    by_cases hlt : i < j
    · have hlt' : (i : Int) < (j : Int) := by omega
      obtain ⟨G, hG, hc, hf⟩ := (unhide HI).2.1.cells N (unhide HI).1
      have hm1 := mid_cell hc (i := i) (j := j) (by omega) (by omega)
      have hm2 := mid_frozen (G := G) hf (i := i) (j := j) (by omega)
      have hszj := (unhide HI).1
      have HA := (unhide HI).2.1.drew.swap (i := i) (j := j) (by omega) (by omega)
      rw [← hG, ← hG] at HA
      have HA2 := hide HA
      have HP := hide (Sort.permIn_trans _ _ _ _ _ (unhide HI).2.2 (Sort.swp_permIn dk a b i j (by omega) (by omega) (by omega) (by omega) (by omega)))
      have HZ := hide (show (Sort.swp dk i j).size = N by rw [size_swp']; exact hszj)
      clear HA hG hszj HI
      go_wp2_with fail
      go_region
      all_goals go_wp2
      go_roundw
      case rel => exact ⟨i + 1, j - 1, Sort.swp dk i j, by go_num, by congr 1; omega, by omega, by omega, hide ⟨unhide HZ, unhide HA2, unhide HP⟩⟩
      case measure => simp [intOf]; omega
    · have hlt' : ¬ (i : Int) < (j : Int) := by omega
      go_wp2
      go_end0
      exact ⟨rfl, dk, (unhide HI).2.2, (unhide HI).2.1⟩
structure PvAt (w W : World) (blk off : Nat) (d : Array Int) (sb m : Nat) : Prop where
  row : Sort.Holds (Value.int .i32) W blk off d
  gr : w.grownBy W (some sb)
  box : ∃ s : Nat, s ≤ m ∧ Blk W sb #[.int .i64 s] 3
theorem PvAt.mono {w W : World} {blk off : Nat} {d : Array Int} {sb m m2 : Nat} (h : PvAt w W blk off d sb m) (hm : m ≤ m2) : PvAt w W blk off d sb m2 := ⟨h.row, h.gr, by obtain ⟨s, hs, hb⟩ := h.box; exact ⟨s, by omega, hb⟩⟩
theorem PvAt.drewN {w W : World} {blk off : Nat} {d : Array Int} {sb m : Nat} (h : PvAt w W blk off d sb m) (q : Nat) : PvAt w (W.drewN q) blk off d sb m := ⟨h.row, ⟨h.gr.os, h.gr.tape, h.gr.output, h.gr.size, h.gr.block⟩, h.box⟩
theorem grown_set (W : World) (B i : Nat) (v : Value) : W.grownBy (W.setCell ⟨B, i, none⟩ v) (some B) := ⟨rfl, rfl, rfl, (KeepsWalks.setCell W _ _).size, fun k hk hn => Below.heap_setCell W ⟨B, i, none⟩ _ k (fun e => hn (by rw [e]))⟩
set_option maxRecDepth 100000 in
set_option maxHeartbeats 4000000 in
theorem so_order (blk off cap a b sb m N : Nat) (d : Array Int) (hN : d.size = N) (ha : a < N) (hb : b < N) (hsz : N ≤ 1000000) (hm : m ≤ 100) (w0 w : World) (hne : blk ≠ sb) (hP : PvAt w0 w blk off d sb m) :
    Calls Tryz.prog 178 #[.slice (some ⟨blk, off, none⟩) N cap, .int .i64 a, .int .i64 b, .pointer (some ⟨sb, 0, none⟩)] w fun e w' => ∃ x y : Nat, e = .returned (.tuple #[.int .i64 x, .int .i64 y]) ∧ (x = a ∨ x = b) ∧ (y = a ∨ y = b) ∧ PvAt w0 w' blk off d sb (m + 1) := by
  obtain ⟨s, hs, hbx⟩ := hP.box
  obtain ⟨G, hG, hc, hf⟩ := (SoAt.start hP.row).cells N hN
  have HP := hide hP
  have HBX := hide hbx
  have c0 := hbx.cell 0
  have f0 := hbx.frozen 0
  clear hP hbx hG
  go_enter Tryz.func178, Tryz.ntmps178
  go_wp2_with fail
  go_big_quiet (first | (go_at_call 132; refine Calls.quiet_of_same (less32 _ _ _)))
  go_wp2_with fail
  · go_ret2
    have hP2 : PvAt w0 (w.drewN nq) blk off d sb m := (unhide HP).drewN nq
    have hB2 : Blk (w.drewN nq) sb #[.int .i64 s] 3 := unhide HBX
    refine ⟨b, a, rfl, .inr rfl, .inl rfl, ?_⟩
    exact ⟨holds_of hP2.row (Below.heap_setCell _ ⟨sb, 0, none⟩ _ blk hne), grown_trans hP2.gr (grown_set _ sb 0 _), s + 1, by omega, hB2.set 0 _⟩
  · go_ret2
    exact ⟨a, b, rfl, .inl rfl, .inr rfl, ((unhide HP).drewN _).mono (by omega)⟩
set_option maxRecDepth 100000 in
set_option maxHeartbeats 4000000 in
theorem so_median (blk off cap a b c sb m N : Nat) (d : Array Int) (hN : d.size = N) (ha : a < N) (hb : b < N) (hc : c < N) (hsz : N ≤ 1000000) (hm : m ≤ 90) (w0 w : World) (hne : blk ≠ sb) (hP : PvAt w0 w blk off d sb m) :
    Calls Tryz.prog 167 #[.slice (some ⟨blk, off, none⟩) N cap, .int .i64 a, .int .i64 b, .int .i64 c, .pointer (some ⟨sb, 0, none⟩)] w fun e w' => ∃ x : Nat, e = .returned (.int .i64 x) ∧ (x = a ∨ x = b ∨ x = c) ∧ PvAt w0 w' blk off d sb (m + 3) := by
  have HN := hide hN
  have HP := hide hP
  clear hP hN
  go_enter Tryz.func167, Tryz.ntmps167
  go_wp2_with fail
  refine (so_order blk off cap a b sb m N d (unhide HN) ha hb hsz (by omega) w0 _ hne (unhide HP)).mono ?_
  rintro e w1 ⟨x1, y1, rfl, hx1, hy1, hP1⟩
  have HP1 := hide hP1
  clear hP1 HP
  go_wp2_with fail
  refine (so_order blk off cap y1 c sb (m + 1) N d (unhide HN) (by omega) hc hsz (by omega) w0 _ hne (unhide HP1)).mono ?_
  rintro e w2 ⟨x2, y2, rfl, hx2, hy2, hP2⟩
  have HP2 := hide hP2
  clear hP2 HP1
  go_wp2_with fail
  refine (so_order blk off cap x1 x2 sb (m + 2) N d (unhide HN) (by omega) (by omega) hsz (by omega) w0 _ hne (unhide HP2)).mono ?_
  rintro e w3 ⟨x3, y3, rfl, hx3, hy3, hP3⟩
  have HP3 := hide hP3
  clear hP3 HP2
  go_wp2_with fail
  go_ret
  exact ⟨y3, rfl, by omega, unhide HP3⟩
set_option maxRecDepth 100000 in
set_option maxHeartbeats 4000000 in
theorem so_adjacent (blk off cap a sb m N : Nat) (d : Array Int) (hN : d.size = N) (h1 : 1 ≤ a) (ha : a + 1 < N) (hsz : N ≤ 1000000) (hm : m ≤ 90) (w0 w : World) (hne : blk ≠ sb) (hP : PvAt w0 w blk off d sb m) :
    Calls Tryz.prog 166 #[.slice (some ⟨blk, off, none⟩) N cap, .int .i64 a, .pointer (some ⟨sb, 0, none⟩)] w fun e w' => ∃ x : Nat, e = .returned (.int .i64 x) ∧ a - 1 ≤ x ∧ x ≤ a + 1 ∧ PvAt w0 w' blk off d sb (m + 3) := by
  have HN := hide hN
  have HP := hide hP
  have HC := hide (so_median blk off cap (a - 1) a (a + 1) sb m N d hN (by omega) (by omega) ha hsz hm w0 w hne hP)
  rw [show (((a - 1 : Nat) : Int)) = (a : Int) - 1 by omega, show (((a + 1 : Nat) : Int)) = (a : Int) + 1 by omega] at HC
  clear hP hN
  go_enter Tryz.func166, Tryz.ntmps166
  go_wp2_with fail
  refine (unhide HC).mono ?_
  rintro e w1 ⟨x, rfl, hx, hP1⟩
  have HP1 := hide hP1
  clear hP1 HP
  go_wp2_with fail
  go_ret
  exact ⟨x, rfl, by omega, by omega, unhide HP1⟩
theorem pv_so {w W : World} {blk off : Nat} {d : Array Int} {m : Nat} (h : PvAt w W blk off d w.heap.size m) (hl : blk < w.heap.size) : SoAt w W blk off d :=
  ⟨h.row, ⟨h.gr.os, h.gr.tape, h.gr.output, h.gr.size, fun k hk _ => h.gr.block k hk (fun e => by injection e; omega)⟩⟩
set_option maxRecDepth 100000 in
set_option maxHeartbeats 4000000 in
theorem so_pivot (blk off cap a b N : Nat) (d : Array Int) (hN : d.size = N) (hab : a + 12 < b) (hb : b ≤ N) (hsz : N ≤ 1000000) (w : World) (hl : blk < w.heap.size) (hH : Sort.Holds (Value.int .i32) w blk off d) :
    Calls Tryz.prog 129 #[.slice (some ⟨blk, off, none⟩) N cap, .int .i64 a, .int .i64 b] w fun e w' => ∃ (p : Nat) (h : Int), e = .returned (.tuple #[.int .i64 p, .int .i64 h]) ∧ a ≤ p ∧ p < b ∧ SoAt w w' blk off d := by
  have HN := hide hN
  have HH := hide hH
  have hL : (8 : Int) ≤ (b : Int) - (a : Int) := by omega
  clear hN hH
  go_enter Tryz.func129, Tryz.ntmps129
  obtain ⟨I, hI⟩ : ∃ I, I = a + (b - a) / 4 := ⟨_, rfl⟩
  obtain ⟨J, hJ⟩ : ∃ J, J = a + (b - a) / 4 * 2 := ⟨_, rfl⟩
  obtain ⟨K, hK⟩ : ∃ K, K = a + (b - a) / 4 * 3 := ⟨_, rfl⟩
  have E1 := hide (show (a : Int) + ((b : Int) - (a : Int)) / 4 = (I : Int) by omega)
  have E2 := hide (show (a : Int) + ((b : Int) - (a : Int)) / 4 * 2 = (J : Int) by omega)
  have E3 := hide (show (a : Int) + ((b : Int) - (a : Int)) / 4 * 3 = (K : Int) by omega)
  have b1 : a + 1 ≤ I ∧ I + 2 < b := by omega
  have b2 : a + 1 ≤ J ∧ J + 2 < b := by omega
  have b3 : a + 1 ≤ K ∧ K + 2 < b := by omega
  clear hI hJ hK
  have hne : blk ≠ w.heap.size := by omega
  have hP0 : PvAt w (w.alloc (.cells #[.int .i64 0] 3)) blk off d w.heap.size 0 := ⟨holds_of (unhide HH) (Below.heap_alloc w _ blk hl), ⟨rfl, rfl, rfl, by simp, fun k hk _ => Below.heap_alloc w _ k hk⟩, 0, Nat.le_refl _, Blk.new w _ _⟩
  have HP0 := hide hP0
  clear hP0
  by_cases h50 : a + 50 ≤ b
  · have h50' : (50 : Int) ≤ (b : Int) - (a : Int) := by omega
    go_wp2_with fail
    rw [unhide E1, unhide E2, unhide E3]
    refine (so_adjacent blk off cap I w.heap.size 0 N d (unhide HN) (by omega) (by omega) hsz (by omega) w _ hne (unhide HP0)).mono ?_
    rintro e w1 ⟨x1, rfl, h1, h1', hP1⟩
    have HP1 := hide hP1
    clear hP1 HP0
    go_wp2_with fail
    refine (so_adjacent blk off cap J w.heap.size 3 N d (unhide HN) (by omega) (by omega) hsz (by omega) w _ hne (unhide HP1)).mono ?_
    rintro e w2 ⟨x2, rfl, h2, h2', hP2⟩
    have HP2 := hide hP2
    clear hP2 HP1
    go_wp2_with fail
    refine (so_adjacent blk off cap K w.heap.size 6 N d (unhide HN) (by omega) (by omega) hsz (by omega) w _ hne (unhide HP2)).mono ?_
    rintro e w3 ⟨x3, rfl, h3, h3', hP3⟩
    have HP3 := hide hP3
    clear hP3 HP2
    go_wp2_with fail
    refine (so_median blk off cap x1 x2 x3 w.heap.size 9 N d (unhide HN) (by omega) (by omega) (by omega) hsz (by omega) w _ hne (unhide HP3)).mono ?_
    rintro e w4 ⟨x, rfl, hx, hP4⟩
    have HP4 := hide hP4
    clear hP4 HP3
    obtain ⟨s, hs, hbx⟩ := (unhide HP4).box
    have c0 : w4.cell? ⟨w.heap.size, 0, none⟩ = some (.int .i64 s) := hbx.cell 0
    clear hbx
    have HE : Hz (SoAt w w4 blk off d) := hide (pv_so (unhide HP4) hl)
    clear HP4
    go_wp2_with fail
    all_goals
      go_ret2
      exact ⟨x, _, by first | rfl | (congr 3), by omega, by omega, unhide HE⟩
  · have h50' : ¬ (50 : Int) ≤ (b : Int) - (a : Int) := by omega
    go_wp2_with fail
    rw [unhide E1, unhide E2, unhide E3]
    refine (so_median blk off cap I J K w.heap.size 0 N d (unhide HN) (by omega) (by omega) (by omega) hsz (by omega) w _ hne (unhide HP0)).mono ?_
    rintro e w4 ⟨x, rfl, hx, hP4⟩
    have HP4 := hide hP4
    clear hP4 HP0
    obtain ⟨s, hs, hbx⟩ := (unhide HP4).box
    have c0 : w4.cell? ⟨w.heap.size, 0, none⟩ = some (.int .i64 s) := hbx.cell 0
    clear hbx
    have HE : Hz (SoAt w w4 blk off d) := hide (pv_so (unhide HP4) hl)
    clear HP4
    go_wp2_with fail
    all_goals
      go_ret2
      exact ⟨x, _, by first | rfl | (congr 3), by omega, by omega, unhide HE⟩
theorem next_any (rb X : Nat) (hX : X < 18446744073709551616) (w : World) (hc : w.cell? ⟨rb, 0, none⟩ = some (.int .u64 X)) (hf : w.frozen? ⟨rb, 0, none⟩ = false) :
    Calls Tryz.prog 165 #[.pointer (some ⟨rb, 0, none⟩)] w fun e w' => e = .returned (.int .u64 (Sort.xorNextN X : Nat)) ∧ w' = (w.setCell ⟨rb, 0, none⟩ (.int .u64 (Sort.xorNextN X : Nat))).drewN 3 :=
  AnyF.xorshift_Next (P := Tryz.prog) (ρ := sortP_ren) { sortP with } rb 0 X hX w hc hf
theorem power_any (n : Nat) (hn : n < 4611686018427387904) (w : World) :
    Calls Tryz.prog 164 #[.int .i64 n] w fun e w' => e = .returned (.int .u64 ((1 <<< Sort.bitsLen n : Nat) : Int)) ∧ w' = w :=
  AnyF.nextPowerOfTwo (P := Tryz.prog) (ρ := sortP_ren) { sortP with } n hn w
theorem len_any (n : Nat) (hn : n < 4611686018427387904) (w : World) :
    Calls Tryz.prog 62 #[.int .u64 n] w fun e w' => e = .returned (.int .i64 (Sort.bitsLen n : Nat)) ∧ w' = w := by
  have h := Any.bits_Len (SlLaysF0.n15.bits (P := Tryz.prog) (ρ := sortP_ren) { sortP with }) (n : Int) w (by omega) (by omega)
  rw [Int.toNat_natCast, bitLen_eq _ (by omega)] at h
  exact h
set_option maxRecDepth 100000 in
set_option maxHeartbeats 4000000 in
theorem so_break (blk off cap a b N : Nat) (d : Array Int) (hN : d.size = N) (hab : a + 12 < b) (hb : b ≤ N) (hsz : N ≤ 1000000) (w : World) (hl : blk < w.heap.size) (hH : Sort.Holds (Value.int .i32) w blk off d) :
    Calls Tryz.prog 128 #[.slice (some ⟨blk, off, none⟩) N cap, .int .i64 a, .int .i64 b] w fun e w' => e = .returned (.tuple #[]) ∧ ∃ d', Sort.PermIn a b d d' ∧ SoAt w w' blk off d' := by
  have HN := hide hN
  have HH := hide hH
  obtain ⟨L, hL⟩ : ∃ L, L = b - a := ⟨_, rfl⟩
  have HL := hide (show (b : Int) - (a : Int) = (L : Int) by omega)
  have hLb : a + L ≤ N := by omega
  have HLb := hide (show b = a + L by omega)
  have hL8 : 12 < L := by omega
  obtain ⟨M, hM⟩ : ∃ M : Nat, M = 1 <<< Sort.bitsLen L := ⟨_, rfl⟩
  have hM1 : 1 ≤ M := by rw [hM, Nat.one_shiftLeft]; exact Nat.two_pow_pos _
  have hM2 : M ≤ 2 * L := by rw [hM, Nat.one_shiftLeft]; exact Sort.two_pow_bitsLen_le (by omega)
  have hNP : ∀ w, Calls Tryz.prog 164 #[.int .i64 (L : Int)] w fun e w' => e = .returned (.int .u64 (M : Int)) ∧ w' = w := by rw [hM]; exact fun w => power_any L (by omega) w
  have HNP := hide hNP
  have hge : (8 : Int) ≤ (b : Int) - (a : Int) := by omega
  clear hM hNP hL hN hH
  go_enter Tryz.func128, Tryz.ntmps128
  go_wp2_with fail
  rw [unhide HL]
  refine (unhide HNP _).mono ?_
  rintro e w' ⟨rfl, rfl⟩
  go_wp2_with fail
  obtain ⟨J, hJ⟩ : ∃ J, J = a + L / 4 * 2 := ⟨_, rfl⟩
  have hJ1 : a + 6 ≤ J ∧ J + 1 < a + L := by omega
  have hJi : (a : Int) + (L : Int) / 4 * 2 = (J : Int) := by omega
  have HJi := hide hJi
  clear hJ hJi
  go_loopw [9] (fun vi wr => ∃ (x X : Nat) (dk : Array Int), vi = .int .i64 x ∧ J - 1 ≤ x ∧ x ≤ J + 2 ∧ X < 18446744073709551616 ∧ Hz (dk.size = N ∧ SoAt w wr blk off dk ∧ Blk wr w.heap.size #[.int .u64 X] 183 ∧ Sort.PermIn a b d dk)) (fun vi _ => J + 2 - (intOf vi).toNat)
  case atStart => exact ⟨J - 1, L, d, by rw [unhide HJi]; congr 1; omega, by omega, by omega, by omega, hide ⟨unhide HN, ⟨holds_of (unhide HH) (Below.heap_alloc w _ blk hl), ⟨rfl, rfl, rfl, by simp, fun k hk _ => Below.heap_alloc w _ k hk⟩⟩, Blk.new w _ _, Sort.permIn_refl _ _ _⟩⟩
  case round =>
    obtain ⟨x, X, dk, rfl, hx1, hx2, hX, HI⟩ := hrel
    by_cases hlt : x ≤ J + 1
    · have hlt' : (x : Int) ≤ (a : Int) + (L : Int) / 4 * 2 + 1 := by rw [unhide HJi]; omega
      obtain ⟨Y, hY⟩ : ∃ Y : Nat, Y = Sort.xorNextN X := ⟨_, rfl⟩
      have hY' : Y < 18446744073709551616 := by rw [hY]; exact Sort.xorNextN_lt X hX
      obtain ⟨O, hO⟩ : ∃ O : Nat, O = Y &&& (M - 1) := ⟨_, rfl⟩
      have hO1 : O ≤ M - 1 := by rw [hO]; exact Nat.and_le_right
      have eAnd : bits .and .u64 (Y : Int) ((M : Int) - 1) = (O : Int) := by
        rw [show ((M : Int) - 1) = ((M - 1 : Nat) : Int) by omega, bits_and_u64_nat _ _ hY' (by omega), hO]
      have hbx := (unhide HI).2.2.1
      have hNext := next_any w.heap.size X hX wr (hbx.cell 0) (hbx.frozen 0)
      rw [← hY] at hNext
      have HX := hide hNext
      clear hNext hbx hY hO
      go_wp2_with fail
      refine (unhide HX).mono ?_
      rintro e w1 ⟨rfl, rfl⟩
      have hA1 : SoAt w ((wr.setCell ⟨w.heap.size, 0, none⟩ (.int .u64 Y)).drewN 3) blk off dk :=
        SoAt.drewN ⟨holds_of (unhide HI).2.1.row (Below.heap_setCell wr ⟨w.heap.size, 0, none⟩ _ blk (by show blk ≠ w.heap.size; omega)), ⟨(unhide HI).2.1.gr.os, (unhide HI).2.1.gr.tape, (unhide HI).2.1.gr.output, Nat.le_trans (unhide HI).2.1.gr.size (KeepsWalks.setCell wr ⟨w.heap.size, 0, none⟩ _).size, fun k hk hn => (Below.heap_setCell wr ⟨w.heap.size, 0, none⟩ _ k (by show k ≠ w.heap.size; omega)).trans ((unhide HI).2.1.gr.block k hk hn)⟩⟩ 3
      have hB1 : Blk ((wr.setCell ⟨w.heap.size, 0, none⟩ (.int .u64 Y)).drewN 3) w.heap.size #[.int .u64 Y] 183 := (unhide HI).2.2.1.set 0 _
      have HZ := hide (unhide HI).1
      have HP := hide (unhide HI).2.2.2
      have HA := hide hA1
      have HB := hide hB1
      clear hA1 hB1 HI HX
      generalize (wr.setCell ⟨w.heap.size, 0, none⟩ (.int .u64 Y)).drewN 3 = W1 at *
      obtain ⟨G, hG, hc, hf⟩ := (unhide HA).cells N (unhide HZ)
      have HG := hide hG
      clear hG
      have HEND : Hz (∀ o : Nat, o < L → ∃ (x' X' : Nat) (dk' : Array Int), Value.int .i64 ((x : Int) + 1) = .int .i64 x' ∧ J - 1 ≤ x' ∧ x' ≤ J + 2 ∧ X' < 18446744073709551616 ∧ Hz (dk'.size = N ∧ SoAt w ((W1.drew.setCell ⟨blk, off + x, none⟩ (.int .i32 (G (a + o)))).setCell ⟨blk, off + (a + o), none⟩ (.int .i32 (G x))) blk off dk' ∧ Blk ((W1.drew.setCell ⟨blk, off + x, none⟩ (.int .i32 (G (a + o)))).setCell ⟨blk, off + (a + o), none⟩ (.int .i32 (G x))) w.heap.size #[.int .u64 X'] 183 ∧ Sort.PermIn a b d dk')) := hide (fun o ho => by
        have hz := unhide HZ
        have hbL := unhide HLb
        refine ⟨x + 1, Y, Sort.swp dk x (a + o), by go_num, by omega, by omega, hY', hide ⟨by rw [size_swp']; exact hz, ?_, ?_, ?_⟩⟩
        · rw [unhide HG, unhide HG]
          exact (unhide HA).drew.swap (by omega) (by omega)
        · have h0 : Blk W1.drew w.heap.size #[.int .u64 Y] 183 := unhide HB
          exact (h0.other (by omega) _).other (by omega) _
        · exact Sort.permIn_trans _ _ _ _ _ (unhide HP) (Sort.swp_permIn dk a b x (a + o) (by omega) (by omega) (by omega) (by omega) (by omega)))
      by_cases hOL : L ≤ O
      · have hOL' : (L : Int) ≤ (O : Int) := by omega
        obtain ⟨o, ho⟩ : ∃ o, o = O - L := ⟨_, rfl⟩
        have hoi := hide (show (O : Int) - (L : Int) = (o : Int) by omega)
        have hoL : o < L := by omega
        have hm1 := mid_cell hc (i := x) (j := a + o) (by omega) (by omega)
        have hm2 := mid_frozen (G := G) hf (i := x) (j := a + o) (by omega)
        clear ho HP HB HZ HA
        go_wp2_with fail
        rw [unhide hoi]
        go_region
        all_goals go_wp2_with fail
        go_roundw
        case rel => exact unhide HEND o hoL
        case measure => simp [intOf]; omega
      · have hOL' : ¬ (L : Int) ≤ (O : Int) := by omega
        have hm1 := mid_cell hc (i := x) (j := a + O) (by omega) (by omega)
        have hm2 := mid_frozen (G := G) hf (i := x) (j := a + O) (by omega)
        clear HP HB HZ HA
        go_wp2_with fail
        go_region
        all_goals go_wp2_with fail
        go_roundw
        case rel => exact unhide HEND O (by omega)
        case measure => simp [intOf]; omega
    · have hlt' : ¬ (x : Int) ≤ (a : Int) + (L : Int) / 4 * 2 + 1 := by rw [unhide HJi]; omega
      go_wp2_with fail
      go_end0
      exact ⟨rfl, dk, (unhide HI).2.2.2, (unhide HI).2.1⟩
structure PartI (f : Int → Bool) (p : Int) (a b i j : Nat) (d dk : Array Int) : Prop where
  ai : a < i
  ij : i ≤ j + 1
  jb : j < b
  perm : Sort.PermIn a b d dk
  at_ : dk[a]! = p
  lo : ∀ t, a < t → t < i → f dk[t]! = true
  hi : ∀ t, j < t → t < b → f dk[t]! = false
theorem get_swp {d : Array Int} {i j : Nat} (hi : i < d.size) (hj : j < d.size) : (Sort.swp d i j)[i]! = d[j]! ∧ (Sort.swp d i j)[j]! = d[i]! ∧ ∀ t, t ≠ i → t ≠ j → (Sort.swp d i j)[t]! = d[t]! := by
  have h2 : (Sort.swp d i j)[j]! = d[i]! := Sort.getElem!_set_same _ _ _ (by simpa using hj)
  refine ⟨?_, h2, fun t h3 h4 => ?_⟩
  · by_cases e : i = j
    · subst e; exact h2
    · exact (Sort.getElem!_set_other _ _ _ _ e).trans (Sort.getElem!_set_same _ _ _ hi)
  · exact (Sort.getElem!_set_other _ _ _ _ h4).trans (Sort.getElem!_set_other _ _ _ _ h3)
theorem PartI.start {f : Int → Bool} {a b pv : Nat} {d : Array Int} (ha : a ≤ pv) (hp : pv < b) (hb : b ≤ d.size) : PartI f d[pv]! a b (a + 1) (b - 1) d (Sort.swp d a pv) :=
  ⟨by omega, by omega, by omega, Sort.swp_permIn d a b a pv (by omega) (by omega) ha hp hb, (get_swp (by omega) (by omega)).1, fun t h1 h2 => by omega, fun t h1 h2 => by omega⟩
theorem PartI.up {f : Int → Bool} {p : Int} {a b i j : Nat} {d dk : Array Int} (h : PartI f p a b i j d dk) (hij : i ≤ j) (hf : f dk[i]! = true) : PartI f p a b (i + 1) j d dk :=
  ⟨by have := h.ai; omega, by omega, h.jb, h.perm, h.at_, fun t h1 h2 => by
    by_cases e : t = i
    · subst e; exact hf
    · exact h.lo t h1 (by omega), h.hi⟩
theorem PartI.down {f : Int → Bool} {p : Int} {a b i j : Nat} {d dk : Array Int} (h : PartI f p a b i j d dk) (hij : i ≤ j) (hf : f dk[j]! = false) : PartI f p a b i (j - 1) d dk :=
  ⟨h.ai, by have := h.ai; omega, by have := h.jb; omega, h.perm, h.at_, h.lo, fun t h1 h2 => by
    have := h.ai
    by_cases e : t = j
    · subst e; exact hf
    · exact h.hi t (by omega) h2⟩
theorem PartI.swap {f : Int → Bool} {p : Int} {a b i j : Nat} {d dk : Array Int} (h : PartI f p a b i j d dk) (hb : b ≤ dk.size) (hij : i ≤ j) (hi : f dk[i]! = false) (hj : f dk[j]! = true) : i < j ∧ PartI f p a b (i + 1) (j - 1) d (Sort.swp dk i j) := by
  have hlt : i < j := by
    rcases Nat.lt_or_ge i j with h1 | h1
    · exact h1
    · have e : i = j := by omega
      subst e; rw [hi] at hj; exact absurd hj Bool.false_ne_true
  have h1 := h.ai
  have h2 := h.jb
  obtain ⟨g1, g2, g3⟩ := get_swp (d := dk) (i := i) (j := j) (by omega) (by omega)
  refine ⟨hlt, ⟨by omega, by omega, by omega, Sort.permIn_trans _ _ _ _ _ h.perm (Sort.swp_permIn dk a b i j (by omega) (by omega) (by omega) (by omega) hb), ?_, fun t ht1 ht2 => ?_, fun t ht1 ht2 => ?_⟩⟩
  · rw [g3 a (by omega) (by omega)]; exact h.at_
  · by_cases e : t = i
    · subst e; rw [g1]; exact hj
    · rw [g3 t e (by omega)]; exact h.lo t ht1 (by omega)
  · by_cases e : t = j
    · subst e; rw [g2]; exact hi
    · rw [g3 t (by omega) e]; exact h.hi t (by omega) ht2
structure PartOk (a b m : Nat) (d dk : Array Int) : Prop where
  am : a ≤ m
  mb : m < b
  perm : Sort.PermIn a b d dk
  lo : ∀ t, a ≤ t → t < m → Sort.ltInt dk[t]! dk[m]! = true
  hi : ∀ t, m < t → t < b → Sort.ltInt dk[t]! dk[m]! = false
theorem PartI.done {p : Int} {a b i j : Nat} {d dk : Array Int} (h : PartI (fun x => Sort.ltInt x p) p a b i j d dk) (hb : b ≤ dk.size) (hij : j < i) : PartOk a b j d (Sort.swp dk j a) := by
  have h1 := h.ai
  have h2 := h.jb
  have h3 := h.ij
  obtain ⟨g1, g2, g3⟩ := get_swp (d := dk) (i := j) (j := a) (by omega) (by omega)
  refine ⟨by omega, h2, Sort.permIn_trans _ _ _ _ _ h.perm (Sort.swp_permIn dk a b j a (by omega) (by omega) (by omega) (by omega) hb), fun t ht1 ht2 => ?_, fun t ht1 ht2 => ?_⟩
  · rw [g1, h.at_]
    by_cases e : t = a
    · subst e; rw [g2]; exact h.lo j (by omega) (by omega)
    · rw [g3 t (by omega) e]; exact h.lo t (by omega) (by omega)
  · rw [g1, h.at_, g3 t (by omega) (by omega)]; exact h.hi t ht1 ht2
structure EqOk (a b m : Nat) (p : Int) (d dk : Array Int) : Prop where
  am : a < m
  mb : m ≤ b
  perm : Sort.PermIn a b d dk
  lo : ∀ t, a ≤ t → t < m → Sort.ltInt p dk[t]! = false
  hi : ∀ t, m ≤ t → t < b → Sort.ltInt p dk[t]! = true
theorem PartI.eq {p : Int} {a b i j : Nat} {d dk : Array Int} (h : PartI (fun x => !Sort.ltInt p x) p a b i j d dk) (hij : j < i) : EqOk a b i p d dk := by
  have h1 := h.ai
  have h2 := h.jb
  have h3 := h.ij
  refine ⟨h1, by omega, h.perm, fun t ht1 ht2 => ?_, fun t ht1 ht2 => ?_⟩
  · by_cases e : t = a
    · subst e; rw [h.at_]; unfold Sort.ltInt; exact decide_eq_false (by omega)
    · have := h.lo t (by omega) ht2
      simpa using this
  · have := h.hi t (by omega) ht2
    simpa using this
end Go.Proofs.YtnnbaodillnkkaaGreat
