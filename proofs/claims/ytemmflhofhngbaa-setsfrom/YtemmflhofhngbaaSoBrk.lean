/- breakPatternsOrdered at runes: a rearrangement. -/
import Derived.Test.YtemmflhofhngbaaM1
import Derived.Test.YtemmflhofhngbaaSetSort
import Derived.Shelf.SlSortCmp.Xorshift
namespace Go.Proofs.Ytemmflhofhngbaa
open Go.RowKit Go.Shelf
set_option linter.unusedVariables false
theorem next_any (rb X : Nat) (hX : X < 18446744073709551616) (w : World) (hc : w.cell? ⟨rb, 0, none⟩ = some (.int .u64 X)) (hf : w.frozen? ⟨rb, 0, none⟩ = false) :
    Calls Try.prog 78 #[.pointer (some ⟨rb, 0, none⟩)] w fun e w' => e = .returned (.int .u64 (Sort.xorNextN X : Nat)) ∧ w' = (w.setCell ⟨rb, 0, none⟩ (.int .u64 (Sort.xorNextN X : Nat))).drewN 3 :=
  AnyF.xorshift_Next (P := Try.prog) (ρ := sortP_ren) { sortP with } rb 0 X hX w hc hf
theorem power_any (n : Nat) (hn : n < 4611686018427387904) (w : World) :
    Calls Try.prog 77 #[.int .i64 n] w fun e w' => e = .returned (.int .u64 ((1 <<< Sort.bitsLen n : Nat) : Int)) ∧ w' = w :=
  AnyF.nextPowerOfTwo (P := Try.prog) (ρ := sortP_ren) { sortP with } n hn w
theorem len_any (n : Nat) (hn : n < 4611686018427387904) (w : World) :
    Calls Try.prog 58 #[.int .u64 n] w fun e w' => e = .returned (.int .i64 (Sort.bitsLen n : Nat)) ∧ w' = w := by
  have h := Any.bits_Len (SlLaysF0.n15.bits (P := Try.prog) (ρ := sortP_ren) { sortP with }) (n : Int) w (by omega) (by omega)
  rw [Int.toNat_natCast, bitLen_eq _ (by omega)] at h
  exact h
set_option maxRecDepth 100000 in
set_option maxHeartbeats 4000000 in
theorem so_break (blk off cap a b N : Nat) (d : Array Int) (hN : d.size = N) (hab : a + 12 < b) (hb : b ≤ N) (hsz : N ≤ 1000000) (w : World) (hl : blk < w.heap.size) (hH : Sort.Holds (Value.int .i32) w blk off d) :
    Calls Try.prog 83 #[.slice (some ⟨blk, off, none⟩) N cap, .int .i64 a, .int .i64 b] w fun e w' => e = .returned (.tuple #[]) ∧ ∃ d', Sort.PermIn a b d d' ∧ SoAt w w' blk off d' := by
  have HN := hide hN
  have HH := hide hH
  obtain ⟨L, hL⟩ : ∃ L, L = b - a := ⟨_, rfl⟩
  have HL := hide (show (b : Int) - (a : Int) = (L : Int) by omega)
  have hLb : a + L ≤ N := by omega
  have HLb := hide (show b = a + L by omega)
  have hL8 : 12 < L := by omega
  obtain ⟨M, hM⟩ : ∃ M : Nat, M = 1 <<< Sort.bitsLen L := ⟨_, rfl⟩
  have hM1 : 1 ≤ M := by rw [hM, Nat.one_shiftLeft]; exact Nat.two_pow_pos _
  have hM2 : M ≤ 2 * L := by rw [hM, Nat.one_shiftLeft]; exact Sort.two_pow_bitsLen_le (by omega)
  have hNP : ∀ w, Calls Try.prog 77 #[.int .i64 (L : Int)] w fun e w' => e = .returned (.int .u64 (M : Int)) ∧ w' = w := by rw [hM]; exact fun w => power_any L (by omega) w
  have HNP := hide hNP
  have hge : (8 : Int) ≤ (b : Int) - (a : Int) := by omega
  clear hM hNP hL hN hH
  go_enter Try.func83, Try.ntmps83
  go_wp2_with fail
  rw [unhide HL]
  refine (unhide HNP _).mono ?_
  rintro e w' ⟨rfl, rfl⟩
  go_wp2_with fail
  obtain ⟨J, hJ⟩ : ∃ J, J = a + L / 4 * 2 := ⟨_, rfl⟩
  have hJ1 : a + 6 ≤ J ∧ J + 1 < a + L := by omega
  have hJi : (a : Int) + (L : Int) / 4 * 2 = (J : Int) := by omega
  have HJi := hide hJi
  clear hJ hJi
  go_loopw [9] (fun vi wr => ∃ (x X : Nat) (dk : Array Int), vi = .int .i64 x ∧ J - 1 ≤ x ∧ x ≤ J + 2 ∧ X < 18446744073709551616 ∧ Hz (dk.size = N ∧ SoAt w wr blk off dk ∧ Blk wr w.heap.size #[.int .u64 X] 104 ∧ Sort.PermIn a b d dk)) (fun vi _ => J + 2 - (intOf vi).toNat)
  case atStart => exact ⟨J - 1, L, d, by rw [unhide HJi]; congr 1; omega, by omega, by omega, by omega, hide ⟨unhide HN, ⟨holds_of (unhide HH) (Below.heap_alloc w _ blk hl), ⟨rfl, rfl, rfl, by simp, fun k hk _ => Below.heap_alloc w _ k hk⟩⟩, Blk.new w _ _, Sort.permIn_refl _ _ _⟩⟩
  case round =>
    obtain ⟨x, X, dk, rfl, hx1, hx2, hX, HI⟩ := hrel
    by_cases hlt : x ≤ J + 1
    · have hlt' : (x : Int) ≤ (a : Int) + (L : Int) / 4 * 2 + 1 := by rw [unhide HJi]; omega
      obtain ⟨Y, hY⟩ : ∃ Y : Nat, Y = Sort.xorNextN X := ⟨_, rfl⟩
      have hY' : Y < 18446744073709551616 := by rw [hY]; exact Sort.xorNextN_lt X hX
      obtain ⟨O, hO⟩ : ∃ O : Nat, O = Y &&& (M - 1) := ⟨_, rfl⟩
      have hO1 : O ≤ M - 1 := by rw [hO]; exact Nat.and_le_right
      have eAnd : bits .and .u64 (Y : Int) ((M : Int) - 1) = (O : Int) := by
        rw [show ((M : Int) - 1) = ((M - 1 : Nat) : Int) by omega, bits_and_u64_nat _ _ hY' (by omega), hO]
      have hbx := (unhide HI).2.2.1
      have hNext := next_any w.heap.size X hX wr (hbx.cell 0) (hbx.frozen 0)
      rw [← hY] at hNext
      have HX := hide hNext
      clear hNext hbx hY hO
      go_wp2_with fail
      refine (unhide HX).mono ?_
      rintro e w1 ⟨rfl, rfl⟩
      have hA1 : SoAt w ((wr.setCell ⟨w.heap.size, 0, none⟩ (.int .u64 Y)).drewN 3) blk off dk :=
        SoAt.drewN ⟨holds_of (unhide HI).2.1.row (Below.heap_setCell wr ⟨w.heap.size, 0, none⟩ _ blk (by show blk ≠ w.heap.size; omega)), ⟨(unhide HI).2.1.gr.os, (unhide HI).2.1.gr.tape, (unhide HI).2.1.gr.output, Nat.le_trans (unhide HI).2.1.gr.size (KeepsWalks.setCell wr ⟨w.heap.size, 0, none⟩ _).size, fun k hk hn => (Below.heap_setCell wr ⟨w.heap.size, 0, none⟩ _ k (by show k ≠ w.heap.size; omega)).trans ((unhide HI).2.1.gr.block k hk hn)⟩⟩ 3
      have hB1 : Blk ((wr.setCell ⟨w.heap.size, 0, none⟩ (.int .u64 Y)).drewN 3) w.heap.size #[.int .u64 Y] 104 := (unhide HI).2.2.1.set 0 _
      have HZ := hide (unhide HI).1
      have HP := hide (unhide HI).2.2.2
      have HA := hide hA1
      have HB := hide hB1
      clear hA1 hB1 HI HX
      generalize (wr.setCell ⟨w.heap.size, 0, none⟩ (.int .u64 Y)).drewN 3 = W1 at *
      obtain ⟨G, hG, hc, hf⟩ := (unhide HA).cells N (unhide HZ)
      have HG := hide hG
      clear hG
      have HEND : Hz (∀ o : Nat, o < L → ∃ (x' X' : Nat) (dk' : Array Int), Value.int .i64 ((x : Int) + 1) = .int .i64 x' ∧ J - 1 ≤ x' ∧ x' ≤ J + 2 ∧ X' < 18446744073709551616 ∧ Hz (dk'.size = N ∧ SoAt w ((W1.drew.setCell ⟨blk, off + x, none⟩ (.int .i32 (G (a + o)))).setCell ⟨blk, off + (a + o), none⟩ (.int .i32 (G x))) blk off dk' ∧ Blk ((W1.drew.setCell ⟨blk, off + x, none⟩ (.int .i32 (G (a + o)))).setCell ⟨blk, off + (a + o), none⟩ (.int .i32 (G x))) w.heap.size #[.int .u64 X'] 104 ∧ Sort.PermIn a b d dk')) := hide (fun o ho => by
        have hz := unhide HZ
        have hbL := unhide HLb
        refine ⟨x + 1, Y, Sort.swp dk x (a + o), by go_num, by omega, by omega, hY', hide ⟨by rw [size_swp']; exact hz, ?_, ?_, ?_⟩⟩
        · rw [unhide HG, unhide HG]
          exact (unhide HA).drew.swap (by omega) (by omega)
        · have h0 : Blk W1.drew w.heap.size #[.int .u64 Y] 104 := unhide HB
          exact (h0.other (by omega) _).other (by omega) _
        · exact Sort.permIn_trans _ _ _ _ _ (unhide HP) (Sort.swp_permIn dk a b x (a + o) (by omega) (by omega) (by omega) (by omega) (by omega)))
      by_cases hOL : L ≤ O
      · have hOL' : (L : Int) ≤ (O : Int) := by omega
        obtain ⟨o, ho⟩ : ∃ o, o = O - L := ⟨_, rfl⟩
        have hoi := hide (show (O : Int) - (L : Int) = (o : Int) by omega)
        have hoL : o < L := by omega
        have hm1 := mid_cell hc (i := x) (j := a + o) (by omega) (by omega)
        have hm2 := mid_frozen (G := G) hf (i := x) (j := a + o) (by omega)
        clear ho HP HB HZ HA
        go_wp2_with fail
        rw [unhide hoi]
        go_region
        all_goals go_wp2_with fail
        go_roundw
        case rel => exact unhide HEND o hoL
        case measure => simp [intOf]; omega
      · have hOL' : ¬ (L : Int) ≤ (O : Int) := by omega
        have hm1 := mid_cell hc (i := x) (j := a + O) (by omega) (by omega)
        have hm2 := mid_frozen (G := G) hf (i := x) (j := a + O) (by omega)
        clear HP HB HZ HA
        go_wp2_with fail
        go_region
        all_goals go_wp2_with fail
        go_roundw
        case rel => exact unhide HEND O (by omega)
        case measure => simp [intOf]; omega
    · have hlt' : ¬ (x : Int) ≤ (a : Int) + (L : Int) / 4 * 2 + 1 := by rw [unhide HJi]; omega
      go_wp2_with fail
      go_end0
      exact ⟨rfl, dk, (unhide HI).2.2.2, (unhide HI).2.1⟩
end Go.Proofs.Ytemmflhofhngbaa
