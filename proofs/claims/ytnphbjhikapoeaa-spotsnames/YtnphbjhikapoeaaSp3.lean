/- Where and Find of a text, told for every text. -/
import Derived.Test.YtnphbjhikapoeaaSp2
import Derived.Deep.RegionWith
namespace Go.Proofs.Ytnphbjhikapoeaa
open Go.RowKit Go.Shelf
set_option linter.unusedVariables false

abbrev atV (b l c : Int) : Value := .tuple #[.agg #[.int .i64 b, .int .i64 l, .int .i64 c], .bool true]

set_option maxRecDepth 100000 in
set_option maxHeartbeats 4000000 in
theorem where_in (B : Nat) (s : ByteArray) (hs : s.size ≤ 65536) (b n k a : Nat) (hb : b ≤ s.size) (hn : Holds s b n) (hk : LineOf s n k a) (W : World) (h : TextAt W B s) :
    Calls Try.prog 7 #[.pointer (some ⟨B, 0, none⟩), .int .i64 b] W fun e w' => e = .returned (atV b ((k : Int) + 1) ((n : Int) - a + 1)) ∧ Below W.heap.size W w' := by
  have hal := (Below.refl W.heap.size W).alloc (Nat.le_refl _) (.cells #[.int .i64 0, .int .i64 0, .int .i64 0] 26)
  have HT := hide (h.below hal (Nat.le_refl _))
  have HA := hide hal
  have HN := hide hn
  have HK := hide hk
  have hl := starts_length s
  have hnl := hn.1
  have hll := lns_length s
  have hkl : k < (lns s).length := (List.getElem?_eq_some_iff.1 hk.1).1
  have hka := hk.2.1
  clear h hal hn hk
  go_enter Try.func7, Try.ntmps7
  go_wp2_with fail
  refine (of_in B s hs b n hb (unhide HN) _ (unhide HT)).mono ?_
  rintro e w1 ⟨rfl, hb1⟩
  have HT1 := hide ((unhide HT).below hb1 (Nat.le_refl _))
  have HB1 := hide ((unhide HA).trans (hb1.mono (unhide HA).size))
  have r1 := (Blk.new W #[.int .i64 0, .int .i64 0, .int .i64 0] 26).below hb1 (by simp)
  clear hb1
  have hal := (Below.refl w1.heap.size w1).alloc (Nat.le_refl _) (.cells #[.int .i64 (pl s n), .int .i64 n] 30)
  have HT2 := hide ((unhide HT1).below hal (Nat.le_refl _))
  have HB2 := hide ((unhide HB1).trans (hal.mono (unhide HB1).size))
  have r2 := r1.alloc (.cells #[.int .i64 (pl s n), .int .i64 n] 30)
  have p2 := Blk.new w1 #[.int .i64 (pl s n), .int .i64 n] 30
  clear r1 hal
  go_wp2
  generalize hW2 : w1.alloc (.cells #[.int .i64 (pl s n), .int .i64 n] 30) = W2 at *
  clear hW2
  obtain ⟨g1, c1, g2, c2, hB, hg1, hg2, i1, i2⟩ := unhide HT2
  have k2 := hB.cell 2
  have q1 := p2.cell 1
  have HI2 := hide i2
  have hmx : Try.prog.follows .mixedOrders = true := by kernel_rfl
  have HLL := hide (show (lns s).length ≤ 1048576 by omega)
  clear i1 i2
  go_region_with (go_at_call 41; refine (holding_at g2 c2 _ (lns s) rfl (unhide HLL) (rises_lns s) (head_lns s) n k a (by omega) (unhide HK).1 (unhide HK).2.1 (unhide HK).2.2 _ ?_).mono ?_; exact (unhide HI2); rintro e w3 ⟨rfl, hb3⟩)
  all_goals have hb4 : Below W2.heap.size W2 w3 := ⟨hb3.os, hb3.tape, hb3.output, hb3.size, hb3.block⟩
  all_goals have r3 := r2.below hb4 r2.lt
  all_goals have p3 := p2.below hb4 p2.lt
  all_goals have hB3 := hB.below hb4 hB.lt
  all_goals have ka : w3.cell? ⟨g2, k, none⟩ = some (.int .i64 a) := (hb4.cell (p := ⟨g2, k, none⟩) hg2).trans (unhide HI2 k a (unhide HK).1)
  all_goals have HB3 := hide ((unhide HB2).trans (hb4.mono (unhide HB2).size))
  all_goals have e2 := hB3.cell 2
  all_goals have e1 := p3.cell 1
  all_goals have d0 := r3.cell 0
  all_goals have d1 := r3.cell 1
  all_goals have d2 := r3.cell 2
  all_goals have fr := r3.frozen
  all_goals have m1 : (k : Int) < ((lns s).length : Int) := by omega
  all_goals have m2 : ((k : Nat) : Int).toNat = k := by omega
  all_goals have m3 : (k : Int) ≤ 65537 := by omega
  all_goals have m4 : (n : Int) ≤ 65536 := by omega
  all_goals have m5 : (a : Int) ≤ (n : Int) := by omega
  all_goals have hw1 : IntKind.i64.wrap ((k : Int) + 1) = (k : Int) + 1 := by rw [IntKind.wrap_i64]; omega
  all_goals have hw2 : IntKind.i64.wrap ((n : Int) - (a : Int)) = (n : Int) - (a : Int) := by rw [IntKind.wrap_i64]; omega
  all_goals have hw3 : IntKind.i64.wrap ((n : Int) - (a : Int) + 1) = (n : Int) - (a : Int) + 1 := by rw [IntKind.wrap_i64]; omega
  all_goals clear hb3 hb4 hB3 p3 k2 q1
  all_goals go_wp2
  all_goals go_region
  all_goals go_wp2
  all_goals have z := ((r3.set 0 (.int .i64 b)).set 1 (.int .i64 ((k : Int) + 1))).set 2 (.int .i64 ((n : Int) - (a : Int) + 1))
  all_goals have z0 := z.cell 0
  all_goals have z1 := z.cell 1
  all_goals have z2 := z.cell 2
  all_goals exact bodyPost_ret (v := atV b ((k : Int) + 1) ((n : Int) - a + 1)) (by simp [results, Try.results7, go_sem, z0, z1, z2]) rfl ⟨rfl, ((((unhide HB3).setCell (p := ⟨W.heap.size, 0, none⟩) (Nat.le_refl _) _).setCell (p := ⟨W.heap.size, 1, none⟩) (Nat.le_refl _) _).setCell (p := ⟨W.heap.size, 2, none⟩) (Nat.le_refl _) _).drew⟩

theorem where_out (B : Nat) (s : ByteArray) (hs : s.size ≤ 65536) (b : Int) (hb : b < 0 ∨ (s.size : Int) < b) (W : World) (h : TextAt W B s) :
    Calls Try.prog 7 #[.pointer (some ⟨B, 0, none⟩), .int .i64 b] W fun e w' => e = .returned (.tuple #[.agg #[.int .i64 0, .int .i64 0, .int .i64 0], .bool false]) ∧ Below W.heap.size W w' := by
  have hal := (Below.refl W.heap.size W).alloc (Nat.le_refl _) (.cells #[.int .i64 0, .int .i64 0, .int .i64 0] 26)
  have HT := hide (h.below hal (Nat.le_refl _))
  have HA := hide hal
  have HH := hide hb
  clear h hal hb
  go_enter Try.func7, Try.ntmps7
  go_wp2_with fail
  refine (of_out B s hs b (unhide HH) _ (unhide HT)).mono ?_
  rintro e w1 ⟨rfl, hb1⟩
  have HB1 := hide ((unhide HA).trans (hb1.mono (unhide HA).size))
  have r1 := (Blk.new W #[.int .i64 0, .int .i64 0, .int .i64 0] 26).below hb1 (by simp)
  have r2 := r1.alloc (.cells #[.int .i64 0, .int .i64 0] 30)
  have HB2 := hide ((unhide HB1).alloc (unhide HB1).size (.cells #[.int .i64 0, .int .i64 0] 30))
  have d0 := r2.cell 0
  have d1 := r2.cell 1
  have d2 := r2.cell 2
  have fr := r2.frozen
  clear hb1 r1
  go_wp2
  have z := ((r2.set 0 (.int .i64 0)).set 1 (.int .i64 0)).set 2 (.int .i64 0)
  have z0 := z.cell 0
  have z1 := z.cell 1
  have z2 := z.cell 2
  exact bodyPost_ret (v := .tuple #[.agg #[.int .i64 0, .int .i64 0, .int .i64 0], .bool false]) (by simp [results, Try.results7, go_sem, z0, z1, z2]) rfl ⟨rfl, (((unhide HB2).setCell (p := ⟨W.heap.size, 0, none⟩) (Nat.le_refl _) _).setCell (p := ⟨W.heap.size, 1, none⟩) (Nat.le_refl _) _).setCell (p := ⟨W.heap.size, 2, none⟩) (Nat.le_refl _) _⟩

set_option maxRecDepth 100000 in
set_option maxHeartbeats 2000000 in
theorem find_in (B : Nat) (s : ByteArray) (hs : s.size ≤ 65536) (k a b n : Nat) (hk : LineAt s k a b) (han : a ≤ n) (hnb : n ≤ b) (W : World) (h : TextAt W B s) :
    Calls Try.prog 8 #[.pointer (some ⟨B, 0, none⟩), .int .i64 ((k : Int) + 1), .int .i64 ((n : Int) - (a : Int) + 1)] W fun e w' => e = .returned (placeV (pl s n) n) ∧ Below W.heap.size W w' := by
  have hal := (Below.refl W.heap.size W).alloc (Nat.le_refl _) (.cells #[.int .i64 0, .int .i64 0] 30)
  have HT := hide (h.below hal (Nat.le_refl _))
  have HA := hide hal
  have HK := hide hk
  have hle := hk.le
  have hl := starts_length s
  have HE : Hid (∀ W', TextAt W' B s → Calls Try.prog 42 #[.pointer (some ⟨B, 0, none⟩), .int .i64 ((k : Int) + 1)] W' fun e w' => e = .returned (endsV a b) ∧ Below W'.heap.size W' w') := hide (fun W' hT => by
    have := ends_in B s hs k a b (unhide HK) W' hT
    rw [show ((k + 1 : Nat) : Int) = (k : Int) + 1 by omega] at this
    exact this)
  clear h hal hk
  have HP : Hid ((a : Int) + ((n : Int) - (a : Int) + 1) - 1 = (n : Int)) := hide (by omega)
  have m1 : (1 : Int) ≤ (n : Int) - (a : Int) + 1 := by omega
  have m2 : (n : Int) - (a : Int) + 1 ≤ (b : Int) - (a : Int) + 1 := by omega
  have m3 : (a : Int) ≤ 65536 := by omega
  have m4 : (b : Int) ≤ 65536 := by omega
  have m5 : (n : Int) - (a : Int) + 1 ≤ 65537 := by omega
  have m6 : (a : Int) + ((n : Int) - (a : Int) + 1) = (n : Int) + 1 := by omega
  have m7 : (n : Int) ≤ 65536 := by omega
  have hnc : n ≤ (starts s).length := by omega
  generalize hC : (n : Int) - (a : Int) + 1 = C at *
  clear hC
  go_enter Try.func8, Try.ntmps8
  go_wp2_with fail
  refine (unhide HE _ (unhide HT)).mono ?_
  rintro e w1 ⟨rfl, hb1⟩
  have HT1 := hide ((unhide HT).below hb1 (Nat.le_refl _))
  have HB1 := hide ((unhide HA).trans (hb1.mono (unhide HA).size))
  have r1 := (Blk.new W #[.int .i64 0, .int .i64 0] 30).below hb1 (by simp)
  clear hb1
  go_wp2_with fail
  refine (place_in B s hs n hnc _ (unhide HT1)).mono ?_
  rintro e w2 ⟨rfl, hb2⟩
  have HB2 := hide ((unhide HB1).trans (hb2.mono (unhide HB1).size))
  have r2 := r1.below hb2 r1.lt
  have d0 := r2.cell 0
  have d1 := r2.cell 1
  have f2 := r2.frozen
  clear hb2 r1
  go_wp2
  have q := (r2.set 0 (.int .i64 (pl s n))).set 1 (.int .i64 n)
  have e0 := q.cell 0
  have e1 := q.cell 1
  exact bodyPost_ret (v := placeV (pl s n) n) (by simp [results, Try.results8, go_sem, e0, e1]) rfl ⟨rfl, ((unhide HB2).setCell (p := ⟨W.heap.size, 0, none⟩) (Nat.le_refl _) _).setCell (p := ⟨W.heap.size, 1, none⟩) (Nat.le_refl _) _⟩
end Go.Proofs.Ytnphbjhikapoeaa
