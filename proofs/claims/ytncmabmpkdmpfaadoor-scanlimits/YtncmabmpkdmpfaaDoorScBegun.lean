/- whole, begins, begun: how a rune begins. -/
import Derived.Test.YtncmabmpkdmpfaaDoorScNumd2
import Derived.Test.YtncmabmpkdmpfaaDoorVals
namespace Go.Proofs.YtncmabmpkdmpfaaDoor
open Go.RowKit Go.Shelf
set_option linter.unusedVariables false
/-- Does a text begin with a whole rune? -/
def wholeB (t : ByteArray) : Bool := decide (0 < t.size) && !badB t 0
set_option maxHeartbeats 1000000 in
theorem whole_any (t : ByteArray) (ht : t.size ≤ maxLen) (w : World) : Calls Tryd.prog 72 #[.string t] w fun e w' => e = .returned (.bool (wholeB t)) ∧ Below w.heap.size w w' := by
  by_cases hp : 0 < t.size
  · have hv : wholeB t = !badB t 0 := by unfold wholeB; simp [hp]
    rw [hv]
    clear hv
    go_enter Tryd.func72, Tryd.ntmps72
    go_wp2_with fail
    refine (first_any t ht _).mono ?_
    rintro e w1 ⟨rfl, hb⟩
    rw [firstV_pos hp]
    have x2 := (Blk.new w1 (spotCells (spotV t 0)) 83).cell 2
    have HB := hide (hb.alloc hb.size (.cells (spotCells (spotV t 0)) 83))
    simp only [spotCells] at x2
    clear hb
    go_wp2
    go_ret
    exact ⟨rfl, unhide HB⟩
  · have hv : wholeB t = false := by unfold wholeB; simp [hp]
    rw [hv]
    clear hv
    go_enter Tryd.func72, Tryd.ntmps72
    go_wp2_with fail
    refine (first_any t ht _).mono ?_
    rintro e w1 ⟨rfl, hb⟩
    rw [firstV_neg hp]
    have HB := hide (hb.alloc hb.size (.cells #[.int .i32 0, .int .i64 0, .bool false] 83))
    clear hb
    go_wp2
    go_ret
    exact ⟨rfl, unhide HB⟩
abbrev tailA : ByteArray := ⟨#[128, 128, 128]⟩
abbrev tailB : ByteArray := ⟨#[160, 128, 128]⟩
/-- May a rune of more bytes begin so? -/
def begB (t : ByteArray) : Bool := decide (t.size < wd (t ++ tailA) 0) || decide (t.size < wd (t ++ tailB) 0)
theorem size_tail (t : ByteArray) : (t ++ tailA).size = t.size + 3 ∧ (t ++ tailB).size = t.size + 3 := by
  rw [ByteArray.size_append, ByteArray.size_append]; exact ⟨rfl, rfl⟩
theorem tails_0 (w : World) : (Instr.index 136 (.agg #[.string tailA, .string tailB]) (.int .i64 0)).run Tryd.prog w = .ok (.string tailA) w := by kernel_rfl
theorem tails_1 (w : World) : (Instr.index 136 (.agg #[.string tailA, .string tailB]) (.int .i64 1)).run Tryd.prog w = .ok (.string tailB) w := by kernel_rfl
set_option maxRecDepth 100000 in
set_option maxHeartbeats 4000000 in
theorem begins_any (t : ByteArray) (ht : t.size ≤ 4611686018427387904) (w : World) : Calls Tryd.prog 91 #[.string t] w fun e w' => e = .returned (.bool (begB t)) ∧ Below w.heap.size w w' := by
  obtain ⟨z1, z2⟩ := size_tail t
  have hA : (t ++ tailA).size ≤ maxLen := by unfold maxLen; omega
  have hB : (t ++ tailB).size ≤ maxLen := by unfold maxLen; omega
  obtain ⟨nA, hnA⟩ : ∃ nA, nA = wd (t ++ tailA) 0 := ⟨_, rfl⟩
  obtain ⟨nB, hnB⟩ : ∃ nB, nB = wd (t ++ tailB) 0 := ⟨_, rfl⟩
  have hbv : begB t = (decide (t.size < nA) || decide (t.size < nB)) := by unfold begB; rw [hnA, hnB]
  have HBV := hide hbv
  have HNA := hide hnA
  have HNB := hide hnB
  clear hnA hnB hbv
  have vA := firstV_pos (s := t ++ tailA) (by omega)
  have vB := firstV_pos (s := t ++ tailB) (by omega)
  have HA := hide hA
  have HB := hide hB
  have hsz : t.size + 3 ≤ maxLen := by unfold maxLen; omega
  have hx0 := tails_0
  have hx1 := tails_1
  clear z1 z2 hA hB
  go_enter Tryd.func91, Tryd.ntmps91
  go_wp2_with fail
  refine wp_loop_rounds 3 ?_
  rw [rounds_succ]
  go_wp2_with fail
  refine (first_any (t ++ tailA) (unhide HA) _).mono ?_
  rintro e w1 ⟨rfl, hb⟩
  rw [vA]
  have x1 : (w1.alloc (.cells (spotCells (spotV (t ++ tailA) 0)) 83)).cell? ⟨w1.heap.size, 1, none⟩ = some (.int .i64 (nA : Int)) := by rw [unhide HNA]; exact (Blk.new w1 (spotCells (spotV (t ++ tailA) 0)) 83).cell 1
  have HWA := hide (hb.alloc hb.size (.cells (spotCells (spotV (t ++ tailA) 0)) 83))
  dsimp only [spotCells] at x1
  clear hb
  by_cases hA : t.size < nA
  · have hv : begB t = true := by rw [unhide HBV]; simp [hA]
    have HV := hide hv
    have hA' : (t.size : Int) < (nA : Int) := by omega
    clear hv hA
    go_wp2_with fail
    go_ret
    exact ⟨by rw [unhide HV]; rfl, unhide HWA⟩
  have hA' : ¬ (t.size : Int) < (nA : Int) := by omega
  go_wp2_with fail
  rw [rounds_succ]
  go_wp2_with fail
  clear x1 hA'
  refine (first_any (t ++ tailB) (unhide HB) _).mono ?_
  rintro e w2 ⟨rfl, hb⟩
  rw [vB]
  have x1 : (w2.alloc (.cells (spotCells (spotV (t ++ tailB) 0)) 83)).cell? ⟨w2.heap.size, 1, none⟩ = some (.int .i64 (nB : Int)) := by rw [unhide HNB]; exact (Blk.new w2 (spotCells (spotV (t ++ tailB) 0)) 83).cell 1
  have hq := (unhide HWA).trans (hb.mono (unhide HWA).size)
  have HWB := hide (hq.alloc hq.size (.cells (spotCells (spotV (t ++ tailB) 0)) 83))
  clear hq
  dsimp only [spotCells] at x1
  clear hb
  by_cases hB : t.size < nB
  · have hv : begB t = true := by rw [unhide HBV]; simp [hB]
    have HV := hide hv
    have hB' : (t.size : Int) < (nB : Int) := by omega
    clear hv hB hA
    go_wp2_with fail
    go_ret
    exact ⟨by rw [unhide HV]; rfl, unhide HWB⟩
  have hv : begB t = false := by rw [unhide HBV]; simp [hA, hB]
  have HV := hide hv
  have hB' : ¬ (t.size : Int) < (nB : Int) := by omega
  clear hv hB hA
  go_wp2_with fail
  rw [rounds_succ]
  go_wp2
  go_ret
  exact ⟨by rw [unhide HV]; rfl, unhide HWB⟩
/-- How many bytes of a text may yet become a rune's. -/
def begLen (t : ByteArray) : Nat := scanTo (fun n => begB (t.extract 0 (n + 1))) t.size 0
set_option maxRecDepth 100000 in
set_option maxHeartbeats 4000000 in
theorem begun_text (t : ByteArray) (ht : t.size ≤ 4611686018427387904) (w : World) : Calls Tryd.prog 73 #[.string t] w fun e w' => e = .returned (.int .i64 (begLen t)) ∧ Below w.heap.size w w' := by
  go_enter Tryd.func73, Tryd.ntmps73
  go_wp2
  go_loopw [3] (fun i wr => ∃ k : Nat, k ≤ t.size ∧ i = .int .i64 k ∧ Hz (begLen t = scanTo (fun n => begB (t.extract 0 (n + 1))) t.size k) ∧ Hz (Below w.heap.size w wr)) (fun i _ => t.size - (intOf i).toNat)
  case atStart => exact ⟨0, by omega, rfl, hide rfl, hide (Below.refl _ _)⟩
  case round =>
    obtain ⟨k, hk, rfl, HK, HW⟩ := hrel
    by_cases hkt : k < t.size
    · have hkt' : (k : Int) < (t.size : Int) := by omega
      have hi1 : (k : Int) + 1 ≤ (t.size : Int) := by omega
      have hi2 : ((k : Int) + 1).toNat = k + 1 := by omega
      cases hbg : begB (t.extract 0 (k + 1)) with
      | true =>
        have HN := hide (scanTo_go (p := fun n => begB (t.extract 0 (n + 1))) (hi := t.size) (n := k) hkt hbg)
        go_wp2_with fail
        refine (begins_any (t.extract 0 (k + 1)) (by rw [ByteArray.size_extract]; omega) _).mono ?_
        rintro e w1 ⟨rfl, hb⟩
        have HW1 := hide ((unhide HW).trans (hb.mono (unhide HW).size))
        clear hb
        rw [hbg]
        go_wp2_with fail
        go_roundw
        case rel => exact ⟨k + 1, by omega, by go_num, hide ((unhide HK).trans (unhide HN)), HW1⟩
        case measure => simp [intOf]; omega
      | false =>
        have HN := hide (scanTo_no (p := fun n => begB (t.extract 0 (n + 1))) (hi := t.size) (n := k) hbg)
        go_wp2_with fail
        refine (begins_any (t.extract 0 (k + 1)) (by rw [ByteArray.size_extract]; omega) _).mono ?_
        rintro e w1 ⟨rfl, hb⟩
        have HW1 := hide ((unhide HW).trans (hb.mono (unhide HW).size))
        clear hb
        rw [hbg]
        go_wp2_with fail
        go_ret
        exact ⟨ret_i (by rw [unhide HK, unhide HN]), unhide HW1⟩
    · have hkt' : ¬ (k : Int) < (t.size : Int) := by omega
      have HN := hide (scanTo_end (p := fun n => begB (t.extract 0 (n + 1))) (hi := t.size) (n := k) hkt)
      go_wp2_with fail
      go_ret
      exact ⟨ret_i (by rw [unhide HK, unhide HN]), unhide HW⟩
end Go.Proofs.YtncmabmpkdmpfaaDoor
