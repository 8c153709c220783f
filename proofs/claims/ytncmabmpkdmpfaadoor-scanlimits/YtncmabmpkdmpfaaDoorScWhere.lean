/- Where: the place of a byte of a text. -/
import Derived.Test.YtncmabmpkdmpfaaDoorScCut2
namespace Go.Proofs.YtncmabmpkdmpfaaDoor
open Go.RowKit Go.Shelf
set_option linter.unusedVariables false
theorem countNl_sh (s : ByteArray) (w : World) : Calls Tryd.prog 17 #[.string s, .string ⟨#[10]⟩] w fun e w' => e = .returned (.int .i64 (Lib.countByte s.data.toList 10)) ∧ w' = w := Any.strings_Count_one lay138 s 10 w
theorem lastNl_sh (s : ByteArray) (hs : s.size < 4611686018427387904) (w : World) : Calls Tryd.prog 16 #[.string s, .int .u8 10] w fun e w' => e = .returned (.int .i64 (Lib.lastIndexByte s 10)) ∧ w' = w := Any.strings_LastIndexByte lay149 s 10 hs w
/-- What stands ahead of a place, up to a spot's beginning. -/
def aheadV (s : ByteArray) (k : Nat) : ByteArray := s.extract 0 (cutAt s k)
/-- Where the last line of a text begins. -/
def lastL (t : ByteArray) : Nat := (Lib.lastIndexByte t 10 + 1).toNat
/-- Line and column. -/
def whL (s : ByteArray) (k : Nat) : Nat × Nat := (1 + Lib.countByte (aheadV s k).data.toList 10, 1 + (starts ((aheadV s k).extract (lastL (aheadV s k)) (aheadV s k).size)).length)
theorem lastL_le (t : ByteArray) : (Lib.lastIndexByte t 10 + 1) = (lastL t : Int) ∧ lastL t ≤ t.size := by
  unfold lastL
  rcases Lib.lastIndexByte_spec t 10 with ⟨h, _⟩ | ⟨i, hi, h, _⟩
  · rw [h]; exact ⟨rfl, Nat.zero_le _⟩
  · rw [h]; omega
abbrev atA (k : Nat) (x : Nat × Nat) : Array Value := #[.int .i64 k, .int .i64 x.1, .int .i64 x.2]
set_option maxRecDepth 100000 in
set_option maxHeartbeats 4000000 in
theorem where_in (s : ByteArray) (hs : s.size ≤ 262145) (k : Nat) (hk : k ≤ s.size) (w : World) : Calls Tryd.prog 10 #[.string s, .int .i64 k] w fun e w' => e = .returned (.agg (atA k (whL s k))) ∧ Below w.heap.size w w' := by
  have hkc : clampV s (k : Int) = k := by unfold clampV; omega
  have hcut := cut_any s (by unfold maxLen; omega) (k : Int)
  rw [hkc] at hcut
  obtain ⟨t, ht⟩ : ∃ t, t = aheadV s k := ⟨_, rfl⟩
  have hts : t.size ≤ s.size := by rw [ht]; unfold aheadV; rw [ByteArray.size_extract]; omega
  have hcut2 : ∀ w, Calls Tryd.prog 15 #[.string s, .int .i64 k] w fun e w' => e = .returned (.tuple #[.string t, .string (s.extract (cutAt s k) s.size)]) ∧ Below w.heap.size w w' := fun w => by rw [ht]; exact hcut w
  obtain ⟨hl1, hl2⟩ := lastL_le t
  obtain ⟨n, hn⟩ : ∃ n, n = lastL t := ⟨_, rfl⟩
  obtain ⟨j, hj⟩ : ∃ j, j = Lib.countByte t.data.toList 10 := ⟨_, rfl⟩
  have hjs : j ≤ t.size := by rw [hj]; have := List.count_le_length (a := (10 : UInt8)) (l := t.data.toList); rw [Array.length_toList] at this; exact this
  have hlast := lastNl_sh t (by omega)
  have hcnt := countNl_sh t
  rw [← hn] at hl1 hl2
  rw [← hj] at hcnt
  have hw : whL s k = (1 + j, 1 + (starts (t.extract n t.size)).length) := by unfold whL; rw [← ht, ← hj, ← hn]
  have hus : (t.extract n t.size).size ≤ t.size := by rw [ByteArray.size_extract]; omega
  have hsl := starts_length (t.extract n t.size)
  obtain ⟨u, hu⟩ : ∃ u, u = t.extract n t.size := ⟨_, rfl⟩
  rw [← hu] at hw hus hsl
  have hcu := count_any u (by unfold maxLen; omega)
  obtain ⟨z, hz⟩ : ∃ z, z = (starts u).length := ⟨_, rfl⟩
  rw [← hz] at hw hsl hcu
  have hue : t.extract n t.size = u := hu.symm
  have hks : (k : Int) ≤ (s.size : Int) := by omega
  have hk0 : (0 : Int) ≤ (k : Int) := by omega
  have hn1 : (n : Int) ≤ (t.size : Int) := by omega
  have hn2 : ((n : Nat) : Int).toNat = n := by omega
  have hjb : (j : Int) ≤ 262145 := by omega
  have hzb : (z : Int) ≤ 262145 := by omega
  have HC := hide hcut2
  have HL := hide hlast
  have HN := hide hcnt
  have HU := hide hcu
  have HW := hide hw
  have HL1 := hide hl1
  have hB0 := (Below.refl w.heap.size w).alloc (Nat.le_refl _) (.cells #[.int .i64 0, .int .i64 0, .int .i64 0] 26)
  have b0 := Blk.new w #[.int .i64 0, .int .i64 0, .int .i64 0] 26
  have Hb0 := hide b0
  have HB0 := hide hB0
  clear hcut hcut2 hlast hcnt hcu hw hl1 hu hz hn hj ht hkc hB0 b0
  go_enter Tryd.func10, Tryd.ntmps10
  go_wp2_with fail
  rw [show min (k : Int) (s.size : Int) = k by omega]
  refine (unhide HC _).mono ?_
  rintro e w1 ⟨rfl, hb⟩
  have Hb1 := hide ((unhide Hb0).below hb (unhide Hb0).lt)
  have HB1 := hide ((unhide HB0).trans (hb.mono (unhide HB0).size))
  clear hb Hb0 HB0 HC
  go_wp2_with fail
  refine (unhide HL _).mono ?_
  rintro e w2 ⟨rfl, rfl⟩
  rw [show Lib.lastIndexByte t 10 = (n : Int) - 1 by have := unhide HL1; omega]
  have hnb : (n : Int) ≤ 262145 := by omega
  have HBZ : Hz (w2.frozen? ⟨w.heap.size, 0, none⟩ = false ∧ w2.frozen? ⟨w.heap.size, 1, none⟩ = false ∧ w2.frozen? ⟨w.heap.size, 2, none⟩ = false) := hide ⟨(unhide Hb1).frozen 0, (unhide Hb1).frozen 1, (unhide Hb1).frozen 2⟩
  go_wp2_with fail
  have hB2 : ∀ w' : World, Below w2.drew.heap.size w2.drew w' → Blk w' w.heap.size #[.int .i64 0, .int .i64 0, .int .i64 0] 26 := fun w' hb => (show Blk w2.drew w.heap.size #[.int .i64 0, .int .i64 0, .int .i64 0] 26 from unhide Hb1).below hb (unhide Hb1).lt
  have HB2 := hide hB2
  clear hB2
  go_region_with ((first | (go_at_call 17; refine (unhide HN _).mono ?_; rintro e w' ⟨rfl, rfl⟩) | (go_at_call 18; refine (unhide HU _).mono ?_; rintro e w' ⟨rfl, hb⟩; have c0 := (unhide HB2 w' hb).cell 0; have c1 := (unhide HB2 w' hb).cell 1; have c2 := (unhide HB2 w' hb).cell 2; have f0 := (unhide HB2 w' hb).frozen 0; have f1 := (unhide HB2 w' hb).frozen 1; have f2 := (unhide HB2 w' hb).frozen 2)))
  rw [wrap_i64 (n := 1 + (j : Int)) (by omega) (by omega), wrap_i64 (n := 1 + (z : Int)) (by omega) (by omega)]
  have hE : Blk (((w'.setCell ⟨w.heap.size, 0, none⟩ (.int .i64 k)).setCell ⟨w.heap.size, 1, none⟩ (.int .i64 (1 + (j : Int)))).setCell ⟨w.heap.size, 2, none⟩ (.int .i64 (1 + (z : Int)))) w.heap.size #[.int .i64 k, .int .i64 (1 + (j : Int)), .int .i64 (1 + (z : Int))] 26 := (((unhide HB2 w' hb).set 0 (.int .i64 k)).set 1 (.int .i64 (1 + (j : Int)))).set 2 (.int .i64 (1 + (z : Int)))
  have hBB : Below w.heap.size w w' := (show Below w.heap.size w w2.drew from (unhide HB1).drew).trans (hb.mono (unhide HB1).size)
  have hBE := ((hBB.setCell (p := ⟨w.heap.size, 0, none⟩) (Nat.le_refl _) (.int .i64 k)).setCell (p := ⟨w.heap.size, 1, none⟩) (Nat.le_refl _) (.int .i64 (1 + (j : Int)))).setCell (p := ⟨w.heap.size, 2, none⟩) (Nat.le_refl _) (.int .i64 (1 + (z : Int)))
  have r0 := hE.cell 0
  have r1 := hE.cell 1
  have r2 := hE.cell 2
  have HBE := hide hBE
  clear hE hBB hBE hb c0 c1 c2 f0 f1 f2
  generalize (((w'.setCell ⟨w.heap.size, 0, none⟩ (.int .i64 k)).setCell ⟨w.heap.size, 1, none⟩ (.int .i64 (1 + (j : Int)))).setCell ⟨w.heap.size, 2, none⟩ (.int .i64 (1 + (z : Int)))) = W9 at *
  go_wp2_with fail
  refine bodyPost_ret (v := .agg #[.int .i64 k, .int .i64 (1 + (j : Int)), .int .i64 (1 + (z : Int))]) (by simp [results, Tryd.results10, go_sem, r0, r1, r2]) rfl ⟨?_, unhide HBE⟩
  rw [unhide HW]
  simp [atA, Int.natCast_add]
end Go.Proofs.YtncmabmpkdmpfaaDoor
