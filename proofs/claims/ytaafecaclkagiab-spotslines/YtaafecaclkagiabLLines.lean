/- SpotsLines, for every text, every byte, line and column: Where, Lines, Find and Line answer as the reference tells. -/
import Derived.Test.YtaafecaclkagiabRef2e
import Derived.BigQuiet
namespace Go.Proofs.Ytaafecaclkagiab
open Go.RowKit Go.Shelf
set_option linter.unusedVariables false

theorem few_lines (s : ByteArray) (hm : s.size ≤ maxLen) (w : World) : Calls Try.prog 26 #[.string s] w fun e w' => e = .returned (.bool (decide (s.size ≤ 400))) ∧ w' = w := by
  unfold maxLen at hm
  go_enter Try.func26, Try.ntmps26
  go_wp2
  go_ret
  refine ⟨?_, rfl⟩
  show Ending.returned (Value.bool (decide ((s.size : Int) ≤ 400))) = _
  rw [show decide ((s.size : Int) ≤ 400) = decide (s.size ≤ 400) from decide_eq_decide.2 (by omega)]

set_option maxRecDepth 100000 in
set_option maxHeartbeats 2000000 in
theorem llines_long (s : ByteArray) (hl : 65536 < s.size) (hm : s.size ≤ maxLen) (b line column : Int) (w : World) : Calls Try.prog 6 #[.string s, .int .i64 b, .int .i64 line, .int .i64 column] w fun e w' => e = .returned (.bool true) ∧ Below w.heap.size w w' := by
  go_enter Try.func6, Try.ntmps6
  go_wp2_with fail
  refine (begun_long s hl hm _).mono ?_
  rintro e w1 ⟨rfl, hb⟩
  have HB := hide hb
  clear hb
  go_wp2
  go_ret
  exact ⟨rfl, unhide HB⟩
set_option maxRecDepth 100000 in
set_option maxHeartbeats 2000000 in
theorem llines_many (s : ByteArray) (hl : ¬ s.size ≤ 400) (hs : s.size ≤ 65536) (b line column : Int) (w : World) : Calls Try.prog 6 #[.string s, .int .i64 b, .int .i64 line, .int .i64 column] w fun e w' => e = .returned (.bool true) ∧ Below w.heap.size w w' := by
  have hd : decide (s.size ≤ 400) = false := decide_eq_false hl
  go_enter Try.func6, Try.ntmps6
  go_wp2_with fail
  refine (begun_any s hs _).mono ?_
  rintro e w1 ⟨B, rfl, hT, hb⟩
  have HB := hide hb
  clear hb hT
  go_wp2_with fail
  refine (few_lines s (by unfold maxLen; omega) _).mono ?_
  rintro e w2 ⟨rfl, rfl⟩
  rw [hd]
  go_wp2
  go_ret
  exact ⟨rfl, unhide HB⟩

theorem refWhere_at (s : ByteArray) (hs : s.size ≤ 65536) (n k a : Nat) (hn : n ≤ (starts s).length) (hk : LineOf s n k a) (w : World) : Calls Try.prog 34 #[.string s, .int .i64 n] w fun e w' => e = .returned (.tuple #[.int .i64 ((k : Int) + 1), .int .i64 ((n : Int) - (a : Int) + 1)]) ∧ Below w.heap.size w w' := by
  refine (refWhere_any s hs n hn w).mono ?_
  rintro e w' ⟨k2, a2, hl, rfl, hb⟩
  obtain ⟨rfl, rfl⟩ := lineOf_unique s n k a k2 a2 hk hl
  exact ⟨rfl, hb⟩

set_option maxRecDepth 100000 in
set_option maxHeartbeats 8000000 in
theorem llines_in_found (s : ByteArray) (hf : s.size ≤ 400) (b n k a : Nat) (hb : b ≤ s.size) (hn : Holds s b n) (hk : LineOf s n k a) (fk fa fb fn : Nat) (hfk : LineAt s fk fa fb) (hf1 : fa ≤ fn) (hf2 : fn ≤ fb) (w : World) : Calls Try.prog 6 #[.string s, .int .i64 b, .int .i64 ((fk : Int) + 1), .int .i64 ((fn : Int) - (fa : Int) + 1)] w fun e w' => e = .returned (.bool true) ∧ Below w.heap.size w w' := by
  have hs : s.size ≤ 65536 := by omega
  have hs2 : s.size ≤ 1048576 := by omega
  have hd : decide (s.size ≤ 400) = true := decide_eq_true hf
  have hll : (((lns s).length : Int) != ((lns s).length : Int)) = false := by simp
  have HN := hide hn
  have HWH := hide (fun B W h => where_in B s hs b n k a hb hn hk W h)
  have HRW := hide (fun W => refWhere_at s hs n k a hn.1 hk W)
  unfold atV at HWH
  clear hn hk
  have n0 : (0 : Int) ≤ (n : Int) := by omega
  generalize (k : Int) + 1 = K at *
  generalize (n : Int) - (a : Int) + 1 = C at *
  have hkk : (K != K) = false := by simp
  have hcc : (C != C) = false := by simp
  have hbb : ((b : Int) != (b : Int)) = false := by simp
  have hfn : fn ≤ (starts s).length := by have := hfk.le; omega
  have fn0 : (0 : Int) ≤ (fn : Int) := by omega
  have HFI := hide (fun B W h => find_in B s hs fk fa fb fn hfk hf1 hf2 W h)
  have HRF := hide (fun W => refFind_in s hs fk fa fb fn hfk hf1 hf2 W)
  have HLT := hide (lnT_line s fk fa fb hfk)
  have HLI := hide (fun B W h => by have := line_in B s hs fk fa fb hfk W h; rw [show ((fk + 1 : Nat) : Int) = (fk : Int) + 1 by omega, ← unhide HLT] at this; exact this)
  have hfl : fk < (lns s).length := (List.getElem?_eq_some_iff.1 hfk.1).1
  unfold placeV at HFI
  have hpp : (((pl s fn : Nat) : Int) != ((pl s fn : Nat) : Int)) = false := by simp
  have hmm : ((fn : Int) != (fn : Int)) = false := by simp
  have fk1 : ¬ (fk : Int) + 1 < 1 := by omega
  have fk2 : (fk : Int) + 1 ≤ ((lns s).length : Int) := by omega
  have fk3 : (fk : Int) + 1 - 1 = (fk : Int) := by omega
  have fk4 : ((fk : Nat) : Int).toNat = fk := by omega
  have fk5 : (fk : Int) < ((lns s).length : Int) := by omega
  have fk6 : (fk : Int) ≤ 65536 := by have := (lns_length s).2; have := starts_length s; omega
  clear hfk hf1 hf2
  generalize (fn : Int) - (fa : Int) + 1 = FC at *
  clear hf
  go_enter Try.func6, Try.ntmps6
  go_wp2_with fail
  refine (begun_any s hs _).mono ?_
  rintro e w1 ⟨B, rfl, hT, hb⟩
  have HT1 := hide hT
  have HB1 := hide hb
  clear hb hT
  go_wp2_with fail
  refine (few_lines s (by unfold maxLen; omega) _).mono ?_
  rintro e w2 ⟨rfl, rfl⟩
  rw [hd]
  clear hd
  go_wp2_with fail
  refine (refLines_any s hs _).mono ?_
  rintro e w3 ⟨v, rfl, hown, hb⟩
  obtain ⟨lg, lcap, rfl, hlg, hrow⟩ := own_strs hown
  have HT3 := hide ((unhide HT1).below hb (Nat.le_refl _))
  have HB3 := hide ((unhide HB1).trans (hb.mono (unhide HB1).size))
  have HROW := hide hrow
  have HLG := hide hlg
  clear hb hown hrow hlg
  go_wp2_with fail
  refine (unhide HWH _ _ (unhide HT3)).mono ?_
  rintro e w4 ⟨rfl, hb⟩
  have HT4 := hide ((unhide HT3).below hb (Nat.le_refl _))
  have HB4 := hide ((unhide HB3).trans (hb.mono (unhide HB3).size))
  have HR4 := hide hb
  clear hb
  have hal := (Below.refl w4.heap.size w4).alloc (Nat.le_refl _) (.cells #[.int .i64 b, .int .i64 K, .int .i64 C] 39)
  have HT4a := hide ((unhide HT4).below hal (Nat.le_refl _))
  have HB4a := hide ((unhide HB4).trans (hal.mono (unhide HB4).size))
  have HR4a := hide ((unhide HR4).trans (hal.mono (unhide HR4).size))
  have p4 := Blk.new w4 #[.int .i64 b, .int .i64 K, .int .i64 C] 39
  clear hal
  go_wp2_with fail
  refine (refOf_in s hs2 b n hb (unhide HN) _).mono ?_
  rintro e w5 ⟨rfl, hb⟩
  have HT5 := hide ((unhide HT4a).below hb (Nat.le_refl _))
  have HB5 := hide ((unhide HB4a).trans (hb.mono (unhide HB4a).size))
  have HR5 := hide ((unhide HR4a).trans (hb.mono (unhide HR4a).size))
  have p5 := p4.below hb p4.lt
  clear hb p4
  go_wp2_with fail
  refine (lines_text B s hs _ (unhide HT5)).mono ?_
  rintro e w6 ⟨rfl, rfl⟩
  have hal := (Below.refl w6.heap.size w6).alloc (Nat.le_refl _) (.cells #[.int .i64 0, .int .i64 0, .int .i64 0] 39)
  have HQ6 := hide hal
  have p6 := p5.alloc (.cells #[.int .i64 0, .int .i64 0, .int .i64 0] 39)
  have q6 := Blk.new w6 #[.int .i64 0, .int .i64 0, .int .i64 0] 39
  have hpq : w4.heap.size ≠ w6.heap.size := by have := p5.lt; omega
  clear hal p5
  go_wp2_with fail
  refine (unhide HRW _).mono ?_
  rintro e w7 ⟨rfl, hb⟩
  have HQ7 := hide ((unhide HQ6).trans (hb.mono (unhide HQ6).size))
  have p7 := p6.below hb p6.lt
  have q7 := q6.below hb q6.lt
  clear hb p6 q6
  have d0 := q7.cell 0
  have d1 := q7.cell 1
  have d2 := q7.cell 2
  have fr := q7.frozen
  have HQ8 := hide ((((unhide HQ7).setCell (p := ⟨w6.heap.size, 0, none⟩) (Nat.le_refl _) (.int .i64 b)).setCell (p := ⟨w6.heap.size, 1, none⟩) (Nat.le_refl _) (.int .i64 K)).setCell (p := ⟨w6.heap.size, 2, none⟩) (Nat.le_refl _) (.int .i64 C))
  have p8 := ((p7.other (i := 0) hpq (.int .i64 b)).other (i := 1) hpq (.int .i64 K)).other (i := 2) hpq (.int .i64 C)
  have q8 := ((q7.set 0 (.int .i64 b)).set 1 (.int .i64 K)).set 2 (.int .i64 C)
  clear p7 q7
  have HT8 := hide ((unhide HT5).below (unhide HQ8) (Nat.le_refl _))
  go_wp2_with fail
  refine (unhide HFI _ _ (unhide HT8)).mono ?_
  rintro e w9 ⟨rfl, hb⟩
  have HQ9 := hide ((unhide HQ8).trans (hb.mono (unhide HQ8).size))
  have p9 := p8.below hb p8.lt
  have q9 := q8.below hb q8.lt
  clear hb p8 q8 d0 d1 d2 fr
  have q9 : Blk w9 w6.heap.size #[.int .i64 b, .int .i64 K, .int .i64 C] 39 := q9
  have hal := (Below.refl w9.heap.size w9).alloc (Nat.le_refl _) (.cells #[.int .i64 (pl s fn), .int .i64 fn] 29)
  have HQ9a := hide ((unhide HQ9).trans (hal.mono (unhide HQ9).size))
  have p9a := p9.alloc (.cells #[.int .i64 (pl s fn), .int .i64 fn] 29)
  have q9a := q9.alloc (.cells #[.int .i64 (pl s fn), .int .i64 fn] 29)
  have f9 := Blk.new w9 #[.int .i64 (pl s fn), .int .i64 fn] 29
  clear hal p9 q9
  go_wp2_with fail
  refine (unhide HRF _).mono ?_
  rintro e w10 ⟨rfl, hb⟩
  have HQ10 := hide ((unhide HQ9a).trans (hb.mono (unhide HQ9a).size))
  have p10 := p9a.below hb p9a.lt
  have q10 := q9a.below hb q9a.lt
  have f10 := f9.below hb f9.lt
  clear hb p9a q9a f9
  have x0 := p10.cell 0
  have x1 := p10.cell 1
  have x2 := p10.cell 2
  have y0 := q10.cell 0
  have y1 := q10.cell 1
  have y2 := q10.cell 2
  have z0 := f10.cell 0
  have z1 := f10.cell 1
  go_wp2
  have kx0 := cell_regrown (show w10.cell? _ = some _ from x0)
  have kx1 := cell_regrown (show w10.cell? _ = some _ from x1)
  have kx2 := cell_regrown (show w10.cell? _ = some _ from x2)
  have ky0 := cell_regrown (show w10.cell? _ = some _ from y0)
  have ky1 := cell_regrown (show w10.cell? _ = some _ from y1)
  have ky2 := cell_regrown (show w10.cell? _ = some _ from y2)
  have kz0 := cell_regrown (show w10.cell? _ = some _ from z0)
  have kz1 := cell_regrown (show w10.cell? _ = some _ from z1)
  clear x0 x1 x2 y0 y1 y2 z0 z1 p10 q10 f10 hpq
  refine wp_region_quiet_below (by kernel_rfl) (by kernel_rfl) ?_
  repeat (go_big_quiet_step (exact Calls.regrown_of (refByte_any s hs2 fn hfn _)))
  refine wpQuiet_nil ?_
  intro _ hw'
  obtain ⟨⟨dq, osq⟩, hw''⟩ := hw'
  subst hw''
  have HQ11 := hide ((unhide HQ10).trans ((below_regrown w10 dq osq).mono (unhide HQ10).size))
  clear kx0 kx1 kx2 ky0 ky1 ky2 kz0 kz1
  generalize Go.Sort.grow (redrawn w10 dq) osq = w11 at *
  have HT11 := hide ((unhide HT5).below (unhide HQ11) (Nat.le_refl _))
  go_wp2_with fail
  refine (unhide HLI _ _ (unhide HT11)).mono ?_
  rintro e w12 ⟨rfl, hb⟩
  have HQ12 := hide ((unhide HQ11).trans (hb.mono (unhide HQ11).size))
  have HB12 := hide ((unhide HB5).trans ((unhide HQ12).mono (unhide HB5).size))
  have HR12 := hide ((unhide HR5).trans ((unhide HQ12).mono (unhide HR5).size))
  clear hb
  have lc := ((unhide HR12).cell (p := ⟨lg, fk, none⟩) (unhide HLG)).trans (unhide HROW fk hfl)
  go_wp2
  go_ret
  exact ⟨rfl, unhide HB12⟩

set_option maxRecDepth 100000 in
set_option maxHeartbeats 8000000 in
theorem llines_in_col (s : ByteArray) (hf : s.size ≤ 400) (b n k a : Nat) (hb : b ≤ s.size) (hn : Holds s b n) (hk : LineOf s n k a) (fk fa fb : Nat) (hfk : LineAt s fk fa fb) (col : Int) (hc : col < 1 ∨ (fb : Int) - (fa : Int) + 1 < col) (w : World) : Calls Try.prog 6 #[.string s, .int .i64 b, .int .i64 ((fk : Int) + 1), .int .i64 col] w fun e w' => e = .returned (.bool true) ∧ Below w.heap.size w w' := by
  have hs : s.size ≤ 65536 := by omega
  have hs2 : s.size ≤ 1048576 := by omega
  have hd : decide (s.size ≤ 400) = true := decide_eq_true hf
  have hll : (((lns s).length : Int) != ((lns s).length : Int)) = false := by simp
  have HN := hide hn
  have HWH := hide (fun B W h => where_in B s hs b n k a hb hn hk W h)
  have HRW := hide (fun W => refWhere_at s hs n k a hn.1 hk W)
  unfold atV at HWH
  clear hn hk
  have n0 : (0 : Int) ≤ (n : Int) := by omega
  generalize (k : Int) + 1 = K at *
  generalize (n : Int) - (a : Int) + 1 = C at *
  have hkk : (K != K) = false := by simp
  have hcc : (C != C) = false := by simp
  have hbb : ((b : Int) != (b : Int)) = false := by simp
  have HFI := hide (fun B W h => find_col B s hs fk fa fb hfk col hc W h)
  have HRF := hide (fun W => refFind_col s hs fk fa fb hfk col hc W)
  have HLT := hide (lnT_line s fk fa fb hfk)
  have HLI := hide (fun B W h => by have := line_in B s hs fk fa fb hfk W h; rw [show ((fk + 1 : Nat) : Int) = (fk : Int) + 1 by omega, ← unhide HLT] at this; exact this)
  have hfl : fk < (lns s).length := (List.getElem?_eq_some_iff.1 hfk.1).1
  unfold placeN at HFI
  have fk1 : ¬ (fk : Int) + 1 < 1 := by omega
  have fk2 : (fk : Int) + 1 ≤ ((lns s).length : Int) := by omega
  have fk3 : (fk : Int) + 1 - 1 = (fk : Int) := by omega
  have fk4 : ((fk : Nat) : Int).toNat = fk := by omega
  have fk5 : (fk : Int) < ((lns s).length : Int) := by omega
  have fk6 : (fk : Int) ≤ 65536 := by have := (lns_length s).2; have := starts_length s; omega
  clear hfk hc
  clear hf
  go_enter Try.func6, Try.ntmps6
  go_wp2_with fail
  refine (begun_any s hs _).mono ?_
  rintro e w1 ⟨B, rfl, hT, hb⟩
  have HT1 := hide hT
  have HB1 := hide hb
  clear hb hT
  go_wp2_with fail
  refine (few_lines s (by unfold maxLen; omega) _).mono ?_
  rintro e w2 ⟨rfl, rfl⟩
  rw [hd]
  clear hd
  go_wp2_with fail
  refine (refLines_any s hs _).mono ?_
  rintro e w3 ⟨v, rfl, hown, hb⟩
  obtain ⟨lg, lcap, rfl, hlg, hrow⟩ := own_strs hown
  have HT3 := hide ((unhide HT1).below hb (Nat.le_refl _))
  have HB3 := hide ((unhide HB1).trans (hb.mono (unhide HB1).size))
  have HROW := hide hrow
  have HLG := hide hlg
  clear hb hown hrow hlg
  go_wp2_with fail
  refine (unhide HWH _ _ (unhide HT3)).mono ?_
  rintro e w4 ⟨rfl, hb⟩
  have HT4 := hide ((unhide HT3).below hb (Nat.le_refl _))
  have HB4 := hide ((unhide HB3).trans (hb.mono (unhide HB3).size))
  have HR4 := hide hb
  clear hb
  have hal := (Below.refl w4.heap.size w4).alloc (Nat.le_refl _) (.cells #[.int .i64 b, .int .i64 K, .int .i64 C] 39)
  have HT4a := hide ((unhide HT4).below hal (Nat.le_refl _))
  have HB4a := hide ((unhide HB4).trans (hal.mono (unhide HB4).size))
  have HR4a := hide ((unhide HR4).trans (hal.mono (unhide HR4).size))
  have p4 := Blk.new w4 #[.int .i64 b, .int .i64 K, .int .i64 C] 39
  clear hal
  go_wp2_with fail
  refine (refOf_in s hs2 b n hb (unhide HN) _).mono ?_
  rintro e w5 ⟨rfl, hb⟩
  have HT5 := hide ((unhide HT4a).below hb (Nat.le_refl _))
  have HB5 := hide ((unhide HB4a).trans (hb.mono (unhide HB4a).size))
  have HR5 := hide ((unhide HR4a).trans (hb.mono (unhide HR4a).size))
  have p5 := p4.below hb p4.lt
  clear hb p4
  go_wp2_with fail
  refine (lines_text B s hs _ (unhide HT5)).mono ?_
  rintro e w6 ⟨rfl, rfl⟩
  have hal := (Below.refl w6.heap.size w6).alloc (Nat.le_refl _) (.cells #[.int .i64 0, .int .i64 0, .int .i64 0] 39)
  have HQ6 := hide hal
  have p6 := p5.alloc (.cells #[.int .i64 0, .int .i64 0, .int .i64 0] 39)
  have q6 := Blk.new w6 #[.int .i64 0, .int .i64 0, .int .i64 0] 39
  have hpq : w4.heap.size ≠ w6.heap.size := by have := p5.lt; omega
  clear hal p5
  go_wp2_with fail
  refine (unhide HRW _).mono ?_
  rintro e w7 ⟨rfl, hb⟩
  have HQ7 := hide ((unhide HQ6).trans (hb.mono (unhide HQ6).size))
  have p7 := p6.below hb p6.lt
  have q7 := q6.below hb q6.lt
  clear hb p6 q6
  have d0 := q7.cell 0
  have d1 := q7.cell 1
  have d2 := q7.cell 2
  have fr := q7.frozen
  have HQ8 := hide ((((unhide HQ7).setCell (p := ⟨w6.heap.size, 0, none⟩) (Nat.le_refl _) (.int .i64 b)).setCell (p := ⟨w6.heap.size, 1, none⟩) (Nat.le_refl _) (.int .i64 K)).setCell (p := ⟨w6.heap.size, 2, none⟩) (Nat.le_refl _) (.int .i64 C))
  have p8 := ((p7.other (i := 0) hpq (.int .i64 b)).other (i := 1) hpq (.int .i64 K)).other (i := 2) hpq (.int .i64 C)
  have q8 := ((q7.set 0 (.int .i64 b)).set 1 (.int .i64 K)).set 2 (.int .i64 C)
  clear p7 q7
  have HT8 := hide ((unhide HT5).below (unhide HQ8) (Nat.le_refl _))
  go_wp2_with fail
  refine (unhide HFI _ _ (unhide HT8)).mono ?_
  rintro e w9 ⟨rfl, hb⟩
  have HQ9 := hide ((unhide HQ8).trans (hb.mono (unhide HQ8).size))
  have p9 := p8.below hb p8.lt
  have q9 := q8.below hb q8.lt
  clear hb p8 q8 d0 d1 d2 fr
  have q9 : Blk w9 w6.heap.size #[.int .i64 b, .int .i64 K, .int .i64 C] 39 := q9
  have hal := (Below.refl w9.heap.size w9).alloc (Nat.le_refl _) (.cells #[.int .i64 0, .int .i64 0] 29)
  have HQ9a := hide ((unhide HQ9).trans (hal.mono (unhide HQ9).size))
  have p9a := p9.alloc (.cells #[.int .i64 0, .int .i64 0] 29)
  have q9a := q9.alloc (.cells #[.int .i64 0, .int .i64 0] 29)
  have f9 := Blk.new w9 #[.int .i64 0, .int .i64 0] 29
  clear hal p9 q9
  go_wp2_with fail
  refine (unhide HRF _).mono ?_
  rintro e w10 ⟨rfl, hb⟩
  have HQ10 := hide ((unhide HQ9a).trans (hb.mono (unhide HQ9a).size))
  have p10 := p9a.below hb p9a.lt
  have q10 := q9a.below hb q9a.lt
  have f10 := f9.below hb f9.lt
  clear hb p9a q9a f9
  have x0 := p10.cell 0
  have x1 := p10.cell 1
  have x2 := p10.cell 2
  have y0 := q10.cell 0
  have y1 := q10.cell 1
  have y2 := q10.cell 2
  have z0 := f10.cell 0
  have z1 := f10.cell 1
  go_wp2
  clear p10 q10 f10 hpq
  go_quiet (fail)
  have HQ11 := hide (below_drewN (unhide HQ10) nq)
  clear x0 x1 x2 y0 y1 y2 z0 z1
  generalize w10.drewN nq = w11 at *
  have HT11 := hide ((unhide HT5).below (unhide HQ11) (Nat.le_refl _))
  go_wp2_with fail
  refine (unhide HLI _ _ (unhide HT11)).mono ?_
  rintro e w12 ⟨rfl, hb⟩
  have HQ12 := hide ((unhide HQ11).trans (hb.mono (unhide HQ11).size))
  have HB12 := hide ((unhide HB5).trans ((unhide HQ12).mono (unhide HB5).size))
  have HR12 := hide ((unhide HR5).trans ((unhide HQ12).mono (unhide HR5).size))
  clear hb
  have lc := ((unhide HR12).cell (p := ⟨lg, fk, none⟩) (unhide HLG)).trans (unhide HROW fk hfl)
  go_wp2
  go_ret
  exact ⟨rfl, unhide HB12⟩

set_option maxRecDepth 100000 in
set_option maxHeartbeats 8000000 in
theorem llines_in_line (s : ByteArray) (hf : s.size ≤ 400) (b n k a : Nat) (hb : b ≤ s.size) (hn : Holds s b n) (hk : LineOf s n k a) (line col : Int) (hl : line < 1 ∨ ((lns s).length : Int) < line) (w : World) : Calls Try.prog 6 #[.string s, .int .i64 b, .int .i64 line, .int .i64 col] w fun e w' => e = .returned (.bool true) ∧ Below w.heap.size w w' := by
  have hs : s.size ≤ 65536 := by omega
  have hs2 : s.size ≤ 1048576 := by omega
  have hd : decide (s.size ≤ 400) = true := decide_eq_true hf
  have hll : (((lns s).length : Int) != ((lns s).length : Int)) = false := by simp
  have HN := hide hn
  have HWH := hide (fun B W h => where_in B s hs b n k a hb hn hk W h)
  have HRW := hide (fun W => refWhere_at s hs n k a hn.1 hk W)
  unfold atV at HWH
  clear hn hk
  have n0 : (0 : Int) ≤ (n : Int) := by omega
  generalize (k : Int) + 1 = K at *
  generalize (n : Int) - (a : Int) + 1 = C at *
  have hkk : (K != K) = false := by simp
  have hcc : (C != C) = false := by simp
  have hbb : ((b : Int) != (b : Int)) = false := by simp
  have HFI := hide (fun B W h => find_line B s hs line col hl W h)
  have HRF := hide (fun W => refFind_line s hs line col hl W)
  have HLI := hide (fun B W h => line_out B s hs line hl W h)
  unfold placeN at HFI
  clear hf
  go_enter Try.func6, Try.ntmps6
  go_wp2_with fail
  refine (begun_any s hs _).mono ?_
  rintro e w1 ⟨B, rfl, hT, hb⟩
  have HT1 := hide hT
  have HB1 := hide hb
  clear hb hT
  go_wp2_with fail
  refine (few_lines s (by unfold maxLen; omega) _).mono ?_
  rintro e w2 ⟨rfl, rfl⟩
  rw [hd]
  clear hd
  go_wp2_with fail
  refine (refLines_any s hs _).mono ?_
  rintro e w3 ⟨v, rfl, hown, hb⟩
  obtain ⟨lg, lcap, rfl, hlg, hrow⟩ := own_strs hown
  have HT3 := hide ((unhide HT1).below hb (Nat.le_refl _))
  have HB3 := hide ((unhide HB1).trans (hb.mono (unhide HB1).size))
  have HROW := hide hrow
  have HLG := hide hlg
  clear hb hown hrow hlg
  go_wp2_with fail
  refine (unhide HWH _ _ (unhide HT3)).mono ?_
  rintro e w4 ⟨rfl, hb⟩
  have HT4 := hide ((unhide HT3).below hb (Nat.le_refl _))
  have HB4 := hide ((unhide HB3).trans (hb.mono (unhide HB3).size))
  have HR4 := hide hb
  clear hb
  have hal := (Below.refl w4.heap.size w4).alloc (Nat.le_refl _) (.cells #[.int .i64 b, .int .i64 K, .int .i64 C] 39)
  have HT4a := hide ((unhide HT4).below hal (Nat.le_refl _))
  have HB4a := hide ((unhide HB4).trans (hal.mono (unhide HB4).size))
  have HR4a := hide ((unhide HR4).trans (hal.mono (unhide HR4).size))
  have p4 := Blk.new w4 #[.int .i64 b, .int .i64 K, .int .i64 C] 39
  clear hal
  go_wp2_with fail
  refine (refOf_in s hs2 b n hb (unhide HN) _).mono ?_
  rintro e w5 ⟨rfl, hb⟩
  have HT5 := hide ((unhide HT4a).below hb (Nat.le_refl _))
  have HB5 := hide ((unhide HB4a).trans (hb.mono (unhide HB4a).size))
  have HR5 := hide ((unhide HR4a).trans (hb.mono (unhide HR4a).size))
  have p5 := p4.below hb p4.lt
  clear hb p4
  go_wp2_with fail
  refine (lines_text B s hs _ (unhide HT5)).mono ?_
  rintro e w6 ⟨rfl, rfl⟩
  have hal := (Below.refl w6.heap.size w6).alloc (Nat.le_refl _) (.cells #[.int .i64 0, .int .i64 0, .int .i64 0] 39)
  have HQ6 := hide hal
  have p6 := p5.alloc (.cells #[.int .i64 0, .int .i64 0, .int .i64 0] 39)
  have q6 := Blk.new w6 #[.int .i64 0, .int .i64 0, .int .i64 0] 39
  have hpq : w4.heap.size ≠ w6.heap.size := by have := p5.lt; omega
  clear hal p5
  go_wp2_with fail
  refine (unhide HRW _).mono ?_
  rintro e w7 ⟨rfl, hb⟩
  have HQ7 := hide ((unhide HQ6).trans (hb.mono (unhide HQ6).size))
  have p7 := p6.below hb p6.lt
  have q7 := q6.below hb q6.lt
  clear hb p6 q6
  have d0 := q7.cell 0
  have d1 := q7.cell 1
  have d2 := q7.cell 2
  have fr := q7.frozen
  have HQ8 := hide ((((unhide HQ7).setCell (p := ⟨w6.heap.size, 0, none⟩) (Nat.le_refl _) (.int .i64 b)).setCell (p := ⟨w6.heap.size, 1, none⟩) (Nat.le_refl _) (.int .i64 K)).setCell (p := ⟨w6.heap.size, 2, none⟩) (Nat.le_refl _) (.int .i64 C))
  have p8 := ((p7.other (i := 0) hpq (.int .i64 b)).other (i := 1) hpq (.int .i64 K)).other (i := 2) hpq (.int .i64 C)
  have q8 := ((q7.set 0 (.int .i64 b)).set 1 (.int .i64 K)).set 2 (.int .i64 C)
  clear p7 q7
  have HT8 := hide ((unhide HT5).below (unhide HQ8) (Nat.le_refl _))
  go_wp2_with fail
  refine (unhide HFI _ _ (unhide HT8)).mono ?_
  rintro e w9 ⟨rfl, hb⟩
  have HQ9 := hide ((unhide HQ8).trans (hb.mono (unhide HQ8).size))
  have p9 := p8.below hb p8.lt
  have q9 := q8.below hb q8.lt
  clear hb p8 q8 d0 d1 d2 fr
  have q9 : Blk w9 w6.heap.size #[.int .i64 b, .int .i64 K, .int .i64 C] 39 := q9
  have hal := (Below.refl w9.heap.size w9).alloc (Nat.le_refl _) (.cells #[.int .i64 0, .int .i64 0] 29)
  have HQ9a := hide ((unhide HQ9).trans (hal.mono (unhide HQ9).size))
  have p9a := p9.alloc (.cells #[.int .i64 0, .int .i64 0] 29)
  have q9a := q9.alloc (.cells #[.int .i64 0, .int .i64 0] 29)
  have f9 := Blk.new w9 #[.int .i64 0, .int .i64 0] 29
  clear hal p9 q9
  go_wp2_with fail
  refine (unhide HRF _).mono ?_
  rintro e w10 ⟨rfl, hb⟩
  have HQ10 := hide ((unhide HQ9a).trans (hb.mono (unhide HQ9a).size))
  have p10 := p9a.below hb p9a.lt
  have q10 := q9a.below hb q9a.lt
  have f10 := f9.below hb f9.lt
  clear hb p9a q9a f9
  have x0 := p10.cell 0
  have x1 := p10.cell 1
  have x2 := p10.cell 2
  have y0 := q10.cell 0
  have y1 := q10.cell 1
  have y2 := q10.cell 2
  have z0 := f10.cell 0
  have z1 := f10.cell 1
  go_wp2
  clear p10 q10 f10 hpq
  go_quiet (fail)
  have HQ11 := hide (below_drewN (unhide HQ10) nq)
  clear x0 x1 x2 y0 y1 y2 z0 z1
  generalize w10.drewN nq = w11 at *
  have HT11 := hide ((unhide HT5).below (unhide HQ11) (Nat.le_refl _))
  go_wp2_with fail
  refine (unhide HLI _ _ (unhide HT11)).mono ?_
  rintro e w12 ⟨rfl, hb⟩
  have HQ12 := hide ((unhide HQ11).trans (hb.mono (unhide HQ11).size))
  have HB12 := hide ((unhide HB5).trans ((unhide HQ12).mono (unhide HB5).size))
  have HR12 := hide ((unhide HR5).trans ((unhide HQ12).mono (unhide HR5).size))
  clear hb
  by_cases l1 : line < 1
  · go_wp2
    go_ret
    exact ⟨rfl, unhide HB12⟩
  · have l2 : ((lns s).length : Int) < line := by omega
    go_wp2
    go_ret
    exact ⟨rfl, unhide HB12⟩

set_option maxRecDepth 100000 in
set_option maxHeartbeats 8000000 in
theorem llines_out_found (s : ByteArray) (hf : s.size ≤ 400) (b : Int) (hb : b < 0 ∨ (s.size : Int) < b) (fk fa fb fn : Nat) (hfk : LineAt s fk fa fb) (hf1 : fa ≤ fn) (hf2 : fn ≤ fb) (w : World) : Calls Try.prog 6 #[.string s, .int .i64 b, .int .i64 ((fk : Int) + 1), .int .i64 ((fn : Int) - (fa : Int) + 1)] w fun e w' => e = .returned (.bool true) ∧ Below w.heap.size w w' := by
  have hs : s.size ≤ 65536 := by omega
  have hs2 : s.size ≤ 1048576 := by omega
  have hd : decide (s.size ≤ 400) = true := decide_eq_true hf
  have hll : (((lns s).length : Int) != ((lns s).length : Int)) = false := by simp
  have HWH := hide (fun B W h => where_out B s hs b hb W h)
  have hfn : fn ≤ (starts s).length := by have := hfk.le; omega
  have fn0 : (0 : Int) ≤ (fn : Int) := by omega
  have HFI := hide (fun B W h => find_in B s hs fk fa fb fn hfk hf1 hf2 W h)
  have HRF := hide (fun W => refFind_in s hs fk fa fb fn hfk hf1 hf2 W)
  have HLT := hide (lnT_line s fk fa fb hfk)
  have HLI := hide (fun B W h => by have := line_in B s hs fk fa fb hfk W h; rw [show ((fk + 1 : Nat) : Int) = (fk : Int) + 1 by omega, ← unhide HLT] at this; exact this)
  have hfl : fk < (lns s).length := (List.getElem?_eq_some_iff.1 hfk.1).1
  unfold placeV at HFI
  have hpp : (((pl s fn : Nat) : Int) != ((pl s fn : Nat) : Int)) = false := by simp
  have hmm : ((fn : Int) != (fn : Int)) = false := by simp
  have fk1 : ¬ (fk : Int) + 1 < 1 := by omega
  have fk2 : (fk : Int) + 1 ≤ ((lns s).length : Int) := by omega
  have fk3 : (fk : Int) + 1 - 1 = (fk : Int) := by omega
  have fk4 : ((fk : Nat) : Int).toNat = fk := by omega
  have fk5 : (fk : Int) < ((lns s).length : Int) := by omega
  have fk6 : (fk : Int) ≤ 65536 := by have := (lns_length s).2; have := starts_length s; omega
  clear hfk hf1 hf2
  generalize (fn : Int) - (fa : Int) + 1 = FC at *
  clear hf
  go_enter Try.func6, Try.ntmps6
  go_wp2_with fail
  refine (begun_any s hs _).mono ?_
  rintro e w1 ⟨B, rfl, hT, hb⟩
  have HT1 := hide hT
  have HB1 := hide hb
  clear hb hT
  go_wp2_with fail
  refine (few_lines s (by unfold maxLen; omega) _).mono ?_
  rintro e w2 ⟨rfl, rfl⟩
  rw [hd]
  clear hd
  go_wp2_with fail
  refine (refLines_any s hs _).mono ?_
  rintro e w3 ⟨v, rfl, hown, hb⟩
  obtain ⟨lg, lcap, rfl, hlg, hrow⟩ := own_strs hown
  have HT3 := hide ((unhide HT1).below hb (Nat.le_refl _))
  have HB3 := hide ((unhide HB1).trans (hb.mono (unhide HB1).size))
  have HROW := hide hrow
  have HLG := hide hlg
  clear hb hown hrow hlg
  go_wp2_with fail
  refine (unhide HWH _ _ (unhide HT3)).mono ?_
  rintro e w4 ⟨rfl, hb⟩
  have HT4 := hide ((unhide HT3).below hb (Nat.le_refl _))
  have HB4 := hide ((unhide HB3).trans (hb.mono (unhide HB3).size))
  have HR4 := hide hb
  clear hb
  have hal := (Below.refl w4.heap.size w4).alloc (Nat.le_refl _) (.cells #[.int .i64 0, .int .i64 0, .int .i64 0] 39)
  have HT4a := hide ((unhide HT4).below hal (Nat.le_refl _))
  have HB4a := hide ((unhide HB4).trans (hal.mono (unhide HB4).size))
  have HR4a := hide ((unhide HR4).trans (hal.mono (unhide HR4).size))
  have p4 := Blk.new w4 #[.int .i64 0, .int .i64 0, .int .i64 0] 39
  clear hal
  go_wp2_with fail
  refine (refOf_out s hs2 b hb _).mono ?_
  rintro e w5 ⟨rfl, hb⟩
  have HT5 := hide ((unhide HT4a).below hb (Nat.le_refl _))
  have HB5 := hide ((unhide HB4a).trans (hb.mono (unhide HB4a).size))
  have HR5 := hide ((unhide HR4a).trans (hb.mono (unhide HR4a).size))
  have p5 := p4.below hb p4.lt
  clear hb p4
  go_wp2_with fail
  refine (lines_text B s hs _ (unhide HT5)).mono ?_
  rintro e w6 ⟨rfl, rfl⟩
  have hal := (Below.refl w6.heap.size w6).alloc (Nat.le_refl _) (.cells #[.int .i64 0, .int .i64 0, .int .i64 0] 39)
  have HQ6 := hide hal
  have p6 := p5.alloc (.cells #[.int .i64 0, .int .i64 0, .int .i64 0] 39)
  have q6 := Blk.new w6 #[.int .i64 0, .int .i64 0, .int .i64 0] 39
  have hpq : w4.heap.size ≠ w6.heap.size := by have := p5.lt; omega
  clear hal p5
  have HT8 := hide ((unhide HT5).below (unhide HQ6) (Nat.le_refl _))
  go_wp2_with fail
  refine (unhide HFI _ _ (unhide HT8)).mono ?_
  rintro e w9 ⟨rfl, hb⟩
  have HQ9 := hide ((unhide HQ6).trans (hb.mono (unhide HQ6).size))
  have p9 := p6.below hb p6.lt
  have q9 := q6.below hb q6.lt
  clear hb p6 q6
  have hal := (Below.refl w9.heap.size w9).alloc (Nat.le_refl _) (.cells #[.int .i64 (pl s fn), .int .i64 fn] 29)
  have HQ9a := hide ((unhide HQ9).trans (hal.mono (unhide HQ9).size))
  have p9a := p9.alloc (.cells #[.int .i64 (pl s fn), .int .i64 fn] 29)
  have q9a := q9.alloc (.cells #[.int .i64 (pl s fn), .int .i64 fn] 29)
  have f9 := Blk.new w9 #[.int .i64 (pl s fn), .int .i64 fn] 29
  clear hal p9 q9
  go_wp2_with fail
  refine (unhide HRF _).mono ?_
  rintro e w10 ⟨rfl, hb⟩
  have HQ10 := hide ((unhide HQ9a).trans (hb.mono (unhide HQ9a).size))
  have p10 := p9a.below hb p9a.lt
  have q10 := q9a.below hb q9a.lt
  have f10 := f9.below hb f9.lt
  clear hb p9a q9a f9
  have x0 := p10.cell 0
  have x1 := p10.cell 1
  have x2 := p10.cell 2
  have y0 := q10.cell 0
  have y1 := q10.cell 1
  have y2 := q10.cell 2
  have z0 := f10.cell 0
  have z1 := f10.cell 1
  go_wp2
  have kx0 := cell_regrown (show w10.cell? _ = some _ from x0)
  have kx1 := cell_regrown (show w10.cell? _ = some _ from x1)
  have kx2 := cell_regrown (show w10.cell? _ = some _ from x2)
  have ky0 := cell_regrown (show w10.cell? _ = some _ from y0)
  have ky1 := cell_regrown (show w10.cell? _ = some _ from y1)
  have ky2 := cell_regrown (show w10.cell? _ = some _ from y2)
  have kz0 := cell_regrown (show w10.cell? _ = some _ from z0)
  have kz1 := cell_regrown (show w10.cell? _ = some _ from z1)
  clear x0 x1 x2 y0 y1 y2 z0 z1 p10 q10 f10 hpq
  refine wp_region_quiet_below (by kernel_rfl) (by kernel_rfl) ?_
  repeat (go_big_quiet_step (exact Calls.regrown_of (refByte_any s hs2 fn hfn _)))
  refine wpQuiet_nil ?_
  intro _ hw'
  obtain ⟨⟨dq, osq⟩, hw''⟩ := hw'
  subst hw''
  have HQ11 := hide ((unhide HQ10).trans ((below_regrown w10 dq osq).mono (unhide HQ10).size))
  clear kx0 kx1 kx2 ky0 ky1 ky2 kz0 kz1
  generalize Go.Sort.grow (redrawn w10 dq) osq = w11 at *
  have HT11 := hide ((unhide HT5).below (unhide HQ11) (Nat.le_refl _))
  go_wp2_with fail
  refine (unhide HLI _ _ (unhide HT11)).mono ?_
  rintro e w12 ⟨rfl, hb⟩
  have HQ12 := hide ((unhide HQ11).trans (hb.mono (unhide HQ11).size))
  have HB12 := hide ((unhide HB5).trans ((unhide HQ12).mono (unhide HB5).size))
  have HR12 := hide ((unhide HR5).trans ((unhide HQ12).mono (unhide HR5).size))
  clear hb
  have lc := ((unhide HR12).cell (p := ⟨lg, fk, none⟩) (unhide HLG)).trans (unhide HROW fk hfl)
  go_wp2
  go_ret
  exact ⟨rfl, unhide HB12⟩

set_option maxRecDepth 100000 in
set_option maxHeartbeats 8000000 in
theorem llines_out_col (s : ByteArray) (hf : s.size ≤ 400) (b : Int) (hb : b < 0 ∨ (s.size : Int) < b) (fk fa fb : Nat) (hfk : LineAt s fk fa fb) (col : Int) (hc : col < 1 ∨ (fb : Int) - (fa : Int) + 1 < col) (w : World) : Calls Try.prog 6 #[.string s, .int .i64 b, .int .i64 ((fk : Int) + 1), .int .i64 col] w fun e w' => e = .returned (.bool true) ∧ Below w.heap.size w w' := by
  have hs : s.size ≤ 65536 := by omega
  have hs2 : s.size ≤ 1048576 := by omega
  have hd : decide (s.size ≤ 400) = true := decide_eq_true hf
  have hll : (((lns s).length : Int) != ((lns s).length : Int)) = false := by simp
  have HWH := hide (fun B W h => where_out B s hs b hb W h)
  have HFI := hide (fun B W h => find_col B s hs fk fa fb hfk col hc W h)
  have HRF := hide (fun W => refFind_col s hs fk fa fb hfk col hc W)
  have HLT := hide (lnT_line s fk fa fb hfk)
  have HLI := hide (fun B W h => by have := line_in B s hs fk fa fb hfk W h; rw [show ((fk + 1 : Nat) : Int) = (fk : Int) + 1 by omega, ← unhide HLT] at this; exact this)
  have hfl : fk < (lns s).length := (List.getElem?_eq_some_iff.1 hfk.1).1
  unfold placeN at HFI
  have fk1 : ¬ (fk : Int) + 1 < 1 := by omega
  have fk2 : (fk : Int) + 1 ≤ ((lns s).length : Int) := by omega
  have fk3 : (fk : Int) + 1 - 1 = (fk : Int) := by omega
  have fk4 : ((fk : Nat) : Int).toNat = fk := by omega
  have fk5 : (fk : Int) < ((lns s).length : Int) := by omega
  have fk6 : (fk : Int) ≤ 65536 := by have := (lns_length s).2; have := starts_length s; omega
  clear hfk hc
  clear hf
  go_enter Try.func6, Try.ntmps6
  go_wp2_with fail
  refine (begun_any s hs _).mono ?_
  rintro e w1 ⟨B, rfl, hT, hb⟩
  have HT1 := hide hT
  have HB1 := hide hb
  clear hb hT
  go_wp2_with fail
  refine (few_lines s (by unfold maxLen; omega) _).mono ?_
  rintro e w2 ⟨rfl, rfl⟩
  rw [hd]
  clear hd
  go_wp2_with fail
  refine (refLines_any s hs _).mono ?_
  rintro e w3 ⟨v, rfl, hown, hb⟩
  obtain ⟨lg, lcap, rfl, hlg, hrow⟩ := own_strs hown
  have HT3 := hide ((unhide HT1).below hb (Nat.le_refl _))
  have HB3 := hide ((unhide HB1).trans (hb.mono (unhide HB1).size))
  have HROW := hide hrow
  have HLG := hide hlg
  clear hb hown hrow hlg
  go_wp2_with fail
  refine (unhide HWH _ _ (unhide HT3)).mono ?_
  rintro e w4 ⟨rfl, hb⟩
  have HT4 := hide ((unhide HT3).below hb (Nat.le_refl _))
  have HB4 := hide ((unhide HB3).trans (hb.mono (unhide HB3).size))
  have HR4 := hide hb
  clear hb
  have hal := (Below.refl w4.heap.size w4).alloc (Nat.le_refl _) (.cells #[.int .i64 0, .int .i64 0, .int .i64 0] 39)
  have HT4a := hide ((unhide HT4).below hal (Nat.le_refl _))
  have HB4a := hide ((unhide HB4).trans (hal.mono (unhide HB4).size))
  have HR4a := hide ((unhide HR4).trans (hal.mono (unhide HR4).size))
  have p4 := Blk.new w4 #[.int .i64 0, .int .i64 0, .int .i64 0] 39
  clear hal
  go_wp2_with fail
  refine (refOf_out s hs2 b hb _).mono ?_
  rintro e w5 ⟨rfl, hb⟩
  have HT5 := hide ((unhide HT4a).below hb (Nat.le_refl _))
  have HB5 := hide ((unhide HB4a).trans (hb.mono (unhide HB4a).size))
  have HR5 := hide ((unhide HR4a).trans (hb.mono (unhide HR4a).size))
  have p5 := p4.below hb p4.lt
  clear hb p4
  go_wp2_with fail
  refine (lines_text B s hs _ (unhide HT5)).mono ?_
  rintro e w6 ⟨rfl, rfl⟩
  have hal := (Below.refl w6.heap.size w6).alloc (Nat.le_refl _) (.cells #[.int .i64 0, .int .i64 0, .int .i64 0] 39)
  have HQ6 := hide hal
  have p6 := p5.alloc (.cells #[.int .i64 0, .int .i64 0, .int .i64 0] 39)
  have q6 := Blk.new w6 #[.int .i64 0, .int .i64 0, .int .i64 0] 39
  have hpq : w4.heap.size ≠ w6.heap.size := by have := p5.lt; omega
  clear hal p5
  have HT8 := hide ((unhide HT5).below (unhide HQ6) (Nat.le_refl _))
  go_wp2_with fail
  refine (unhide HFI _ _ (unhide HT8)).mono ?_
  rintro e w9 ⟨rfl, hb⟩
  have HQ9 := hide ((unhide HQ6).trans (hb.mono (unhide HQ6).size))
  have p9 := p6.below hb p6.lt
  have q9 := q6.below hb q6.lt
  clear hb p6 q6
  have hal := (Below.refl w9.heap.size w9).alloc (Nat.le_refl _) (.cells #[.int .i64 0, .int .i64 0] 29)
  have HQ9a := hide ((unhide HQ9).trans (hal.mono (unhide HQ9).size))
  have p9a := p9.alloc (.cells #[.int .i64 0, .int .i64 0] 29)
  have q9a := q9.alloc (.cells #[.int .i64 0, .int .i64 0] 29)
  have f9 := Blk.new w9 #[.int .i64 0, .int .i64 0] 29
  clear hal p9 q9
  go_wp2_with fail
  refine (unhide HRF _).mono ?_
  rintro e w10 ⟨rfl, hb⟩
  have HQ10 := hide ((unhide HQ9a).trans (hb.mono (unhide HQ9a).size))
  have p10 := p9a.below hb p9a.lt
  have q10 := q9a.below hb q9a.lt
  have f10 := f9.below hb f9.lt
  clear hb p9a q9a f9
  have x0 := p10.cell 0
  have x1 := p10.cell 1
  have x2 := p10.cell 2
  have y0 := q10.cell 0
  have y1 := q10.cell 1
  have y2 := q10.cell 2
  have z0 := f10.cell 0
  have z1 := f10.cell 1
  go_wp2
  clear p10 q10 f10 hpq
  go_quiet (fail)
  have HQ11 := hide (below_drewN (unhide HQ10) nq)
  clear x0 x1 x2 y0 y1 y2 z0 z1
  generalize w10.drewN nq = w11 at *
  have HT11 := hide ((unhide HT5).below (unhide HQ11) (Nat.le_refl _))
  go_wp2_with fail
  refine (unhide HLI _ _ (unhide HT11)).mono ?_
  rintro e w12 ⟨rfl, hb⟩
  have HQ12 := hide ((unhide HQ11).trans (hb.mono (unhide HQ11).size))
  have HB12 := hide ((unhide HB5).trans ((unhide HQ12).mono (unhide HB5).size))
  have HR12 := hide ((unhide HR5).trans ((unhide HQ12).mono (unhide HR5).size))
  clear hb
  have lc := ((unhide HR12).cell (p := ⟨lg, fk, none⟩) (unhide HLG)).trans (unhide HROW fk hfl)
  go_wp2
  go_ret
  exact ⟨rfl, unhide HB12⟩

set_option maxRecDepth 100000 in
set_option maxHeartbeats 8000000 in
theorem llines_out_line (s : ByteArray) (hf : s.size ≤ 400) (b : Int) (hb : b < 0 ∨ (s.size : Int) < b) (line col : Int) (hl : line < 1 ∨ ((lns s).length : Int) < line) (w : World) : Calls Try.prog 6 #[.string s, .int .i64 b, .int .i64 line, .int .i64 col] w fun e w' => e = .returned (.bool true) ∧ Below w.heap.size w w' := by
  have hs : s.size ≤ 65536 := by omega
  have hs2 : s.size ≤ 1048576 := by omega
  have hd : decide (s.size ≤ 400) = true := decide_eq_true hf
  have hll : (((lns s).length : Int) != ((lns s).length : Int)) = false := by simp
  have HWH := hide (fun B W h => where_out B s hs b hb W h)
  have HFI := hide (fun B W h => find_line B s hs line col hl W h)
  have HRF := hide (fun W => refFind_line s hs line col hl W)
  have HLI := hide (fun B W h => line_out B s hs line hl W h)
  unfold placeN at HFI
  clear hf
  go_enter Try.func6, Try.ntmps6
  go_wp2_with fail
  refine (begun_any s hs _).mono ?_
  rintro e w1 ⟨B, rfl, hT, hb⟩
  have HT1 := hide hT
  have HB1 := hide hb
  clear hb hT
  go_wp2_with fail
  refine (few_lines s (by unfold maxLen; omega) _).mono ?_
  rintro e w2 ⟨rfl, rfl⟩
  rw [hd]
  clear hd
  go_wp2_with fail
  refine (refLines_any s hs _).mono ?_
  rintro e w3 ⟨v, rfl, hown, hb⟩
  obtain ⟨lg, lcap, rfl, hlg, hrow⟩ := own_strs hown
  have HT3 := hide ((unhide HT1).below hb (Nat.le_refl _))
  have HB3 := hide ((unhide HB1).trans (hb.mono (unhide HB1).size))
  have HROW := hide hrow
  have HLG := hide hlg
  clear hb hown hrow hlg
  go_wp2_with fail
  refine (unhide HWH _ _ (unhide HT3)).mono ?_
  rintro e w4 ⟨rfl, hb⟩
  have HT4 := hide ((unhide HT3).below hb (Nat.le_refl _))
  have HB4 := hide ((unhide HB3).trans (hb.mono (unhide HB3).size))
  have HR4 := hide hb
  clear hb
  have hal := (Below.refl w4.heap.size w4).alloc (Nat.le_refl _) (.cells #[.int .i64 0, .int .i64 0, .int .i64 0] 39)
  have HT4a := hide ((unhide HT4).below hal (Nat.le_refl _))
  have HB4a := hide ((unhide HB4).trans (hal.mono (unhide HB4).size))
  have HR4a := hide ((unhide HR4).trans (hal.mono (unhide HR4).size))
  have p4 := Blk.new w4 #[.int .i64 0, .int .i64 0, .int .i64 0] 39
  clear hal
  go_wp2_with fail
  refine (refOf_out s hs2 b hb _).mono ?_
  rintro e w5 ⟨rfl, hb⟩
  have HT5 := hide ((unhide HT4a).below hb (Nat.le_refl _))
  have HB5 := hide ((unhide HB4a).trans (hb.mono (unhide HB4a).size))
  have HR5 := hide ((unhide HR4a).trans (hb.mono (unhide HR4a).size))
  have p5 := p4.below hb p4.lt
  clear hb p4
  go_wp2_with fail
  refine (lines_text B s hs _ (unhide HT5)).mono ?_
  rintro e w6 ⟨rfl, rfl⟩
  have hal := (Below.refl w6.heap.size w6).alloc (Nat.le_refl _) (.cells #[.int .i64 0, .int .i64 0, .int .i64 0] 39)
  have HQ6 := hide hal
  have p6 := p5.alloc (.cells #[.int .i64 0, .int .i64 0, .int .i64 0] 39)
  have q6 := Blk.new w6 #[.int .i64 0, .int .i64 0, .int .i64 0] 39
  have hpq : w4.heap.size ≠ w6.heap.size := by have := p5.lt; omega
  clear hal p5
  have HT8 := hide ((unhide HT5).below (unhide HQ6) (Nat.le_refl _))
  go_wp2_with fail
  refine (unhide HFI _ _ (unhide HT8)).mono ?_
  rintro e w9 ⟨rfl, hb⟩
  have HQ9 := hide ((unhide HQ6).trans (hb.mono (unhide HQ6).size))
  have p9 := p6.below hb p6.lt
  have q9 := q6.below hb q6.lt
  clear hb p6 q6
  have hal := (Below.refl w9.heap.size w9).alloc (Nat.le_refl _) (.cells #[.int .i64 0, .int .i64 0] 29)
  have HQ9a := hide ((unhide HQ9).trans (hal.mono (unhide HQ9).size))
  have p9a := p9.alloc (.cells #[.int .i64 0, .int .i64 0] 29)
  have q9a := q9.alloc (.cells #[.int .i64 0, .int .i64 0] 29)
  have f9 := Blk.new w9 #[.int .i64 0, .int .i64 0] 29
  clear hal p9 q9
  go_wp2_with fail
  refine (unhide HRF _).mono ?_
  rintro e w10 ⟨rfl, hb⟩
  have HQ10 := hide ((unhide HQ9a).trans (hb.mono (unhide HQ9a).size))
  have p10 := p9a.below hb p9a.lt
  have q10 := q9a.below hb q9a.lt
  have f10 := f9.below hb f9.lt
  clear hb p9a q9a f9
  have x0 := p10.cell 0
  have x1 := p10.cell 1
  have x2 := p10.cell 2
  have y0 := q10.cell 0
  have y1 := q10.cell 1
  have y2 := q10.cell 2
  have z0 := f10.cell 0
  have z1 := f10.cell 1
  go_wp2
  clear p10 q10 f10 hpq
  go_quiet (fail)
  have HQ11 := hide (below_drewN (unhide HQ10) nq)
  clear x0 x1 x2 y0 y1 y2 z0 z1
  generalize w10.drewN nq = w11 at *
  have HT11 := hide ((unhide HT5).below (unhide HQ11) (Nat.le_refl _))
  go_wp2_with fail
  refine (unhide HLI _ _ (unhide HT11)).mono ?_
  rintro e w12 ⟨rfl, hb⟩
  have HQ12 := hide ((unhide HQ11).trans (hb.mono (unhide HQ11).size))
  have HB12 := hide ((unhide HB5).trans ((unhide HQ12).mono (unhide HB5).size))
  have HR12 := hide ((unhide HR5).trans ((unhide HQ12).mono (unhide HR5).size))
  clear hb
  by_cases l1 : line < 1
  · go_wp2
    go_ret
    exact ⟨rfl, unhide HB12⟩
  · have l2 : ((lns s).length : Int) < line := by omega
    go_wp2
    go_ret
    exact ⟨rfl, unhide HB12⟩

theorem llines_any (s : ByteArray) (hm : s.size ≤ maxLen) (b line col : Int) (w : World) : Calls Try.prog 6 #[.string s, .int .i64 b, .int .i64 line, .int .i64 col] w fun e w' => e = .returned (.bool true) ∧ Below w.heap.size w w' := by
  by_cases h1 : s.size ≤ 65536
  · by_cases hf : s.size ≤ 400
    · by_cases hl : line < 1 ∨ ((lns s).length : Int) < line
      · by_cases hb : b < 0 ∨ (s.size : Int) < b
        · exact llines_out_line s hf b hb line col hl w
        · obtain ⟨b, rfl⟩ := Int.eq_ofNat_of_zero_le (show 0 ≤ b by omega)
          obtain ⟨n, hn⟩ := holds_exists s b (by omega)
          obtain ⟨k, a, hk⟩ := line_exists s n
          exact llines_in_line s hf b n k a (by omega) hn hk line col hl w
      · obtain ⟨fk, rfl⟩ : ∃ fk : Nat, line = (fk : Int) + 1 := ⟨(line - 1).toNat, by omega⟩
        obtain ⟨fa, fb, hfk⟩ := line_at s fk (by omega)
        by_cases hc : col < 1 ∨ (fb : Int) - (fa : Int) + 1 < col
        · by_cases hb : b < 0 ∨ (s.size : Int) < b
          · exact llines_out_col s hf b hb fk fa fb hfk col hc w
          · obtain ⟨b, rfl⟩ := Int.eq_ofNat_of_zero_le (show 0 ≤ b by omega)
            obtain ⟨n, hn⟩ := holds_exists s b (by omega)
            obtain ⟨k, a, hk⟩ := line_exists s n
            exact llines_in_col s hf b n k a (by omega) hn hk fk fa fb hfk col hc w
        · obtain ⟨fn, rfl⟩ : ∃ fn : Nat, col = (fn : Int) - (fa : Int) + 1 := ⟨((fa : Int) + col - 1).toNat, by omega⟩
          have g1 : fa ≤ fn := by omega
          have g2 : fn ≤ fb := by omega
          by_cases hb : b < 0 ∨ (s.size : Int) < b
          · exact llines_out_found s hf b hb fk fa fb fn hfk g1 g2 w
          · obtain ⟨b, rfl⟩ := Int.eq_ofNat_of_zero_le (show 0 ≤ b by omega)
            obtain ⟨n, hn⟩ := holds_exists s b (by omega)
            obtain ⟨k, a, hk⟩ := line_exists s n
            exact llines_in_found s hf b n k a (by omega) hn hk fk fa fb fn hfk g1 g2 w
    · exact llines_many s hf h1 b line col w
  · exact llines_long s (by omega) hm b line col w
end Go.Proofs.Ytaafecaclkagiab
