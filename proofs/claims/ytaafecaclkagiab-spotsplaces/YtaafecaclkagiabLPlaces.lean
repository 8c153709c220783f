/- SpotsPlaces, for every text, every number and every byte: String, Count, Place, Spot and Of answer as the reference counts. -/
import Derived.Test.YtaafecaclkagiabRef2b
import Derived.Test.YtaafecaclkagiabSpStr
import Derived.BigQuiet
namespace Go.Proofs.Ytaafecaclkagiab
open Go.RowKit Go.Shelf
set_option linter.unusedVariables false

theorem few_any (s : ByteArray) (hm : s.size ≤ maxLen) (w : World) : Calls Try.prog 26 #[.string s] w fun e w' => e = .returned (.bool (decide (s.size ≤ 400))) ∧ w' = w := by
  unfold maxLen at hm
  go_enter Try.func26, Try.ntmps26
  go_wp2
  go_ret
  refine ⟨?_, rfl⟩
  show Ending.returned (Value.bool (decide ((s.size : Int) ≤ 400))) = _
  rw [show decide ((s.size : Int) ≤ 400) = decide (s.size ≤ 400) from decide_eq_decide.2 (by omega)]

set_option maxRecDepth 100000 in
set_option maxHeartbeats 2000000 in
theorem lplaces_long (s : ByteArray) (hl : 65536 < s.size) (hm : s.size ≤ maxLen) (n b : Int) (w : World) : Calls Try.prog 5 #[.string s, .int .i64 n, .int .i64 b] w fun e w' => e = .returned (.bool true) ∧ Below w.heap.size w w' := by
  go_enter Try.func5, Try.ntmps5
  go_wp2_with fail
  refine (begun_long s hl hm _).mono ?_
  rintro e w1 ⟨rfl, hb⟩
  have HB := hide hb
  clear hb
  go_wp2
  go_ret
  exact ⟨rfl, unhide HB⟩
set_option maxRecDepth 100000 in
set_option maxHeartbeats 2000000 in
theorem lplaces_many (s : ByteArray) (hl : ¬ s.size ≤ 400) (hs : s.size ≤ 65536) (n b : Int) (w : World) : Calls Try.prog 5 #[.string s, .int .i64 n, .int .i64 b] w fun e w' => e = .returned (.bool true) ∧ Below w.heap.size w w' := by
  have hd : decide (s.size ≤ 400) = false := decide_eq_false hl
  go_enter Try.func5, Try.ntmps5
  go_wp2_with fail
  refine (begun_any s hs _).mono ?_
  rintro e w1 ⟨B, rfl, hT, hb⟩
  have HB := hide hb
  clear hb hT
  go_wp2_with fail
  refine (few_any s (by unfold maxLen; omega) _).mono ?_
  rintro e w2 ⟨rfl, rfl⟩
  rw [hd]
  go_wp2
  go_ret
  exact ⟨rfl, unhide HB⟩

set_option maxRecDepth 100000 in
set_option maxHeartbeats 8000000 in
theorem lplaces_neg_in (s : ByteArray) (hf : s.size ≤ 400) (n : Int) (hn : n < 0) (b m2 : Nat) (hb : b ≤ s.size) (hk : Holds s b m2) (w : World) : Calls Try.prog 5 #[.string s, .int .i64 n, .int .i64 b] w fun e w' => e = .returned (.bool true) ∧ Below w.heap.size w w' := by
  have hs : s.size ≤ 65536 := by omega
  have hs2 : s.size ≤ 1048576 := by omega
  have hd : decide (s.size ≤ 400) = true := decide_eq_true hf
  have hnl := starts_length s
  have hss : (s.toList != s.toList) = false := by simp
  have hll : (((starts s).length : Int) != ((starts s).length : Int)) = false := by simp
  have n0 : ¬ (0 : Int) ≤ n := by omega
  have hm2 : m2 ≤ (starts s).length := hk.1
  have q0 : ¬ (m2 : Int) < 0 := by omega
  clear hf
  go_enter Try.func5, Try.ntmps5
  go_wp2_with fail
  refine (begun_any s hs _).mono ?_
  rintro e w1 ⟨B, rfl, hT, hb⟩
  have HT1 := hide hT
  have HB1 := hide hb
  clear hb hT
  go_wp2_with fail
  refine (few_any s (by unfold maxLen; omega) _).mono ?_
  rintro e w2 ⟨rfl, rfl⟩
  rw [hd]
  clear hd
  go_wp2_with fail
  refine (refSpots_any s (by omega) _).mono ?_
  rintro e w3 ⟨v, rfl, hown, hb⟩
  obtain ⟨la, lcap, rfl, hrow⟩ := rows_form hown
  have HT3 := hide ((unhide HT1).below hb (Nat.le_refl _))
  have HB3 := hide ((unhide HB1).trans (hb.mono (unhide HB1).size))
  have HROW := hide hrow
  clear hb hown hrow
  go_wp2_with fail
  refine (string_text B s _ (unhide HT3)).mono ?_
  rintro e w4 ⟨rfl, rfl⟩
  go_wp2_with fail
  refine (count_text B s hs _ (unhide HT3)).mono ?_
  rintro e w4 ⟨rfl, rfl⟩
  go_wp2_with fail
  refine (place_out B s hs n (.inl hn) _ (unhide HT3)).mono ?_
  rintro e w5 ⟨rfl, hb⟩
  have HT5 := hide ((unhide HT3).below hb (Nat.le_refl _))
  have HB5 := hide ((unhide HB3).trans (hb.mono (unhide HB3).size))
  have HB35 := hide hb
  clear hb
  have hal := (Below.refl w5.heap.size w5).alloc (Nat.le_refl _) (.cells #[.int .i64 0, .int .i64 0] 29)
  have HT5a := hide ((unhide HT5).below hal (Nat.le_refl _))
  have HB5a := hide ((unhide HB5).trans (hal.mono (unhide HB5).size))
  have HB35a := hide ((unhide HB35).trans (hal.mono (unhide HB35).size))
  have p5 := Blk.new w5 #[.int .i64 0, .int .i64 0] 29
  clear hal
  go_wp2_with fail
  refine (spot_out B s hs n (.inl hn) _ (unhide HT5a)).mono ?_
  rintro e w6 ⟨rfl, hb⟩
  have HT6 := hide ((unhide HT5a).below hb (Nat.le_refl _))
  have HB6 := hide ((unhide HB5a).trans (hb.mono (unhide HB5a).size))
  have HB36 := hide ((unhide HB35a).trans (hb.mono (unhide HB35a).size))
  have p6 := p5.below hb p5.lt
  clear hb p5
  have hal := (Below.refl w6.heap.size w6).alloc (Nat.le_refl _) (.cells #[.int .i32 0, .int .i64 0, .bool false] 47)
  have HT6a := hide ((unhide HT6).below hal (Nat.le_refl _))
  have HB6a := hide ((unhide HB6).trans (hal.mono (unhide HB6).size))
  have HB36a := hide ((unhide HB36).trans (hal.mono (unhide HB36).size))
  have p6a := p6.alloc (.cells #[.int .i32 0, .int .i64 0, .bool false] 47)
  have x6 := Blk.new w6 #[.int .i32 0, .int .i64 0, .bool false] 47
  clear hal p6
  have c0 := p6a.cell 0
  have c1 := p6a.cell 1
  have d0 := x6.cell 0
  have d1 := x6.cell 1
  have d2 := x6.cell 2
  go_wp2
  generalize hW7 : w6.alloc (.cells #[.int .i32 0, .int .i64 0, .bool false] 47) = W7 at *
  clear hW7
  clear c0 c1 d0 d1 d2
  go_quiet (fail)
  have HT8 := hide (show TextAt (W7.drewN nq) B s from unhide HT6a)
  have HB8 := hide (below_drewN (unhide HB6a) nq)
  generalize W7.drewN nq = W8 at *
  go_wp2_with fail
  refine (of_in B s hs b m2 hb hk _ (unhide HT8)).mono ?_
  rintro e w9 ⟨rfl, hb⟩
  have HB9 := hide ((unhide HB8).trans (hb.mono (unhide HB8).size))
  clear hb
  have hal := (Below.refl w9.heap.size w9).alloc (Nat.le_refl _) (.cells #[.int .i64 (pl s m2), .int .i64 m2] 29)
  have HB9a := hide ((unhide HB9).trans (hal.mono (unhide HB9).size))
  have o9 := Blk.new w9 #[.int .i64 (pl s m2), .int .i64 m2] 29
  clear hal
  go_wp2_with fail
  refine (refOf_in s hs2 b m2 hb hk _).mono ?_
  rintro e w10 ⟨rfl, hb⟩
  have HB10 := hide ((unhide HB9a).trans (hb.mono (unhide HB9a).size))
  have o10 := o9.below hb o9.lt
  have e0 := o10.cell 0
  have e1 := o10.cell 1
  clear hb o9
  go_wp2
  have ke0 := cell_regrown (show w10.cell? _ = some _ from e0)
  have ke1 := cell_regrown (show w10.cell? _ = some _ from e1)
  clear e0 e1
  refine wp_region_quiet_below (by kernel_rfl) (by kernel_rfl) ?_
  repeat (quiet_step (exact Calls.regrown_of (refByte_any s hs2 m2 hm2 _)))
  refine wpQuiet_nil ?_
  intro _ hw'
  obtain ⟨⟨dq2, osq2⟩, hw''⟩ := hw'
  subst hw''
  go_wp2
  go_ret
  exact ⟨rfl, (unhide HB10).trans ((below_regrown w10 dq2 osq2).mono (unhide HB10).size)⟩

set_option maxRecDepth 100000 in
set_option maxHeartbeats 8000000 in
theorem lplaces_neg_out (s : ByteArray) (hf : s.size ≤ 400) (n : Int) (hn : n < 0) (b : Int) (hb : b < 0 ∨ (s.size : Int) < b) (w : World) : Calls Try.prog 5 #[.string s, .int .i64 n, .int .i64 b] w fun e w' => e = .returned (.bool true) ∧ Below w.heap.size w w' := by
  have hs : s.size ≤ 65536 := by omega
  have hs2 : s.size ≤ 1048576 := by omega
  have hd : decide (s.size ≤ 400) = true := decide_eq_true hf
  have hnl := starts_length s
  have hss : (s.toList != s.toList) = false := by simp
  have hll : (((starts s).length : Int) != ((starts s).length : Int)) = false := by simp
  have n0 : ¬ (0 : Int) ≤ n := by omega
  clear hf
  go_enter Try.func5, Try.ntmps5
  go_wp2_with fail
  refine (begun_any s hs _).mono ?_
  rintro e w1 ⟨B, rfl, hT, hb⟩
  have HT1 := hide hT
  have HB1 := hide hb
  clear hb hT
  go_wp2_with fail
  refine (few_any s (by unfold maxLen; omega) _).mono ?_
  rintro e w2 ⟨rfl, rfl⟩
  rw [hd]
  clear hd
  go_wp2_with fail
  refine (refSpots_any s (by omega) _).mono ?_
  rintro e w3 ⟨v, rfl, hown, hb⟩
  obtain ⟨la, lcap, rfl, hrow⟩ := rows_form hown
  have HT3 := hide ((unhide HT1).below hb (Nat.le_refl _))
  have HB3 := hide ((unhide HB1).trans (hb.mono (unhide HB1).size))
  have HROW := hide hrow
  clear hb hown hrow
  go_wp2_with fail
  refine (string_text B s _ (unhide HT3)).mono ?_
  rintro e w4 ⟨rfl, rfl⟩
  go_wp2_with fail
  refine (count_text B s hs _ (unhide HT3)).mono ?_
  rintro e w4 ⟨rfl, rfl⟩
  go_wp2_with fail
  refine (place_out B s hs n (.inl hn) _ (unhide HT3)).mono ?_
  rintro e w5 ⟨rfl, hb⟩
  have HT5 := hide ((unhide HT3).below hb (Nat.le_refl _))
  have HB5 := hide ((unhide HB3).trans (hb.mono (unhide HB3).size))
  have HB35 := hide hb
  clear hb
  have hal := (Below.refl w5.heap.size w5).alloc (Nat.le_refl _) (.cells #[.int .i64 0, .int .i64 0] 29)
  have HT5a := hide ((unhide HT5).below hal (Nat.le_refl _))
  have HB5a := hide ((unhide HB5).trans (hal.mono (unhide HB5).size))
  have HB35a := hide ((unhide HB35).trans (hal.mono (unhide HB35).size))
  have p5 := Blk.new w5 #[.int .i64 0, .int .i64 0] 29
  clear hal
  go_wp2_with fail
  refine (spot_out B s hs n (.inl hn) _ (unhide HT5a)).mono ?_
  rintro e w6 ⟨rfl, hb⟩
  have HT6 := hide ((unhide HT5a).below hb (Nat.le_refl _))
  have HB6 := hide ((unhide HB5a).trans (hb.mono (unhide HB5a).size))
  have HB36 := hide ((unhide HB35a).trans (hb.mono (unhide HB35a).size))
  have p6 := p5.below hb p5.lt
  clear hb p5
  have hal := (Below.refl w6.heap.size w6).alloc (Nat.le_refl _) (.cells #[.int .i32 0, .int .i64 0, .bool false] 47)
  have HT6a := hide ((unhide HT6).below hal (Nat.le_refl _))
  have HB6a := hide ((unhide HB6).trans (hal.mono (unhide HB6).size))
  have HB36a := hide ((unhide HB36).trans (hal.mono (unhide HB36).size))
  have p6a := p6.alloc (.cells #[.int .i32 0, .int .i64 0, .bool false] 47)
  have x6 := Blk.new w6 #[.int .i32 0, .int .i64 0, .bool false] 47
  clear hal p6
  have c0 := p6a.cell 0
  have c1 := p6a.cell 1
  have d0 := x6.cell 0
  have d1 := x6.cell 1
  have d2 := x6.cell 2
  go_wp2
  generalize hW7 : w6.alloc (.cells #[.int .i32 0, .int .i64 0, .bool false] 47) = W7 at *
  clear hW7
  clear c0 c1 d0 d1 d2
  go_quiet (fail)
  have HT8 := hide (show TextAt (W7.drewN nq) B s from unhide HT6a)
  have HB8 := hide (below_drewN (unhide HB6a) nq)
  generalize W7.drewN nq = W8 at *
  go_wp2_with fail
  refine (of_out B s hs b hb _ (unhide HT8)).mono ?_
  rintro e w9 ⟨rfl, hb⟩
  have HB9 := hide ((unhide HB8).trans (hb.mono (unhide HB8).size))
  clear hb
  have hal := (Below.refl w9.heap.size w9).alloc (Nat.le_refl _) (.cells #[.int .i64 0, .int .i64 0] 29)
  have HB9a := hide ((unhide HB9).trans (hal.mono (unhide HB9).size))
  have o9 := Blk.new w9 #[.int .i64 0, .int .i64 0] 29
  clear hal
  go_wp2_with fail
  refine (refOf_out s hs2 b hb _).mono ?_
  rintro e w10 ⟨rfl, hb⟩
  have HB10 := hide ((unhide HB9a).trans (hb.mono (unhide HB9a).size))
  have o10 := o9.below hb o9.lt
  have e0 := o10.cell 0
  have e1 := o10.cell 1
  clear hb o9
  go_wp2
  go_ret
  exact ⟨rfl, unhide HB10⟩

set_option maxRecDepth 100000 in
set_option maxHeartbeats 8000000 in
theorem lplaces_big_in (s : ByteArray) (hf : s.size ≤ 400) (n : Int) (hn : ((starts s).length : Int) < n) (b m2 : Nat) (hb : b ≤ s.size) (hk : Holds s b m2) (w : World) : Calls Try.prog 5 #[.string s, .int .i64 n, .int .i64 b] w fun e w' => e = .returned (.bool true) ∧ Below w.heap.size w w' := by
  have hs : s.size ≤ 65536 := by omega
  have hs2 : s.size ≤ 1048576 := by omega
  have hd : decide (s.size ≤ 400) = true := decide_eq_true hf
  have hnl := starts_length s
  have hss : (s.toList != s.toList) = false := by simp
  have hll : (((starts s).length : Int) != ((starts s).length : Int)) = false := by simp
  have n0 : (0 : Int) ≤ n := by omega
  have n1 : ¬ n ≤ ((starts s).length : Int) := by omega
  have n2 : ¬ n < ((starts s).length : Int) := by omega
  have hm2 : m2 ≤ (starts s).length := hk.1
  have q0 : ¬ (m2 : Int) < 0 := by omega
  clear hf
  go_enter Try.func5, Try.ntmps5
  go_wp2_with fail
  refine (begun_any s hs _).mono ?_
  rintro e w1 ⟨B, rfl, hT, hb⟩
  have HT1 := hide hT
  have HB1 := hide hb
  clear hb hT
  go_wp2_with fail
  refine (few_any s (by unfold maxLen; omega) _).mono ?_
  rintro e w2 ⟨rfl, rfl⟩
  rw [hd]
  clear hd
  go_wp2_with fail
  refine (refSpots_any s (by omega) _).mono ?_
  rintro e w3 ⟨v, rfl, hown, hb⟩
  obtain ⟨la, lcap, rfl, hrow⟩ := rows_form hown
  have HT3 := hide ((unhide HT1).below hb (Nat.le_refl _))
  have HB3 := hide ((unhide HB1).trans (hb.mono (unhide HB1).size))
  have HROW := hide hrow
  clear hb hown hrow
  go_wp2_with fail
  refine (string_text B s _ (unhide HT3)).mono ?_
  rintro e w4 ⟨rfl, rfl⟩
  go_wp2_with fail
  refine (count_text B s hs _ (unhide HT3)).mono ?_
  rintro e w4 ⟨rfl, rfl⟩
  go_wp2_with fail
  refine (place_out B s hs n (.inr hn) _ (unhide HT3)).mono ?_
  rintro e w5 ⟨rfl, hb⟩
  have HT5 := hide ((unhide HT3).below hb (Nat.le_refl _))
  have HB5 := hide ((unhide HB3).trans (hb.mono (unhide HB3).size))
  have HB35 := hide hb
  clear hb
  have hal := (Below.refl w5.heap.size w5).alloc (Nat.le_refl _) (.cells #[.int .i64 0, .int .i64 0] 29)
  have HT5a := hide ((unhide HT5).below hal (Nat.le_refl _))
  have HB5a := hide ((unhide HB5).trans (hal.mono (unhide HB5).size))
  have HB35a := hide ((unhide HB35).trans (hal.mono (unhide HB35).size))
  have p5 := Blk.new w5 #[.int .i64 0, .int .i64 0] 29
  clear hal
  go_wp2_with fail
  refine (spot_out B s hs n (.inr (by omega)) _ (unhide HT5a)).mono ?_
  rintro e w6 ⟨rfl, hb⟩
  have HT6 := hide ((unhide HT5a).below hb (Nat.le_refl _))
  have HB6 := hide ((unhide HB5a).trans (hb.mono (unhide HB5a).size))
  have HB36 := hide ((unhide HB35a).trans (hb.mono (unhide HB35a).size))
  have p6 := p5.below hb p5.lt
  clear hb p5
  have hal := (Below.refl w6.heap.size w6).alloc (Nat.le_refl _) (.cells #[.int .i32 0, .int .i64 0, .bool false] 47)
  have HT6a := hide ((unhide HT6).below hal (Nat.le_refl _))
  have HB6a := hide ((unhide HB6).trans (hal.mono (unhide HB6).size))
  have HB36a := hide ((unhide HB36).trans (hal.mono (unhide HB36).size))
  have p6a := p6.alloc (.cells #[.int .i32 0, .int .i64 0, .bool false] 47)
  have x6 := Blk.new w6 #[.int .i32 0, .int .i64 0, .bool false] 47
  clear hal p6
  have c0 := p6a.cell 0
  have c1 := p6a.cell 1
  have d0 := x6.cell 0
  have d1 := x6.cell 1
  have d2 := x6.cell 2
  go_wp2
  generalize hW7 : w6.alloc (.cells #[.int .i32 0, .int .i64 0, .bool false] 47) = W7 at *
  clear hW7
  clear c0 c1 d0 d1 d2
  go_quiet (fail)
  have HT8 := hide (show TextAt (W7.drewN nq) B s from unhide HT6a)
  have HB8 := hide (below_drewN (unhide HB6a) nq)
  generalize W7.drewN nq = W8 at *
  go_wp2_with fail
  refine (of_in B s hs b m2 hb hk _ (unhide HT8)).mono ?_
  rintro e w9 ⟨rfl, hb⟩
  have HB9 := hide ((unhide HB8).trans (hb.mono (unhide HB8).size))
  clear hb
  have hal := (Below.refl w9.heap.size w9).alloc (Nat.le_refl _) (.cells #[.int .i64 (pl s m2), .int .i64 m2] 29)
  have HB9a := hide ((unhide HB9).trans (hal.mono (unhide HB9).size))
  have o9 := Blk.new w9 #[.int .i64 (pl s m2), .int .i64 m2] 29
  clear hal
  go_wp2_with fail
  refine (refOf_in s hs2 b m2 hb hk _).mono ?_
  rintro e w10 ⟨rfl, hb⟩
  have HB10 := hide ((unhide HB9a).trans (hb.mono (unhide HB9a).size))
  have o10 := o9.below hb o9.lt
  have e0 := o10.cell 0
  have e1 := o10.cell 1
  clear hb o9
  go_wp2
  have ke0 := cell_regrown (show w10.cell? _ = some _ from e0)
  have ke1 := cell_regrown (show w10.cell? _ = some _ from e1)
  clear e0 e1
  refine wp_region_quiet_below (by kernel_rfl) (by kernel_rfl) ?_
  repeat (quiet_step (exact Calls.regrown_of (refByte_any s hs2 m2 hm2 _)))
  refine wpQuiet_nil ?_
  intro _ hw'
  obtain ⟨⟨dq2, osq2⟩, hw''⟩ := hw'
  subst hw''
  go_wp2
  go_ret
  exact ⟨rfl, (unhide HB10).trans ((below_regrown w10 dq2 osq2).mono (unhide HB10).size)⟩

set_option maxRecDepth 100000 in
set_option maxHeartbeats 8000000 in
theorem lplaces_big_out (s : ByteArray) (hf : s.size ≤ 400) (n : Int) (hn : ((starts s).length : Int) < n) (b : Int) (hb : b < 0 ∨ (s.size : Int) < b) (w : World) : Calls Try.prog 5 #[.string s, .int .i64 n, .int .i64 b] w fun e w' => e = .returned (.bool true) ∧ Below w.heap.size w w' := by
  have hs : s.size ≤ 65536 := by omega
  have hs2 : s.size ≤ 1048576 := by omega
  have hd : decide (s.size ≤ 400) = true := decide_eq_true hf
  have hnl := starts_length s
  have hss : (s.toList != s.toList) = false := by simp
  have hll : (((starts s).length : Int) != ((starts s).length : Int)) = false := by simp
  have n0 : (0 : Int) ≤ n := by omega
  have n1 : ¬ n ≤ ((starts s).length : Int) := by omega
  have n2 : ¬ n < ((starts s).length : Int) := by omega
  clear hf
  go_enter Try.func5, Try.ntmps5
  go_wp2_with fail
  refine (begun_any s hs _).mono ?_
  rintro e w1 ⟨B, rfl, hT, hb⟩
  have HT1 := hide hT
  have HB1 := hide hb
  clear hb hT
  go_wp2_with fail
  refine (few_any s (by unfold maxLen; omega) _).mono ?_
  rintro e w2 ⟨rfl, rfl⟩
  rw [hd]
  clear hd
  go_wp2_with fail
  refine (refSpots_any s (by omega) _).mono ?_
  rintro e w3 ⟨v, rfl, hown, hb⟩
  obtain ⟨la, lcap, rfl, hrow⟩ := rows_form hown
  have HT3 := hide ((unhide HT1).below hb (Nat.le_refl _))
  have HB3 := hide ((unhide HB1).trans (hb.mono (unhide HB1).size))
  have HROW := hide hrow
  clear hb hown hrow
  go_wp2_with fail
  refine (string_text B s _ (unhide HT3)).mono ?_
  rintro e w4 ⟨rfl, rfl⟩
  go_wp2_with fail
  refine (count_text B s hs _ (unhide HT3)).mono ?_
  rintro e w4 ⟨rfl, rfl⟩
  go_wp2_with fail
  refine (place_out B s hs n (.inr hn) _ (unhide HT3)).mono ?_
  rintro e w5 ⟨rfl, hb⟩
  have HT5 := hide ((unhide HT3).below hb (Nat.le_refl _))
  have HB5 := hide ((unhide HB3).trans (hb.mono (unhide HB3).size))
  have HB35 := hide hb
  clear hb
  have hal := (Below.refl w5.heap.size w5).alloc (Nat.le_refl _) (.cells #[.int .i64 0, .int .i64 0] 29)
  have HT5a := hide ((unhide HT5).below hal (Nat.le_refl _))
  have HB5a := hide ((unhide HB5).trans (hal.mono (unhide HB5).size))
  have HB35a := hide ((unhide HB35).trans (hal.mono (unhide HB35).size))
  have p5 := Blk.new w5 #[.int .i64 0, .int .i64 0] 29
  clear hal
  go_wp2_with fail
  refine (spot_out B s hs n (.inr (by omega)) _ (unhide HT5a)).mono ?_
  rintro e w6 ⟨rfl, hb⟩
  have HT6 := hide ((unhide HT5a).below hb (Nat.le_refl _))
  have HB6 := hide ((unhide HB5a).trans (hb.mono (unhide HB5a).size))
  have HB36 := hide ((unhide HB35a).trans (hb.mono (unhide HB35a).size))
  have p6 := p5.below hb p5.lt
  clear hb p5
  have hal := (Below.refl w6.heap.size w6).alloc (Nat.le_refl _) (.cells #[.int .i32 0, .int .i64 0, .bool false] 47)
  have HT6a := hide ((unhide HT6).below hal (Nat.le_refl _))
  have HB6a := hide ((unhide HB6).trans (hal.mono (unhide HB6).size))
  have HB36a := hide ((unhide HB36).trans (hal.mono (unhide HB36).size))
  have p6a := p6.alloc (.cells #[.int .i32 0, .int .i64 0, .bool false] 47)
  have x6 := Blk.new w6 #[.int .i32 0, .int .i64 0, .bool false] 47
  clear hal p6
  have c0 := p6a.cell 0
  have c1 := p6a.cell 1
  have d0 := x6.cell 0
  have d1 := x6.cell 1
  have d2 := x6.cell 2
  go_wp2
  generalize hW7 : w6.alloc (.cells #[.int .i32 0, .int .i64 0, .bool false] 47) = W7 at *
  clear hW7
  clear c0 c1 d0 d1 d2
  go_quiet (fail)
  have HT8 := hide (show TextAt (W7.drewN nq) B s from unhide HT6a)
  have HB8 := hide (below_drewN (unhide HB6a) nq)
  generalize W7.drewN nq = W8 at *
  go_wp2_with fail
  refine (of_out B s hs b hb _ (unhide HT8)).mono ?_
  rintro e w9 ⟨rfl, hb⟩
  have HB9 := hide ((unhide HB8).trans (hb.mono (unhide HB8).size))
  clear hb
  have hal := (Below.refl w9.heap.size w9).alloc (Nat.le_refl _) (.cells #[.int .i64 0, .int .i64 0] 29)
  have HB9a := hide ((unhide HB9).trans (hal.mono (unhide HB9).size))
  have o9 := Blk.new w9 #[.int .i64 0, .int .i64 0] 29
  clear hal
  go_wp2_with fail
  refine (refOf_out s hs2 b hb _).mono ?_
  rintro e w10 ⟨rfl, hb⟩
  have HB10 := hide ((unhide HB9a).trans (hb.mono (unhide HB9a).size))
  have o10 := o9.below hb o9.lt
  have e0 := o10.cell 0
  have e1 := o10.cell 1
  clear hb o9
  go_wp2
  go_ret
  exact ⟨rfl, unhide HB10⟩

set_option maxRecDepth 100000 in
set_option maxHeartbeats 8000000 in
theorem lplaces_end_in (s : ByteArray) (hf : s.size ≤ 400) (m : Nat) (hm : m = (starts s).length) (b m2 : Nat) (hb : b ≤ s.size) (hk : Holds s b m2) (w : World) : Calls Try.prog 5 #[.string s, .int .i64 m, .int .i64 b] w fun e w' => e = .returned (.bool true) ∧ Below w.heap.size w w' := by
  have hs : s.size ≤ 65536 := by omega
  have hs2 : s.size ≤ 1048576 := by omega
  have hd : decide (s.size ≤ 400) = true := decide_eq_true hf
  have hnl := starts_length s
  have hss : (s.toList != s.toList) = false := by simp
  have hll : (((starts s).length : Int) != ((starts s).length : Int)) = false := by simp
  have n0 : (0 : Int) ≤ (m : Int) := by omega
  have n1 : (m : Int) ≤ ((starts s).length : Int) := by omega
  have n2 : ¬ (m : Int) < ((starts s).length : Int) := by omega
  have hmm : ((m : Int) != (m : Int)) = false := by simp
  have hpp : (((pl s m : Nat) : Int) != ((pl s m : Nat) : Int)) = false := by simp
  have hmle : m ≤ (starts s).length := by omega
  clear hm
  have hm2 : m2 ≤ (starts s).length := hk.1
  have q0 : ¬ (m2 : Int) < 0 := by omega
  clear hf
  go_enter Try.func5, Try.ntmps5
  go_wp2_with fail
  refine (begun_any s hs _).mono ?_
  rintro e w1 ⟨B, rfl, hT, hb⟩
  have HT1 := hide hT
  have HB1 := hide hb
  clear hb hT
  go_wp2_with fail
  refine (few_any s (by unfold maxLen; omega) _).mono ?_
  rintro e w2 ⟨rfl, rfl⟩
  rw [hd]
  clear hd
  go_wp2_with fail
  refine (refSpots_any s (by omega) _).mono ?_
  rintro e w3 ⟨v, rfl, hown, hb⟩
  obtain ⟨la, lcap, rfl, hrow⟩ := rows_form hown
  have HT3 := hide ((unhide HT1).below hb (Nat.le_refl _))
  have HB3 := hide ((unhide HB1).trans (hb.mono (unhide HB1).size))
  have HROW := hide hrow
  clear hb hown hrow
  go_wp2_with fail
  refine (string_text B s _ (unhide HT3)).mono ?_
  rintro e w4 ⟨rfl, rfl⟩
  go_wp2_with fail
  refine (count_text B s hs _ (unhide HT3)).mono ?_
  rintro e w4 ⟨rfl, rfl⟩
  go_wp2_with fail
  refine (place_in B s hs m hmle _ (unhide HT3)).mono ?_
  rintro e w5 ⟨rfl, hb⟩
  have HT5 := hide ((unhide HT3).below hb (Nat.le_refl _))
  have HB5 := hide ((unhide HB3).trans (hb.mono (unhide HB3).size))
  have HB35 := hide hb
  clear hb
  have hal := (Below.refl w5.heap.size w5).alloc (Nat.le_refl _) (.cells #[.int .i64 (pl s m), .int .i64 m] 29)
  have HT5a := hide ((unhide HT5).below hal (Nat.le_refl _))
  have HB5a := hide ((unhide HB5).trans (hal.mono (unhide HB5).size))
  have HB35a := hide ((unhide HB35).trans (hal.mono (unhide HB35).size))
  have p5 := Blk.new w5 #[.int .i64 (pl s m), .int .i64 m] 29
  clear hal
  go_wp2_with fail
  refine (spot_out B s hs m (.inr (by omega)) _ (unhide HT5a)).mono ?_
  rintro e w6 ⟨rfl, hb⟩
  have HT6 := hide ((unhide HT5a).below hb (Nat.le_refl _))
  have HB6 := hide ((unhide HB5a).trans (hb.mono (unhide HB5a).size))
  have HB36 := hide ((unhide HB35a).trans (hb.mono (unhide HB35a).size))
  have p6 := p5.below hb p5.lt
  clear hb p5
  have hal := (Below.refl w6.heap.size w6).alloc (Nat.le_refl _) (.cells #[.int .i32 0, .int .i64 0, .bool false] 47)
  have HT6a := hide ((unhide HT6).below hal (Nat.le_refl _))
  have HB6a := hide ((unhide HB6).trans (hal.mono (unhide HB6).size))
  have HB36a := hide ((unhide HB36).trans (hal.mono (unhide HB36).size))
  have p6a := p6.alloc (.cells #[.int .i32 0, .int .i64 0, .bool false] 47)
  have x6 := Blk.new w6 #[.int .i32 0, .int .i64 0, .bool false] 47
  clear hal p6
  have c0 := p6a.cell 0
  have c1 := p6a.cell 1
  have d0 := x6.cell 0
  have d1 := x6.cell 1
  have d2 := x6.cell 2
  go_wp2
  generalize hW7 : w6.alloc (.cells #[.int .i32 0, .int .i64 0, .bool false] 47) = W7 at *
  clear hW7
  have kc0 := cell_regrown (show W7.cell? _ = some _ from c0)
  have kc1 := cell_regrown (show W7.cell? _ = some _ from c1)
  have kd0 := cell_regrown (show W7.cell? _ = some _ from d0)
  have kd1 := cell_regrown (show W7.cell? _ = some _ from d1)
  have kd2 := cell_regrown (show W7.cell? _ = some _ from d2)
  clear c0 c1 d0 d1 d2
  refine wp_region_quiet_below (by kernel_rfl) (by kernel_rfl) ?_
  repeat (go_big_quiet_step (exact Calls.regrown_of (refByte_any s hs2 m hmle _)))
  refine wpQuiet_nil ?_
  intro _ hw'
  obtain ⟨⟨dq, osq⟩, hw''⟩ := hw'
  subst hw''
  have hg8 := below_regrown W7 dq osq
  have HT8 := hide ((unhide HT6a).below hg8 (Nat.le_refl _))
  have HB8 := hide ((unhide HB6a).trans (hg8.mono (unhide HB6a).size))
  clear hg8 kc0 kc1 kd0 kd1 kd2
  generalize Go.Sort.grow (redrawn W7 dq) osq = W8 at *
  go_wp2_with fail
  refine (of_in B s hs b m2 hb hk _ (unhide HT8)).mono ?_
  rintro e w9 ⟨rfl, hb⟩
  have HB9 := hide ((unhide HB8).trans (hb.mono (unhide HB8).size))
  clear hb
  have hal := (Below.refl w9.heap.size w9).alloc (Nat.le_refl _) (.cells #[.int .i64 (pl s m2), .int .i64 m2] 29)
  have HB9a := hide ((unhide HB9).trans (hal.mono (unhide HB9).size))
  have o9 := Blk.new w9 #[.int .i64 (pl s m2), .int .i64 m2] 29
  clear hal
  go_wp2_with fail
  refine (refOf_in s hs2 b m2 hb hk _).mono ?_
  rintro e w10 ⟨rfl, hb⟩
  have HB10 := hide ((unhide HB9a).trans (hb.mono (unhide HB9a).size))
  have o10 := o9.below hb o9.lt
  have e0 := o10.cell 0
  have e1 := o10.cell 1
  clear hb o9
  go_wp2
  have ke0 := cell_regrown (show w10.cell? _ = some _ from e0)
  have ke1 := cell_regrown (show w10.cell? _ = some _ from e1)
  clear e0 e1
  refine wp_region_quiet_below (by kernel_rfl) (by kernel_rfl) ?_
  repeat (quiet_step (exact Calls.regrown_of (refByte_any s hs2 m2 hm2 _)))
  refine wpQuiet_nil ?_
  intro _ hw'
  obtain ⟨⟨dq2, osq2⟩, hw''⟩ := hw'
  subst hw''
  go_wp2
  go_ret
  exact ⟨rfl, (unhide HB10).trans ((below_regrown w10 dq2 osq2).mono (unhide HB10).size)⟩

set_option maxRecDepth 100000 in
set_option maxHeartbeats 8000000 in
theorem lplaces_end_out (s : ByteArray) (hf : s.size ≤ 400) (m : Nat) (hm : m = (starts s).length) (b : Int) (hb : b < 0 ∨ (s.size : Int) < b) (w : World) : Calls Try.prog 5 #[.string s, .int .i64 m, .int .i64 b] w fun e w' => e = .returned (.bool true) ∧ Below w.heap.size w w' := by
  have hs : s.size ≤ 65536 := by omega
  have hs2 : s.size ≤ 1048576 := by omega
  have hd : decide (s.size ≤ 400) = true := decide_eq_true hf
  have hnl := starts_length s
  have hss : (s.toList != s.toList) = false := by simp
  have hll : (((starts s).length : Int) != ((starts s).length : Int)) = false := by simp
  have n0 : (0 : Int) ≤ (m : Int) := by omega
  have n1 : (m : Int) ≤ ((starts s).length : Int) := by omega
  have n2 : ¬ (m : Int) < ((starts s).length : Int) := by omega
  have hmm : ((m : Int) != (m : Int)) = false := by simp
  have hpp : (((pl s m : Nat) : Int) != ((pl s m : Nat) : Int)) = false := by simp
  have hmle : m ≤ (starts s).length := by omega
  clear hm
  clear hf
  go_enter Try.func5, Try.ntmps5
  go_wp2_with fail
  refine (begun_any s hs _).mono ?_
  rintro e w1 ⟨B, rfl, hT, hb⟩
  have HT1 := hide hT
  have HB1 := hide hb
  clear hb hT
  go_wp2_with fail
  refine (few_any s (by unfold maxLen; omega) _).mono ?_
  rintro e w2 ⟨rfl, rfl⟩
  rw [hd]
  clear hd
  go_wp2_with fail
  refine (refSpots_any s (by omega) _).mono ?_
  rintro e w3 ⟨v, rfl, hown, hb⟩
  obtain ⟨la, lcap, rfl, hrow⟩ := rows_form hown
  have HT3 := hide ((unhide HT1).below hb (Nat.le_refl _))
  have HB3 := hide ((unhide HB1).trans (hb.mono (unhide HB1).size))
  have HROW := hide hrow
  clear hb hown hrow
  go_wp2_with fail
  refine (string_text B s _ (unhide HT3)).mono ?_
  rintro e w4 ⟨rfl, rfl⟩
  go_wp2_with fail
  refine (count_text B s hs _ (unhide HT3)).mono ?_
  rintro e w4 ⟨rfl, rfl⟩
  go_wp2_with fail
  refine (place_in B s hs m hmle _ (unhide HT3)).mono ?_
  rintro e w5 ⟨rfl, hb⟩
  have HT5 := hide ((unhide HT3).below hb (Nat.le_refl _))
  have HB5 := hide ((unhide HB3).trans (hb.mono (unhide HB3).size))
  have HB35 := hide hb
  clear hb
  have hal := (Below.refl w5.heap.size w5).alloc (Nat.le_refl _) (.cells #[.int .i64 (pl s m), .int .i64 m] 29)
  have HT5a := hide ((unhide HT5).below hal (Nat.le_refl _))
  have HB5a := hide ((unhide HB5).trans (hal.mono (unhide HB5).size))
  have HB35a := hide ((unhide HB35).trans (hal.mono (unhide HB35).size))
  have p5 := Blk.new w5 #[.int .i64 (pl s m), .int .i64 m] 29
  clear hal
  go_wp2_with fail
  refine (spot_out B s hs m (.inr (by omega)) _ (unhide HT5a)).mono ?_
  rintro e w6 ⟨rfl, hb⟩
  have HT6 := hide ((unhide HT5a).below hb (Nat.le_refl _))
  have HB6 := hide ((unhide HB5a).trans (hb.mono (unhide HB5a).size))
  have HB36 := hide ((unhide HB35a).trans (hb.mono (unhide HB35a).size))
  have p6 := p5.below hb p5.lt
  clear hb p5
  have hal := (Below.refl w6.heap.size w6).alloc (Nat.le_refl _) (.cells #[.int .i32 0, .int .i64 0, .bool false] 47)
  have HT6a := hide ((unhide HT6).below hal (Nat.le_refl _))
  have HB6a := hide ((unhide HB6).trans (hal.mono (unhide HB6).size))
  have HB36a := hide ((unhide HB36).trans (hal.mono (unhide HB36).size))
  have p6a := p6.alloc (.cells #[.int .i32 0, .int .i64 0, .bool false] 47)
  have x6 := Blk.new w6 #[.int .i32 0, .int .i64 0, .bool false] 47
  clear hal p6
  have c0 := p6a.cell 0
  have c1 := p6a.cell 1
  have d0 := x6.cell 0
  have d1 := x6.cell 1
  have d2 := x6.cell 2
  go_wp2
  generalize hW7 : w6.alloc (.cells #[.int .i32 0, .int .i64 0, .bool false] 47) = W7 at *
  clear hW7
  have kc0 := cell_regrown (show W7.cell? _ = some _ from c0)
  have kc1 := cell_regrown (show W7.cell? _ = some _ from c1)
  have kd0 := cell_regrown (show W7.cell? _ = some _ from d0)
  have kd1 := cell_regrown (show W7.cell? _ = some _ from d1)
  have kd2 := cell_regrown (show W7.cell? _ = some _ from d2)
  clear c0 c1 d0 d1 d2
  refine wp_region_quiet_below (by kernel_rfl) (by kernel_rfl) ?_
  repeat (go_big_quiet_step (exact Calls.regrown_of (refByte_any s hs2 m hmle _)))
  refine wpQuiet_nil ?_
  intro _ hw'
  obtain ⟨⟨dq, osq⟩, hw''⟩ := hw'
  subst hw''
  have hg8 := below_regrown W7 dq osq
  have HT8 := hide ((unhide HT6a).below hg8 (Nat.le_refl _))
  have HB8 := hide ((unhide HB6a).trans (hg8.mono (unhide HB6a).size))
  clear hg8 kc0 kc1 kd0 kd1 kd2
  generalize Go.Sort.grow (redrawn W7 dq) osq = W8 at *
  go_wp2_with fail
  refine (of_out B s hs b hb _ (unhide HT8)).mono ?_
  rintro e w9 ⟨rfl, hb⟩
  have HB9 := hide ((unhide HB8).trans (hb.mono (unhide HB8).size))
  clear hb
  have hal := (Below.refl w9.heap.size w9).alloc (Nat.le_refl _) (.cells #[.int .i64 0, .int .i64 0] 29)
  have HB9a := hide ((unhide HB9).trans (hal.mono (unhide HB9).size))
  have o9 := Blk.new w9 #[.int .i64 0, .int .i64 0] 29
  clear hal
  go_wp2_with fail
  refine (refOf_out s hs2 b hb _).mono ?_
  rintro e w10 ⟨rfl, hb⟩
  have HB10 := hide ((unhide HB9a).trans (hb.mono (unhide HB9a).size))
  have o10 := o9.below hb o9.lt
  have e0 := o10.cell 0
  have e1 := o10.cell 1
  clear hb o9
  go_wp2
  go_ret
  exact ⟨rfl, unhide HB10⟩

set_option maxRecDepth 100000 in
set_option maxHeartbeats 8000000 in
theorem lplaces_mid_in (s : ByteArray) (hf : s.size ≤ 400) (m : Nat) (hm : m < (starts s).length) (b m2 : Nat) (hb : b ≤ s.size) (hk : Holds s b m2) (w : World) : Calls Try.prog 5 #[.string s, .int .i64 m, .int .i64 b] w fun e w' => e = .returned (.bool true) ∧ Below w.heap.size w w' := by
  have hs : s.size ≤ 65536 := by omega
  have hs2 : s.size ≤ 1048576 := by omega
  have hd : decide (s.size ≤ 400) = true := decide_eq_true hf
  have hnl := starts_length s
  have hss : (s.toList != s.toList) = false := by simp
  have hll : (((starts s).length : Int) != ((starts s).length : Int)) = false := by simp
  have n0 : (0 : Int) ≤ (m : Int) := by omega
  have n1 : (m : Int) ≤ ((starts s).length : Int) := by omega
  have n2 : (m : Int) < ((starts s).length : Int) := by omega
  have n3 : ((m : Nat) : Int).toNat = m := by omega
  have hmm : ((m : Int) != (m : Int)) = false := by simp
  have hpp : (((pl s m : Nat) : Int) != ((pl s m : Nat) : Int)) = false := by simp
  have hmle : m ≤ (starts s).length := by omega
  obtain ⟨bb, hbb⟩ : ∃ bb, bb = decide (rn s (pl s m) = 65533 ∧ wd s (pl s m) = 1) := ⟨_, rfl⟩
  have HBB := hide hbb
  clear hbb
  have hm2 : m2 ≤ (starts s).length := hk.1
  have q0 : ¬ (m2 : Int) < 0 := by omega
  clear hf
  go_enter Try.func5, Try.ntmps5
  go_wp2_with fail
  refine (begun_any s hs _).mono ?_
  rintro e w1 ⟨B, rfl, hT, hb⟩
  have HT1 := hide hT
  have HB1 := hide hb
  clear hb hT
  go_wp2_with fail
  refine (few_any s (by unfold maxLen; omega) _).mono ?_
  rintro e w2 ⟨rfl, rfl⟩
  rw [hd]
  clear hd
  go_wp2_with fail
  refine (refSpots_any s (by omega) _).mono ?_
  rintro e w3 ⟨v, rfl, hown, hb⟩
  obtain ⟨la, lcap, rfl, hrow⟩ := rows_form hown
  have HT3 := hide ((unhide HT1).below hb (Nat.le_refl _))
  have HB3 := hide ((unhide HB1).trans (hb.mono (unhide HB1).size))
  have HROW := hide hrow
  clear hb hown hrow
  go_wp2_with fail
  refine (string_text B s _ (unhide HT3)).mono ?_
  rintro e w4 ⟨rfl, rfl⟩
  go_wp2_with fail
  refine (count_text B s hs _ (unhide HT3)).mono ?_
  rintro e w4 ⟨rfl, rfl⟩
  go_wp2_with fail
  refine (place_in B s hs m hmle _ (unhide HT3)).mono ?_
  rintro e w5 ⟨rfl, hb⟩
  have HT5 := hide ((unhide HT3).below hb (Nat.le_refl _))
  have HB5 := hide ((unhide HB3).trans (hb.mono (unhide HB3).size))
  have HB35 := hide hb
  clear hb
  have hal := (Below.refl w5.heap.size w5).alloc (Nat.le_refl _) (.cells #[.int .i64 (pl s m), .int .i64 m] 29)
  have HT5a := hide ((unhide HT5).below hal (Nat.le_refl _))
  have HB5a := hide ((unhide HB5).trans (hal.mono (unhide HB5).size))
  have HB35a := hide ((unhide HB35).trans (hal.mono (unhide HB35).size))
  have p5 := Blk.new w5 #[.int .i64 (pl s m), .int .i64 m] 29
  clear hal
  go_wp2_with fail
  refine (spot_in B s hs m hm _ (unhide HT5a)).mono ?_
  rintro e w6 ⟨rfl, hb⟩
  unfold spotY
  rw [← unhide HBB]
  have HT6 := hide ((unhide HT5a).below hb (Nat.le_refl _))
  have HB6 := hide ((unhide HB5a).trans (hb.mono (unhide HB5a).size))
  have HB36 := hide ((unhide HB35a).trans (hb.mono (unhide HB35a).size))
  have p6 := p5.below hb p5.lt
  clear hb p5
  have hal := (Below.refl w6.heap.size w6).alloc (Nat.le_refl _) (.cells #[.int .i32 (rn s (pl s m)), .int .i64 (wd s (pl s m)), .bool bb] 47)
  have HT6a := hide ((unhide HT6).below hal (Nat.le_refl _))
  have HB6a := hide ((unhide HB6).trans (hal.mono (unhide HB6).size))
  have HB36a := hide ((unhide HB36).trans (hal.mono (unhide HB36).size))
  have p6a := p6.alloc (.cells #[.int .i32 (rn s (pl s m)), .int .i64 (wd s (pl s m)), .bool bb] 47)
  have x6 := Blk.new w6 #[.int .i32 (rn s (pl s m)), .int .i64 (wd s (pl s m)), .bool bb] 47
  clear hal p6
  have c0 := p6a.cell 0
  have c1 := p6a.cell 1
  have d0 := x6.cell 0
  have d1 := x6.cell 1
  have d2 := x6.cell 2
  go_wp2
  generalize hW7 : w6.alloc (.cells #[.int .i32 (rn s (pl s m)), .int .i64 (wd s (pl s m)), .bool bb] 47) = W7 at *
  clear hW7
  obtain ⟨lg, rfl, hlg, hlc⟩ := unhide HROW m hm
  have l0 : W7.cell? ⟨lg, m * 4, none⟩ = some (.int .i32 (rn s (pl s m))) := ((unhide HB36a).cell (p := ⟨lg, m * 4, none⟩) hlg).trans (hlc 0 (by omega))
  have l2 : W7.cell? ⟨lg, m * 4 + 2, none⟩ = some (.int .i64 (wd s (pl s m))) := ((unhide HB36a).cell (p := ⟨lg, m * 4 + 2, none⟩) hlg).trans (hlc 2 (by omega))
  have l3 : W7.cell? ⟨lg, m * 4 + 3, none⟩ = some (.bool bb) := by rw [unhide HBB]; exact ((unhide HB36a).cell (p := ⟨lg, m * 4 + 3, none⟩) hlg).trans (hlc 3 (by omega))
  have kl0 := cell_regrown l0
  have kl2 := cell_regrown l2
  have kl3 := cell_regrown l3
  clear l0 l2 l3 hlc
  have kc0 := cell_regrown (show W7.cell? _ = some _ from c0)
  have kc1 := cell_regrown (show W7.cell? _ = some _ from c1)
  have kd0 := cell_regrown (show W7.cell? _ = some _ from d0)
  have kd1 := cell_regrown (show W7.cell? _ = some _ from d1)
  have kd2 := cell_regrown (show W7.cell? _ = some _ from d2)
  clear c0 c1 d0 d1 d2
  refine wp_region_quiet_below (by kernel_rfl) (by kernel_rfl) ?_
  repeat (quiet_step (exact Calls.regrown_of (refByte_any s hs2 m hmle _)))
  refine wpQuiet_nil ?_
  intro _ hw'
  obtain ⟨⟨dq, osq⟩, hw''⟩ := hw'
  subst hw''
  have hg8 := below_regrown W7 dq osq
  have HT8 := hide ((unhide HT6a).below hg8 (Nat.le_refl _))
  have HB8 := hide ((unhide HB6a).trans (hg8.mono (unhide HB6a).size))
  clear hg8 kc0 kc1 kd0 kd1 kd2 kl0 kl2 kl3
  generalize Go.Sort.grow (redrawn W7 dq) osq = W8 at *
  go_wp2_with fail
  refine (of_in B s hs b m2 hb hk _ (unhide HT8)).mono ?_
  rintro e w9 ⟨rfl, hb⟩
  have HB9 := hide ((unhide HB8).trans (hb.mono (unhide HB8).size))
  clear hb
  have hal := (Below.refl w9.heap.size w9).alloc (Nat.le_refl _) (.cells #[.int .i64 (pl s m2), .int .i64 m2] 29)
  have HB9a := hide ((unhide HB9).trans (hal.mono (unhide HB9).size))
  have o9 := Blk.new w9 #[.int .i64 (pl s m2), .int .i64 m2] 29
  clear hal
  go_wp2_with fail
  refine (refOf_in s hs2 b m2 hb hk _).mono ?_
  rintro e w10 ⟨rfl, hb⟩
  have HB10 := hide ((unhide HB9a).trans (hb.mono (unhide HB9a).size))
  have o10 := o9.below hb o9.lt
  have e0 := o10.cell 0
  have e1 := o10.cell 1
  clear hb o9
  go_wp2
  have ke0 := cell_regrown (show w10.cell? _ = some _ from e0)
  have ke1 := cell_regrown (show w10.cell? _ = some _ from e1)
  clear e0 e1
  refine wp_region_quiet_below (by kernel_rfl) (by kernel_rfl) ?_
  repeat (quiet_step (exact Calls.regrown_of (refByte_any s hs2 m2 hm2 _)))
  refine wpQuiet_nil ?_
  intro _ hw'
  obtain ⟨⟨dq2, osq2⟩, hw''⟩ := hw'
  subst hw''
  go_wp2
  go_ret
  exact ⟨rfl, (unhide HB10).trans ((below_regrown w10 dq2 osq2).mono (unhide HB10).size)⟩

set_option maxRecDepth 100000 in
set_option maxHeartbeats 8000000 in
theorem lplaces_mid_out (s : ByteArray) (hf : s.size ≤ 400) (m : Nat) (hm : m < (starts s).length) (b : Int) (hb : b < 0 ∨ (s.size : Int) < b) (w : World) : Calls Try.prog 5 #[.string s, .int .i64 m, .int .i64 b] w fun e w' => e = .returned (.bool true) ∧ Below w.heap.size w w' := by
  have hs : s.size ≤ 65536 := by omega
  have hs2 : s.size ≤ 1048576 := by omega
  have hd : decide (s.size ≤ 400) = true := decide_eq_true hf
  have hnl := starts_length s
  have hss : (s.toList != s.toList) = false := by simp
  have hll : (((starts s).length : Int) != ((starts s).length : Int)) = false := by simp
  have n0 : (0 : Int) ≤ (m : Int) := by omega
  have n1 : (m : Int) ≤ ((starts s).length : Int) := by omega
  have n2 : (m : Int) < ((starts s).length : Int) := by omega
  have n3 : ((m : Nat) : Int).toNat = m := by omega
  have hmm : ((m : Int) != (m : Int)) = false := by simp
  have hpp : (((pl s m : Nat) : Int) != ((pl s m : Nat) : Int)) = false := by simp
  have hmle : m ≤ (starts s).length := by omega
  obtain ⟨bb, hbb⟩ : ∃ bb, bb = decide (rn s (pl s m) = 65533 ∧ wd s (pl s m) = 1) := ⟨_, rfl⟩
  have HBB := hide hbb
  clear hbb
  clear hf
  go_enter Try.func5, Try.ntmps5
  go_wp2_with fail
  refine (begun_any s hs _).mono ?_
  rintro e w1 ⟨B, rfl, hT, hb⟩
  have HT1 := hide hT
  have HB1 := hide hb
  clear hb hT
  go_wp2_with fail
  refine (few_any s (by unfold maxLen; omega) _).mono ?_
  rintro e w2 ⟨rfl, rfl⟩
  rw [hd]
  clear hd
  go_wp2_with fail
  refine (refSpots_any s (by omega) _).mono ?_
  rintro e w3 ⟨v, rfl, hown, hb⟩
  obtain ⟨la, lcap, rfl, hrow⟩ := rows_form hown
  have HT3 := hide ((unhide HT1).below hb (Nat.le_refl _))
  have HB3 := hide ((unhide HB1).trans (hb.mono (unhide HB1).size))
  have HROW := hide hrow
  clear hb hown hrow
  go_wp2_with fail
  refine (string_text B s _ (unhide HT3)).mono ?_
  rintro e w4 ⟨rfl, rfl⟩
  go_wp2_with fail
  refine (count_text B s hs _ (unhide HT3)).mono ?_
  rintro e w4 ⟨rfl, rfl⟩
  go_wp2_with fail
  refine (place_in B s hs m hmle _ (unhide HT3)).mono ?_
  rintro e w5 ⟨rfl, hb⟩
  have HT5 := hide ((unhide HT3).below hb (Nat.le_refl _))
  have HB5 := hide ((unhide HB3).trans (hb.mono (unhide HB3).size))
  have HB35 := hide hb
  clear hb
  have hal := (Below.refl w5.heap.size w5).alloc (Nat.le_refl _) (.cells #[.int .i64 (pl s m), .int .i64 m] 29)
  have HT5a := hide ((unhide HT5).below hal (Nat.le_refl _))
  have HB5a := hide ((unhide HB5).trans (hal.mono (unhide HB5).size))
  have HB35a := hide ((unhide HB35).trans (hal.mono (unhide HB35).size))
  have p5 := Blk.new w5 #[.int .i64 (pl s m), .int .i64 m] 29
  clear hal
  go_wp2_with fail
  refine (spot_in B s hs m hm _ (unhide HT5a)).mono ?_
  rintro e w6 ⟨rfl, hb⟩
  unfold spotY
  rw [← unhide HBB]
  have HT6 := hide ((unhide HT5a).below hb (Nat.le_refl _))
  have HB6 := hide ((unhide HB5a).trans (hb.mono (unhide HB5a).size))
  have HB36 := hide ((unhide HB35a).trans (hb.mono (unhide HB35a).size))
  have p6 := p5.below hb p5.lt
  clear hb p5
  have hal := (Below.refl w6.heap.size w6).alloc (Nat.le_refl _) (.cells #[.int .i32 (rn s (pl s m)), .int .i64 (wd s (pl s m)), .bool bb] 47)
  have HT6a := hide ((unhide HT6).below hal (Nat.le_refl _))
  have HB6a := hide ((unhide HB6).trans (hal.mono (unhide HB6).size))
  have HB36a := hide ((unhide HB36).trans (hal.mono (unhide HB36).size))
  have p6a := p6.alloc (.cells #[.int .i32 (rn s (pl s m)), .int .i64 (wd s (pl s m)), .bool bb] 47)
  have x6 := Blk.new w6 #[.int .i32 (rn s (pl s m)), .int .i64 (wd s (pl s m)), .bool bb] 47
  clear hal p6
  have c0 := p6a.cell 0
  have c1 := p6a.cell 1
  have d0 := x6.cell 0
  have d1 := x6.cell 1
  have d2 := x6.cell 2
  go_wp2
  generalize hW7 : w6.alloc (.cells #[.int .i32 (rn s (pl s m)), .int .i64 (wd s (pl s m)), .bool bb] 47) = W7 at *
  clear hW7
  obtain ⟨lg, rfl, hlg, hlc⟩ := unhide HROW m hm
  have l0 : W7.cell? ⟨lg, m * 4, none⟩ = some (.int .i32 (rn s (pl s m))) := ((unhide HB36a).cell (p := ⟨lg, m * 4, none⟩) hlg).trans (hlc 0 (by omega))
  have l2 : W7.cell? ⟨lg, m * 4 + 2, none⟩ = some (.int .i64 (wd s (pl s m))) := ((unhide HB36a).cell (p := ⟨lg, m * 4 + 2, none⟩) hlg).trans (hlc 2 (by omega))
  have l3 : W7.cell? ⟨lg, m * 4 + 3, none⟩ = some (.bool bb) := by rw [unhide HBB]; exact ((unhide HB36a).cell (p := ⟨lg, m * 4 + 3, none⟩) hlg).trans (hlc 3 (by omega))
  have kl0 := cell_regrown l0
  have kl2 := cell_regrown l2
  have kl3 := cell_regrown l3
  clear l0 l2 l3 hlc
  have kc0 := cell_regrown (show W7.cell? _ = some _ from c0)
  have kc1 := cell_regrown (show W7.cell? _ = some _ from c1)
  have kd0 := cell_regrown (show W7.cell? _ = some _ from d0)
  have kd1 := cell_regrown (show W7.cell? _ = some _ from d1)
  have kd2 := cell_regrown (show W7.cell? _ = some _ from d2)
  clear c0 c1 d0 d1 d2
  refine wp_region_quiet_below (by kernel_rfl) (by kernel_rfl) ?_
  repeat (quiet_step (exact Calls.regrown_of (refByte_any s hs2 m hmle _)))
  refine wpQuiet_nil ?_
  intro _ hw'
  obtain ⟨⟨dq, osq⟩, hw''⟩ := hw'
  subst hw''
  have hg8 := below_regrown W7 dq osq
  have HT8 := hide ((unhide HT6a).below hg8 (Nat.le_refl _))
  have HB8 := hide ((unhide HB6a).trans (hg8.mono (unhide HB6a).size))
  clear hg8 kc0 kc1 kd0 kd1 kd2 kl0 kl2 kl3
  generalize Go.Sort.grow (redrawn W7 dq) osq = W8 at *
  go_wp2_with fail
  refine (of_out B s hs b hb _ (unhide HT8)).mono ?_
  rintro e w9 ⟨rfl, hb⟩
  have HB9 := hide ((unhide HB8).trans (hb.mono (unhide HB8).size))
  clear hb
  have hal := (Below.refl w9.heap.size w9).alloc (Nat.le_refl _) (.cells #[.int .i64 0, .int .i64 0] 29)
  have HB9a := hide ((unhide HB9).trans (hal.mono (unhide HB9).size))
  have o9 := Blk.new w9 #[.int .i64 0, .int .i64 0] 29
  clear hal
  go_wp2_with fail
  refine (refOf_out s hs2 b hb _).mono ?_
  rintro e w10 ⟨rfl, hb⟩
  have HB10 := hide ((unhide HB9a).trans (hb.mono (unhide HB9a).size))
  have o10 := o9.below hb o9.lt
  have e0 := o10.cell 0
  have e1 := o10.cell 1
  clear hb o9
  go_wp2
  go_ret
  exact ⟨rfl, unhide HB10⟩

theorem lplaces_any (s : ByteArray) (hm : s.size ≤ maxLen) (n b : Int) (w : World) : Calls Try.prog 5 #[.string s, .int .i64 n, .int .i64 b] w fun e w' => e = .returned (.bool true) ∧ Below w.heap.size w w' := by
  by_cases h1 : s.size ≤ 65536
  · by_cases hf : s.size ≤ 400
    · by_cases hb : b < 0 ∨ (s.size : Int) < b
      · by_cases n0 : n < 0
        · exact lplaces_neg_out s hf n n0 b hb w
        · by_cases n1 : ((starts s).length : Int) < n
          · exact lplaces_big_out s hf n n1 b hb w
          · obtain ⟨m, rfl⟩ := Int.eq_ofNat_of_zero_le (show 0 ≤ n by omega)
            by_cases n2 : m = (starts s).length
            · exact lplaces_end_out s hf m n2 b hb w
            · exact lplaces_mid_out s hf m (by omega) b hb w
      · obtain ⟨b, rfl⟩ := Int.eq_ofNat_of_zero_le (show 0 ≤ b by omega)
        obtain ⟨k, hk⟩ := holds_exists s b (by omega)
        by_cases n0 : n < 0
        · exact lplaces_neg_in s hf n n0 b k (by omega) hk w
        · by_cases n1 : ((starts s).length : Int) < n
          · exact lplaces_big_in s hf n n1 b k (by omega) hk w
          · obtain ⟨m, rfl⟩ := Int.eq_ofNat_of_zero_le (show 0 ≤ n by omega)
            by_cases n2 : m = (starts s).length
            · exact lplaces_end_in s hf m n2 b k (by omega) hk w
            · exact lplaces_mid_in s hf m (by omega) b k (by omega) hk w
    · exact lplaces_many s hf h1 n b w
  · exact lplaces_long s (by omega) hm n b w
end Go.Proofs.Ytaafecaclkagiab
