/- SpotsRound, for every text and every number: of a place its byte is that place; what Where tells of it is found there; cut there, the two pieces join and are the text. -/
import Derived.Test.YtaafecaclkagiacSp3
import Derived.Test.YtaafecaclkagiacWhole
import Derived.Test.YtaafecaclkagiacWithin
namespace Go.Proofs.Ytaafecaclkagiac
open Go.RowKit Go.Shelf
set_option linter.unusedVariables false

theorem pl_bound (s : ByteArray) (n : Nat) (hn : n ≤ (starts s).length) : bdB s (pl s n) = true := by
  by_cases e : n = (starts s).length
  · rw [e, pl_end]; exact bd_end s
  · exact (mem_starts s _ (pl_lt s n (by omega))).1 (List.mem_of_getElem? (pl_start s n (by omega)))
theorem cut_whole (s : ByteArray) (p : Nat) (h : p ≤ s.size) : s.extract 0 p ++ s.extract p s.size = s := by
  rw [ext_join s 0 p s.size (by omega) h (Nat.le_refl _)]
  exact ByteArray.extract_zero_size
theorem starts_cut (s : ByteArray) (n : Nat) (hn : n ≤ (starts s).length) : (starts (s.extract 0 (pl s n))).length = n := by
  have hp := pl_le s n hn
  have hw := cut_whole s (pl s n) hp
  have hz : (s.extract 0 (pl s n)).size = pl s n := by rw [ByteArray.size_extract]; omega
  have hb := pl_bound s n hn
  have hb2 : bdB (s.extract 0 (pl s n) ++ s.extract (pl s n) s.size) (s.extract 0 (pl s n)).size = true := by rw [hw, hz]; exact hb
  have e := (starts_both _ _ hb2).1
  rw [hw, hz] at e
  rcases Nat.lt_trichotomy (starts (s.extract 0 (pl s n))).length n with h | h | h
  · exfalso
    have h1 := pl_start s (starts (s.extract 0 (pl s n))).length (by omega)
    rw [e, List.getElem?_append_right (Nat.le_refl _), Nat.sub_self, List.getElem?_map] at h1
    obtain ⟨x, _, hx⟩ := Option.map_eq_some_iff.1 h1
    have h2 := pl_strict s _ n h hn
    omega
  · exact h
  · exfalso
    have hlen := congrArg List.length e
    rw [List.length_append] at hlen
    have h1 := pl_start s n (by omega)
    rw [e, List.getElem?_append_left h] at h1
    have h2 := (startsFrom_ge _ _ _ _ (List.mem_of_getElem? h1)).2
    rw [hz] at h2
    omega

set_option maxRecDepth 100000 in
set_option maxHeartbeats 2000000 in
theorem lround_long (s : ByteArray) (hl : 65536 < s.size) (hm : s.size ≤ maxLen) (n : Int) (w : World) : Calls Try.prog 4 #[.string s, .int .i64 n] w fun e w' => e = .returned (.bool true) ∧ Below w.heap.size w w' := by
  go_enter Try.func4, Try.ntmps4
  go_wp2_with fail
  refine (begun_long s hl hm _).mono ?_
  rintro e w1 ⟨rfl, hb⟩
  have HB := hide hb
  clear hb
  go_wp2
  go_ret
  exact ⟨rfl, unhide HB⟩

theorem within_count (n : Int) (c : Nat) (hc : c ≤ 65536) (q : Nat) (hq : (q : Int) = n % ((c : Int) + 1)) (w : World) : Calls Try.prog 7 #[.int .i64 n, .int .i64 0, .int .i64 c] w fun e w' => e = .returned (.int .i64 q) ∧ w' = w := by
  have := within_any n 0 c (by omega) (by omega) (by omega) w
  rw [show (0 : Int) + n % ((c : Int) - 0 + 1) = (q : Int) by rw [hq, Int.zero_add, Int.sub_zero]] at this
  exact this

set_option maxRecDepth 100000 in
set_option maxHeartbeats 8000000 in
theorem lround_in (s : ByteArray) (hs : s.size ≤ 65536) (n0 : Int) (w : World) : Calls Try.prog 4 #[.string s, .int .i64 n0] w fun e w' => e = .returned (.bool true) ∧ Below w.heap.size w w' := by
  have hnl := starts_length s
  have hms : s.size ≤ maxLen := by unfold maxLen; omega
  obtain ⟨n, hn⟩ : ∃ n : Nat, (n : Int) = n0 % (((starts s).length : Int) + 1) := ⟨(n0 % (((starts s).length : Int) + 1)).toNat, by have := Int.emod_nonneg n0 (show (((starts s).length : Int) + 1) ≠ 0 by omega); omega⟩
  have hnc : n ≤ (starts s).length := by have := Int.emod_lt_of_pos n0 (show 0 < (((starts s).length : Int) + 1) by omega); omega
  obtain ⟨k, a, hka⟩ := line_exists s n
  have hkl : k < (lns s).length := (List.getElem?_eq_some_iff.1 hka.1).1
  obtain ⟨a2, b, hab⟩ := line_at s k hkl
  obtain rfl : a = a2 := by have h1 := hka.1; rw [hab.1] at h1; cases h1; rfl
  have hnb : n ≤ b := by
    rcases hab.2 with ⟨_, rfl⟩ | h2
    · exact hnc
    · have := hka.2.2 _ h2; omega
  have HN := hide hn
  have HKA := hide hka
  have HAB := hide hab
  have han := hka.2.1
  have hp := pl_le s n hnc
  have HJ := hide (show joinsV (s.extract 0 (pl s n)) (s.extract (pl s n) s.size) = true by rw [joins_cut s _ hp]; exact pl_bound s n hnc)
  have HBD := hide (pl_bound s n hnc)
  have HCW := hide (cut_whole s (pl s n) hp)
  have HSC := hide (starts_cut s n hnc)
  have HZ0 := hide (pl_zero s)
  have HPE := hide (pl_end s)
  have hz1 : (s.extract 0 (pl s n)).size ≤ maxLen := by rw [ByteArray.size_extract]; unfold maxLen; omega
  have hz2 : (s.extract (pl s n) s.size).size ≤ maxLen := by rw [ByteArray.size_extract]; unfold maxLen; omega
  have HZ1 := hide hz1
  have HZ2 := hide hz2
  clear hn hka hab hz1 hz2 hkl
  go_enter Try.func4, Try.ntmps4
  go_wp2_with fail
  refine (begun_any s hs _).mono ?_
  rintro e w1 ⟨B, rfl, hT, hb⟩
  have HT1 := hide hT
  have HB1 := hide hb
  clear hT hb
  go_wp2_with fail
  refine (count_text B s hs _ (unhide HT1)).mono ?_
  rintro e w2 ⟨rfl, rfl⟩
  go_wp2_with fail
  refine (within_count n0 (starts s).length (by omega) n (unhide HN) _).mono ?_
  rintro e w2 ⟨rfl, rfl⟩
  go_wp2_with fail
  refine (place_in B s hs n hnc _ (unhide HT1)).mono ?_
  rintro e w3 ⟨rfl, hb⟩
  have HT3 := hide ((unhide HT1).below hb (Nat.le_refl _))
  have HB3 := hide ((unhide HB1).trans (hb.mono (unhide HB1).size))
  clear hb
  have hal := (Below.refl w3.heap.size w3).alloc (Nat.le_refl _) (.cells #[.int .i64 (pl s n), .int .i64 n] 28)
  have HT3a := hide ((unhide HT3).below hal (Nat.le_refl _))
  have HB3a := hide ((unhide HB3).trans (hal.mono (unhide HB3).size))
  have p3 := Blk.new w3 #[.int .i64 (pl s n), .int .i64 n] 28
  have c0 := p3.cell 0
  clear hal
  go_wp2_with fail
  refine (of_in B s hs (pl s n) n hp (holds_self s n hnc) _ (unhide HT3a)).mono ?_
  rintro e w4 ⟨rfl, hb⟩
  have HT4 := hide ((unhide HT3a).below hb (Nat.le_refl _))
  have HB4 := hide ((unhide HB3a).trans (hb.mono (unhide HB3a).size))
  have p4 := p3.below hb p3.lt
  clear hb c0 p3
  have hal := (Below.refl w4.heap.size w4).alloc (Nat.le_refl _) (.cells #[.int .i64 (pl s n), .int .i64 n] 28)
  have HT4a := hide ((unhide HT4).below hal (Nat.le_refl _))
  have HB4a := hide ((unhide HB4).trans (hal.mono (unhide HB4).size))
  have p4a := p4.alloc (.cells #[.int .i64 (pl s n), .int .i64 n] 28)
  have o4 := Blk.new w4 #[.int .i64 (pl s n), .int .i64 n] 28
  have c0 := p4a.cell 0
  clear hal p4
  go_wp2_with fail
  refine (where_in B s hs (pl s n) n k a hp (holds_self s n hnc) (unhide HKA) _ (unhide HT4a)).mono ?_
  rintro e w5 ⟨rfl, hb⟩
  have HT5 := hide ((unhide HT4a).below hb (Nat.le_refl _))
  have HB5 := hide ((unhide HB4a).trans (hb.mono (unhide HB4a).size))
  have p5 := p4a.below hb p4a.lt
  have o5 := o4.below hb o4.lt
  clear hb c0 p4a o4
  have hal := (Below.refl w5.heap.size w5).alloc (Nat.le_refl _) (.cells #[.int .i64 (pl s n), .int .i64 ((k : Int) + 1), .int .i64 ((n : Int) - (a : Int) + 1)] 36)
  have HT5a := hide ((unhide HT5).below hal (Nat.le_refl _))
  have HB5a := hide ((unhide HB5).trans (hal.mono (unhide HB5).size))
  have p5a := p5.alloc (.cells #[.int .i64 (pl s n), .int .i64 ((k : Int) + 1), .int .i64 ((n : Int) - (a : Int) + 1)] 36)
  have o5a := o5.alloc (.cells #[.int .i64 (pl s n), .int .i64 ((k : Int) + 1), .int .i64 ((n : Int) - (a : Int) + 1)] 36)
  have a5 := Blk.new w5 #[.int .i64 (pl s n), .int .i64 ((k : Int) + 1), .int .i64 ((n : Int) - (a : Int) + 1)] 36
  have c1 := a5.cell 1
  have c2 := a5.cell 2
  clear hal p5 o5
  go_wp2_with fail
  refine (find_in B s hs k a b n (unhide HAB) han hnb _ (unhide HT5a)).mono ?_
  rintro e w6 ⟨rfl, hb⟩
  have HT6 := hide ((unhide HT5a).below hb (Nat.le_refl _))
  have HB6 := hide ((unhide HB5a).trans (hb.mono (unhide HB5a).size))
  have p6 := p5a.below hb p5a.lt
  have o6 := o5a.below hb o5a.lt
  clear hb c1 c2 a5 p5a o5a
  have hal := (Below.refl w6.heap.size w6).alloc (Nat.le_refl _) (.cells #[.int .i64 (pl s n), .int .i64 n] 28)
  have HT6a := hide ((unhide HT6).below hal (Nat.le_refl _))
  have HB6a := hide ((unhide HB6).trans (hal.mono (unhide HB6).size))
  have p6a := p6.alloc (.cells #[.int .i64 (pl s n), .int .i64 n] 28)
  have o6a := o6.alloc (.cells #[.int .i64 (pl s n), .int .i64 n] 28)
  have f6 := Blk.new w6 #[.int .i64 (pl s n), .int .i64 n] 28
  clear hal p6 o6
  have HS0 : Hid (∀ W', TextAt W' B s → Calls Try.prog 15 #[.pointer (some ⟨B, 0, none⟩), .int .i64 0, .int .i64 n] W' fun e w' => e = .returned (.tuple #[.string (s.extract 0 (pl s n)), .bool true]) ∧ Below W'.heap.size W' w') := hide (fun W' hT => by
    have := slice_in B s hs 0 n (by omega) hnc W' hT
    rw [pl_zero] at this
    exact this)
  have HS1 : Hid (∀ W', TextAt W' B s → Calls Try.prog 15 #[.pointer (some ⟨B, 0, none⟩), .int .i64 n, .int .i64 (starts s).length] W' fun e w' => e = .returned (.tuple #[.string (s.extract (pl s n) s.size), .bool true]) ∧ Below W'.heap.size W' w') := hide (fun W' hT => by
    have := slice_in B s hs n _ hnc (Nat.le_refl _) W' hT
    rw [pl_end] at this
    exact this)
  generalize hH : s.extract 0 (pl s n) = head at *
  generalize hTl : s.extract (pl s n) s.size = tail at *
  clear hH hTl
  go_wp2_with fail
  refine (unhide HS0 _ (unhide HT6a)).mono ?_
  rintro e w7 ⟨rfl, hb⟩
  have HT7 := hide ((unhide HT6a).below hb (Nat.le_refl _))
  have HB7 := hide ((unhide HB6a).trans (hb.mono (unhide HB6a).size))
  have p7 := p6a.below hb p6a.lt
  have o7 := o6a.below hb o6a.lt
  have f7 := f6.below hb f6.lt
  clear hb p6a o6a f6
  go_wp2_with fail
  refine (count_text B s hs _ (unhide HT7)).mono ?_
  rintro e w8 ⟨rfl, rfl⟩
  go_wp2_with fail
  refine (unhide HS1 _ (unhide HT7)).mono ?_
  rintro e w9 ⟨rfl, hb⟩
  have HB9 := hide ((unhide HB7).trans (hb.mono (unhide HB7).size))
  have p9 := p7.below hb p7.lt
  have o9 := o7.below hb o7.lt
  have f9 := f7.below hb f7.lt
  have d0 := p9.cell 0
  have d1 := p9.cell 1
  have d2 := o9.cell 0
  have d3 := o9.cell 1
  have d4 := f9.cell 0
  have d5 := f9.cell 1
  have hht : head ++ tail = s := unhide HCW
  have hsz : head.size + tail.size ≤ 65536 := by rw [← ByteArray.size_append, hht]; exact hs
  have hsz2 : (head.size : Int) + (tail.size : Int) ≤ 65536 := by omega
  clear hb p7 o7 f7
  go_wp2_with fail
  refine (joins_any head tail (unhide HZ1) (unhide HZ2) _).mono ?_
  rintro e w10 ⟨rfl, hb⟩
  rw [unhide HJ]
  have HB10 := hide ((unhide HB9).trans (hb.mono (unhide HB9).size))
  have p10 := p9.below hb p9.lt
  have e0 := p10.cell 0
  clear hb d0 d1 d2 d3 d4 d5 p9 o9 f9 hht hsz hsz2
  go_wp2_with fail
  refine (bound_in s hms (pl s n) hp _).mono ?_
  rintro e w11 ⟨rfl, hb⟩
  rw [unhide HBD]
  have HB11 := hide ((unhide HB10).trans (hb.mono (unhide HB10).size))
  clear hb e0 p10
  go_wp2_with fail
  refine (count_any head (unhide HZ1) _).mono ?_
  rintro e w12 ⟨rfl, hb⟩
  rw [unhide HSC]
  have HB12 := hide ((unhide HB11).trans (hb.mono (unhide HB11).size))
  clear hb
  go_wp2
  go_ret
  exact ⟨rfl, unhide HB12⟩

theorem lround_any (s : ByteArray) (hm : s.size ≤ maxLen) (n : Int) (w : World) : Calls Try.prog 4 #[.string s, .int .i64 n] w fun e w' => e = .returned (.bool true) ∧ Below w.heap.size w w' := by
  by_cases h : s.size ≤ 65536
  · exact lround_in s h n w
  · exact lround_long s (by omega) hm n w
end Go.Proofs.Ytaafecaclkagiac
