/- Count, Lines, String, Place and Slice of a text, and the law's own beginning, told for every text. -/
import Derived.Test.YtnphbjhikapoeaaNew
import Derived.Test.YtnphbjhikapoeaaBds
namespace Go.Proofs.Ytnphbjhikapoeaa
open Go.RowKit Go.Shelf
set_option linter.unusedVariables false

theorem starts_sorted_from (s : ByteArray) : ∀ f i, (startsFrom s f i).Pairwise (· < ·)
  | 0, i => by simp [startsFrom]
  | f + 1, i => by
    unfold startsFrom
    split
    · have hw := wd_pos s i
      refine List.pairwise_cons.2 ⟨fun p hp => ?_, starts_sorted_from s f _⟩
      have := (startsFrom_ge s f _ p hp).1
      omega
    · exact List.Pairwise.nil
/-- The first byte of the spot number n; of the end the end. -/
def pl (s : ByteArray) (n : Nat) : Nat := (starts s ++ [s.size]).getD n 0
theorem pl_get (s : ByteArray) (n : Nat) (h : n ≤ (starts s).length) : (starts s ++ [s.size])[n]? = some (pl s n) := by
  rw [pl, List.getD, List.getElem?_eq_getElem (by simp; omega)]
  rfl
theorem pl_end (s : ByteArray) : pl s (starts s).length = s.size := by simp [pl, List.getD]
theorem pl_start (s : ByteArray) (n : Nat) (h : n < (starts s).length) : (starts s)[n]? = some (pl s n) := by
  have := pl_get s n (by omega)
  rw [List.getElem?_append_left h] at this
  exact this
theorem pl_lt (s : ByteArray) (n : Nat) (h : n < (starts s).length) : pl s n < s.size := (startsFrom_ge s s.size 0 _ (List.mem_of_getElem? (pl_start s n h))).2
theorem pl_le (s : ByteArray) (n : Nat) (h : n ≤ (starts s).length) : pl s n ≤ s.size := by
  by_cases e : n = (starts s).length
  · rw [e, pl_end]; exact Nat.le_refl _
  · exact Nat.le_of_lt (pl_lt s n (by omega))
theorem pl_strict (s : ByteArray) (a b : Nat) (h : a < b) (hb : b ≤ (starts s).length) : pl s a < pl s b := by
  by_cases e : b = (starts s).length
  · rw [e, pl_end]; exact pl_lt s a (by omega)
  · have ha := pl_start s a (by omega)
    have hb' := pl_start s b (by omega)
    obtain ⟨h1, e1⟩ := List.getElem?_eq_some_iff.1 ha
    obtain ⟨h2, e2⟩ := List.getElem?_eq_some_iff.1 hb'
    rw [← e1, ← e2]
    exact List.pairwise_iff_getElem.1 (starts_sorted_from s s.size 0) a b h1 h2 h
theorem pl_mono (s : ByteArray) (a b : Nat) (h : a ≤ b) (hb : b ≤ (starts s).length) : pl s a ≤ pl s b := by
  rcases Nat.lt_or_ge a b with e | e
  · exact Nat.le_of_lt (pl_strict s a b e hb)
  · rw [show a = b by omega]; exact Nat.le_refl _
theorem pl_zero (s : ByteArray) : pl s 0 = 0 := by
  by_cases h : 0 < s.size
  · obtain ⟨r, hr⟩ := starts_head s h
    simp [pl, hr]
  · rw [pl, starts_empty s h]
    show s.size = 0
    omega

theorem count_text (B : Nat) (s : ByteArray) (hs : s.size ≤ 65536) (W : World) (h : TextAt W B s) : Calls Try.prog 39 #[.pointer (some ⟨B, 0, none⟩)] W fun e w' => e = .returned (.int .i64 (starts s).length) ∧ w' = W := by
  obtain ⟨g1, c1, g2, c2, hB, _⟩ := h
  have k1 := hB.cell 1
  have hl := starts_length s
  go_enter Try.func39, Try.ntmps39
  go_wp2
  go_ret
  exact ⟨by first | rfl | (congr 2; omega), rfl⟩
theorem lines_text (B : Nat) (s : ByteArray) (hs : s.size ≤ 65536) (W : World) (h : TextAt W B s) : Calls Try.prog 40 #[.pointer (some ⟨B, 0, none⟩)] W fun e w' => e = .returned (.int .i64 (lns s).length) ∧ w' = W := by
  obtain ⟨g1, c1, g2, c2, hB, _⟩ := h
  have k2 := hB.cell 2
  go_enter Try.func40, Try.ntmps40
  go_wp2
  go_ret
  exact ⟨rfl, rfl⟩

abbrev placeV (p n : Nat) : Value := .tuple #[.agg #[.int .i64 p, .int .i64 n], .bool true]
abbrev placeN : Value := .tuple #[.agg #[.int .i64 0, .int .i64 0], .bool false]

theorem place_in (B : Nat) (s : ByteArray) (hs : s.size ≤ 65536) (n : Nat) (hn : n ≤ (starts s).length) (W : World) (h : TextAt W B s) :
    Calls Try.prog 38 #[.pointer (some ⟨B, 0, none⟩), .int .i64 n] W fun e w' => e = .returned (placeV (pl s n) n) ∧ Below W.heap.size W w' := by
  have hT := h
  obtain ⟨g1, c1, g2, c2, hB, hg1, hg2, i1, i2⟩ := h
  have hl := starts_length s
  have n0 : ¬ (n : Int) < 0 := by omega
  have n1 : ¬ ((starts s).length : Int) < (n : Int) := by omega
  have n2 : (n : Int) < (((starts s).length + 1 : Nat) : Int) := by omega
  have n3 : ((n : Nat) : Int).toNat = n := by omega
  have k1 := (hB.alloc (.cells #[.int .i64 0, .int .i64 0] 30)).cell 1
  have kn := i1 n (pl s n) (pl_get s n hn)
  have kn' : (W.alloc (.cells #[.int .i64 0, .int .i64 0] 30)).cell? ⟨g1, n, none⟩ = some (.int .i64 (pl s n)) := (((Below.refl W.heap.size W).alloc (Nat.le_refl _) _).cell (p := ⟨g1, n, none⟩) hg1).trans kn
  have HT := hide (hT.below ((Below.refl W.heap.size W).alloc (Nat.le_refl _) (.cells #[.int .i64 0, .int .i64 0] 30)) (Nat.le_refl _))
  clear hT
  go_enter Try.func38, Try.ntmps38
  go_wp2_with fail
  refine (count_text B s hs _ (unhide HT)).mono ?_
  rintro e w' ⟨rfl, rfl⟩
  go_wp2
  exact bodyPost_ret (v := placeV (pl s n) n) (by simp [results, Try.results38, go_sem]) rfl ⟨rfl, (Below.refl W.heap.size W).alloc (Nat.le_refl _) _⟩

theorem place_out (B : Nat) (s : ByteArray) (hs : s.size ≤ 65536) (n : Int) (hn : n < 0 ∨ ((starts s).length : Int) < n) (W : World) (h : TextAt W B s) :
    Calls Try.prog 38 #[.pointer (some ⟨B, 0, none⟩), .int .i64 n] W fun e w' => e = .returned placeN ∧ Below W.heap.size W w' := by
  by_cases n0 : n < 0
  · go_enter Try.func38, Try.ntmps38
    go_wp2
    exact bodyPost_ret (v := placeN) (by simp [results, Try.results38, go_sem]) rfl ⟨rfl, (Below.refl W.heap.size W).alloc (Nat.le_refl _) _⟩
  · have n1 : ((starts s).length : Int) < n := by omega
    have HT := hide (h.below ((Below.refl W.heap.size W).alloc (Nat.le_refl _) (.cells #[.int .i64 0, .int .i64 0] 30)) (Nat.le_refl _))
    go_enter Try.func38, Try.ntmps38
    go_wp2_with fail
    refine (count_text B s hs _ (unhide HT)).mono ?_
    rintro e w' ⟨rfl, rfl⟩
    go_wp2
    exact bodyPost_ret (v := placeN) (by simp [results, Try.results38, go_sem]) rfl ⟨rfl, (Below.refl W.heap.size W).alloc (Nat.le_refl _) _⟩

theorem slice_in (B : Nat) (s : ByteArray) (hs : s.size ≤ 65536) (a b : Nat) (hab : a ≤ b) (hb : b ≤ (starts s).length) (W : World) (h : TextAt W B s) :
    Calls Try.prog 10 #[.pointer (some ⟨B, 0, none⟩), .int .i64 a, .int .i64 b] W fun e w' => e = .returned (.tuple #[.string (s.extract (pl s a) (pl s b)), .bool true]) ∧ Below W.heap.size W w' := by
  have HT := hide h
  obtain ⟨g1, c1, g2, c2, hB, hg1, hg2, i1, i2⟩ := h
  have hl := starts_length s
  have a0 : ¬ (a : Int) < 0 := by omega
  have a1 : ¬ (b : Int) < (a : Int) := by omega
  have a2 : ¬ ((starts s).length : Int) < (b : Int) := by omega
  have a3 : (a : Int) < (((starts s).length + 1 : Nat) : Int) := by omega
  have a4 : (b : Int) < (((starts s).length + 1 : Nat) : Int) := by omega
  have a5 : ((a : Nat) : Int).toNat = a := by omega
  have a6 : ((b : Nat) : Int).toNat = b := by omega
  have k0 := hB.cell 0
  have k1 := hB.cell 1
  have ka := i1 a (pl s a) (pl_get s a (by omega))
  have kb := i1 b (pl s b) (pl_get s b (by omega))
  have p1 := pl_mono s a b hab hb
  have p2 := pl_le s b hb
  have p3 : ((pl s a : Nat) : Int) ≤ ((pl s b : Nat) : Int) := by omega
  have p4 : ((pl s b : Nat) : Int) ≤ (s.size : Int) := by omega
  clear i1 i2
  go_enter Try.func10, Try.ntmps10
  go_wp2_with fail
  refine (count_text B s hs _ (unhide HT)).mono ?_
  rintro e w' ⟨rfl, rfl⟩
  go_wp2
  go_quiet (fail)
  go_wp2
  go_ret2
  exact ⟨rfl, below_drewN (Below.refl _ _) _⟩

theorem slice_out (B : Nat) (s : ByteArray) (hs : s.size ≤ 65536) (a b : Int) (hab : a < 0 ∨ b < a ∨ ((starts s).length : Int) < b) (W : World) (h : TextAt W B s) :
    Calls Try.prog 10 #[.pointer (some ⟨B, 0, none⟩), .int .i64 a, .int .i64 b] W fun e w' => e = .returned (.tuple #[.string ⟨#[]⟩, .bool false]) ∧ Below W.heap.size W w' := by
  by_cases a0 : a < 0
  · go_enter Try.func10, Try.ntmps10
    go_wp2
    go_ret2
    exact ⟨rfl, Below.refl _ _⟩
  by_cases a1 : b < a
  · go_enter Try.func10, Try.ntmps10
    go_wp2
    go_ret2
    exact ⟨rfl, Below.refl _ _⟩
  have a2 : ((starts s).length : Int) < b := by omega
  have HT := hide h
  go_enter Try.func10, Try.ntmps10
  go_wp2_with fail
  refine (count_text B s hs _ (unhide HT)).mono ?_
  rintro e w' ⟨rfl, rfl⟩
  go_wp2
  go_ret2
  exact ⟨rfl, Below.refl _ _⟩

/-- The text of the run. -/
abbrev runS : ByteArray := ⟨#[97, 195, 169, 10, 226, 130, 122]⟩
theorem run_count : (starts runS).length = 6 := by decide
theorem run_lines : (lns runS).length = 2 := by decide
theorem run_place : pl runS 2 = 3 := by decide

set_option maxRecDepth 100000 in
set_option maxHeartbeats 4000000 in
theorem begun_long (s : ByteArray) (hs : 65536 < s.size) (hm : s.size ≤ maxLen) (w : World) : Calls Try.prog 6 #[.string s] w fun e w' => e = .returned (.tuple #[.pointer none, .bool true, .bool true]) ∧ Below w.heap.size w w' := by
  have h65 : (65536 : Int) < (s.size : Int) := by omega
  unfold maxLen at hm
  go_enter Try.func6, Try.ntmps6
  go_wp2_with fail
  refine (new_any runS (by decide) _).mono ?_
  rintro e w1 ⟨rfl, hT, hb⟩
  have HT := hide hT
  have HB1 := hide hb
  clear hT hb
  go_wp2_with fail
  refine (place_in _ runS (by decide) 2 (by decide) _ (unhide HT)).mono ?_
  rintro e w2 ⟨rfl, hb⟩
  rw [run_place]
  have HB2 := hide ((unhide HB1).trans (hb.mono (unhide HB1).size))
  have HT2 := hide ((unhide HT).below hb (Nat.le_refl _))
  clear hb
  have HB2a := hide ((unhide HB2).alloc (unhide HB2).size (.cells #[.int .i64 3, .int .i64 2] 30))
  have HT2a := hide ((unhide HT2).below ((Below.refl w2.heap.size w2).alloc (Nat.le_refl _) (.cells #[.int .i64 3, .int .i64 2] 30)) (Nat.le_refl _))
  have b2 := Blk.new w2 #[.int .i64 3, .int .i64 2] 30
  have c0 := b2.cell 0
  have c1 := b2.cell 1
  go_wp2_with fail
  refine (count_text _ runS (by decide) _ (unhide HT2a)).mono ?_
  rintro e w3 ⟨rfl, rfl⟩
  rw [run_count]
  go_wp2_with fail
  refine (lines_text _ runS (by decide) _ (unhide HT2a)).mono ?_
  rintro e w3 ⟨rfl, rfl⟩
  rw [run_lines]
  go_wp2_with fail
  refine (new_long s hs (by unfold maxLen; omega) _).mono ?_
  rintro e w4 ⟨rfl, rfl⟩
  go_wp2
  go_ret3
  exact ⟨rfl, unhide HB2a⟩

set_option maxRecDepth 100000 in
set_option maxHeartbeats 4000000 in
theorem begun_from (s : ByteArray) (hs : s.size ≤ 65536) (w : World) : Calls Try.prog 6 #[.string s] w fun e w' => ∃ B, e = .returned (.tuple #[.pointer (some ⟨B, 0, none⟩), .bool false, .bool true]) ∧ TextFrom w.heap.size w' B s ∧ Below w.heap.size w w' := by
  have h65 : ¬ (65536 : Int) < (s.size : Int) := by omega
  go_enter Try.func6, Try.ntmps6
  go_wp2_with fail
  refine (new_any runS (by decide) _).mono ?_
  rintro e w1 ⟨rfl, hT, hb⟩
  have HT := hide hT
  have HB1 := hide hb
  clear hT hb
  go_wp2_with fail
  refine (place_in _ runS (by decide) 2 (by decide) _ (unhide HT)).mono ?_
  rintro e w2 ⟨rfl, hb⟩
  rw [run_place]
  have HB2 := hide ((unhide HB1).trans (hb.mono (unhide HB1).size))
  have HT2 := hide ((unhide HT).below hb (Nat.le_refl _))
  clear hb
  have HB2a := hide ((unhide HB2).alloc (unhide HB2).size (.cells #[.int .i64 3, .int .i64 2] 30))
  have HT2a := hide ((unhide HT2).below ((Below.refl w2.heap.size w2).alloc (Nat.le_refl _) (.cells #[.int .i64 3, .int .i64 2] 30)) (Nat.le_refl _))
  have b2 := Blk.new w2 #[.int .i64 3, .int .i64 2] 30
  have c0 := b2.cell 0
  have c1 := b2.cell 1
  go_wp2_with fail
  refine (count_text _ runS (by decide) _ (unhide HT2a)).mono ?_
  rintro e w3 ⟨rfl, rfl⟩
  rw [run_count]
  go_wp2_with fail
  refine (lines_text _ runS (by decide) _ (unhide HT2a)).mono ?_
  rintro e w3 ⟨rfl, rfl⟩
  rw [run_lines]
  go_wp2_with fail
  refine (new_from s hs _).mono ?_
  rintro e w4 ⟨rfl, hT4, hb⟩
  rw [World.size_alloc] at hT4
  have HT4 := hide (hT4.mono (lo' := w.heap.size) (by have := (unhide HB2a).size; simp at this ⊢; omega))
  have HB4 := hide ((unhide HB2a).trans (hb.mono (unhide HB2a).size))
  clear hT4 hb
  go_wp2
  go_ret3
  exact ⟨_, rfl, unhide HT4, unhide HB4⟩
theorem begun_any (s : ByteArray) (hs : s.size ≤ 65536) (w : World) : Calls Try.prog 6 #[.string s] w fun e w' => ∃ B, e = .returned (.tuple #[.pointer (some ⟨B, 0, none⟩), .bool false, .bool true]) ∧ TextAt w' B s ∧ Below w.heap.size w w' :=
  (begun_from s hs w).mono fun e w' ⟨B, h1, h2, h3⟩ => ⟨B, h1, h2.at, h3⟩
end Go.Proofs.Ytnphbjhikapoeaa
