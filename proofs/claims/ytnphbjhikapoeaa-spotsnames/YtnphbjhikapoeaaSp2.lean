/- Of, Where, ends, Find and Line of a text, told for every text. -/
import Derived.Test.YtnphbjhikapoeaaHold
import Derived.Deep.RegionWith
namespace Go.Proofs.Ytnphbjhikapoeaa
open Go.RowKit Go.Shelf
set_option linter.unusedVariables false

/-- The spot number n holds the byte b. -/
def Holds (s : ByteArray) (b n : Nat) : Prop := n ≤ (starts s).length ∧ pl s n ≤ b ∧ (n < (starts s).length → b < pl s (n + 1))
theorem holds_exists (s : ByteArray) (b : Nat) (hb : b ≤ s.size) : ∃ n, Holds s b n := by
  obtain ⟨p, x, h1, h2, h3⟩ := hold_exists (starts s ++ [s.size]) b (starts s ++ [s.size]).length 0 0 (by omega) (head_starts s) (Nat.zero_le _)
  have hp := (List.getElem?_eq_some_iff.1 h1).1
  rw [List.length_append] at hp
  simp at hp
  rw [pl_get s p (by omega)] at h1
  cases h1
  exact ⟨p, by omega, h2, fun h => h3 _ (pl_get s (p + 1) (by omega))⟩
theorem Holds.search {s : ByteArray} {b n : Nat} (h : Holds s b n) : (starts s ++ [s.size])[n]? = some (pl s n) ∧ pl s n ≤ b ∧ ∀ y, (starts s ++ [s.size])[n + 1]? = some y → b < y := by
  refine ⟨pl_get s n h.1, h.2.1, fun y hy => ?_⟩
  have hl := (List.getElem?_eq_some_iff.1 hy).1
  rw [List.length_append] at hl
  simp at hl
  rw [pl_get s (n + 1) (by omega)] at hy
  cases hy
  exact h.2.2 (by omega)
theorem holds_self (s : ByteArray) (n : Nat) (h : n ≤ (starts s).length) : Holds s (pl s n) n := ⟨h, Nat.le_refl _, fun h2 => pl_strict s n (n + 1) (by omega) (by omega)⟩

/-- The line number k (from 0 on), which begins at the spot a, holds the spot n. -/
def LineOf (s : ByteArray) (n k a : Nat) : Prop := (lns s)[k]? = some a ∧ a ≤ n ∧ ∀ y, (lns s)[k + 1]? = some y → n < y
theorem line_exists (s : ByteArray) (n : Nat) : ∃ k a, LineOf s n k a := by
  obtain ⟨p, x, h1, h2, h3⟩ := hold_exists (lns s) n (lns s).length 0 0 (by omega) (head_lns s) (Nat.zero_le _)
  exact ⟨p, x, h1, h2, h3⟩

set_option maxHeartbeats 1000000 in
theorem of_in (B : Nat) (s : ByteArray) (hs : s.size ≤ 65536) (b n : Nat) (hb : b ≤ s.size) (hn : Holds s b n) (W : World) (h : TextAt W B s) :
    Calls Try.prog 12 #[.pointer (some ⟨B, 0, none⟩), .int .i64 b] W fun e w' => e = .returned (placeV (pl s n) n) ∧ Below W.heap.size W w' := by
  have hal := (Below.refl W.heap.size W).alloc (Nat.le_refl _) (.cells #[.int .i64 0, .int .i64 0] 30)
  have HT := hide (h.below hal (Nat.le_refl _))
  obtain ⟨g1, c1, g2, c2, hB, hg1, hg2, i1, i2⟩ := h.below hal (Nat.le_refl _)
  have hlen : (starts s ++ [s.size]).length = (starts s).length + 1 := by simp
  have HLEN := hide hlen
  have hl := starts_length s
  have b0 : ¬ (b : Int) < 0 := by omega
  have b1 : ¬ (s.size : Int) < (b : Int) := by omega
  have k0 := hB.cell 0
  have k1 := hB.cell 1
  obtain ⟨q1, q2, q3⟩ := hn.search
  have HI := hide i1
  have HQ := hide (And.intro q1 (And.intro q2 q3))
  have HA := hide hal
  have hnl := hn.1
  have HLE := hide (show (starts s ++ [s.size]).length ≤ 1048576 by rw [hlen]; omega)
  clear i1 i2 hlen q1 q2 q3 hal h
  go_enter Try.func12, Try.ntmps12
  go_wp2_with fail
  refine (holding_at g1 c1 ((starts s).length + 1) _ (unhide HLEN) (unhide HLE) (rises_starts s) (head_starts s) b n (pl s n) (by omega) (unhide HQ).1 (unhide HQ).2.1 (unhide HQ).2.2 _ (unhide HI)).mono ?_
  rintro e w1 ⟨rfl, hb1⟩
  have HT1 := hide ((unhide HT).below hb1 (Nat.le_refl _))
  have HB1 := hide ((unhide HA).trans (hb1.mono (unhide HA).size))
  have r1 := (Blk.new W #[.int .i64 0, .int .i64 0] 30).below hb1 (by simp)
  clear hb1
  go_wp2_with fail
  refine (place_in B s hs n hnl _ (unhide HT1)).mono ?_
  rintro e w2 ⟨rfl, hb2⟩
  have HB2 := hide ((unhide HB1).trans (hb2.mono (unhide HB1).size))
  have r2 := r1.below hb2 r1.lt
  have d0 := r2.cell 0
  have d1 := r2.cell 1
  have f2 := r2.frozen
  clear hb2 r1
  go_wp2
  have q := (r2.set 0 (.int .i64 (pl s n))).set 1 (.int .i64 n)
  have e0 := q.cell 0
  have e1 := q.cell 1
  exact bodyPost_ret (v := placeV (pl s n) n) (by simp [results, Try.results12, go_sem, e0, e1]) rfl ⟨rfl, ((unhide HB2).setCell (p := ⟨W.heap.size, 0, none⟩) (Nat.le_refl _) _).setCell (p := ⟨W.heap.size, 1, none⟩) (Nat.le_refl _) _⟩

theorem of_out (B : Nat) (s : ByteArray) (hs : s.size ≤ 65536) (b : Int) (hb : b < 0 ∨ (s.size : Int) < b) (W : World) (h : TextAt W B s) :
    Calls Try.prog 12 #[.pointer (some ⟨B, 0, none⟩), .int .i64 b] W fun e w' => e = .returned placeN ∧ Below W.heap.size W w' := by
  by_cases b0 : b < 0
  · go_enter Try.func12, Try.ntmps12
    go_wp2
    exact bodyPost_ret (v := placeN) (by simp [results, Try.results12, go_sem]) rfl ⟨rfl, (Below.refl W.heap.size W).alloc (Nat.le_refl _) _⟩
  · have b1 : (s.size : Int) < b := by omega
    obtain ⟨g1, c1, g2, c2, hB, _⟩ := h.below ((Below.refl W.heap.size W).alloc (Nat.le_refl _) (.cells #[.int .i64 0, .int .i64 0] 30)) (Nat.le_refl _)
    have k0 := hB.cell 0
    go_enter Try.func12, Try.ntmps12
    go_wp2
    exact bodyPost_ret (v := placeN) (by simp [results, Try.results12, go_sem]) rfl ⟨rfl, (Below.refl W.heap.size W).alloc (Nat.le_refl _) _⟩

abbrev endsV (a b : Nat) : Value := .tuple #[.int .i64 a, .int .i64 b, .bool true]
/-- The line number k (from 0 on) goes from the spot a up to and without the spot b. -/
def LineAt (s : ByteArray) (k a b : Nat) : Prop := (lns s)[k]? = some a ∧ ((k + 1 = (lns s).length ∧ b = (starts s).length) ∨ (lns s)[k + 1]? = some (b + 1))
theorem LineAt.le {s : ByteArray} {k a b : Nat} (h : LineAt s k a b) : a ≤ b ∧ b ≤ (starts s).length := by
  rcases h.2 with ⟨_, rfl⟩ | h2
  · exact ⟨lns_le s k a h.1, Nat.le_refl _⟩
  · have h3 := rises_lns s k (k + 1) a (b + 1) (by omega) h.1 h2
    have h4 := lns_le s (k + 1) (b + 1) h2
    exact ⟨by omega, by omega⟩
theorem line_at (s : ByteArray) (k : Nat) (hk : k < (lns s).length) : ∃ a b, LineAt s k a b := by
  obtain ⟨a, ha⟩ : ∃ a, (lns s)[k]? = some a := ⟨_, List.getElem?_eq_getElem hk⟩
  by_cases h : k + 1 = (lns s).length
  · exact ⟨a, _, ha, .inl ⟨h, rfl⟩⟩
  · obtain ⟨b, hb⟩ : ∃ b, (lns s)[k + 1]? = some b := ⟨_, List.getElem?_eq_getElem (by omega)⟩
    have := lns_pos s k b hb
    exact ⟨a, b - 1, ha, .inr (by rw [hb]; congr 1; omega)⟩

set_option maxRecDepth 100000 in
set_option maxHeartbeats 1000000 in
theorem ends_in (B : Nat) (s : ByteArray) (hs : s.size ≤ 65536) (k a b : Nat) (hk : LineAt s k a b) (W : World) (h : TextAt W B s) :
    Calls Try.prog 42 #[.pointer (some ⟨B, 0, none⟩), .int .i64 ((k + 1 : Nat) : Int)] W fun e w' => e = .returned (endsV a b) ∧ Below W.heap.size W w' := by
  have HT := hide h
  obtain ⟨g1, c1, g2, c2, hB, hg1, hg2, i1, i2⟩ := h
  have hle := hk.le
  have hl := starts_length s
  have hll := lns_length s
  have hkl : k < (lns s).length := (List.getElem?_eq_some_iff.1 hk.1).1
  have k0 : ¬ ((k + 1 : Nat) : Int) < 1 := by omega
  have k1 : ¬ ((lns s).length : Int) < ((k + 1 : Nat) : Int) := by omega
  have d2 := hB.cell 2
  have ka := i2 k a hk.1
  have m1 : ((k + 1 : Nat) : Int) - 1 = (k : Int) := by omega
  have m2 : (k : Int) < ((lns s).length : Int) := by omega
  have m3 : ((k : Nat) : Int).toNat = k := by omega
  have m4 : (((k + 1 : Nat)) : Int).toNat = k + 1 := by omega
  have m5 : ((k + 1 : Nat) : Int) ≤ 65538 := by omega
  rcases hk.2 with ⟨h1, rfl⟩ | h2
  · have he : (((k + 1 : Nat) : Int) == ((lns s).length : Int)) = true := by rw [beq_iff_eq]; omega
    clear i1 i2 hk hll hle
    generalize ((k + 1 : Nat) : Int) = K at *
    go_enter Try.func42, Try.ntmps42
    go_wp2_with fail
    refine (lines_text B s hs _ (unhide HT)).mono ?_
    rintro e w' ⟨rfl, rfl⟩
    go_wp2_with fail
    refine (lines_text B s hs _ (unhide HT)).mono ?_
    rintro e w' ⟨rfl, rfl⟩
    go_wp2
    go_quiet (exact Calls.quiet_of_same (count_text B s hs _ (unhide HT)))
    go_wp2
    go_ret3
    exact ⟨rfl, below_drewN (Below.refl _ _) _⟩
  · have hk2 : k + 1 < (lns s).length := (List.getElem?_eq_some_iff.1 h2).1
    have he : (((k + 1 : Nat) : Int) == ((lns s).length : Int)) = false := beq_eq_false_iff_ne.2 (by omega)
    have kb := i2 (k + 1) (b + 1) h2
    have n1 : ((b + 1 : Nat) : Int) - 1 = (b : Int) := by omega
    have n2 : ((k + 1 : Nat) : Int) < ((lns s).length : Int) := by omega
    have n3 : (0 : Int) ≤ ((k + 1 : Nat) : Int) := by omega
    have n4 : ((b + 1 : Nat) : Int) ≤ 65538 := by omega
    have n5 : (0 : Int) ≤ ((b + 1 : Nat) : Int) := by omega
    clear i1 i2 hk hll hle h2
    generalize hK : ((k + 1 : Nat) : Int) = K at *
    generalize hV : ((b + 1 : Nat) : Int) = V at *
    go_enter Try.func42, Try.ntmps42
    go_wp2_with fail
    refine (lines_text B s hs _ (unhide HT)).mono ?_
    rintro e w' ⟨rfl, rfl⟩
    go_wp2_with fail
    refine (lines_text B s hs _ (unhide HT)).mono ?_
    rintro e w' ⟨rfl, rfl⟩
    go_wp2
    go_quiet (fail)
    go_wp2
    go_ret3
    exact ⟨rfl, below_drewN (Below.refl _ _) _⟩

theorem ends_out (B : Nat) (s : ByteArray) (hs : s.size ≤ 65536) (k : Int) (hk : k < 1 ∨ ((lns s).length : Int) < k) (W : World) (h : TextAt W B s) :
    Calls Try.prog 42 #[.pointer (some ⟨B, 0, none⟩), .int .i64 k] W fun e w' => e = .returned (.tuple #[.int .i64 0, .int .i64 0, .bool false]) ∧ Below W.heap.size W w' := by
  by_cases k0 : k < 1
  · go_enter Try.func42, Try.ntmps42
    go_wp2
    go_ret3
    exact ⟨rfl, Below.refl _ _⟩
  · have k1 : ((lns s).length : Int) < k := by omega
    have HT := hide h
    go_enter Try.func42, Try.ntmps42
    go_wp2_with fail
    refine (lines_text B s hs _ (unhide HT)).mono ?_
    rintro e w' ⟨rfl, rfl⟩
    go_wp2
    go_ret3
    exact ⟨rfl, Below.refl _ _⟩

theorem line_in (B : Nat) (s : ByteArray) (hs : s.size ≤ 65536) (k a b : Nat) (hk : LineAt s k a b) (W : World) (h : TextAt W B s) :
    Calls Try.prog 9 #[.pointer (some ⟨B, 0, none⟩), .int .i64 ((k + 1 : Nat) : Int)] W fun e w' => e = .returned (.tuple #[.string (s.extract (pl s a) (pl s b)), .bool true]) ∧ Below W.heap.size W w' := by
  have HT := hide h
  have HK := hide hk
  have hle := hk.le
  clear h hk
  have HE := hide (fun W' hT => ends_in B s hs k a b (unhide HK) W' hT)
  generalize ((k + 1 : Nat) : Int) = K at *
  go_enter Try.func9, Try.ntmps9
  go_wp2_with fail
  refine (unhide HE _ (unhide HT)).mono ?_
  rintro e w1 ⟨rfl, hb⟩
  have HT1 := hide ((unhide HT).below hb (Nat.le_refl _))
  have HB1 := hide hb
  clear hb
  go_wp2_with fail
  refine (slice_in B s hs a b hle.1 hle.2 _ (unhide HT1)).mono ?_
  rintro e w2 ⟨rfl, hb⟩
  have HB2 := hide ((unhide HB1).trans (hb.mono (unhide HB1).size))
  clear hb
  go_wp2
  go_ret2
  exact ⟨rfl, unhide HB2⟩
theorem line_out (B : Nat) (s : ByteArray) (hs : s.size ≤ 65536) (k : Int) (hk : k < 1 ∨ ((lns s).length : Int) < k) (W : World) (h : TextAt W B s) :
    Calls Try.prog 9 #[.pointer (some ⟨B, 0, none⟩), .int .i64 k] W fun e w' => e = .returned (.tuple #[.string ⟨#[]⟩, .bool false]) ∧ Below W.heap.size W w' := by
  have HT := hide h
  have HK := hide hk
  clear h hk
  go_enter Try.func9, Try.ntmps9
  go_wp2_with fail
  refine (ends_out B s hs k (unhide HK) _ (unhide HT)).mono ?_
  rintro e w1 ⟨rfl, hb⟩
  have HB1 := hide hb
  clear hb
  go_wp2
  go_ret2
  exact ⟨rfl, unhide HB1⟩
end Go.Proofs.Ytnphbjhikapoeaa
