/- Find of a text where there is no such place; the reference's Find beside it; a row of lines. -/
import Derived.Test.YtaafecaclkagiabRef2d
namespace Go.Proofs.Ytaafecaclkagiab
open Go.RowKit Go.Shelf
set_option linter.unusedVariables false

theorem own_strs {W : World} {base : Nat} {v : Value} {s : ByteArray} (h : W.ownsRow base 9 1 v (lns s).length (lnC s (lns s).length)) : ∃ g cap, v = .slice (some ⟨g, 0, none⟩) (lns s).length cap ∧ g < W.heap.size ∧ ∀ k, k < (lns s).length → W.cell? ⟨g, k, none⟩ = some (.string (lnT s k)) := by
  have hl := (lns_length s).1
  rcases h.2 with ⟨rfl, h0⟩ | ⟨g, cap, cur, rfl, _, hh, _⟩
  · omega
  · refine ⟨g, cap, rfl, (Array.getElem?_eq_some_iff.1 hh).1, fun k hk => ?_⟩
    have := h.cells (g := g) rfl k (.string (lnT s k)) (lnC_at s _ k hk)
    rw [add_none, Nat.zero_add] at this
    exact this
theorem match_line (s : ByteArray) (k a b n : Nat) (hk : LineAt s k a b) (h1 : a ≤ n) (h2 : n ≤ b) : LineOf s n k a := by
  refine ⟨hk.1, h1, fun y hy => ?_⟩
  rcases hk.2 with ⟨h3, _⟩ | h3
  · rw [List.getElem?_eq_none (by omega)] at hy; cases hy
  · rw [h3] at hy; cases hy; omega
theorem line_of_at (s : ByteArray) (k a b i a2 : Nat) (hk : LineAt s k a b) (h : LineOf s i k a2) (hi : i ≤ (starts s).length) : a2 = a ∧ a ≤ i ∧ i ≤ b := by
  have e : a2 = a := by have := h.1; rw [hk.1] at this; cases this; rfl
  subst e
  refine ⟨rfl, h.2.1, ?_⟩
  rcases hk.2 with ⟨_, rfl⟩ | h3
  · exact hi
  · have := h.2.2 _ h3; omega
theorem refFind_in (s : ByteArray) (hs : s.size ≤ 65536) (k a b n : Nat) (hk : LineAt s k a b) (h1 : a ≤ n) (h2 : n ≤ b) (w : World) : Calls Try.prog 35 #[.string s, .int .i64 ((k : Int) + 1), .int .i64 ((n : Int) - (a : Int) + 1)] w fun e w' => e = .returned (.int .i64 n) ∧ Below w.heap.size w w' := by
  have hle := hk.le
  refine (refFind_any s hs _ _ w).mono ?_
  rintro e w' ⟨⟨i, hi, ⟨k2, a2, hl, e1, e2⟩, rfl⟩ | ⟨hno, rfl⟩, hb⟩
  · obtain rfl : k2 = k := by omega
    obtain ⟨rfl, h3, h4⟩ := line_of_at s k2 a b i a2 hk hl hi
    obtain rfl : i = n := by omega
    exact ⟨rfl, hb⟩
  · exact absurd ⟨k, a, match_line s k a b n hk h1 h2, rfl, rfl⟩ (hno n (by omega))
theorem refFind_line (s : ByteArray) (hs : s.size ≤ 65536) (line col : Int) (hk : line < 1 ∨ ((lns s).length : Int) < line) (w : World) : Calls Try.prog 35 #[.string s, .int .i64 line, .int .i64 col] w fun e w' => e = .returned (.int .i64 (-1)) ∧ Below w.heap.size w w' := by
  refine (refFind_any s hs _ _ w).mono ?_
  rintro e w' ⟨⟨i, hi, ⟨k2, a2, hl, e1, e2⟩, rfl⟩ | ⟨hno, rfl⟩, hb⟩
  · have := (List.getElem?_eq_some_iff.1 hl.1).1
    omega
  · exact ⟨rfl, hb⟩
theorem refFind_col (s : ByteArray) (hs : s.size ≤ 65536) (k a b : Nat) (hk : LineAt s k a b) (col : Int) (hc : col < 1 ∨ (b : Int) - (a : Int) + 1 < col) (w : World) : Calls Try.prog 35 #[.string s, .int .i64 ((k : Int) + 1), .int .i64 col] w fun e w' => e = .returned (.int .i64 (-1)) ∧ Below w.heap.size w w' := by
  refine (refFind_any s hs _ _ w).mono ?_
  rintro e w' ⟨⟨i, hi, ⟨k2, a2, hl, e1, e2⟩, rfl⟩ | ⟨hno, rfl⟩, hb⟩
  · obtain rfl : k2 = k := by omega
    obtain ⟨rfl, h3, h4⟩ := line_of_at s k2 a b i a2 hk hl hi
    omega
  · exact ⟨rfl, hb⟩
set_option maxRecDepth 100000 in
set_option maxHeartbeats 2000000 in
theorem find_line (B : Nat) (s : ByteArray) (hs : s.size ≤ 65536) (line col : Int) (hk : line < 1 ∨ ((lns s).length : Int) < line) (W : World) (h : TextAt W B s) :
    Calls Try.prog 17 #[.pointer (some ⟨B, 0, none⟩), .int .i64 line, .int .i64 col] W fun e w' => e = .returned placeN ∧ Below W.heap.size W w' := by
  have hal := (Below.refl W.heap.size W).alloc (Nat.le_refl _) (.cells #[.int .i64 0, .int .i64 0] 29)
  have HT := hide (h.below hal (Nat.le_refl _))
  have HA := hide hal
  have HK := hide hk
  clear h hal hk
  go_enter Try.func17, Try.ntmps17
  go_wp2_with fail
  refine (ends_out B s hs line (unhide HK) _ (unhide HT)).mono ?_
  rintro e w1 ⟨rfl, hb1⟩
  have HB1 := hide ((unhide HA).trans (hb1.mono (unhide HA).size))
  have r1 := (Blk.new W #[.int .i64 0, .int .i64 0] 29).below hb1 (by simp)
  have d0 := r1.cell 0
  have d1 := r1.cell 1
  have f1 := r1.frozen
  clear hb1
  go_wp2
  have q := (r1.set 0 (.int .i64 0)).set 1 (.int .i64 0)
  have e0 := q.cell 0
  have e1 := q.cell 1
  exact bodyPost_ret (v := placeN) (by simp [results, Try.results17, go_sem, e0, e1]) rfl ⟨rfl, ((unhide HB1).setCell (p := ⟨W.heap.size, 0, none⟩) (Nat.le_refl _) _).setCell (p := ⟨W.heap.size, 1, none⟩) (Nat.le_refl _) _⟩
set_option maxRecDepth 100000 in
set_option maxHeartbeats 2000000 in
theorem find_col (B : Nat) (s : ByteArray) (hs : s.size ≤ 65536) (k a b : Nat) (hk : LineAt s k a b) (col : Int) (hc : col < 1 ∨ (b : Int) - (a : Int) + 1 < col) (W : World) (h : TextAt W B s) :
    Calls Try.prog 17 #[.pointer (some ⟨B, 0, none⟩), .int .i64 ((k : Int) + 1), .int .i64 col] W fun e w' => e = .returned placeN ∧ Below W.heap.size W w' := by
  have hal := (Below.refl W.heap.size W).alloc (Nat.le_refl _) (.cells #[.int .i64 0, .int .i64 0] 29)
  have HT := hide (h.below hal (Nat.le_refl _))
  have HA := hide hal
  have HK := hide hk
  have hle := hk.le
  have hl := starts_length s
  have HE : Hid (∀ W', TextAt W' B s → Calls Try.prog 51 #[.pointer (some ⟨B, 0, none⟩), .int .i64 ((k : Int) + 1)] W' fun e w' => e = .returned (endsV a b) ∧ Below W'.heap.size W' w') := hide (fun W' hT => by
    have := ends_in B s hs k a b (unhide HK) W' hT
    rw [show ((k + 1 : Nat) : Int) = (k : Int) + 1 by omega] at this
    exact this)
  have m3 : (a : Int) ≤ 65536 := by omega
  have m4 : (b : Int) ≤ 65536 := by omega
  have m5 : (a : Int) ≤ (b : Int) := by omega
  clear h hal hk
  by_cases hc1 : col < 1
  · go_enter Try.func17, Try.ntmps17
    go_wp2_with fail
    refine (unhide HE _ (unhide HT)).mono ?_
    rintro e w1 ⟨rfl, hb1⟩
    have HB1 := hide ((unhide HA).trans (hb1.mono (unhide HA).size))
    have r1 := (Blk.new W #[.int .i64 0, .int .i64 0] 29).below hb1 (by simp)
    have d0 := r1.cell 0
    have d1 := r1.cell 1
    have f1 := r1.frozen
    clear hb1
    go_wp2
    have q := (r1.set 0 (.int .i64 0)).set 1 (.int .i64 0)
    have e0 := q.cell 0
    have e1 := q.cell 1
    exact bodyPost_ret (v := placeN) (by simp [results, Try.results17, go_sem, e0, e1]) rfl ⟨rfl, ((unhide HB1).setCell (p := ⟨W.heap.size, 0, none⟩) (Nat.le_refl _) _).setCell (p := ⟨W.heap.size, 1, none⟩) (Nat.le_refl _) _⟩
  · have hc2 : (b : Int) - (a : Int) + 1 < col := by omega
    go_enter Try.func17, Try.ntmps17
    go_wp2_with fail
    refine (unhide HE _ (unhide HT)).mono ?_
    rintro e w1 ⟨rfl, hb1⟩
    have HB1 := hide ((unhide HA).trans (hb1.mono (unhide HA).size))
    have r1 := (Blk.new W #[.int .i64 0, .int .i64 0] 29).below hb1 (by simp)
    have d0 := r1.cell 0
    have d1 := r1.cell 1
    have f1 := r1.frozen
    clear hb1
    go_wp2
    have q := (r1.set 0 (.int .i64 0)).set 1 (.int .i64 0)
    have e0 := q.cell 0
    have e1 := q.cell 1
    exact bodyPost_ret (v := placeN) (by simp [results, Try.results17, go_sem, e0, e1]) rfl ⟨rfl, ((unhide HB1).setCell (p := ⟨W.heap.size, 0, none⟩) (Nat.le_refl _) _).setCell (p := ⟨W.heap.size, 1, none⟩) (Nat.le_refl _) _⟩
end Go.Proofs.Ytaafecaclkagiab
