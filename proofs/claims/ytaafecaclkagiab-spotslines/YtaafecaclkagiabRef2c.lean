/- The reference's Where, Find and Lines, told for every text. -/
import Derived.Test.YtaafecaclkagiabRef2b
namespace Go.Proofs.Ytaafecaclkagiab
open Go.RowKit Go.Shelf
set_option linter.unusedVariables false

theorem lnsGo_has (s : ByteArray) : ∀ (l : List Nat) (k j x : Nat), l[j]? = some x → rn s x = 10 → k + j + 1 ∈ lnsGo s l k
  | [], k, j, x, h, _ => by simp at h
  | y :: l, k, 0, x, h, h10 => by
    simp at h
    subst h
    simp only [lnsGo]
    rw [if_pos h10]
    simp
  | y :: l, k, j + 1, x, h, h10 => by
    simp at h
    have := lnsGo_has s l (k + 1) j x h h10
    rw [show k + 1 + j + 1 = k + (j + 1) + 1 by omega] at this
    simp only [lnsGo]
    split
    · exact List.mem_cons_of_mem _ this
    · exact this
theorem lns_has (s : ByteArray) (i : Nat) (hi : i < (starts s).length) (h : rn s (pl s i) = 10) : ∃ j, (lns s)[j + 1]? = some (i + 1) := by
  have := lnsGo_has s (starts s) 0 i (pl s i) (pl_start s i hi) h
  rw [Nat.zero_add] at this
  obtain ⟨j, hj, e⟩ := List.getElem_of_mem this
  refine ⟨j, ?_⟩
  rw [lns, lnsOf, List.getElem?_cons_succ, List.getElem?_eq_getElem hj, e]
theorem lns_rn (s : ByteArray) (k i : Nat) (h : (lns s)[k + 1]? = some (i + 1)) : rn s (pl s i) = 10 := by
  have hm : i + 1 ∈ lnsGo s (starts s) 0 := by
    have h2 := h
    rw [lns, lnsOf, List.getElem?_cons_succ] at h2
    exact List.mem_of_getElem? h2
  have hlo := (lnsGo_low s (starts s) 0 _ hm).2
  obtain ⟨x, hx, h10⟩ := lnsGo_nl s (starts s) 0 _ hm
  rw [show i + 1 - 1 - 0 = i by omega, pl_start s i (by omega)] at hx
  cases hx
  exact h10
theorem lineOf_nl (s : ByteArray) (i k a : Nat) (h : LineOf s i k a) (hi : i < (starts s).length) (h10 : rn s (pl s i) = 10) : LineOf s (i + 1) (k + 1) (i + 1) := by
  obtain ⟨j, hj⟩ := lns_has s i hi h10
  have hjk : j = k := by
    rcases Nat.lt_trichotomy j k with e | e | e
    · exfalso
      rcases Nat.lt_or_ge (j + 1) k with e2 | e2
      · have := rises_lns s (j + 1) k _ _ e2 hj h.1; have := h.2.1; omega
      · have h1 := h.1; rw [show k = j + 1 by omega, hj] at h1; cases h1; have := h.2.1; omega
    · exact e
    · exfalso
      have hl := (List.getElem?_eq_some_iff.1 hj).1
      obtain ⟨y, hy⟩ : ∃ y, (lns s)[k + 1]? = some y := ⟨_, List.getElem?_eq_getElem (by omega)⟩
      have h1 := h.2.2 y hy
      have h2 := rises_lns s (k + 1) (j + 1) _ _ (by omega) hy hj
      omega
  subst hjk
  exact ⟨hj, Nat.le_refl _, fun y hy => rises_lns s (j + 1) (j + 1 + 1) _ _ (by omega) hj hy⟩
theorem lineOf_no (s : ByteArray) (i k a : Nat) (h : LineOf s i k a) (h10 : ¬ rn s (pl s i) = 10) : LineOf s (i + 1) k a := by
  refine ⟨h.1, by have := h.2.1; omega, fun y hy => ?_⟩
  have h1 := h.2.2 y hy
  rcases Nat.lt_or_ge (i + 1) y with e | e
  · exact e
  · rw [show y = i + 1 by omega] at hy
    exact absurd (lns_rn s k i hy) h10
theorem lineOf_unique (s : ByteArray) (n k a k2 a2 : Nat) (h : LineOf s n k a) (h2 : LineOf s n k2 a2) : k = k2 ∧ a = a2 := by
  have e := hold_unique (lns s) (rises_lns s) n k a k2 a2 h.1 h.2.1 h.2.2 h2.1 h2.2.1 h2.2.2
  subst e
  have h3 := h.1
  rw [h2.1] at h3
  cases h3
  exact ⟨rfl, rfl⟩
theorem lineOf_zero (s : ByteArray) : LineOf s 0 0 0 := ⟨head_lns s, Nat.le_refl _, fun y hy => by have := lns_pos s 0 y hy; omega⟩

set_option maxRecDepth 100000 in
set_option maxHeartbeats 4000000 in
theorem refWhere_any (s : ByteArray) (hs : s.size ≤ 65536) (n : Nat) (hn : n ≤ (starts s).length) (w : World) : Calls Try.prog 34 #[.string s, .int .i64 n] w fun e w' => ∃ k a, LineOf s n k a ∧ e = .returned (.tuple #[.int .i64 ((k : Int) + 1), .int .i64 ((n : Int) - (a : Int) + 1)]) ∧ Below w.heap.size w w' := by
  have hnl := starts_length s
  have hll := lns_length s
  go_enter Try.func34, Try.ntmps34
  go_wp2_with fail
  refine (refSpots_any s (by omega) _).mono ?_
  rintro e w1 ⟨v, rfl, hown, hb1⟩
  obtain ⟨la, cap, rfl, hc⟩ := rows_form hown
  have HC := hide hc
  have HB := hide hb1
  clear hb1 hown hc
  go_wp2
  go_loop [7, 8, 9] (fun l c i => ∃ j k a : Nat, j ≤ n ∧ i = .int .i64 j ∧ l = .int .i64 ((k : Int) + 1) ∧ c = .int .i64 ((j : Int) - (a : Int) + 1) ∧ k ≤ 65537 ∧ a ≤ j ∧ Hid (LineOf s j k a)) (fun _ _ i => n - (intOf i).toNat)
  case atStart => exact ⟨0, 0, 0, by omega, rfl, rfl, rfl, by omega, by omega, hide (lineOf_zero s)⟩
  case round =>
    obtain ⟨j, k, a, hj, rfl, rfl, rfl, hkb, haj, HL⟩ := hrel
    have k1 : (k : Int) ≤ 65537 := by omega
    have k2 : (j : Int) ≤ 65536 := by omega
    have k3 : (a : Int) ≤ (j : Int) := by omega
    by_cases hjn : j < n
    · obtain ⟨g, rfl, hg, hcc⟩ := unhide HC j (by omega)
      have c0 : w1.cell? ⟨g, j * 4, none⟩ = some (.int .i32 ((rn s (pl s j) : Nat) : Int)) := hcc 0 (by omega)
      have j1 : (j : Int) < (n : Int) := by omega
      have j2 : (j : Int) < ((starts s).length : Int) := by omega
      have j3 : ((j : Nat) : Int).toNat = j := by omega
      have hlt2 : j < (starts s).length := by omega
      clear hcc
      by_cases h10 : rn s (pl s j) = 10
      · have HN := hide (lineOf_nl s j k a (unhide HL) hlt2 h10)
        have hkl : k + 1 < (lns s).length := (List.getElem?_eq_some_iff.1 (unhide HN).1).1
        have hkk : k + 1 ≤ 65537 := by omega
        rw [h10] at c0
        clear h10 hll hkl
        go_wp2
        go_round
        case rel => exact ⟨j + 1, k + 1, j + 1, by omega, by go_num, by go_num, by congr 1; omega, hkk, Nat.le_refl _, HN⟩
        case measure => simp [intOf]; omega
      · have HN := hide (lineOf_no s j k a (unhide HL) h10)
        have hb10 : (((rn s (pl s j) : Nat) : Int) == 10) = false := beq_eq_false_iff_ne.2 (by omega)
        generalize ((rn s (pl s j) : Nat) : Int) = rr at *
        clear h10 hll
        go_wp2
        go_round
        case rel => exact ⟨j + 1, k, a, by omega, by go_num, rfl, by congr 1; omega, hkb, by omega, HN⟩
        case measure => simp [intOf]; omega
    · have j1 : ¬ (j : Int) < (n : Int) := by omega
      obtain rfl : j = n := by omega
      clear hll
      go_wp2
      go_ret2
      exact ⟨k, a, unhide HL, rfl, unhide HB⟩

/-- The spot number i stands in that line and column. -/
def Match (s : ByteArray) (i : Nat) (line col : Int) : Prop := ∃ k a, LineOf s i k a ∧ (k : Int) + 1 = line ∧ (i : Int) - (a : Int) + 1 = col

set_option maxRecDepth 100000 in
set_option maxHeartbeats 4000000 in
theorem refFind_any (s : ByteArray) (hs : s.size ≤ 65536) (line col : Int) (w : World) : Calls Try.prog 35 #[.string s, .int .i64 line, .int .i64 col] w fun e w' => ((∃ i : Nat, i ≤ (starts s).length ∧ Match s i line col ∧ e = .returned (.int .i64 i)) ∨ ((∀ i, i ≤ (starts s).length → ¬ Match s i line col) ∧ e = .returned (.int .i64 (-1)))) ∧ Below w.heap.size w w' := by
  have hnl := starts_length s
  go_enter Try.func35, Try.ntmps35
  go_wp2_with fail
  refine (refSpots_any s (by omega) _).mono ?_
  rintro e w1 ⟨v, rfl, hown, hb1⟩
  obtain ⟨la, cap, rfl, hc⟩ := rows_form hown
  have HB := hide hb1
  clear hb1 hown hc
  go_wp2
  go_loopw [8] (fun i wr => ∃ j : Nat, j ≤ (starts s).length + 1 ∧ i = .int .i64 j ∧ Hid (∀ q, q < j → ¬ Match s q line col) ∧ Hid (Below w.heap.size w wr)) (fun i _ => (starts s).length + 1 - (intOf i).toNat)
  case atStart => exact ⟨0, by omega, rfl, hide (fun q hq => by omega), HB⟩
  case round =>
    obtain ⟨j, hj, rfl, HM, HBr⟩ := hrel
    by_cases hjn : j ≤ (starts s).length
    · have j1 : (j : Int) ≤ ((starts s).length : Int) := by omega
      have j2 : (j : Int) ≤ 65536 := by omega
      clear hj
      go_wp2_with fail
      refine (refWhere_any s hs j hjn _).mono ?_
      rintro e w2 ⟨k, a, hla, rfl, hb⟩
      have HLA := hide hla
      have HB2 := hide ((unhide HBr).trans (hb.mono (unhide HBr).size))
      clear hb hla
      by_cases h1 : (k : Int) + 1 = line
      · by_cases h2 : (j : Int) - (a : Int) + 1 = col
        · have HMT := hide (show Match s j line col from ⟨k, a, unhide HLA, h1, h2⟩)
          have b1 : ((k : Int) + 1 == line) = true := beq_iff_eq.2 h1
          have b2 : ((j : Int) - (a : Int) + 1 == col) = true := beq_iff_eq.2 h2
          clear h1 h2
          generalize (k : Int) + 1 = K at *
          generalize (j : Int) - (a : Int) + 1 = C at *
          go_wp2
          go_ret
          exact ⟨.inl ⟨j, hjn, unhide HMT, rfl⟩, unhide HB2⟩
        · have HMT := hide (show ¬ Match s j line col from fun ⟨k2, a2, h3, h4, h5⟩ => by
            obtain ⟨rfl, rfl⟩ := lineOf_unique s j k a k2 a2 (unhide HLA) h3
            exact h2 h5)
          have b1 : ((k : Int) + 1 == line) = true := beq_iff_eq.2 h1
          have b2 : ((j : Int) - (a : Int) + 1 == col) = false := beq_eq_false_iff_ne.2 h2
          clear h1 h2
          generalize (k : Int) + 1 = K at *
          generalize (j : Int) - (a : Int) + 1 = C at *
          go_wp2
          go_roundw
          case rel =>
            refine ⟨j + 1, by omega, by go_num, hide (fun q hq => ?_), HB2⟩
            by_cases e : q = j
            · subst e; exact unhide HMT
            · exact unhide HM q (by omega)
          case measure => simp [intOf]; omega
      · have HMT := hide (show ¬ Match s j line col from fun ⟨k2, a2, h3, h4, h5⟩ => by
          obtain ⟨rfl, rfl⟩ := lineOf_unique s j k a k2 a2 (unhide HLA) h3
          exact h1 h4)
        have b1 : ((k : Int) + 1 == line) = false := beq_eq_false_iff_ne.2 h1
        clear h1
        generalize (k : Int) + 1 = K at *
        generalize (j : Int) - (a : Int) + 1 = C at *
        go_wp2
        go_roundw
        case rel =>
          refine ⟨j + 1, by omega, by go_num, hide (fun q hq => ?_), HB2⟩
          by_cases e : q = j
          · subst e; exact unhide HMT
          · exact unhide HM q (by omega)
        case measure => simp [intOf]; omega
    · have j1 : ¬ (j : Int) ≤ ((starts s).length : Int) := by omega
      have HF := hide (show ∀ i, i ≤ (starts s).length → ¬ Match s i line col from fun i hi => unhide HM i (by omega))
      clear hj
      go_wp2
      go_ret
      exact ⟨.inr ⟨unhide HF, rfl⟩, unhide HBr⟩
end Go.Proofs.Ytaafecaclkagiab
