/- Last, told for every text; and what every statement asks first: that the text of an e and of a bad byte has its two spots. -/
import Derived.Test.YtnphbjhikapoeaaBound
namespace Go.Proofs.Ytnphbjhikapoeaa
open Go.RowKit Go.Shelf
set_option linter.unusedVariables false

/-- Does a sequence of m bytes end the text? -/
def goodEnd (s : ByteArray) (m : Nat) : Bool := decide (m ≤ s.size ∧ wd s (s.size - m) = m ∧ ¬ (rn s (s.size - m) = 65533 ∧ wd s (s.size - m) = 1))
def lastS (s : ByteArray) : Int × Int × Bool :=
  if goodEnd s 1 then spotV s (s.size - 1) else if goodEnd s 2 then spotV s (s.size - 2) else if goodEnd s 3 then spotV s (s.size - 3) else if goodEnd s 4 then spotV s (s.size - 4) else (65533, 1, true)
def lastV (s : ByteArray) : Value := if 0 < s.size then .tuple #[encSpot (lastS s), .bool true] else .tuple #[encSpot (0, 0, false), .bool false]
theorem lastV_pos {s : ByteArray} (h : 0 < s.size) : lastV s = .tuple #[encSpot (lastS s), .bool true] := if_pos h
theorem lastV_neg {s : ByteArray} (h : ¬ 0 < s.size) : lastV s = .tuple #[encSpot (0, 0, false), .bool false] := if_neg h
theorem lastS_hit (s : ByteArray) (k : Nat) (h1 : 1 ≤ k) (h4 : k ≤ 4) (hg : goodEnd s k = true) (hn : ∀ m, m < k → 1 ≤ m → goodEnd s m = false) : lastS s = spotV s (s.size - k) := by
  have : k = 1 ∨ k = 2 ∨ k = 3 ∨ k = 4 := by omega
  unfold lastS
  rcases this with rfl | rfl | rfl | rfl
  · rw [if_pos hg]
  · rw [if_neg (by simp [hn 1]), if_pos hg]
  · rw [if_neg (by simp [hn 1]), if_neg (by simp [hn 2]), if_pos hg]
  · rw [if_neg (by simp [hn 1]), if_neg (by simp [hn 2]), if_neg (by simp [hn 3]), if_pos hg]
theorem lastS_none (s : ByteArray) (hn : ∀ m, m < 5 → 1 ≤ m → goodEnd s m = false) : lastS s = (65533, 1, true) := by
  unfold lastS
  rw [if_neg (by simp [hn 1]), if_neg (by simp [hn 2]), if_neg (by simp [hn 3]), if_neg (by simp [hn 4])]

set_option maxHeartbeats 1000000 in
theorem last_empty (s : ByteArray) (h : s = ⟨#[]⟩) (w : World) :
    Calls Try.prog 77 #[.string s] w fun e w' => e = .returned (lastV s) ∧ Below w.heap.size w w' := by
  subst h
  go_enter Try.func77, Try.ntmps77
  go_wp2
  exact bodyPost_ret (v := .tuple #[encSpot (0, 0, false), .bool false]) (by simp [results, Try.results77, go_sem]) rfl ⟨by rw [lastV_neg (by decide)], (Below.refl _ _).alloc (Nat.le_refl _) _⟩

set_option maxHeartbeats 2000000 in
theorem last_full (s : ByteArray) (hs : s.size ≤ maxLen) (h : 0 < s.size) (w : World) :
    Calls Try.prog 77 #[.string s] w fun e w' => e = .returned (lastV s) ∧ Below w.heap.size w w' := by
  have he : (s.toList == []) = false := by rw [ByteArray.toList_eq]; cases hx : s.data.toList with
    | nil => have : s.size = 0 := by show s.data.size = 0; rw [← Array.length_toList, hx]; rfl
             omega
    | cons a l => rfl
  unfold maxLen at hs
  go_enter Try.func77, Try.ntmps77
  go_wp2
  go_loopw [4] (fun i wr => ∃ k : Nat, 1 ≤ k ∧ k ≤ 5 ∧ i = .int .i64 k ∧ Hid (∀ m, m < k → 1 ≤ m → goodEnd s m = false) ∧ Blk wr w.heap.size (spotCells (0, 0, false)) 37 ∧ Below w.heap.size w wr) (fun i _ => 5 - (intOf i).toNat)
  case atStart => exact ⟨1, by omega, by omega, rfl, hide (fun m h1 h2 => by omega), Blk.new w _ 37, (Below.refl _ _).alloc (Nat.le_refl _) _⟩
  case round =>
    obtain ⟨k, hk1, hk5, rfl, H, hb, hB⟩ := hrel
    by_cases hk : k ≤ 4 ∧ k ≤ s.size
    · obtain ⟨h4, hkp⟩ := hk
      have hfv := firstV_at s (s.size - k) (by omega)
      have hge : goodEnd s k = (decide (wd s (s.size - k) = k) && !decide (rn s (s.size - k) = 65533 ∧ wd s (s.size - k) = 1)) := by
        unfold goodEnd
        rw [Bool.eq_iff_iff]
        simp [hkp]
      have hsv : spotV s (s.size - k) = (((rn s (s.size - k) : Nat) : Int), ((wd s (s.size - k) : Nat) : Int), decide (rn s (s.size - k) = 65533 ∧ wd s (s.size - k) = 1)) := rfl
      generalize decide (rn s (s.size - k) = 65533 ∧ wd s (s.size - k) = 1) = b at hfv hge hsv
      generalize rn s (s.size - k) = r at hfv hsv
      generalize wd s (s.size - k) = d at hfv hge hsv
      have HF := hide hfv
      have HG := hide hge
      have HV := hide hsv
      clear hfv hge hsv
      go_wp2_with fail
      refine (first_any _ (by rw [ByteArray.size_extract]; unfold maxLen; omega) _).mono ?_
      rintro e w1 ⟨rfl, hb1⟩
      rw [HF.out]
      have hB1 : Below w.heap.size w w1 := hB.trans (hb1.mono hB.size)
      have hk2 := hb.below hb1 hb.lt
      clear hb1 hb
      have hlt := hk2.lt
      have c0 := hk2.cell 0
      have c1 := hk2.cell 1
      have c2 := hk2.cell 2
      have f0 := hk2.frozen
      by_cases hd : d = k
      · have hd' : ((d : Int) == (k : Int)) = true := by simp [hd]
        cases b with
        | false =>
          go_wp2
          have q := ((((hk2.set 0 (.int .i32 r)).set 1 (.int .i64 k)).set 2 (.bool false)).alloc (.cells #[.int .i32 r, .int .i64 k, .bool false] 37))
          have q0 := q.cell 0
          have q1 := q.cell 1
          have q2 := q.cell 2
          have hl : lastS s = (((r : Nat) : Int), ((k : Nat) : Int), false) := by rw [lastS_hit s k hk1 h4 (by rw [HG.out]; simp [hd]) (fun m h1 h2 => H.out m h1 h2), HV.out, hd]
          refine bodyPost_ret (v := .tuple #[encSpot (((r : Nat) : Int), ((k : Nat) : Int), false), .bool true]) (by simp [results, Try.results77, go_sem, q0, q1, q2]) rfl ⟨by rw [lastV_pos h, hl], ?_⟩
          exact (((hB1.setCell (p := ⟨w.heap.size, 0, none⟩) (Nat.le_refl _) _).setCell (p := ⟨w.heap.size, 1, none⟩) (Nat.le_refl _) _).setCell (p := ⟨w.heap.size, 2, none⟩) (Nat.le_refl _) _).alloc (by simp; omega) _
        | true =>
          go_wp2
          go_roundw
          case rel =>
            refine ⟨k + 1, by omega, by omega, by go_num, hide (fun m h1 h2 => ?_), hk2.alloc _, hB1.alloc hB1.size _⟩
            by_cases e : m = k
            · subst e; rw [HG.out]; simp
            · exact H.out m (by omega) h2
          case measure => simp [intOf]; omega
      · have hd' : ((d : Int) == (k : Int)) = false := by simp; omega
        go_wp2
        go_roundw
        case rel =>
          refine ⟨k + 1, by omega, by omega, by go_num, hide (fun m h1 h2 => ?_), hk2.alloc _, hB1.alloc hB1.size _⟩
          by_cases e : m = k
          · subst e; rw [HG.out]; simp [hd]
          · exact H.out m (by omega) h2
        case measure => simp [intOf]; omega
    · have hall : ∀ m, m < 5 → 1 ≤ m → goodEnd s m = false := fun m h1 h2 => by
        by_cases hm : m < k
        · exact H.out m hm h2
        · unfold goodEnd
          exact decide_eq_false (by omega)
      have HL := hide (lastS_none s hall)
      have hlt := hb.lt
      have c0 := hb.cell 0
      have c1 := hb.cell 1
      have c2 := hb.cell 2
      have f0 := hb.frozen
      clear hall H
      by_cases h4 : k ≤ 4
      all_goals
        go_wp2_with (go_at_call 87; refine (badSpot_any _).mono ?_; rintro e w1 ⟨rfl, rfl⟩)
        have q := ((((hb.set 0 (.int .i32 65533)).set 1 (.int .i64 1)).set 2 (.bool true)).alloc (.cells #[.int .i32 65533, .int .i64 1, .bool true] 37))
        have q0 := q.cell 0
        have q1 := q.cell 1
        have q2 := q.cell 2
        refine bodyPost_ret (v := .tuple #[encSpot (65533, 1, true), .bool true]) (by simp [results, Try.results77, go_sem, q0, q1, q2]) rfl ⟨by rw [lastV_pos h, HL.out], ?_⟩
        exact (((hB.setCell (p := ⟨w.heap.size, 0, none⟩) (Nat.le_refl _) _).setCell (p := ⟨w.heap.size, 1, none⟩) (Nat.le_refl _) _).setCell (p := ⟨w.heap.size, 2, none⟩) (Nat.le_refl _) _).alloc (by simp; omega) _

theorem last_any (s : ByteArray) (hs : s.size ≤ maxLen) (w : World) : Calls Try.prog 77 #[.string s] w fun e w' => e = .returned (lastV s) ∧ Below w.heap.size w w' := by
  by_cases h : 0 < s.size
  · exact last_full s hs h w
  · refine last_empty s ?_ w
    cases s with
    | mk d =>
      have : d.size = 0 := by have : ¬ 0 < d.size := h; omega
      rw [Array.eq_empty_of_size_eq_zero this]

/-- The text that every statement looks at first. -/
def text0 : ByteArray := ⟨#[195, 169, 255]⟩
theorem first0 : firstV text0 = .tuple #[.agg #[.int .i32 233, .int .i64 2, .bool false], .bool true] := by
  rw [firstV_pos (by decide)]
  have : Utf8.decode text0 0 = (233, 2) := by decide
  simp [spotV, rn, wd, this]
theorem last0 : lastV text0 = .tuple #[.agg #[.int .i32 65533, .int .i64 1, .bool true], .bool true] := by
  rw [lastV_pos (by decide), show lastS text0 = (65533, 1, true) by decide]

end Go.Proofs.Ytnphbjhikapoeaa
