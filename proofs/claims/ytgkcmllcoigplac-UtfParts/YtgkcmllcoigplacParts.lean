/- For every text and every number: the two parts of Cut are the text, are cut at a bound, and join; with the number at or below 0 the first part is empty, with the number at or above the length the second one is; else the first spot of the second part reaches beyond the number. -/
import Derived.Test.YtgkcmllcoigplacLast
namespace Go.Proofs.Ytgkcmllcoigplac
open Go.RowKit Go.Shelf
set_option linter.unusedVariables false

theorem cut_cat (s : ByteArray) (p : Nat) (h : p ≤ s.size) : s.extract 0 p ++ s.extract p s.size = s := by
  rw [ByteArray.extract_append_extract, show min 0 p = 0 by omega, show max p s.size = s.size by omega]
  exact ByteArray.extract_zero_size

theorem get_append (u v : ByteArray) (i : Nat) : (u ++ v).get! i = if i < u.size then u.get! i else v.get! (i - u.size) := by
  by_cases h : i < u.size
  · rw [if_pos h, get_lt _ _ (by rw [ByteArray.size_append]; omega), get_lt _ _ h]
    simp [Array.getElem_append_left, h]
  · rw [if_neg h]
    by_cases k : i < (u ++ v).size
    · rw [get_lt _ _ k, get_lt _ _ (by rw [ByteArray.size_append] at k; omega)]
      simp [Array.getElem_append_right, Nat.le_of_not_lt h]
    · rw [get_ge _ _ (by omega), get_ge _ _ (by rw [ByteArray.size_append] at k; omega)]

/-- Cut at p, the two parts join just if p is a bound. -/
theorem joins_cut (s : ByteArray) (p : Nat) (h : p ≤ s.size) : joinsV (s.extract 0 p) (s.extract p s.size) = bdB s p := by
  unfold joinsV
  have e0 : (s.extract 0 p).size = p := by rw [ByteArray.size_extract]; omega
  have e1 : (s.extract p s.size).size = s.size - p := by rw [ByteArray.size_extract]; omega
  rw [e0, e1, ByteArray.extract_extract, ByteArray.extract_extract]
  symm
  refine bd_near s _ p _ h ?_ ?_ ?_ ?_
  · rw [ByteArray.size_append, ByteArray.size_extract, ByteArray.size_extract]; omega
  · omega
  · rw [ByteArray.size_append, ByteArray.size_extract, ByteArray.size_extract]; omega
  · intro i j hij hi hj h3 h4
    rw [ByteArray.size_append, ByteArray.size_extract, ByteArray.size_extract] at hj
    unfold bt
    rw [get_append, ByteArray.size_extract]
    split
    · rw [get_extract _ _ _ _ (by omega) (by omega)]
      congr 2; omega
    · rw [get_extract _ _ _ _ (by omega) (by omega)]
      congr 2; omega

set_option maxHeartbeats 2000000 in
theorem parts_any (s : ByteArray) (hs : s.size ≤ maxLen) (a : Int) (w : World) :
    Calls Try.prog 4 #[.string s, .int .i64 a] w fun e w' => e = .returned (.bool true) ∧ Below w.heap.size w w' := by
  go_enter Try.func4, Try.ntmps4
  go_wp2_with fail
  refine (alive_any _).mono ?_
  rintro e w1 ⟨rfl, hb1⟩
  go_wp2_with fail
  refine (cut_any s hs a _).mono ?_
  rintro e w2 ⟨rfl, hb2⟩
  have hB2 : Below w.heap.size w w2 := hb1.trans (hb2.mono hb1.size)
  clear hb1 hb2
  obtain ⟨p, hp⟩ : ∃ p, cutAt s (clampV s a) = p := ⟨_, rfl⟩
  have hps : p ≤ s.size := by rw [← hp]; exact Nat.le_trans (cutAt_le s _) (Nat.min_le_right _ _)
  have hbd : bdB s p = true := by rw [← hp]; exact cutAt_bd s _
  have hcat := cut_cat s p hps
  have hjn := (joins_cut s p hps).trans hbd
  have HBD := hide hbd
  have HJN := hide hjn
  rw [hp]
  have HS := hide hs
  unfold maxLen at hs
  have h00 : (s.extract 0 p).size = p := by rw [ByteArray.size_extract]; omega
  have h01 : (s.extract p s.size).size = s.size - p := by rw [ByteArray.size_extract]; omega
  have HP := hide hp
  clear hp hbd hjn
  go_wp2_with fail
  refine (bound_in s (unhide HS) p hps _).mono ?_
  rintro e w3 ⟨rfl, hb3⟩
  have hB3 : Below w.heap.size w w3 := hB2.trans (hb3.mono hB2.size)
  clear hb3 hB2
  rw [HBD.out]
  go_wp2_with fail
  refine (joins_any _ _ (by rw [ByteArray.size_extract]; unfold maxLen; omega) (by rw [ByteArray.size_extract]; unfold maxLen; omega) _).mono ?_
  rintro e w4 ⟨rfl, hb4⟩
  have hB4 : Below w.heap.size w w4 := hB3.trans (hb4.mono hB3.size)
  clear hb4 hB3
  rw [HJN.out]
  by_cases h0 : a ≤ 0
  · obtain rfl : p = 0 := by
      rw [← unhide HP, show clampV s a = 0 by unfold clampV; omega]; rfl
    go_wp2
    go_ret
    exact ⟨rfl, hB4⟩
  by_cases h1 : (s.size : Int) ≤ a
  · obtain rfl : p = s.size := by
      rw [← unhide HP, show clampV s a = s.size by unfold clampV; omega]; exact cutAt_self s _ (bd_end s)
    go_wp2
    go_ret
    exact ⟨rfl, hB4⟩
  · obtain ⟨q, rfl⟩ := Int.eq_ofNat_of_zero_le (show 0 ≤ a by omega)
    have hq : clampV s (q : Int) = q := by unfold clampV; omega
    have hpq : p ≤ q := by rw [← unhide HP, hq]; exact cutAt_le s q
    have hmx : q < p + wd s p := by
      rcases Nat.lt_or_ge q (p + wd s p) with h | h
      · exact h
      · have := cutAt_max s q (p + wd s p) h (bd_step s p (unhide HBD) (by omega))
        rw [← hq, unhide HP] at this
        have := wd_pos s p
        omega
    have hfv := firstV_at s p (by omega)
    generalize decide (rn s p = 65533 ∧ wd s p = 1) = b at hfv
    generalize rn s p = r at hfv
    have hd4 := wd_room s p (by omega)
    generalize wd s p = d at hfv hmx hd4
    have HF := hide hfv
    have hI1 : (p : Int) ≤ (q : Int) := by omega
    have hI3 : (p : Int) + (d : Int) ≤ 2 ^ 63 - 1 := by omega
    have hI2 : (q : Int) < (p : Int) + (d : Int) := by omega
    clear hfv hq
    go_wp2_with fail
    refine (first_any _ (by rw [ByteArray.size_extract]; unfold maxLen; omega) _).mono ?_
    rintro e w5 ⟨rfl, hb5⟩
    have hB5 : Below w.heap.size w w5 := hB4.trans (hb5.mono hB4.size)
    clear hb5 hB4
    rw [HF.out]
    go_wp2
    go_ret
    exact ⟨rfl, hB5.alloc hB5.size _⟩
end Go.Proofs.Ytgkcmllcoigplac
