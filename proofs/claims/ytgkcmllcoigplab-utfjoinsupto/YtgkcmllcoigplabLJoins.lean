/- The reference's Joins where a text is empty; and then UtfJoins, for every two texts of at most a million letters each. -/
import Derived.Test.YtgkcmllcoigplabRefJoins
namespace Go.Proofs.Ytgkcmllcoigplab
open Go.RowKit Go.Shelf
set_option linter.unusedVariables false

set_option maxRecDepth 100000 in
set_option maxHeartbeats 4000000 in
theorem refJoins_ee (s t : ByteArray) (hs : s.size ≤ 1048576) (ht : t.size ≤ 1048576) (hs0 : s.size = 0) (ht0 : t.size = 0) (w : World) :
    Calls Try.prog 25 #[.string s, .string t] w fun e w' => e = .returned (.bool (joinsV s t)) ∧ Below w.heap.size w w' := by
  have hst : (s ++ t).size = s.size + t.size := ByteArray.size_append
  have hJ : joinsV s t = true := joins_empty_left s t hs0
  have HJ := hide hJ
  have hJL := joins_len hJ
  have hA : (starts s).length = 0 := by rw [starts_empty s (by omega)]; rfl
  have hB : (starts t).length = 0 := by rw [starts_empty t (by omega)]; rfl
  have hC : (starts (s ++ t)).length = 0 := by omega
  have hlA := starts_length s
  have hlB := starts_length t
  have HS0 := hide hs0
  have HT0 := hide ht0
  clear hJ hs0 ht0
  go_enter Try.func25, Try.ntmps25
  go_wp2_with fail
  refine (refSpots_any s (by omega) _).mono ?_
  rintro e w1 ⟨v, rfl, hown, hb⟩
  obtain ⟨adA, capA, rfl⟩ := row_empty hown hA
  have HB1 := hide hb
  clear hb hown
  go_wp2_with fail
  refine (refSpots_any t (by omega) _).mono ?_
  rintro e w2 ⟨v, rfl, hown, hb⟩
  obtain ⟨adB, capB, rfl⟩ := row_empty hown hB
  have HB2 := hide ((unhide HB1).trans (hb.mono (unhide HB1).size))
  clear hb hown
  go_wp2_with fail
  refine (refSpots_any (s ++ t) (by omega) _).mono ?_
  rintro e w3 ⟨v, rfl, hown, hb⟩
  have HB3 := hide ((unhide HB2).trans (hb.mono (unhide HB2).size))
  obtain ⟨adC, capC, rfl⟩ := row_empty hown hC
  clear hb hown
  go_wp2
  go_loopw [8] (fun i wr => i = .int .i64 0 ∧ wr = w3) (fun _ _ => 0)
  case atStart => exact ⟨rfl, rfl⟩
  case round =>
    obtain ⟨rfl, rfl⟩ := hrel
    go_wp2
    go_ret
    exact ⟨by rw [unhide HJ]; rfl, unhide HB3⟩

set_option maxRecDepth 100000 in
set_option maxHeartbeats 4000000 in
theorem refJoins_en (s t : ByteArray) (hs : s.size ≤ 1048576) (ht : t.size ≤ 1048576) (hs0 : s.size = 0) (ht0 : 0 < t.size) (w : World) :
    Calls Try.prog 25 #[.string s, .string t] w fun e w' => e = .returned (.bool (joinsV s t)) ∧ Below w.heap.size w w' := by
  have hst : (s ++ t).size = s.size + t.size := ByteArray.size_append
  have hJ : joinsV s t = true := joins_empty_left s t hs0
  have HJ := hide hJ
  have hJL := joins_len hJ
  have hA : (starts s).length = 0 := by rw [starts_empty s (by omega)]; rfl
  have hB := starts_pos' t ht0
  have hC := starts_pos' (s ++ t) (by omega)
  have hlA := starts_length s
  have hlB := starts_length t
  have HS0 := hide hs0
  have HT0 := hide ht0
  clear hJ hs0 ht0
  go_enter Try.func25, Try.ntmps25
  go_wp2_with fail
  refine (refSpots_any s (by omega) _).mono ?_
  rintro e w1 ⟨v, rfl, hown, hb⟩
  obtain ⟨adA, capA, rfl⟩ := row_empty hown hA
  have HB1 := hide hb
  clear hb hown
  go_wp2_with fail
  refine (refSpots_any t (by omega) _).mono ?_
  rintro e w2 ⟨v, rfl, hown, hb⟩
  obtain ⟨gB, capB, rfl, hgB, hRB⟩ := rowAt_of hown hB
  have HRB := hide hRB
  clear hRB
  have HB2 := hide ((unhide HB1).trans (hb.mono (unhide HB1).size))
  clear hb hown
  go_wp2_with fail
  refine (refSpots_any (s ++ t) (by omega) _).mono ?_
  rintro e w3 ⟨v, rfl, hown, hb⟩
  have HB3 := hide ((unhide HB2).trans (hb.mono (unhide HB2).size))
  obtain ⟨gC, capC, rfl, hgC, hRC⟩ := rowAt_of hown hC
  have HRC := hide hRC
  have HRB3 := hide ((unhide HRB).below hb hgB)
  have hgB3 : gB < w3.heap.size := Nat.lt_of_lt_of_le hgB hb.size
  clear HRB hgB
  clear hb hown hRC
  have HLX := hide hJL
  have hXC : (starts (s ++ t)).length = (starts t).length := by omega
  rw [hXC]
  have HXC := hide hXC
  generalize hnX : (starts t).length = nX at *
  have HnX := hide hnX
  clear hnX hXC hJL
  have hlen2 : ((nX : Int) != (nX : Int)) = false := by simp
  have hsum : (nX : Int) ≤ 4194304 := by omega
  go_wp2
  go_loopw [8] (fun i wr => ∃ k : Nat, k ≤ nX ∧ i = .int .i64 k ∧ Below w3.heap.size w3 wr) (fun i _ => nX - (intOf i).toNat)
  case atStart => exact ⟨0, by omega, rfl, Below.refl _ _⟩
  case round =>
    obtain ⟨k, hk, rfl, hBw⟩ := hrel
    have hgCw : gC < wr.heap.size := Nat.lt_of_lt_of_le hgC hBw.size
    have hgXw : gB < wr.heap.size := Nat.lt_of_lt_of_le hgB3 hBw.size
    by_cases hkC : k < nX
    · obtain ⟨x, hx⟩ : ∃ x, (starts (s ++ t))[k]? = some x := ⟨_, List.getElem?_eq_getElem (by have := unhide HXC; have := unhide HnX; omega)⟩
      obtain ⟨c0, c1, c2, c3⟩ := ((unhide HRC).below hBw hgC) k x hx
      have hkC' : (k : Int) < (nX : Int) := by omega
      obtain ⟨y, hy⟩ : ∃ y, (starts t)[k]? = some y := ⟨_, List.getElem?_eq_getElem (by have := unhide HnX; omega)⟩
      obtain ⟨d0, d1, d2, d3⟩ := ((unhide HRB3).below hBw hgB3) k y hy
      have hT := joins_tupB (s := s) (t := t) (unhide HJ) (by omega) hx (by rw [hA]; exact hy)
      have hyb : y < t.size := (startsFrom_ge t _ _ y (List.mem_of_getElem? hy)).2
      have hk0 : ¬ (k : Int) < 0 := by omega
      have hk0' : (0 : Int) ≤ k := by omega
      clear hx hy
      rcases hQ : tup t 0 y with ⟨q0, q1, q2, q3⟩
      have hq1 : q1 = (y : Int) := by have := congrArg (fun q : Tup => q.2.1) hQ; simp only [tup] at this; omega
      have hQ2 : tup t s.size y = (q0, q1 + (s.size : Int), q2, q3) := by
        have e0 := congrArg (fun q : Tup => q.1) hQ
        have e2 := congrArg (fun q : Tup => q.2.2.1) hQ
        have e3 := congrArg (fun q : Tup => q.2.2.2) hQ
        simp only [tup] at e0 e2 e3 ⊢
        rw [e0, e2, e3, hq1]
      rw [hT, hQ2] at c0 c1 c2 c3
      rw [hQ] at d0 d1 d2 d3
      have hq1a : 0 ≤ q1 := by omega
      have hq1b : q1 + (s.size : Int) ≤ 4194304 := by omega
      clear hQ hQ2 hq1 hT
      have hlt := hBw.size
      go_wp2
      go_quiet (fail)
      go_wp2
      go_roundw
      case rel => exact ⟨k + 1, by omega, by go_num, below_drewN (hBw.alloc hBw.size _) _⟩
      case measure => simp [intOf]; omega
    · have hkC' : ¬ (k : Int) < (nX : Int) := by omega
      go_wp2
      go_ret
      exact ⟨by rw [unhide HJ]; rfl, (unhide HB3).trans (hBw.mono (unhide HB3).size)⟩

set_option maxRecDepth 100000 in
set_option maxHeartbeats 4000000 in
theorem refJoins_ne (s t : ByteArray) (hs : s.size ≤ 1048576) (ht : t.size ≤ 1048576) (hs0 : 0 < s.size) (ht0 : t.size = 0) (w : World) :
    Calls Try.prog 25 #[.string s, .string t] w fun e w' => e = .returned (.bool (joinsV s t)) ∧ Below w.heap.size w w' := by
  have hst : (s ++ t).size = s.size + t.size := ByteArray.size_append
  have hJ : joinsV s t = true := joins_empty_right s t ht0
  have HJ := hide hJ
  have hJL := joins_len hJ
  have hA := starts_pos' s hs0
  have hB : (starts t).length = 0 := by rw [starts_empty t (by omega)]; rfl
  have hC := starts_pos' (s ++ t) (by omega)
  have hlA := starts_length s
  have hlB := starts_length t
  have HS0 := hide hs0
  have HT0 := hide ht0
  clear hJ hs0 ht0
  go_enter Try.func25, Try.ntmps25
  go_wp2_with fail
  refine (refSpots_any s (by omega) _).mono ?_
  rintro e w1 ⟨v, rfl, hown, hb⟩
  obtain ⟨gA, capA, rfl, hgA, hRA⟩ := rowAt_of hown hA
  have HRA := hide hRA
  clear hRA
  have HB1 := hide hb
  clear hb hown
  go_wp2_with fail
  refine (refSpots_any t (by omega) _).mono ?_
  rintro e w2 ⟨v, rfl, hown, hb⟩
  obtain ⟨adB, capB, rfl⟩ := row_empty hown hB
  have HB2 := hide ((unhide HB1).trans (hb.mono (unhide HB1).size))
  have HRA2 := hide ((unhide HRA).below hb hgA)
  have hgA2 : gA < w2.heap.size := Nat.lt_of_lt_of_le hgA hb.size
  clear HRA hgA
  clear hb hown
  go_wp2_with fail
  refine (refSpots_any (s ++ t) (by omega) _).mono ?_
  rintro e w3 ⟨v, rfl, hown, hb⟩
  have HB3 := hide ((unhide HB2).trans (hb.mono (unhide HB2).size))
  obtain ⟨gC, capC, rfl, hgC, hRC⟩ := rowAt_of hown hC
  have HRC := hide hRC
  have HRA3 := hide ((unhide HRA2).below hb hgA2)
  have hgA3 : gA < w3.heap.size := Nat.lt_of_lt_of_le hgA2 hb.size
  clear HRA2 hgA2
  clear hb hown hRC
  have HLX := hide hJL
  have hXC : (starts (s ++ t)).length = (starts s).length := by omega
  rw [hXC]
  have HXC := hide hXC
  generalize hnX : (starts s).length = nX at *
  have HnX := hide hnX
  clear hnX hXC hJL
  have hlen2 : ((nX : Int) != (nX : Int)) = false := by simp
  have hsum : (nX : Int) ≤ 4194304 := by omega
  go_wp2
  go_loopw [8] (fun i wr => ∃ k : Nat, k ≤ nX ∧ i = .int .i64 k ∧ Below w3.heap.size w3 wr) (fun i _ => nX - (intOf i).toNat)
  case atStart => exact ⟨0, by omega, rfl, Below.refl _ _⟩
  case round =>
    obtain ⟨k, hk, rfl, hBw⟩ := hrel
    have hgCw : gC < wr.heap.size := Nat.lt_of_lt_of_le hgC hBw.size
    have hgXw : gA < wr.heap.size := Nat.lt_of_lt_of_le hgA3 hBw.size
    by_cases hkC : k < nX
    · obtain ⟨x, hx⟩ : ∃ x, (starts (s ++ t))[k]? = some x := ⟨_, List.getElem?_eq_getElem (by have := unhide HXC; have := unhide HnX; omega)⟩
      obtain ⟨c0, c1, c2, c3⟩ := ((unhide HRC).below hBw hgC) k x hx
      have hkC' : (k : Int) < (nX : Int) := by omega
      obtain ⟨y, hy⟩ : ∃ y, (starts s)[k]? = some y := ⟨_, List.getElem?_eq_getElem (by have := unhide HnX; omega)⟩
      obtain ⟨d0, d1, d2, d3⟩ := ((unhide HRA3).below hBw hgA3) k y hy
      have hT := joins_tupA (s := s) (t := t) (unhide HJ) hx hy
      clear hx hy
      rw [hT] at c0 c1 c2 c3
      rcases hQ : tup s 0 y with ⟨q0, q1, q2, q3⟩
      rw [hQ] at c0 c1 c2 c3 d0 d1 d2 d3
      clear hQ hT
      have hlt := hBw.size
      go_wp2
      go_quiet (fail)
      go_wp2
      go_roundw
      case rel => exact ⟨k + 1, by omega, by go_num, below_drewN (hBw.alloc hBw.size _) _⟩
      case measure => simp [intOf]; omega
    · have hkC' : ¬ (k : Int) < (nX : Int) := by omega
      go_wp2
      go_ret
      exact ⟨by rw [unhide HJ]; rfl, (unhide HB3).trans (hBw.mono (unhide HB3).size)⟩

theorem refJoins_any (s t : ByteArray) (hs : s.size ≤ 1048576) (ht : t.size ≤ 1048576) (w : World) :
    Calls Try.prog 25 #[.string s, .string t] w fun e w' => e = .returned (.bool (joinsV s t)) ∧ Below w.heap.size w w' := by
  by_cases h : s.size = 0
  · by_cases k : t.size = 0
    · exact refJoins_ee s t hs ht h k w
    · exact refJoins_en s t hs ht h (by omega) w
  · by_cases k : t.size = 0
    · exact refJoins_ne s t hs ht (by omega) k w
    · exact refJoins_nn s t hs ht (by omega) (by omega) w

set_option maxRecDepth 100000 in
set_option maxHeartbeats 4000000 in
theorem ljoins_any (s : ByteArray) (hs : s.size ≤ 1048576) (t : ByteArray) (ht : t.size ≤ 1048576) (w : World) :
    Calls Try.prog 5 #[.string s, .string t] w fun e w' => e = .returned (.bool true) ∧ Below w.heap.size w w' := by
  have hms : s.size ≤ maxLen := by unfold maxLen; omega
  have hmt : t.size ≤ maxLen := by unfold maxLen; omega
  go_enter Try.func5, Try.ntmps5
  go_wp2_with fail
  refine (alive_any _).mono ?_
  rintro e w1 ⟨rfl, hb⟩
  have HB1 := hide hb
  clear hb
  go_wp2_with fail
  refine (joins_any s t hms hmt _).mono ?_
  rintro e w2 ⟨rfl, hb⟩
  have HB2 := hide ((unhide HB1).trans (hb.mono (unhide HB1).size))
  clear hb
  go_wp2_with fail
  refine (refJoins_any s t hs ht _).mono ?_
  rintro e w3 ⟨rfl, hb⟩
  have HB3 := hide ((unhide HB2).trans (hb.mono (unhide HB2).size))
  clear hb
  generalize joinsV s t = b at *
  go_wp2
  go_ret
  exact ⟨by cases b <;> rfl, unhide HB3⟩
end Go.Proofs.Ytgkcmllcoigplab
