/- For every text of at most a million letters and every number: Bound and Cut answer as the reference's list of spots says. -/
import Derived.Test.YtgkcmllcoigplabBds
namespace Go.Proofs.Ytgkcmllcoigplab
open Go.RowKit Go.Shelf
set_option linter.unusedVariables false

theorem starts_sorted_from (s : ByteArray) : ∀ f i, (startsFrom s f i).Pairwise (· < ·)
  | 0, i => by simp [startsFrom]
  | f + 1, i => by
    unfold startsFrom
    split
    · have hw := wd_pos s i
      refine List.pairwise_cons.2 ⟨fun p hp => ?_, starts_sorted_from s f _⟩
      have := (startsFrom_ge s f _ p hp).1
      omega
    · exact List.Pairwise.nil
theorem starts_lt (s : ByteArray) {i j x y : Nat} (hi : (starts s)[i]? = some x) (hj : (starts s)[j]? = some y) (h : i < j) : x < y := by
  obtain ⟨h1, rfl⟩ := List.getElem?_eq_some_iff.1 hi
  obtain ⟨h2, rfl⟩ := List.getElem?_eq_some_iff.1 hj
  exact List.pairwise_iff_getElem.1 (starts_sorted_from s s.size 0) i j h1 h2 h

/-- The list of spots as it lies in a world: where it begins, and the number of each spot's first byte. -/
theorem row_at {W : World} {base : Nat} {e : TypeId} {v : Value} {s : ByteArray} (h : W.ownsRow base e 4 v (starts s).length ((starts s).flatMap (refCells s))) (hne : 0 < (starts s).length) :
    ∃ g cap, v = .slice (some ⟨g, 0, none⟩) (starts s).length cap ∧ base ≤ g ∧ g < W.heap.size ∧ (∀ k x : Nat, (starts s)[k]? = some x → W.cell? ⟨g, k * 4 + 1, none⟩ = some (.int .i64 x)) := by
  obtain ⟨g, cap, rfl, h1, h2, _, hc⟩ := row_cells h hne
  refine ⟨g, cap, rfl, h1, h2, fun k x hk => ?_⟩
  have := hc k x hk 1 (by omega)
  rw [Nat.mul_comm] at this
  exact this

theorem starts_pos (s : ByteArray) (h : 0 < s.size) : 0 < (starts s).length := by obtain ⟨r, hr⟩ := starts_head s h; rw [hr]; simp

set_option maxRecDepth 100000 in
set_option maxHeartbeats 4000000 in
theorem refBound_in (s : ByteArray) (hs : s.size ≤ 1048576) (p : Nat) (hp : p ≤ s.size) (w : World) :
    Calls Try.prog 20 #[.string s, .int .i64 p] w fun e w' => e = .returned (.bool (bdB s p)) ∧ Below w.heap.size w w' := by
  by_cases he : p = s.size
  · subst he
    rw [bd_end s]
    go_enter Try.func20, Try.ntmps20
    go_wp2
    go_ret
    exact ⟨rfl, Below.refl _ _⟩
  · have he' : ((p : Int) == (s.size : Int)) = false := beq_eq_false_iff_ne.2 (by omega)
    have hn0 := starts_pos s (by omega)
    have hnl := starts_length s
    have HM := hide (mem_starts s p (by omega))
    go_enter Try.func20, Try.ntmps20
    go_wp2_with fail
    refine (refSpots_any s (by omega) _).mono ?_
    rintro e w1 ⟨v, rfl, hown, hB⟩
    obtain ⟨g, cap, rfl, hg0, hg1, hcell⟩ := row_at hown hn0
    have HC := hide hcell
    clear hcell hown
    go_wp2
    go_loop [6] (fun i => ∃ k : Nat, k ≤ (starts s).length ∧ i = .int .i64 k ∧ Hid (∀ j, j < k → (starts s)[j]? ≠ some p)) (fun i => (starts s).length - (intOf i).toNat)
    case atStart => exact ⟨0, by omega, rfl, hide (fun j hj => by omega)⟩
    case round =>
      obtain ⟨k, hk, rfl, H⟩ := hrel
      by_cases hkn : k < (starts s).length
      · obtain ⟨x, hx⟩ : ∃ x, (starts s)[k]? = some x := ⟨_, List.getElem?_eq_getElem hkn⟩
        have hcx := unhide HC k x hx
        have HX := hide hx
        have hk1 : (k : Int) < ((starts s).length : Int) := by omega
        have hk2 : ((k : Nat) : Int).toNat = k := by omega
        clear hx
        by_cases hxp : x = p
        · have hxb : ((x : Int) == (p : Int)) = true := by rw [beq_iff_eq]; omega
          have hbd : bdB s p = true := (unhide HM).1 (by rw [← hxp]; exact List.mem_of_getElem? (unhide HX))
          have HBD := hide hbd
          clear hbd
          go_wp2
          go_ret
          exact ⟨by rw [unhide HBD]; rfl, hB⟩
        · have hxb : ((x : Int) == (p : Int)) = false := beq_eq_false_iff_ne.2 (by omega)
          go_wp2
          go_round
          case rel =>
            refine ⟨k + 1, by omega, by go_num, hide (fun j hj h => ?_)⟩
            by_cases e : j = k
            · subst e; rw [unhide HX] at h; cases h; exact hxp rfl
            · exact unhide H j (by omega) h
          case measure => simp [intOf]; omega
      · have hk1 : ¬ (k : Int) < ((starts s).length : Int) := by omega
        have hbd : bdB s p = false := by
          rw [← Bool.not_eq_true]
          intro h
          obtain ⟨j, hj⟩ := List.mem_iff_getElem?.1 ((unhide HM).2 h)
          have : j < (starts s).length := (List.getElem?_eq_some_iff.1 hj).1
          exact unhide H j (by omega) hj
        have HBD := hide hbd
        clear hbd
        go_wp2
        go_ret
        exact ⟨by rw [unhide HBD]; rfl, hB⟩

set_option maxRecDepth 100000 in
set_option maxHeartbeats 4000000 in
theorem refCut_in (s : ByteArray) (hs : s.size ≤ 1048576) (a : Int) (ha : 0 < a) (w : World) :
    Calls Try.prog 21 #[.string s, .int .i64 a] w fun e w' => e = .returned (.int .i64 (cutAt s (clampV s a))) ∧ Below w.heap.size w w' := by
  by_cases he : (s.size : Int) ≤ a
  · have hc : cutAt s (clampV s a) = s.size := by
      rw [show clampV s a = s.size by unfold clampV; omega]; exact cutAt_self s _ (bd_end s)
    rw [hc]
    clear hc
    go_enter Try.func21, Try.ntmps21
    go_wp2
    go_ret
    exact ⟨rfl, Below.refl _ _⟩
  · obtain ⟨p, rfl⟩ := Int.eq_ofNat_of_zero_le (show 0 ≤ a by omega)
    have hq : clampV s (p : Int) = p := by unfold clampV; omega
    rw [hq]
    have hps : p < s.size := by omega
    have hn0 := starts_pos s (by omega)
    have hnl := starts_length s
    clear hq
    go_enter Try.func21, Try.ntmps21
    go_wp2_with fail
    refine (refSpots_any s (by omega) _).mono ?_
    rintro e w1 ⟨v, rfl, hown, hB⟩
    obtain ⟨g, cap, rfl, hg0, hg1, hcell⟩ := row_at hown hn0
    have HC := hide hcell
    clear hcell hown
    go_wp2
    go_loop [5, 7] (fun b i => ∃ (k q : Nat), k ≤ (starts s).length ∧ i = .int .i64 k ∧ b = .int .i64 q ∧ q ≤ p ∧ Hid (bdB s q = true) ∧ Hid (∀ j x, j < k → (starts s)[j]? = some x → x ≤ p → x ≤ q) ∧ Hid (q = 0 ∨ ∃ j, j < k ∧ (starts s)[j]? = some q)) (fun _ i => (starts s).length - (intOf i).toNat)
    case atStart => exact ⟨0, 0, by omega, rfl, rfl, by omega, hide (bd_zero s), hide (fun j x hj => by omega), hide (.inl rfl)⟩
    case round =>
      obtain ⟨k, q, hk, rfl, rfl, hqp, HQ, H, HJ⟩ := hrel
      by_cases hkn : k < (starts s).length
      · obtain ⟨x, hx⟩ : ∃ x, (starts s)[k]? = some x := ⟨_, List.getElem?_eq_getElem hkn⟩
        have hcx := unhide HC k x hx
        have HX := hide hx
        have hk1 : (k : Int) < ((starts s).length : Int) := by omega
        clear hx
        by_cases hxp : x ≤ p
        · have hxp' : (x : Int) ≤ (p : Int) := by omega
          go_wp2
          go_round
          case rel =>
            have hm := List.mem_of_getElem? (unhide HX)
            refine ⟨k + 1, x, by omega, by go_num, rfl, hxp, hide ((mem_starts s x (startsFrom_ge s _ _ x hm).2).1 hm), hide (fun j y hj hy hyp => ?_), hide (.inr ⟨k, by omega, unhide HX⟩)⟩
            by_cases e : j = k
            · subst e; rw [unhide HX] at hy; cases hy; exact Nat.le_refl _
            · exact Nat.le_of_lt (starts_lt s hy (unhide HX) (by omega))
          case measure => simp [intOf]; omega
        · have hxp' : ¬ (x : Int) ≤ (p : Int) := by omega
          go_wp2
          go_round
          case rel =>
            refine ⟨k + 1, q, by omega, by go_num, rfl, hqp, HQ, hide (fun j y hj hy hyp => ?_), hide ?_⟩
            · by_cases e : j = k
              · subst e; rw [unhide HX] at hy; cases hy; omega
              · exact unhide H j y (by omega) hy hyp
            · rcases unhide HJ with h | ⟨j, h1, h2⟩
              · exact .inl h
              · exact .inr ⟨j, by omega, h2⟩
          case measure => simp [intOf]; omega
      · have hk1 : ¬ (k : Int) < ((starts s).length : Int) := by omega
        have hc : cutAt s p = q := by
          have h1 := cutAt_le s p
          have h2 := cutAt_bd s p
          have h3 := cutAt_max s p q hqp (unhide HQ)
          obtain ⟨j, hj⟩ := List.mem_iff_getElem?.1 ((mem_starts s _ (by omega)).2 h2)
          have hjl : j < (starts s).length := (List.getElem?_eq_some_iff.1 hj).1
          have h4 := unhide H j _ (by omega) hj h1
          omega
        have HCC := hide hc
        clear hc
        go_wp2
        go_ret
        exact ⟨by rw [unhide HCC]; rfl, hB⟩

set_option maxRecDepth 100000 in
set_option maxHeartbeats 4000000 in
theorem bounds_any (s : ByteArray) (hs : s.size ≤ 1048576) (a : Int) (w : World) :
    Calls Try.prog 4 #[.string s, .int .i64 a] w fun e w' => e = .returned (.bool true) ∧ Below w.heap.size w w' := by
  have hm : s.size ≤ maxLen := by unfold maxLen; omega
  by_cases h0 : a < 0
  · have hc : cutAt s (clampV s a) = 0 := by rw [show clampV s a = 0 by unfold clampV; omega]; rfl
    have HBV := hide (show boundV s a = false by unfold boundV; rw [decide_eq_false (by omega)]; rfl)
    have HC := hide hc
    have h0' : ¬ (0 : Int) ≤ a := by omega
    have h0'' : ¬ (0 : Int) < a := by omega
    clear hc
    go_enter Try.func4, Try.ntmps4
    go_wp2_with fail
    refine (alive_any _).mono ?_
    rintro e w1 ⟨rfl, hb1⟩
    have HB1 := hide hb1
    clear hb1
    go_wp2_with fail
    refine (cut_any s hm a _).mono ?_
    rintro e w2 ⟨rfl, hb2⟩
    rw [unhide HC]
    have HB2 := hide hb2
    clear hb2
    go_wp2_with fail
    refine (bound_any s hm a _).mono ?_
    rintro e w3 ⟨rfl, hb3⟩
    rw [unhide HBV]
    have hB : Below w.heap.size w w3 := ((unhide HB1).trans ((unhide HB2).mono (unhide HB1).size)).trans (hb3.mono (Nat.le_trans (unhide HB1).size (unhide HB2).size))
    clear hb3
    go_wp2
    go_ret
    exact ⟨rfl, hB⟩
  obtain ⟨p, rfl⟩ := Int.eq_ofNat_of_zero_le (show 0 ≤ a by omega)
  obtain ⟨c, hc⟩ : ∃ c, cutAt s (clampV s (p : Int)) = c := ⟨_, rfl⟩
  have hcs : c ≤ s.size := by rw [← hc]; exact Nat.le_trans (cutAt_le s _) (Nat.min_le_right _ _)
  have HC := hide hc
  have hcs1 : (c : Int) ≤ s.size := by omega
  have hcs0 : (0 : Int) ≤ c := by omega
  by_cases hps : p ≤ s.size
  · have HBV := hide (show boundV s (p : Int) = bdB s p by unfold boundV; rw [decide_eq_true (by omega)]; simp)
    have hp1 : (p : Int) ≤ s.size := by omega
    by_cases hp0 : 0 < p
    · have hp0' : (0 : Int) < (p : Int) := by omega
      clear hc
      go_enter Try.func4, Try.ntmps4
      go_wp2_with fail
      refine (alive_any _).mono ?_
      rintro e w1 ⟨rfl, hb1⟩
      have HB1 := hide hb1
      clear hb1
      go_wp2_with fail
      refine (refBound_in s hs p hps _).mono ?_
      rintro e w2 ⟨rfl, hb2⟩
      have HB2 := hide ((unhide HB1).trans (hb2.mono (unhide HB1).size))
      clear hb2
      generalize hbd : bdB s p = b at *
      have HBD := hide hbd
      clear hbd
      go_wp2_with fail
      refine (refCut_in s hs p hp0' _).mono ?_
      rintro e w3 ⟨rfl, hb3⟩
      have HB3 := hide ((unhide HB2).trans (hb3.mono (unhide HB2).size))
      clear hb3
      rw [unhide HC]
      go_wp2_with fail
      refine (cut_any s hm p _).mono ?_
      rintro e w4 ⟨rfl, hb4⟩
      have HB4 := hide ((unhide HB3).trans (hb4.mono (unhide HB3).size))
      clear hb4
      rw [unhide HC]
      go_wp2_with fail
      refine (bound_any s hm p _).mono ?_
      rintro e w5 ⟨rfl, hb5⟩
      have HB5 := hide ((unhide HB4).trans (hb5.mono (unhide HB4).size))
      clear hb5
      rw [unhide HBV]
      go_wp2
      go_ret
      exact ⟨rfl, unhide HB5⟩
    · obtain rfl : p = 0 := by omega
      obtain rfl : c = 0 := by rw [← hc]; rfl
      have HBD := hide (bd_zero s)
      clear hc
      go_enter Try.func4, Try.ntmps4
      go_wp2_with fail
      refine (alive_any _).mono ?_
      rintro e w1 ⟨rfl, hb1⟩
      have HB1 := hide hb1
      clear hb1
      go_wp2_with fail
      refine (refBound_in s hs 0 hps _).mono ?_
      rintro e w2 ⟨rfl, hb2⟩
      have HB2 := hide ((unhide HB1).trans (hb2.mono (unhide HB1).size))
      clear hb2
      rw [unhide HBD]
      go_wp2_with fail
      refine (cut_any s hm 0 _).mono ?_
      rintro e w4 ⟨rfl, hb4⟩
      have HB4 := hide ((unhide HB2).trans (hb4.mono (unhide HB2).size))
      clear hb4
      rw [show cutAt s (clampV s 0) = 0 from unhide HC]
      go_wp2_with fail
      refine (bound_any s hm 0 _).mono ?_
      rintro e w5 ⟨rfl, hb5⟩
      have HB5 := hide ((unhide HB4).trans (hb5.mono (unhide HB4).size))
      clear hb5
      rw [show boundV s 0 = true from (unhide HBV).trans (unhide HBD)]
      go_wp2
      go_ret
      exact ⟨rfl, unhide HB5⟩
  · have HBV := hide (show boundV s (p : Int) = false by unfold boundV; rw [decide_eq_false (by omega)]; rfl)
    have hp1 : ¬ (p : Int) ≤ s.size := by omega
    have hp0' : (0 : Int) < (p : Int) := by omega
    clear hc
    go_enter Try.func4, Try.ntmps4
    go_wp2_with fail
    refine (alive_any _).mono ?_
    rintro e w1 ⟨rfl, hb1⟩
    have HB1 := hide hb1
    clear hb1
    go_wp2_with fail
    refine (refCut_in s hs p hp0' _).mono ?_
    rintro e w3 ⟨rfl, hb3⟩
    have HB3 := hide ((unhide HB1).trans (hb3.mono (unhide HB1).size))
    clear hb3
    rw [unhide HC]
    go_wp2_with fail
    refine (cut_any s hm p _).mono ?_
    rintro e w4 ⟨rfl, hb4⟩
    have HB4 := hide ((unhide HB3).trans (hb4.mono (unhide HB3).size))
    clear hb4
    rw [unhide HC]
    go_wp2_with fail
    refine (bound_any s hm p _).mono ?_
    rintro e w5 ⟨rfl, hb5⟩
    have HB5 := hide ((unhide HB4).trans (hb5.mono (unhide HB4).size))
    clear hb5
    rw [unhide HBV]
    go_wp2
    go_ret
    exact ⟨rfl, unhide HB5⟩
end Go.Proofs.Ytgkcmllcoigplab
