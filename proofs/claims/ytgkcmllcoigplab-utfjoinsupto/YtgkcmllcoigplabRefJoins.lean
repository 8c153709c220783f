/- The reference's Joins, told for every two texts of at most a million letters each. -/
import Derived.Test.YtgkcmllcoigplabJoin
import Derived.Test.YtgkcmllcoigplabBds
namespace Go.Proofs.Ytgkcmllcoigplab
open Go.RowKit Go.Shelf
set_option linter.unusedVariables false

abbrev Tup := Int × Int × Int × Bool
/-- The reference's spot at i of s, its number raised by o. -/
def tup (s : ByteArray) (o i : Nat) : Tup := (((rn s i : Nat) : Int), ((i : Nat) : Int) + (o : Int), ((wd s i : Nat) : Int), decide (rn s i = 65533 ∧ wd s i = 1))
/-- What the reference expects of the whole: the numbers. -/
def wantL (s t : ByteArray) : List Nat := starts s ++ (starts t).map (s.size + ·)

theorem starts_pos' (s : ByteArray) (h : 0 < s.size) : 0 < (starts s).length := by obtain ⟨r, hr⟩ := starts_head s h; rw [hr]; simp
theorem joins_len {s t : ByteArray} (h : joinsV s t = true) : (starts (s ++ t)).length = (starts s).length + (starts t).length := by
  rw [joins_bd] at h; rw [(starts_both s t h).1]; simp
theorem joins_tupA {s t : ByteArray} (h : joinsV s t = true) {k x y : Nat} (hx : (starts (s ++ t))[k]? = some x) (hy : (starts s)[k]? = some y) : tup (s ++ t) 0 x = tup s 0 y := by
  rw [joins_bd] at h
  obtain ⟨h1, h2⟩ := starts_both s t h
  have hk : k < (starts s).length := (List.getElem?_eq_some_iff.1 hy).1
  rw [h1, List.getElem?_append_left hk, hy] at hx
  cases hx
  have := h2 x (List.mem_of_getElem? hy)
  simp only [tup, rn, wd, this]
theorem joins_tupB {s t : ByteArray} (h : joinsV s t = true) {k x y : Nat} (hk : (starts s).length ≤ k) (hx : (starts (s ++ t))[k]? = some x) (hy : (starts t)[k - (starts s).length]? = some y) : tup (s ++ t) 0 x = tup t s.size y := by
  rw [joins_bd] at h
  obtain ⟨h1, h2⟩ := starts_both s t h
  rw [h1, List.getElem?_append_right hk, List.getElem?_map, hy] at hx
  simp at hx
  subst hx
  simp only [tup, rn, wd, decode_behind]
  simp
  omega
theorem joins_of_list {s t : ByteArray} (hn : (starts (s ++ t)).length = (starts s).length + (starts t).length) (h : ∀ j x : Nat, (starts (s ++ t))[j]? = some x → (wantL s t)[j]? = some x) : joinsV s t = true := by
  rw [joins_bd]
  by_cases ht : t.size = 0
  · have : s.size = (s ++ t).size := by rw [ByteArray.size_append]; omega
    rw [this]; exact bd_end _
  · obtain ⟨r, hr⟩ := starts_head t (by omega)
    have hlt : (starts s).length < (starts (s ++ t)).length := by rw [hn, hr]; simp
    obtain ⟨x, hx⟩ : ∃ x, (starts (s ++ t))[(starts s).length]? = some x := ⟨_, List.getElem?_eq_getElem hlt⟩
    have := h _ x hx
    unfold wantL at this
    rw [List.getElem?_append_right (Nat.le_refl _), Nat.sub_self, hr] at this
    simp at this
    subst this
    exact (mem_starts (s ++ t) s.size (by rw [ByteArray.size_append]; omega)).1 (List.mem_of_getElem? hx)
theorem joins_empty_left (s t : ByteArray) (h : s.size = 0) : joinsV s t = true := by rw [joins_bd, h]; exact bd_zero _
theorem joins_empty_right (s t : ByteArray) (h : t.size = 0) : joinsV s t = true := by
  rw [joins_bd]
  have : s.size = (s ++ t).size := by rw [ByteArray.size_append]; omega
  rw [this]; exact bd_end _

theorem tup_cases (p0 p1 p2 : Int) (p3 : Bool) (q0 q1 q2 : Int) (q3 : Bool) : (p0, p1, p2, p3) = (q0, q1, q2, q3) ∨ ((p0, p1, p2, p3) ≠ (q0, q1, q2, q3) ∧ ((p0 == q0) = false ∨ (p0 = q0 ∧ ((p1 == q1) = false ∨ (p1 = q1 ∧ ((p2 == q2) = false ∨ (p2 = q2 ∧ (p3 == q3) = false))))))) := by
  by_cases e0 : p0 = q0
  · by_cases e1 : p1 = q1
    · by_cases e2 : p2 = q2
      · by_cases e3 : p3 = q3
        · exact .inl (by rw [e0, e1, e2, e3])
        · exact .inr ⟨fun h => e3 (by cases h; rfl), .inr ⟨e0, .inr ⟨e1, .inr ⟨e2, beq_eq_false_iff_ne.2 e3⟩⟩⟩⟩
      · exact .inr ⟨fun h => e2 (by cases h; rfl), .inr ⟨e0, .inr ⟨e1, .inl (beq_eq_false_iff_ne.2 e2)⟩⟩⟩
    · exact .inr ⟨fun h => e1 (by cases h; rfl), .inr ⟨e0, .inl (beq_eq_false_iff_ne.2 e1)⟩⟩
  · exact .inr ⟨fun h => e0 (by cases h; rfl), .inl (beq_eq_false_iff_ne.2 e0)⟩

/-- The list of spots in a world: the four cells of the spot number k. -/
def RowAt (W : World) (s : ByteArray) (g : Nat) : Prop := ∀ k x : Nat, (starts s)[k]? = some x → W.cell? ⟨g, k * 4, none⟩ = some (.int .i32 (tup s 0 x).1) ∧ W.cell? ⟨g, k * 4 + 1, none⟩ = some (.int .i64 (tup s 0 x).2.1) ∧ W.cell? ⟨g, k * 4 + 2, none⟩ = some (.int .i64 (tup s 0 x).2.2.1) ∧ W.cell? ⟨g, k * 4 + 3, none⟩ = some (.bool (tup s 0 x).2.2.2)
theorem rowAt_of {W : World} {base : Nat} {e : TypeId} {v : Value} {s : ByteArray} (h : W.ownsRow base e 4 v (starts s).length ((starts s).flatMap (refCells s))) (hne : 0 < (starts s).length) :
    ∃ g cap, v = .slice (some ⟨g, 0, none⟩) (starts s).length cap ∧ g < W.heap.size ∧ RowAt W s g := by
  obtain ⟨g, cap, rfl, h1, h2, _, hc⟩ := row_cells h hne
  refine ⟨g, cap, rfl, h2, fun k x hk => ?_⟩
  have c0 := hc k x hk 0 (by omega)
  have c1 := hc k x hk 1 (by omega)
  have c2 := hc k x hk 2 (by omega)
  have c3 := hc k x hk 3 (by omega)
  rw [Nat.mul_comm] at c0 c1 c2 c3
  simp only [tup]
  refine ⟨c0, ?_, c2, c3⟩
  rw [c1]
  simp [refCells]
theorem RowAt.below {W W' : World} {N g : Nat} {s : ByteArray} (h : RowAt W s g) (hb : Below N W W') (hg : g < N) : RowAt W' s g := by
  intro k x hk
  obtain ⟨a, b, c, d⟩ := h k x hk
  exact ⟨(hb.cell (p := ⟨g, _, none⟩) hg).trans a, (hb.cell (p := ⟨g, _, none⟩) hg).trans b, (hb.cell (p := ⟨g, _, none⟩) hg).trans c, (hb.cell (p := ⟨g, _, none⟩) hg).trans d⟩
theorem row_empty {W : World} {base : Nat} {e : TypeId} {v : Value} {n : Nat} {xs : List Value} (h : W.ownsRow base e 4 v n xs) (hn : n = 0) : ∃ ad cap, v = .slice ad 0 cap := by
  rcases h.2 with ⟨rfl, _⟩ | ⟨g, cap, cur, rfl, _⟩
  · exact ⟨_, _, rfl⟩
  · subst hn; exact ⟨_, _, rfl⟩

set_option maxRecDepth 100000 in
set_option maxHeartbeats 4000000 in
theorem refJoins_nn (s t : ByteArray) (hs : s.size ≤ 1048576) (ht : t.size ≤ 1048576) (hs0 : 0 < s.size) (ht0 : 0 < t.size) (w : World) :
    Calls Try.prog 25 #[.string s, .string t] w fun e w' => e = .returned (.bool (joinsV s t)) ∧ Below w.heap.size w w' := by
  have hst : (s ++ t).size = s.size + t.size := ByteArray.size_append
  have hA := starts_pos' s hs0
  have hB := starts_pos' t ht0
  have hC := starts_pos' (s ++ t) (by omega)
  have hlA := starts_length s
  have hlB := starts_length t
  have hlC := starts_length (s ++ t)
  go_enter Try.func25, Try.ntmps25
  go_wp2_with fail
  refine (refSpots_any s (by omega) _).mono ?_
  rintro e w1 ⟨v, rfl, hown, hb⟩
  obtain ⟨gA, capA, rfl, hgA, hRA⟩ := rowAt_of hown hA
  have HB1 := hide hb
  have HRA := hide hRA
  clear hb hown hRA
  go_wp2_with fail
  refine (refSpots_any t (by omega) _).mono ?_
  rintro e w2 ⟨v, rfl, hown, hb⟩
  obtain ⟨gB, capB, rfl, hgB, hRB⟩ := rowAt_of hown hB
  have HB2 := hide ((unhide HB1).trans (hb.mono (unhide HB1).size))
  have HRA2 := hide ((unhide HRA).below hb hgA)
  have HRB := hide hRB
  have hgA2 : gA < w2.heap.size := Nat.lt_of_lt_of_le hgA hb.size
  clear hb hown hRB HRA hgA
  go_wp2_with fail
  refine (refSpots_any (s ++ t) (by omega) _).mono ?_
  rintro e w3 ⟨v, rfl, hown, hb⟩
  obtain ⟨gC, capC, rfl, hgC, hRC⟩ := rowAt_of hown hC
  have HB3 := hide ((unhide HB2).trans (hb.mono (unhide HB2).size))
  have HRA3 := hide ((unhide HRA2).below hb hgA2)
  have HRB3 := hide ((unhide HRB).below hb hgB)
  have HRC := hide hRC
  have hgA3 : gA < w3.heap.size := Nat.lt_of_lt_of_le hgA2 hb.size
  have hgB3 : gB < w3.heap.size := Nat.lt_of_lt_of_le hgB hb.size
  clear hb hown hRC HRA2 HRB hgA2 hgB
  have hJL := hide (joins_len (s := s) (t := t))
  have hLE := hide (fun h h2 => joins_of_list (s := s) (t := t) h h2)
  generalize hnA : (starts s).length = nA at *
  generalize hnB : (starts t).length = nB at *
  generalize hnC : (starts (s ++ t)).length = nC at *
  have HnA := hide hnA
  have HnB := hide hnB
  have HnC := hide hnC
  clear hnA hnB hnC
  by_cases hlen : nC = nA + nB
  · have hlen' : ((nC : Int) == (nA : Int) + (nB : Int)) = true := by rw [beq_iff_eq]; omega
    have hlen2 : ((nC : Int) != (nA : Int) + (nB : Int)) = false := by rw [bne, hlen']; rfl
    have HLEN := hide hlen
    have hsum : (nA : Int) + (nB : Int) ≤ 4194304 := by omega
    have hle1 : nC ≤ nA + nB := by omega
    have hle2 : nA + nB ≤ nC := by omega
    clear hlen
    go_wp2
    go_loopw [8] (fun i wr => ∃ k : Nat, k ≤ nC ∧ i = .int .i64 k ∧ Hid (∀ j x : Nat, j < k → (starts (s ++ t))[j]? = some x → (wantL s t)[j]? = some x) ∧ Below w3.heap.size w3 wr) (fun i _ => nC - (intOf i).toNat)
    case atStart => exact ⟨0, by omega, rfl, hide (fun j x hj => by omega), Below.refl _ _⟩
    case round =>
      obtain ⟨k, hk, rfl, H, hBw⟩ := hrel
      have hgAw : gA < wr.heap.size := Nat.lt_of_lt_of_le hgA3 hBw.size
      have hgBw : gB < wr.heap.size := Nat.lt_of_lt_of_le hgB3 hBw.size
      have hgCw : gC < wr.heap.size := Nat.lt_of_lt_of_le hgC hBw.size
      by_cases hkC : k < nC
      · obtain ⟨x, hx⟩ : ∃ x, (starts (s ++ t))[k]? = some x := ⟨_, List.getElem?_eq_getElem (by rw [unhide HnC]; exact hkC)⟩
        obtain ⟨c0, c1, c2, c3⟩ := ((unhide HRC).below hBw hgC) k x hx
        have hkC' : (k : Int) < (nC : Int) := by omega
        have HX := hide hx
        by_cases hkA : k < nA
        · obtain ⟨y, hy⟩ : ∃ y, (starts s)[k]? = some y := ⟨_, List.getElem?_eq_getElem (by rw [unhide HnA]; exact hkA)⟩
          obtain ⟨d0, d1, d2, d3⟩ := ((unhide HRA3).below hBw hgA3) k y hy
          have hkA' : (k : Int) < (nA : Int) := by omega
          have HY := hide hy
          have HT := hide (fun hj => joins_tupA (s := s) (t := t) hj hx hy)
          clear hx hy
          rcases hP : tup (s ++ t) 0 x with ⟨p0, p1, p2, p3⟩
          rcases hQ : tup s 0 y with ⟨q0, q1, q2, q3⟩
          rw [hP] at c0 c1 c2 c3
          rw [hQ] at d0 d1 d2 d3
          have HPQ := hide (And.intro hP hQ)
          clear hP hQ
          have hlt := hBw.size
          have hcase : (p0, p1, p2, p3) = (q0, q1, q2, q3) ∨ ((p0, p1, p2, p3) ≠ (q0, q1, q2, q3) ∧ ((p0 == q0) = false ∨ (p0 = q0 ∧ ((p1 == q1) = false ∨ (p1 = q1 ∧ ((p2 == q2) = false ∨ (p2 = q2 ∧ (p3 == q3) = false))))))) := tup_cases _ _ _ _ _ _ _ _
          rcases hcase with he | ⟨hne, hcase⟩
          · cases he
            have hlt2 : (wr.alloc (.cells #[.int .i32 p0, .int .i64 p1, .int .i64 p2, .bool p3] 71)).heap.size = wr.heap.size + 1 := by simp
            go_wp2
            go_quiet (fail)
            go_wp2
            go_roundw
            case rel =>
              refine ⟨k + 1, by omega, by go_num, hide (fun j z hj hz => ?_), below_drewN (hBw.alloc hBw.size _) _⟩
              by_cases e : j = k
              · subst e
                rw [unhide HX] at hz
                cases hz
                unfold wantL
                rw [List.getElem?_append_left (by rw [unhide HnA]; exact hkA), unhide HY]
                have h1 := congrArg (fun q : Tup => q.2.1) ((unhide HPQ).1.trans (unhide HPQ).2.symm)
                simp only [tup] at h1
                congr 1
                omega
              · exact unhide H j z (by omega) hz
            case measure => simp [intOf]; omega
          · have hjf : joinsV s t = false := by
              rw [← Bool.not_eq_true]
              intro hj
              have := unhide HT hj
              rw [(unhide HPQ).1, (unhide HPQ).2] at this
              exact hne this
            have HJF := hide hjf
            clear hjf hne
            rcases hcase with h | ⟨rfl, h | ⟨rfl, h | ⟨rfl, h⟩⟩⟩
            all_goals
              go_wp2
              go_quiet (fail)
              go_wp2
              go_ret
              exact ⟨by rw [unhide HJF]; rfl, below_drewN (((unhide HB3).trans (hBw.mono (unhide HB3).size)).alloc (Nat.le_trans (unhide HB3).size hBw.size) _) _⟩
        · obtain ⟨y, hy⟩ : ∃ y, (starts t)[k - nA]? = some y := ⟨_, List.getElem?_eq_getElem (by rw [unhide HnB]; omega)⟩
          obtain ⟨d0, d1, d2, d3⟩ := ((unhide HRB3).below hBw hgB3) (k - nA) y hy
          have hkA' : ¬ (k : Int) < (nA : Int) := by omega
          have hx0 : (0 : Int) ≤ (k : Int) - (nA : Int) := by omega
          have hx1 : (k : Int) - (nA : Int) < (nB : Int) := by omega
          have hx2 : ((k : Int) - (nA : Int)).toNat = k - nA := by omega
          have HY := hide hy
          have HT := hide (fun hj => joins_tupB (s := s) (t := t) hj (by rw [unhide HnA]; omega) hx (by rw [unhide HnA]; exact hy))
          have hyb : y < t.size := (startsFrom_ge t _ _ y (List.mem_of_getElem? hy)).2
          clear hx hy
          rcases hP : tup (s ++ t) 0 x with ⟨p0, p1, p2, p3⟩
          rcases hQ : tup t 0 y with ⟨q0, q1, q2, q3⟩
          rw [hP] at c0 c1 c2 c3
          rw [hQ] at d0 d1 d2 d3
          have hq1 : q1 = (y : Int) := by have := congrArg (fun q : Tup => q.2.1) hQ; simp only [tup] at this; omega
          have hQ2 : tup t s.size y = (q0, q1 + (s.size : Int), q2, q3) := by
            have e0 := congrArg (fun q : Tup => q.1) hQ
            have e2 := congrArg (fun q : Tup => q.2.2.1) hQ
            have e3 := congrArg (fun q : Tup => q.2.2.2) hQ
            simp only [tup] at e0 e2 e3 ⊢
            rw [e0, e2, e3, hq1]
          have HPQ := hide (And.intro hP hQ2)
          have hq1a : 0 ≤ q1 := by omega
          have hq1b : q1 + (s.size : Int) ≤ 4194304 := by omega
          clear hP hQ hQ2 hq1
          have hlt := hBw.size
          have hcase : (p0, p1, p2, p3) = (q0, q1 + (s.size : Int), q2, q3) ∨ ((p0, p1, p2, p3) ≠ (q0, q1 + (s.size : Int), q2, q3) ∧ ((p0 == q0) = false ∨ (p0 = q0 ∧ ((p1 == q1 + (s.size : Int)) = false ∨ (p1 = q1 + (s.size : Int) ∧ ((p2 == q2) = false ∨ (p2 = q2 ∧ (p3 == q3) = false))))))) := tup_cases _ _ _ _ _ _ _ _
          rcases hcase with he | ⟨hne, hcase⟩
          · cases he
            go_wp2
            go_quiet (fail)
            go_wp2
            go_roundw
            case rel =>
              refine ⟨k + 1, by omega, by go_num, hide (fun j z hj hz => ?_), below_drewN (hBw.alloc hBw.size _) _⟩
              by_cases e : j = k
              · subst e
                rw [unhide HX] at hz
                cases hz
                unfold wantL
                rw [List.getElem?_append_right (by rw [unhide HnA]; omega), unhide HnA, List.getElem?_map, unhide HY]
                have h1 := congrArg (fun q : Tup => q.2.1) ((unhide HPQ).1.trans (unhide HPQ).2.symm)
                simp only [tup] at h1
                simp only [Option.map_some]
                congr 1
                omega
              · exact unhide H j z (by omega) hz
            case measure => simp [intOf]; omega
          · have hjf : joinsV s t = false := by
              rw [← Bool.not_eq_true]
              intro hj
              have := unhide HT hj
              rw [(unhide HPQ).1, (unhide HPQ).2] at this
              exact hne this
            have HJF := hide hjf
            clear hjf hne
            rcases hcase with h | ⟨rfl, h | ⟨rfl, h | ⟨rfl, h⟩⟩⟩
            all_goals
              go_wp2
              go_quiet (fail)
              go_wp2
              go_ret
              exact ⟨by rw [unhide HJF]; rfl, below_drewN (((unhide HB3).trans (hBw.mono (unhide HB3).size)).alloc (Nat.le_trans (unhide HB3).size hBw.size) _) _⟩
      · have hkC' : ¬ (k : Int) < (nC : Int) := by omega
        have hjt : joinsV s t = true := unhide hLE (unhide HLEN) (fun j x hx => unhide H j x (by
          have := (List.getElem?_eq_some_iff.1 hx).1
          rw [unhide HnC] at this
          omega) hx)
        have HJT := hide hjt
        clear hjt
        go_wp2
        go_ret
        exact ⟨by rw [unhide HJT]; rfl, (unhide HB3).trans (hBw.mono (unhide HB3).size)⟩
  · have hlen2 : ((nC : Int) != (nA : Int) + (nB : Int)) = true := by rw [bne_iff_ne]; omega
    have hsum : (nA : Int) + (nB : Int) ≤ 4194304 := by omega
    have hjf : joinsV s t = false := by
      rw [← Bool.not_eq_true]
      intro hj
      exact hlen (unhide hJL hj)
    have HJF := hide hjf
    clear hjf hlen
    go_wp2
    go_ret
    exact ⟨by rw [unhide HJF]; rfl, unhide HB3⟩
end Go.Proofs.Ytgkcmllcoigplab
