/- A Book of tables: what every table says alike: one row. -/
import Derived.Test.YtnnbaodillnkkaaGreatTlJ
import Derived.Test.YtnnbaodillnkkaaGreatM20
import Derived.Test.YtnnbaodillnkkaaGreatM21
namespace Go.Proofs.YtnnbaodillnkkaaGreat
open Go.RowKit Go.Shelf Go.Maps
set_option linter.unusedVariables false
theorem oneIf_pos (b : Bool) : 0 ≤ oneIf b := by cases b <;> decide
theorem below_mono {zs : List (Int × Int)} (h : Spread zs) (a : Int) : ∀ n : Nat, belowOf zs a ≤ belowOf zs (a + n)
  | 0 => by simp
  | n + 1 => by
    have h1 := below_mono h a n
    have h2 := belowOf_step zs (a + n) h
    have h3 := oneIf_pos (memB zs (a + n))
    rw [show a + ((n + 1 : Nat) : Int) = a + n + 1 by omega, h2]
    omega
theorem below_le {zs : List (Int × Int)} (h : Spread zs) {a b : Int} (hab : a ≤ b) : belowOf zs a ≤ belowOf zs b := by
  have := below_mono h a (b - a).toNat
  rwa [show a + ((b - a).toNat : Int) = b by omega] at this
/-- The first of a set's runes that is not below one. -/
theorem first_above {zs : List (Int × Int)} (h : Spread zs) (r hi : Int) (hr : memB zs r = false) : (decide (0 ≤ belowOf zs r ∧ belowOf zs r < total zs) && decide (nthOf zs (belowOf zs r) ≤ hi)) = true ↔ ∃ t, memB zs t = true ∧ r ≤ t ∧ t ≤ hi := by
  have h0 := below_nonneg zs r h.ends
  constructor
  · intro hq
    rw [Bool.and_eq_true, decide_eq_true_eq, decide_eq_true_eq] at hq
    obtain ⟨⟨_, h1⟩, h2⟩ := hq
    obtain ⟨m1, m2, m3, _⟩ := nth_all h h0 h1
    refine ⟨_, m1, ?_, h2⟩
    rcases Int.lt_or_le (nthOf zs (belowOf zs r)) r with c | c
    · have := below_le h (show nthOf zs (belowOf zs r) + 1 ≤ r by omega)
      omega
    · exact c
  · rintro ⟨t, m, ht, hth⟩
    have hs : belowOf zs (t + 1) = belowOf zs t + 1 := by rw [belowOf_step zs t h, m]; rfl
    have h1 := below_le h ht
    have hlt : belowOf zs r < total zs := by
      have h2 := belowOf_all zs h
      have h3 : t ≤ 1114111 := (runeB_iff ((memB_iff zs t).1 m).2).2.1
      have h4 := below_le h (show t + 1 ≤ 1114112 by omega)
      omega
    rw [Bool.and_eq_true, decide_eq_true_eq, decide_eq_true_eq]
    refine ⟨⟨h0, hlt⟩, ?_⟩
    obtain ⟨m1, m2, m3, _⟩ := nth_all h h0 hlt
    rcases Int.lt_or_le t (nthOf zs (belowOf zs r)) with c | c
    · have := below_le h (show t + 1 ≤ nthOf zs (belowOf zs r) by omega)
      omega
    · omega
theorem atn_form (zs : List (Int × Int)) (n : Int) : ∃ v ok, atnV zs n = .tuple #[.int .i32 v, .bool ok] ∧ ok = decide (0 ≤ n ∧ n < total zs) ∧ (ok = true → v = nthOf zs n) := by
  unfold atnV
  by_cases h : 0 ≤ n ∧ n < total zs
  · rw [if_pos h]
    exact ⟨_, _, rfl, by simp [h], fun _ => rfl⟩
  · rw [if_neg h]
    exact ⟨_, _, rfl, by simp [h], fun q => by cases q⟩
set_option maxRecDepth 100000 in
set_option maxHeartbeats 4000000 in
theorem anyWithin_any {l : List (Int × Int)} (hl : l.length ≤ 1000000) (C : Nat) (x1 x2 : Int) (h1 : R32 x1) (hx : x1 ≤ x2) (q : Bool) (hq : q = true ↔ ∃ t, memB l t = true ∧ x1 ≤ t ∧ t ≤ x2) (w : World) (h : SetV w l C) :
    Calls Tryz.prog 124 #[.pointer (some ⟨C, 0, none⟩), .agg #[.int .i32 x1, .int .i32 x2]] w fun e w' => e = .returned (.int .i64 (if q then 5 else 0)) ∧ Below w.heap.size w w' := by
  have hB : Below w.heap.size w (w.alloc (.cells #[.int .i32 x1, .int .i32 x2] 68)) := (Below.refl _ w).alloc (Nat.le_refl _) _
  have bX := Blk.new w #[.int .i32 x1, .int .i32 x2] 68
  have hV := h.below hB
  obtain ⟨zs, lo0, m1, m2, m3, m4⟩ := hV
  have hA := m1.set m2 (by omega)
  have HI := hide (fun w1 (hb : Below (w.alloc (.cells #[.int .i32 x1, .int .i32 x2] 68)).heap.size (w.alloc (.cells #[.int .i32 x1, .int .i32 x2] 68)) w1) => in_any C zs x1 w1 ((m1.below hb).set m2 (by omega)))
  have HX := hide (fun w1 (hb : Below (w.alloc (.cells #[.int .i32 x1, .int .i32 x2] 68)).heap.size (w.alloc (.cells #[.int .i32 x1, .int .i32 x2] 68)) w1) => bX.below hb bX.lt)
  have q0 := bX.cell 0
  have HB := hide hB
  have hq2 : q = true ↔ ∃ t, memB zs t = true ∧ x1 ≤ t ∧ t ≤ x2 := by
    rw [hq]
    constructor
    · rintro ⟨t, a, b⟩; exact ⟨t, by rw [m4]; exact a, b⟩
    · rintro ⟨t, a, b⟩; exact ⟨t, by rw [← m4]; exact a, b⟩
  cases hm : memB zs x1 with
  | true =>
    obtain rfl : q = true := hq2.2 ⟨x1, hm, Int.le_refl _, hx⟩
    have HN := hide (next_in C zs x1 hm h1.1 h1.2 _ hA)
    obtain ⟨v, ok, ev, _⟩ := atn_form zs (belowOf zs x1 + 1)
    rw [ev] at HN
    rw [hm] at HI
    clear hB bX h m1 m2 m3 m4 hA hq hq2 hm ev h1 hx
    go_enter Tryz.func124, Tryz.ntmps124
    go_wp2_with fail
    refine (unhide HN).mono ?_
    rintro e w1 ⟨rfl, hb⟩
    have HB1 := hide hb
    have p0 := (unhide HX w1 hb).cell 0
    clear hb HN q0
    go_wp2_with fail
    refine (unhide HI w1 (unhide HB1)).mono ?_
    rintro e w2 ⟨rfl, hb⟩
    have HB2 := hide ((unhide HB).trans (((unhide HB1).trans (hb.mono (unhide HB1).size)).mono (unhide HB).size))
    clear hb HI p0 HX
    go_wp2_with fail
    refine (when_any true 5 w2).mono ?_
    rintro e w3 ⟨rfl, hw⟩
    rw [hw]
    clear hw
    go_wp2_with fail
    go_ret
    exact ⟨rfl, unhide HB2⟩
  | false =>
    have HN := hide (next_out C zs x1 hm h1.1 h1.2 _ hA)
    have hfa := first_above m2 x1 x2 hm
    obtain ⟨v, ok, ev, e1, e2⟩ := atn_form zs (belowOf zs x1)
    rw [ev] at HN
    rw [hm] at HI
    have HQ : Hz ((ok && decide (v ≤ x2)) = q) := hide (by
      rw [Bool.eq_iff_iff, hq2, ← hfa, ← e1]
      cases ok with
      | false => simp
      | true => rw [e2 rfl])
    clear hB bX h m1 m2 m3 m4 hA hq hq2 hm ev h1 hx e1 e2 hfa
    cases ok with
    | false =>
      obtain rfl : q = false := (unhide HQ).symm
      go_enter Tryz.func124, Tryz.ntmps124
      go_wp2_with fail
      refine (unhide HN).mono ?_
      rintro e w1 ⟨rfl, hb⟩
      have HB1 := hide hb
      have p0 := (unhide HX w1 hb).cell 0
      clear hb HN q0
      go_wp2_with fail
      refine (unhide HI w1 (unhide HB1)).mono ?_
      rintro e w2 ⟨rfl, hb⟩
      have HB2 := hide ((unhide HB).trans (((unhide HB1).trans (hb.mono (unhide HB1).size)).mono (unhide HB).size))
      clear hb HI p0 HX
      go_wp2_with fail
      refine (when_any false 5 w2).mono ?_
      rintro e w3 ⟨rfl, hw⟩
      rw [hw]
      clear hw
      go_wp2_with fail
      go_ret
      exact ⟨rfl, unhide HB2⟩
    | true =>
      have HQ2 : Hz (decide (v ≤ x2) = q) := hide (by have := unhide HQ; rwa [Bool.true_and] at this)
      go_enter Tryz.func124, Tryz.ntmps124
      go_wp2_with fail
      refine (unhide HN).mono ?_
      rintro e w1 ⟨rfl, hb⟩
      have HB1 := hide hb
      have p0 := (unhide HX w1 hb).cell 0
      clear hb HN q0
      go_wp2_with fail
      refine (unhide HI w1 (unhide HB1)).mono ?_
      rintro e w2 ⟨rfl, hb⟩
      have p1 := (unhide HX w2 ((unhide HB1).trans (hb.mono (unhide HB1).size))).cell 1
      have HB2 := hide ((unhide HB).trans (((unhide HB1).trans (hb.mono (unhide HB1).size)).mono (unhide HB).size))
      clear hb HI p0 HX HQ
      go_wp2_with fail
      refine (when_any (decide (v ≤ x2)) 5 w2).mono ?_
      rw [unhide HQ2]
      rintro e w3 ⟨rfl, hw⟩
      rw [hw]
      clear hw
      cases q
      all_goals
        go_wp2_with fail
        go_ret
        exact ⟨rfl, unhide HB2⟩
theorem none_of {zs : List (Int × Int)} (h : Spread zs) : zs = [] ↔ ∀ r, memB zs r = false := by
  constructor
  · rintro rfl r
    rfl
  · intro hr
    cases zs with
    | nil => rfl
    | cons x zs =>
      have := (head_mem h).1
      rw [hr] at this
      cases this
set_option maxRecDepth 100000 in
set_option maxHeartbeats 4000000 in
theorem lacking_any {lm lh : List (Int × Int)} (hm : lm.length ≤ 1024) (hh : lh.length ≤ 1024) (list : Int) (Ch Cm : Nat) (q : Bool) (hq : q = true ↔ ∀ r, memB lm r = true → memB lh r = true) (w : World) (h1 : SetV w lh Ch) (h2 : SetV w lm Cm) :
    Calls Tryz.prog 116 #[.int .i64 list, .pointer (some ⟨Ch, 0, none⟩), .pointer (some ⟨Cm, 0, none⟩)] w fun e w' => e = .returned (wrV (if q then (0, 0, 0) else (5, list, 0))) ∧ Below w.heap.size w w' := by
  have hB : Below w.heap.size w (w.alloc (.cells #[.int .i64 0, .int .i64 0, .int .i64 0] 37)) := (Below.refl _ w).alloc (Nat.le_refl _) _
  have bR := Blk.new w #[.int .i64 0, .int .i64 0, .int .i64 0] 37
  obtain ⟨ys, lo1, a1, a2, a3, a4⟩ := h1.below hB
  obtain ⟨zs, lo2, b1, b2, b3, b4⟩ := h2.below hB
  have HM := hide (minus_any Cm (some ⟨Ch, 0, none⟩) zs ys (by omega) (by omega) _ (b1.set b2 (by omega)) (.inr ⟨Ch, rfl, a1.set a2 (by omega)⟩))
  have HB := hide (And.intro hB bR)
  have HQ : Hz (∀ us, Spread us → (∀ r, memB us r = (memB zs r && !memB ys r)) → (total us == 0) = q) := hide (fun us hs hr => by
    rw [total_zero hs, Bool.eq_iff_iff, decide_eq_true_eq, none_of hs, hq]
    constructor
    · intro h r hl
      have := h r
      rw [hr, b4, hl, Bool.true_and, a4] at this
      simpa using this
    · intro h r
      rw [hr, b4, a4]
      cases hl : memB lm r with
      | false => rfl
      | true => rw [h r hl]; rfl)
  have HL := hide (And.intro a3 b3)
  clear hB bR h1 h2 a1 a2 a3 a4 b1 b2 b3 b4 hq
  go_enter Tryz.func116, Tryz.ntmps116
  go_wp2_with fail
  refine (unhide HM).mono ?_
  rintro e w1 ⟨B', lo0, us, rfl, _, u1, u2, u3, u4, hb⟩
  have HU := hide (size_any B' us w1 (u1.set u2 (by have := unhide HL; omega)))
  have HT := hide (unhide HQ us u2 u4)
  have HB1 := hide (And.intro ((unhide HB).1.trans (hb.mono (unhide HB).1.size)) ((unhide HB).2.below hb (unhide HB).2.lt))
  clear u1 u2 u3 u4 hb HM HB HQ HL
  generalize total us = tt at *
  go_wp2_with fail
  refine (unhide HU).mono ?_
  rintro e w2 ⟨rfl, hb⟩
  have HB2 := hide (And.intro ((unhide HB1).1.trans (hb.mono (unhide HB1).1.size)) ((unhide HB1).2.below hb (unhide HB1).2.lt))
  clear hb HU HB1
  have r0 := (unhide HB2).2.cell 0
  have r1 := (unhide HB2).2.cell 1
  have r2 := (unhide HB2).2.cell 2
  have f0 := (unhide HB2).2.frozen 0
  have f1 := (unhide HB2).2.frozen 1
  have f2 := (unhide HB2).2.frozen 2
  cases q with
  | true =>
    obtain rfl : tt = 0 := by simpa using unhide HT
    go_wp2_with fail
    exact bodyPost_ret (v := wrV (0, 0, 0)) (ret3 Tryz.results116 rfl (blk3 (unhide HB2).2 _ _ _) rfl) rfl ⟨rfl, below3 (unhide HB2).1 (Nat.le_refl _) (unhide HB2).1.size _ _ _⟩
  | false =>
    have t0 : ¬ tt = 0 := by simpa using unhide HT
    have t1 : (tt == 0) = false := unhide HT
    go_wp2_with fail
    exact bodyPost_ret (v := wrV (5, list, 0)) (ret3 Tryz.results116 rfl (blk3 (unhide HB2).2 _ _ _) rfl) rfl ⟨rfl, below3 (unhide HB2).1 (Nat.le_refl _) (unhide HB2).1.size _ _ _⟩
/-- A set, and the box in which its pointer lies. -/
structure StP (w : World) (BX C : Nat) (l : List (Int × Int)) : Prop where
  bx : Blk w BX #[.pointer (some ⟨C, 0, none⟩)] 76
  st : SetV w l C
theorem StP.below {w w' : World} {BX C : Nat} {l : List (Int × Int)} (h : StP w BX C l) (hb : Below w.heap.size w w') : StP w' BX C l := ⟨h.bx.below hb h.bx.lt, h.st.below hb⟩
set_option maxRecDepth 100000 in
theorem bkUlo1_any {l : List (Int × Int)} (hl : l.length ≤ 1000000) (BX C : Nat) (x1 x2 : Int) (w : World) (h : StP w BX C l) :
    Calls Tryz.prog 117 #[.agg #[.int .i32 x1, .int .i64 x2], .pointer (some ⟨BX, 0, none⟩)] w fun e w' => e = .returned (.int .i64 (if memB l x1 then 5 else 0)) ∧ Below w.heap.size w w' := by
  have hB1 : Below w.heap.size w (w.alloc (.cells #[.int .i32 x1, .int .i64 x2] 53)) := (Below.refl _ w).alloc (Nat.le_refl _) _
  have b0 := (h.below hB1).bx.cell 0
  have hB2 : Below w.heap.size w ((w.alloc (.cells #[.int .i32 x1, .int .i64 x2] 53)).alloc (.cells #[.int .i32 x1] 21)) := hB1.alloc (by simp) _
  have hv : [x1].any (memB l) = memB l x1 := by simp
  have HD := hide (anyOf_any hl C [x1] (by simp) (some ⟨w.heap.size + 1, 0, none⟩) 1 ((w.alloc (.cells #[.int .i32 x1, .int .i64 x2] 53)).alloc (.cells #[.int .i32 x1] 21)) (h.below hB2).st (one_rn (w.alloc (.cells #[.int .i32 x1, .int .i64 x2] 53)) (w.heap.size + 1) x1 21 (by simp)))
  rw [hv] at HD
  have HB := hide hB2
  clear hB1 hB2 h hv
  generalize memB l x1 = bb at *
  go_enter Tryz.func117, Tryz.ntmps117
  go_wp2_with fail
  refine (unhide HD).mono ?_
  rintro e w2 ⟨rfl, hb⟩
  have HB2 := hide ((unhide HB).trans (hb.mono (unhide HB).size))
  clear hb HB HD
  cases bb
  all_goals
    go_wp2_with fail
    go_ret
    exact ⟨rfl, unhide HB2⟩
set_option maxRecDepth 100000 in
theorem bkUlo2_any {l : List (Int × Int)} (hl : l.length ≤ 1000000) (BX C : Nat) (x1 x2 x3 : Int) (w : World) (h : StP w BX C l) :
    Calls Tryz.prog 119 #[.agg #[.int .i32 x1, .int .i32 x2, .int .i32 x3], .pointer (some ⟨BX, 0, none⟩)] w fun e w' => e = .returned (.int .i64 (if memB l x1 then 5 else 0)) ∧ Below w.heap.size w w' := by
  have hB1 : Below w.heap.size w (w.alloc (.cells #[.int .i32 x1, .int .i32 x2, .int .i32 x3] 56)) := (Below.refl _ w).alloc (Nat.le_refl _) _
  have b0 := (h.below hB1).bx.cell 0
  have hB2 : Below w.heap.size w ((w.alloc (.cells #[.int .i32 x1, .int .i32 x2, .int .i32 x3] 56)).alloc (.cells #[.int .i32 x1] 21)) := hB1.alloc (by simp) _
  have hv : [x1].any (memB l) = memB l x1 := by simp
  have HD := hide (anyOf_any hl C [x1] (by simp) (some ⟨w.heap.size + 1, 0, none⟩) 1 ((w.alloc (.cells #[.int .i32 x1, .int .i32 x2, .int .i32 x3] 56)).alloc (.cells #[.int .i32 x1] 21)) (h.below hB2).st (one_rn (w.alloc (.cells #[.int .i32 x1, .int .i32 x2, .int .i32 x3] 56)) (w.heap.size + 1) x1 21 (by simp)))
  rw [hv] at HD
  have HB := hide hB2
  clear hB1 hB2 h hv
  generalize memB l x1 = bb at *
  go_enter Tryz.func119, Tryz.ntmps119
  go_wp2_with fail
  refine (unhide HD).mono ?_
  rintro e w2 ⟨rfl, hb⟩
  have HB2 := hide ((unhide HB).trans (hb.mono (unhide HB).size))
  clear hb HB HD
  cases bb
  all_goals
    go_wp2_with fail
    go_ret
    exact ⟨rfl, unhide HB2⟩
set_option maxRecDepth 100000 in
theorem bkUlo5_any {l : List (Int × Int)} (hl : l.length ≤ 1000000) (BX C : Nat) (x1 x2 : Int) (h1 : R32 x1) (hx : x1 ≤ x2) (q : Bool) (hq : q = true ↔ ∃ t, memB l t = true ∧ x1 ≤ t ∧ t ≤ x2) (w : World) (h : StP w BX C l) :
    Calls Tryz.prog 123 #[.agg #[.int .i32 x1, .int .i32 x2], .pointer (some ⟨BX, 0, none⟩)] w fun e w' => e = .returned (.int .i64 (if q then 5 else 0)) ∧ Below w.heap.size w w' := by
  have hB1 : Below w.heap.size w (w.alloc (.cells #[.int .i32 x1, .int .i32 x2] 68)) := (Below.refl _ w).alloc (Nat.le_refl _) _
  have b0 := (h.below hB1).bx.cell 0
  have bX := Blk.new w #[.int .i32 x1, .int .i32 x2] 68
  have q0 := bX.cell 0
  have q1 := bX.cell 1
  have HD := hide (anyWithin_any hl C x1 x2 h1 hx q hq (w.alloc (.cells #[.int .i32 x1, .int .i32 x2] 68)) (h.below hB1).st)
  have HB := hide hB1
  clear hB1 h hq h1 hx bX
  go_enter Tryz.func123, Tryz.ntmps123
  go_wp2_with fail
  refine (unhide HD).mono ?_
  rintro e w2 ⟨rfl, hb⟩
  have HB2 := hide ((unhide HB).trans (hb.mono (unhide HB).size))
  clear hb HB HD
  cases q
  all_goals
    go_wp2_with fail
    go_ret
    exact ⟨rfl, unhide HB2⟩
set_option maxRecDepth 100000 in
theorem bkUlo6_any {l : List (Int × Int)} (hl : l.length ≤ 1000000) (BX C : Nat) (x1 x2 : Int) (h1 : R32 x1) (hx : x1 ≤ x2) (q : Bool) (hq : q = true ↔ ∃ t, memB l t = true ∧ x1 ≤ t ∧ t ≤ x2) (w : World) (h : StP w BX C l) :
    Calls Tryz.prog 125 #[.agg #[.int .i32 x1, .int .i32 x2], .pointer (some ⟨BX, 0, none⟩)] w fun e w' => e = .returned (.int .i64 (if q then 5 else 0)) ∧ Below w.heap.size w w' := by
  have hB1 : Below w.heap.size w (w.alloc (.cells #[.int .i32 x1, .int .i32 x2] 68)) := (Below.refl _ w).alloc (Nat.le_refl _) _
  have b0 := (h.below hB1).bx.cell 0
  have bX := Blk.new w #[.int .i32 x1, .int .i32 x2] 68
  have q0 := bX.cell 0
  have q1 := bX.cell 1
  have HD := hide (anyWithin_any hl C x1 x2 h1 hx q hq (w.alloc (.cells #[.int .i32 x1, .int .i32 x2] 68)) (h.below hB1).st)
  have HB := hide hB1
  clear hB1 h hq h1 hx bX
  go_enter Tryz.func125, Tryz.ntmps125
  go_wp2_with fail
  refine (unhide HD).mono ?_
  rintro e w2 ⟨rfl, hb⟩
  have HB2 := hide ((unhide HB).trans (hb.mono (unhide HB).size))
  clear hb HB HD
  cases q
  all_goals
    go_wp2_with fail
    go_ret
    exact ⟨rfl, unhide HB2⟩
def ul3D (P : Nat) (C : Nat) (E : Nat) (x1 : Int) (x2 : ByteArray) (e1 : Int) (e2 : Int) : Nat → Value → World → Prop
  | 0, v, w => v = .pointer (some ⟨C, 0, none⟩)
  | 1, v, w => v = .pointer (some ⟨P, 0, none⟩)
  | 2, v, w => v = .int .i32 x1
  | 3, v, w => ∃ g, v = .slice (some ⟨g, 0, none⟩) 1 1 ∧ RnC w w.heap.size (some ⟨g, 0, none⟩) [x1]
  | 4, v, w => v = .int .i64 e1
  | 5, v, w => v = .pointer (some ⟨E, 0, none⟩)
  | 6, v, w => v = .pointer (some ⟨P, 1, none⟩)
  | 7, v, w => v = .string x2
  | 8, v, w => ∃ g c, v = .slice (some ⟨g, 0, none⟩) (runesL x2).length c ∧ RnG w g (runesL x2)
  | 9, v, w => v = .int .i64 e2
  | 10, v, w => ∃ g, v = .slice (some ⟨g, 0, none⟩) 2 2 ∧ Blk w g #[.int .i64 e1, .int .i64 e2] 22
  | 11, v, w => v = .int .i64 (orE [e1, e2])
  | _, v, w => True
def ul3DM (j : Nat) : Bool := false
theorem ul3D_st {P : Nat} {C : Nat} {E : Nat} {x1 : Int} {x2 : ByteArray} {e1 : Int} {e2 : Int} {w w' : World} (hb : Below w.heap.size w w') : ∀ (j : Nat) (v : Value), ul3D P C E x1 x2 e1 e2 j v w → ul3D P C E x1 x2 e1 e2 j v w'
  | 0, v, h => h
  | 1, v, h => h
  | 2, v, h => h
  | 3, v, h => let ⟨g, e, h2⟩ := h; ⟨g, e, h2.below hb⟩
  | 4, v, h => h
  | 5, v, h => h
  | 6, v, h => h
  | 7, v, h => h
  | 8, v, h => let ⟨g, c, e, h2⟩ := h; ⟨g, c, e, h2.below hb⟩
  | 9, v, h => h
  | 10, v, h => let ⟨g, e, h2⟩ := h; ⟨g, e, h2.below hb h2.lt⟩
  | 11, v, h => h
  | _ + 12, v, h => h
theorem ul3D_lt {P : Nat} {C : Nat} {E : Nat} {x1 : Int} {x2 : ByteArray} {e1 : Int} {e2 : Int} {w : World} (j : Nat) (v : Value) (hm : ul3DM j = true) (h : ul3D P C E x1 x2 e1 e2 j v w) : ∀ b, v.ownBlock = some b → b < w.heap.size := by
  cases hm
set_option maxRecDepth 100000 in
set_option maxHeartbeats 4000000 in
theorem bkUlo3_any {l : List (Int × Int)} (hl : l.length ≤ 1000000) {m : List (Int × Int)} (hm : m.length ≤ 1000000) (BX C BY E : Nat) (x1 : Int) (x2 : ByteArray) (hz : x2.size ≤ 1048576) (hn : (runesL x2).length ≤ 1000000) (w0 : World) (h : StP w0 BX C l) (h2 : StP w0 BY E m) :
    Calls Tryz.prog 120 #[.agg #[.int .i32 x1, .string x2], .pointer (some ⟨BX, 0, none⟩), .pointer (some ⟨BY, 0, none⟩)] w0 fun e w' => e = .returned (.int .i64 (if memB l x1 || (runesL x2).any (memB m) then 5 else 0)) ∧ Below w0.heap.size w0 w' := by
  have hmx : Tryz.prog.follows .mixedOrders = true := by kernel_rfl
  have hB0 : Below w0.heap.size w0 (w0.alloc (.cells #[.int .i32 x1, .string x2] 59)).drew := ((Below.refl _ w0).alloc (Nat.le_refl _) _).trans ⟨rfl, rfl, rfl, Nat.le_refl _, fun _ _ => rfl⟩
  have bX : Blk (w0.alloc (.cells #[.int .i32 x1, .string x2] 59)).drew w0.heap.size #[.int .i32 x1, .string x2] 59 := Blk.new w0 _ _
  have hU := h.below hB0
  have hU2 := h2.below hB0
  have HF : Hz (∀ w1, Below (w0.alloc (.cells #[.int .i32 x1, .string x2] 59)).drew.heap.size (w0.alloc (.cells #[.int .i32 x1, .string x2] 59)).drew w1 → Blk w1 w0.heap.size #[.int .i32 x1, .string x2] 59 ∧ StP w1 BX C l ∧ StP w1 BY E m) := hide (fun w1 h1 => ⟨bX.below h1 bX.lt, hU.below h1, hU2.below h1⟩)
  have HB := hide hB0
  have HZ := hide hz
  have HN := hide hn
  have HLN := hide (And.intro hl hm)
  obtain ⟨e1, he1⟩ : ∃ z : Int, (if [x1].any (memB l) then 5 else 0) = z := ⟨_, rfl⟩
  obtain ⟨e2, he2⟩ : ∃ z : Int, (if (runesL x2).any (memB m) then 5 else 0) = z := ⟨_, rfl⟩
  have HFI : Hz ((if memB l x1 || (runesL x2).any (memB m) then 5 else 0 : Int) = orE [e1, e2]) := hide (by
    rw [← he1, ← he2, show [x1].any (memB l) = memB l x1 by simp]
    cases memB l x1 <;> cases (runesL x2).any (memB m) <;> rfl)
  rw [unhide HFI]
  have HE1 := hide he1
  have HE2 := hide he2
  clear hB0 bX hU hU2 h h2 he1 he2 hz hn HFI
  go_enter Tryz.func120, Tryz.ntmps120
  go_wp2_with fail
  generalize (w0.alloc (.cells #[.int .i32 x1, .string x2] 59)) = wz at *
  refine wp_region_inv hmx 12 (by decide) (by kernel_rfl) (by kernel_rfl) (fun l a w => ∃ U : Nat → Value, a = { tmps := #[.agg #[.int .i32 x1, .string x2], .pointer (some ⟨BX, 0, none⟩), .pointer (some ⟨BY, 0, none⟩), .pointer (some ⟨w0.heap.size, 0, none⟩), .int .i64 0, U 0, U 1, U 2, U 3, U 4, U 5, U 6, U 7, U 8, U 9, U 10, U 11], defers := [] } ∧ RgJ (wz.drew) (wz.drew.heap.size) (ul3D w0.heap.size C E x1 x2 e1 e2) ul3DM l U w) ⟨fun _ => undef, rfl, RgJ.start _ _ (Nat.le_refl _)⟩ ?_ ?_
  · rintro l a w i ⟨U, rfl, hJ⟩ hl hi hif
    have h0 := (mem_ready.1 hi).1
    have hlt := rg_lt hl h0
    have HJ := hide hJ
    clear hJ hl
    replace hlt : i < 13 := hlt
    obtain rfl | rfl | rfl | rfl | rfl | rfl | rfl | rfl | rfl | rfl | rfl | rfl : i = 0 ∨ i = 1 ∨ i = 2 ∨ i = 3 ∨ i = 4 ∨ i = 5 ∨ i = 6 ∨ i = 7 ∨ i = 8 ∨ i = 9 ∨ i = 10 ∨ i = 11 := by omega
    · refine wpOp_step rfl (fun K hK => ?_)
      clear hlt hif
      have q0 := (unhide HF w (unhide HJ).bel).2.1.bx.cell 0
      go_simp
      exact hK _ _ ⟨slotPut U 0 _, rfl, (unhide HJ).put 0 _ h0 (Below.refl _ _) (ul3D_st (Below.refl _ _)) rfl ul3D_lt (fun h => absurd h (by decide))⟩
    · refine wpOp_step rfl (fun K hK => ?_)
      clear hlt hif
      go_simp
      exact hK _ _ ⟨slotPut U 1 _, rfl, (unhide HJ).put 1 _ h0 (Below.refl _ _) (ul3D_st (Below.refl _ _)) rfl ul3D_lt (fun h => absurd h (by decide))⟩
    · refine wpOp_step rfl (fun K hK => ?_)
      clear hlt hif
      have d1 : U 1 = .pointer (some ⟨w0.heap.size, 0, none⟩) := (unhide HJ).val 1 (rg_dep hi 1 (by kernel_rfl))
      have q1 := (unhide HF w (unhide HJ).bel).1.cell 0
      go_simp
      exact hK _ _ ⟨slotPut U 2 _, (by rw [slotEq d1]; rfl), (unhide HJ).put 2 _ h0 (Below.refl _ _) (ul3D_st (Below.refl _ _)) rfl ul3D_lt (fun h => absurd h (by decide))⟩
    · refine wpOp_step rfl (fun K hK => ?_)
      clear hlt hif
      have d2 : U 2 = .int .i32 x1 := (unhide HJ).val 2 (rg_dep hi 2 (by kernel_rfl))
      go_simp
      exact hK _ _ ⟨slotPut U 3 _, (by rw [slotEq d2]; rfl), (unhide HJ).put 3 _ h0 ((Below.refl _ _).alloc (Nat.le_refl _) _) (ul3D_st ((Below.refl _ _).alloc (Nat.le_refl _) _)) ⟨_, rfl, one_rn w _ x1 _ rfl⟩ ul3D_lt (fun h => absurd h (by decide))⟩
    · refine wpOp_step rfl (fun K hK => ?_)
      clear hlt hif
      have d0 : U 0 = .pointer (some ⟨C, 0, none⟩) := (unhide HJ).val 0 (rg_dep hi 0 (by kernel_rfl))
      obtain ⟨g3, d3, h3⟩ := (unhide HJ).val 3 (rg_dep hi 3 (by kernel_rfl))
      go_simp
      refine (anyOf_any (unhide HLN).1 C [x1] (by simp) _ _ w (unhide HF w (unhide HJ).bel).2.1.st h3).mono ?_
      rw [unhide HE1]
      rintro e w' ⟨rfl, hb⟩
      exact hK _ _ ⟨slotPut U 4 _, (by rw [slotEq d0, slotEq d3]; rfl), (unhide HJ).put 4 _ h0 hb (ul3D_st hb) rfl ul3D_lt (fun h => absurd h (by decide))⟩
    · refine wpOp_step rfl (fun K hK => ?_)
      clear hlt hif
      have q0 := (unhide HF w (unhide HJ).bel).2.2.bx.cell 0
      go_simp
      exact hK _ _ ⟨slotPut U 5 _, rfl, (unhide HJ).put 5 _ h0 (Below.refl _ _) (ul3D_st (Below.refl _ _)) rfl ul3D_lt (fun h => absurd h (by decide))⟩
    · refine wpOp_step rfl (fun K hK => ?_)
      clear hlt hif
      go_simp
      exact hK _ _ ⟨slotPut U 6 _, rfl, (unhide HJ).put 6 _ h0 (Below.refl _ _) (ul3D_st (Below.refl _ _)) rfl ul3D_lt (fun h => absurd h (by decide))⟩
    · refine wpOp_step rfl (fun K hK => ?_)
      clear hlt hif
      have d6 : U 6 = .pointer (some ⟨w0.heap.size, 1, none⟩) := (unhide HJ).val 6 (rg_dep hi 6 (by kernel_rfl))
      have q1 := (unhide HF w (unhide HJ).bel).1.cell 1
      go_simp
      exact hK _ _ ⟨slotPut U 7 _, (by rw [slotEq d6]; rfl), (unhide HJ).put 7 _ h0 (Below.refl _ _) (ul3D_st (Below.refl _ _)) rfl ul3D_lt (fun h => absurd h (by decide))⟩
    · refine wpOp_step rfl (fun K hK => ?_)
      clear hlt hif
      have d7 : U 7 = .string x2 := (unhide HJ).val 7 (rg_dep hi 7 (by kernel_rfl))
      go_simp
      refine (runesG x2 (unhide HZ) _).mono ?_
      rintro e w' ⟨g2, c2, rfl, hg2, hrn, hb⟩
      exact hK _ _ ⟨slotPut U 8 _, (by rw [slotEq d7]; rfl), (unhide HJ).put 8 _ h0 hb (ul3D_st hb) ⟨g2, c2, rfl, hrn⟩ ul3D_lt (fun h => absurd h (by decide))⟩
    · refine wpOp_step rfl (fun K hK => ?_)
      clear hlt hif
      have d5 : U 5 = .pointer (some ⟨E, 0, none⟩) := (unhide HJ).val 5 (rg_dep hi 5 (by kernel_rfl))
      obtain ⟨g8, c8, d8, h8⟩ := (unhide HJ).val 8 (rg_dep hi 8 (by kernel_rfl))
      go_simp
      refine (anyOf_any (unhide HLN).2 E (runesL x2) (unhide HN) _ _ w (unhide HF w (unhide HJ).bel).2.2.st (rnC_of h8)).mono ?_
      rw [unhide HE2]
      rintro e w' ⟨rfl, hb⟩
      exact hK _ _ ⟨slotPut U 9 _, (by rw [slotEq d5, slotEq d8]; rfl), (unhide HJ).put 9 _ h0 hb (ul3D_st hb) rfl ul3D_lt (fun h => absurd h (by decide))⟩
    · refine wpOp_step rfl (fun K hK => ?_)
      clear hlt hif
      have d4 : U 4 = .int .i64 e1 := (unhide HJ).val 4 (rg_dep hi 4 (by kernel_rfl))
      have d9 : U 9 = .int .i64 e2 := (unhide HJ).val 9 (rg_dep hi 9 (by kernel_rfl))
      go_simp
      exact hK _ _ ⟨slotPut U 10 _, (by rw [slotEq d4, slotEq d9]; rfl), (unhide HJ).put 10 _ h0 ((Below.refl _ _).alloc (Nat.le_refl _) _) (ul3D_st ((Below.refl _ _).alloc (Nat.le_refl _) _)) ⟨_, rfl, Blk.new w _ _⟩ ul3D_lt (fun h => absurd h (by decide))⟩
    · refine wpOp_step rfl (fun K hK => ?_)
      clear hlt hif
      obtain ⟨g10, d10, h10⟩ := (unhide HJ).val 10 (rg_dep hi 10 (by kernel_rfl))
      go_simp
      refine (orErrno_any [e1, e2] (by simp) _ 0 _ _ (two_blk h10)).mono ?_
      rintro e w' ⟨rfl, rfl⟩
      exact hK _ _ ⟨slotPut U 11 _, (by rw [slotEq d10]; rfl), (unhide HJ).put 11 _ h0 (Below.refl _ _) (ul3D_st (Below.refl _ _)) rfl ul3D_lt (fun h => absurd h (by decide))⟩
  · rintro l a w ⟨U, rfl, hJ⟩ hall
    have d11 : U 11 = .int .i64 (orE [e1, e2]) := hJ.val 11 (hall 11 (by decide) (by decide))
    have HBJ := hide ((unhide HB).trans (hJ.bel.mono (unhide HB).size))
    clear hJ hall
    refine wpOp_step rfl (fun K hK => ?_)
    obtain ⟨zz, hzz⟩ : ∃ zz, orE [e1, e2] = zz := ⟨_, rfl⟩
    rw [hzz] at d11
    have HZZ := hide hzz
    clear hzz
    go_simp
    refine hK _ _ ?_
    clear hK
    go_wp2_with fail
    go_ret
    exact ⟨by rw [unhide HZZ]; rfl, unhide HBJ⟩
def ul4D (P : Nat) (C : Nat) (E : Nat) (x1 : Int) (x2 : ByteArray) (e1 : Int) (e2 : Int) : Nat → Value → World → Prop
  | 0, v, w => v = .pointer (some ⟨C, 0, none⟩)
  | 1, v, w => v = .pointer (some ⟨P, 0, none⟩)
  | 2, v, w => v = .int .i32 x1
  | 3, v, w => ∃ g, v = .slice (some ⟨g, 0, none⟩) 1 1 ∧ RnC w w.heap.size (some ⟨g, 0, none⟩) [x1]
  | 4, v, w => v = .int .i64 e1
  | 5, v, w => v = .pointer (some ⟨C, 0, none⟩)
  | 6, v, w => v = .pointer (some ⟨P, 1, none⟩)
  | 7, v, w => v = .string x2
  | 8, v, w => ∃ g c, v = .slice (some ⟨g, 0, none⟩) (runesL x2).length c ∧ RnG w g (runesL x2)
  | 9, v, w => v = .int .i64 e2
  | 10, v, w => ∃ g, v = .slice (some ⟨g, 0, none⟩) 2 2 ∧ Blk w g #[.int .i64 e1, .int .i64 e2] 22
  | 11, v, w => v = .int .i64 (orE [e1, e2])
  | _, v, w => True
def ul4DM (j : Nat) : Bool := false
theorem ul4D_st {P : Nat} {C : Nat} {E : Nat} {x1 : Int} {x2 : ByteArray} {e1 : Int} {e2 : Int} {w w' : World} (hb : Below w.heap.size w w') : ∀ (j : Nat) (v : Value), ul4D P C E x1 x2 e1 e2 j v w → ul4D P C E x1 x2 e1 e2 j v w'
  | 0, v, h => h
  | 1, v, h => h
  | 2, v, h => h
  | 3, v, h => let ⟨g, e, h2⟩ := h; ⟨g, e, h2.below hb⟩
  | 4, v, h => h
  | 5, v, h => h
  | 6, v, h => h
  | 7, v, h => h
  | 8, v, h => let ⟨g, c, e, h2⟩ := h; ⟨g, c, e, h2.below hb⟩
  | 9, v, h => h
  | 10, v, h => let ⟨g, e, h2⟩ := h; ⟨g, e, h2.below hb h2.lt⟩
  | 11, v, h => h
  | _ + 12, v, h => h
theorem ul4D_lt {P : Nat} {C : Nat} {E : Nat} {x1 : Int} {x2 : ByteArray} {e1 : Int} {e2 : Int} {w : World} (j : Nat) (v : Value) (hm : ul4DM j = true) (h : ul4D P C E x1 x2 e1 e2 j v w) : ∀ b, v.ownBlock = some b → b < w.heap.size := by
  cases hm
set_option maxRecDepth 100000 in
set_option maxHeartbeats 4000000 in
theorem bkUlo4_any {l : List (Int × Int)} (hl : l.length ≤ 1000000) (BX C : Nat) (x1 : Int) (x2 : ByteArray) (hz : x2.size ≤ 1048576) (hn : (runesL x2).length ≤ 1000000) (w0 : World) (h : StP w0 BX C l) :
    Calls Tryz.prog 121 #[.agg #[.int .i32 x1, .string x2], .pointer (some ⟨BX, 0, none⟩)] w0 fun e w' => e = .returned (.int .i64 (if memB l x1 || (runesL x2).any (memB l) then 5 else 0)) ∧ Below w0.heap.size w0 w' := by
  have hmx : Tryz.prog.follows .mixedOrders = true := by kernel_rfl
  have hB0 : Below w0.heap.size w0 (w0.alloc (.cells #[.int .i32 x1, .string x2] 59)).drew := ((Below.refl _ w0).alloc (Nat.le_refl _) _).trans ⟨rfl, rfl, rfl, Nat.le_refl _, fun _ _ => rfl⟩
  have bX : Blk (w0.alloc (.cells #[.int .i32 x1, .string x2] 59)).drew w0.heap.size #[.int .i32 x1, .string x2] 59 := Blk.new w0 _ _
  have hU := h.below hB0
  have hU2 := h.below hB0
  have HF : Hz (∀ w1, Below (w0.alloc (.cells #[.int .i32 x1, .string x2] 59)).drew.heap.size (w0.alloc (.cells #[.int .i32 x1, .string x2] 59)).drew w1 → Blk w1 w0.heap.size #[.int .i32 x1, .string x2] 59 ∧ StP w1 BX C l ∧ StP w1 BX C l) := hide (fun w1 h1 => ⟨bX.below h1 bX.lt, hU.below h1, hU2.below h1⟩)
  have HB := hide hB0
  have HZ := hide hz
  have HN := hide hn
  have HLN := hide (And.intro hl hl)
  obtain ⟨e1, he1⟩ : ∃ z : Int, (if [x1].any (memB l) then 5 else 0) = z := ⟨_, rfl⟩
  obtain ⟨e2, he2⟩ : ∃ z : Int, (if (runesL x2).any (memB l) then 5 else 0) = z := ⟨_, rfl⟩
  have HFI : Hz ((if memB l x1 || (runesL x2).any (memB l) then 5 else 0 : Int) = orE [e1, e2]) := hide (by
    rw [← he1, ← he2, show [x1].any (memB l) = memB l x1 by simp]
    cases memB l x1 <;> cases (runesL x2).any (memB l) <;> rfl)
  rw [unhide HFI]
  have HE1 := hide he1
  have HE2 := hide he2
  clear hB0 bX hU hU2 h he1 he2 hz hn HFI
  go_enter Tryz.func121, Tryz.ntmps121
  go_wp2_with fail
  generalize (w0.alloc (.cells #[.int .i32 x1, .string x2] 59)) = wz at *
  refine wp_region_inv hmx 12 (by decide) (by kernel_rfl) (by kernel_rfl) (fun l a w => ∃ U : Nat → Value, a = { tmps := #[.agg #[.int .i32 x1, .string x2], .pointer (some ⟨BX, 0, none⟩), .pointer (some ⟨w0.heap.size, 0, none⟩), .int .i64 0, U 0, U 1, U 2, U 3, U 4, U 5, U 6, U 7, U 8, U 9, U 10, U 11], defers := [] } ∧ RgJ (wz.drew) (wz.drew.heap.size) (ul4D w0.heap.size C C x1 x2 e1 e2) ul4DM l U w) ⟨fun _ => undef, rfl, RgJ.start _ _ (Nat.le_refl _)⟩ ?_ ?_
  · rintro l a w i ⟨U, rfl, hJ⟩ hl hi hif
    have h0 := (mem_ready.1 hi).1
    have hlt := rg_lt hl h0
    have HJ := hide hJ
    clear hJ hl
    replace hlt : i < 13 := hlt
    obtain rfl | rfl | rfl | rfl | rfl | rfl | rfl | rfl | rfl | rfl | rfl | rfl : i = 0 ∨ i = 1 ∨ i = 2 ∨ i = 3 ∨ i = 4 ∨ i = 5 ∨ i = 6 ∨ i = 7 ∨ i = 8 ∨ i = 9 ∨ i = 10 ∨ i = 11 := by omega
    · refine wpOp_step rfl (fun K hK => ?_)
      clear hlt hif
      have q0 := (unhide HF w (unhide HJ).bel).2.1.bx.cell 0
      go_simp
      exact hK _ _ ⟨slotPut U 0 _, rfl, (unhide HJ).put 0 _ h0 (Below.refl _ _) (ul4D_st (Below.refl _ _)) rfl ul4D_lt (fun h => absurd h (by decide))⟩
    · refine wpOp_step rfl (fun K hK => ?_)
      clear hlt hif
      go_simp
      exact hK _ _ ⟨slotPut U 1 _, rfl, (unhide HJ).put 1 _ h0 (Below.refl _ _) (ul4D_st (Below.refl _ _)) rfl ul4D_lt (fun h => absurd h (by decide))⟩
    · refine wpOp_step rfl (fun K hK => ?_)
      clear hlt hif
      have d1 : U 1 = .pointer (some ⟨w0.heap.size, 0, none⟩) := (unhide HJ).val 1 (rg_dep hi 1 (by kernel_rfl))
      have q1 := (unhide HF w (unhide HJ).bel).1.cell 0
      go_simp
      exact hK _ _ ⟨slotPut U 2 _, (by rw [slotEq d1]; rfl), (unhide HJ).put 2 _ h0 (Below.refl _ _) (ul4D_st (Below.refl _ _)) rfl ul4D_lt (fun h => absurd h (by decide))⟩
    · refine wpOp_step rfl (fun K hK => ?_)
      clear hlt hif
      have d2 : U 2 = .int .i32 x1 := (unhide HJ).val 2 (rg_dep hi 2 (by kernel_rfl))
      go_simp
      exact hK _ _ ⟨slotPut U 3 _, (by rw [slotEq d2]; rfl), (unhide HJ).put 3 _ h0 ((Below.refl _ _).alloc (Nat.le_refl _) _) (ul4D_st ((Below.refl _ _).alloc (Nat.le_refl _) _)) ⟨_, rfl, one_rn w _ x1 _ rfl⟩ ul4D_lt (fun h => absurd h (by decide))⟩
    · refine wpOp_step rfl (fun K hK => ?_)
      clear hlt hif
      have d0 : U 0 = .pointer (some ⟨C, 0, none⟩) := (unhide HJ).val 0 (rg_dep hi 0 (by kernel_rfl))
      obtain ⟨g3, d3, h3⟩ := (unhide HJ).val 3 (rg_dep hi 3 (by kernel_rfl))
      go_simp
      refine (anyOf_any (unhide HLN).1 C [x1] (by simp) _ _ w (unhide HF w (unhide HJ).bel).2.1.st h3).mono ?_
      rw [unhide HE1]
      rintro e w' ⟨rfl, hb⟩
      exact hK _ _ ⟨slotPut U 4 _, (by rw [slotEq d0, slotEq d3]; rfl), (unhide HJ).put 4 _ h0 hb (ul4D_st hb) rfl ul4D_lt (fun h => absurd h (by decide))⟩
    · refine wpOp_step rfl (fun K hK => ?_)
      clear hlt hif
      have q0 := (unhide HF w (unhide HJ).bel).2.2.bx.cell 0
      go_simp
      exact hK _ _ ⟨slotPut U 5 _, rfl, (unhide HJ).put 5 _ h0 (Below.refl _ _) (ul4D_st (Below.refl _ _)) rfl ul4D_lt (fun h => absurd h (by decide))⟩
    · refine wpOp_step rfl (fun K hK => ?_)
      clear hlt hif
      go_simp
      exact hK _ _ ⟨slotPut U 6 _, rfl, (unhide HJ).put 6 _ h0 (Below.refl _ _) (ul4D_st (Below.refl _ _)) rfl ul4D_lt (fun h => absurd h (by decide))⟩
    · refine wpOp_step rfl (fun K hK => ?_)
      clear hlt hif
      have d6 : U 6 = .pointer (some ⟨w0.heap.size, 1, none⟩) := (unhide HJ).val 6 (rg_dep hi 6 (by kernel_rfl))
      have q1 := (unhide HF w (unhide HJ).bel).1.cell 1
      go_simp
      exact hK _ _ ⟨slotPut U 7 _, (by rw [slotEq d6]; rfl), (unhide HJ).put 7 _ h0 (Below.refl _ _) (ul4D_st (Below.refl _ _)) rfl ul4D_lt (fun h => absurd h (by decide))⟩
    · refine wpOp_step rfl (fun K hK => ?_)
      clear hlt hif
      have d7 : U 7 = .string x2 := (unhide HJ).val 7 (rg_dep hi 7 (by kernel_rfl))
      go_simp
      refine (runesG x2 (unhide HZ) _).mono ?_
      rintro e w' ⟨g2, c2, rfl, hg2, hrn, hb⟩
      exact hK _ _ ⟨slotPut U 8 _, (by rw [slotEq d7]; rfl), (unhide HJ).put 8 _ h0 hb (ul4D_st hb) ⟨g2, c2, rfl, hrn⟩ ul4D_lt (fun h => absurd h (by decide))⟩
    · refine wpOp_step rfl (fun K hK => ?_)
      clear hlt hif
      have d5 : U 5 = .pointer (some ⟨C, 0, none⟩) := (unhide HJ).val 5 (rg_dep hi 5 (by kernel_rfl))
      obtain ⟨g8, c8, d8, h8⟩ := (unhide HJ).val 8 (rg_dep hi 8 (by kernel_rfl))
      go_simp
      refine (anyOf_any (unhide HLN).2 C (runesL x2) (unhide HN) _ _ w (unhide HF w (unhide HJ).bel).2.2.st (rnC_of h8)).mono ?_
      rw [unhide HE2]
      rintro e w' ⟨rfl, hb⟩
      exact hK _ _ ⟨slotPut U 9 _, (by rw [slotEq d5, slotEq d8]; rfl), (unhide HJ).put 9 _ h0 hb (ul4D_st hb) rfl ul4D_lt (fun h => absurd h (by decide))⟩
    · refine wpOp_step rfl (fun K hK => ?_)
      clear hlt hif
      have d4 : U 4 = .int .i64 e1 := (unhide HJ).val 4 (rg_dep hi 4 (by kernel_rfl))
      have d9 : U 9 = .int .i64 e2 := (unhide HJ).val 9 (rg_dep hi 9 (by kernel_rfl))
      go_simp
      exact hK _ _ ⟨slotPut U 10 _, (by rw [slotEq d4, slotEq d9]; rfl), (unhide HJ).put 10 _ h0 ((Below.refl _ _).alloc (Nat.le_refl _) _) (ul4D_st ((Below.refl _ _).alloc (Nat.le_refl _) _)) ⟨_, rfl, Blk.new w _ _⟩ ul4D_lt (fun h => absurd h (by decide))⟩
    · refine wpOp_step rfl (fun K hK => ?_)
      clear hlt hif
      obtain ⟨g10, d10, h10⟩ := (unhide HJ).val 10 (rg_dep hi 10 (by kernel_rfl))
      go_simp
      refine (orErrno_any [e1, e2] (by simp) _ 0 _ _ (two_blk h10)).mono ?_
      rintro e w' ⟨rfl, rfl⟩
      exact hK _ _ ⟨slotPut U 11 _, (by rw [slotEq d10]; rfl), (unhide HJ).put 11 _ h0 (Below.refl _ _) (ul4D_st (Below.refl _ _)) rfl ul4D_lt (fun h => absurd h (by decide))⟩
  · rintro l a w ⟨U, rfl, hJ⟩ hall
    have d11 : U 11 = .int .i64 (orE [e1, e2]) := hJ.val 11 (hall 11 (by decide) (by decide))
    have HBJ := hide ((unhide HB).trans (hJ.bel.mono (unhide HB).size))
    clear hJ hall
    refine wpOp_step rfl (fun K hK => ?_)
    obtain ⟨zz, hzz⟩ : ∃ zz, orE [e1, e2] = zz := ⟨_, rfl⟩
    rw [hzz] at d11
    have HZZ := hide hzz
    clear hzz
    go_simp
    refine hK _ _ ?_
    clear hK
    go_wp2_with fail
    go_ret
    exact ⟨by rw [unhide HZZ]; rfl, unhide HBJ⟩
end Go.Proofs.YtnnbaodillnkkaaGreat
