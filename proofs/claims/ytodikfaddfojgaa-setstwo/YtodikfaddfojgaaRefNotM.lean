/- The reference's Not: what its loop keeps. -/
import Derived.Test.YtodikfaddfojgaaSetMeetM
namespace Go.Proofs.Ytodikfaddfojgaa
open Go.RowKit Go.Shelf
set_option linter.unusedVariables false
/-- The rune ahead of one. -/
def dnOf (r : Int) : Int := if r - 1 = 57343 then 55295 else r - 1
theorem dn_facts {r : Int} (h : runeB r = true) (h0 : 0 < r) : runeB (dnOf r) = true ∧ rankOf (dnOf r) + 1 = rankOf r ∧ 0 ≤ dnOf r ∧ dnOf r < r ∧ (∀ s, runeB s = true → (s ≤ dnOf r ↔ s < r)) := by
  have p := runeB_iff h
  unfold dnOf
  refine ⟨?_, ?_, ?_, ?_, fun s hs => ?_⟩
  · unfold runeB; split <;> simp <;> omega
  · unfold rankOf
    repeat' split
    all_goals omega
  · split <;> omega
  · split <;> omega
  · have q := runeB_iff hs
    split <;> omega
theorem up_facts {r : Int} (h : runeB r = true) : 0 ≤ upOf r ∧ upOf r ≤ 1114112 ∧ (runeB (upOf r) = true ∨ upOf r = 1114112) ∧ (∀ s, runeB s = true → (s < upOf r ↔ s ≤ r)) := by
  have p := runeB_iff h
  unfold upOf
  refine ⟨?_, ?_, ?_, fun s hs => ?_⟩
  · split <;> omega
  · split <;> omega
  · by_cases e : r = 1114111
    · exact .inr (by rw [if_neg (by omega)]; omega)
    · exact .inl (by unfold runeB; split <;> simp <;> omega)
  · have q := runeB_iff hs
    split <;> omega
theorem rank_le'' {a b : Int} (h : b ≤ a) : rankOf b ≤ rankOf a := by
  unfold rankOf
  repeat' split
  all_goals omega
theorem rank_lt_of {a b : Int} (ha : runeB a = true) (h : rankOf a < rankOf b) : a < b := by
  rcases Int.lt_or_le a b with c | c
  · exact c
  · have := rank_le'' c; omega
structure RNot (ys : List (Int × Int)) (k : Nat) (out : List (Int × Int)) (at_ : Int) : Prop where
  spread : Spread out
  low : ∀ y ∈ out, rankOf y.2 + 1 < rankOf at_
  mem : ∀ r, memB out r = true ↔ runeB r = true ∧ r < at_ ∧ ¬ memB (ys.take k) r = true
  past : ∀ r, memB (ys.take k) r = true → r < at_
  next : ∀ j y, k ≤ j → ys[j]? = some y → at_ ≤ y.1
  rng : 0 ≤ at_ ∧ at_ ≤ 1114112 ∧ (runeB at_ = true ∨ at_ = 1114112)
  len : out.length ≤ k
theorem rnot_start {ys : List (Int × Int)} (h : Spread ys) : RNot ys 0 [] 0 where
  spread := ⟨fun x h => by simp at h, fun i j x y _ h => by simp at h⟩
  low := fun y h => by simp at h
  mem := fun r => ⟨fun h => by simp [memB] at h, fun ⟨h1, h2, _⟩ => by have := (runeB_iff h1).1; omega⟩
  past := fun r h => by simp [memB] at h
  next := fun j y _ hy => (endsB_iff (h.ends y (List.mem_of_getElem? hy)).1).1.1
  rng := ⟨by omega, by omega, .inl (by decide)⟩
  len := by simp
theorem rnot_step {ys : List (Int × Int)} (hS : Spread ys) {k : Nat} {out : List (Int × Int)} {at_ : Int} {y : Int × Int} (h : RNot ys k out at_) (hy : ys[k]? = some y) : RNot ys (k + 1) (if at_ < y.1 then out ++ [(at_, dnOf y.1)] else out) (upOf y.2) := by
  have he := hS.ends y (List.mem_of_getElem? hy)
  have e := endsB_parts he.1
  have f := endsB_iff he.1
  have u := up_facts e.2
  have hle := h.next k y (Nat.le_refl _) hy
  have hur := up_rank e.2
  have hrk := (rank_le f.1.2.2 f.2.2.2).2 he.2
  have hpast : ∀ r, memB (ys.take (k + 1)) r = true → r < upOf y.2 := fun r hr => by
    rw [mem_take_more hy, Bool.or_eq_true] at hr
    have hrr : runeB r = true := by
      rcases hr with q | q
      · exact ((memB_iff _ _).1 q).2
      · exact ((mem_one _ _).1 q).2
    rw [u.2.2.2 r hrr]
    rcases hr with q | q
    · have := h.past r q; omega
    · exact ((mem_one _ _).1 q).1.2
  have hnext : ∀ j z, k + 1 ≤ j → ys[j]? = some z → upOf y.2 ≤ z.1 := fun j z hj hz => by
    have a := hS.apart k j y z (by omega) hy hz
    have b := (up_facts e.2).2.2.1
    have hzr := endsB_parts (hS.ends z (List.mem_of_getElem? hz)).1
    rcases b with b | b
    · have := rank_lt_of b (b := z.1) (by omega); omega
    · have : rankOf (upOf y.2) = 1112064 := by rw [b]; rfl
      have q := runeB_iff hzr.1
      have := rank_range q.1 q.2.1
      omega
  by_cases c : at_ < y.1
  · rw [if_pos c]
    have hat : runeB at_ = true := by
      rcases h.rng.2.2 with q | q
      · exact q
      · omega
    have d := dn_facts e.1 (by have := h.rng.1; omega)
    have hdl : at_ ≤ dnOf y.1 := (d.2.2.2.2 at_ hat).2 c
    refine ⟨Spread.snoc h.spread (endsB_mk hat d.1) hdl (fun x hx => h.low x hx), fun z hz => ?_, fun r => ?_, hpast, hnext, ⟨u.1, u.2.1, u.2.2.1⟩, by have := h.len; simp; omega⟩
    · rw [hur]
      rcases List.mem_append.1 hz with q | q
      · have a := h.low z q
        have b := (rank_le (runeB_iff hat).2.2 f.1.2.2).2 hle
        omega
      · simp at q; subst q; simp only; omega
    · rw [memB_append, Bool.or_eq_true, h.mem r, mem_one, mem_take_more hy, Bool.or_eq_true, mem_one]
      constructor
      · rintro (⟨a, b, n⟩ | ⟨⟨a, b⟩, n⟩)
        · exact ⟨a, (u.2.2.2 r a).2 (by omega), fun q => by rcases q with q | q; exact n q; omega⟩
        · have b' := (d.2.2.2.2 r n).1 b
          refine ⟨n, (u.2.2.2 r n).2 (by omega), fun q => ?_⟩
          rcases q with q | q
          · have := h.past r q; simp only at a; omega
          · omega
      · rintro ⟨a, b, n⟩
        have b' := (u.2.2.2 r a).1 b
        by_cases q : r < at_
        · exact .inl ⟨a, q, fun m => n (.inl m)⟩
        · refine .inr ⟨⟨by simp only; omega, (d.2.2.2.2 r a).2 ?_⟩, a⟩
          rcases Int.lt_or_le r y.1 with q2 | q2
          · exact q2
          · exact absurd (.inr ⟨⟨q2, b'⟩, a⟩) n
  · rw [if_neg c]
    have hateq : at_ = y.1 := by omega
    refine ⟨h.spread, fun z hz => ?_, fun r => ?_, hpast, hnext, ⟨u.1, u.2.1, u.2.2.1⟩, by have := h.len; omega⟩
    · have a := h.low z hz
      rw [hateq] at a
      omega
    · rw [h.mem r, mem_take_more hy, Bool.or_eq_true, mem_one]
      constructor
      · rintro ⟨a, b, n⟩
        exact ⟨a, (u.2.2.2 r a).2 (by omega), fun q => by rcases q with q | q; exact n q; omega⟩
      · rintro ⟨a, b, n⟩
        have b' := (u.2.2.2 r a).1 b
        refine ⟨a, ?_, fun m => n (.inl m)⟩
        rcases Int.lt_or_le r at_ with q2 | q2
        · exact q2
        · exact absurd (.inr ⟨⟨by omega, b'⟩, a⟩) n
theorem rnot_end {ys : List (Int × Int)} {k : Nat} {out : List (Int × Int)} {at_ : Int} (h : RNot ys k out at_) (hk : ys.length ≤ k) : Spread (if at_ ≤ 1114111 then out ++ [(at_, 1114111)] else out) ∧ (∀ r, memB (if at_ ≤ 1114111 then out ++ [(at_, 1114111)] else out) r = (runeB r && !memB ys r)) := by
  have hm : ∀ r, memB out r = true ↔ runeB r = true ∧ r < at_ ∧ ¬ memB ys r = true := fun r => by
    have := h.mem r
    rwa [List.take_of_length_le hk] at this
  have hp : ∀ r, memB ys r = true → r < at_ := fun r => by
    have := h.past r
    rwa [List.take_of_length_le hk] at this
  by_cases c : at_ ≤ 1114111
  · rw [if_pos c]
    have hat : runeB at_ = true := by
      rcases h.rng.2.2 with q | q
      · exact q
      · omega
    refine ⟨Spread.snoc h.spread (endsB_mk hat (show runeB 1114111 = true by decide)) c (fun x hx => h.low x hx), fun r => ?_⟩
    rw [Bool.eq_iff_iff, memB_append, Bool.or_eq_true, hm r, mem_one, Bool.and_eq_true, Bool.not_eq_true']
    constructor
    · rintro (⟨a, b, n⟩ | ⟨⟨a, b⟩, n⟩)
      · exact ⟨a, by simpa using n⟩
      · refine ⟨n, ?_⟩
        rw [← Bool.not_eq_true]
        intro q
        have := hp r q
        simp only at a
        omega
    · rintro ⟨a, n⟩
      by_cases q : r < at_
      · exact .inl ⟨a, q, by rw [n]; decide⟩
      · exact .inr ⟨⟨by simp only; omega, (runeB_iff a).2.1⟩, a⟩
  · rw [if_neg c]
    refine ⟨h.spread, fun r => ?_⟩
    rw [Bool.eq_iff_iff, hm r, Bool.and_eq_true, Bool.not_eq_true']
    constructor
    · rintro ⟨a, b, n⟩; exact ⟨a, by simpa using n⟩
    · rintro ⟨a, n⟩; exact ⟨a, by have := (runeB_iff a).2.1; omega, by rw [n]; decide⟩
/-- The reference's Meet: what its loops keep. -/
structure RMeet (zs ys : List (Int × Int)) (i j : Nat) (out : List (Int × Int)) : Prop where
  right : RightL out
  mem : ∀ r, memB out r = true ↔ (memB (zs.take i) r = true ∧ memB ys r = true) ∨ (∃ a, zs[i]? = some a ∧ memB [a] r = true ∧ memB (ys.take j) r = true)
  len : out.length ≤ i * ys.length + j
theorem rmeet_start (zs ys : List (Int × Int)) : RMeet zs ys 0 0 [] where
  right := fun x h => by simp at h
  mem r := by simp [memB]
  len := by simp
theorem rmeet_step {zs ys : List (Int × Int)} (hS : Spread zs) (hY : Spread ys) {i j : Nat} {out : List (Int × Int)} {a b : Int × Int} (h : RMeet zs ys i j out) (ha : zs[i]? = some a) (hb : ys[j]? = some b) : RMeet zs ys i (j + 1) (if (bothOf a b).1 ≤ (bothOf a b).2 then out ++ [bothOf a b] else out) := by
  have he := both_ends (hS.ends a (List.mem_of_getElem? ha)).1 (hY.ends b (List.mem_of_getElem? hb)).1
  have hmem : ∀ r, (memB (zs.take i) r = true ∧ memB ys r = true) ∨ (∃ a, zs[i]? = some a ∧ memB [a] r = true ∧ memB (ys.take (j + 1)) r = true) ↔ memB out r = true ∨ memB [bothOf a b] r = true := fun r => by
    rw [h.mem r, mem_both, ha, mem_take_more hb]
    simp only [Option.some.injEq, exists_eq_left', Bool.or_eq_true]
    constructor
    · rintro (p | ⟨p, q | q⟩)
      · exact .inl (.inl p)
      · exact .inl (.inr ⟨p, q⟩)
      · exact .inr ⟨p, q⟩
    · rintro ((p | ⟨p, q⟩) | ⟨p, q⟩)
      · exact .inl p
      · exact .inr ⟨p, .inl q⟩
      · exact .inr ⟨p, .inr q⟩
  by_cases c : (bothOf a b).1 ≤ (bothOf a b).2
  · rw [if_pos c]
    refine ⟨fun x hx => ?_, fun r => ?_, by have := h.len; simp; omega⟩
    · rcases List.mem_append.1 hx with q | q
      · exact h.right x q
      · simp at q; subst q; exact ⟨he, c⟩
    · rw [hmem r, memB_append, Bool.or_eq_true]
  · rw [if_neg c]
    refine ⟨h.right, fun r => ?_, by have := h.len; omega⟩
    rw [hmem r, mem_one (bothOf a b)]
    constructor
    · exact .inl
    · rintro (q | ⟨q, _⟩)
      · exact q
      · omega
theorem rmeet_next {zs ys : List (Int × Int)} {i j : Nat} {out : List (Int × Int)} {a : Int × Int} (h : RMeet zs ys i j out) (ha : zs[i]? = some a) (hj : j = ys.length) : RMeet zs ys (i + 1) 0 out := by
  subst hj
  refine ⟨h.right, fun r => ?_, by have := h.len; rw [Nat.add_mul]; omega⟩
  rw [h.mem r, ha, mem_take_more ha, List.take_of_length_le (Nat.le_refl _)]
  simp only [Option.some.injEq, exists_eq_left', Bool.or_eq_true, List.take_zero]
  have hn : ∀ q : Int × Int, ¬ (memB [q] r = true ∧ memB [] r = true) := fun q => by simp [memB]
  constructor
  · rintro (⟨p, q⟩ | ⟨p, q⟩)
    · exact .inl ⟨.inl p, q⟩
    · exact .inl ⟨.inr p, q⟩
  · rintro (⟨p | p, q⟩ | ⟨z, _, p⟩)
    · exact .inl ⟨p, q⟩
    · exact .inr ⟨p, q⟩
    · exact absurd p (hn z)
theorem rmeet_end {zs ys : List (Int × Int)} {i : Nat} {out : List (Int × Int)} (h : RMeet zs ys i 0 out) (hi : zs.length ≤ i) : ∀ r, memB out r = (memB zs r && memB ys r) := fun r => by
  rw [Bool.eq_iff_iff, h.mem r, Bool.and_eq_true, List.take_of_length_le hi]
  constructor
  · rintro (p | ⟨z, hz, _⟩)
    · exact p
    · rw [List.getElem?_eq_none hi] at hz; cases hz
  · exact .inl
end Go.Proofs.Ytodikfaddfojgaa
