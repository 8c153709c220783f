/- How many runes a set has, counted rune by rune. -/
import Derived.Test.YtodikfaddfojgaaSetNth
namespace Go.Proofs.Ytodikfaddfojgaa
open Go.RowKit Go.Shelf
set_option linter.unusedVariables false
/-- One or nought. -/
def oneIf (b : Bool) : Int := if b then 1 else 0
/-- How many runes of one span lie below r. -/
def spanBelow (x : Int × Int) (r : Int) : Int := if x.1 < r then min (rankOf r) (rankOf x.2 + 1) - rankOf x.1 else 0
theorem belowOf_cons (x : Int × Int) (zs : List (Int × Int)) (r : Int) : belowOf (x :: zs) r = spanBelow x r + belowOf zs r := rfl
theorem rank_step (r : Int) : rankOf (r + 1) = rankOf r + (if r < 55296 ∨ 57343 < r then 1 else 0) := by
  unfold rankOf
  repeat' split
  all_goals omega
theorem rank_le' {a b : Int} (h : a ≤ b) : rankOf a ≤ rankOf b := by
  unfold rankOf
  repeat' split
  all_goals omega
theorem spanBelow_step {x : Int × Int} (he : endsB x = true) (hx : x.1 ≤ x.2) (r : Int) : spanBelow x (r + 1) = spanBelow x r + oneIf (decide (x.1 ≤ r ∧ r ≤ x.2) && runeB r) := by
  have e := endsB_iff he
  have hs := rank_step r
  unfold spanBelow oneIf
  by_cases h1 : x.1 < r
  · rw [if_pos h1, if_pos (by omega)]
    by_cases h2 : r ≤ x.2
    · have m1 := rank_le' h2
      by_cases h3 : r < 55296 ∨ 57343 < r
      · rw [if_pos h3] at hs
        have hb : (decide (x.1 ≤ r ∧ r ≤ x.2) && runeB r) = true := by unfold runeB; simp; omega
        rw [hb]
        simp only [if_true]
        omega
      · rw [if_neg h3] at hs
        have hb : (decide (x.1 ≤ r ∧ r ≤ x.2) && runeB r) = false := by unfold runeB; simp; omega
        rw [hb]
        simp only [Bool.false_eq_true, if_false]
        omega
    · have m1 := rank_above (a := x.2) (b := r) (by omega) (by omega)
      have m2 := rank_above (a := x.2) (b := r + 1) (by omega) (by omega)
      have hb : (decide (x.1 ≤ r ∧ r ≤ x.2) && runeB r) = false := by simp; omega
      rw [hb]
      simp only [Bool.false_eq_true, if_false]
      omega
  · rw [if_neg h1]
    by_cases h2 : x.1 = r
    · subst h2
      rw [if_pos (by omega)]
      rw [if_pos (by omega)] at hs
      have hb : (decide (x.1 ≤ x.1 ∧ x.1 ≤ x.2) && runeB x.1) = true := by unfold runeB; simp; omega
      rw [hb]
      have m1 := rank_le' hx
      simp only [if_true]
      omega
    · rw [if_neg (by omega)]
      have hb : (decide (x.1 ≤ r ∧ r ≤ x.2) && runeB r) = false := by simp; omega
      rw [hb]
      simp
theorem belowOf_step : ∀ (zs : List (Int × Int)) (r : Int), Spread zs → belowOf zs (r + 1) = belowOf zs r + oneIf (memB zs r)
  | [], r, _ => by simp [belowOf, memB, oneIf]
  | x :: zs, r, h => by
    have he := h.ends x List.mem_cons_self
    have hs := spanBelow_step he.1 he.2 r
    have ht := belowOf_step zs r h.tail
    rw [belowOf_cons, belowOf_cons, hs, ht]
    have hc : memB (x :: zs) r = ((decide (x.1 ≤ r ∧ r ≤ x.2) && runeB r) || memB zs r) := by
      unfold memB
      simp only [List.any_cons, Bool.and_or_distrib_right]
    rw [hc]
    by_cases hd : (decide (x.1 ≤ r ∧ r ≤ x.2) && runeB r) = true
    · have hz : memB zs r = false := by
        rw [← Bool.not_eq_true]
        intro hm
        obtain ⟨⟨y, hy, p, q⟩, _⟩ := (memB_iff _ _).1 hm
        have := h.head_lt hy
        simp at hd
        omega
      rw [hd, hz]
      simp [oneIf]
      omega
    · rw [Bool.not_eq_true] at hd
      rw [hd, Bool.false_or]
      simp [oneIf]
      omega
theorem belowOf_zero {zs : List (Int × Int)} (h : Spread zs) : belowOf zs 0 = 0 := below_none zs 0 (fun x hx => (endsB_iff (h.ends x hx).1).1.1)
theorem belowOf_all : ∀ (zs : List (Int × Int)), Spread zs → belowOf zs 1114112 = total zs
  | [], _ => rfl
  | x :: zs, h => by
    have he := h.ends x List.mem_cons_self
    have e := endsB_iff he.1
    have m1 := rank_above (a := x.2) (b := 1114112) (by omega) (by omega)
    rw [belowOf_cons, total_cons, belowOf_all zs h.tail]
    unfold spanBelow spanSize
    rw [if_pos (by omega)]
    omega
/-- Two sets together have as many runes as two others, where each rune is in as many of them. -/
theorem total_two {us vs zs ys : List (Int × Int)} (hu : Spread us) (hv : Spread vs) (hz : Spread zs) (hy : Spread ys) (h : ∀ r, oneIf (memB us r) + oneIf (memB vs r) = oneIf (memB zs r) + oneIf (memB ys r)) : total us + total vs = total zs + total ys := by
  have key : ∀ n : Nat, belowOf us n + belowOf vs n = belowOf zs n + belowOf ys n := fun n => by
    induction n with
    | zero =>
      have a := belowOf_zero hu
      have b := belowOf_zero hv
      have c := belowOf_zero hz
      have d := belowOf_zero hy
      simp only [Int.natCast_zero] at *
      omega
    | succ n ih =>
      have a := belowOf_step us n hu
      have b := belowOf_step vs n hv
      have c := belowOf_step zs n hz
      have d := belowOf_step ys n hy
      have e := h n
      rw [show ((n + 1 : Nat) : Int) = (n : Int) + 1 by omega]
      omega
  have k := key 1114112
  have a := belowOf_all us hu
  have b := belowOf_all vs hv
  have c := belowOf_all zs hz
  have d := belowOf_all ys hy
  rw [show ((1114112 : Nat) : Int) = 1114112 by rfl] at k
  omega
theorem spread_all : Spread [(0, 1114111)] := Spread.snoc (ys := []) ⟨fun x h => by simp at h, fun i j x y _ h => by simp at h⟩ (by decide) (by decide) (fun x h => by simp at h)
theorem spread_none : Spread [] := ⟨fun x h => by simp at h, fun i j x y _ h => by simp at h⟩
theorem mem_all (r : Int) : memB [(0, 1114111)] r = runeB r := by
  cases h : runeB r with
  | true =>
    have := runeB_iff h
    exact (memB_iff _ _).2 ⟨⟨(0, 1114111), by simp, by omega, by omega⟩, h⟩
  | false => unfold memB; rw [h, Bool.and_false]
theorem total_union {us vs zs ys : List (Int × Int)} (hu : Spread us) (hv : Spread vs) (hz : Spread zs) (hy : Spread ys) (h1 : ∀ r, memB us r = (memB zs r || memB ys r)) (h2 : ∀ r, memB vs r = (memB zs r && memB ys r)) : total us + total vs = total zs + total ys :=
  total_two hu hv hz hy (fun r => by rw [h1 r, h2 r]; cases memB zs r <;> cases memB ys r <;> rfl)
theorem total_not {us zs : List (Int × Int)} (hu : Spread us) (hz : Spread zs) (h1 : ∀ r, memB us r = (runeB r && !memB zs r)) : total us = 1112064 - total zs := by
  have := total_two hu hz spread_all spread_none (fun r => by
    rw [h1 r, mem_all r]
    have hn : memB [] r = false := rfl
    rw [hn]
    cases hb : memB zs r with
    | false => cases runeB r <;> rfl
    | true => rw [((memB_iff _ _).1 hb).2]; rfl)
  have e : total [(0, 1114111)] = 1112064 := by decide
  have e2 : total [] = 0 := rfl
  omega
theorem total_zero {zs : List (Int × Int)} (h : Spread zs) : (total zs == 0) = decide (zs = []) := by
  cases zs with
  | nil => rfl
  | cons x zs =>
    have he := h.ends x List.mem_cons_self
    have p := span_pos he.1 he.2
    have q := (total_bound h.tail.ends).1
    have : total (x :: zs) ≠ 0 := by rw [total_cons]; omega
    simp [this]
end Go.Proofs.Ytodikfaddfojgaa
