/- The n-th rune of a set, and how many lie below a number. -/
import Derived.Test.YtnphbjhikapoeaaSetGrow
namespace Go.Proofs.Ytnphbjhikapoeaa
open Go.RowKit Go.Shelf
set_option linter.unusedVariables false
theorem span_pos {x : Int × Int} (he : endsB x = true) (hx : x.1 ≤ x.2) : 1 ≤ spanSize x := by
  have h := endsB_iff he
  have := (rank_le h.1.2.2 h.2.2.2).2 hx
  unfold spanSize
  omega
/-- The n-th rune of a set. -/
def nthOf : List (Int × Int) → Int → Int
  | [], _ => 0
  | x :: zs, n => if n < spanSize x then rankedOf (rankOf x.1 + n) else nthOf zs (n - spanSize x)
theorem total_cons (x : Int × Int) (zs : List (Int × Int)) : total (x :: zs) = spanSize x + total zs := rfl
theorem total_take_nonneg {zs : List (Int × Int)} (h : RightL zs) (i : Nat) : 0 ≤ total (zs.take i) := (total_bound (fun x hx => h x (List.mem_of_mem_take hx))).1
theorem nth_at : ∀ (zs : List (Int × Int)) (i : Nat) (x : Int × Int) (n : Int), RightL zs → zs[i]? = some x → total (zs.take i) ≤ n → n < total (zs.take i) + spanSize x → nthOf zs n = rankedOf (rankOf x.1 + (n - total (zs.take i)))
  | [], i, x, n, _, hx, _, _ => by simp at hx
  | y :: zs, 0, x, n, hR, hx, h0, h1 => by
    simp at hx
    subst hx
    simp only [List.take_zero, total] at h0 h1 ⊢
    show (if n < spanSize y then _ else _) = _
    rw [if_pos (by omega)]
    congr 2
    omega
  | y :: zs, i + 1, x, n, hR, hx, h0, h1 => by
    simp only [List.take_succ_cons, total_cons] at h0 h1 ⊢
    have hR' : RightL zs := fun z hz => hR z (List.mem_cons_of_mem _ hz)
    have hnn := total_take_nonneg hR' i
    show (if n < spanSize y then _ else nthOf zs (n - spanSize y)) = _
    rw [if_neg (by omega), nth_at zs i x (n - spanSize y) hR' (by simpa using hx) (by omega) (by omega)]
    congr 2
    omega
/-- How many runes of a set lie below r. -/
def belowOf : List (Int × Int) → Int → Int
  | [], _ => 0
  | x :: zs, r => (if x.1 < r then min (rankOf r) (rankOf x.2 + 1) - rankOf x.1 else 0) + belowOf zs r
theorem below_none : ∀ (zs : List (Int × Int)) (r : Int), (∀ x ∈ zs, r ≤ x.1) → belowOf zs r = 0
  | [], _, _ => rfl
  | x :: zs, r, h => by
    have := h x List.mem_cons_self
    show (if x.1 < r then _ else 0) + belowOf zs r = 0
    rw [if_neg (by omega), below_none zs r (fun y hy => h y (List.mem_cons_of_mem _ hy))]
    rfl
theorem rank_mono {a b : Int} (ha : a < 55296 ∨ 57343 < a) (h : a < b) : rankOf a + 1 ≤ rankOf b ∨ (55295 = a ∧ rankOf b = 55296) := by
  unfold rankOf
  split <;> split <;> (try split) <;> (try split) <;> omega
theorem rank_above {a b : Int} (ha : a < 55296 ∨ 57343 < a) (h : a < b) : rankOf a + 1 ≤ rankOf b := by
  unfold rankOf
  split <;> split <;> (try split) <;> (try split) <;> omega
theorem belowK_of : ∀ (zs : List (Int × Int)) (r : Int) (k : Nat), Spread zs → Cut (fun x => x.1) zs r k → belowK zs r k = belowOf zs r
  | zs, r, 0, hS, hc => by
    rw [below_none zs r (fun x hx => by
      obtain ⟨i, hi, rfl⟩ := List.mem_iff_getElem.1 hx
      exact hc.2.2 i _ (Nat.zero_le _) (List.getElem?_eq_getElem hi))]
    rfl
  | [], r, k + 1, hS, hc => by have := hc.1; simp at this
  | x :: zs, r, k + 1, hS, hc => by
    have hx : x.1 < r := hc.2.1 0 x (by omega) rfl
    show _ = (if x.1 < r then _ else 0) + belowOf zs r
    rw [if_pos hx]
    have hc' : Cut (fun x => x.1) zs r k := ⟨by have := hc.1; simp at this; omega, fun j y hj hy => hc.2.1 (j + 1) y (by omega) (by simpa using hy), fun j y hj hy => hc.2.2 (j + 1) y (by omega) (by simpa using hy)⟩
    have ih := belowK_of zs r k hS.tail hc'
    cases k with
    | zero =>
      rw [← ih]
      show total [] + min (rankOf r) (rankOf x.2 + 1) - rankOf x.1 = min (rankOf r) (rankOf x.2 + 1) - rankOf x.1 + 0
      simp [total]
    | succ m =>
      rw [← ih]
      have hm : m < zs.length := by have := hc'.1; omega
      obtain ⟨y, hy⟩ : ∃ y, zs[m]? = some y := ⟨_, List.getElem?_eq_getElem hm⟩
      have hyr : y.1 < r := hc'.2.1 m y (by omega) hy
      have hlt := hS.head_lt (List.mem_of_getElem? hy)
      have he := endsB_iff (hS.ends x (by simp)).1
      have h1 := rank_above he.2.2.2 (show x.2 < r by omega)
      show total ((x :: zs).take (m + 1)) + min (rankOf r) (rankOf ((x :: zs).getD (m + 1) (0, 0)).2 + 1) - rankOf ((x :: zs).getD (m + 1) (0, 0)).1 = _ + (total (zs.take m) + min (rankOf r) (rankOf (zs.getD m (0, 0)).2 + 1) - rankOf (zs.getD m (0, 0)).1)
      rw [List.take_succ_cons, total_cons, List.getD_cons_succ, Int.min_eq_right h1]
      unfold spanSize
      omega
theorem ranked_rank {n : Int} (h : 0 ≤ n) : rankOf (rankedOf n) = n := by
  unfold rankedOf rankOf
  split <;> split <;> (try split) <;> omega
theorem ranked_rune {n : Int} (h : 0 ≤ n) (h1 : n ≤ 1112063) : runeB (rankedOf n) = true := by
  unfold rankedOf runeB
  apply decide_eq_true
  split <;> omega
/-- The n-th rune: it is in the set, n are below it. -/
theorem nth_facts {zs : List (Int × Int)} (hS : Spread zs) {i : Nat} {x : Int × Int} {n : Int} (hx : zs[i]? = some x) (h0 : total (zs.take i) ≤ n) (h1 : n < total (zs.take i) + spanSize x) :
    runeB (nthOf zs n) = true ∧ x.1 ≤ nthOf zs n ∧ nthOf zs n ≤ x.2 ∧ rankOf (nthOf zs n) = rankOf x.1 + (n - total (zs.take i)) := by
  have hm := List.mem_of_getElem? hx
  have he := endsB_iff (hS.ends x hm).1
  have a := rank_range he.1.1 he.1.2.1
  have b := rank_range he.2.1 he.2.2.1
  unfold spanSize at h1
  rw [nth_at zs i x n hS.ends hx h0 (by unfold spanSize; omega)]
  have r := ranked_rank (n := rankOf x.1 + (n - total (zs.take i))) (by omega)
  have q := ranked_rune (n := rankOf x.1 + (n - total (zs.take i))) (by omega) (by omega)
  have qq := runeB_iff q
  refine ⟨q, (rank_le he.1.2.2 qq.2.2).1 (by omega), (rank_le qq.2.2 he.2.2.2).1 (by omega), r⟩
theorem below_take : ∀ (zs : List (Int × Int)) (i : Nat) (x : Int × Int) (r : Int), Spread zs → zs[i]? = some x → x.1 < r → (∀ y, zs[i + 1]? = some y → r ≤ y.1) → belowOf zs r = total (zs.take i) + (min (rankOf r) (rankOf x.2 + 1) - rankOf x.1) := by
  intro zs i x r hS hx h1 h2
  have hi := (List.getElem?_eq_some_iff.1 hx).1
  have hc : Cut (fun x => x.1) zs r (i + 1) := ⟨by omega, fun j y hj hy => by
      show y.1 < r
      rcases Nat.lt_or_eq_of_le (show j ≤ i by omega) with a | a
      · have := hS.los j i y x a hy hx; omega
      · subst a; rw [hx] at hy; cases hy; exact h1, fun j y hj hy => by
      show r ≤ y.1
      rcases Nat.lt_or_eq_of_le hj with a | a
      · have hj' := (List.getElem?_eq_some_iff.1 hy).1
        obtain ⟨z, hz⟩ : ∃ z, zs[i + 1]? = some z := ⟨_, List.getElem?_eq_getElem (by omega)⟩
        have := hS.los (i + 1) j z y a hz hy
        have := h2 z hz
        omega
      · rw [← a] at hy; exact h2 y hy⟩
  rw [← belowK_of zs r (i + 1) hS hc]
  have hg : zs.getD i (0, 0) = x := by simp [List.getD, hx]
  show total (zs.take i) + min (rankOf r) (rankOf (zs.getD i (0, 0)).2 + 1) - rankOf (zs.getD i (0, 0)).1 = _
  rw [hg]
  omega
/-- Where the n-th rune stands. -/
theorem nth_where : ∀ (zs : List (Int × Int)) (n : Int), RightL zs → 0 ≤ n → n < total zs → ∃ (i : Nat) (x : Int × Int), zs[i]? = some x ∧ total (zs.take i) ≤ n ∧ n < total (zs.take i) + spanSize x
  | [], n, _, h0, h1 => by simp [total] at h1; omega
  | y :: zs, n, hR, h0, h1 => by
    by_cases c : n < spanSize y
    · exact ⟨0, y, rfl, by simpa [total] using h0, by simpa [total] using c⟩
    · rw [total_cons] at h1
      obtain ⟨i, x, hx, a, b⟩ := nth_where zs (n - spanSize y) (fun z hz => hR z (List.mem_cons_of_mem _ hz)) (by omega) (by omega)
      exact ⟨i + 1, x, by simpa using hx, by rw [List.take_succ_cons, total_cons]; omega, by rw [List.take_succ_cons, total_cons]; omega⟩
theorem nth_all {zs : List (Int × Int)} (hS : Spread zs) {n : Int} (h0 : 0 ≤ n) (h1 : n < total zs) : memB zs (nthOf zs n) = true ∧ belowOf zs (nthOf zs n) = n ∧ belowOf zs (nthOf zs n + 1) = n + 1 ∧ 0 ≤ nthOf zs n ∧ nthOf zs n ≤ 1114111 := by
  obtain ⟨i, x, hx, a, b⟩ := nth_where zs n hS.ends h0 h1
  obtain ⟨hr, h2, h3, h4⟩ := nth_facts hS hx a b
  have hm := List.mem_of_getElem? hx
  have he := endsB_iff (hS.ends x hm).1
  have hrr := runeB_iff hr
  have hle2 := (rank_le hrr.2.2 he.2.2.2).2 h3
  have hnext : ∀ y, zs[i + 1]? = some y → nthOf zs n + 1 ≤ y.1 := fun y hy => by
    have := hS.lt i (i + 1) x y (by omega) hx hy
    omega
  have hb1 := below_take zs i x (nthOf zs n + 1) hS hx (by omega) hnext
  have hr1 := rank_above hrr.2.2 (show nthOf zs n < nthOf zs n + 1 by omega)
  have hr2 : rankOf (nthOf zs n + 1) = rankOf (nthOf zs n) + 1 := by
    have : rankOf (nthOf zs n + 1) ≤ rankOf (nthOf zs n) + 1 := by unfold rankOf; split <;> split <;> (try split) <;> (try split) <;> omega
    omega
  refine ⟨(memB_iff _ _).2 ⟨⟨x, hm, h2, h3⟩, hr⟩, ?_, ?_, hrr.1, hrr.2.1⟩
  · by_cases c : x.1 < nthOf zs n
    · rw [below_take zs i x (nthOf zs n) hS hx c (fun y hy => by have := hnext y hy; omega)]
      omega
    · have e : nthOf zs n = x.1 := by omega
      have hz : n = total (zs.take i) := by rw [e] at h4; omega
      cases i with
      | zero =>
        rw [e, below_none zs x.1 (fun y hy => by
          obtain ⟨j, hj, rfl⟩ := List.mem_iff_getElem.1 hy
          cases j with
          | zero => rw [List.getElem?_eq_getElem hj] at hx; cases hx; omega
          | succ j => have := hS.los 0 (j + 1) x _ (by omega) hx (List.getElem?_eq_getElem hj); omega)]
        rw [hz]; rfl
      | succ m =>
        have hml : m < zs.length := by have := (List.getElem?_eq_some_iff.1 hx).1; omega
        obtain ⟨y, hy⟩ : ∃ y, zs[m]? = some y := ⟨_, List.getElem?_eq_getElem hml⟩
        have hlt := hS.lt m (m + 1) y x (by omega) hy hx
        have hey := hS.ends y (List.mem_of_getElem? hy)
        have hye := endsB_iff hey.1
        rw [e, below_take zs m y x.1 hS hy (by omega) (fun z hz' => by rw [hx] at hz'; cases hz'; omega)]
        have hra := rank_above hye.2.2.2 hlt
        rw [Int.min_eq_right hra, hz]
        rw [take_more hy, total_snoc]
        unfold spanSize
        omega
  · rw [hb1, hr2]
    omega
end Go.Proofs.Ytnphbjhikapoeaa
