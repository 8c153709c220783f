/- The next rune of a set behind a number. -/
import Derived.Test.YthbaheneikifiaaSetNth
namespace Go.Proofs.Ythbaheneikifiaa
open Go.RowKit Go.Shelf
set_option linter.unusedVariables false
theorem ranked_of {a : Int} (h0 : 0 ≤ a) (h : a < 55296 ∨ 57343 < a) : rankedOf (rankOf a) = a := by
  unfold rankOf rankedOf
  split <;> split <;> (try split) <;> omega
theorem below_nonneg : ∀ (zs : List (Int × Int)) (r : Int), RightL zs → 0 ≤ belowOf zs r
  | [], r, _ => by simp [belowOf]
  | x :: zs, r, hR => by
    have ih := below_nonneg zs r (fun z hz => hR z (List.mem_cons_of_mem _ hz))
    have hx := hR x List.mem_cons_self
    have he := endsB_iff hx.1
    have hrk := (rank_le he.1.2.2 he.2.2.2).2 hx.2
    show 0 ≤ (if x.1 < r then _ else 0) + belowOf zs r
    split
    · rename_i h
      have := rank_above he.1.2.2 h
      omega
    · omega
/-- What the reference's At says: a rune, or -1. -/
def refAtOf (zs : List (Int × Int)) (n : Int) : Int := if 0 ≤ n ∧ n < total zs then nthOf zs n else -1
/-- What its Next says. -/
def refNextOf : List (Int × Int) → Int → Int
  | [], _ => -1
  | x :: zs, r => if r < x.1 then x.1 else if r < x.2 then (if runeB r then upOf r else 57344) else refNextOf zs r
theorem next_none : ∀ (zs : List (Int × Int)) (r : Int), Spread zs → (∀ x ∈ zs, x.2 ≤ r) → refNextOf zs r = -1 ∧ belowOf zs r + (if memB zs r then 1 else 0) = total zs
  | [], r, _, _ => ⟨rfl, by simp [belowOf, memB, total]⟩
  | x :: zs, r, hS, h => by
    have hx := h x List.mem_cons_self
    have hex := hS.ends x (by simp)
    have he := endsB_iff hex.1
    have ih := next_none zs r hS.tail (fun y hy => h y (List.mem_cons_of_mem _ hy))
    have hrk := (rank_le he.1.2.2 he.2.2.2).2 hex.2
    refine ⟨?_, ?_⟩
    · show (if r < x.1 then _ else if r < x.2 then _ else refNextOf zs r) = -1
      rw [if_neg (by omega), if_neg (by omega)]
      exact ih.1
    · show (if x.1 < r then _ else 0) + belowOf zs r + _ = spanSize x + total zs
      by_cases e : r = x.2
      · have hz : zs = [] := by
          cases zs with
          | nil => rfl
          | cons y ys =>
            have := hS.head_lt (y := y) (by simp)
            have := h y (by simp)
            have := (hS.ends y (by simp)).2
            omega
        subst hz
        have hm : memB [x] r = true := (memB_iff _ _).2 ⟨⟨x, by simp, by omega, by omega⟩, by rw [e]; exact (endsB_parts hex.1).2⟩
        rw [hm, if_pos rfl]
        subst e
        simp only [belowOf, total, spanSize]
        split
        · omega
        · have : x.1 = x.2 := by omega
          rw [this]; omega
      · have h1 := rank_above he.2.2.2 (show x.2 < r by omega)
        have hm : memB (x :: zs) r = memB zs r := by
          rw [Bool.eq_iff_iff, memB_iff, memB_iff]
          simp only [List.mem_cons, exists_eq_or_imp]
          constructor
          · rintro ⟨a | a, b⟩
            · omega
            · exact ⟨a, b⟩
          · rintro ⟨a, b⟩; exact ⟨.inr a, b⟩
        rw [if_pos (by omega), hm, Int.min_eq_right h1]
        have := ih.2
        unfold spanSize
        omega
theorem below_head {x : Int × Int} {zs : List (Int × Int)} {r : Int} (hS : Spread (x :: zs)) (h : r ≤ x.2) : belowOf zs r = 0 ∧ memB zs r = false := by
  refine ⟨below_none zs r (fun y hy => by have := hS.head_lt hy; omega), ?_⟩
  cases hm : memB zs r with
  | false => rfl
  | true =>
    obtain ⟨⟨y, hy, a, b⟩, _⟩ := (memB_iff _ _).1 hm
    have := hS.head_lt hy
    omega
theorem memB_cons (x : Int × Int) (zs : List (Int × Int)) (r : Int) : memB (x :: zs) r = (memB [x] r || memB zs r) := memB_append [x] zs r
/-- What the program's Next finds is what the reference tells. -/
theorem next_math : ∀ (zs : List (Int × Int)) (r : Int), Spread zs → refAtOf zs (belowOf zs r + (if memB zs r then 1 else 0)) = refNextOf zs r
  | [], r, _ => by simp [refAtOf, belowOf, memB, total, refNextOf]
  | x :: zs, r, hS => by
    have hex := hS.ends x (by simp)
    have he := endsB_iff hex.1
    have hrk := (rank_le he.1.2.2 he.2.2.2).2 hex.2
    have hsz := span_pos hex.1 hex.2
    have htn : 0 ≤ total zs := (total_bound hS.tail.ends).1
    have ra := rank_range he.1.1 he.1.2.1
    have rb := rank_range he.2.1 he.2.2.1
    by_cases h1 : r < x.1
    · have hb := below_head (r := r) hS (by omega)
      have hm : memB (x :: zs) r = false := by
        rw [memB_cons, hb.2, Bool.or_false]
        cases hc : memB [x] r with
        | false => rfl
        | true => obtain ⟨⟨y, hy, a, b⟩, _⟩ := (memB_iff _ _).1 hc; simp at hy; subst hy; omega
      have hbo : belowOf (x :: zs) r = 0 := by
        show (if x.1 < r then _ else 0) + belowOf zs r = 0
        rw [if_neg (by omega), hb.1]; rfl
      rw [hm, hbo]
      simp only [Bool.false_eq_true, if_false, Int.add_zero]
      unfold refAtOf
      rw [total_cons, if_pos (by omega)]
      show (if (0 : Int) < spanSize x then _ else _) = (if r < x.1 then x.1 else _)
      rw [if_pos (by omega), if_pos h1, Int.add_zero]
      exact ranked_of he.1.1 he.1.2.2
    · by_cases h2 : r < x.2
      · have hb := below_head (r := r) hS (by omega)
        show _ = (if r < x.1 then _ else if r < x.2 then (if runeB r then upOf r else 57344) else _)
        rw [if_neg h1, if_pos h2]
        have hbo : belowOf (x :: zs) r = rankOf r - rankOf x.1 := by
          show (if x.1 < r then _ else 0) + belowOf zs r = _
          rw [hb.1, Int.add_zero]
          by_cases c : x.1 < r
          · rw [if_pos c]
            have : rankOf r ≤ rankOf x.2 := by unfold rankOf; split <;> split <;> (try split) <;> (try split) <;> omega
            omega
          · rw [if_neg c]
            have : r = x.1 := by omega
            rw [this]; omega
        have hlow : rankOf x.1 ≤ rankOf r := by unfold rankOf; split <;> split <;> (try split) <;> (try split) <;> omega
        cases hr : runeB r with
        | true =>
          have hm : memB (x :: zs) r = true := (memB_iff _ _).2 ⟨⟨x, by simp, by omega, by omega⟩, hr⟩
          have hrr := runeB_iff hr
          have hlt := (rank_lt hrr.2.2 he.2.2.2).2 h2
          rw [hm, hbo]
          simp only [if_true]
          unfold refAtOf
          rw [total_cons, if_pos (by unfold spanSize; omega)]
          show (if rankOf r - rankOf x.1 + 1 < spanSize x then rankedOf (rankOf x.1 + (rankOf r - rankOf x.1 + 1)) else _) = _
          rw [if_pos (by unfold spanSize; omega), show rankOf x.1 + (rankOf r - rankOf x.1 + 1) = rankOf (upOf r) by rw [up_rank hr]; omega]
          have hu := up_rune hr (endsB_parts hex.1).2 h2
          have huu := runeB_iff hu.1
          exact ranked_of huu.1 huu.2.2
        | false =>
          have hg : 55295 < r ∧ r ≤ 57343 := by
            unfold runeB at hr
            have := of_decide_eq_false hr
            omega
          have hm : memB (x :: zs) r = false := by unfold memB; rw [hr, Bool.and_false]
          have hrr : rankOf r = 55296 := by unfold rankOf; split <;> (try split) <;> omega
          have h2r : 57344 ≤ x.2 := by omega
          have hx2 : rankOf x.2 = x.2 - 2048 := by unfold rankOf; rw [if_pos h2r]
          rw [hm, hbo, hrr]
          simp only [Bool.false_eq_true, if_false, Int.add_zero]
          unfold refAtOf
          rw [total_cons, if_pos (by unfold spanSize; omega)]
          show (if 55296 - rankOf x.1 < spanSize x then rankedOf (rankOf x.1 + (55296 - rankOf x.1)) else _) = _
          rw [if_pos (by unfold spanSize; omega), show rankOf x.1 + (55296 - rankOf x.1) = 55296 by omega]
          decide
      · by_cases hnil : ∀ y ∈ zs, y.2 ≤ r
        · have := next_none (x :: zs) r hS (fun y hy => by rcases List.mem_cons.1 hy with a | a; subst a; omega; exact hnil y a)
          rw [this.2, this.1]
          unfold refAtOf
          rw [if_neg (by omega)]
        · have ih := next_math zs r hS.tail
          have hlt : x.2 < r ∨ r = x.2 := by omega
          have key : belowOf (x :: zs) r + (if memB (x :: zs) r then 1 else 0) = spanSize x + (belowOf zs r + (if memB zs r then 1 else 0)) := by
            have n0 := next_none [x] r ⟨fun y hy => by simp at hy; subst hy; exact hex, fun i j a b hij ha hb => by
              have := (List.getElem?_eq_some_iff.1 hb).1; simp at this; omega⟩ (fun y hy => by simp at hy; subst hy; omega)
            have n1 := n0.2
            simp only [total, Int.add_zero, belowOf] at n1
            show (if x.1 < r then _ else 0) + belowOf zs r + _ = _
            rw [memB_cons]
            cases m1 : memB [x] r with
            | false => rw [m1] at n1; simp only [Bool.false_or]; simp only [Bool.false_eq_true, if_false, Int.add_zero] at n1; omega
            | true =>
              have : memB zs r = false := by
                obtain ⟨⟨y, hy, a, b⟩, _⟩ := (memB_iff _ _).1 m1
                simp at hy; subst hy
                exact (below_head (r := r) hS b).2
              rw [m1] at n1
              rw [this]
              simp only [Bool.true_or, if_true, Bool.false_eq_true, if_false] at n1 ⊢
              omega
          have hnn : 0 ≤ belowOf zs r + (if memB zs r then 1 else 0) := by
            have := below_nonneg zs r hS.tail.ends
            split <;> omega
          rw [key]
          show _ = (if r < x.1 then _ else if r < x.2 then _ else refNextOf zs r)
          rw [if_neg h1, if_neg h2, ← ih]
          unfold refAtOf
          rw [total_cons]
          generalize belowOf zs r + (if memB zs r then 1 else 0) = q at hnn
          by_cases c : 0 ≤ q ∧ q < total zs
          · rw [if_pos (by omega), if_pos c]
            show (if spanSize x + q < spanSize x then _ else nthOf zs (spanSize x + q - spanSize x)) = _
            rw [if_neg (by omega)]
            congr 1
            omega
          · rw [if_neg (by omega), if_neg c]
end Go.Proofs.Ythbaheneikifiaa
