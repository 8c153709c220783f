/- Texts of this claim, one behind the other. -/
import Derived.Test.YtnnbaodillnkkaaGreatM12
/- The n-th rune of a set, and how many lie below a number. -/
namespace Go.Proofs.YtnnbaodillnkkaaGreat
open Go.RowKit Go.Shelf
set_option linter.unusedVariables false
theorem span_pos {x : Int × Int} (he : endsB x = true) (hx : x.1 ≤ x.2) : 1 ≤ spanSize x := by
  have h := endsB_iff he
  have := (rank_le h.1.2.2 h.2.2.2).2 hx
  unfold spanSize
  omega
def nthOf : List (Int × Int) → Int → Int
  | [], _ => 0
  | x :: zs, n => if n < spanSize x then rankedOf (rankOf x.1 + n) else nthOf zs (n - spanSize x)
theorem total_cons (x : Int × Int) (zs : List (Int × Int)) : total (x :: zs) = spanSize x + total zs := rfl
theorem total_take_nonneg {zs : List (Int × Int)} (h : RightL zs) (i : Nat) : 0 ≤ total (zs.take i) := (total_bound (fun x hx => h x (List.mem_of_mem_take hx))).1
theorem nth_at : ∀ (zs : List (Int × Int)) (i : Nat) (x : Int × Int) (n : Int), RightL zs → zs[i]? = some x → total (zs.take i) ≤ n → n < total (zs.take i) + spanSize x → nthOf zs n = rankedOf (rankOf x.1 + (n - total (zs.take i)))
  | [], i, x, n, _, hx, _, _ => by simp at hx
  | y :: zs, 0, x, n, hR, hx, h0, h1 => by
    simp at hx
    subst hx
    simp only [List.take_zero, total] at h0 h1 ⊢
    show (if n < spanSize y then _ else _) = _
    rw [if_pos (by omega)]
    congr 2
    omega
  | y :: zs, i + 1, x, n, hR, hx, h0, h1 => by
    simp only [List.take_succ_cons, total_cons] at h0 h1 ⊢
    have hR' : RightL zs := fun z hz => hR z (List.mem_cons_of_mem _ hz)
    have hnn := total_take_nonneg hR' i
    show (if n < spanSize y then _ else nthOf zs (n - spanSize y)) = _
    rw [if_neg (by omega), nth_at zs i x (n - spanSize y) hR' (by simpa using hx) (by omega) (by omega)]
    congr 2
    omega
def belowOf : List (Int × Int) → Int → Int
  | [], _ => 0
  | x :: zs, r => (if x.1 < r then min (rankOf r) (rankOf x.2 + 1) - rankOf x.1 else 0) + belowOf zs r
theorem below_none : ∀ (zs : List (Int × Int)) (r : Int), (∀ x ∈ zs, r ≤ x.1) → belowOf zs r = 0
  | [], _, _ => rfl
  | x :: zs, r, h => by
    have := h x List.mem_cons_self
    show (if x.1 < r then _ else 0) + belowOf zs r = 0
    rw [if_neg (by omega), below_none zs r (fun y hy => h y (List.mem_cons_of_mem _ hy))]
    rfl
theorem rank_mono {a b : Int} (ha : a < 55296 ∨ 57343 < a) (h : a < b) : rankOf a + 1 ≤ rankOf b ∨ (55295 = a ∧ rankOf b = 55296) := by
  unfold rankOf
  split <;> split <;> (try split) <;> (try split) <;> omega
theorem rank_above {a b : Int} (ha : a < 55296 ∨ 57343 < a) (h : a < b) : rankOf a + 1 ≤ rankOf b := by
  unfold rankOf
  split <;> split <;> (try split) <;> (try split) <;> omega
theorem belowK_of : ∀ (zs : List (Int × Int)) (r : Int) (k : Nat), Spread zs → Cut (fun x => x.1) zs r k → belowK zs r k = belowOf zs r
  | zs, r, 0, hS, hc => by
    rw [below_none zs r (fun x hx => by
      obtain ⟨i, hi, rfl⟩ := List.mem_iff_getElem.1 hx
      exact hc.2.2 i _ (Nat.zero_le _) (List.getElem?_eq_getElem hi))]
    rfl
  | [], r, k + 1, hS, hc => by have := hc.1; simp at this
  | x :: zs, r, k + 1, hS, hc => by
    have hx : x.1 < r := hc.2.1 0 x (by omega) rfl
    show _ = (if x.1 < r then _ else 0) + belowOf zs r
    rw [if_pos hx]
    have hc' : Cut (fun x => x.1) zs r k := ⟨by have := hc.1; simp at this; omega, fun j y hj hy => hc.2.1 (j + 1) y (by omega) (by simpa using hy), fun j y hj hy => hc.2.2 (j + 1) y (by omega) (by simpa using hy)⟩
    have ih := belowK_of zs r k hS.tail hc'
    cases k with
    | zero =>
      rw [← ih]
      show total [] + min (rankOf r) (rankOf x.2 + 1) - rankOf x.1 = min (rankOf r) (rankOf x.2 + 1) - rankOf x.1 + 0
      simp [total]
    | succ m =>
      rw [← ih]
      have hm : m < zs.length := by have := hc'.1; omega
      obtain ⟨y, hy⟩ : ∃ y, zs[m]? = some y := ⟨_, List.getElem?_eq_getElem hm⟩
      have hyr : y.1 < r := hc'.2.1 m y (by omega) hy
      have hlt := hS.head_lt (List.mem_of_getElem? hy)
      have he := endsB_iff (hS.ends x (by simp)).1
      have h1 := rank_above he.2.2.2 (show x.2 < r by omega)
      show total ((x :: zs).take (m + 1)) + min (rankOf r) (rankOf ((x :: zs).getD (m + 1) (0, 0)).2 + 1) - rankOf ((x :: zs).getD (m + 1) (0, 0)).1 = _ + (total (zs.take m) + min (rankOf r) (rankOf (zs.getD m (0, 0)).2 + 1) - rankOf (zs.getD m (0, 0)).1)
      rw [List.take_succ_cons, total_cons, List.getD_cons_succ, Int.min_eq_right h1]
      unfold spanSize
      omega
theorem ranked_rank {n : Int} (h : 0 ≤ n) : rankOf (rankedOf n) = n := by
  unfold rankedOf rankOf
  split <;> split <;> (try split) <;> omega
theorem ranked_rune {n : Int} (h : 0 ≤ n) (h1 : n ≤ 1112063) : runeB (rankedOf n) = true := by
  unfold rankedOf runeB
  apply decide_eq_true
  split <;> omega
theorem nth_facts {zs : List (Int × Int)} (hS : Spread zs) {i : Nat} {x : Int × Int} {n : Int} (hx : zs[i]? = some x) (h0 : total (zs.take i) ≤ n) (h1 : n < total (zs.take i) + spanSize x) :
    runeB (nthOf zs n) = true ∧ x.1 ≤ nthOf zs n ∧ nthOf zs n ≤ x.2 ∧ rankOf (nthOf zs n) = rankOf x.1 + (n - total (zs.take i)) := by
  have hm := List.mem_of_getElem? hx
  have he := endsB_iff (hS.ends x hm).1
  have a := rank_range he.1.1 he.1.2.1
  have b := rank_range he.2.1 he.2.2.1
  unfold spanSize at h1
  rw [nth_at zs i x n hS.ends hx h0 (by unfold spanSize; omega)]
  have r := ranked_rank (n := rankOf x.1 + (n - total (zs.take i))) (by omega)
  have q := ranked_rune (n := rankOf x.1 + (n - total (zs.take i))) (by omega) (by omega)
  have qq := runeB_iff q
  refine ⟨q, (rank_le he.1.2.2 qq.2.2).1 (by omega), (rank_le qq.2.2 he.2.2.2).1 (by omega), r⟩
theorem below_take : ∀ (zs : List (Int × Int)) (i : Nat) (x : Int × Int) (r : Int), Spread zs → zs[i]? = some x → x.1 < r → (∀ y, zs[i + 1]? = some y → r ≤ y.1) → belowOf zs r = total (zs.take i) + (min (rankOf r) (rankOf x.2 + 1) - rankOf x.1) := by
  intro zs i x r hS hx h1 h2
  have hi := (List.getElem?_eq_some_iff.1 hx).1
  have hc : Cut (fun x => x.1) zs r (i + 1) := ⟨by omega, fun j y hj hy => by
      show y.1 < r
      rcases Nat.lt_or_eq_of_le (show j ≤ i by omega) with a | a
      · have := hS.los j i y x a hy hx; omega
      · subst a; rw [hx] at hy; cases hy; exact h1, fun j y hj hy => by
      show r ≤ y.1
      rcases Nat.lt_or_eq_of_le hj with a | a
      · have hj' := (List.getElem?_eq_some_iff.1 hy).1
        obtain ⟨z, hz⟩ : ∃ z, zs[i + 1]? = some z := ⟨_, List.getElem?_eq_getElem (by omega)⟩
        have := hS.los (i + 1) j z y a hz hy
        have := h2 z hz
        omega
      · rw [← a] at hy; exact h2 y hy⟩
  rw [← belowK_of zs r (i + 1) hS hc]
  have hg : zs.getD i (0, 0) = x := by simp [List.getD, hx]
  show total (zs.take i) + min (rankOf r) (rankOf (zs.getD i (0, 0)).2 + 1) - rankOf (zs.getD i (0, 0)).1 = _
  rw [hg]
  omega
theorem nth_where : ∀ (zs : List (Int × Int)) (n : Int), RightL zs → 0 ≤ n → n < total zs → ∃ (i : Nat) (x : Int × Int), zs[i]? = some x ∧ total (zs.take i) ≤ n ∧ n < total (zs.take i) + spanSize x
  | [], n, _, h0, h1 => by simp [total] at h1; omega
  | y :: zs, n, hR, h0, h1 => by
    by_cases c : n < spanSize y
    · exact ⟨0, y, rfl, by simpa [total] using h0, by simpa [total] using c⟩
    · rw [total_cons] at h1
      obtain ⟨i, x, hx, a, b⟩ := nth_where zs (n - spanSize y) (fun z hz => hR z (List.mem_cons_of_mem _ hz)) (by omega) (by omega)
      exact ⟨i + 1, x, by simpa using hx, by rw [List.take_succ_cons, total_cons]; omega, by rw [List.take_succ_cons, total_cons]; omega⟩
theorem nth_all {zs : List (Int × Int)} (hS : Spread zs) {n : Int} (h0 : 0 ≤ n) (h1 : n < total zs) : memB zs (nthOf zs n) = true ∧ belowOf zs (nthOf zs n) = n ∧ belowOf zs (nthOf zs n + 1) = n + 1 ∧ 0 ≤ nthOf zs n ∧ nthOf zs n ≤ 1114111 := by
  obtain ⟨i, x, hx, a, b⟩ := nth_where zs n hS.ends h0 h1
  obtain ⟨hr, h2, h3, h4⟩ := nth_facts hS hx a b
  have hm := List.mem_of_getElem? hx
  have he := endsB_iff (hS.ends x hm).1
  have hrr := runeB_iff hr
  have hle2 := (rank_le hrr.2.2 he.2.2.2).2 h3
  have hnext : ∀ y, zs[i + 1]? = some y → nthOf zs n + 1 ≤ y.1 := fun y hy => by
    have := hS.lt i (i + 1) x y (by omega) hx hy
    omega
  have hb1 := below_take zs i x (nthOf zs n + 1) hS hx (by omega) hnext
  have hr1 := rank_above hrr.2.2 (show nthOf zs n < nthOf zs n + 1 by omega)
  have hr2 : rankOf (nthOf zs n + 1) = rankOf (nthOf zs n) + 1 := by
    have : rankOf (nthOf zs n + 1) ≤ rankOf (nthOf zs n) + 1 := by unfold rankOf; split <;> split <;> (try split) <;> (try split) <;> omega
    omega
  refine ⟨(memB_iff _ _).2 ⟨⟨x, hm, h2, h3⟩, hr⟩, ?_, ?_, hrr.1, hrr.2.1⟩
  · by_cases c : x.1 < nthOf zs n
    · rw [below_take zs i x (nthOf zs n) hS hx c (fun y hy => by have := hnext y hy; omega)]
      omega
    · have e : nthOf zs n = x.1 := by omega
      have hz : n = total (zs.take i) := by rw [e] at h4; omega
      cases i with
      | zero =>
        rw [e, below_none zs x.1 (fun y hy => by
          obtain ⟨j, hj, rfl⟩ := List.mem_iff_getElem.1 hy
          cases j with
          | zero => rw [List.getElem?_eq_getElem hj] at hx; cases hx; omega
          | succ j => have := hS.los 0 (j + 1) x _ (by omega) hx (List.getElem?_eq_getElem hj); omega)]
        rw [hz]; rfl
      | succ m =>
        have hml : m < zs.length := by have := (List.getElem?_eq_some_iff.1 hx).1; omega
        obtain ⟨y, hy⟩ : ∃ y, zs[m]? = some y := ⟨_, List.getElem?_eq_getElem hml⟩
        have hlt := hS.lt m (m + 1) y x (by omega) hy hx
        have hey := hS.ends y (List.mem_of_getElem? hy)
        have hye := endsB_iff hey.1
        rw [e, below_take zs m y x.1 hS hy (by omega) (fun z hz' => by rw [hx] at hz'; cases hz'; omega)]
        have hra := rank_above hye.2.2.2 hlt
        rw [Int.min_eq_right hra, hz]
        rw [take_more hy, total_snoc]
        unfold spanSize
        omega
  · rw [hb1, hr2]
    omega
theorem mem_take_succ' {l : List (Int × Int)} {k : Nat} {x y : Int × Int} (hx : l[k]? = some x) (hy : y ∈ l.take (k + 1)) : y ∈ l.take k ∨ y = x := by
  rw [List.take_add_one, hx] at hy
  simpa using hy
def layR (zs : List (Int × Int)) (f t : Int) : List (Int × Int) := if f < t then layL zs (rankedOf f, rankedOf (t - 1)) else zs
theorem layR_right {f t : Int} (h0 : 0 ≤ f) (h1 : t ≤ 1112064) (h : f < t) : endsB (rankedOf f, rankedOf (t - 1)) = true ∧ rankedOf f ≤ rankedOf (t - 1) := by
  refine ⟨endsB_mk (ranked_rune h0 (by omega)) (ranked_rune (by omega) (by omega)), ?_⟩
  unfold rankedOf
  split <;> split <;> omega
theorem ranked_le {f r : Int} (h0 : 0 ≤ f) (h1 : f ≤ 1112063) (hr : runeB r = true) : (rankedOf f ≤ r ↔ f ≤ rankOf r) ∧ (r ≤ rankedOf f ↔ rankOf r ≤ f) := by
  have q := runeB_iff (ranked_rune h0 h1)
  have p := runeB_iff hr
  have e := ranked_rank h0
  have a := rank_le q.2.2 p.2.2
  have b := rank_le p.2.2 q.2.2
  rw [e] at a b
  exact ⟨a.symm, b.symm⟩
theorem layR_facts {zs : List (Int × Int)} {f t : Int} (hS : Spread zs) (hlow : ∀ y ∈ zs, rankOf y.2 < f) (h0 : 0 ≤ f) (h1 : t ≤ 1112064) (hft : f ≤ t) :
    Spread (layR zs f t) ∧ (∀ r, runeB r = true → (memB (layR zs f t) r = true ↔ memB zs r = true ∨ (f ≤ rankOf r ∧ rankOf r < t))) ∧ (∀ y ∈ layR zs f t, rankOf y.2 < t) ∧ (layR zs f t).length ≤ zs.length + 1 := by
  unfold layR
  by_cases h : f < t
  · rw [if_pos h]
    have hx := layR_right h0 h1 h
    have hle : ∀ y ∈ zs, y.1 ≤ rankedOf f := fun y hy => by
      have a := hS.ends y hy
      have b := endsB_iff a.1
      have c := (ranked_le h0 (by omega) (endsB_parts a.1).2).2.2 (by have := hlow y hy; omega)
      have := a.2
      omega
    refine ⟨layL_spread hS hx.1 hx.2 hle, fun r hr => ?_, fun y hy => ?_, layL_length _ _⟩
    · rw [layL_mem hS hx.1 hx.2 hle, Bool.or_eq_true, memB_iff [_]]
      simp only [List.mem_singleton, exists_eq_left]
      rw [(ranked_le h0 (by omega) hr).1, (ranked_le (f := t - 1) (by omega) (by omega) hr).2]
      constructor
      · rintro (a | ⟨⟨a, b⟩, _⟩)
        · exact .inl a
        · exact .inr ⟨a, by omega⟩
      · rintro (a | ⟨a, b⟩)
        · exact .inl a
        · exact .inr ⟨⟨a, by omega⟩, hr⟩
    · have hm : memB (layL zs (rankedOf f, rankedOf (t - 1))) y.2 = true := by
        have a := (layL_spread hS hx.1 hx.2 hle).ends y hy
        exact (memB_iff _ _).2 ⟨⟨y, hy, a.2, by omega⟩, (endsB_parts a.1).2⟩
      have hyr : runeB y.2 = true := (endsB_parts ((layL_spread hS hx.1 hx.2 hle).ends y hy).1).2
      rw [layL_mem hS hx.1 hx.2 hle, Bool.or_eq_true, memB_iff, memB_iff [_]] at hm
      simp only [List.mem_singleton, exists_eq_left] at hm
      rcases hm with ⟨⟨z, hz, p, q⟩, _⟩ | ⟨⟨p, q⟩, _⟩
      · have a := hlow z hz
        have b := endsB_iff (hS.ends z hz).1
        have c := (rank_le (runeB_iff hyr).2.2 b.2.2.2).2 q
        omega
      · have := (ranked_le (f := t - 1) (by omega) (by omega) hyr).2.1 q
        omega
  · rw [if_neg h]
    have e : f = t := by omega
    subst e
    refine ⟨hS, fun r hr => ?_, hlow, by omega⟩
    constructor
    · exact .inl
    · rintro (a | ⟨a, b⟩)
      · exact a
      · omega
structure NotI (zs : List (Int × Int)) (k : Nat) (out : List (Int × Int)) (f : Int) : Prop where
  spread : Spread out
  rng : 0 ≤ f ∧ f ≤ 1112064
  mem : ∀ r, runeB r = true → (memB out r = true ↔ rankOf r < f ∧ memB (zs.take k) r = false)
  low : ∀ y ∈ out, rankOf y.2 < f
  len : out.length ≤ k
  past : ∀ y ∈ zs.take k, rankOf y.2 + 1 ≤ f
  next : ∀ x, zs[k]? = some x → f ≤ rankOf x.1
theorem notI_start {zs : List (Int × Int)} (hS : Spread zs) : NotI zs 0 [] 0 where
  spread := ⟨fun x h => by simp at h, fun i j x y _ h => by simp at h⟩
  rng := by omega
  mem r hr := by
    have := rank_range (runeB_iff hr).1 (runeB_iff hr).2.1
    simp [memB]
    omega
  low y h := by simp at h
  len := by simp
  past y h := by simp at h
  next x hx := by
    have e := endsB_iff (hS.ends x (List.mem_of_getElem? hx)).1
    exact (rank_range e.1.1 e.1.2.1).1
theorem notI_step {zs : List (Int × Int)} (hS : Spread zs) {k : Nat} {out : List (Int × Int)} {f : Int} {x : Int × Int} (h : NotI zs k out f) (hx : zs[k]? = some x) : NotI zs (k + 1) (layR out f (rankOf x.1)) (rankOf x.2 + 1) := by
  have hm := List.mem_of_getElem? hx
  have hex := hS.ends x hm
  have he := endsB_iff hex.1
  have r1 := rank_range he.1.1 he.1.2.1
  have r2 := rank_range he.2.1 he.2.2.1
  have r12 := (rank_le he.1.2.2 he.2.2.2).2 hex.2
  have hf := h.next x hx
  obtain ⟨a, b, c, d⟩ := layR_facts h.spread h.low h.rng.1 (by omega) hf
  refine ⟨a, by omega, fun r hr => ?_, fun y hy => by have := c y hy; omega, by have := h.len; omega, fun y hy => ?_, fun y hy => ?_⟩
  · have hrr := runeB_iff hr
    rw [b r hr, h.mem r hr, take_more hx, memB_append]
    have q1 := rank_le he.1.2.2 hrr.2.2
    have q2 := rank_le hrr.2.2 he.2.2.2
    have hx1 : memB [x] r = true ↔ rankOf x.1 ≤ rankOf r ∧ rankOf r ≤ rankOf x.2 := by
      rw [memB_iff]
      simp only [List.mem_singleton, exists_eq_left]
      rw [q1, q2]
      exact ⟨fun h => h.1, fun h => ⟨h, hr⟩⟩
    have hpast : memB (zs.take k) r = true → rankOf r < f := fun hmm => by
      obtain ⟨⟨y, hy, p, q⟩, _⟩ := (memB_iff _ _).1 hmm
      have e := endsB_iff (hS.ends y (List.mem_of_mem_take hy)).1
      have := (rank_le hrr.2.2 e.2.2.2).2 q
      have := h.past y hy
      omega
    cases m1 : memB (zs.take k) r <;> cases m2 : memB [x] r
    · have : ¬ (rankOf x.1 ≤ rankOf r ∧ rankOf r ≤ rankOf x.2) := fun e => by rw [hx1.2 e] at m2; cases m2
      simp
      omega
    · have := hx1.1 m2
      simp
      omega
    · have := hpast m1
      simp
      omega
    · have := hpast m1
      simp
      omega
  · rcases mem_take_succ' hx hy with e | e
    · have := h.past y e; omega
    · subst e; omega
  · have := hS.apart k (k + 1) x y (by omega) hx hy
    omega
theorem notI_end {zs : List (Int × Int)} (hS : Spread zs) {out : List (Int × Int)} {f : Int} (h : NotI zs zs.length out f) : Spread (layR out f 1112064) ∧ (∀ r, memB (layR out f 1112064) r = (runeB r && !memB zs r)) ∧ (layR out f 1112064).length ≤ zs.length + 1 := by
  obtain ⟨a, b, c, d⟩ := layR_facts h.spread h.low h.rng.1 (Int.le_refl _) h.rng.2
  refine ⟨a, fun r => ?_, by have := h.len; omega⟩
  cases hr : runeB r with
  | false => simp [memB, hr]
  | true =>
    have hrr := runeB_iff hr
    have hk := rank_range hrr.1 hrr.2.1
    have hp : memB zs r = true → rankOf r < f := fun hmm => by
      obtain ⟨⟨y, hy, p, q⟩, _⟩ := (memB_iff _ _).1 hmm
      have e := endsB_iff (hS.ends y hy).1
      have := (rank_le hrr.2.2 e.2.2.2).2 q
      have := h.past y (by rw [List.take_of_length_le (Nat.le_refl _)]; exact hy)
      omega
    rw [Bool.eq_iff_iff, b r hr, h.mem r hr, List.take_of_length_le (Nat.le_refl _)]
    cases m : memB zs r
    · simp; omega
    · have := hp m; simp; omega
set_option maxRecDepth 100000 in
set_option maxHeartbeats 4000000 in
theorem layRanks_any (B lo0 : Nat) (zs : List (Int × Int)) (f t : Int) (hn : zs.length ≤ 1000000) (hS : Spread zs) (h0 : 0 ≤ f) (h1 : 0 ≤ t ∧ t ≤ 1112064) (h2 : f ≤ 1112064) (w : World) (hG : Grows w B lo0 zs) (hl : lo0 ≤ w.heap.size) :
    Calls Tryz.prog 175 #[.pointer (some ⟨B, 0, none⟩), .int .i64 f, .int .i64 t] w fun e w' => (∃ r, e = .returned r) ∧ Grows w' B lo0 (layR zs f t) ∧ Below lo0 w w' ∧ Frame w w' B := by
  unfold layR
  by_cases h : f < t
  · rw [if_pos h]
    have HL := hide (lay_any B lo0 zs (rankedOf f, rankedOf (t - 1)) hn hS (layR_right h0 h1.2 h).1 w hG hl)
    have HA := hide (fun w => ranked_any f h0 (by omega) w)
    have HBb := hide (fun w => ranked_any (t - 1) (by omega) (by omega) w)
    clear hG hS
    go_enter Tryz.func175, Tryz.ntmps175
    go_wp2_with fail
    refine (unhide HA _).mono ?_
    rintro e w1 ⟨rfl, rfl⟩
    go_wp2_with fail
    refine (unhide HBb _).mono ?_
    rintro e w2 ⟨rfl, rfl⟩
    go_wp2_with fail
    refine (unhide HL).mono ?_
    rintro e w3 ⟨⟨r, rfl⟩, hg, hb, hfr⟩
    have HG := hide hg
    have HB := hide hb
    have HFr := hide hfr
    clear hg hb hfr
    go_wp2
    go_end0
    exact ⟨⟨_, rfl⟩, unhide HG, unhide HB, unhide HFr⟩
  · rw [if_neg h]
    have HG := hide hG
    clear hG hS
    go_enter Tryz.func175, Tryz.ntmps175
    go_wp2
    go_end0
    exact ⟨⟨_, rfl⟩, unhide HG, Below.refl _ _, fun X _ _ _ => rfl⟩
theorem box_kept {wr w6 : World} {B lo0 : Nat} {zs : List (Int × Int)} {cs : Array Value} {t : TypeId} (hm : Made wr B lo0 zs) (hf : Frame (wr.alloc (.cells cs t)) w6 B) : Blk w6 wr.heap.size cs t := by
  obtain ⟨va, vb, h1, h2, h3⟩ := hm.form
  have hlt := h1.lt
  refine (hf wr.heap.size (by simp) (by omega) fun va' vb' hB => ?_).trans (Blk.new wr cs t)
  have e := (show (wr.alloc (.cells cs t)).heap[B]? = _ from h1.alloc (.cells cs t)).symm.trans hB
  simp at e
  obtain ⟨rfl, rfl⟩ := e
  exact ⟨fun e => by have := (h2.lt _ e).2; omega, fun e => by have := (h3.lt _ e).2; omega⟩
set_option maxRecDepth 100000 in
set_option maxHeartbeats 4000000 in
theorem not_any (B : Nat) (zs : List (Int × Int)) (hz : zs.length ≤ 100000) (w : World) (hs : SetAt w B zs) :
    Calls Tryz.prog 160 #[.pointer (some ⟨B, 0, none⟩)] w fun e w' => ∃ (B' lo0 : Nat) (ys : List (Int × Int)), e = .returned (.pointer (some ⟨B', 0, none⟩)) ∧ w.heap.size ≤ lo0 ∧ Made w' B' lo0 ys ∧ Spread ys ∧ ys.length ≤ zs.length + 1 ∧ (∀ r, memB ys r = (runeB r && !memB zs r)) ∧ Below w.heap.size w w' := by
  obtain ⟨⟨a, ca, b, cb, hb0, hp, ha⟩, hsp, hl⟩ := hs
  have HS := hide hsp
  have HP := hide hp
  have HBk := hide hb0
  have d0 := (hb0.alloc (.cells #[.slice none 0 0, .slice none 0 0] 107)).cell 0
  have hzi : (zs.length : Int) ≤ 100000 := by omega
  clear hsp hp ha hb0
  go_enter Tryz.func160, Tryz.ntmps160
  go_wp2
  go_loopw [4, 14] (fun fv iv wr => ∃ (k : Nat) (out : List (Int × Int)) (f : Int), iv = .int .i64 k ∧ fv = .int .i64 f ∧ k ≤ zs.length ∧ (0 ≤ f ∧ f ≤ 1112064) ∧ Hz (NotI zs k out f) ∧ Hz (Grows wr w.heap.size w.heap.size out) ∧ Hz (Below w.heap.size w wr)) (fun _ iv _ => zs.length - (intOf iv).toNat)
  case atStart => exact ⟨0, [], 0, rfl, rfl, by omega, by omega, hide (notI_start (unhide HS)), hide (grows_new w _ rfl), hide ((Below.refl _ w).alloc (Nat.le_refl _) _)⟩
  case round =>
    obtain ⟨k, out, f, rfl, rfl, hk, hf, HI, HG, HB⟩ := hrel
    have hol : out.length ≤ 1000000 := by have := (unhide HI).len; omega
    by_cases hkn : k < zs.length
    · have hk1 : (k : Int) < (zs.length : Int) := by omega
      have hk2 : ((k : Nat) : Int).toNat = k := by omega
      obtain ⟨x, hx⟩ : ∃ x, zs[k]? = some x := ⟨_, List.getElem?_eq_getElem hkn⟩
      have HI2 := hide (notI_step (unhide HS) (unhide HI) hx)
      have he := endsB_iff ((unhide HS).ends x (List.mem_of_getElem? hx)).1
      have r1 := rank_range he.1.1 he.1.2.1
      have r2 := rank_range he.2.1 he.2.2.1
      obtain ⟨g, o, rfl, hg, hc⟩ := unhide HP (by omega)
      have c0 := ((unhide HB).cell (p := ⟨g, o + k * 2, none⟩) hg).trans (hc k x hx).1
      have c1 := ((unhide HB).cell (p := ⟨g, o + k * 2 + 1, none⟩) hg).trans (hc k x hx).2
      obtain ⟨lo, hi⟩ := x
      simp only at c0 c1 he r1 r2 HI2
      have b1 := Blk.new wr #[.int .i32 lo, .int .i32 hi] 68
      have q0 := b1.cell 0
      have HB1 := hide ((unhide HB).alloc (unhide HB).size (.cells #[.int .i32 lo, .int .i32 hi] 68))
      have HG1 := hide ((unhide HG).below ((Below.refl _ wr).alloc (Nat.le_refl _) (.cells #[.int .i32 lo, .int .i32 hi] 68)))
      have HRk := hide (fun w => rank_any lo (by omega) (by omega) w)
      have HRh := hide (fun w => rank_any hi (by omega) (by omega) w)
      have HLR := hide (layRanks_any w.heap.size w.heap.size out f (rankOf lo) hol (unhide HI).spread (by omega) (by omega) (by omega) _ (unhide HG1) (unhide HB1).size)
      clear b1 hc hx
      go_wp2_with fail
      refine (unhide HRk _).mono ?_
      rintro e w5 ⟨rfl, rfl⟩
      go_wp2_with fail
      refine (unhide HLR).mono ?_
      rintro e w6 ⟨⟨r, rfl⟩, hG, hb, hfr⟩
      have hbx := box_kept (unhide HG).1 hfr
      have x1 := hbx.cell 1
      have HG2 := hide hG
      have HB2 := hide ((unhide HB1).trans hb)
      clear hG hb hfr hbx q0 c0 c1
      go_wp2_with fail
      refine (unhide HRh _).mono ?_
      rintro e w7 ⟨rfl, rfl⟩
      go_wp2
      go_roundw
      case rel => exact ⟨k + 1, _, _, by congr 1, rfl, by omega, by omega, HI2, HG2, HB2⟩
      case measure => simp [intOf]; omega
    · have hk1 : ¬ (k : Int) < (zs.length : Int) := by omega
      obtain rfl : k = zs.length := by omega
      have HE := hide (notI_end (unhide HS) (unhide HI))
      have HLR := hide (layRanks_any w.heap.size w.heap.size out f 1112064 hol (unhide HI).spread (by omega) (by omega) (by omega) wr (unhide HG) (unhide HB).size)
      have HRk := hide (fun w => rank_any 1114111 (by omega) (by omega) w)
      rw [show rankOf 1114111 = 1112063 by decide] at HRk
      go_wp2_with fail
      refine (unhide HRk _).mono ?_
      rintro e w5 ⟨rfl, rfl⟩
      go_wp2_with fail
      refine (unhide HLR).mono ?_
      rintro e w6 ⟨⟨r, rfl⟩, hG, hb, _⟩
      have HG2 := hide hG
      have HB2 := hide ((unhide HB).trans hb)
      clear hG hb
      go_wp2
      go_ret
      exact ⟨w.heap.size, w.heap.size, _, rfl, Nat.le_refl _, (unhide HG2).1, (unhide HE).1, (unhide HE).2.2, (unhide HE).2.1, unhide HB2⟩
structure MeetI (zs ys : List (Int × Int)) (i j : Nat) (out : List (Int × Int)) : Prop where
  spread : Spread out
  mem : ∀ r, memB out r = true ↔ (memB (zs.take i) r = true ∧ memB ys r = true) ∨ (memB zs r = true ∧ memB (ys.take j) r = true)
  len : out.length ≤ i + j
theorem meetI_start (zs ys : List (Int × Int)) : MeetI zs ys 0 0 [] where
  spread := ⟨fun x h => by simp at h, fun i j x y _ h => by simp at h⟩
  mem r := by simp [memB]
  len := by simp
theorem mem_parts {zs : List (Int × Int)} (hS : Spread zs) {i : Nat} {a : Int × Int} (ha : zs[i]? = some a) {r : Int} (h : memB zs r = true) : memB (zs.take i) r = true ∨ memB [a] r = true ∨ a.2 < r := by
  obtain ⟨⟨x, hx, p, q⟩, hr⟩ := (memB_iff _ _).1 h
  obtain ⟨k, hk, rfl⟩ := List.mem_iff_getElem.1 hx
  rcases Nat.lt_trichotomy k i with c | c | c
  · exact .inl ((memB_iff _ _).2 ⟨⟨zs[k], List.mem_iff_getElem.2 ⟨k, by rw [List.length_take]; have := (List.getElem?_eq_some_iff.1 ha).1; omega, by simp⟩, p, q⟩, hr⟩)
  · subst c
    rw [List.getElem?_eq_getElem hk] at ha
    cases ha
    exact .inr (.inl ((memB_iff _ _).2 ⟨⟨_, by simp, p, q⟩, hr⟩))
  · have := hS.lt i k a zs[k] c ha (List.getElem?_eq_getElem hk)
    exact .inr (.inr (by omega))
theorem take_lt {zs : List (Int × Int)} (hS : Spread zs) {i : Nat} {a : Int × Int} (ha : zs[i]? = some a) {r : Int} (h : memB (zs.take i) r = true) : r < a.1 := by
  obtain ⟨⟨x, hx, p, q⟩, hr⟩ := (memB_iff _ _).1 h
  obtain ⟨k, hk, e⟩ := List.mem_iff_getElem.1 hx
  rw [List.length_take] at hk
  have hx' : zs[k]? = some x := by rw [← e, List.getElem_take, List.getElem?_eq_getElem (by omega)]
  have := hS.lt k i x a (by omega) hx' ha
  omega
theorem mem_one (a : Int × Int) (r : Int) : memB [a] r = true ↔ (a.1 ≤ r ∧ r ≤ a.2) ∧ runeB r = true := by
  rw [memB_iff]
  simp only [List.mem_singleton, exists_eq_left]
theorem mem_take_more {zs : List (Int × Int)} {i : Nat} {a : Int × Int} (ha : zs[i]? = some a) (r : Int) : memB (zs.take (i + 1)) r = (memB (zs.take i) r || memB [a] r) := by rw [take_more ha, memB_append]
theorem mem_of_take {zs : List (Int × Int)} {i : Nat} {r : Int} (h : memB (zs.take i) r = true) : memB zs r = true := by
  obtain ⟨⟨x, hx, p⟩, hr⟩ := (memB_iff _ _).1 h
  exact (memB_iff _ _).2 ⟨⟨x, List.mem_of_mem_take hx, p⟩, hr⟩
theorem mem_of_one {zs : List (Int × Int)} {i : Nat} {a : Int × Int} (ha : zs[i]? = some a) {r : Int} (h : memB [a] r = true) : memB zs r = true := by
  obtain ⟨p, hr⟩ := (mem_one a r).1 h
  exact (memB_iff _ _).2 ⟨⟨a, List.mem_of_getElem? ha, p⟩, hr⟩
def bothOf (a b : Int × Int) : Int × Int := (max a.1 b.1, min a.2 b.2)
theorem mem_both (a b : Int × Int) (r : Int) : memB [bothOf a b] r = true ↔ memB [a] r = true ∧ memB [b] r = true := by
  rw [mem_one, mem_one, mem_one]
  unfold bothOf
  simp only
  constructor
  · rintro ⟨⟨p, q⟩, h⟩; exact ⟨⟨⟨by omega, by omega⟩, h⟩, ⟨⟨by omega, by omega⟩, h⟩⟩
  · rintro ⟨⟨⟨p, q⟩, h⟩, ⟨⟨p', q'⟩, _⟩⟩; exact ⟨⟨by omega, by omega⟩, h⟩
theorem both_ends {a b : Int × Int} (ha : endsB a = true) (hb : endsB b = true) : endsB (bothOf a b) = true := by
  have p := endsB_parts ha
  have q := endsB_parts hb
  refine endsB_mk ?_ ?_
  · show runeB (max a.1 b.1) = true
    rcases Int.le_total a.1 b.1 with c | c
    · rw [Int.max_eq_right c]; exact q.1
    · rw [Int.max_eq_left c]; exact p.1
  · show runeB (min a.2 b.2) = true
    rcases Int.le_total a.2 b.2 with c | c
    · rw [Int.min_eq_left c]; exact p.2
    · rw [Int.min_eq_right c]; exact q.2
def meetL (out : List (Int × Int)) (a b : Int × Int) : List (Int × Int) := if (bothOf a b).1 ≤ (bothOf a b).2 then layL out (bothOf a b) else out
theorem meetI_lay {zs ys : List (Int × Int)} (hS : Spread zs) (hY : Spread ys) {i j : Nat} {out : List (Int × Int)} {a b : Int × Int} (h : MeetI zs ys i j out) (ha : zs[i]? = some a) (hb : ys[j]? = some b) :
    Spread (meetL out a b) ∧ (∀ r, memB (meetL out a b) r = true ↔ memB out r = true ∨ (memB [a] r = true ∧ memB [b] r = true)) ∧ (meetL out a b).length ≤ out.length + 1 ∧ endsB (bothOf a b) = true := by
  have hae := (hS.ends a (List.mem_of_getElem? ha)).1
  have hbe := (hY.ends b (List.mem_of_getElem? hb)).1
  have he := both_ends hae hbe
  unfold meetL
  by_cases c : (bothOf a b).1 ≤ (bothOf a b).2
  · rw [if_pos c]
    have hle : ∀ y ∈ out, y.1 ≤ (bothOf a b).1 := fun y hy => by
      have p := h.spread.ends y hy
      have hm : memB out y.1 = true := (memB_iff _ _).2 ⟨⟨y, hy, by omega, p.2⟩, (endsB_parts p.1).1⟩
      show y.1 ≤ max a.1 b.1
      rcases (h.mem y.1).1 hm with ⟨q, _⟩ | ⟨_, q⟩
      · have := take_lt hS ha q; omega
      · have := take_lt hY hb q; omega
    refine ⟨layL_spread h.spread he c hle, fun r => ?_, layL_length _ _, he⟩
    rw [layL_mem h.spread he c hle, Bool.or_eq_true, mem_both]
  · rw [if_neg c]
    refine ⟨h.spread, fun r => ?_, by omega, he⟩
    rw [← mem_both, mem_one]
    constructor
    · exact .inl
    · rintro (q | ⟨q, _⟩)
      · exact q
      · omega
theorem meetI_left {zs ys : List (Int × Int)} (hS : Spread zs) (hY : Spread ys) {i j : Nat} {out : List (Int × Int)} {a b : Int × Int} (h : MeetI zs ys i j out) (ha : zs[i]? = some a) (hb : ys[j]? = some b) (hlt : a.2 < b.2) : MeetI zs ys (i + 1) j (meetL out a b) := by
  obtain ⟨p, q, l, _⟩ := meetI_lay hS hY h ha hb
  refine ⟨p, fun r => ?_, by have := h.len; omega⟩
  rw [q r, h.mem r, mem_take_more ha, Bool.or_eq_true]
  constructor
  · rintro ((⟨x, y⟩ | ⟨x, y⟩) | ⟨x, y⟩)
    · exact .inl ⟨.inl x, y⟩
    · exact .inr ⟨x, y⟩
    · exact .inl ⟨.inr x, mem_of_one hb y⟩
  · rintro (⟨x | x, y⟩ | ⟨x, y⟩)
    · exact .inl (.inl ⟨x, y⟩)
    · rcases mem_parts hY hb y with z | z | z
      · exact .inl (.inr ⟨mem_of_one ha x, z⟩)
      · exact .inr ⟨x, z⟩
      · have := ((mem_one a r).1 x).1; omega
    · exact .inl (.inr ⟨x, y⟩)
theorem meetI_right {zs ys : List (Int × Int)} (hS : Spread zs) (hY : Spread ys) {i j : Nat} {out : List (Int × Int)} {a b : Int × Int} (h : MeetI zs ys i j out) (ha : zs[i]? = some a) (hb : ys[j]? = some b) (hle : b.2 ≤ a.2) : MeetI zs ys i (j + 1) (meetL out a b) := by
  obtain ⟨p, q, l, _⟩ := meetI_lay hS hY h ha hb
  refine ⟨p, fun r => ?_, by have := h.len; omega⟩
  rw [q r, h.mem r, mem_take_more hb, Bool.or_eq_true]
  constructor
  · rintro ((⟨x, y⟩ | ⟨x, y⟩) | ⟨x, y⟩)
    · exact .inl ⟨x, y⟩
    · exact .inr ⟨x, .inl y⟩
    · exact .inr ⟨mem_of_one ha x, .inr y⟩
  · rintro (⟨x, y⟩ | ⟨x, y | y⟩)
    · exact .inl (.inl ⟨x, y⟩)
    · exact .inl (.inr ⟨x, y⟩)
    · rcases mem_parts hS ha x with z | z | z
      · exact .inl (.inl ⟨z, mem_of_one hb y⟩)
      · exact .inr ⟨z, y⟩
      · have := ((mem_one b r).1 y).1; omega
theorem meetI_end {zs ys : List (Int × Int)} {i j : Nat} {out : List (Int × Int)} (h : MeetI zs ys i j out) (he : zs.length ≤ i ∨ ys.length ≤ j) : ∀ r, memB out r = (memB zs r && memB ys r) := fun r => by
  rw [Bool.eq_iff_iff, h.mem r, Bool.and_eq_true]
  constructor
  · rintro (⟨x, y⟩ | ⟨x, y⟩)
    · exact ⟨mem_of_take x, y⟩
    · exact ⟨x, mem_of_take y⟩
  · rintro ⟨x, y⟩
    rcases he with e | e
    · exact .inl ⟨by rw [List.take_of_length_le e]; exact x, y⟩
    · exact .inr ⟨x, by rw [List.take_of_length_le e]; exact y⟩
theorem frame_kept {wr w5 w6 : World} {B lo0 X : Nat} {zs : List (Int × Int)} {cs : Array Value} {t : TypeId} (hm : Made wr B lo0 zs) (hb : Below wr.heap.size wr w5) (hX : Blk w5 X cs t) (hge : wr.heap.size ≤ X) (hf : Frame w5 w6 B) : Blk w6 X cs t := by
  obtain ⟨va, vb, h1, h2, h3⟩ := hm.form
  have hlt := h1.lt
  refine (hf X hX.lt (by omega) fun va' vb' hB => ?_).trans hX
  have e := (show w5.heap[B]? = _ from h1.below hb h1.lt).symm.trans hB
  simp at e
  obtain ⟨rfl, rfl⟩ := e
  exact ⟨fun e => by have := (h2.lt _ e).2; omega, fun e => by have := (h3.lt _ e).2; omega⟩
theorem some_any (C : Nat) (w : World) : Calls Tryz.prog 158 #[.pointer (some ⟨C, 0, none⟩)] w fun e w' => e = .returned (.pointer (some ⟨C, 0, none⟩)) ∧ w' = w := by
  go_enter Tryz.func158, Tryz.ntmps158
  go_wp2
  go_ret
  exact ⟨rfl, rfl⟩
end Go.Proofs.YtnnbaodillnkkaaGreat
