/- Spans laid one behind the other are the fewest; the fewest are one list. -/
import Derived.Test.YtnphbjhikapoeaaSetIn
namespace Go.Proofs.Ytnphbjhikapoeaa
open Go.RowKit Go.Shelf
set_option linter.unusedVariables false
/-- What lay makes of a set's spans and one more. -/
def layL (zs : List (Int × Int)) (x : Int × Int) : List (Int × Int) :=
  match zs.getLast? with
  | some y => if rankOf x.1 ≤ rankOf y.2 + 1 then zs.dropLast ++ [(y.1, max y.2 x.2)] else zs ++ [x]
  | none => [x]
theorem layL_nil (x : Int × Int) : layL [] x = [x] := rfl
theorem layL_touch (ys : List (Int × Int)) (y x : Int × Int) (h : rankOf x.1 ≤ rankOf y.2 + 1) : layL (ys ++ [y]) x = ys ++ [(y.1, max y.2 x.2)] := by
  unfold layL
  rw [List.getLast?_concat, List.dropLast_concat]
  simp only [if_pos h]
theorem layL_apart (ys : List (Int × Int)) (y x : Int × Int) (h : ¬ rankOf x.1 ≤ rankOf y.2 + 1) : layL (ys ++ [y]) x = ys ++ [y] ++ [x] := by
  unfold layL
  rw [List.getLast?_concat]
  simp only [if_neg h]
theorem get_snoc {ys : List (Int × Int)} {y x : Int × Int} {i : Nat} (h : (ys ++ [y])[i]? = some x) : (i < ys.length ∧ ys[i]? = some x) ∨ (i = ys.length ∧ x = y) := by
  rcases Nat.lt_trichotomy i ys.length with a | a | a
  · rw [List.getElem?_append_left a] at h; exact .inl ⟨a, h⟩
  · subst a; simp at h; exact .inr ⟨rfl, h.symm⟩
  · rw [List.getElem?_append_right (by omega)] at h
    have := (List.getElem?_eq_some_iff.1 h).1
    simp at this; omega
theorem Spread.init {ys : List (Int × Int)} {y : Int × Int} (h : Spread (ys ++ [y])) : Spread ys where
  ends x hx := h.ends x (by simp [hx])
  apart i j x z hij hx hz := by
    have hi := (List.getElem?_eq_some_iff.1 hx).1
    have hj := (List.getElem?_eq_some_iff.1 hz).1
    exact h.apart i j x z hij (by rw [List.getElem?_append_left hi]; exact hx) (by rw [List.getElem?_append_left hj]; exact hz)
theorem Spread.last {ys : List (Int × Int)} {y : Int × Int} (h : Spread (ys ++ [y])) (x : Int × Int) (hx : x ∈ ys) : rankOf x.2 + 1 < rankOf y.1 := by
  obtain ⟨i, hi, rfl⟩ := List.mem_iff_getElem.1 hx
  exact h.apart i ys.length _ _ hi (by rw [List.getElem?_append_left hi, List.getElem?_eq_getElem hi]) (by simp)
theorem Spread.snoc {ys : List (Int × Int)} {y : Int × Int} (h : Spread ys) (he : endsB y = true) (hy : y.1 ≤ y.2) (ha : ∀ x ∈ ys, rankOf x.2 + 1 < rankOf y.1) : Spread (ys ++ [y]) where
  ends x hx := by
    rcases List.mem_append.1 hx with a | a
    · exact h.ends x a
    · simp at a; subst a; exact ⟨he, hy⟩
  apart i j x z hij hx hz := by
    rcases get_snoc hz with ⟨a, b⟩ | ⟨a, b⟩
    · rcases get_snoc hx with ⟨c, d⟩ | ⟨c, d⟩
      · exact h.apart i j x z hij d b
      · omega
    · rcases get_snoc hx with ⟨c, d⟩ | ⟨c, d⟩
      · subst b; exact ha x (List.mem_of_getElem? d)
      · omega
theorem rank_le {a b : Int} (ha : a < 55296 ∨ 57343 < a) (hb : b < 55296 ∨ 57343 < b) : rankOf a ≤ rankOf b ↔ a ≤ b := by
  have := rank_lt hb ha
  omega
theorem endsB_mk {x : Int × Int} (h1 : runeB x.1 = true) (h2 : runeB x.2 = true) : endsB x = true := by unfold endsB; rw [h1, h2]; rfl
theorem endsB_parts {x : Int × Int} (h : endsB x = true) : runeB x.1 = true ∧ runeB x.2 = true := by unfold endsB at h; rwa [Bool.and_eq_true] at h
theorem layL_spread {zs : List (Int × Int)} {x : Int × Int} (h : Spread zs) (he : endsB x = true) (hx : x.1 ≤ x.2) (hl : ∀ y ∈ zs, y.1 ≤ x.1) : Spread (layL zs x) := by
  rcases List.eq_nil_or_concat zs with rfl | ⟨ys, y, rfl⟩
  · rw [layL_nil]
    exact Spread.snoc (ys := []) ⟨fun x h => by simp at h, fun i j x y _ h => by simp at h⟩ he hx (fun x h => by simp at h)
  · rw [List.concat_eq_append] at *
    have hy := h.ends y (by simp)
    by_cases t : rankOf x.1 ≤ rankOf y.2 + 1
    · rw [layL_touch _ _ _ t]
      refine Spread.snoc h.init ?_ (by show y.1 ≤ max y.2 x.2; have := hy.2; omega) (fun z hz => h.last z hz)
      refine endsB_mk (endsB_parts hy.1).1 ?_
      show runeB (max y.2 x.2) = true
      rcases Int.le_total y.2 x.2 with a | a
      · rw [Int.max_eq_right a]; exact (endsB_parts he).2
      · rw [Int.max_eq_left a]; exact (endsB_parts hy.1).2
    · rw [layL_apart _ _ _ t]
      refine Spread.snoc h he hx (fun z hz => ?_)
      rcases List.mem_append.1 hz with a | a
      · have h1 := h.last z a
        have h2 := endsB_iff hy.1
        have h3 := (rank_le h2.1.2.2 h2.2.2.2).2 hy.2
        omega
      · simp at a; subst a; omega
theorem memB_append (xs ys : List (Int × Int)) (r : Int) : memB (xs ++ ys) r = (memB xs r || memB ys r) := by
  unfold memB
  rw [List.any_append, Bool.and_or_distrib_right]
theorem memB_iff (zs : List (Int × Int)) (r : Int) : memB zs r = true ↔ (∃ x ∈ zs, x.1 ≤ r ∧ r ≤ x.2) ∧ runeB r = true := by
  unfold memB
  simp
theorem layL_mem {zs : List (Int × Int)} {x : Int × Int} (h : Spread zs) (he : endsB x = true) (hx : x.1 ≤ x.2) (hl : ∀ y ∈ zs, y.1 ≤ x.1) (r : Int) : memB (layL zs x) r = (memB zs r || memB [x] r) := by
  rcases List.eq_nil_or_concat zs with rfl | ⟨ys, y, rfl⟩
  · rw [layL_nil]; simp [memB]
  · rw [List.concat_eq_append] at *
    have hy := h.ends y (by simp)
    by_cases t : rankOf x.1 ≤ rankOf y.2 + 1
    · rw [layL_touch _ _ _ t, memB_append, memB_append, Bool.or_assoc]
      congr 1
      have h1 := endsB_iff hy.1
      have h2 := endsB_iff he
      have h3 := hl y (by simp)
      rw [Bool.eq_iff_iff, Bool.or_eq_true, memB_iff, memB_iff, memB_iff]
      simp only [List.mem_singleton, exists_eq_left]
      constructor
      · rintro ⟨⟨a, b⟩, c⟩
        have d := runeB_iff c
        by_cases e : r ≤ y.2
        · exact .inl ⟨⟨a, e⟩, c⟩
        · have f := (rank_lt h1.2.2.2 d.2.2).2 (by omega)
          have g := (rank_le h2.1.2.2 d.2.2).1 (by omega)
          exact .inr ⟨⟨g, by omega⟩, c⟩
      · rintro (⟨⟨a, b⟩, c⟩ | ⟨⟨a, b⟩, c⟩)
        · exact ⟨⟨a, by omega⟩, c⟩
        · exact ⟨⟨by omega, by omega⟩, c⟩
    · rw [layL_apart _ _ _ t, memB_append]
theorem layL_length (zs : List (Int × Int)) (x : Int × Int) : (layL zs x).length ≤ zs.length + 1 := by
  rcases List.eq_nil_or_concat zs with rfl | ⟨ys, y, rfl⟩
  · rw [layL_nil]; simp
  · rw [List.concat_eq_append]
    by_cases t : rankOf x.1 ≤ rankOf y.2 + 1
    · rw [layL_touch _ _ _ t]; simp
    · rw [layL_apart _ _ _ t]; simp
theorem layL_fst (zs : List (Int × Int)) (x z : Int × Int) (h : z ∈ layL zs x) : (∃ y ∈ zs, z.1 = y.1) ∨ z.1 = x.1 := by
  rcases List.eq_nil_or_concat zs with rfl | ⟨ys, y, rfl⟩
  · rw [layL_nil] at h; simp at h; subst h; exact .inr rfl
  · rw [List.concat_eq_append] at *
    by_cases t : rankOf x.1 ≤ rankOf y.2 + 1
    · rw [layL_touch _ _ _ t] at h
      rcases List.mem_append.1 h with a | a
      · exact .inl ⟨z, by simp [a], rfl⟩
      · simp at a; subst a; exact .inl ⟨y, by simp, rfl⟩
    · rw [layL_apart _ _ _ t] at h
      rcases List.mem_append.1 h with a | a
      · exact .inl ⟨z, a, rfl⟩
      · simp at a; subst a; exact .inr rfl
/-- Spans laid one behind the other. -/
def layAll (l : List (Int × Int)) : List (Int × Int) := l.foldl layL []
theorem layAll_snoc (l : List (Int × Int)) (x : Int × Int) : layAll (l ++ [x]) = layL (layAll l) x := by simp [layAll]
/-- Right spans. -/
def RightL (l : List (Int × Int)) : Prop := ∀ x ∈ l, endsB x = true ∧ x.1 ≤ x.2
/-- They begin rising. -/
def RisingL (l : List (Int × Int)) : Prop := ∀ (i j : Nat) (x y : Int × Int), i < j → l[i]? = some x → l[j]? = some y → x.1 ≤ y.1
theorem RisingL.init {ys : List (Int × Int)} {y : Int × Int} (h : RisingL (ys ++ [y])) : RisingL ys := fun i j x z hij hx hz => by
  have hi := (List.getElem?_eq_some_iff.1 hx).1
  have hj := (List.getElem?_eq_some_iff.1 hz).1
  exact h i j x z hij (by rw [List.getElem?_append_left hi]; exact hx) (by rw [List.getElem?_append_left hj]; exact hz)
theorem layAll_all (n : Nat) : ∀ (l : List (Int × Int)), l.length = n → RightL l → RisingL l → Spread (layAll l) ∧ (∀ r, memB (layAll l) r = memB l r) ∧ (layAll l).length ≤ l.length ∧ (∀ z ∈ layAll l, ∃ y ∈ l, z.1 = y.1) := by
  induction n with
  | zero =>
    intro l hl _ _
    have := List.eq_nil_of_length_eq_zero hl
    subst this
    exact ⟨⟨fun x h => by simp [layAll] at h, fun i j x y _ h => by simp [layAll] at h⟩, fun r => rfl, by simp [layAll], fun z h => by simp [layAll] at h⟩
  | succ n ih =>
    intro l hl hR hO
    rcases List.eq_nil_or_concat l with rfl | ⟨ys, y, rfl⟩
    · simp at hl
    · rw [List.concat_eq_append] at *
      simp at hl
      obtain ⟨h1, h2, h3, h4⟩ := ih ys hl (fun x hx => hR x (by simp [hx])) hO.init
      have hy := hR y (by simp)
      have hle : ∀ z ∈ layAll ys, z.1 ≤ y.1 := fun z hz => by
        obtain ⟨u, hu, e⟩ := h4 z hz
        obtain ⟨i, hi, rfl⟩ := List.mem_iff_getElem.1 hu
        rw [e]
        exact hO i ys.length _ _ hi (by rw [List.getElem?_append_left hi, List.getElem?_eq_getElem hi]) (by simp)
      rw [layAll_snoc]
      refine ⟨layL_spread h1 hy.1 hy.2 hle, fun r => ?_, ?_, fun z hz => ?_⟩
      · rw [layL_mem h1 hy.1 hy.2 hle, h2, memB_append]
      · have := layL_length (layAll ys) y
        simp; omega
      · rcases layL_fst _ _ _ hz with ⟨u, hu, e⟩ | e
        · obtain ⟨v, hv, e'⟩ := h4 u hu
          exact ⟨v, by simp [hv], e.trans e'⟩
        · exact ⟨y, by simp, e⟩
/-- The rune behind one. -/
def upOf (r : Int) : Int := if r = 55295 then 57344 else r + 1
theorem up_rank {r : Int} (h : runeB r = true) : rankOf (upOf r) = rankOf r + 1 := by
  have := runeB_iff h
  unfold upOf rankOf
  split <;> split <;> (try split) <;> (try split) <;> omega
theorem up_rune {r s : Int} (h : runeB r = true) (hs : runeB s = true) (hrs : r < s) : runeB (upOf r) = true ∧ upOf r ≤ s ∧ r < upOf r := by
  have h1 := runeB_iff h
  have h2 := runeB_iff hs
  unfold upOf runeB
  split
  · exact ⟨by decide, by omega, by omega⟩
  · refine ⟨decide_eq_true ?_, by omega, by omega⟩
    omega
theorem Spread.tail {x : Int × Int} {zs : List (Int × Int)} (h : Spread (x :: zs)) : Spread zs :=
  ⟨fun y hy => h.ends y (List.mem_cons_of_mem _ hy), fun i j y z hij hy hz => h.apart (i + 1) (j + 1) y z (by omega) (by simpa using hy) (by simpa using hz)⟩
theorem Spread.head {x y : Int × Int} {zs : List (Int × Int)} (h : Spread (x :: zs)) (hy : y ∈ zs) : rankOf x.2 + 1 < rankOf y.1 := by
  obtain ⟨i, hi, rfl⟩ := List.mem_iff_getElem.1 hy
  exact h.apart 0 (i + 1) _ _ (by omega) (by simp) (by simp [hi])
theorem Spread.head_lt {x y : Int × Int} {zs : List (Int × Int)} (h : Spread (x :: zs)) (hy : y ∈ zs) : x.2 < y.1 := by
  have a := endsB_iff (h.ends x (by simp)).1
  have b := endsB_iff (h.ends y (by simp [hy])).1
  have := h.head hy
  exact (rank_lt a.2.2.2 b.1.2.2).1 (by omega)
theorem head_min {x : Int × Int} {zs : List (Int × Int)} (h : Spread (x :: zs)) (r : Int) (hm : memB (x :: zs) r = true) : x.1 ≤ r := by
  obtain ⟨⟨y, hy, a, b⟩, c⟩ := (memB_iff _ _).1 hm
  rcases List.mem_cons.1 hy with e | e
  · subst e; exact a
  · have := h.head_lt e
    have := (h.ends x (by simp)).2
    omega
theorem head_mem {x : Int × Int} {zs : List (Int × Int)} (h : Spread (x :: zs)) : memB (x :: zs) x.1 = true ∧ memB (x :: zs) x.2 = true := by
  have a := h.ends x (by simp)
  have b := endsB_parts a.1
  exact ⟨(memB_iff _ _).2 ⟨⟨x, by simp, by omega, a.2⟩, b.1⟩, (memB_iff _ _).2 ⟨⟨x, by simp, a.2, by omega⟩, b.2⟩⟩
theorem head_hi {x y : Int × Int} {zs ys : List (Int × Int)} (h : Spread (x :: zs)) (g : Spread (y :: ys)) (hm : ∀ r, memB (x :: zs) r = memB (y :: ys) r) (he : x.1 = y.1) : y.2 ≤ x.2 := by
  by_cases lt : x.2 < y.2
  · have a := h.ends x (by simp)
    have b := g.ends y (by simp)
    have c := up_rune (endsB_parts a.1).2 (endsB_parts b.1).2 lt
    have d : memB (y :: ys) (upOf x.2) = true := (memB_iff _ _).2 ⟨⟨y, by simp, by omega, c.2.1⟩, c.1⟩
    rw [← hm] at d
    obtain ⟨⟨z, hz, e, f⟩, _⟩ := (memB_iff _ _).1 d
    rcases List.mem_cons.1 hz with i | i
    · subst i; omega
    · have j := h.head i
      have k := up_rank (endsB_parts a.1).2
      have l := (rank_le (endsB_iff (h.ends z hz).1).1.2.2 (runeB_iff c.1).2.2).2 e
      omega
  · omega
/-- The fewest spans of a set of runes are one list. -/
theorem spread_unique : ∀ (zs ys : List (Int × Int)), Spread zs → Spread ys → (∀ r, memB zs r = memB ys r) → zs = ys
  | [], [], _, _, _ => rfl
  | [], y :: ys, _, g, hm => by have := (head_mem g).1; rw [← hm] at this; simp [memB] at this
  | x :: zs, [], h, _, hm => by have := (head_mem h).1; rw [hm] at this; simp [memB] at this
  | x :: zs, y :: ys, h, g, hm => by
    have e1 : x.1 = y.1 := by
      have a := head_min h y.1 (by rw [hm]; exact (head_mem g).1)
      have b := head_min g x.1 (by rw [← hm]; exact (head_mem h).1)
      omega
    have e2 : x.2 = y.2 := by
      have a := head_hi h g hm e1
      have b := head_hi g h (fun r => (hm r).symm) e1.symm
      omega
    have exy : x = y := Prod.ext e1 e2
    subst exy
    have := spread_unique zs ys h.tail g.tail (fun r => by
      have hr := hm r
      rw [Bool.eq_iff_iff] at hr ⊢
      have key : ∀ (a b : List (Int × Int)), Spread (x :: a) → (memB (x :: a) r = true → memB (x :: b) r = true) → memB a r = true → memB b r = true := by
        intro a b ha hab hr
        obtain ⟨⟨z, hz, p, q⟩, c⟩ := (memB_iff _ _).1 hr
        obtain ⟨⟨u, hu, p', q'⟩, _⟩ := (memB_iff _ _).1 (hab ((memB_iff _ _).2 ⟨⟨z, by simp [hz], p, q⟩, c⟩))
        rcases List.mem_cons.1 hu with i | i
        · subst i
          have := ha.head_lt hz
          omega
        · exact (memB_iff _ _).2 ⟨⟨u, i, p', q'⟩, c⟩
      exact ⟨key zs ys h hr.1, key ys zs g hr.2⟩)
    rw [this]
theorem memB_perm {xs ys : List (Int × Int)} (h : xs.Perm ys) (r : Int) : memB xs r = memB ys r := by
  rw [Bool.eq_iff_iff, memB_iff, memB_iff]
  constructor
  · rintro ⟨⟨x, a, b⟩, c⟩; exact ⟨⟨x, h.mem_iff.1 a, b⟩, c⟩
  · rintro ⟨⟨x, a, b⟩, c⟩; exact ⟨⟨x, h.mem_iff.2 a, b⟩, c⟩
end Go.Proofs.Ytnphbjhikapoeaa
