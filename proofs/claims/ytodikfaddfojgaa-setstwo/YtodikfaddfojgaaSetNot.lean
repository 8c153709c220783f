/- Not of a set: all other runes. -/
import Derived.Test.YtodikfaddfojgaaSetNth
namespace Go.Proofs.Ytodikfaddfojgaa
open Go.RowKit Go.Shelf
set_option linter.unusedVariables false
theorem mem_take_succ' {l : List (Int × Int)} {k : Nat} {x y : Int × Int} (hx : l[k]? = some x) (hy : y ∈ l.take (k + 1)) : y ∈ l.take k ∨ y = x := by
  rw [List.take_add_one, hx] at hy
  simpa using hy
/-- The runes from one rank on up to and without another, laid. -/
def layR (zs : List (Int × Int)) (f t : Int) : List (Int × Int) := if f < t then layL zs (rankedOf f, rankedOf (t - 1)) else zs
theorem layR_right {f t : Int} (h0 : 0 ≤ f) (h1 : t ≤ 1112064) (h : f < t) : endsB (rankedOf f, rankedOf (t - 1)) = true ∧ rankedOf f ≤ rankedOf (t - 1) := by
  refine ⟨endsB_mk (ranked_rune h0 (by omega)) (ranked_rune (by omega) (by omega)), ?_⟩
  unfold rankedOf
  split <;> split <;> omega
theorem ranked_le {f r : Int} (h0 : 0 ≤ f) (h1 : f ≤ 1112063) (hr : runeB r = true) : (rankedOf f ≤ r ↔ f ≤ rankOf r) ∧ (r ≤ rankedOf f ↔ rankOf r ≤ f) := by
  have q := runeB_iff (ranked_rune h0 h1)
  have p := runeB_iff hr
  have e := ranked_rank h0
  have a := rank_le q.2.2 p.2.2
  have b := rank_le p.2.2 q.2.2
  rw [e] at a b
  exact ⟨a.symm, b.symm⟩
theorem layR_facts {zs : List (Int × Int)} {f t : Int} (hS : Spread zs) (hlow : ∀ y ∈ zs, rankOf y.2 < f) (h0 : 0 ≤ f) (h1 : t ≤ 1112064) (hft : f ≤ t) :
    Spread (layR zs f t) ∧ (∀ r, runeB r = true → (memB (layR zs f t) r = true ↔ memB zs r = true ∨ (f ≤ rankOf r ∧ rankOf r < t))) ∧ (∀ y ∈ layR zs f t, rankOf y.2 < t) ∧ (layR zs f t).length ≤ zs.length + 1 := by
  unfold layR
  by_cases h : f < t
  · rw [if_pos h]
    have hx := layR_right h0 h1 h
    have hle : ∀ y ∈ zs, y.1 ≤ rankedOf f := fun y hy => by
      have a := hS.ends y hy
      have b := endsB_iff a.1
      have c := (ranked_le h0 (by omega) (endsB_parts a.1).2).2.2 (by have := hlow y hy; omega)
      have := a.2
      omega
    refine ⟨layL_spread hS hx.1 hx.2 hle, fun r hr => ?_, fun y hy => ?_, layL_length _ _⟩
    · rw [layL_mem hS hx.1 hx.2 hle, Bool.or_eq_true, memB_iff [_]]
      simp only [List.mem_singleton, exists_eq_left]
      rw [(ranked_le h0 (by omega) hr).1, (ranked_le (f := t - 1) (by omega) (by omega) hr).2]
      constructor
      · rintro (a | ⟨⟨a, b⟩, _⟩)
        · exact .inl a
        · exact .inr ⟨a, by omega⟩
      · rintro (a | ⟨a, b⟩)
        · exact .inl a
        · exact .inr ⟨⟨a, by omega⟩, hr⟩
    · have hm : memB (layL zs (rankedOf f, rankedOf (t - 1))) y.2 = true := by
        have a := (layL_spread hS hx.1 hx.2 hle).ends y hy
        exact (memB_iff _ _).2 ⟨⟨y, hy, a.2, by omega⟩, (endsB_parts a.1).2⟩
      have hyr : runeB y.2 = true := (endsB_parts ((layL_spread hS hx.1 hx.2 hle).ends y hy).1).2
      rw [layL_mem hS hx.1 hx.2 hle, Bool.or_eq_true, memB_iff, memB_iff [_]] at hm
      simp only [List.mem_singleton, exists_eq_left] at hm
      rcases hm with ⟨⟨z, hz, p, q⟩, _⟩ | ⟨⟨p, q⟩, _⟩
      · have a := hlow z hz
        have b := endsB_iff (hS.ends z hz).1
        have c := (rank_le (runeB_iff hyr).2.2 b.2.2.2).2 q
        omega
      · have := (ranked_le (f := t - 1) (by omega) (by omega) hyr).2.1 q
        omega
  · rw [if_neg h]
    have e : f = t := by omega
    subst e
    refine ⟨hS, fun r hr => ?_, hlow, by omega⟩
    constructor
    · exact .inl
    · rintro (a | ⟨a, b⟩)
      · exact a
      · omega
structure NotI (zs : List (Int × Int)) (k : Nat) (out : List (Int × Int)) (f : Int) : Prop where
  spread : Spread out
  rng : 0 ≤ f ∧ f ≤ 1112064
  mem : ∀ r, runeB r = true → (memB out r = true ↔ rankOf r < f ∧ memB (zs.take k) r = false)
  low : ∀ y ∈ out, rankOf y.2 < f
  len : out.length ≤ k
  past : ∀ y ∈ zs.take k, rankOf y.2 + 1 ≤ f
  next : ∀ x, zs[k]? = some x → f ≤ rankOf x.1
theorem notI_start {zs : List (Int × Int)} (hS : Spread zs) : NotI zs 0 [] 0 where
  spread := ⟨fun x h => by simp at h, fun i j x y _ h => by simp at h⟩
  rng := by omega
  mem r hr := by
    have := rank_range (runeB_iff hr).1 (runeB_iff hr).2.1
    simp [memB]
    omega
  low y h := by simp at h
  len := by simp
  past y h := by simp at h
  next x hx := by
    have e := endsB_iff (hS.ends x (List.mem_of_getElem? hx)).1
    exact (rank_range e.1.1 e.1.2.1).1
theorem notI_step {zs : List (Int × Int)} (hS : Spread zs) {k : Nat} {out : List (Int × Int)} {f : Int} {x : Int × Int} (h : NotI zs k out f) (hx : zs[k]? = some x) : NotI zs (k + 1) (layR out f (rankOf x.1)) (rankOf x.2 + 1) := by
  have hm := List.mem_of_getElem? hx
  have hex := hS.ends x hm
  have he := endsB_iff hex.1
  have r1 := rank_range he.1.1 he.1.2.1
  have r2 := rank_range he.2.1 he.2.2.1
  have r12 := (rank_le he.1.2.2 he.2.2.2).2 hex.2
  have hf := h.next x hx
  obtain ⟨a, b, c, d⟩ := layR_facts h.spread h.low h.rng.1 (by omega) hf
  refine ⟨a, by omega, fun r hr => ?_, fun y hy => by have := c y hy; omega, by have := h.len; omega, fun y hy => ?_, fun y hy => ?_⟩
  · have hrr := runeB_iff hr
    rw [b r hr, h.mem r hr, take_more hx, memB_append]
    have q1 := rank_le he.1.2.2 hrr.2.2
    have q2 := rank_le hrr.2.2 he.2.2.2
    have hx1 : memB [x] r = true ↔ rankOf x.1 ≤ rankOf r ∧ rankOf r ≤ rankOf x.2 := by
      rw [memB_iff]
      simp only [List.mem_singleton, exists_eq_left]
      rw [q1, q2]
      exact ⟨fun h => h.1, fun h => ⟨h, hr⟩⟩
    have hpast : memB (zs.take k) r = true → rankOf r < f := fun hmm => by
      obtain ⟨⟨y, hy, p, q⟩, _⟩ := (memB_iff _ _).1 hmm
      have e := endsB_iff (hS.ends y (List.mem_of_mem_take hy)).1
      have := (rank_le hrr.2.2 e.2.2.2).2 q
      have := h.past y hy
      omega
    cases m1 : memB (zs.take k) r <;> cases m2 : memB [x] r
    · have : ¬ (rankOf x.1 ≤ rankOf r ∧ rankOf r ≤ rankOf x.2) := fun e => by rw [hx1.2 e] at m2; cases m2
      simp
      omega
    · have := hx1.1 m2
      simp
      omega
    · have := hpast m1
      simp
      omega
    · have := hpast m1
      simp
      omega
  · rcases mem_take_succ' hx hy with e | e
    · have := h.past y e; omega
    · subst e; omega
  · have := hS.apart k (k + 1) x y (by omega) hx hy
    omega
theorem notI_end {zs : List (Int × Int)} (hS : Spread zs) {out : List (Int × Int)} {f : Int} (h : NotI zs zs.length out f) : Spread (layR out f 1112064) ∧ (∀ r, memB (layR out f 1112064) r = (runeB r && !memB zs r)) ∧ (layR out f 1112064).length ≤ zs.length + 1 := by
  obtain ⟨a, b, c, d⟩ := layR_facts h.spread h.low h.rng.1 (Int.le_refl _) h.rng.2
  refine ⟨a, fun r => ?_, by have := h.len; omega⟩
  cases hr : runeB r with
  | false => simp [memB, hr]
  | true =>
    have hrr := runeB_iff hr
    have hk := rank_range hrr.1 hrr.2.1
    have hp : memB zs r = true → rankOf r < f := fun hmm => by
      obtain ⟨⟨y, hy, p, q⟩, _⟩ := (memB_iff _ _).1 hmm
      have e := endsB_iff (hS.ends y hy).1
      have := (rank_le hrr.2.2 e.2.2.2).2 q
      have := h.past y (by rw [List.take_of_length_le (Nat.le_refl _)]; exact hy)
      omega
    rw [Bool.eq_iff_iff, b r hr, h.mem r hr, List.take_of_length_le (Nat.le_refl _)]
    cases m : memB zs r
    · simp; omega
    · have := hp m; simp; omega
end Go.Proofs.Ytodikfaddfojgaa
