/- What Spans of the reference finds, round by round. -/
import Derived.Test.YtemmflhofhngbaaM3
namespace Go.Proofs.Ytemmflhofhngbaa
open Go.RowKit Go.Shelf
set_option linter.unusedVariables false
/-- What Spans has found so far: the spans up to at. -/
structure OutS (l os : List (Int × Int)) (t : Int) : Prop where
  spread : Spread os
  rune : t = 1114112 ∨ runeB t = true
  mem : ∀ r, runeB r = true → (memB os r = true ↔ memB l r = true ∧ r < t)
  last : ∀ z ∈ os, rankOf z.2 + 1 ≤ rankOf t
  free : os ≠ [] → memB l t = false
  len : (os.length : Int) ≤ rankOf t
/-- The least rune from t on, as far as k spans tell. -/
structure LeastS (l : List (Int × Int)) (k : Nat) (t m : Int) : Prop where
  form : m = 1114112 ∨ (runeB m = true ∧ t ≤ m ∧ memB l m = true)
  least : ∀ x ∈ l.take k, ∀ r, runeB r = true → t ≤ r → x.1 ≤ r → r ≤ x.2 → m ≤ r
/-- From m on one comes to e. -/
structure EndS (l : List (Int × Int)) (m e : Int) : Prop where
  le : m ≤ e
  rune : runeB e = true
  mem : ∀ r, runeB r = true → m ≤ r → r ≤ e → memB l r = true
/-- None of k spans leads further. -/
def ShutS (l : List (Int × Int)) (k : Nat) (e : Int) : Prop := ∀ x ∈ l.take k, x.1 ≤ upOf e → x.2 ≤ e
theorem mem_take_succ {l : List (Int × Int)} {k : Nat} {x y : Int × Int} (hx : l[k]? = some x) (hy : y ∈ l.take (k + 1)) : y ∈ l.take k ∨ y = x := by
  rw [List.take_add_one, hx] at hy
  simpa using hy
theorem outS_start (l : List (Int × Int)) (hR : RightL l) : OutS l [] 0 where
  spread := ⟨fun x h => by simp at h, fun i j x y _ h => by simp at h⟩
  rune := .inr (by decide)
  mem r hr := by
    have := (runeB_iff hr).1
    simp [memB]
    omega
  last z h := by simp at h
  free h := absurd rfl h
  len := by simp [rankOf]
theorem leastS_start (l : List (Int × Int)) (t : Int) : LeastS l 0 t 1114112 := ⟨.inl rfl, fun x h => by simp at h⟩
theorem leastS_hit {l : List (Int × Int)} {k : Nat} {t m lo : Int} {x : Int × Int} (h : LeastS l k t m) (hR : RightL l) (ht : t = 1114112 ∨ runeB t = true) (hx : l[k]? = some x) (hlo : lo = if x.1 < t then t else x.1) (h1 : lo ≤ x.2) (h2 : lo < m) : LeastS l (k + 1) t lo := by
  have hm := List.mem_of_getElem? hx
  have hr := hR x hm
  have he := endsB_iff hr.1
  have hrl : runeB lo = true := by
    split at hlo
    · subst hlo
      rcases ht with e | e
      · omega
      · exact e
    · subst hlo; exact (endsB_parts hr.1).1
  have hl1 : t ≤ lo ∧ x.1 ≤ lo := by split at hlo <;> omega
  refine ⟨.inr ⟨hrl, hl1.1, (memB_iff _ _).2 ⟨⟨x, hm, hl1.2, h1⟩, hrl⟩⟩, fun y hy r a b c d => ?_⟩
  rcases mem_take_succ hx hy with e | e
  · have := h.least y e r a b c d
    omega
  · subst e
    split at hlo <;> omega
theorem leastS_miss {l : List (Int × Int)} {k : Nat} {t m lo : Int} {x : Int × Int} (h : LeastS l k t m) (hx : l[k]? = some x) (hlo : lo = if x.1 < t then t else x.1) (h1 : lo ≤ x.2 → m ≤ lo) : LeastS l (k + 1) t m := by
  refine ⟨h.form, fun y hy r a b c d => ?_⟩
  rcases mem_take_succ hx hy with e | e
  · exact h.least y e r a b c d
  · subst e
    have : lo ≤ r := by split at hlo <;> omega
    have := h1 (by omega)
    omega
theorem endS_start {l : List (Int × Int)} {k : Nat} {t m : Int} (h : LeastS l k t m) (hm : m < 1114112) : EndS l m m := by
  rcases h.form with e | ⟨a, b, c⟩
  · omega
  · exact ⟨by omega, a, fun r _ h1 h2 => by obtain rfl : r = m := by omega
                                            exact c⟩
theorem endS_hit {l : List (Int × Int)} {k : Nat} {m e : Int} {x : Int × Int} (h : EndS l m e) (hR : RightL l) (hx : l[k]? = some x) (h1 : x.1 ≤ upOf e) (h2 : e < x.2) : EndS l m x.2 := by
  have hm := List.mem_of_getElem? hx
  have hr := endsB_parts (hR x hm).1
  have hu := up_rune h.rune hr.2 h2
  refine ⟨by have := h.le; omega, hr.2, fun r a b c => ?_⟩
  by_cases d : r ≤ e
  · exact h.mem r a b d
  · have := up_rune h.rune a (by omega)
    exact (memB_iff _ _).2 ⟨⟨x, hm, by omega, c⟩, a⟩
theorem shutS_start (l : List (Int × Int)) (e : Int) : ShutS l 0 e := fun x h => by simp at h
theorem shutS_miss {l : List (Int × Int)} {k : Nat} {e : Int} {x : Int × Int} (h : ShutS l k e) (hx : l[k]? = some x) (h1 : x.1 ≤ upOf e → x.2 ≤ e) : ShutS l (k + 1) e := fun y hy => by
  rcases mem_take_succ hx hy with a | a
  · exact h y a
  · subst a; exact h1
theorem up_lt (e : Int) : e < upOf e := by unfold upOf; split <;> omega
theorem up_form {e : Int} (h : runeB e = true) : upOf e = 1114112 ∨ runeB (upOf e) = true := by
  have := runeB_iff h
  by_cases a : e = 1114111
  · subst a; exact .inl (by decide)
  · right
    unfold upOf
    split
    · decide
    · unfold runeB
      apply decide_eq_true
      omega
theorem rune_of_lt {t r : Int} (h : t = 1114112 ∨ runeB t = true) (hr : runeB r = true) (hlt : t ≤ r) : runeB t = true := by
  rcases h with e | e
  · have := runeB_iff hr; omega
  · exact e
theorem outS_next {l os : List (Int × Int)} {t m e : Int} (h : OutS l os t) (hL : LeastS l l.length t m) (hm : m < 1114112) (hE : EndS l m e) (hS : ShutS l l.length e) : OutS l (os ++ [(m, e)]) (upOf e) := by
  obtain ⟨mr, mt, mm⟩ : runeB m = true ∧ t ≤ m ∧ memB l m = true := by
    rcases hL.form with a | a
    · omega
    · exact a
  have tr := rune_of_lt h.rune mr mt
  have rt := runeB_iff tr
  have rm := runeB_iff mr
  have re := runeB_iff hE.rune
  have rk : rankOf t ≤ rankOf m := (rank_le rt.2.2 rm.2.2).2 mt
  have rk2 : rankOf m ≤ rankOf e := (rank_le rm.2.2 re.2.2).2 hE.le
  have ru := up_rank hE.rune
  have hlt := up_lt e
  rw [ShutS, List.take_of_length_le (Nat.le_refl _)] at hS
  have hmin : ∀ r, runeB r = true → t ≤ r → memB l r = true → m ≤ r := fun r a b c => by
    obtain ⟨⟨x, hx, p, q⟩, _⟩ := (memB_iff _ _).1 c
    exact hL.least x (by rw [List.take_of_length_le (Nat.le_refl _)]; exact hx) r a b p q
  refine ⟨h.spread.snoc (endsB_mk mr hE.rune) hE.le (fun z hz => ?_), up_form hE.rune, fun r hr => ?_, fun z hz => ?_, fun _ => ?_, ?_⟩
  · have h1 := h.last z hz
    have h2 := h.free (by intro e; rw [e] at hz; simp at hz)
    have h3 : t < m := by
      rcases Int.lt_or_eq_of_le mt with a | a
      · exact a
      · rw [a, mm] at h2; cases h2
    have h4 := (rank_lt rt.2.2 rm.2.2).2 h3
    show rankOf z.2 + 1 < rankOf m
    omega
  · have hrr := runeB_iff hr
    rw [memB_append, Bool.or_eq_true, h.mem r hr, memB_iff [(m, e)]]
    simp only [List.mem_singleton, exists_eq_left]
    have hre : r < upOf e ↔ r ≤ e := by
      constructor
      · intro a
        by_cases b : r ≤ e
        · exact b
        · have := up_rune hE.rune hr (by omega); omega
      · intro a; omega
    rw [hre]
    have hml := hE.le
    constructor
    · rintro (⟨a, b⟩ | ⟨⟨a, b⟩, _⟩)
      · exact ⟨a, by omega⟩
      · exact ⟨hE.mem r hr a b, b⟩
    · rintro ⟨a, b⟩
      by_cases c : r < t
      · exact .inl ⟨a, c⟩
      · exact .inr ⟨⟨hmin r hr (by omega) a, b⟩, hr⟩
  · rcases List.mem_append.1 hz with a | a
    · have := h.last z a
      omega
    · simp at a; subst a; show rankOf e + 1 ≤ _; omega
  · cases hc : memB l (upOf e) with
    | false => rfl
    | true =>
      obtain ⟨⟨x, hx, p, q⟩, _⟩ := (memB_iff _ _).1 hc
      have := hS x hx p
      omega
  · have := h.len
    simp
    omega
theorem outS_end {l os : List (Int × Int)} {t : Int} (h : OutS l os t) (hL : LeastS l l.length t 1114112) : ∀ r, memB os r = memB l r := fun r => by
  cases hr : runeB r with
  | false => simp [memB, hr]
  | true =>
    rw [Bool.eq_iff_iff, h.mem r hr]
    constructor
    · exact fun a => a.1
    · intro a
      refine ⟨a, ?_⟩
      by_cases b : r < t
      · exact b
      · obtain ⟨⟨x, hx, p, q⟩, _⟩ := (memB_iff _ _).1 a
        have := hL.least x (by rw [List.take_of_length_le (Nat.le_refl _)]; exact hx) r hr (by omega) p q
        have := runeB_iff hr
        omega
end Go.Proofs.Ytemmflhofhngbaa
