/- The smallest functions of the sets and of their reference, each told for every argument. -/
import Derived.Test.YtemmflhofhngbaaFirst
namespace Go.Proofs.Ytemmflhofhngbaa
open Go.RowKit Go.Shelf
set_option linter.unusedVariables false

/-- How many runes are below a number from 0 on. -/
def rankOf (r : Int) : Int := if 57344 ≤ r then r - 2048 else if 55296 < r then 55296 else r
def rankedOf (n : Int) : Int := if 55296 ≤ n then n + 2048 else n
/-- Is a number a rune's? -/
def runeB (n : Int) : Bool := decide (0 ≤ n ∧ n ≤ 1114111 ∧ (n < 55296 ∨ 57343 < n))
theorem width_rune (z : Int) : (widthOf z == 0) = !runeB z := by
  unfold widthOf runeB
  repeat' split
  all_goals simp
  all_goals omega

theorem rank_any (r : Int) (h0 : -2147483648 ≤ r) (h1 : r ≤ 2147483647) (w : World) : Calls Try.prog 37 #[.int .i32 r] w fun e w' => e = .returned (.int .i64 (rankOf r)) ∧ w' = w := by
  by_cases a : 57344 ≤ r
  · have h : rankOf r = r - 2048 := by unfold rankOf; rw [if_pos a]
    rw [h]
    go_enter Try.func37, Try.ntmps37
    go_wp2
    go_ret
    exact ⟨rfl, rfl⟩
  · by_cases b : 55296 < r
    · have h : rankOf r = 55296 := by unfold rankOf; rw [if_neg a, if_pos b]
      rw [h]
      go_enter Try.func37, Try.ntmps37
      go_wp2
      go_ret
      exact ⟨rfl, rfl⟩
    · have h : rankOf r = r := by unfold rankOf; rw [if_neg a, if_neg b]
      rw [h]
      go_enter Try.func37, Try.ntmps37
      go_wp2
      go_ret
      exact ⟨rfl, rfl⟩

theorem ranked_any (n : Int) (h0 : 0 ≤ n) (h1 : n ≤ 1112063) (w : World) : Calls Try.prog 43 #[.int .i64 n] w fun e w' => e = .returned (.int .i32 (rankedOf n)) ∧ w' = w := by
  by_cases a : 55296 ≤ n
  · have h : rankedOf n = n + 2048 := by unfold rankedOf; rw [if_pos a]
    rw [h]
    go_enter Try.func43, Try.ntmps43
    go_wp2
    go_ret
    exact ⟨rfl, rfl⟩
  · have h : rankedOf n = n := by unfold rankedOf; rw [if_neg a]
    rw [h]
    go_enter Try.func43, Try.ntmps43
    go_wp2
    go_ret
    exact ⟨rfl, rfl⟩

/-- A span, as it is handed on. -/
abbrev spanV (x : Int × Int) : Value := .agg #[.int .i32 x.1, .int .i32 x.2]
/-- May its ends stand? -/
def endsB (x : Int × Int) : Bool := runeB x.1 && runeB x.2

theorem noRunes_any (x : Int × Int) (w : World) : Calls Try.prog 29 #[spanV x] w fun e w' => e = .returned (.bool (!endsB x)) ∧ Below w.heap.size w w' := by
  obtain ⟨lo, hi⟩ := x
  have b := Blk.new w #[.int .i32 lo, .int .i32 hi] 28
  have c0 := b.cell 0
  have c1 := b.cell 1
  have HB := hide ((Below.refl w.heap.size w).alloc (Nat.le_refl _) (.cells #[.int .i32 lo, .int .i32 hi] 28))
  have e0 := width_rune lo
  have e1 := width_rune hi
  clear b
  show Calls Try.prog 29 #[.agg #[.int .i32 lo, .int .i32 hi]] w _
  cases hl : runeB lo with
  | false =>
    have HE : Hz ((!endsB (lo, hi)) = true) := hide (by simp [endsB, hl])
    rw [hl] at e0
    have e0' : (widthOf lo == 0) = true := e0
    clear hl e0
    go_enter Try.func29, Try.ntmps29
    go_wp2_with (go_at_call 40; refine (width_any _ _).mono ?_; rintro e w' ⟨rfl, rfl⟩)
    go_ret
    exact ⟨by rw [unhide HE]; rfl, unhide HB⟩
  | true =>
    have HE : Hz ((!endsB (lo, hi)) = !runeB hi) := hide (by simp [endsB, hl])
    rw [hl] at e0
    have e0' : (widthOf lo == 0) = false := e0
    clear hl e0
    generalize runeB hi = q at *
    go_enter Try.func29, Try.ntmps29
    go_wp2_with (go_at_call 40; refine (width_any _ _).mono ?_; rintro e w' ⟨rfl, rfl⟩)
    go_ret
    exact ⟨by rw [unhide HE]; rfl, unhide HB⟩

theorem falling_any (x : Int × Int) (w : World) : Calls Try.prog 30 #[spanV x] w fun e w' => e = .returned (.bool (decide (x.2 < x.1))) ∧ Below w.heap.size w w' := by
  obtain ⟨lo, hi⟩ := x
  have b := Blk.new w #[.int .i32 lo, .int .i32 hi] 28
  have c0 := b.cell 0
  have c1 := b.cell 1
  have HB := hide ((Below.refl w.heap.size w).alloc (Nat.le_refl _) (.cells #[.int .i32 lo, .int .i32 hi] 28))
  clear b
  show Calls Try.prog 30 #[.agg #[.int .i32 lo, .int .i32 hi]] w _
  go_enter Try.func30, Try.ntmps30
  go_wp2
  go_ret
  exact ⟨rfl, unhide HB⟩

theorem refRune_any (n : Int) (w : World) : Calls Try.prog 51 #[.int .i64 n] w fun e w' => e = .returned (.bool (runeB n)) ∧ w' = w := by
  by_cases h0 : 0 ≤ n
  · by_cases h1 : n ≤ 1114111
    · by_cases h2 : n < 55296
      · have h : runeB n = true := by simp [runeB, h0, h1, h2]
        rw [h]
        go_enter Try.func51, Try.ntmps51
        go_wp2
        go_ret
        exact ⟨rfl, rfl⟩
      · have h : runeB n = decide (57343 < n) := by simp [runeB, h0, h1, h2]
        rw [h]
        go_enter Try.func51, Try.ntmps51
        go_wp2
        go_ret
        exact ⟨rfl, rfl⟩
    · have h : runeB n = false := by simp [runeB, h1]
      rw [h]
      go_enter Try.func51, Try.ntmps51
      go_wp2
      go_ret
      exact ⟨rfl, rfl⟩
  · have h : runeB n = false := by simp [runeB, h0]
    rw [h]
    go_enter Try.func51, Try.ntmps51
    go_wp2
    go_ret
    exact ⟨rfl, rfl⟩

/-- Its ends are numbers of their kind. -/
def fitB (x : Int × Int) : Prop := (-2147483648 ≤ x.1 ∧ x.1 ≤ 2147483647) ∧ (-2147483648 ≤ x.2 ∧ x.2 ≤ 2147483647)
/-- Why a span is none. -/
def wrongOf (x : Int × Int) : Int := if endsB x then (if x.2 < x.1 then 11 else 0) else 12
end Go.Proofs.Ytemmflhofhngbaa
