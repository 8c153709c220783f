/- The plain calls of the smallest functions (Width, badSpot, HasPrefix, spotOf), each told for every argument. -/
import Derived.RangeFuncNested
import Derived.RangeFuncBound
import Derived.RangeFuncCalls
import Derived.RangeFuncLeaves
import Derived.Shelf.Abstract
import Derived.Shelf.RegionOpen
import Derived.WalkKit
import Derived.OwnWalkIn
import Derived.TacticsInMore
import Derived.LoopNIn
import Derived.LoopIn
import Derived.Test.YthjndkjbjflmfaaProg
import Derived.Test.YthjndkjbjflmfaaMath
namespace Go.Proofs.Ythjndkjbjflmfaa
open Go.RowKit Go.Shelf

theorem width_any (r : Int) (w : World) : Calls Try.prog 24 #[.int .i32 r] w fun e w' => e = .returned (.int .i64 (widthOf r)) ∧ w' = w := by
  by_cases h0 : r < 0
  · have : widthOf r = 0 := by unfold widthOf; rw [if_pos (by omega)]
    rw [this]
    go_enter Try.func24, Try.ntmps24
    go_wp2
    go_ret
    exact ⟨rfl, rfl⟩
  by_cases h1 : 55296 ≤ r
  · by_cases h2 : r ≤ 57343
    · have : widthOf r = 0 := by unfold widthOf; rw [if_pos (by omega)]
      rw [this]
      go_enter Try.func24, Try.ntmps24
      go_wp2
      go_ret
      exact ⟨rfl, rfl⟩
    by_cases h3 : 1114111 < r
    · have : widthOf r = 0 := by unfold widthOf; rw [if_pos (by omega)]
      rw [this]
      go_enter Try.func24, Try.ntmps24
      go_wp2
      go_ret
      exact ⟨rfl, rfl⟩
    by_cases h4 : r ≤ 65535
    · have : widthOf r = 3 := by unfold widthOf; rw [if_neg (by omega), if_neg (by omega), if_neg (by omega), if_pos h4]
      rw [this]
      go_enter Try.func24, Try.ntmps24
      go_wp2
      go_ret
      exact ⟨rfl, rfl⟩
    · have : widthOf r = 4 := by unfold widthOf; rw [if_neg (by omega), if_neg (by omega), if_neg (by omega), if_neg (by omega)]
      rw [this]
      go_enter Try.func24, Try.ntmps24
      go_wp2
      go_ret
      exact ⟨rfl, rfl⟩
  by_cases h5 : r ≤ 127
  · have : widthOf r = 1 := by unfold widthOf; rw [if_neg (by omega), if_pos (by omega)]
    rw [this]
    go_enter Try.func24, Try.ntmps24
    go_wp2
    go_ret
    exact ⟨rfl, rfl⟩
  by_cases h6 : r ≤ 2047
  · have : widthOf r = 2 := by unfold widthOf; rw [if_neg (by omega), if_neg (by omega), if_pos (by omega)]
    rw [this]
    go_enter Try.func24, Try.ntmps24
    go_wp2
    go_ret
    exact ⟨rfl, rfl⟩
  · have : widthOf r = 3 := by unfold widthOf; rw [if_neg (by omega), if_neg (by omega), if_neg (by omega), if_pos (by omega)]
    rw [this]
    go_enter Try.func24, Try.ntmps24
    go_wp2
    go_ret
    exact ⟨rfl, rfl⟩

theorem badSpot_any (w : World) : Calls Try.prog 84 #[] w fun e w' => e = .returned (.agg #[.int .i32 65533, .int .i64 1, .bool true]) ∧ w' = w.alloc (.cells #[.int .i32 65533, .int .i64 1, .bool true] 109) := by
  go_enter Try.func84, Try.ntmps84
  go_wp2
  exact bodyPost_ret (v := .agg #[.int .i32 65533, .int .i64 1, .bool true]) (by simp [results, Try.results84, go_sem]) rfl ⟨rfl, rfl⟩

theorem hasPrefix_any (s : ByteArray) (hs : s.size ≤ maxLen) (w : World) : Calls Try.prog 83 #[.string s, .string ⟨#[239, 191, 189]⟩] w fun e w' => e = .returned (.bool (hasRB s)) ∧ w' = w := by
  unfold maxLen at hs
  by_cases h : 3 ≤ s.size
  · have e : hasRB s = ((s.extract 0 3).toList == [239, 191, 189]) := by simp [hasRB, h]
    rw [e]
    clear e
    go_enter Try.func83, Try.ntmps83
    go_wp2
    go_ret
    exact ⟨rfl, rfl⟩
  · have e : hasRB s = false := by simp [hasRB, h]
    rw [e]
    clear e
    go_enter Try.func83, Try.ntmps83
    go_wp2
    go_ret
    exact ⟨rfl, rfl⟩

abbrev encSpot (x : Int × Int × Bool) : Value := .agg #[.int .i32 x.1, .int .i64 x.2.1, .bool x.2.2]

theorem spotOf_any (s : ByteArray) (hs : s.size ≤ maxLen) (r : Int) (w : World) : Calls Try.prog 75 #[.string s, .int .i32 r] w fun e w' => e = .returned (encSpot (spotR s r)) ∧ Below w.heap.size w w' := by
  by_cases h : r = 65533
  · subst h
    cases hb : hasRB s with
    | true =>
      have e : spotR s 65533 = (65533, widthOf 65533, false) := by simp [spotR, hb]
      rw [e]
      clear e
      have H : Hid (hasRB s = true) := hb
      clear hb
      go_enter Try.func75, Try.ntmps75
      go_wp2_with (first | (go_at_call 83; refine (hasPrefix_any _ hs _).mono ?_; rintro e w' ⟨rfl, rfl⟩; rw [H.out]) | (go_at_call 24; refine (width_any _ _).mono ?_; rintro e w' ⟨rfl, rfl⟩))
      exact bodyPost_ret (v := encSpot (65533, widthOf 65533, false)) (by simp [results, Try.results75, go_sem]) rfl ⟨rfl, (Below.refl _ _).alloc (Nat.le_refl _) _⟩
    | false =>
      have e : spotR s 65533 = (65533, 1, true) := by simp [spotR, hb]
      rw [e]
      clear e
      have H : Hid (hasRB s = false) := hb
      clear hb
      go_enter Try.func75, Try.ntmps75
      go_wp2_with (first | (go_at_call 83; refine (hasPrefix_any _ hs _).mono ?_; rintro e w' ⟨rfl, rfl⟩; rw [H.out]) | (go_at_call 84; refine (badSpot_any _).mono ?_; rintro e w1 ⟨rfl, rfl⟩))
      exact bodyPost_ret (v := encSpot (65533, 1, true)) (by simp [results, Try.results75, go_sem]) rfl ⟨rfl, ((Below.refl _ _).alloc (Nat.le_refl _) _).alloc (by simp) _⟩
  · have e : spotR s r = (r, widthOf r, false) := by simp [spotR, h]
    rw [e]
    clear e
    have hb : (r == 65533) = false := by simpa using h
    go_enter Try.func75, Try.ntmps75
    go_wp2_with (go_at_call 24; refine (width_any _ _).mono ?_; rintro e w' ⟨rfl, rfl⟩)
    exact bodyPost_ret (v := encSpot (r, widthOf r, false)) (by simp [results, Try.results75, go_sem]) rfl ⟨rfl, (Below.refl _ _).alloc (Nat.le_refl _) _⟩
end Go.Proofs.Ythjndkjbjflmfaa
