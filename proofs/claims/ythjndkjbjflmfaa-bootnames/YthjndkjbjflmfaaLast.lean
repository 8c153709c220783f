/- Last, told for every text; and what every statement asks first: that the text of an e and of a bad byte has its two spots. -/
import Derived.Test.YthjndkjbjflmfaaBound
namespace Go.Proofs.Ythjndkjbjflmfaa
open Go.RowKit Go.Shelf
set_option linter.unusedVariables false

/-- Does a sequence of m bytes end the text? -/
def goodEnd (s : ByteArray) (m : Nat) : Bool := decide (m ≤ s.size ∧ wd s (s.size - m) = m ∧ ¬ (rn s (s.size - m) = 65533 ∧ wd s (s.size - m) = 1))
def lastS (s : ByteArray) : Int × Int × Bool :=
  if goodEnd s 1 then spotV s (s.size - 1) else if goodEnd s 2 then spotV s (s.size - 2) else if goodEnd s 3 then spotV s (s.size - 3) else if goodEnd s 4 then spotV s (s.size - 4) else (65533, 1, true)
def lastV (s : ByteArray) : Value := if 0 < s.size then .tuple #[encSpot (lastS s), .bool true] else .tuple #[encSpot (0, 0, false), .bool false]
theorem lastV_pos {s : ByteArray} (h : 0 < s.size) : lastV s = .tuple #[encSpot (lastS s), .bool true] := if_pos h
theorem lastV_neg {s : ByteArray} (h : ¬ 0 < s.size) : lastV s = .tuple #[encSpot (0, 0, false), .bool false] := if_neg h
theorem lastS_hit (s : ByteArray) (k : Nat) (h1 : 1 ≤ k) (h4 : k ≤ 4) (hg : goodEnd s k = true) (hn : ∀ m, m < k → 1 ≤ m → goodEnd s m = false) : lastS s = spotV s (s.size - k) := by
  have : k = 1 ∨ k = 2 ∨ k = 3 ∨ k = 4 := by omega
  unfold lastS
  rcases this with rfl | rfl | rfl | rfl
  · rw [if_pos hg]
  · rw [if_neg (by simp [hn 1]), if_pos hg]
  · rw [if_neg (by simp [hn 1]), if_neg (by simp [hn 2]), if_pos hg]
  · rw [if_neg (by simp [hn 1]), if_neg (by simp [hn 2]), if_neg (by simp [hn 3]), if_pos hg]
theorem lastS_none (s : ByteArray) (hn : ∀ m, m < 5 → 1 ≤ m → goodEnd s m = false) : lastS s = (65533, 1, true) := by
  unfold lastS
  rw [if_neg (by simp [hn 1]), if_neg (by simp [hn 2]), if_neg (by simp [hn 3]), if_neg (by simp [hn 4])]

/-- The text that every statement looks at first. -/
def text0 : ByteArray := ⟨#[195, 169, 255]⟩
theorem first0 : firstV text0 = .tuple #[.agg #[.int .i32 233, .int .i64 2, .bool false], .bool true] := by
  rw [firstV_pos (by decide)]
  have : Utf8.decode text0 0 = (233, 2) := by decide
  simp [spotV, rn, wd, this]
theorem last0 : lastV text0 = .tuple #[.agg #[.int .i32 65533, .int .i64 1, .bool true], .bool true] := by
  rw [lastV_pos (by decide), show lastS text0 = (65533, 1, true) by decide]

end Go.Proofs.Ythjndkjbjflmfaa
