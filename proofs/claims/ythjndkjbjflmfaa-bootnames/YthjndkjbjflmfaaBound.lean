/- Bound, Cut and Joins, told for every text and every number. -/
import Derived.Test.YthjndkjbjflmfaaFirst
import Derived.Deep.QuietTactic
import Derived.BigQuiet
import Derived.WalkSmall
namespace Go.Proofs.Ythjndkjbjflmfaa
open Go.RowKit Go.Shelf
set_option linter.unusedVariables false

/-- What First answers of the text from i on. -/
theorem firstV_at (s : ByteArray) (i : Nat) (h : i < s.size) : firstV (s.extract i s.size) = .tuple #[.agg #[.int .i32 (rn s i), .int .i64 (wd s i), .bool (decide (rn s i = 65533 ∧ wd s i = 1))], .bool true] := by
  rw [firstV_pos (by rw [ByteArray.size_extract]; omega)]
  simp only [encSpot, spotV, rn, wd, decode_suffix s i 0 (Nat.le_of_lt h), Nat.add_zero]

def boundV (s : ByteArray) (a : Int) : Bool := decide (0 ≤ a ∧ a ≤ s.size) && bdB s a.toNat

/-- The greatest bound that is not above p. -/
def cutAt (s : ByteArray) : Nat → Nat
  | 0 => 0
  | p + 1 => if bdB s (p + 1) then p + 1 else cutAt s p
theorem cutAt_le (s : ByteArray) : ∀ p, cutAt s p ≤ p
  | 0 => Nat.le_refl _
  | p + 1 => by unfold cutAt; split; exact Nat.le_refl _; exact Nat.le_succ_of_le (cutAt_le s p)
theorem cutAt_bd (s : ByteArray) : ∀ p, bdB s (cutAt s p) = true
  | 0 => bd_zero s
  | p + 1 => by
    unfold cutAt
    split
    · assumption
    · exact cutAt_bd s p
theorem cutAt_max (s : ByteArray) : ∀ p q, q ≤ p → bdB s q = true → q ≤ cutAt s p
  | 0, q, h, _ => h
  | p + 1, q, h, hq => by
    unfold cutAt
    split
    · exact h
    · rename_i hn
      exact cutAt_max s p q (by
        rcases Nat.lt_or_ge q (p + 1) with hl | hl
        · omega
        · have : q = p + 1 := by omega
          subst this; exact absurd hq hn) hq
theorem cutAt_self (s : ByteArray) (p : Nat) (h : bdB s p = true) : cutAt s p = p := Nat.le_antisymm (cutAt_le s p) (cutAt_max s p p (Nat.le_refl _) h)
theorem cutAt_pred (s : ByteArray) (p : Nat) (h : bdB s p = false) : 1 ≤ p ∧ cutAt s p = cutAt s (p - 1) := by
  cases p with
  | zero => rw [bd_zero] at h; cases h
  | succ p => refine ⟨by omega, ?_⟩; rw [cutAt, if_neg (by simp [h])]; rfl
/-- The number, brought within the text. -/
def clampV (s : ByteArray) (a : Int) : Nat := min a.toNat s.size

def joinsV (s t : ByteArray) : Bool := bdB (s.extract (s.size - 3) s.size ++ t.extract 0 (min t.size 3)) (min s.size 3)

theorem joinsV_eq (s t u v : ByteArray) (p : Nat) (hu : s.extract (s.size - 3) s.size = u) (hv : t.extract 0 (min t.size 3) = v) (hp : min s.size 3 = p) : bdB (u ++ v) p = joinsV s t := by
  unfold joinsV; rw [hu, hv, hp]
theorem extract_all (s : ByteArray) (i : Nat) (h : i = 0) : s.extract i s.size = s := by subst h; exact ByteArray.extract_zero_size
theorem extract_head (s : ByteArray) (i : Nat) (h : i = s.size) : s.extract 0 i = s := by subst h; exact ByteArray.extract_zero_size

end Go.Proofs.Ythjndkjbjflmfaa
