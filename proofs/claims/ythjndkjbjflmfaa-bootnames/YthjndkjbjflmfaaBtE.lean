/- A number is read, digit by digit. -/
import Derived.Test.YthjndkjbjflmfaaBtD
import Derived.Test.YthjndkjbjflmfaaShA
namespace Go.Proofs.Ythjndkjbjflmfaa
open Go.RowKit Go.Shelf
set_option linter.unusedVariables false
/-- The digits, and the hyphen's place does not count: where a byte stands among them. -/
def idxK : List UInt8 → UInt8 → Int → Int
  | [], _, _ => -1
  | b :: l, c, k => if b == c then k else idxK l c (k + 1)
theorem idxK_ge : ∀ (l : List UInt8) (c : UInt8) (k : Int), 0 ≤ k → idxK l c k = -1 ∨ k ≤ idxK l c k
  | [], c, k, h => Or.inl rfl
  | b :: l, c, k, h => by
    unfold idxK
    split
    · exact Or.inr (Int.le_refl _)
    · rcases idxK_ge l c (k + 1) (by omega) with h | h
      · exact Or.inl h
      · exact Or.inr (by omega)
theorem indexByte_ge : ∀ (l : List UInt8) (c : UInt8), -1 ≤ Lib.indexByte l c
  | [], c => Int.le_refl _
  | b :: l, c => by
    unfold Lib.indexByte
    have := indexByte_ge l c
    repeat' split
    all_goals omega
theorem idxK_eq : ∀ (l : List UInt8) (c : UInt8) (k : Int), 0 ≤ k → idxK l c k = if Lib.indexByte l c = -1 then -1 else Lib.indexByte l c + k
  | [], c, k, h => rfl
  | b :: l, c, k, h => by
    have ih := idxK_eq l c (k + 1) (by omega)
    have hg := indexByte_ge l c
    unfold idxK Lib.indexByte
    by_cases h1 : (b == c) = true
    · rw [if_pos h1, if_pos h1, if_neg (by omega)]; omega
    · rw [if_neg h1, if_neg h1, ih]
      by_cases h2 : Lib.indexByte l c = -1
      · rw [if_pos h2, if_pos (by rw [h2]; rfl)]
      · have h3 : ¬ (Lib.indexByte l c == -1) = true := by simpa using h2
        rw [if_neg h2, if_neg h3, if_neg (by omega)]; omega
theorem idxK_take : ∀ (l : List UInt8) (c : UInt8) (n : Nat) (k : Int), 0 ≤ k → idxK (l.take n) c k = if idxK l c k < k + n then idxK l c k else -1
  | [], c, n, k, h => by rw [List.take_nil]; unfold idxK; rw [if_pos (by omega)]
  | b :: l, c, 0, k, h => by
    rw [List.take_zero]
    have := idxK_ge (b :: l) c k h
    show (-1 : Int) = _
    by_cases hk : idxK (b :: l) c k < k + (0 : Nat)
    · rw [if_pos hk]; omega
    · rw [if_neg hk]
  | b :: l, c, n + 1, k, h => by
    rw [List.take_succ_cons]
    have ih := idxK_take l c n (k + 1) (by omega)
    unfold idxK
    by_cases h1 : (b == c) = true
    · rw [if_pos h1, if_pos h1, if_pos (by omega)]
    · rw [if_neg h1, if_neg h1, ih]
      by_cases h2 : idxK l c (k + 1) < k + 1 + n
      · rw [if_pos h2, if_pos (by omega)]
      · rw [if_neg h2, if_neg (by omega)]
abbrev dgs : ByteArray := ⟨#[97, 98, 99, 100, 101, 102, 103, 104, 105, 106, 107, 108, 109, 110, 111, 112, 113, 114, 115, 116, 117, 118, 119, 120, 121, 122, 48, 49, 50, 51, 52, 53, 54, 55, 56, 57]⟩
theorem idx_dgs : ∀ c, c < 256 → idxK dgs.data.toList c.toUInt8 0 = digV 36 c := by decide +kernel
theorem digV_cut (n c : Nat) (hn : n ≤ 36) : digV n c = if digV 36 c < n then digV 36 c else -1 := by
  unfold digV
  repeat' split
  all_goals omega
theorem dig_sh (n c : Nat) (hn : n ≤ 36) (hc : c < 256) (w : World) : Calls Try.prog 69 #[.string (dgs.extract 0 n), .int .u8 (c : Int)] w fun e w' => e = .returned (.int .i64 (digV n c)) ∧ w' = w :=
  (Any.strings_IndexByte lay137 (dgs.extract 0 n) c w).mono fun e w' ⟨h1, h2⟩ => ⟨by
    have e1 : (dgs.extract 0 n).data.toList = dgs.data.toList.take n := by simp
    have e2 := idxK_eq (dgs.data.toList.take n) c.toUInt8 0 (by omega)
    have e3 := idxK_take dgs.data.toList c.toUInt8 n 0 (by omega)
    rw [idx_dgs c hc, Int.zero_add] at e3
    have hg := indexByte_ge (dgs.data.toList.take n) c.toUInt8
    have e4 : Lib.indexByte (dgs.data.toList.take n) c.toUInt8 = digV n c := by
      rw [digV_cut n c hn]
      by_cases h : Lib.indexByte (dgs.data.toList.take n) c.toUInt8 = -1
      · rw [if_pos h, e3] at e2; rw [h]; exact e2.symm
      · rw [if_neg h, e3, Int.add_zero] at e2; exact e2.symm
    rw [h1, e1, ← e4]; rfl, h2⟩
end Go.Proofs.Ythjndkjbjflmfaa
