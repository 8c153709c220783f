/- sign and numbered: the sign with which a text begins; the rune with U+. -/
import Derived.Test.YtncmabmpkdmpfaaDoorScNum
import Derived.Test.YtncmabmpkdmpfaaDoorShA
namespace Go.Proofs.YtncmabmpkdmpfaaDoor
open Go.RowKit Go.Shelf
set_option linter.unusedVariables false
theorem hasPrefix_sh (s p : ByteArray) (w : World) : Calls Tryd.prog 40 #[.string s, .string p] w fun e w' => e = .returned (.bool (Lib.hasPrefix s.data.toList p.data.toList)) ∧ w' = w := Any.strings_HasPrefix lay99 s p w
theorem indexByte_sh (s : ByteArray) (c : Int) (w : World) : Calls Tryd.prog 71 #[.string s, .int .u8 c] w fun e w' => e = .returned (.int .i64 (Lib.indexByte s.data.toList c.toNat.toUInt8)) ∧ w' = w := Any.strings_IndexByte lay137 s c w
/-- Does a text begin with two points? -/
def dotsB (t : ByteArray) : Bool := Lib.hasPrefix t.data.toList [46, 46]
/-- A sign's kind, its bytes, whether it is one. -/
def sgnV (t : ByteArray) : Nat × Nat × Bool :=
  if bt t 0 = 123 then (4, 1, true) else if bt t 0 = 125 then (5, 1, true) else if bt t 0 = 59 then (6, 1, true) else if bt t 0 = 61 then (7, 1, true) else if bt t 0 = 43 then (8, 1, true)
  else if bt t 0 = 46 then (if dotsB t = true then (9, 2, true) else (0, 1, false)) else (0, 0, false)
abbrev tup3 (x : Nat × Nat × Bool) : Value := .tuple #[.int .i64 x.1, .int .i64 x.2.1, .bool x.2.2]
theorem tup3_of {x y : Nat × Nat × Bool} (h : x = y) : Ending.returned (tup3 x) = .returned (tup3 y) := by rw [h]
set_option maxRecDepth 100000 in
set_option maxHeartbeats 2000000 in
theorem sign_any (t : ByteArray) (hp : 0 < t.size) (w : World) : Calls Tryd.prog 47 #[.string t] w fun e w' => e = .returned (tup3 (sgnV t)) ∧ w' = w := by
  have hb0 := bt_get t 0 hp
  unfold sgnV
  rw [hb0]
  clear hb0
  go_enter Tryd.func47, Tryd.ntmps47
  go_wp2_with (go_at_call 40; refine (hasPrefix_sh t ⟨#[46, 46]⟩ _).mono ?_; rintro e w' ⟨rfl, rfl⟩; rw [show Lib.hasPrefix t.data.toList (ByteArray.mk #[46, 46]).data.toList = dotsB t from rfl])
  all_goals go_ret3
  all_goals refine ⟨tup3_of (x := (_, _, _)) ?_, rfl⟩
  all_goals simp only [beq_iff_eq, beq_eq_false_iff_ne, ne_eq] at *
  all_goals (repeat' split) <;> first | rfl | (exfalso; omega) | (exfalso; simp_all; done)
/-- A hexadecimal digit's value, -1 of no digit. -/
def hexI (c : Nat) : Int := if 48 ≤ c ∧ c ≤ 57 then (c : Int) - 48 else if 65 ≤ c ∧ c ≤ 70 then (c : Int) - 55 else -1
theorem hexI_eq : ∀ c, c < 256 → Lib.indexByte [48, 49, 50, 51, 52, 53, 54, 55, 56, 57, 65, 66, 67, 68, 69, 70] c.toUInt8 = hexI c := by decide +kernel
theorem hexI_le (c : Nat) : -1 ≤ hexI c ∧ hexI c ≤ 15 := by unfold hexI; split <;> (try split) <;> omega
/-- A value and its bytes: from a value and a place on. -/
def numdF (t : ByteArray) : Nat → Nat → Nat → Nat × Nat
  | 0, v, n => (v, n)
  | f + 1, v, n => if n < t.size ∧ (n < 6 ∨ bt t 2 ≠ 48) ∧ 0 ≤ hexI (bt t n) ∧ v * 16 + (hexI (bt t n)).toNat ≤ 1114111 then numdF t f (v * 16 + (hexI (bt t n)).toNat) (n + 1) else (v, n)
def numdGo (t : ByteArray) (v n : Nat) : Nat × Nat := numdF t (t.size - n) v n
theorem numdGo_go {t : ByteArray} {v n : Nat} (h : n < t.size ∧ (n < 6 ∨ bt t 2 ≠ 48) ∧ 0 ≤ hexI (bt t n) ∧ v * 16 + (hexI (bt t n)).toNat ≤ 1114111) : numdGo t v n = numdGo t (v * 16 + (hexI (bt t n)).toNat) (n + 1) := by
  unfold numdGo
  obtain ⟨f, hf⟩ : ∃ f, t.size - n = f + 1 := ⟨t.size - n - 1, by omega⟩
  rw [hf, show t.size - (n + 1) = f by omega, numdF, if_pos h]
theorem numdGo_stop {t : ByteArray} {v n : Nat} (h : ¬ (n < t.size ∧ (n < 6 ∨ bt t 2 ≠ 48) ∧ 0 ≤ hexI (bt t n) ∧ v * 16 + (hexI (bt t n)).toNat ≤ 1114111)) : numdGo t v n = (v, n) := by
  unfold numdGo
  cases t.size - n with
  | zero => rfl
  | succ f => rw [numdF, if_neg h]
def numdV (t : ByteArray) : Nat × Nat × Bool :=
  if t.size < 2 ∨ bt t 1 ≠ 43 then (0, 1, false) else if (numdGo t 0 2).2 < 6 ∨ widthOf (numdGo t 0 2).1 = 0 then (0, (numdGo t 0 2).2, false) else ((numdGo t 0 2).1, (numdGo t 0 2).2, true)
abbrev tupR (x : Nat × Nat × Bool) : Value := .tuple #[.int .i32 x.1, .int .i64 x.2.1, .bool x.2.2]
theorem tupR_of {x y : Nat × Nat × Bool} (h : x = y) : Ending.returned (tupR x) = .returned (tupR y) := by rw [h]
set_option maxRecDepth 100000 in
set_option maxHeartbeats 4000000 in
theorem numbered_no (t : ByteArray) (ht : t.size ≤ 4611686018427387904) (h : t.size < 2 ∨ bt t 1 ≠ 43) (w : World) : Calls Tryd.prog 49 #[.string t] w fun e w' => e = .returned (tupR (numdV t)) ∧ w' = w := by
  have hv : numdV t = (0, 1, false) := by unfold numdV; rw [if_pos h]
  rw [hv]
  clear hv
  by_cases h2 : t.size < 2
  · have h2' : (t.size : Int) < 2 := by omega
    go_enter Tryd.func49, Tryd.ntmps49
    go_wp2
    go_ret3
    exact ⟨rfl, rfl⟩
  · have h2' : ¬ (t.size : Int) < 2 := by omega
    have hb1 := bt_get t 1 (by omega)
    have h3 : (((t[1]'(by omega)).toNat : Int) != 43) = true := by rw [bne_iff_ne]; omega
    have h4 : (1 : Int) < (t.size : Int) := by omega
    clear hb1
    go_enter Tryd.func49, Tryd.ntmps49
    go_wp2
    go_ret3
    exact ⟨rfl, rfl⟩
theorem hex_sh (c : Nat) (hc : c < 256) (w : World) : Calls Tryd.prog 71 #[.string ⟨#[48, 49, 50, 51, 52, 53, 54, 55, 56, 57, 65, 66, 67, 68, 69, 70]⟩, .int .u8 (c : Int)] w fun e w' => e = .returned (.int .i64 (hexI c)) ∧ w' = w :=
  (indexByte_sh ⟨#[48, 49, 50, 51, 52, 53, 54, 55, 56, 57, 65, 66, 67, 68, 69, 70]⟩ c w).mono fun e w' ⟨h1, h2⟩ => ⟨by rw [h1, ← hexI_eq c hc]; rfl, h2⟩
end Go.Proofs.YtncmabmpkdmpfaaDoor
