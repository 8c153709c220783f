/- The course of the numbers: its methods. -/
import Derived.Laws.Small
import Derived.Deep.QuietTactic
import Derived.BigQuiet
import Derived.Test.YthjndkjbjflmfaaBtA
namespace Go.Proofs.Ythjndkjbjflmfaa
open Go.RowKit Go.Shelf
set_option linter.unusedVariables false
theorem ret_int {x y : Int} {k : IntKind} (h : x = y) : Ending.returned (.int k x) = Ending.returned (.int k y) := by rw [h]
theorem drewN_add (w : World) (q n : Nat) : (w.drewN q).drewN n = w.drewN (q + n) := by simp [World.drewN, Nat.add_assoc]
/-- A course's cells: the parameters, the bias, what the next number is divided by, how many are laid down, the last rune, the place behind it. -/
abbrev cellsC (p : Pm) (bias d l n nx : Int) : Array Value := #[.int .i64 p.B, .int .i64 p.lo, .int .i64 p.hi, .int .i64 p.sk, .int .i64 p.da, .int .i64 p.bi, .int .i32 p.fi, .int .i64 bias, .int .i64 d, .int .i64 l, .int .i32 n, .int .i64 nx]
abbrev CAt (W : World) (c : Nat) (p : Pm) (bias d l n nx : Int) : Prop := Blk W c (cellsC p bias d l n nx) 93
set_option maxRecDepth 100000 in
set_option maxHeartbeats 4000000 in
theorem thr_any {p : Pm} (hp : rightP p) {W : World} {c : Nat} {bias d l n nx k : Int} (hC : CAt W c p bias d l n nx) (hb : 0 ≤ bias ∧ bias ≤ 4000) (hk : 0 ≤ k ∧ k ≤ 1000000) : Calls Try.prog 67 #[.pointer (some ⟨c, 0, none⟩), .int .i64 k] W fun e w' => e = .returned (.int .i64 (thr p bias k)) ∧ ∃ q, w' = W.drewN q := by
  have c0 : W.cell? ⟨c, 0, none⟩ = some (.int .i64 p.B) := hC.cell 0
  have c1 : W.cell? ⟨c, 1, none⟩ = some (.int .i64 p.lo) := hC.cell 1
  have c2 : W.cell? ⟨c, 2, none⟩ = some (.int .i64 p.hi) := hC.cell 2
  have c7 : W.cell? ⟨c, 7, none⟩ = some (.int .i64 bias) := hC.cell 7
  clear hC
  obtain ⟨a1, a2, a3, a4, a5, -⟩ := hp
  obtain ⟨B, lo, hi, sk, da, bi, fi⟩ := p
  unfold thr
  dsimp only at *
  have m1 : 0 ≤ k * B := Int.mul_nonneg hk.1 (by omega)
  have m2 : k * B ≤ 1000000 * 36 := Int.mul_le_mul hk.2 a2 (by omega) (by omega)
  by_cases h1 : lo > k * B - bias
  · have h2 : ¬ hi < lo := by omega
    rw [show min (max (k * B - bias) lo) hi = lo by omega]
    go_enter Try.func67, Try.ntmps67
    go_wp2_with fail
    go_quiet (fail)
    go_wp2_with fail
    go_ret
    exact ⟨rfl, _, rfl⟩
  · by_cases h2 : hi < k * B - bias
    · rw [show min (max (k * B - bias) lo) hi = hi by omega]
      go_enter Try.func67, Try.ntmps67
      go_wp2_with fail
      go_quiet (fail)
      go_wp2_with fail
      go_ret
      exact ⟨rfl, _, rfl⟩
    · rw [show min (max (k * B - bias) lo) hi = k * B - bias by omega]
      go_enter Try.func67, Try.ntmps67
      go_wp2_with fail
      go_quiet (fail)
      go_wp2_with fail
      go_ret
      exact ⟨rfl, _, rfl⟩
set_option maxRecDepth 100000 in
set_option maxHeartbeats 4000000 in
theorem over_any {p : Pm} {W : World} {c : Nat} {bias d l n nx v : Int} (hC : CAt W c p bias d l n nx) (hv : 0 ≤ v ∧ v ≤ 1152921504606846975) (hl : 0 ≤ l ∧ l ≤ 4096) (hn : 0 ≤ n ∧ n ≤ 1114111) (hx : 0 ≤ nx ∧ nx ≤ 5000) : Calls Try.prog 70 #[.pointer (some ⟨c, 0, none⟩), .int .i64 v] W fun e w' => e = .returned (.bool (decide (1114111 - n < (v + nx) / (l + 1)))) ∧ ∃ q, w' = W.drewN q := by
  have c9 : W.cell? ⟨c, 9, none⟩ = some (.int .i64 l) := hC.cell 9
  have c10 : W.cell? ⟨c, 10, none⟩ = some (.int .i32 n) := hC.cell 10
  have c11 : W.cell? ⟨c, 11, none⟩ = some (.int .i64 nx) := hC.cell 11
  clear hC
  have m0 : 0 ≤ v + nx := by omega
  have m1 : 1 ≤ l + 1 := by omega
  have m3 : ¬ l + 1 = 0 := by omega
  have m2 : 0 ≤ (v + nx) / (l + 1) := Int.ediv_nonneg m0 (by omega)
  have m4 : (v + nx) / (l + 1) ≤ v + nx := Int.ediv_le_self _ m0
  go_enter Try.func70, Try.ntmps70
  go_wp2_with fail
  go_quiet (fail)
  go_wp2_with fail
  go_ret
  exact ⟨rfl, _, rfl⟩
set_option maxRecDepth 100000 in
set_option maxHeartbeats 4000000 in
theorem says_any {p : Pm} {W : World} {c : Nat} {bias d l n nx v : Int} (hC : CAt W c p bias d l n nx) (hv : 0 ≤ v ∧ v ≤ 1152921504606846975) (hl : 0 ≤ l ∧ l ≤ 4096) (hn : 0 ≤ n ∧ n ≤ 1114111) (hx : 0 ≤ nx ∧ nx ≤ 5000) (ho : (v + nx) / (l + 1) ≤ 1114111 - n) : Calls Try.prog 52 #[.pointer (some ⟨c, 0, none⟩), .int .i64 v] W fun e w' => e = .returned (.tuple #[.int .i32 (n + (v + nx) / (l + 1)), .int .i64 ((v + nx) % (l + 1))]) ∧ ∃ q, w' = W.drewN q := by
  have c9 : W.cell? ⟨c, 9, none⟩ = some (.int .i64 l) := hC.cell 9
  have c10 : W.cell? ⟨c, 10, none⟩ = some (.int .i32 n) := hC.cell 10
  have c11 : W.cell? ⟨c, 11, none⟩ = some (.int .i64 nx) := hC.cell 11
  clear hC
  have m0 : 0 ≤ v + nx := by omega
  have m1 : 1 ≤ l + 1 := by omega
  have m3 : ¬ l + 1 = 0 := by omega
  have m2 : 0 ≤ (v + nx) / (l + 1) := Int.ediv_nonneg m0 (by omega)
  have m4 : 0 ≤ (v + nx) % (l + 1) := Int.emod_nonneg _ m3
  have m5 : (v + nx) % (l + 1) < l + 1 := Int.emod_lt_of_pos _ (by omega)
  go_enter Try.func52, Try.ntmps52
  go_wp2_with fail
  go_quiet (fail)
  go_wp2_with fail
  go_ret2
  exact ⟨rfl, _, rfl⟩
set_option maxRecDepth 100000 in
set_option maxHeartbeats 4000000 in
theorem number_any {p : Pm} {W : World} {c : Nat} {bias d l n nx r s : Int} (hC : CAt W c p bias d l n nx) (hs : 0 ≤ s ∧ s ≤ 5000) (hl : 0 ≤ l ∧ l ≤ 4096) (hn : 0 ≤ n ∧ n ≤ r ∧ r ≤ 1114111) (hx : 0 ≤ nx ∧ nx ≤ 5000) : Calls Try.prog 47 #[.pointer (some ⟨c, 0, none⟩), .int .i32 r, .int .i64 s] W fun e w' => e = .returned (.int .i64 ((r - n) * (l + 1) + s - nx)) ∧ ∃ q, w' = W.drewN q := by
  have c9 : W.cell? ⟨c, 9, none⟩ = some (.int .i64 l) := hC.cell 9
  have c10 : W.cell? ⟨c, 10, none⟩ = some (.int .i32 n) := hC.cell 10
  have c11 : W.cell? ⟨c, 11, none⟩ = some (.int .i64 nx) := hC.cell 11
  clear hC
  have m1 : 0 ≤ (r - n) * (l + 1) := Int.mul_nonneg (by omega) (by omega)
  have m2 : (r - n) * (l + 1) ≤ 1114111 * 4097 := Int.mul_le_mul (by omega) (by omega) (by omega) (by omega)
  go_enter Try.func47, Try.ntmps47
  go_wp2_with fail
  go_quiet (fail)
  go_wp2_with fail
  go_ret
  exact ⟨rfl, _, rfl⟩
end Go.Proofs.Ythjndkjbjflmfaa
