/- The words of the rules: plain mathematics of bytes. -/
import Derived.Test.YtncmabmpkdmpfaaDoorJoin
namespace Go.Proofs.YtncmabmpkdmpfaaDoor
open Go.RowKit Go.Shelf
set_option linter.unusedVariables false
def blankB (c : Nat) : Bool := decide (c = 9 ∨ c = 10 ∨ c = 13 ∨ c = 32)
def smallB (c : Nat) : Bool := decide (97 ≤ c ∧ c ≤ 122)
def digB (c : Nat) : Bool := decide (48 ≤ c ∧ c ≤ 57)
def inNB (c : Nat) : Bool := smallB c || digB c || decide (c = 45)
def stkB (c : Nat) : Bool := inNB c || decide (65 ≤ c ∧ c ≤ 90) || decide (c = 95)
/-- The first place from n on, below hi, where p ends. -/
def scanF (p : Nat → Bool) : Nat → Nat → Nat
  | 0, n => n
  | f + 1, n => if p n = true then scanF p f (n + 1) else n
def scanTo (p : Nat → Bool) (hi n : Nat) : Nat := scanF p (hi - n) n
theorem scanTo_go {p : Nat → Bool} {hi n : Nat} (h : n < hi) (hp : p n = true) : scanTo p hi n = scanTo p hi (n + 1) := by
  unfold scanTo
  obtain ⟨f, hf⟩ : ∃ f, hi - n = f + 1 := ⟨hi - n - 1, by omega⟩
  rw [hf, show hi - (n + 1) = f by omega, scanF, if_pos hp]
theorem scanTo_end {p : Nat → Bool} {hi n : Nat} (h : ¬ n < hi) : scanTo p hi n = n := by
  unfold scanTo
  rw [show hi - n = 0 by omega]
  rfl
theorem scanTo_no {p : Nat → Bool} {hi n : Nat} (h : p n = false) : scanTo p hi n = n := by
  unfold scanTo
  cases hi - n with
  | zero => rfl
  | succ f => rw [scanF, if_neg (by rw [h]; decide)]
theorem scanTo_ge (p : Nat → Bool) (hi : Nat) : ∀ k n, hi ≤ n + k → n ≤ scanTo p hi n ∧ (n ≤ hi → scanTo p hi n ≤ hi)
  | 0, n, h => by rw [scanTo_end (by omega)]; exact ⟨Nat.le_refl _, fun h => h⟩
  | k + 1, n, h => by
    by_cases hn : n < hi
    · cases hp : p n with
      | true => have := scanTo_ge p hi k (n + 1) (by omega); rw [scanTo_go hn hp]; omega
      | false => rw [scanTo_no hp]; exact ⟨Nat.le_refl _, fun h => h⟩
    · rw [scanTo_end hn]; exact ⟨Nat.le_refl _, fun h => h⟩
theorem scanTo_le (p : Nat → Bool) {hi n : Nat} (h : n ≤ hi) : n ≤ scanTo p hi n ∧ scanTo p hi n ≤ hi := by have := scanTo_ge p hi (hi - n) n (by omega); exact ⟨this.1, this.2 h⟩
/-- How many bytes a name has at the beginning. -/
def nameLen (t : ByteArray) : Nat := if t.size = 0 ∨ smallB (bt t 0) = false then 0 else scanTo (fun n => inNB (bt t n)) (min t.size 32) 1
theorem nameLen_le (t : ByteArray) : nameLen t ≤ t.size ∧ nameLen t ≤ 32 := by
  unfold nameLen
  by_cases h : t.size = 0 ∨ smallB (bt t 0) = false
  · rw [if_pos h]; omega
  · rw [if_neg h]
    have := scanTo_le (fun n => inNB (bt t n)) (show 1 ≤ min t.size 32 by omega)
    omega
/-- A number's value and its bytes: from a value and a place on. -/
def numF (t : ByteArray) : Nat → Nat → Nat → Nat × Nat
  | 0, v, n => (v, n)
  | f + 1, v, n => if n < t.size ∧ digB (bt t n) = true ∧ 0 < v ∧ v * 10 + (bt t n - 48) ≤ 65535 then numF t f (v * 10 + (bt t n - 48)) (n + 1) else (v, n)
def numGo (t : ByteArray) (v n : Nat) : Nat × Nat := numF t (t.size - n) v n
theorem numGo_go {t : ByteArray} {v n : Nat} (h : n < t.size) (hd : digB (bt t n) = true) (h0 : 0 < v) (hv : v * 10 + (bt t n - 48) ≤ 65535) : numGo t v n = numGo t (v * 10 + (bt t n - 48)) (n + 1) := by
  unfold numGo
  obtain ⟨f, hf⟩ : ∃ f, t.size - n = f + 1 := ⟨t.size - n - 1, by omega⟩
  rw [hf, show t.size - (n + 1) = f by omega, numF, if_pos ⟨h, hd, h0, hv⟩]
theorem numGo_stop {t : ByteArray} {v n : Nat} (h : ¬ (n < t.size ∧ digB (bt t n) = true ∧ 0 < v ∧ v * 10 + (bt t n - 48) ≤ 65535)) : numGo t v n = (v, n) := by
  unfold numGo
  cases t.size - n with
  | zero => rfl
  | succ f => rw [numF, if_neg h]
def numV (t : ByteArray) : Nat × Nat := numGo t (bt t 0 - 48) 1
theorem numGo_le (t : ByteArray) : ∀ k v n, t.size ≤ n + k → n ≤ t.size → n ≤ (numGo t v n).2 ∧ (numGo t v n).2 ≤ t.size ∧ (v ≤ 65535 → (numGo t v n).1 ≤ 65535)
  | 0, v, n, h, hn => by rw [numGo_stop (by omega)]; exact ⟨Nat.le_refl _, hn, fun h => h⟩
  | k + 1, v, n, h, hn => by
    by_cases hc : n < t.size ∧ digB (bt t n) = true ∧ 0 < v ∧ v * 10 + (bt t n - 48) ≤ 65535
    · rw [numGo_go hc.1 hc.2.1 hc.2.2.1 hc.2.2.2]
      have := numGo_le t k (v * 10 + (bt t n - 48)) (n + 1) (by omega) (by omega)
      exact ⟨by omega, this.2.1, fun _ => this.2.2 hc.2.2.2⟩
    · rw [numGo_stop hc]; exact ⟨Nat.le_refl _, hn, fun h => h⟩
theorem digB_iff {c : Nat} : digB c = true ↔ 48 ≤ c ∧ c ≤ 57 := by simp [digB]
theorem smallB_iff {c : Nat} : smallB c = true ↔ 97 ≤ c ∧ c ≤ 122 := by simp [smallB]
end Go.Proofs.YtncmabmpkdmpfaaDoor
