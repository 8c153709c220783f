/- What a number that was read keeps to. -/
import Derived.Test.YthjndkjbjflmfaaBtF
namespace Go.Proofs.Ythjndkjbjflmfaa
set_option linter.unusedVariables false
theorem rdN_ok {p : Pm} (hp : rightP p) {bias h n nx : Int} {a : ByteArray} : ∀ (f j : Nat) (k v w : Int), 0 ≤ v → 0 ≤ w → j ≤ a.size →
    (rdN p bias h n nx a f j k v w).2.1 ≤ a.size ∧ ((rdN p bias h n nx a f j k v w).2.2 = 0 → j ≤ (rdN p bias h n nx a f j k v w).2.1 ∧ (rdN p bias h n nx a f j k v w).2.1 < a.size ∧ 0 ≤ (rdN p bias h n nx a f j k v w).1 ∧ ¬ 1114111 - n < ((rdN p bias h n nx a f j k v w).1 + nx) / (h + 1)) ∧ ((rdN p bias h n nx a f j k v w).2.2 ≠ 0 → (rdN p bias h n nx a f j k v w).1 = 0)
  | 0, j, k, v, w, hv, hw, hj => ⟨Nat.le_refl _, fun e => absurd e (show ¬ (_ : Int) = 0 from by intro h; cases h), fun _ => rfl⟩
  | f + 1, j, k, v, w, hv, hw, hj => by
    by_cases h1 : a.size ≤ j
    · rw [rdN_end h1]; exact ⟨Nat.le_refl _, fun e => absurd e (show ¬ (_ : Int) = 0 from by intro h; cases h), fun _ => rfl⟩
    by_cases h2 : digV p.B (bt a j) < 0
    · rw [rdN_dig h1 h2]; exact ⟨hj, fun e => absurd e (show ¬ (_ : Int) = 0 from by intro h; cases h), fun _ => rfl⟩
    have hd := Int.mul_nonneg (show 0 ≤ digV p.B (bt a j) by omega) hw
    by_cases h3 : 1114111 - n < (v + digV p.B (bt a j) * w + nx) / (h + 1)
    · rw [rdN_over h1 h2 h3]; exact ⟨hj, fun e => absurd e (show ¬ (_ : Int) = 0 from by intro h; cases h), fun _ => rfl⟩
    by_cases h4 : digV p.B (bt a j) < thr p bias k
    · rw [rdN_last h1 h2 h3 h4]
      exact ⟨hj, fun _ => ⟨Nat.le_refl _, by show j < a.size; omega, by show 0 ≤ v + _; omega, h3⟩, fun e => absurd rfl e⟩
    rw [rdN_next h1 h2 h3 h4]
    have ht := thr_le p bias k
    have hB := hp.2.2.2.2.1
    have hw2 : 0 ≤ w * (p.B - thr p bias k) := Int.mul_nonneg hw (by omega)
    have := rdN_ok hp (bias := bias) (h := h) (n := n) (nx := nx) (a := a) f (j + 1) (k + 1) (v + digV p.B (bt a j) * w) (w * (p.B - thr p bias k)) (by omega) hw2 (by omega)
    exact ⟨this.1, fun e => ⟨by have := (this.2.1 e).1; omega, (this.2.1 e).2⟩, this.2.2⟩
theorem layF_end {p : Pm} {a : ByteArray} {f : Nat} {l : List Int} {j : Nat} {bias d n nx : Int} (hj : a.size ≤ j) : layF p a f l j bias d n nx = (l, 0, 0) := by
  cases f with
  | zero => rfl
  | succ f => unfold layF; rw [if_pos hj]
theorem layF_many {p : Pm} {a : ByteArray} {f : Nat} {l : List Int} {j : Nat} {bias d n nx : Int} (hj : ¬ a.size ≤ j) (hl : l.length = 4096) : layF p a (f + 1) l j bias d n nx = ([], j, 4) := by
  unfold layF; rw [if_neg hj, if_pos hl]
theorem layF_bad {p : Pm} {a : ByteArray} {f : Nat} {l : List Int} {j : Nat} {bias d n nx : Int} (hj : ¬ a.size ≤ j) (hl : ¬ l.length = 4096) {r : Int × Nat × Int} (hr : rdN p bias l.length n nx a (a.size - j) j 1 0 1 = r) (he : r.2.2 ≠ 0) : layF p a (f + 1) l j bias d n nx = ([], r.2.1, r.2.2) := by
  unfold layF; rw [if_neg hj, if_neg hl, hr]; dsimp only; rw [if_pos he]
theorem layF_rune {p : Pm} {a : ByteArray} {f : Nat} {l : List Int} {j : Nat} {bias d n nx : Int} (hj : ¬ a.size ≤ j) (hl : ¬ l.length = 4096) {r : Int × Nat × Int} (hr : rdN p bias l.length n nx a (a.size - j) j 1 0 1 = r) (he : r.2.2 = 0) (hw : widthOf (n + (r.1 + nx) / ((l.length : Int) + 1)) = 0) : layF p a (f + 1) l j bias d n nx = ([], r.2.1, 12) := by
  unfold layF; rw [if_neg hj, if_neg hl, hr]; dsimp only; rw [if_neg (fun h => h he), if_pos hw]
theorem layF_next {p : Pm} {a : ByteArray} {f : Nat} {l : List Int} {j : Nat} {bias d n nx : Int} (hj : ¬ a.size ≤ j) (hl : ¬ l.length = 4096) {r : Int × Nat × Int} (hr : rdN p bias l.length n nx a (a.size - j) j 1 0 1 = r) (he : r.2.2 = 0) {z : Int} (hz : n + (r.1 + nx) / ((l.length : Int) + 1) = z) (hw : ¬ widthOf z = 0) {i : Nat} (hi : (r.1 + nx) % ((l.length : Int) + 1) = (i : Int)) : layF p a (f + 1) l j bias d n nx = layF p a f (l.take i ++ z :: l.drop i) (r.2.1 + 1) (adp p r.1 ((l.length : Int) + 1) d) 2 z ((i : Int) + 1) := by
  rw [layF]; rw [if_neg hj, if_neg hl, hr]; dsimp only; rw [if_neg (fun h => h he), hz, if_neg hw, hi, Int.toNat_natCast]
end Go.Proofs.Ythjndkjbjflmfaa
