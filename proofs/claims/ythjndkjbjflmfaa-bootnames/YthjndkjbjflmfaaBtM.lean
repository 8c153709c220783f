/- The numbers of a bootstring, as chapter 17 reckons them: no program is named here. -/
import Derived.Test.YthjndkjbjflmfaaMath
namespace Go.Proofs.Ythjndkjbjflmfaa
set_option linter.unusedVariables false

/-- How numbers are written. -/
structure Pm where
  (B lo hi sk da bi fi : Int)
/-- May these be? -/
def rightP (p : Pm) : Prop := 3 ≤ p.B ∧ p.B ≤ 36 ∧ 1 ≤ p.lo ∧ p.lo ≤ p.hi ∧ p.hi ≤ p.B - 2 ∧ 1 ≤ p.sk ∧ p.sk ≤ 1000 ∧ 2 ≤ p.da ∧ p.da ≤ 10000 ∧ 0 ≤ p.bi ∧ p.bi ≤ 1000 ∧ 128 ≤ p.fi ∧ widthOf p.fi ≠ 0
def rightB (p : Pm) : Bool := (decide (3 ≤ p.B) && decide (p.B ≤ 36)) && decide (1 ≤ p.lo) && (decide (p.lo ≤ p.hi) && decide (p.hi ≤ p.B - 2)) && (decide (1 ≤ p.sk) && decide (p.sk ≤ 1000)) && (decide (2 ≤ p.da) && decide (p.da ≤ 10000)) && (decide (0 ≤ p.bi) && decide (p.bi ≤ 1000)) && decide (128 ≤ p.fi) && !(widthOf p.fi == 0)
theorem rightB_iff (p : Pm) : rightB p = true ↔ rightP p := by
  unfold rightB rightP
  simp only [Bool.and_eq_true, decide_eq_true_eq, Bool.not_eq_true', beq_eq_false_iff_ne, ne_eq, and_assoc]
/-- The threshold of the k-th digit. -/
def thr (p : Pm) (bias k : Int) : Int := min (max (k * p.B - bias) p.lo) p.hi
theorem thr_ge {p : Pm} (h : p.lo ≤ p.hi) (b k : Int) : p.lo ≤ thr p b k := by unfold thr; omega
theorem thr_le (p : Pm) (b k : Int) : thr p b k ≤ p.hi := by unfold thr; omega
/-- A number is divided as long as it is above a bound; how often. -/
def divs (by' lim : Int) : Nat → Int → Int → Int × Int
  | 0, x, m => (x, m)
  | f + 1, x, m => if lim < x then divs by' lim f (x / by') (m + 1) else (x, m)
theorem divs_m (b l : Int) : ∀ f x m, m ≤ (divs b l f x m).2 ∧ (divs b l f x m).2 ≤ m + f
  | 0, x, m => ⟨Int.le_refl _, by simp [divs]⟩
  | f + 1, x, m => by
    unfold divs
    split
    · have := divs_m b l f (x / b) (m + 1); omega
    · exact ⟨Int.le_refl _, by show m ≤ _; omega⟩
theorem divs_x {b : Int} (hb : 1 ≤ b) (l : Int) : ∀ f x m, 0 ≤ x → 0 ≤ (divs b l f x m).1
  | 0, x, m, h => h
  | f + 1, x, m, h => by
    unfold divs
    split
    · exact divs_x hb l f _ _ (Int.ediv_nonneg h (by omega))
    · exact h
theorem half_lt {b x N : Int} (hb : 2 ≤ b) (hx : 0 ≤ x) (h : x < 2 * N) : x / b < N := by
  apply Int.ediv_lt_of_lt_mul (by omega)
  have h0 : 0 < N := by omega
  have : 2 * N ≤ N * b := by rw [Int.mul_comm 2 N]; exact Int.mul_le_mul_of_nonneg_left hb (by omega)
  omega
theorem divs_le {b l : Int} (hb : 2 ≤ b) (hl : 0 ≤ l) : ∀ f x m, 0 ≤ x → x < 2 ^ f → (divs b l f x m).1 ≤ l
  | 0, x, m, h, k => by simp at k; show x ≤ l; omega
  | f + 1, x, m, h, k => by
    unfold divs
    split
    · exact divs_le hb hl f _ _ (Int.ediv_nonneg h (by omega)) (half_lt hb h (by rw [Int.pow_succ] at k; omega))
    · omega
/-- The bias behind a number: h runes are laid down then. -/
def adp (p : Pm) (v h d : Int) : Int :=
  let x := v / d + v / d / h
  let q := divs (p.B - p.lo) ((p.B - p.lo) * p.hi / 2) 64 x 0
  q.2 * p.B + (p.B - p.lo + 1) * q.1 / (q.1 + p.sk)
theorem adp_in {p : Pm} (hp : rightP p) {v h d : Int} (hv : 0 ≤ v) (hv2 : v < 2 ^ 60) (hh : 1 ≤ h) (hd : 1 ≤ d) : 0 ≤ adp p v h d ∧ adp p v h d ≤ 4000 := by
  obtain ⟨a1, a2, a3, a4, a5, a6, a7, a8⟩ := hp
  unfold adp
  have x0 : 0 ≤ v / d := Int.ediv_nonneg hv (by omega)
  have x1 : 0 ≤ v / d / h := Int.ediv_nonneg x0 (by omega)
  have x2 : v / d ≤ v := Int.ediv_le_self d hv
  have x3 : v / d / h ≤ v / d := Int.ediv_le_self h x0
  have hx : 0 ≤ v / d + v / d / h := by omega
  have q1 := divs_m (p.B - p.lo) ((p.B - p.lo) * p.hi / 2) 64 (v / d + v / d / h) 0
  have q2 := divs_x (b := p.B - p.lo) (by omega) ((p.B - p.lo) * p.hi / 2) 64 (v / d + v / d / h) 0 hx
  dsimp only
  generalize divs (p.B - p.lo) ((p.B - p.lo) * p.hi / 2) 64 (v / d + v / d / h) 0 = q at *
  have m1 : 0 ≤ q.2 * p.B := Int.mul_nonneg (by omega) (by omega)
  have m2 : q.2 * p.B ≤ 64 * 36 := Int.mul_le_mul (by omega) (by omega) (by omega) (by omega)
  have m3 : 0 ≤ (p.B - p.lo + 1) * q.1 := Int.mul_nonneg (by omega) q2
  have m4 : 0 ≤ (p.B - p.lo + 1) * q.1 / (q.1 + p.sk) := Int.ediv_nonneg m3 (by omega)
  have m5 : (p.B - p.lo + 1) * q.1 / (q.1 + p.sk) ≤ p.B - p.lo + 1 := by
    apply Int.ediv_le_of_le_mul (by omega)
    exact Int.mul_le_mul_of_nonneg_left (by omega) (by omega)
  omega
/-- What a byte is worth as a digit; -1: it is none. -/
def digV (B : Int) (c : Nat) : Int :=
  if 97 ≤ c ∧ c ≤ 122 ∧ (c : Int) - 97 < B then (c : Int) - 97 else if 48 ≤ c ∧ c ≤ 57 ∧ (c : Int) - 22 < B then (c : Int) - 22 else -1
theorem digV_in (B : Int) (c : Nat) : -1 ≤ digV B c ∧ digV B c ≤ 35 ∧ (0 ≤ B → digV B c < B) := by unfold digV; repeat' split <;> omega
/-- A number read from a byte on: it, the byte of its last digit, 0; or the byte that may not be, and why. -/
def rdN (p : Pm) (bias h n nx : Int) (a : ByteArray) : Nat → Nat → Int → Int → Int → Int × Nat × Int
  | 0, at', k, v, w => (0, a.size, 21)
  | f + 1, at', k, v, w =>
    if a.size ≤ at' then (0, a.size, 21) else
    if digV p.B (bt a at') < 0 then (0, at', 50) else
    if 1114111 - n < (v + digV p.B (bt a at') * w + nx) / (h + 1) then (0, at', 51) else
    if digV p.B (bt a at') < thr p bias k then (v + digV p.B (bt a at') * w, at', 0) else
    rdN p bias h n nx a f (at' + 1) (k + 1) (v + digV p.B (bt a at') * w) (w * (p.B - thr p bias k))
/-- What is told of the runes that the numbers of a say, from a byte on: h basic ones are laid down. -/
def layF (p : Pm) (a : ByteArray) : Nat → List Int → Nat → Int → Int → Int → Int → List Int × Nat × Int
  | 0, l, at', bias, d, n, nx => (l, 0, 0)
  | f + 1, l, at', bias, d, n, nx =>
    if a.size ≤ at' then (l, 0, 0) else
    if l.length = 4096 then ([], at', 4) else
    let r := rdN p bias l.length n nx a (a.size - at') at' 1 0 1
    if r.2.2 ≠ 0 then ([], r.2.1, r.2.2) else
    let q := r.1 + nx
    let z := n + q / (l.length + 1)
    let i := (q % (l.length + 1)).toNat
    if widthOf z = 0 then ([], r.2.1, 12) else
    layF p a f (l.take i ++ z :: l.drop i) (r.2.1 + 1) (adp p r.1 (l.length + 1) d) 2 z (i + 1)
end Go.Proofs.Ythjndkjbjflmfaa
