/- Texts of this claim, one behind the other. -/
import Derived.Test.YtbbnppcpjpdpaaaGreatDoorJoin
import Derived.Test.YtbbnppcpjpdpaaaGreatDoorM3
import Derived.Test.YtbbnppcpjpdpaaaGreatDoorM1
/- The words of the rules: plain mathematics of bytes. -/
namespace Go.Proofs.YtbbnppcpjpdpaaaGreatDoor
open Go.RowKit Go.Shelf
set_option linter.unusedVariables false
def blankB (c : Nat) : Bool := decide (c = 9 ∨ c = 10 ∨ c = 13 ∨ c = 32)
def smallB (c : Nat) : Bool := decide (97 ≤ c ∧ c ≤ 122)
def digB (c : Nat) : Bool := decide (48 ≤ c ∧ c ≤ 57)
def inNB (c : Nat) : Bool := smallB c || digB c || decide (c = 45)
def stkB (c : Nat) : Bool := inNB c || decide (65 ≤ c ∧ c ≤ 90) || decide (c = 95)
/-- The first place from n on, below hi, where p ends. -/
def scanF (p : Nat → Bool) : Nat → Nat → Nat
  | 0, n => n
  | f + 1, n => if p n = true then scanF p f (n + 1) else n
def scanTo (p : Nat → Bool) (hi n : Nat) : Nat := scanF p (hi - n) n
theorem scanTo_go {p : Nat → Bool} {hi n : Nat} (h : n < hi) (hp : p n = true) : scanTo p hi n = scanTo p hi (n + 1) := by
  unfold scanTo
  obtain ⟨f, hf⟩ : ∃ f, hi - n = f + 1 := ⟨hi - n - 1, by omega⟩
  rw [hf, show hi - (n + 1) = f by omega, scanF, if_pos hp]
theorem scanTo_end {p : Nat → Bool} {hi n : Nat} (h : ¬ n < hi) : scanTo p hi n = n := by
  unfold scanTo
  rw [show hi - n = 0 by omega]
  rfl
theorem scanTo_no {p : Nat → Bool} {hi n : Nat} (h : p n = false) : scanTo p hi n = n := by
  unfold scanTo
  cases hi - n with
  | zero => rfl
  | succ f => rw [scanF, if_neg (by rw [h]; decide)]
theorem scanTo_ge (p : Nat → Bool) (hi : Nat) : ∀ k n, hi ≤ n + k → n ≤ scanTo p hi n ∧ (n ≤ hi → scanTo p hi n ≤ hi)
  | 0, n, h => by rw [scanTo_end (by omega)]; exact ⟨Nat.le_refl _, fun h => h⟩
  | k + 1, n, h => by
    by_cases hn : n < hi
    · cases hp : p n with
      | true => have := scanTo_ge p hi k (n + 1) (by omega); rw [scanTo_go hn hp]; omega
      | false => rw [scanTo_no hp]; exact ⟨Nat.le_refl _, fun h => h⟩
    · rw [scanTo_end hn]; exact ⟨Nat.le_refl _, fun h => h⟩
theorem scanTo_le (p : Nat → Bool) {hi n : Nat} (h : n ≤ hi) : n ≤ scanTo p hi n ∧ scanTo p hi n ≤ hi := by have := scanTo_ge p hi (hi - n) n (by omega); exact ⟨this.1, this.2 h⟩
/-- How many bytes a name has at the beginning. -/
def nameLen (t : ByteArray) : Nat := if t.size = 0 ∨ smallB (bt t 0) = false then 0 else scanTo (fun n => inNB (bt t n)) (min t.size 32) 1
theorem nameLen_le (t : ByteArray) : nameLen t ≤ t.size ∧ nameLen t ≤ 32 := by
  unfold nameLen
  by_cases h : t.size = 0 ∨ smallB (bt t 0) = false
  · rw [if_pos h]; omega
  · rw [if_neg h]
    have := scanTo_le (fun n => inNB (bt t n)) (show 1 ≤ min t.size 32 by omega)
    omega
/-- A number's value and its bytes: from a value and a place on. -/
def numF (t : ByteArray) : Nat → Nat → Nat → Nat × Nat
  | 0, v, n => (v, n)
  | f + 1, v, n => if n < t.size ∧ digB (bt t n) = true ∧ 0 < v ∧ v * 10 + (bt t n - 48) ≤ 65535 then numF t f (v * 10 + (bt t n - 48)) (n + 1) else (v, n)
def numGo (t : ByteArray) (v n : Nat) : Nat × Nat := numF t (t.size - n) v n
theorem numGo_go {t : ByteArray} {v n : Nat} (h : n < t.size) (hd : digB (bt t n) = true) (h0 : 0 < v) (hv : v * 10 + (bt t n - 48) ≤ 65535) : numGo t v n = numGo t (v * 10 + (bt t n - 48)) (n + 1) := by
  unfold numGo
  obtain ⟨f, hf⟩ : ∃ f, t.size - n = f + 1 := ⟨t.size - n - 1, by omega⟩
  rw [hf, show t.size - (n + 1) = f by omega, numF, if_pos ⟨h, hd, h0, hv⟩]
theorem numGo_stop {t : ByteArray} {v n : Nat} (h : ¬ (n < t.size ∧ digB (bt t n) = true ∧ 0 < v ∧ v * 10 + (bt t n - 48) ≤ 65535)) : numGo t v n = (v, n) := by
  unfold numGo
  cases t.size - n with
  | zero => rfl
  | succ f => rw [numF, if_neg h]
def numV (t : ByteArray) : Nat × Nat := numGo t (bt t 0 - 48) 1
theorem numGo_le (t : ByteArray) : ∀ k v n, t.size ≤ n + k → n ≤ t.size → n ≤ (numGo t v n).2 ∧ (numGo t v n).2 ≤ t.size ∧ (v ≤ 65535 → (numGo t v n).1 ≤ 65535)
  | 0, v, n, h, hn => by rw [numGo_stop (by omega)]; exact ⟨Nat.le_refl _, hn, fun h => h⟩
  | k + 1, v, n, h, hn => by
    by_cases hc : n < t.size ∧ digB (bt t n) = true ∧ 0 < v ∧ v * 10 + (bt t n - 48) ≤ 65535
    · rw [numGo_go hc.1 hc.2.1 hc.2.2.1 hc.2.2.2]
      have := numGo_le t k (v * 10 + (bt t n - 48)) (n + 1) (by omega) (by omega)
      exact ⟨by omega, this.2.1, fun _ => this.2.2 hc.2.2.2⟩
    · rw [numGo_stop hc]; exact ⟨Nat.le_refl _, hn, fun h => h⟩
theorem digB_iff {c : Nat} : digB c = true ↔ 48 ≤ c ∧ c ≤ 57 := by simp [digB]
theorem smallB_iff {c : Nat} : smallB c = true ↔ 97 ≤ c ∧ c ≤ 122 := by simp [smallB]
end Go.Proofs.YtbbnppcpjpdpaaaGreatDoor
/- The small functions of scan. -/
namespace Go.Proofs.YtbbnppcpjpdpaaaGreatDoor
open Go.RowKit Go.Shelf
set_option linter.unusedVariables false
theorem ret_b {a b : Bool} (h : a = b) : Ending.returned (.bool a) = .returned (.bool b) := by rw [h]
theorem isBlank_any (c : Nat) (w : World) : Calls Tryz.prog 104 #[.int .u8 (c : Int)] w fun e w' => e = .returned (.bool (blankB c)) ∧ w' = w := by
  go_enter Tryz.func104, Tryz.ntmps104
  go_wp2
  all_goals (go_ret; refine ⟨ret_b ?_, rfl⟩; first | (unfold blankB; rw [Bool.eq_iff_iff]; simp; omega) | (unfold blankB; simp_all))
theorem isSmall_any (c : Nat) (w : World) : Calls Tryz.prog 61 #[.int .u8 (c : Int)] w fun e w' => e = .returned (.bool (smallB c)) ∧ w' = w := by
  go_enter Tryz.func61, Tryz.ntmps61
  go_wp2
  all_goals (go_ret; refine ⟨ret_b ?_, rfl⟩; first | (unfold smallB; rw [Bool.eq_iff_iff]; simp; omega) | (unfold smallB; simp_all))
theorem isDigit_any (c : Nat) (w : World) : Calls Tryz.prog 72 #[.int .u8 (c : Int)] w fun e w' => e = .returned (.bool (digB c)) ∧ w' = w := by
  go_enter Tryz.func72, Tryz.ntmps72
  go_wp2
  all_goals (go_ret; refine ⟨ret_b ?_, rfl⟩; first | (unfold digB; rw [Bool.eq_iff_iff]; simp; omega) | (unfold digB; simp_all))
theorem inName_any (c : Nat) (w : World) : Calls Tryz.prog 62 #[.int .u8 (c : Int)] w fun e w' => e = .returned (.bool (inNB c)) ∧ w' = w := by
  go_enter Tryz.func62, Tryz.ntmps62
  go_wp2_with (first | (go_at_call 61; refine (isSmall_any c _).mono ?_; rintro e w' ⟨rfl, rfl⟩) | (go_at_call 72; refine (isDigit_any c _).mono ?_; rintro e w' ⟨rfl, rfl⟩))
  all_goals (go_ret; refine ⟨ret_b ?_, rfl⟩; first | (unfold inNB; rw [Bool.eq_iff_iff]; simp; omega) | (unfold inNB; simp_all; done) | (unfold inNB; simp_all; rw [Bool.eq_iff_iff]; simp; omega))
theorem sticks_any (c : Nat) (w : World) : Calls Tryz.prog 77 #[.int .u8 (c : Int)] w fun e w' => e = .returned (.bool (stkB c)) ∧ w' = w := by
  go_enter Tryz.func77, Tryz.ntmps77
  go_wp2_with (go_at_call 62; refine (inName_any c _).mono ?_; rintro e w' ⟨rfl, rfl⟩)
  all_goals (go_ret; refine ⟨ret_b ?_, rfl⟩; first | (unfold stkB; rw [Bool.eq_iff_iff]; simp; omega) | (unfold stkB; simp_all; done) | (unfold stkB; simp_all; rw [Bool.eq_iff_iff]; simp; omega))
end Go.Proofs.YtbbnppcpjpdpaaaGreatDoor
/- Plain facts on the reference's way to read a sequence by its bytes, and that it reads what the decoding reads; no program is named here. -/
namespace Go.Proofs.YtbbnppcpjpdpaaaGreatDoor
open Go.Lib (decode_at)
set_option linter.unusedVariables false

def secOf (c : Nat) : Nat × Nat :=
  if c < 194 then (0, 0) else if c < 224 then (128, 191) else if c = 224 then (160, 191) else if c < 237 then (128, 191) else if c = 237 then (128, 159) else if c < 240 then (128, 191)
  else if c = 240 then (144, 191) else if c < 244 then (128, 191) else if c = 244 then (128, 143) else (0, 0)

theorem secOf_cases (c : Nat) (h : (secOf c).1 ≠ 0) : (194 ≤ c ∧ c < 224 ∧ secOf c = (128, 191)) ∨ (c = 224 ∧ secOf c = (160, 191)) ∨ (((225 ≤ c ∧ c < 237) ∨ (238 ≤ c ∧ c < 240)) ∧ secOf c = (128, 191)) ∨ (c = 237 ∧ secOf c = (128, 159)) ∨
    (c = 240 ∧ secOf c = (144, 191)) ∨ (241 ≤ c ∧ c < 244 ∧ secOf c = (128, 191)) ∨ (c = 244 ∧ secOf c = (128, 143)) := by
  unfold secOf at h ⊢
  repeat' split at h
  all_goals simp_all
  all_goals omega

/-- How many bytes a sequence has that begins with b0. -/
def szOf (b0 : Nat) : Nat := if b0 < 224 then 2 else if b0 < 240 then 3 else 4
theorem szOf_cases (b0 : Nat) : szOf b0 = 2 ∨ szOf b0 = 3 ∨ szOf b0 = 4 := by
  unfold szOf
  repeat' split
  all_goals simp
/-- What the leading byte says of the rune. -/
def leadOf (b0 : Nat) : Nat := if b0 < 224 then b0 % 32 else if b0 < 240 then b0 % 16 else b0 % 8
/-- The rune's bits up to byte k - 1. -/
def accOf (t : ByteArray) : Nat → Nat
  | 0 => 0
  | 1 => leadOf (bt t 0)
  | k + 2 => accOf t (k + 1) * 64 + bt t (k + 1) % 64

theorem acc_step (t : ByteArray) (k : Nat) (h : 1 ≤ k) : accOf t (k + 1) = accOf t k * 64 + bt t k % 64 := by
  obtain ⟨j, rfl⟩ : ∃ j, k = j + 1 := ⟨k - 1, by omega⟩
  rfl

/-- What Sequence answers. -/
def seqV (t : ByteArray) : Int × Int := if t.size = 0 ∨ (rn t 0 = 65533 ∧ wd t 0 = 1) then (0, 0) else (wd t 0, rn t 0)
abbrev seqR (x : Int × Int) : Value := .tuple #[.int .i64 x.1, .int .i32 x.2]

theorem bt_get (t : ByteArray) (k : Nat) (h : k < t.size) : bt t k = (t[k]'h).toNat := by unfold bt; rw [get_lt t k h]; rfl

theorem seqV_ascii (t : ByteArray) (h : 0 < t.size) (hb : bt t 0 < 128) : seqV t = (1, (bt t 0 : Int)) := by
  have e : Utf8.decode t 0 = (bt t 0, 1) := by rw [decode_at]; unfold Lib.decodeN; rw [if_pos hb]
  unfold seqV
  rw [if_neg (by simp only [rn, wd, e]; omega)]
  simp only [rn, wd, e]
  rfl
theorem seqV_of (t : ByteArray) (h : 0 < t.size) (hb : 128 ≤ bt t 0) (x : Nat × Nat) (e : Lib.decodeN (t.size - 0) (bt t 0) (bt t 1) (bt t 2) (bt t 3) = x) : seqV t = if x.1 = 65533 ∧ x.2 = 1 then (0, 0) else ((x.2 : Int), (x.1 : Int)) := by
  have e' : Utf8.decode t 0 = x := by rw [decode_at]; exact e
  unfold seqV
  simp only [rn, wd, e']
  have : ¬ t.size = 0 := by omega
  simp only [this, false_or]
theorem decodeN_none (n b0 b1 b2 b3 : Nat) (h : 128 ≤ b0) (h0 : b0 < 256) (hs : (secOf b0).1 = 0) : Lib.decodeN n b0 b1 b2 b3 = (65533, 1) := by
  have hc : b0 < 194 ∨ 245 ≤ b0 := by
    unfold secOf at hs
    repeat' split at hs
    all_goals simp at hs
    all_goals omega
  unfold Lib.decodeN
  repeat' split
  all_goals first | rfl | (exfalso; omega)
theorem decodeN_slow (n b0 b1 b2 b3 : Nat) (hn : 1 ≤ n) (h1 : b1 < 256) (h2 : b2 < 256) (h3 : b3 < 256) (hs : (secOf b0).1 ≠ 0) :
    Lib.decodeN n b0 b1 b2 b3 = Lib.slowN n b0 b1 b2 b3 (szOf b0) (secOf b0).1 (secOf b0).2 := by
  rcases secOf_cases b0 hs with ⟨a, b, e⟩ | ⟨a, e⟩ | ⟨a, e⟩ | ⟨a, e⟩ | ⟨a, e⟩ | ⟨a, b, e⟩ | ⟨a, e⟩
  · rw [e, show szOf b0 = 2 by unfold szOf; rw [if_pos (by omega)]]; exact (Lib.slow_C2 n b0 b1 b2 b3 hn h1 h2 h3 (by omega)).symm
  · rw [e, show szOf b0 = 3 by unfold szOf; rw [if_neg (by omega), if_pos (by omega)]]; exact (Lib.slow_E0 n b0 b1 b2 b3 hn h1 h2 h3 (by omega)).symm
  · rw [e, show szOf b0 = 3 by unfold szOf; rw [if_neg (by omega), if_pos (by omega)]]; exact (Lib.slow_E1 n b0 b1 b2 b3 hn h1 h2 h3 (by omega)).symm
  · rw [e, show szOf b0 = 3 by unfold szOf; rw [if_neg (by omega), if_pos (by omega)]]; exact (Lib.slow_ED n b0 b1 b2 b3 hn h1 h2 h3 (by omega)).symm
  · rw [e, show szOf b0 = 4 by unfold szOf; rw [if_neg (by omega), if_neg (by omega)]]; exact (Lib.slow_F0 n b0 b1 b2 b3 hn h1 h2 h3 (by omega)).symm
  · rw [e, show szOf b0 = 4 by unfold szOf; rw [if_neg (by omega), if_neg (by omega)]]; exact (Lib.slow_F1 n b0 b1 b2 b3 hn h1 h2 h3 (by omega)).symm
  · rw [e, show szOf b0 = 4 by unfold szOf; rw [if_neg (by omega), if_neg (by omega)]]; exact (Lib.slow_F4 n b0 b1 b2 b3 hn h1 h2 h3 (by omega)).symm
/-- The bytes of a sequence from the second one on up to k - 1 are right. -/
def Goes (t : ByteArray) (k : Nat) : Prop := ∀ j, 1 ≤ j → j < k → j < t.size ∧ 128 ≤ bt t j ∧ bt t j ≤ 191

theorem seqV_none (t : ByteArray) (h : 0 < t.size) (hb : 128 ≤ bt t 0) (hs : (secOf (bt t 0)).1 = 0) : seqV t = (0, 0) := by
  rw [seqV_of t h hb _ (decodeN_none _ _ _ _ _ hb (bt_lt t 0) hs), if_pos ⟨rfl, rfl⟩]
theorem seqV_bad (t : ByteArray) (h : 0 < t.size) (hb : 128 ≤ bt t 0) (hs : (secOf (bt t 0)).1 ≠ 0)
    (hx : t.size < 2 ∨ bt t 1 < (secOf (bt t 0)).1 ∨ (secOf (bt t 0)).2 < bt t 1 ∨ ∃ k, 1 ≤ k ∧ k < szOf (bt t 0) ∧ (t.size ≤ k ∨ bt t k < 128 ∨ 191 < bt t k)) : seqV t = (0, 0) := by
  rw [seqV_of t h hb _ (decodeN_slow _ _ _ _ _ (by omega) (bt_lt t _) (bt_lt t _) (bt_lt t _) hs)]
  have hz : szOf (bt t 0) = 2 ∨ szOf (bt t 0) = 3 ∨ szOf (bt t 0) = 4 := szOf_cases _
  have hlo : 128 ≤ (secOf (bt t 0)).1 ∧ (secOf (bt t 0)).2 ≤ 191 := by
    rcases secOf_cases _ hs with ⟨a, b, e⟩ | ⟨a, e⟩ | ⟨a, e⟩ | ⟨a, e⟩ | ⟨a, e⟩ | ⟨a, b, e⟩ | ⟨a, e⟩ <;> rw [e] <;> simp
  have : Lib.slowN (t.size - 0) (bt t 0) (bt t 1) (bt t 2) (bt t 3) (szOf (bt t 0)) (secOf (bt t 0)).1 (secOf (bt t 0)).2 = (65533, 1) := by
    generalize (secOf (bt t 0)).1 = lo at *
    generalize (secOf (bt t 0)).2 = hi at *
    generalize szOf (bt t 0) = z at *
    have hx' : t.size < 2 ∨ bt t 1 < lo ∨ hi < bt t 1 ∨ (t.size < z) ∨ (3 ≤ z ∧ (bt t 2 < 128 ∨ 191 < bt t 2)) ∨ (4 ≤ z ∧ (bt t 3 < 128 ∨ 191 < bt t 3)) := by
      rcases hx with h | h | h | ⟨k, h1, h2, h3⟩
      · exact .inl h
      · exact .inr (.inl h)
      · exact .inr (.inr (.inl h))
      · rcases h3 with h3 | h3
        · exact .inr (.inr (.inr (.inl (by omega))))
        · have hk : k = 1 ∨ k = 2 ∨ k = 3 := by omega
          rcases hk with rfl | rfl | rfl
          · omega
          · exact .inr (.inr (.inr (.inr (.inl ⟨by omega, h3⟩))))
          · exact .inr (.inr (.inr (.inr (.inr ⟨by omega, h3⟩))))
    clear hx
    unfold Lib.slowN
    repeat' split
    all_goals first | rfl | (exfalso; omega)
  rw [this, if_pos ⟨rfl, rfl⟩]
theorem seqV_good (t : ByteArray) (h : 0 < t.size) (hb : 128 ≤ bt t 0) (hs : (secOf (bt t 0)).1 ≠ 0) (h1 : (secOf (bt t 0)).1 ≤ bt t 1) (h2 : bt t 1 ≤ (secOf (bt t 0)).2) (hg : Goes t (szOf (bt t 0))) :
    seqV t = ((szOf (bt t 0) : Int), (accOf t (szOf (bt t 0)) : Int)) := by
  rw [seqV_of t h hb _ (decodeN_slow _ _ _ _ _ (by omega) (bt_lt t _) (bt_lt t _) (bt_lt t _) hs)]
  have hz : (szOf (bt t 0) = 2 ∧ leadOf (bt t 0) = bt t 0 % 32) ∨ (szOf (bt t 0) = 3 ∧ leadOf (bt t 0) = bt t 0 % 16) ∨ (szOf (bt t 0) = 4 ∧ leadOf (bt t 0) = bt t 0 % 8) := by
    unfold szOf leadOf; repeat' split
    all_goals simp
  generalize (secOf (bt t 0)).1 = lo at *
  generalize (secOf (bt t 0)).2 = hi at *
  rcases hz with ⟨e, l⟩ | ⟨e, l⟩ | ⟨e, l⟩
  · have g1 := hg 1 (by omega) (by omega)
    rw [e]
    have : Lib.slowN (t.size - 0) (bt t 0) (bt t 1) (bt t 2) (bt t 3) 2 lo hi = (bt t 0 % 32 * 64 + bt t 1 % 64, 2) := by
      unfold Lib.slowN
      repeat' split
      all_goals first | (exfalso; omega) | rfl
    rw [this, if_neg (by simp), show accOf t 2 = leadOf (bt t 0) * 64 + bt t 1 % 64 from rfl, l]
  · have g1 := hg 1 (by omega) (by omega)
    have g2 := hg 2 (by omega) (by omega)
    rw [e]
    have : Lib.slowN (t.size - 0) (bt t 0) (bt t 1) (bt t 2) (bt t 3) 3 lo hi = (bt t 0 % 16 * 4096 + bt t 1 % 64 * 64 + bt t 2 % 64, 3) := by
      unfold Lib.slowN
      repeat' split
      all_goals first | (exfalso; omega) | rfl
    rw [this, if_neg (by simp), show accOf t 3 = (leadOf (bt t 0) * 64 + bt t 1 % 64) * 64 + bt t 2 % 64 from rfl, l]
    rw [Prod.mk.injEq]
    exact ⟨rfl, by omega⟩
  · have g1 := hg 1 (by omega) (by omega)
    have g2 := hg 2 (by omega) (by omega)
    have g3 := hg 3 (by omega) (by omega)
    rw [e]
    have : Lib.slowN (t.size - 0) (bt t 0) (bt t 1) (bt t 2) (bt t 3) 4 lo hi = (bt t 0 % 8 * 262144 + bt t 1 % 64 * 4096 + bt t 2 % 64 * 64 + bt t 3 % 64, 4) := by
      unfold Lib.slowN
      repeat' split
      all_goals first | (exfalso; omega) | rfl
    rw [this, if_neg (by simp), show accOf t 4 = ((leadOf (bt t 0) * 64 + bt t 1 % 64) * 64 + bt t 2 % 64) * 64 + bt t 3 % 64 from rfl, l]
    rw [Prod.mk.injEq]
    exact ⟨rfl, by omega⟩
end Go.Proofs.YtbbnppcpjpdpaaaGreatDoor
/- named: how many bytes the name has with which a text begins. -/
namespace Go.Proofs.YtbbnppcpjpdpaaaGreatDoor
open Go.RowKit Go.Shelf
set_option linter.unusedVariables false
theorem ret_i {k : IntKind} {a b : Int} (h : a = b) : Ending.returned (.int k a) = .returned (.int k b) := by rw [h]
theorem toList_nil (t : ByteArray) (h : t.size = 0) : t = ByteArray.empty := by
  apply ByteArray.ext
  apply Array.eq_empty_of_size_eq_zero
  exact h
theorem toList_ne (t : ByteArray) (h : 0 < t.size) : ¬ t.toList = [] := fun e => by
  have := congrArg List.length e
  rw [ByteArray.toList_eq, Array.length_toList] at this
  have h2 : t.data.size = 0 := this
  have h3 : t.size = t.data.size := rfl
  omega
set_option maxRecDepth 100000 in
set_option maxHeartbeats 2000000 in
theorem named_any (t : ByteArray) (ht : t.size ≤ maxLen) (w : World) : Calls Tryz.prog 38 #[.string t] w fun e w' => e = .returned (.int .i64 (nameLen t)) ∧ w' = w := by
  unfold maxLen at ht
  by_cases h0 : t.size = 0
  · obtain rfl := toList_nil t h0
    go_enter Tryz.func38, Tryz.ntmps38
    go_wp2
    go_ret
    exact ⟨rfl, rfl⟩
  · have hp : 0 < t.size := by omega
    have hb0 := bt_get t 0 hp
    have hne := toList_ne t hp
    have hne' : (t.toList == []) = false := by simpa using hne
    cases hsm : smallB (bt t 0) with
    | false =>
      have hv : nameLen t = 0 := by unfold nameLen; rw [if_pos (.inr hsm)]
      rw [hb0] at hsm
      clear hb0
      go_enter Tryz.func38, Tryz.ntmps38
      go_wp2_with (go_at_call 61; refine (isSmall_any _ _).mono ?_; rintro e w' ⟨rfl, rfl⟩)
      go_ret
      exact ⟨ret_i (by rw [hv]; rfl), rfl⟩
    | true =>
      have hv : nameLen t = scanTo (fun n => inNB (bt t n)) (min t.size 32) 1 := by unfold nameLen; rw [if_neg (fun q => q.elim h0 (fun q2 => by rw [hsm] at q2; cases q2))]
      rw [hb0] at hsm
      clear hb0
      have HV := hide hv
      clear hv
      go_enter Tryz.func38, Tryz.ntmps38
      go_wp2_with (go_at_call 61; refine (isSmall_any _ _).mono ?_; rintro e w' ⟨rfl, rfl⟩)
      go_loop [3] (fun i => ∃ k : Nat, 1 ≤ k ∧ k ≤ min t.size 32 ∧ i = .int .i64 k ∧ Hz (nameLen t = scanTo (fun n => inNB (bt t n)) (min t.size 32) k)) (fun i => t.size - (intOf i).toNat)
      case atStart => exact ⟨1, by omega, by omega, rfl, HV⟩
      case round =>
        obtain ⟨k, hk1, hk2, rfl, HK⟩ := hrel
        clear hne hne' hsm HV
        by_cases hkt : k < t.size
        · have hkt' : (k : Int) < (t.size : Int) := by omega
          have hi2 : ((k : Nat) : Int).toNat = k := by omega
          have hbk := bt_get t k hkt
          by_cases hk32 : k < 32
          · have hk32' : (k : Int) < 32 := by omega
            cases hin : inNB (bt t k) with
            | true =>
              have HN := hide (scanTo_go (p := fun n => inNB (bt t n)) (hi := min t.size 32) (n := k) (by omega) hin)
              rw [hbk] at hin
              clear hbk
              go_wp2_with (go_at_call 62; refine (inName_any _ _).mono ?_; rintro e w' ⟨rfl, rfl⟩)
              go_round
              case rel => exact ⟨k + 1, by omega, by omega, by go_num, hide ((unhide HK).trans (unhide HN))⟩
              case measure => simp [intOf]; omega
            | false =>
              have HN := hide (scanTo_no (p := fun n => inNB (bt t n)) (hi := min t.size 32) (n := k) hin)
              rw [hbk] at hin
              clear hbk
              go_wp2_with (go_at_call 62; refine (inName_any _ _).mono ?_; rintro e w' ⟨rfl, rfl⟩)
              go_ret
              exact ⟨ret_i (by rw [unhide HK, unhide HN]), rfl⟩
          · have hk32' : ¬ (k : Int) < 32 := by omega
            have HN := hide (scanTo_end (p := fun n => inNB (bt t n)) (hi := min t.size 32) (n := k) (by omega))
            clear hbk
            go_wp2_with (go_at_call 62; refine (inName_any _ _).mono ?_; rintro e w' ⟨rfl, rfl⟩)
            go_ret
            exact ⟨ret_i (by rw [unhide HK, unhide HN]), rfl⟩
        · have hkt' : ¬ (k : Int) < (t.size : Int) := by omega
          have HN := hide (scanTo_end (p := fun n => inNB (bt t n)) (hi := min t.size 32) (n := k) (by omega))
          go_wp2_with (go_at_call 62; refine (inName_any _ _).mono ?_; rintro e w' ⟨rfl, rfl⟩)
          go_ret
          exact ⟨ret_i (by rw [unhide HK, unhide HN]), rfl⟩
end Go.Proofs.YtbbnppcpjpdpaaaGreatDoor
