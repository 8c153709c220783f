/- Plain facts on the reference's way to read a sequence by its bytes, and that it reads what the decoding reads; no program is named here. -/
import Derived.Test.YthjndkjbjflmfaaMath
namespace Go.Proofs.Ythjndkjbjflmfaa
open Go.Lib (decode_at)
set_option linter.unusedVariables false

def secOf (c : Nat) : Nat × Nat :=
  if c < 194 then (0, 0) else if c < 224 then (128, 191) else if c = 224 then (160, 191) else if c < 237 then (128, 191) else if c = 237 then (128, 159) else if c < 240 then (128, 191)
  else if c = 240 then (144, 191) else if c < 244 then (128, 191) else if c = 244 then (128, 143) else (0, 0)

theorem secOf_cases (c : Nat) (h : (secOf c).1 ≠ 0) : (194 ≤ c ∧ c < 224 ∧ secOf c = (128, 191)) ∨ (c = 224 ∧ secOf c = (160, 191)) ∨ (((225 ≤ c ∧ c < 237) ∨ (238 ≤ c ∧ c < 240)) ∧ secOf c = (128, 191)) ∨ (c = 237 ∧ secOf c = (128, 159)) ∨
    (c = 240 ∧ secOf c = (144, 191)) ∨ (241 ≤ c ∧ c < 244 ∧ secOf c = (128, 191)) ∨ (c = 244 ∧ secOf c = (128, 143)) := by
  unfold secOf at h ⊢
  repeat' split at h
  all_goals simp_all
  all_goals omega

/-- How many bytes a sequence has that begins with b0. -/
def szOf (b0 : Nat) : Nat := if b0 < 224 then 2 else if b0 < 240 then 3 else 4
theorem szOf_cases (b0 : Nat) : szOf b0 = 2 ∨ szOf b0 = 3 ∨ szOf b0 = 4 := by
  unfold szOf
  repeat' split
  all_goals simp
/-- What the leading byte says of the rune. -/
def leadOf (b0 : Nat) : Nat := if b0 < 224 then b0 % 32 else if b0 < 240 then b0 % 16 else b0 % 8
/-- The rune's bits up to byte k - 1. -/
def accOf (t : ByteArray) : Nat → Nat
  | 0 => 0
  | 1 => leadOf (bt t 0)
  | k + 2 => accOf t (k + 1) * 64 + bt t (k + 1) % 64

theorem acc_step (t : ByteArray) (k : Nat) (h : 1 ≤ k) : accOf t (k + 1) = accOf t k * 64 + bt t k % 64 := by
  obtain ⟨j, rfl⟩ : ∃ j, k = j + 1 := ⟨k - 1, by omega⟩
  rfl

/-- What Sequence answers. -/
def seqV (t : ByteArray) : Int × Int := if t.size = 0 ∨ (rn t 0 = 65533 ∧ wd t 0 = 1) then (0, 0) else (wd t 0, rn t 0)
abbrev seqR (x : Int × Int) : Value := .tuple #[.int .i64 x.1, .int .i32 x.2]

theorem bt_get (t : ByteArray) (k : Nat) (h : k < t.size) : bt t k = (t[k]'h).toNat := by unfold bt; rw [get_lt t k h]; rfl

theorem seqV_ascii (t : ByteArray) (h : 0 < t.size) (hb : bt t 0 < 128) : seqV t = (1, (bt t 0 : Int)) := by
  have e : Utf8.decode t 0 = (bt t 0, 1) := by rw [decode_at]; unfold Lib.decodeN; rw [if_pos hb]
  unfold seqV
  rw [if_neg (by simp only [rn, wd, e]; omega)]
  simp only [rn, wd, e]
  rfl
theorem seqV_of (t : ByteArray) (h : 0 < t.size) (hb : 128 ≤ bt t 0) (x : Nat × Nat) (e : Lib.decodeN (t.size - 0) (bt t 0) (bt t 1) (bt t 2) (bt t 3) = x) : seqV t = if x.1 = 65533 ∧ x.2 = 1 then (0, 0) else ((x.2 : Int), (x.1 : Int)) := by
  have e' : Utf8.decode t 0 = x := by rw [decode_at]; exact e
  unfold seqV
  simp only [rn, wd, e']
  have : ¬ t.size = 0 := by omega
  simp only [this, false_or]
theorem decodeN_none (n b0 b1 b2 b3 : Nat) (h : 128 ≤ b0) (h0 : b0 < 256) (hs : (secOf b0).1 = 0) : Lib.decodeN n b0 b1 b2 b3 = (65533, 1) := by
  have hc : b0 < 194 ∨ 245 ≤ b0 := by
    unfold secOf at hs
    repeat' split at hs
    all_goals simp at hs
    all_goals omega
  unfold Lib.decodeN
  repeat' split
  all_goals first | rfl | (exfalso; omega)
theorem decodeN_slow (n b0 b1 b2 b3 : Nat) (hn : 1 ≤ n) (h1 : b1 < 256) (h2 : b2 < 256) (h3 : b3 < 256) (hs : (secOf b0).1 ≠ 0) :
    Lib.decodeN n b0 b1 b2 b3 = Lib.slowN n b0 b1 b2 b3 (szOf b0) (secOf b0).1 (secOf b0).2 := by
  rcases secOf_cases b0 hs with ⟨a, b, e⟩ | ⟨a, e⟩ | ⟨a, e⟩ | ⟨a, e⟩ | ⟨a, e⟩ | ⟨a, b, e⟩ | ⟨a, e⟩
  · rw [e, show szOf b0 = 2 by unfold szOf; rw [if_pos (by omega)]]; exact (Lib.slow_C2 n b0 b1 b2 b3 hn h1 h2 h3 (by omega)).symm
  · rw [e, show szOf b0 = 3 by unfold szOf; rw [if_neg (by omega), if_pos (by omega)]]; exact (Lib.slow_E0 n b0 b1 b2 b3 hn h1 h2 h3 (by omega)).symm
  · rw [e, show szOf b0 = 3 by unfold szOf; rw [if_neg (by omega), if_pos (by omega)]]; exact (Lib.slow_E1 n b0 b1 b2 b3 hn h1 h2 h3 (by omega)).symm
  · rw [e, show szOf b0 = 3 by unfold szOf; rw [if_neg (by omega), if_pos (by omega)]]; exact (Lib.slow_ED n b0 b1 b2 b3 hn h1 h2 h3 (by omega)).symm
  · rw [e, show szOf b0 = 4 by unfold szOf; rw [if_neg (by omega), if_neg (by omega)]]; exact (Lib.slow_F0 n b0 b1 b2 b3 hn h1 h2 h3 (by omega)).symm
  · rw [e, show szOf b0 = 4 by unfold szOf; rw [if_neg (by omega), if_neg (by omega)]]; exact (Lib.slow_F1 n b0 b1 b2 b3 hn h1 h2 h3 (by omega)).symm
  · rw [e, show szOf b0 = 4 by unfold szOf; rw [if_neg (by omega), if_neg (by omega)]]; exact (Lib.slow_F4 n b0 b1 b2 b3 hn h1 h2 h3 (by omega)).symm
/-- The bytes of a sequence from the second one on up to k - 1 are right. -/
def Goes (t : ByteArray) (k : Nat) : Prop := ∀ j, 1 ≤ j → j < k → j < t.size ∧ 128 ≤ bt t j ∧ bt t j ≤ 191

theorem seqV_none (t : ByteArray) (h : 0 < t.size) (hb : 128 ≤ bt t 0) (hs : (secOf (bt t 0)).1 = 0) : seqV t = (0, 0) := by
  rw [seqV_of t h hb _ (decodeN_none _ _ _ _ _ hb (bt_lt t 0) hs), if_pos ⟨rfl, rfl⟩]
theorem seqV_bad (t : ByteArray) (h : 0 < t.size) (hb : 128 ≤ bt t 0) (hs : (secOf (bt t 0)).1 ≠ 0)
    (hx : t.size < 2 ∨ bt t 1 < (secOf (bt t 0)).1 ∨ (secOf (bt t 0)).2 < bt t 1 ∨ ∃ k, 1 ≤ k ∧ k < szOf (bt t 0) ∧ (t.size ≤ k ∨ bt t k < 128 ∨ 191 < bt t k)) : seqV t = (0, 0) := by
  rw [seqV_of t h hb _ (decodeN_slow _ _ _ _ _ (by omega) (bt_lt t _) (bt_lt t _) (bt_lt t _) hs)]
  have hz : szOf (bt t 0) = 2 ∨ szOf (bt t 0) = 3 ∨ szOf (bt t 0) = 4 := szOf_cases _
  have hlo : 128 ≤ (secOf (bt t 0)).1 ∧ (secOf (bt t 0)).2 ≤ 191 := by
    rcases secOf_cases _ hs with ⟨a, b, e⟩ | ⟨a, e⟩ | ⟨a, e⟩ | ⟨a, e⟩ | ⟨a, e⟩ | ⟨a, b, e⟩ | ⟨a, e⟩ <;> rw [e] <;> simp
  have : Lib.slowN (t.size - 0) (bt t 0) (bt t 1) (bt t 2) (bt t 3) (szOf (bt t 0)) (secOf (bt t 0)).1 (secOf (bt t 0)).2 = (65533, 1) := by
    generalize (secOf (bt t 0)).1 = lo at *
    generalize (secOf (bt t 0)).2 = hi at *
    generalize szOf (bt t 0) = z at *
    have hx' : t.size < 2 ∨ bt t 1 < lo ∨ hi < bt t 1 ∨ (t.size < z) ∨ (3 ≤ z ∧ (bt t 2 < 128 ∨ 191 < bt t 2)) ∨ (4 ≤ z ∧ (bt t 3 < 128 ∨ 191 < bt t 3)) := by
      rcases hx with h | h | h | ⟨k, h1, h2, h3⟩
      · exact .inl h
      · exact .inr (.inl h)
      · exact .inr (.inr (.inl h))
      · rcases h3 with h3 | h3
        · exact .inr (.inr (.inr (.inl (by omega))))
        · have hk : k = 1 ∨ k = 2 ∨ k = 3 := by omega
          rcases hk with rfl | rfl | rfl
          · omega
          · exact .inr (.inr (.inr (.inr (.inl ⟨by omega, h3⟩))))
          · exact .inr (.inr (.inr (.inr (.inr ⟨by omega, h3⟩))))
    clear hx
    unfold Lib.slowN
    repeat' split
    all_goals first | rfl | (exfalso; omega)
  rw [this, if_pos ⟨rfl, rfl⟩]
theorem seqV_good (t : ByteArray) (h : 0 < t.size) (hb : 128 ≤ bt t 0) (hs : (secOf (bt t 0)).1 ≠ 0) (h1 : (secOf (bt t 0)).1 ≤ bt t 1) (h2 : bt t 1 ≤ (secOf (bt t 0)).2) (hg : Goes t (szOf (bt t 0))) :
    seqV t = ((szOf (bt t 0) : Int), (accOf t (szOf (bt t 0)) : Int)) := by
  rw [seqV_of t h hb _ (decodeN_slow _ _ _ _ _ (by omega) (bt_lt t _) (bt_lt t _) (bt_lt t _) hs)]
  have hz : (szOf (bt t 0) = 2 ∧ leadOf (bt t 0) = bt t 0 % 32) ∨ (szOf (bt t 0) = 3 ∧ leadOf (bt t 0) = bt t 0 % 16) ∨ (szOf (bt t 0) = 4 ∧ leadOf (bt t 0) = bt t 0 % 8) := by
    unfold szOf leadOf; repeat' split
    all_goals simp
  generalize (secOf (bt t 0)).1 = lo at *
  generalize (secOf (bt t 0)).2 = hi at *
  rcases hz with ⟨e, l⟩ | ⟨e, l⟩ | ⟨e, l⟩
  · have g1 := hg 1 (by omega) (by omega)
    rw [e]
    have : Lib.slowN (t.size - 0) (bt t 0) (bt t 1) (bt t 2) (bt t 3) 2 lo hi = (bt t 0 % 32 * 64 + bt t 1 % 64, 2) := by
      unfold Lib.slowN
      repeat' split
      all_goals first | (exfalso; omega) | rfl
    rw [this, if_neg (by simp), show accOf t 2 = leadOf (bt t 0) * 64 + bt t 1 % 64 from rfl, l]
  · have g1 := hg 1 (by omega) (by omega)
    have g2 := hg 2 (by omega) (by omega)
    rw [e]
    have : Lib.slowN (t.size - 0) (bt t 0) (bt t 1) (bt t 2) (bt t 3) 3 lo hi = (bt t 0 % 16 * 4096 + bt t 1 % 64 * 64 + bt t 2 % 64, 3) := by
      unfold Lib.slowN
      repeat' split
      all_goals first | (exfalso; omega) | rfl
    rw [this, if_neg (by simp), show accOf t 3 = (leadOf (bt t 0) * 64 + bt t 1 % 64) * 64 + bt t 2 % 64 from rfl, l]
    rw [Prod.mk.injEq]
    exact ⟨rfl, by omega⟩
  · have g1 := hg 1 (by omega) (by omega)
    have g2 := hg 2 (by omega) (by omega)
    have g3 := hg 3 (by omega) (by omega)
    rw [e]
    have : Lib.slowN (t.size - 0) (bt t 0) (bt t 1) (bt t 2) (bt t 3) 4 lo hi = (bt t 0 % 8 * 262144 + bt t 1 % 64 * 4096 + bt t 2 % 64 * 64 + bt t 3 % 64, 4) := by
      unfold Lib.slowN
      repeat' split
      all_goals first | (exfalso; omega) | rfl
    rw [this, if_neg (by simp), show accOf t 4 = ((leadOf (bt t 0) * 64 + bt t 1 % 64) * 64 + bt t 2 % 64) * 64 + bt t 3 % 64 from rfl, l]
    rw [Prod.mk.injEq]
    exact ⟨rfl, by omega⟩
end Go.Proofs.Ythjndkjbjflmfaa
