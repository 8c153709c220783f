/- Plain facts on UTF-8 sequences: what the model's decoding says of a text's bytes; no program is named here. -/
import Derived.Lib.DecodeN
import Derived.Laws.Strings
import Derived.Laws.RangeAny
namespace Go.Proofs.Ythjndkjbjflmfaa
set_option linter.unusedVariables false
open Go.Lib (decodeN decode_at)

def widthOf (r : Int) : Int :=
  if r < 0 ∨ (55296 ≤ r ∧ r ≤ 57343) ∨ 1114111 < r then 0 else if r ≤ 127 then 1 else if r ≤ 2047 then 2 else if r ≤ 65535 then 3 else 4
def hasRB (s : ByteArray) : Bool := decide (3 ≤ s.size) && ((s.extract 0 3).toList == [239, 191, 189])
def spotR (s : ByteArray) (r : Int) : Int × Int × Bool := if r = 65533 ∧ hasRB s = false then (65533, 1, true) else (r, widthOf r, false)

/-- The byte number i, as a number; 0 behind the end. -/
abbrev bt (s : ByteArray) (i : Nat) : Nat := (s.get! i).toNat
/-- The rune and the width of what stands at i. -/
abbrev rn (s : ByteArray) (i : Nat) : Nat := (Utf8.decode s i).1
abbrev wd (s : ByteArray) (i : Nat) : Nat := (Utf8.decode s i).2

theorem bt_lt (s : ByteArray) (i : Nat) : bt s i < 256 := (s.get! i).toNat_lt

/-- Everything that is wanted of the decoding, at plain numbers. -/
structure Told (n b0 b1 b2 b3 : Nat) (x : Nat × Nat) : Prop where
  pos : 1 ≤ x.2
  four : x.2 ≤ 4
  room : 1 ≤ n → x.2 ≤ n
  c1 : 2 ≤ x.2 → b1 / 64 = 2
  c2 : 3 ≤ x.2 → b2 / 64 = 2
  c3 : 4 ≤ x.2 → b3 / 64 = 2
  lead : 2 ≤ x.2 → 192 ≤ b0
  small : x.1 ≤ 1114111
  nosur : ¬ (55296 ≤ x.1 ∧ x.1 ≤ 57343)
  width : ¬ (x.1 = 65533 ∧ x.2 = 1) → (x.2 = 1 ∧ x.1 ≤ 127) ∨ (x.2 = 2 ∧ 128 ≤ x.1 ∧ x.1 ≤ 2047) ∨ (x.2 = 3 ∧ 2048 ≤ x.1 ∧ x.1 ≤ 65535) ∨ (x.2 = 4 ∧ 65536 ≤ x.1)
  one : x.2 = 1 → x.1 = 65533 ∧ 128 ≤ b0 ∨ x.1 = b0 ∧ b0 < 128
  repl : x.1 = 65533 → x.2 = 1 ∨ (x.2 = 3 ∧ 3 ≤ n ∧ b0 = 239 ∧ b1 = 191 ∧ b2 = 189)

set_option maxHeartbeats 2000000 in
theorem told (n b0 b1 b2 b3 : Nat) (h0 : b0 < 256) (h1 : b1 < 256) (h2 : b2 < 256) (h3 : b3 < 256) : Told n b0 b1 b2 b3 (decodeN n b0 b1 b2 b3) := by
  unfold decodeN
  repeat' split
  all_goals (constructor <;> intros <;> dsimp only at * <;> omega)

theorem decodeN_repl (n b3 : Nat) (h : 3 ≤ n) : decodeN n 239 191 189 b3 = (65533, 3) := by
  unfold decodeN
  rw [if_neg (by omega), if_neg (by omega), if_pos (by omega), if_pos (by omega)]

/-- Of the room only whether it is 1, 2, 3 or more counts. -/
theorem decodeN_room (n m b0 b1 b2 b3 : Nat) (h : n = m ∨ (4 ≤ n ∧ 4 ≤ m)) : decodeN n b0 b1 b2 b3 = decodeN m b0 b1 b2 b3 := by
  rcases h with rfl | ⟨h, k⟩
  · rfl
  · have e1 : (1 < n) = (1 < m) := propext ⟨fun _ => by omega, fun _ => by omega⟩
    have e2 : (2 < n) = (2 < m) := propext ⟨fun _ => by omega, fun _ => by omega⟩
    have e3 : (3 < n) = (3 < m) := propext ⟨fun _ => by omega, fun _ => by omega⟩
    unfold decodeN
    simp only [e1, e2, e3]

/-- Only the bytes that are there count. -/
theorem decodeN_cong (n b0 b1 b2 b3 c1 c2 c3 : Nat) (h1 : 1 < n → b1 = c1) (h2 : 2 < n → b2 = c2) (h3 : 3 < n → b3 = c3) : decodeN n b0 b1 b2 b3 = decodeN n b0 c1 c2 c3 := by
  by_cases k1 : 1 < n
  · by_cases k2 : 2 < n
    · by_cases k3 : 3 < n
      · rw [h1 k1, h2 k2, h3 k3]
      · rw [h1 k1, h2 k2]; unfold decodeN; simp only [k3, false_and, and_false, if_false]
    · have k3 : ¬ 3 < n := by omega
      rw [h1 k1]; unfold decodeN; simp only [k2, k3, false_and, and_false, if_false]
  · have k2 : ¬ 2 < n := by omega
    have k3 : ¬ 3 < n := by omega
    unfold decodeN; simp only [k1, k2, k3, false_and, and_false, if_false]

theorem get_lt (s : ByteArray) (i : Nat) (h : i < s.size) : s.get! i = s.data[i]'h := by
  show s.data[i]! = _
  exact getElem!_pos s.data i h
theorem get_ge (s : ByteArray) (i : Nat) (h : s.size ≤ i) : s.get! i = default := by
  show s.data[i]! = _
  exact getElem!_neg s.data i (by show ¬ i < s.data.size; have : s.data.size = s.size := rfl; omega)
theorem get_extract (s : ByteArray) (a b j : Nat) (h : a + j < b) (hb : b ≤ s.size) : (s.extract a b).get! j = s.get! (a + j) := by
  rw [get_lt _ _ (by rw [ByteArray.size_extract]; omega), get_lt _ _ (by omega)]
  simp
theorem get_suffix (s : ByteArray) (a j : Nat) (ha : a ≤ s.size) : (s.extract a s.size).get! j = s.get! (a + j) := by
  by_cases h : a + j < s.size
  · exact get_extract s a s.size j h (Nat.le_refl _)
  · rw [get_ge _ _ (by rw [ByteArray.size_extract]; omega), get_ge _ _ (by omega)]

theorem decode_suffix (s : ByteArray) (a j : Nat) (ha : a ≤ s.size) : Utf8.decode (s.extract a s.size) j = Utf8.decode s (a + j) := by
  rw [decode_at, decode_at, ByteArray.size_extract]
  simp only [get_suffix s a _ ha, Nat.min_self, Nat.sub_sub, Nat.add_assoc]

theorem at_told (s : ByteArray) (i : Nat) : Told (s.size - i) (bt s i) (bt s (i + 1)) (bt s (i + 2)) (bt s (i + 3)) (Utf8.decode s i) := by
  rw [decode_at]; exact told _ _ _ _ _ (bt_lt s i) (bt_lt s _) (bt_lt s _) (bt_lt s _)
theorem wd_pos (s : ByteArray) (i : Nat) : 1 ≤ wd s i := (at_told s i).pos
theorem wd_four (s : ByteArray) (i : Nat) : wd s i ≤ 4 := (at_told s i).four
theorem wd_room (s : ByteArray) (i : Nat) (h : i < s.size) : i + wd s i ≤ s.size := by have := (at_told s i).room (by omega); show i + (Utf8.decode s i).2 ≤ _; omega
theorem wd_cont (s : ByteArray) (i k : Nat) (h0 : 0 < k) (h : k < wd s i) : bt s (i + k) / 64 = 2 := by
  have t := at_told s i
  have f := wd_four s i
  have : k = 1 ∨ k = 2 ∨ k = 3 := by omega
  rcases this with rfl | rfl | rfl
  · exact t.c1 h
  · exact t.c2 h
  · exact t.c3 h
theorem wd_lead (s : ByteArray) (i : Nat) (h : 2 ≤ wd s i) : 192 ≤ bt s i := (at_told s i).lead h

/-- What stands at i: its rune, its width, whether it is bad. -/
def spotV (s : ByteArray) (i : Nat) : Int × Int × Bool := (rn s i, wd s i, decide (rn s i = 65533 ∧ wd s i = 1))

theorem three_iff (l : List UInt8) (hl : 3 ≤ l.length) : (l.extract 0 3 == [239, 191, 189]) = true ↔ l[0].toNat = 239 ∧ l[1].toNat = 191 ∧ l[2].toNat = 189 := by
  match l, hl with
  | a :: b :: c :: r, _ => simp [List.extract, ← UInt8.toNat_inj]

theorem hasRB_iff (t : ByteArray) : hasRB t = true ↔ 3 ≤ t.size ∧ bt t 0 = 239 ∧ bt t 1 = 191 ∧ bt t 2 = 189 := by
  unfold hasRB
  rw [ByteArray.toList_eq, ByteArray.data_extract, Array.toList_extract]
  by_cases h : 3 ≤ t.size
  · have g0 := get_lt t 0 (by omega)
    have g1 := get_lt t 1 (by omega)
    have g2 := get_lt t 2 (by omega)
    have hl : 3 ≤ t.data.toList.length := by simpa using h
    have e0 : t.get! 0 = t.data.toList[0] := by rw [g0]; simp
    have e1 : t.get! 1 = t.data.toList[1] := by rw [g1]; simp
    have e2 : t.get! 2 = t.data.toList[2] := by rw [g2]; simp
    simp only [bt, e0, e1, e2]
    rw [← three_iff t.data.toList hl]
    simp [h]
  · simp [h]

theorem widthOf_rn (s : ByteArray) (i : Nat) (h : ¬ (rn s i = 65533 ∧ wd s i = 1)) : widthOf (rn s i) = wd s i := by
  have t := at_told s i
  have hw := t.width h
  have hs := t.small
  have hn := t.nosur
  unfold widthOf
  simp only [rn, wd]
  rw [if_neg (by omega)]
  rcases hw with ⟨e, h1⟩ | ⟨e, h1, h2⟩ | ⟨e, h1, h2⟩ | ⟨e, h1⟩
  · rw [if_pos (by omega), e]; rfl
  · rw [if_neg (by omega), if_pos (by omega), e]; rfl
  · rw [if_neg (by omega), if_neg (by omega), if_pos (by omega), e]; rfl
  · rw [if_neg (by omega), if_neg (by omega), if_neg (by omega), e]; rfl

theorem spotR_eq (s : ByteArray) (i : Nat) (h : i < s.size) : spotR (s.extract i s.size) (rn s i) = spotV s i := by
  have hb : hasRB (s.extract i s.size) = true ↔ 3 ≤ s.size - i ∧ bt s i = 239 ∧ bt s (i + 1) = 191 ∧ bt s (i + 2) = 189 := by
    rw [hasRB_iff, ByteArray.size_extract, Nat.min_self]
    simp only [bt, get_suffix s i _ (Nat.le_of_lt h), Nat.add_zero]
  unfold spotR spotV
  by_cases hr : rn s i = 65533
  · rcases (at_told s i).repl hr with h1 | ⟨h3, hn, c0, c1, c2⟩
    · have hf : hasRB (s.extract i s.size) = false := by
        cases hx : hasRB (s.extract i s.size) with
        | false => rfl
        | true =>
          obtain ⟨hn, c0, c1, c2⟩ := hb.1 hx
          have := decode_at s i
          rw [show (s.get! i).toNat = 239 from c0, show (s.get! (i + 1)).toNat = 191 from c1, show (s.get! (i + 2)).toNat = 189 from c2, decodeN_repl _ _ hn] at this
          rw [this] at h1
          simp at h1
      rw [if_pos ⟨by rw [hr]; rfl, hf⟩]
      have e2 : wd s i = 1 := h1
      rw [hr, e2]
      rfl
    · have ht : hasRB (s.extract i s.size) = true := hb.2 ⟨hn, c0, c1, c2⟩
      have e2 : wd s i = 3 := h3
      rw [if_neg (by rw [ht]; simp), widthOf_rn s i (by omega)]
      simp [e2]
  · rw [if_neg (by intro hh; apply hr; have := hh.1; omega), widthOf_rn s i (by intro hh; exact hr hh.1)]
    simp [hr]

/-- The numbers of the first bytes of the spots. -/
def startsFrom (s : ByteArray) : Nat → Nat → List Nat
  | 0, _ => []
  | f + 1, i => if i < s.size then i :: startsFrom s f (i + wd s i) else []
def starts (s : ByteArray) : List Nat := startsFrom s s.size 0
theorem startsFrom_end (s : ByteArray) (f i : Nat) (h : ¬ i < s.size) : startsFrom s f i = [] := by cases f <;> simp [startsFrom, h]
theorem startsFrom_cons (s : ByteArray) (f i : Nat) (h : i < s.size) : startsFrom s (f + 1) i = i :: startsFrom s f (i + wd s i) := by simp [startsFrom, h]

/-- No sequence that began shortly ahead of p goes on behind it. -/
def bdB (s : ByteArray) (p : Nat) : Bool := decide ((1 ≤ p → wd s (p - 1) ≤ 1) ∧ (2 ≤ p → wd s (p - 2) ≤ 2) ∧ (3 ≤ p → wd s (p - 3) ≤ 3))
theorem bd_iff (s : ByteArray) (p : Nat) : bdB s p = true ↔ ∀ n, n < 4 → 1 ≤ n → n ≤ p → wd s (p - n) ≤ n := by
  unfold bdB
  rw [decide_eq_true_iff]
  constructor
  · rintro ⟨a, b, c⟩ n h4 h1 hn
    have : n = 1 ∨ n = 2 ∨ n = 3 := by omega
    rcases this with rfl | rfl | rfl
    · exact a hn
    · exact b hn
    · exact c hn
  · intro h
    exact ⟨h 1 (by omega) (by omega), h 2 (by omega) (by omega), h 3 (by omega) (by omega)⟩
theorem bd_zero (s : ByteArray) : bdB s 0 = true := (bd_iff s 0).2 fun n _ h1 h2 => by omega
theorem bd_end (s : ByteArray) : bdB s s.size = true := (bd_iff s _).2 fun n _ h1 h2 => by have := wd_room s (s.size - n) (by omega); omega
theorem bd_step (s : ByteArray) (p : Nat) (h : bdB s p = true) (hp : p < s.size) : bdB s (p + wd s p) = true := by
  rw [bd_iff] at h ⊢
  intro n h4 h1 hn
  have hw := wd_pos s p
  rcases Nat.lt_or_ge n (wd s p + 1) with hlt | hge
  · by_cases e : n = wd s p
    · rw [show p + wd s p - n = p by omega]; omega
    · -- within the sequence of p: a byte that begins none of more than one byte
      have hk := wd_cont s p (wd s p - n) (by omega) (by omega)
      rcases Nat.lt_or_ge (wd s (p + wd s p - n)) 2 with h2 | h2
      · omega
      · have := wd_lead s _ h2
        rw [show p + (wd s p - n) = p + wd s p - n by omega] at hk
        omega
  · have hh := h (n - wd s p) (by omega) (by omega) (by omega)
    rw [show p + wd s p - n = p - (n - wd s p) by omega]
    omega
/-- The same, told of a part of the text with three bytes at each side. -/
theorem bd_near (s u : ByteArray) (p q : Nat) (hp : p ≤ s.size) (hq : q ≤ u.size) (hl : p = q ∨ (3 ≤ p ∧ 3 ≤ q)) (hr : s.size - p = u.size - q ∨ (3 ≤ s.size - p ∧ 3 ≤ u.size - q))
    (hb : ∀ i j, p + j = q + i → i < s.size → j < u.size → i + 3 ≥ p → i < p + 3 → bt s i = bt u j) : bdB s p = bdB u q := by
  have hd : ∀ n, n < 4 → 1 ≤ n → n ≤ p → n ≤ q → wd s (p - n) = wd u (q - n) := by
    intro n h4 h1 hnp hnq
    show (Utf8.decode s (p - n)).2 = (Utf8.decode u (q - n)).2
    rw [decode_at, decode_at]
    rw [decodeN_room (u.size - (q - n)) (s.size - (p - n)) _ _ _ _ (by omega)]
    rw [show (s.get! (p - n)).toNat = (u.get! (q - n)).toNat from hb _ _ (by omega) (by omega) (by omega) (by omega) (by omega)]
    rw [decodeN_cong (s.size - (p - n)) _ _ _ _ (u.get! (q - n + 1)).toNat (u.get! (q - n + 2)).toNat (u.get! (q - n + 3)).toNat]
    · intro h; exact hb _ _ (by omega) (by omega) (by omega) (by omega) (by omega)
    · intro h; exact hb _ _ (by omega) (by omega) (by omega) (by omega) (by omega)
    · intro h; exact hb _ _ (by omega) (by omega) (by omega) (by omega) (by omega)
  rw [Bool.eq_iff_iff, bd_iff, bd_iff]
  constructor
  · intro h n h4 h1 hn
    rw [← hd n h4 h1 (by omega) hn]
    exact h n h4 h1 (by omega)
  · intro h n h4 h1 hn
    rw [hd n h4 h1 hn (by omega)]
    exact h n h4 h1 (by omega)
end Go.Proofs.Ythjndkjbjflmfaa
