/- Texts of this claim, one behind the other. -/
import Derived.Lib.DecodeN
import Derived.Laws.Strings
import Derived.Laws.RangeAny
import Derived.RangeFuncNested
import Derived.RangeFuncBound
import Derived.RangeFuncCalls
import Derived.RangeFuncLeaves
import Derived.Shelf.Abstract
import Derived.Shelf.RegionOpen
import Derived.WalkKit
import Derived.OwnWalkIn
import Derived.TacticsInMore
import Derived.LoopNIn
import Derived.LoopIn
import Derived.Test.YtcnhkhjkeemafaaGreatDoorProg
import Derived.Lib.OthersKept
import Derived.Deep.QuietTactic
import Derived.BigQuiet
import Derived.WalkSmall
import Derived.Laws.Cover4
import Derived.Laws.IdiomStrings
/- Plain facts on UTF-8 sequences: what the model's decoding says of a text's bytes; no program is named here. -/
namespace Go.Proofs.YtcnhkhjkeemafaaGreatDoor
set_option linter.unusedVariables false
open Go.Lib (decodeN decode_at)

def widthOf (r : Int) : Int :=
  if r < 0 ∨ (55296 ≤ r ∧ r ≤ 57343) ∨ 1114111 < r then 0 else if r ≤ 127 then 1 else if r ≤ 2047 then 2 else if r ≤ 65535 then 3 else 4
def hasRB (s : ByteArray) : Bool := decide (3 ≤ s.size) && ((s.extract 0 3).toList == [239, 191, 189])
def spotR (s : ByteArray) (r : Int) : Int × Int × Bool := if r = 65533 ∧ hasRB s = false then (65533, 1, true) else (r, widthOf r, false)

/-- The byte number i, as a number; 0 behind the end. -/
abbrev bt (s : ByteArray) (i : Nat) : Nat := (s.get! i).toNat
/-- The rune and the width of what stands at i. -/
abbrev rn (s : ByteArray) (i : Nat) : Nat := (Utf8.decode s i).1
abbrev wd (s : ByteArray) (i : Nat) : Nat := (Utf8.decode s i).2

theorem bt_lt (s : ByteArray) (i : Nat) : bt s i < 256 := (s.get! i).toNat_lt

/-- Everything that is wanted of the decoding, at plain numbers. -/
structure Told (n b0 b1 b2 b3 : Nat) (x : Nat × Nat) : Prop where
  pos : 1 ≤ x.2
  four : x.2 ≤ 4
  room : 1 ≤ n → x.2 ≤ n
  c1 : 2 ≤ x.2 → b1 / 64 = 2
  c2 : 3 ≤ x.2 → b2 / 64 = 2
  c3 : 4 ≤ x.2 → b3 / 64 = 2
  lead : 2 ≤ x.2 → 192 ≤ b0
  small : x.1 ≤ 1114111
  nosur : ¬ (55296 ≤ x.1 ∧ x.1 ≤ 57343)
  width : ¬ (x.1 = 65533 ∧ x.2 = 1) → (x.2 = 1 ∧ x.1 ≤ 127) ∨ (x.2 = 2 ∧ 128 ≤ x.1 ∧ x.1 ≤ 2047) ∨ (x.2 = 3 ∧ 2048 ≤ x.1 ∧ x.1 ≤ 65535) ∨ (x.2 = 4 ∧ 65536 ≤ x.1)
  one : x.2 = 1 → x.1 = 65533 ∧ 128 ≤ b0 ∨ x.1 = b0 ∧ b0 < 128
  repl : x.1 = 65533 → x.2 = 1 ∨ (x.2 = 3 ∧ 3 ≤ n ∧ b0 = 239 ∧ b1 = 191 ∧ b2 = 189)

set_option maxHeartbeats 2000000 in
theorem told (n b0 b1 b2 b3 : Nat) (h0 : b0 < 256) (h1 : b1 < 256) (h2 : b2 < 256) (h3 : b3 < 256) : Told n b0 b1 b2 b3 (decodeN n b0 b1 b2 b3) := by
  unfold decodeN
  repeat' split
  all_goals (constructor <;> intros <;> dsimp only at * <;> omega)

theorem decodeN_repl (n b3 : Nat) (h : 3 ≤ n) : decodeN n 239 191 189 b3 = (65533, 3) := by
  unfold decodeN
  rw [if_neg (by omega), if_neg (by omega), if_pos (by omega), if_pos (by omega)]

/-- Of the room only whether it is 1, 2, 3 or more counts. -/
theorem decodeN_room (n m b0 b1 b2 b3 : Nat) (h : n = m ∨ (4 ≤ n ∧ 4 ≤ m)) : decodeN n b0 b1 b2 b3 = decodeN m b0 b1 b2 b3 := by
  rcases h with rfl | ⟨h, k⟩
  · rfl
  · have e1 : (1 < n) = (1 < m) := propext ⟨fun _ => by omega, fun _ => by omega⟩
    have e2 : (2 < n) = (2 < m) := propext ⟨fun _ => by omega, fun _ => by omega⟩
    have e3 : (3 < n) = (3 < m) := propext ⟨fun _ => by omega, fun _ => by omega⟩
    unfold decodeN
    simp only [e1, e2, e3]

/-- Only the bytes that are there count. -/
theorem decodeN_cong (n b0 b1 b2 b3 c1 c2 c3 : Nat) (h1 : 1 < n → b1 = c1) (h2 : 2 < n → b2 = c2) (h3 : 3 < n → b3 = c3) : decodeN n b0 b1 b2 b3 = decodeN n b0 c1 c2 c3 := by
  by_cases k1 : 1 < n
  · by_cases k2 : 2 < n
    · by_cases k3 : 3 < n
      · rw [h1 k1, h2 k2, h3 k3]
      · rw [h1 k1, h2 k2]; unfold decodeN; simp only [k3, false_and, and_false, if_false]
    · have k3 : ¬ 3 < n := by omega
      rw [h1 k1]; unfold decodeN; simp only [k2, k3, false_and, and_false, if_false]
  · have k2 : ¬ 2 < n := by omega
    have k3 : ¬ 3 < n := by omega
    unfold decodeN; simp only [k1, k2, k3, false_and, and_false, if_false]

theorem get_lt (s : ByteArray) (i : Nat) (h : i < s.size) : s.get! i = s.data[i]'h := by
  show s.data[i]! = _
  exact getElem!_pos s.data i h
theorem get_ge (s : ByteArray) (i : Nat) (h : s.size ≤ i) : s.get! i = default := by
  show s.data[i]! = _
  exact getElem!_neg s.data i (by show ¬ i < s.data.size; have : s.data.size = s.size := rfl; omega)
theorem get_extract (s : ByteArray) (a b j : Nat) (h : a + j < b) (hb : b ≤ s.size) : (s.extract a b).get! j = s.get! (a + j) := by
  rw [get_lt _ _ (by rw [ByteArray.size_extract]; omega), get_lt _ _ (by omega)]
  simp
theorem get_suffix (s : ByteArray) (a j : Nat) (ha : a ≤ s.size) : (s.extract a s.size).get! j = s.get! (a + j) := by
  by_cases h : a + j < s.size
  · exact get_extract s a s.size j h (Nat.le_refl _)
  · rw [get_ge _ _ (by rw [ByteArray.size_extract]; omega), get_ge _ _ (by omega)]

theorem decode_suffix (s : ByteArray) (a j : Nat) (ha : a ≤ s.size) : Utf8.decode (s.extract a s.size) j = Utf8.decode s (a + j) := by
  rw [decode_at, decode_at, ByteArray.size_extract]
  simp only [get_suffix s a _ ha, Nat.min_self, Nat.sub_sub, Nat.add_assoc]

theorem at_told (s : ByteArray) (i : Nat) : Told (s.size - i) (bt s i) (bt s (i + 1)) (bt s (i + 2)) (bt s (i + 3)) (Utf8.decode s i) := by
  rw [decode_at]; exact told _ _ _ _ _ (bt_lt s i) (bt_lt s _) (bt_lt s _) (bt_lt s _)
theorem wd_pos (s : ByteArray) (i : Nat) : 1 ≤ wd s i := (at_told s i).pos
theorem wd_four (s : ByteArray) (i : Nat) : wd s i ≤ 4 := (at_told s i).four
theorem wd_room (s : ByteArray) (i : Nat) (h : i < s.size) : i + wd s i ≤ s.size := by have := (at_told s i).room (by omega); show i + (Utf8.decode s i).2 ≤ _; omega
theorem wd_cont (s : ByteArray) (i k : Nat) (h0 : 0 < k) (h : k < wd s i) : bt s (i + k) / 64 = 2 := by
  have t := at_told s i
  have f := wd_four s i
  have : k = 1 ∨ k = 2 ∨ k = 3 := by omega
  rcases this with rfl | rfl | rfl
  · exact t.c1 h
  · exact t.c2 h
  · exact t.c3 h
theorem wd_lead (s : ByteArray) (i : Nat) (h : 2 ≤ wd s i) : 192 ≤ bt s i := (at_told s i).lead h

/-- What stands at i: its rune, its width, whether it is bad. -/
def spotV (s : ByteArray) (i : Nat) : Int × Int × Bool := (rn s i, wd s i, decide (rn s i = 65533 ∧ wd s i = 1))

theorem three_iff (l : List UInt8) (hl : 3 ≤ l.length) : (l.extract 0 3 == [239, 191, 189]) = true ↔ l[0].toNat = 239 ∧ l[1].toNat = 191 ∧ l[2].toNat = 189 := by
  match l, hl with
  | a :: b :: c :: r, _ => simp [List.extract, ← UInt8.toNat_inj]

theorem hasRB_iff (t : ByteArray) : hasRB t = true ↔ 3 ≤ t.size ∧ bt t 0 = 239 ∧ bt t 1 = 191 ∧ bt t 2 = 189 := by
  unfold hasRB
  rw [ByteArray.toList_eq, ByteArray.data_extract, Array.toList_extract]
  by_cases h : 3 ≤ t.size
  · have g0 := get_lt t 0 (by omega)
    have g1 := get_lt t 1 (by omega)
    have g2 := get_lt t 2 (by omega)
    have hl : 3 ≤ t.data.toList.length := by simpa using h
    have e0 : t.get! 0 = t.data.toList[0] := by rw [g0]; simp
    have e1 : t.get! 1 = t.data.toList[1] := by rw [g1]; simp
    have e2 : t.get! 2 = t.data.toList[2] := by rw [g2]; simp
    simp only [bt, e0, e1, e2]
    rw [← three_iff t.data.toList hl]
    simp [h]
  · simp [h]

theorem widthOf_rn (s : ByteArray) (i : Nat) (h : ¬ (rn s i = 65533 ∧ wd s i = 1)) : widthOf (rn s i) = wd s i := by
  have t := at_told s i
  have hw := t.width h
  have hs := t.small
  have hn := t.nosur
  unfold widthOf
  simp only [rn, wd]
  rw [if_neg (by omega)]
  rcases hw with ⟨e, h1⟩ | ⟨e, h1, h2⟩ | ⟨e, h1, h2⟩ | ⟨e, h1⟩
  · rw [if_pos (by omega), e]; rfl
  · rw [if_neg (by omega), if_pos (by omega), e]; rfl
  · rw [if_neg (by omega), if_neg (by omega), if_pos (by omega), e]; rfl
  · rw [if_neg (by omega), if_neg (by omega), if_neg (by omega), e]; rfl

theorem spotR_eq (s : ByteArray) (i : Nat) (h : i < s.size) : spotR (s.extract i s.size) (rn s i) = spotV s i := by
  have hb : hasRB (s.extract i s.size) = true ↔ 3 ≤ s.size - i ∧ bt s i = 239 ∧ bt s (i + 1) = 191 ∧ bt s (i + 2) = 189 := by
    rw [hasRB_iff, ByteArray.size_extract, Nat.min_self]
    simp only [bt, get_suffix s i _ (Nat.le_of_lt h), Nat.add_zero]
  unfold spotR spotV
  by_cases hr : rn s i = 65533
  · rcases (at_told s i).repl hr with h1 | ⟨h3, hn, c0, c1, c2⟩
    · have hf : hasRB (s.extract i s.size) = false := by
        cases hx : hasRB (s.extract i s.size) with
        | false => rfl
        | true =>
          obtain ⟨hn, c0, c1, c2⟩ := hb.1 hx
          have := decode_at s i
          rw [show (s.get! i).toNat = 239 from c0, show (s.get! (i + 1)).toNat = 191 from c1, show (s.get! (i + 2)).toNat = 189 from c2, decodeN_repl _ _ hn] at this
          rw [this] at h1
          simp at h1
      rw [if_pos ⟨by rw [hr]; rfl, hf⟩]
      have e2 : wd s i = 1 := h1
      rw [hr, e2]
      rfl
    · have ht : hasRB (s.extract i s.size) = true := hb.2 ⟨hn, c0, c1, c2⟩
      have e2 : wd s i = 3 := h3
      rw [if_neg (by rw [ht]; simp), widthOf_rn s i (by omega)]
      simp [e2]
  · rw [if_neg (by intro hh; apply hr; have := hh.1; omega), widthOf_rn s i (by intro hh; exact hr hh.1)]
    simp [hr]

/-- The numbers of the first bytes of the spots. -/
def startsFrom (s : ByteArray) : Nat → Nat → List Nat
  | 0, _ => []
  | f + 1, i => if i < s.size then i :: startsFrom s f (i + wd s i) else []
def starts (s : ByteArray) : List Nat := startsFrom s s.size 0
theorem startsFrom_end (s : ByteArray) (f i : Nat) (h : ¬ i < s.size) : startsFrom s f i = [] := by cases f <;> simp [startsFrom, h]
theorem startsFrom_cons (s : ByteArray) (f i : Nat) (h : i < s.size) : startsFrom s (f + 1) i = i :: startsFrom s f (i + wd s i) := by simp [startsFrom, h]

/-- No sequence that began shortly ahead of p goes on behind it. -/
def bdB (s : ByteArray) (p : Nat) : Bool := decide ((1 ≤ p → wd s (p - 1) ≤ 1) ∧ (2 ≤ p → wd s (p - 2) ≤ 2) ∧ (3 ≤ p → wd s (p - 3) ≤ 3))
theorem bd_iff (s : ByteArray) (p : Nat) : bdB s p = true ↔ ∀ n, n < 4 → 1 ≤ n → n ≤ p → wd s (p - n) ≤ n := by
  unfold bdB
  rw [decide_eq_true_iff]
  constructor
  · rintro ⟨a, b, c⟩ n h4 h1 hn
    have : n = 1 ∨ n = 2 ∨ n = 3 := by omega
    rcases this with rfl | rfl | rfl
    · exact a hn
    · exact b hn
    · exact c hn
  · intro h
    exact ⟨h 1 (by omega) (by omega), h 2 (by omega) (by omega), h 3 (by omega) (by omega)⟩
theorem bd_zero (s : ByteArray) : bdB s 0 = true := (bd_iff s 0).2 fun n _ h1 h2 => by omega
theorem bd_end (s : ByteArray) : bdB s s.size = true := (bd_iff s _).2 fun n _ h1 h2 => by have := wd_room s (s.size - n) (by omega); omega
theorem bd_step (s : ByteArray) (p : Nat) (h : bdB s p = true) (hp : p < s.size) : bdB s (p + wd s p) = true := by
  rw [bd_iff] at h ⊢
  intro n h4 h1 hn
  have hw := wd_pos s p
  rcases Nat.lt_or_ge n (wd s p + 1) with hlt | hge
  · by_cases e : n = wd s p
    · rw [show p + wd s p - n = p by omega]; omega
    · -- within the sequence of p: a byte that begins none of more than one byte
      have hk := wd_cont s p (wd s p - n) (by omega) (by omega)
      rcases Nat.lt_or_ge (wd s (p + wd s p - n)) 2 with h2 | h2
      · omega
      · have := wd_lead s _ h2
        rw [show p + (wd s p - n) = p + wd s p - n by omega] at hk
        omega
  · have hh := h (n - wd s p) (by omega) (by omega) (by omega)
    rw [show p + wd s p - n = p - (n - wd s p) by omega]
    omega
/-- The same, told of a part of the text with three bytes at each side. -/
theorem bd_near (s u : ByteArray) (p q : Nat) (hp : p ≤ s.size) (hq : q ≤ u.size) (hl : p = q ∨ (3 ≤ p ∧ 3 ≤ q)) (hr : s.size - p = u.size - q ∨ (3 ≤ s.size - p ∧ 3 ≤ u.size - q))
    (hb : ∀ i j, p + j = q + i → i < s.size → j < u.size → i + 3 ≥ p → i < p + 3 → bt s i = bt u j) : bdB s p = bdB u q := by
  have hd : ∀ n, n < 4 → 1 ≤ n → n ≤ p → n ≤ q → wd s (p - n) = wd u (q - n) := by
    intro n h4 h1 hnp hnq
    show (Utf8.decode s (p - n)).2 = (Utf8.decode u (q - n)).2
    rw [decode_at, decode_at]
    rw [decodeN_room (u.size - (q - n)) (s.size - (p - n)) _ _ _ _ (by omega)]
    rw [show (s.get! (p - n)).toNat = (u.get! (q - n)).toNat from hb _ _ (by omega) (by omega) (by omega) (by omega) (by omega)]
    rw [decodeN_cong (s.size - (p - n)) _ _ _ _ (u.get! (q - n + 1)).toNat (u.get! (q - n + 2)).toNat (u.get! (q - n + 3)).toNat]
    · intro h; exact hb _ _ (by omega) (by omega) (by omega) (by omega) (by omega)
    · intro h; exact hb _ _ (by omega) (by omega) (by omega) (by omega) (by omega)
    · intro h; exact hb _ _ (by omega) (by omega) (by omega) (by omega) (by omega)
  rw [Bool.eq_iff_iff, bd_iff, bd_iff]
  constructor
  · intro h n h4 h1 hn
    rw [← hd n h4 h1 (by omega) hn]
    exact h n h4 h1 (by omega)
  · intro h n h4 h1 hn
    rw [hd n h4 h1 hn (by omega)]
    exact h n h4 h1 (by omega)
end Go.Proofs.YtcnhkhjkeemafaaGreatDoor
/- The plain calls of the smallest functions (Width, badSpot, HasPrefix, spotOf), each told for every argument. -/
namespace Go.Proofs.YtcnhkhjkeemafaaGreatDoor
open Go.RowKit Go.Shelf

theorem width_any (r : Int) (w : World) : Calls Tryz.prog 17 #[.int .i32 r] w fun e w' => e = .returned (.int .i64 (widthOf r)) ∧ w' = w := by
  by_cases h0 : r < 0
  · have : widthOf r = 0 := by unfold widthOf; rw [if_pos (by omega)]
    rw [this]
    go_enter Tryz.func17, Tryz.ntmps17
    go_wp2
    go_ret
    exact ⟨rfl, rfl⟩
  by_cases h1 : 55296 ≤ r
  · by_cases h2 : r ≤ 57343
    · have : widthOf r = 0 := by unfold widthOf; rw [if_pos (by omega)]
      rw [this]
      go_enter Tryz.func17, Tryz.ntmps17
      go_wp2
      go_ret
      exact ⟨rfl, rfl⟩
    by_cases h3 : 1114111 < r
    · have : widthOf r = 0 := by unfold widthOf; rw [if_pos (by omega)]
      rw [this]
      go_enter Tryz.func17, Tryz.ntmps17
      go_wp2
      go_ret
      exact ⟨rfl, rfl⟩
    by_cases h4 : r ≤ 65535
    · have : widthOf r = 3 := by unfold widthOf; rw [if_neg (by omega), if_neg (by omega), if_neg (by omega), if_pos h4]
      rw [this]
      go_enter Tryz.func17, Tryz.ntmps17
      go_wp2
      go_ret
      exact ⟨rfl, rfl⟩
    · have : widthOf r = 4 := by unfold widthOf; rw [if_neg (by omega), if_neg (by omega), if_neg (by omega), if_neg (by omega)]
      rw [this]
      go_enter Tryz.func17, Tryz.ntmps17
      go_wp2
      go_ret
      exact ⟨rfl, rfl⟩
  by_cases h5 : r ≤ 127
  · have : widthOf r = 1 := by unfold widthOf; rw [if_neg (by omega), if_pos (by omega)]
    rw [this]
    go_enter Tryz.func17, Tryz.ntmps17
    go_wp2
    go_ret
    exact ⟨rfl, rfl⟩
  by_cases h6 : r ≤ 2047
  · have : widthOf r = 2 := by unfold widthOf; rw [if_neg (by omega), if_neg (by omega), if_pos (by omega)]
    rw [this]
    go_enter Tryz.func17, Tryz.ntmps17
    go_wp2
    go_ret
    exact ⟨rfl, rfl⟩
  · have : widthOf r = 3 := by unfold widthOf; rw [if_neg (by omega), if_neg (by omega), if_neg (by omega), if_pos (by omega)]
    rw [this]
    go_enter Tryz.func17, Tryz.ntmps17
    go_wp2
    go_ret
    exact ⟨rfl, rfl⟩

theorem badSpot_any (w : World) : Calls Tryz.prog 115 #[] w fun e w' => e = .returned (.agg #[.int .i32 65533, .int .i64 1, .bool true]) ∧ w' = w.alloc (.cells #[.int .i32 65533, .int .i64 1, .bool true] 110) := by
  go_enter Tryz.func115, Tryz.ntmps115
  go_wp2
  exact bodyPost_ret (v := .agg #[.int .i32 65533, .int .i64 1, .bool true]) (by simp [results, Tryz.results115, go_sem]) rfl ⟨rfl, rfl⟩

theorem hasPrefix_any (s : ByteArray) (hs : s.size ≤ maxLen) (w : World) : Calls Tryz.prog 39 #[.string s, .string ⟨#[239, 191, 189]⟩] w fun e w' => e = .returned (.bool (hasRB s)) ∧ w' = w := by
  unfold maxLen at hs
  by_cases h : 3 ≤ s.size
  · have e : hasRB s = ((s.extract 0 3).toList == [239, 191, 189]) := by simp [hasRB, h]
    rw [e]
    clear e
    go_enter Tryz.func39, Tryz.ntmps39
    go_wp2
    go_ret
    exact ⟨rfl, rfl⟩
  · have e : hasRB s = false := by simp [hasRB, h]
    rw [e]
    clear e
    go_enter Tryz.func39, Tryz.ntmps39
    go_wp2
    go_ret
    exact ⟨rfl, rfl⟩

abbrev encSpot (x : Int × Int × Bool) : Value := .agg #[.int .i32 x.1, .int .i64 x.2.1, .bool x.2.2]

theorem spotOf_any (s : ByteArray) (hs : s.size ≤ maxLen) (r : Int) (w : World) : Calls Tryz.prog 113 #[.string s, .int .i32 r] w fun e w' => e = .returned (encSpot (spotR s r)) ∧ Below w.heap.size w w' := by
  by_cases h : r = 65533
  · subst h
    cases hb : hasRB s with
    | true =>
      have e : spotR s 65533 = (65533, widthOf 65533, false) := by simp [spotR, hb]
      rw [e]
      clear e
      have H : Hid (hasRB s = true) := hb
      clear hb
      go_enter Tryz.func113, Tryz.ntmps113
      go_wp2_with (first | (go_at_call 39; refine (hasPrefix_any _ hs _).mono ?_; rintro e w' ⟨rfl, rfl⟩; rw [H.out]) | (go_at_call 17; refine (width_any _ _).mono ?_; rintro e w' ⟨rfl, rfl⟩))
      exact bodyPost_ret (v := encSpot (65533, widthOf 65533, false)) (by simp [results, Tryz.results113, go_sem]) rfl ⟨rfl, (Below.refl _ _).alloc (Nat.le_refl _) _⟩
    | false =>
      have e : spotR s 65533 = (65533, 1, true) := by simp [spotR, hb]
      rw [e]
      clear e
      have H : Hid (hasRB s = false) := hb
      clear hb
      go_enter Tryz.func113, Tryz.ntmps113
      go_wp2_with (first | (go_at_call 39; refine (hasPrefix_any _ hs _).mono ?_; rintro e w' ⟨rfl, rfl⟩; rw [H.out]) | (go_at_call 115; refine (badSpot_any _).mono ?_; rintro e w1 ⟨rfl, rfl⟩))
      exact bodyPost_ret (v := encSpot (65533, 1, true)) (by simp [results, Tryz.results113, go_sem]) rfl ⟨rfl, ((Below.refl _ _).alloc (Nat.le_refl _) _).alloc (by simp) _⟩
  · have e : spotR s r = (r, widthOf r, false) := by simp [spotR, h]
    rw [e]
    clear e
    have hb : (r == 65533) = false := by simpa using h
    go_enter Tryz.func113, Tryz.ntmps113
    go_wp2_with (go_at_call 17; refine (width_any _ _).mono ?_; rintro e w' ⟨rfl, rfl⟩)
    exact bodyPost_ret (v := encSpot (r, widthOf r, false)) (by simp [results, Tryz.results113, go_sem]) rfl ⟨rfl, (Below.refl _ _).alloc (Nat.le_refl _) _⟩
end Go.Proofs.YtcnhkhjkeemafaaGreatDoor
/- The function that Spots hands back, as an iterator: it hands out each spot of the text with the number of its first byte, in order, and stops where it is told to. -/
namespace Go.Proofs.YtcnhkhjkeemafaaGreatDoor
open Go.RowKit Go.Shelf
attribute [local go_sem] Oper.semAt_some
set_option linter.unusedVariables false

/-- A fact that is kept from the walk: a structure, so that no tactic looks behind it. -/
structure Hz (p : Prop) : Prop where
  out : p
theorem hide {p : Prop} (h : p) : Hz p := ⟨h⟩
theorem unhide {p : Prop} (h : Hz p) : p := h.out

theorem grown_of_below {W W' : World} (h : Below W.heap.size W W') : W.grownBy W' none := ⟨h.os, h.tape, h.output, h.size, fun k hk _ => h.block k hk⟩
theorem grown_iterAt (w : World) (k : Nat) (s : ByteArray) (pos : Nat) : w.grownBy (w.iterAt k s pos) (some k) :=
  ⟨rfl, rfl, rfl, by rw [Lib.iterAt_size]; exact Nat.le_refl _, fun i _ h => Lib.iterAt_other w k i s pos (fun e => h (by rw [e]))⟩
theorem iterPos_at {w : World} {k : Nat} {s : ByteArray} {pos : Nat} (h : w.heap[k]? = some (.stringIter s pos)) : w.iterPos k = pos := by unfold World.iterPos; rw [h]

/-- What a round that goes on keeps: the box with the text, and whatever is walked over. -/
def KpS (b : Nat) (W W' : World) : Prop := W'.cell? ⟨b, 0, none⟩ = W.cell? ⟨b, 0, none⟩ ∧ KeepsWalks W W'
abbrev encsS (s : ByteArray) (i : Nat) : Array Value := #[.int .i64 i, encSpot (spotV s i)]

theorem cell_lt {W : World} {a : Addr} {v : Value} (h : W.cell? a = some v) : a.block < W.heap.size := by
  obtain ⟨o, ho, _⟩ := cells_of_cell h
  exact (Array.getElem?_eq_some_iff.1 ho).1
theorem startsFrom_length (s : ByteArray) : ∀ f i, (startsFrom s f i).length ≤ f
  | 0, i => by simp [startsFrom]
  | f + 1, i => by
    unfold startsFrom
    split
    · have := startsFrom_length s f (i + wd s i); simp; omega
    · simp
theorem starts_length (s : ByteArray) : (starts s).length ≤ s.size := startsFrom_length s _ _

set_option maxRecDepth 100000 in
set_option maxHeartbeats 2000000 in
theorem iter_in (n l Bn : Nat) (hn : 1 ≤ n) (s : ByteArray) (hs : s.size ≤ maxLen) (J Jx : List Nat → World → Prop) (W0 : World) (hJ : AbidesFrom W0.heap.size J)
    (hY : ∀ pre x W, J pre W → pre.length < s.size → YieldAt Fence.wide (n - 1) Tryz.prog l (encsS s x) W fun e W' =>
      (e = .returned (.bool true) ∧ J (pre ++ [x]) W' ∧ KpS Bn W W') ∨ (e = .returned (.bool false) ∧ Jx (pre ++ [x]) W'))
    (hBn : W0.cell? ⟨Bn, 0, none⟩ = some (.string s)) (h0 : J [] W0) :
    CallsIn Fence.wide n Tryz.prog 112 #[.func (.yield l) #[] #[], .pointer (some ⟨Bn, 0, none⟩)] W0 fun e W' => (∃ v, e = .returned v) ∧
      ((∃ ys, ys = starts s ∧ J ys W') ∨ (∃ pre, pre <+: starts s ∧ Jx pre W')) := by
  unfold maxLen at hs
  refine callsIn_of_wp Tryz.func112 rfl trivial ?_ rfl
  simp only [Tryz.ntmps112, List.size_toArray, List.length_cons, List.length_nil, Nat.reduceAdd, Nat.reduceSub, Array.replicate_succ, Array.replicate_zero, List.push_toArray, List.append_toArray, List.nil_append, List.cons_append]
  have hlt : Bn < W0.heap.size := cell_lt hBn
  gi_wp2
  gi_loopw [3] (fun _ wr => ∃ (pre : List Nat) (pos f : Nat), starts s = pre ++ startsFrom s f pos ∧ s.size ≤ pos + f ∧ wr.heap[W0.heap.size]? = some (.stringIter s pos) ∧ wr.cell? ⟨Bn, 0, none⟩ = some (.string s) ∧ J pre wr)
    (fun _ wr => s.size - wr.iterPos W0.heap.size)
  case atStart =>
    exact ⟨[], 0, s.size, rfl, by omega, World.iter_heap W0 s 0, ((World.grownBy_alloc W0 (.stringIter s 0) none).cell hBn (by simp)), hJ _ _ _ none h0 (World.grownBy_alloc W0 (.stringIter s 0) none) (fun r e => by cases e)⟩
  case round =>
    obtain ⟨pre, pos, f, hst, hf, hit, hc, hj⟩ := hrel
    have hpl : pre.length + (startsFrom s f pos).length ≤ s.size := by rw [← List.length_append, ← hst]; exact starts_length s
    by_cases hp : pos < s.size
    · obtain ⟨f, rfl⟩ : ∃ g, f = g + 1 := ⟨f - 1, by omega⟩
      rw [startsFrom_cons s f pos hp] at hst hpl
      have hnx : ∀ ty, (Instr.next (.pointer (some ⟨W0.heap.size, 0, none⟩)) true ty).run Tryz.prog wr = _ := fun ty => Lib.run_next_any_at wr W0.heap.size s pos ty hit hp
      have hg1 := grown_iterAt wr W0.heap.size s (pos + (Utf8.decode s pos).2)
      have hj1 := hJ pre _ _ _ hj hg1 (fun r e => by cases e; exact ⟨Nat.le_refl _, _, hit, rfl⟩)
      have hc1 := hg1.cell hc (by simp; omega)
      have hi1 := Lib.iterAt_heap wr W0.heap.size s pos (pos + (Utf8.decode s pos).2) hit
      have hsz : W0.heap.size < (wr.iterAt W0.heap.size s (pos + (Utf8.decode s pos).2)).heap.size := (Array.getElem?_eq_some_iff.1 hi1).1
      have HY := hide hY
      have HJ := hide hJ
      have HS := hide hst
      have HP := hide hit
      have HR := hide (spotR_eq s pos hp)
      clear hg1 hj hit hst hY hJ h0
      gi_wp2_with fail
      refine ⟨trivial, ?_⟩
      refine (callsIn_wide.2 (spotOf_any _ (by rw [ByteArray.size_extract]; unfold maxLen; omega) _ _)).mono ?_
      rintro e W2 ⟨rfl, hb2⟩
      rw [show spotR (s.extract pos s.size) ((Utf8.decode s pos).1 : Int) = spotV s pos from unhide HR]
      have hj2 := (unhide HJ) pre _ _ none hj1 (grown_of_below hb2) (fun r e => by cases e)
      have hc2 : W2.cell? ⟨Bn, 0, none⟩ = some (.string s) := (hb2.cell (p := ⟨Bn, 0, none⟩) (by show Bn < _; omega)).trans hc1
      have hi2 : W2.heap[W0.heap.size]? = some (.stringIter s (pos + (Utf8.decode s pos).2)) := (hb2.block _ hsz).trans hi1
      obtain ⟨fn, tmps, assign, body, hy, hR⟩ := (unhide HY) pre pos W2 hj2 (by simp at hpl; omega)
      dsimp only [encsS] at hy
      clear hj2 hb2 hnx hj1 hc1 hi1
      gi_wp2
      refine hR.mono ?_
      rintro e W3 (⟨rfl, hJ3, hk3⟩ | ⟨rfl, hJx3⟩)
      · have hi3 := hk3.2.same _ _ hi2 rfl
        have hc3 := hk3.1.trans hc2
        gi_wp2
        go_roundw
        case rel => exact ⟨pre ++ [pos], pos + wd s pos, f, by rw [unhide HS]; simp, by have := wd_pos s pos; omega, hi3, hc3, hJ3⟩
        case measure => rw [iterPos_at hi3, iterPos_at (unhide HP)]; have := wd_pos s pos; simp only [wd] at this; omega
      · gi_wp2
        refine bodyPost_ret (results_none rfl _ _ _) rfl ?_
        exact ⟨⟨_, rfl⟩, .inr ⟨pre ++ [pos], ⟨startsFrom s f (pos + wd s pos), by rw [unhide HS]; simp⟩, hJx3⟩⟩
    · have hnx : ∀ ty, (Instr.next (.pointer (some ⟨W0.heap.size, 0, none⟩)) true ty).run Tryz.prog wr = _ := fun ty => Lib.run_next_end_at wr W0.heap.size s pos ty hit hp
      rw [startsFrom_end s f pos hp, List.append_nil] at hst
      have HS := hide hst
      clear hst hY hJ h0 hpl
      gi_wp2
      go_end0
      exact ⟨⟨_, rfl⟩, .inl ⟨pre, (unhide HS).symm, hj⟩⟩

/-- The value that Spots hands back keeps the word of an iterator. -/
theorem spots_stops (n Bn : Nat) (hn : 1 ≤ n) (s : ByteArray) (hs : s.size ≤ maxLen) (w : World) (hc : w.cell? ⟨Bn, 0, none⟩ = some (.string s)) :
    SeqStopsK Fence.wide n Tryz.prog 112 #[.pointer (some ⟨Bn, 0, none⟩)] (encsS s) (KpS Bn) (fun ys => ys = starts s) (fun pre => pre <+: starts s) s.size w := fun l J Jx W hW hJ _ hY h0 =>
  iter_in n l Bn hn s hs J Jx W hJ hY ((hW.cell (p := ⟨Bn, 0, none⟩) (cell_lt hc)).trans hc) h0

theorem KpS_t {b : Nat} {A B C : World} (h : KpS b A B) (k : KpS b B C) : KpS b A C := ⟨k.1.trans h.1, h.2.trans k.2⟩
theorem KpS_b {b : Nat} {w : World} (hb : b < w.heap.size) (W : World) (l : Nat) (o o' : Obj) (hl : w.heap.size ≤ l) (h : W.heap[l]? = some o) (_ : o.isCells = false) (hw : o.isWalk = false) : KpS b W (W.putObj l o') :=
  ⟨World.cell?_of_block (World.putObj_heap_other (by show b ≠ l; omega)), KeepsWalks.putObj _ h hw⟩

theorem spots_any (s : ByteArray) (w : World) : Calls Tryz.prog 101 #[.string s] w fun e w' => e = .returned (.func (.func 112) #[] #[.pointer (some ⟨w.heap.size, 0, none⟩)]) ∧ w' = w.alloc (.cells #[.string s] 9) := by
  go_enter Tryz.func101, Tryz.ntmps101
  go_wp2
  go_ret
  exact ⟨rfl, rfl⟩
end Go.Proofs.YtcnhkhjkeemafaaGreatDoor
/- First, told for every text: its first spot and true, or the zero spot and false. -/
namespace Go.Proofs.YtcnhkhjkeemafaaGreatDoor
open Go.RowKit Go.Shelf
attribute [local go_sem] Oper.semAt_some
set_option linter.unusedVariables false

/-- A block of cells, none of them frozen. -/
def Blk (W : World) (B : Nat) (cs : Array Value) (t : TypeId) : Prop := W.heap[B]? = some (.cells cs t (0, 0))
theorem Blk.lt {W : World} {B : Nat} {cs : Array Value} {t : TypeId} (h : Blk W B cs t) : B < W.heap.size := (Array.getElem?_eq_some_iff.1 h).1
theorem Blk.cell {W : World} {B : Nat} {cs : Array Value} {t : TypeId} (h : Blk W B cs t) (i : Nat) : W.cell? ⟨B, i, none⟩ = cs[i]? := by
  simp [World.cell?, show W.heap[B]? = _ from h]
theorem Blk.frozen {W : World} {B : Nat} {cs : Array Value} {t : TypeId} (h : Blk W B cs t) (i : Nat) : W.frozen? ⟨B, i, none⟩ = false := by simp [World.frozen?, show W.heap[B]? = _ from h]
theorem Blk.new (W : World) (cs : Array Value) (t : TypeId) : Blk (W.alloc (.cells cs t)) W.heap.size cs t := World.alloc_heap_new W _
theorem Blk.kept {W W' : World} {row : Option Nat} {B : Nat} {cs : Array Value} {t : TypeId} (h : Blk W B cs t) (hg : W.grownBy W' row) (hne : some B ≠ row) : Blk W' B cs t := (hg.block B h.lt hne).trans h
theorem Blk.alloc {W : World} {B : Nat} {cs : Array Value} {t : TypeId} (h : Blk W B cs t) (o : Obj) : Blk (W.alloc o) B cs t := h.kept (World.grownBy_alloc W o none) (by simp)
theorem Blk.below {W W' : World} {N B : Nat} {cs : Array Value} {t : TypeId} (h : Blk W B cs t) (hb : Below N W W') (hlt : B < N) : Blk W' B cs t := (hb.block B hlt).trans h
theorem Blk.own {β : Type} (B : Nat) (cs : β → Array Value) (t : TypeId) : Own (fun s W => Blk W B (cs s) t) := fun s A A' row hs hg hr => hs.kept hg (fun e => by
  obtain ⟨o, ho, hc⟩ := hr B e.symm
  rw [show A.heap[B]? = _ from hs] at ho
  cases ho
  simp [Obj.isCells] at hc)

theorem Blk.set {W : World} {B : Nat} {cs : Array Value} {t : TypeId} (h : Blk W B cs t) (i : Nat) (v : Value) : Blk (W.setCell ⟨B, i, none⟩ v) B (cs.setIfInBounds i v) t := by
  show (W.heap.modify B _)[B]? = _
  rw [Array.getElem?_modify, if_pos rfl, show W.heap[B]? = _ from h]
  rfl
theorem Blk.other {W : World} {B B' i : Nat} {cs : Array Value} {t : TypeId} (h : Blk W B cs t) (hne : B ≠ B') (v : Value) : Blk (W.setCell ⟨B', i, none⟩ v) B cs t :=
  (Below.heap_setCell W ⟨B', i, none⟩ v B hne).trans h
theorem Blk.put {W : World} {B l : Nat} {cs : Array Value} {t : TypeId} {o : Obj} (h : Blk W B cs t) (o' : Obj) (hl : W.heap[l]? = some o) (ho : o.isCells = false) : Blk (W.putObj l o') B cs t :=
  (World.putObj_heap_other (fun e => by subst e; rw [show W.heap[B]? = _ from h] at hl; cases hl; simp [Obj.isCells] at ho)).trans h
abbrev spotCells (x : Int × Int × Bool) : Array Value := #[.int .i32 x.1, .int .i64 x.2.1, .bool x.2.2]
/-- What First answers. -/
def firstV (s : ByteArray) : Value := if 0 < s.size then .tuple #[encSpot (spotV s 0), .bool true] else .tuple #[encSpot (0, 0, false), .bool false]
theorem firstV_pos {s : ByteArray} (h : 0 < s.size) : firstV s = .tuple #[encSpot (spotV s 0), .bool true] := if_pos h
theorem firstV_neg {s : ByteArray} (h : ¬ 0 < s.size) : firstV s = .tuple #[encSpot (0, 0, false), .bool false] := if_neg h
theorem starts_head (s : ByteArray) (h : 0 < s.size) : ∃ r, starts s = 0 :: r := by
  unfold starts
  obtain ⟨m, hm⟩ : ∃ m, s.size = m + 1 := ⟨s.size - 1, by omega⟩
  rw [hm, startsFrom_cons s m 0 h]
  exact ⟨_, rfl⟩
theorem starts_empty (s : ByteArray) (h : ¬ 0 < s.size) : starts s = [] := startsFrom_end s _ _ h

set_option maxRecDepth 100000 in
set_option maxHeartbeats 2000000 in
theorem first_in (n : Nat) (hn : 3 ≤ n) (s : ByteArray) (hs : s.size ≤ maxLen) (w : World) :
    CallsIn Fence.wide n Tryz.prog 85 #[.string s] w fun e W' => e = .returned (firstV s) ∧ Below w.heap.size w W' := by
  have h1 : 1 ≤ n := by omega
  refine callsIn_of_wp_marks Tryz.func85 rfl trivial ?_ rfl
  simp only [Tryz.ntmps85, List.size_toArray, List.length_cons, List.length_nil, Nat.reduceAdd, Nat.reduceSub, Array.replicate_succ, Array.replicate_zero, List.push_toArray, List.append_toArray, List.nil_append, List.cons_append]
  gi_wp2_with (refine ⟨trivial, ?_⟩; gi_at_call 101; refine (callsIn_wide.2 (spots_any _ _)).mono ?_; rintro e w' ⟨rfl, rfl⟩)
  have b2 := ((Blk.new w (spotCells (0, 0, false)) 110).alloc (.cells #[.bool false] 4)).alloc (.cells #[.string s] 9)
  have b3 := (Blk.new (w.alloc (.cells (spotCells (0, 0, false)) 110)) #[.bool false] 4).alloc (.cells #[.string s] 9)
  have bS := Blk.new ((w.alloc (.cells (spotCells (0, 0, false)) 110)).alloc (.cells #[.bool false] 4)) #[.string s] 9
  simp only [World.size_alloc] at b3 bS
  have hB0 : Below w.heap.size w (((w.alloc (.cells (spotCells (0, 0, false)) 110)).alloc (.cells #[.bool false] 4)).alloc (.cells #[.string s] 9)) := (((Below.refl _ w).alloc (Nat.le_refl _) _).alloc (by simp) _).alloc (by simp; omega) _
  have hsz : (((w.alloc (.cells (spotCells (0, 0, false)) 110)).alloc (.cells #[.bool false] 4)).alloc (.cells #[.string s] 9)).heap.size = w.heap.size + 3 := by simp
  obtain ⟨W0, hW0⟩ : ∃ W0, ((w.alloc (.cells (spotCells (0, 0, false)) 110)).alloc (.cells #[.bool false] 4)).alloc (.cells #[.string s] 9) = W0 := ⟨_, rfl⟩
  rw [hW0] at b2 b3 bS hB0 hsz ⊢
  clear hW0
  refine wpIn_rangeFunc_ownH rfl h1 (gf := 112) (lb := #[.pointer (some ⟨w.heap.size + 1 + 1, 0, none⟩)]) rfl trivial (enters_of Tryz.func112 (by kernel_rfl) rfl)
    (spots_stops (n - 1) (w.heap.size + 1 + 1) (by omega) s hs W0 (bS.cell 0)) KpS_t (KpS_b (by omega)) (Below.refl _ _) (fun _ => rfl)
    (fun pre W => (pre = [] ∧ Blk W w.heap.size (spotCells (0, 0, false)) 110 ∧ Blk W (w.heap.size + 1) #[.bool false] 4 ∧ Blk W (w.heap.size + 1 + 1) #[.string s] 9) ∧ Below w.heap.size w W)
    (fun c pre W => (c = .ret ∧ ∃ x, pre = [x] ∧ Blk W w.heap.size (spotCells (spotV s x)) 110 ∧ Blk W (w.heap.size + 1) #[.bool true] 4) ∧ Below w.heap.size w W)
    (OwnFrom.and (Own.from (fun s A B row hs hg hr => ⟨hs.1, Blk.own _ (fun _ => _) _ () A B row hs.2.1 hg hr, Blk.own _ (fun _ => _) _ () A B row hs.2.2.1 hg hr, Blk.own _ (fun _ => _) _ () A B row hs.2.2.2 hg hr⟩) _) (ownFrom_below (Nat.le_refl _) (by omega)))
    (fun c => OwnFrom.and (Own.from (fun s A B row hs hg hr => by
      obtain ⟨hc, x, hx, k2, k3⟩ := hs
      exact ⟨hc, x, hx, Blk.own _ (fun _ => _) _ () A B row k2 hg hr, Blk.own _ (fun _ => _) _ () A B row k3 hg hr⟩) _) (ownFrom_below (Nat.le_refl _) (by omega)))
    ⟨⟨rfl, b2, b3, bS⟩, hB0⟩
    (fun x a' W => ∃ Bx, w.heap.size + 1 + 1 < Bx ∧ Blk W Bx (spotCells (spotV s x)) 110 ∧ a' = { tmps := #[.string s, undef, .pointer (some ⟨w.heap.size, 0, none⟩), .pointer (some ⟨w.heap.size + 1, 0, none⟩), undef, .pointer (some ⟨Bx, 0, none⟩), .string s, .func (.func 112) #[] #[.pointer (some ⟨w.heap.size + 1 + 1, 0, none⟩)], .int .i64 x, encSpot (spotV s x), undef, undef], defers := [] })
    (fun x a' => Own.from (fun u A B row hs hg hr => by
      obtain ⟨Bx, h1, h2, h3⟩ := hs
      exact ⟨Bx, h1, Blk.own _ (fun _ => _) _ () A B row h2 hg hr, h3⟩) _)
    ?assign ?body ?done ?stop
  case assign =>
    rintro l pre x W K ⟨⟨hp, k2, k3, kS⟩, hB⟩ hK
    gi_wp2
    exact hK _ _ ((KeepsOthers.alloc _ _).from _) ⟨(kS.alloc _).cell 0 |>.trans (kS.cell 0).symm, KeepsWalks.alloc _ _⟩ ⟨⟨hp, k2.alloc _, k3.alloc _, kS.alloc _⟩, hB.alloc hB.size _⟩ ⟨W.heap.size, kS.lt, Blk.new W _ 110, rfl⟩
  case body =>
    rintro l pre x a' W hl ⟨r, hr⟩ ⟨⟨rfl, k2, k3, kS⟩, hB⟩ ⟨Bx, hBx, bX, rfl⟩ hlt
    have x0 := bX.cell 0
    have x1 := bX.cell 1
    have x2 := bX.cell 2
    have c0 := k2.cell 0
    have c1 := k2.cell 1
    have c2 := k2.cell 2
    have c3 := k3.cell 0
    have f0 := k2.frozen
    have f3 := k3.frozen
    gi_wp2
    refine ⟨((((KeepsOthers.setCell _ _ _).trans (KeepsOthers.setCell _ _ _)).trans (KeepsOthers.setCell _ _ _)).trans (KeepsOthers.setCell _ _ _)).from _, ⟨rfl, x, rfl, ?_, ?_⟩, ?_⟩
    · exact Blk.other (((k2.set 0 _).set 1 _).set 2 _) (by omega) _
    · exact (((k3.other (by omega) _).other (by omega) _).other (by omega) _).set 0 _
    · exact (((hB.setCell (p := ⟨w.heap.size, 0, none⟩) (Nat.le_refl _) _).setCell (p := ⟨w.heap.size, 1, none⟩) (Nat.le_refl _) _).setCell (p := ⟨w.heap.size, 2, none⟩) (Nat.le_refl _) _).setCell (p := ⟨w.heap.size + 1, 0, none⟩) (by simp) _
  case done =>
    rintro D ys W hD hys ⟨⟨hne, k2, k3, _⟩, hB⟩ hK
    have hz : ¬ 0 < s.size := fun h => by
      obtain ⟨r, hr⟩ := starts_head s h
      rw [hys, hr] at hne
      cases hne
    have c0 := k2.cell 0
    have c1 := k2.cell 1
    have c2 := k2.cell 2
    have c3 := k3.cell 0
    have f0 := k2.frozen
    have f3 := k3.frozen
    clear hys hne
    gi_wp2
    have hK' := ((((KeepsOthers.setCell W ⟨w.heap.size, 0, none⟩ (.int .i32 0)).trans (KeepsOthers.setCell _ ⟨w.heap.size, 1, none⟩ (.int .i64 0))).trans (KeepsOthers.setCell _ ⟨w.heap.size, 2, none⟩ (.bool false))).trans (KeepsOthers.setCell _ ⟨w.heap.size + 1, 0, none⟩ (.bool false))).same D _ hK rfl
    have k2' := Blk.other (i := 0) (((k2.set 0 (.int .i32 0)).set 1 (.int .i64 0)).set 2 (.bool false)) (B' := w.heap.size + 1) (by omega) (.bool false)
    have k3' := (((k3.other (B' := w.heap.size) (i := 0) (by omega) (.int .i32 0)).other (B' := w.heap.size) (i := 1) (by omega) (.int .i64 0)).other (B' := w.heap.size) (i := 2) (by omega) (.bool false)).set 0 (.bool false)
    have hB' := (((hB.setCell (p := ⟨w.heap.size, 0, none⟩) (Nat.le_refl _) (.int .i32 0)).setCell (p := ⟨w.heap.size, 1, none⟩) (Nat.le_refl _) (.int .i64 0)).setCell (p := ⟨w.heap.size, 2, none⟩) (Nat.le_refl _) (.bool false)).setCell (p := ⟨w.heap.size + 1, 0, none⟩) (by simp) (.bool false)
    clear hK k2 k3 hB c0 c1 c2 c3 f0 f3
    refine ⟨by simp, .inl ⟨_, _, rfl, run_takeDeferred hK', ?_⟩⟩
    have q2 := k2'.put (.deferred Option.none) hK' rfl
    have q3 := k3'.put (.deferred Option.none) hK' rfl
    have c0 := q2.cell 0
    have c1 := q2.cell 1
    have c2 := q2.cell 2
    have c3 := q3.cell 0
    refine ⟨.tuple #[encSpot (0, 0, false), .bool false], ?_, by rw [firstV_neg hz], hB'.trans (belowK_b (w := w) (Nat.le_refl _) _ D _ _ (by omega) hK' rfl rfl)⟩
    simp [results, Tryz.f85, go_sem, c0, c1, c2, c3]
  case stop =>
    rintro D c pre W hD hpre ⟨⟨rfl, x, rfl, k2, k3⟩, hB⟩ hK
    have hz : 0 < s.size := by
      rcases Nat.eq_zero_or_pos s.size with h | h
      · rw [starts_empty s (by omega)] at hpre; simp at hpre
      · exact h
    obtain ⟨r, hr⟩ := starts_head s hz
    rw [hr] at hpre
    obtain rfl : x = 0 := by obtain ⟨t, ht⟩ := hpre; simp at ht; exact ht.1
    clear hpre hr
    gi_wp2
    refine ⟨by simp, .inl ⟨_, _, rfl, run_takeDeferred hK, ?_⟩⟩
    have q2 := k2.put (.deferred Option.none) hK rfl
    have q3 := k3.put (.deferred Option.none) hK rfl
    have c0 := q2.cell 0
    have c1 := q2.cell 1
    have c2 := q2.cell 2
    have c3 := q3.cell 0
    refine ⟨.tuple #[encSpot (spotV s 0), .bool true], ?_, by rw [firstV_pos hz], hB.trans (belowK_b (w := w) (Nat.le_refl _) W D _ _ (by omega) hK rfl rfl)⟩
    simp [results, Tryz.f85, go_sem, c0, c1, c2, c3]
end Go.Proofs.YtcnhkhjkeemafaaGreatDoor
/- Bound, Cut and Joins, told for every text and every number. -/
namespace Go.Proofs.YtcnhkhjkeemafaaGreatDoor
open Go.RowKit Go.Shelf
set_option linter.unusedVariables false

theorem first_any (s : ByteArray) (hs : s.size ≤ maxLen) (w : World) : Calls Tryz.prog 85 #[.string s] w fun e W' => e = .returned (firstV s) ∧ Below w.heap.size w W' :=
  callsIn_wide.1 (first_in 3 (Nat.le_refl _) s hs w)

/-- What First answers of the text from i on. -/
theorem firstV_at (s : ByteArray) (i : Nat) (h : i < s.size) : firstV (s.extract i s.size) = .tuple #[.agg #[.int .i32 (rn s i), .int .i64 (wd s i), .bool (decide (rn s i = 65533 ∧ wd s i = 1))], .bool true] := by
  rw [firstV_pos (by rw [ByteArray.size_extract]; omega)]
  simp only [encSpot, spotV, rn, wd, decode_suffix s i 0 (Nat.le_of_lt h), Nat.add_zero]

def boundV (s : ByteArray) (a : Int) : Bool := decide (0 ≤ a ∧ a ≤ s.size) && bdB s a.toNat

set_option maxHeartbeats 1000000 in
theorem bound_out (s : ByteArray) (hs : s.size ≤ maxLen) (a : Int) (ha : a < 0 ∨ (s.size : Int) < a) (w : World) :
    Calls Tryz.prog 59 #[.string s, .int .i64 a] w fun e w' => e = .returned (.bool false) ∧ w' = w := by
  unfold maxLen at hs
  rcases ha with ha | ha
  · go_enter Tryz.func59, Tryz.ntmps59
    go_wp2
    go_ret
    exact ⟨rfl, rfl⟩
  · have h0 : ¬ a < 0 := by omega
    go_enter Tryz.func59, Tryz.ntmps59
    go_wp2
    go_ret
    exact ⟨rfl, rfl⟩

set_option maxHeartbeats 1000000 in
theorem bound_in (s : ByteArray) (hs : s.size ≤ maxLen) (p : Nat) (hp : p ≤ s.size) (w : World) :
    Calls Tryz.prog 59 #[.string s, .int .i64 p] w fun e w' => e = .returned (.bool (bdB s p)) ∧ Below w.heap.size w w' := by
  unfold maxLen at hs
  have h0 : ¬ (p : Int) < 0 := by omega
  have h1 : ¬ (s.size : Int) < (p : Int) := by omega
  go_enter Tryz.func59, Tryz.ntmps59
  go_wp2
  go_loopw [5] (fun i wr => ∃ k : Nat, 1 ≤ k ∧ k ≤ 4 ∧ i = .int .i64 k ∧ Hz (∀ m, m < k → 1 ≤ m → m ≤ p → wd s (p - m) ≤ m) ∧ Below w.heap.size w wr) (fun i _ => 4 - (intOf i).toNat)
  case atStart => exact ⟨1, by omega, by omega, rfl, hide (fun m h1 h2 => by omega), Below.refl _ _⟩
  case round =>
    obtain ⟨k, hk1, hk4, rfl, H, hB⟩ := hrel
    by_cases h4 : k < 4
    · by_cases hkp : k ≤ p
      · have hfv := firstV_at s (p - k) (by omega)
        generalize decide (rn s (p - k) = 65533 ∧ wd s (p - k) = 1) = b at hfv
        generalize rn s (p - k) = r at hfv
        obtain ⟨d, hd⟩ : ∃ d, wd s (p - k) = d := ⟨_, rfl⟩
        rw [hd] at hfv
        have HF := hide hfv
        have HD := hide hd
        clear hfv hd
        go_wp2_with fail
        refine (first_any _ (by rw [ByteArray.size_extract]; unfold maxLen; omega) _).mono ?_
        rintro e w1 ⟨rfl, hb1⟩
        rw [HF.out]
        have hB1 : Below w.heap.size w w1 := hB.trans (hb1.mono hB.size)
        clear hb1
        by_cases hdk : (k : Int) < d
        · go_wp2
          go_ret
          refine ⟨?_, hB1.alloc hB1.size _⟩
          have : bdB s p = false := by
            rw [← Bool.not_eq_true, bd_iff]
            intro h
            have := h k h4 hk1 hkp
            rw [HD.out] at this
            omega
          rw [this]
          rfl
        · go_wp2
          go_roundw
          case rel =>
            refine ⟨k + 1, by omega, by omega, by go_num, hide (fun m h1 h2 h3 => ?_), hB1.alloc hB1.size _⟩
            by_cases e : m = k
            · subst e; rw [HD.out]; omega
            · exact H.out m (by omega) h2 h3
          case measure => simp [intOf]; omega
      · go_wp2
        go_ret
        refine ⟨?_, hB⟩
        rw [(bd_iff s p).2 (fun m h1 h2 h3 => H.out m (by omega) h2 h3)]
        rfl
    · go_wp2
      go_ret
      refine ⟨?_, hB⟩
      rw [(bd_iff s p).2 (fun m h1 h2 h3 => H.out m (by omega) h2 h3)]
      rfl

theorem bound_any (s : ByteArray) (hs : s.size ≤ maxLen) (a : Int) (w : World) :
    Calls Tryz.prog 59 #[.string s, .int .i64 a] w fun e w' => e = .returned (.bool (boundV s a)) ∧ Below w.heap.size w w' := by
  by_cases ha : 0 ≤ a ∧ a ≤ s.size
  · obtain ⟨p, rfl⟩ := Int.eq_ofNat_of_zero_le ha.1
    refine (bound_in s hs p (by omega) w).mono ?_
    rintro e w' ⟨rfl, hb⟩
    exact ⟨by rw [boundV, decide_eq_true ha]; simp, hb⟩
  · refine (bound_out s hs a (by omega) w).mono ?_
    rintro e w' ⟨rfl, rfl⟩
    exact ⟨by rw [boundV, decide_eq_false ha]; simp, Below.refl _ _⟩

/-- The greatest bound that is not above p. -/
def cutAt (s : ByteArray) : Nat → Nat
  | 0 => 0
  | p + 1 => if bdB s (p + 1) then p + 1 else cutAt s p
theorem cutAt_le (s : ByteArray) : ∀ p, cutAt s p ≤ p
  | 0 => Nat.le_refl _
  | p + 1 => by unfold cutAt; split; exact Nat.le_refl _; exact Nat.le_succ_of_le (cutAt_le s p)
theorem cutAt_bd (s : ByteArray) : ∀ p, bdB s (cutAt s p) = true
  | 0 => bd_zero s
  | p + 1 => by
    unfold cutAt
    split
    · assumption
    · exact cutAt_bd s p
theorem cutAt_max (s : ByteArray) : ∀ p q, q ≤ p → bdB s q = true → q ≤ cutAt s p
  | 0, q, h, _ => h
  | p + 1, q, h, hq => by
    unfold cutAt
    split
    · exact h
    · rename_i hn
      exact cutAt_max s p q (by
        rcases Nat.lt_or_ge q (p + 1) with hl | hl
        · omega
        · have : q = p + 1 := by omega
          subst this; exact absurd hq hn) hq
theorem cutAt_self (s : ByteArray) (p : Nat) (h : bdB s p = true) : cutAt s p = p := Nat.le_antisymm (cutAt_le s p) (cutAt_max s p p (Nat.le_refl _) h)
theorem cutAt_pred (s : ByteArray) (p : Nat) (h : bdB s p = false) : 1 ≤ p ∧ cutAt s p = cutAt s (p - 1) := by
  cases p with
  | zero => rw [bd_zero] at h; cases h
  | succ p => refine ⟨by omega, ?_⟩; rw [cutAt, if_neg (by simp [h])]; rfl
/-- The number, brought within the text. -/
def clampV (s : ByteArray) (a : Int) : Nat := min a.toNat s.size

set_option maxHeartbeats 2000000 in
theorem cut_any (s : ByteArray) (hs : s.size ≤ maxLen) (a : Int) (w : World) :
    Calls Tryz.prog 27 #[.string s, .int .i64 a] w fun e w' => e = .returned (.tuple #[.string (s.extract 0 (cutAt s (clampV s a))), .string (s.extract (cutAt s (clampV s a)) s.size)]) ∧ Below w.heap.size w w' := by
  have hs' := hs
  unfold maxLen at hs
  obtain ⟨c, hc, hcs⟩ : ∃ c, clampV s a = c ∧ c ≤ s.size := ⟨_, rfl, Nat.min_le_right _ _⟩
  have hc3 : (a < 0 ∧ c = 0) ∨ (0 ≤ a ∧ a ≤ s.size ∧ a = c) ∨ ((s.size : Int) < a ∧ c = s.size) := by unfold clampV at hc; omega
  rw [hc]
  have HS := hide hs'
  clear hc hs'
  rcases hc3 with ⟨h0, rfl⟩ | ⟨h0, h1, rfl⟩ | ⟨h0, rfl⟩
  all_goals
    go_enter Tryz.func27, Tryz.ntmps27
    go_wp2
    go_loopw [1] (fun i wr => ∃ k : Nat, k ≤ s.size ∧ i = .int .i64 k ∧ Hz (cutAt s k = cutAt s _) ∧ Below w.heap.size w wr) (fun i _ => (intOf i).toNat)
    case atStart => exact ⟨_, hcs, rfl, hide rfl, Below.refl _ _⟩
    case round =>
      obtain ⟨k, hk, rfl, H, hB⟩ := hrel
      go_wp2_with fail
      refine (bound_in s (unhide HS) k hk _).mono ?_
      rintro e w1 ⟨rfl, hb1⟩
      have hB1 : Below w.heap.size w w1 := hB.trans (hb1.mono hB.size)
      clear hb1 hB
      cases hb : bdB s k with
      | true =>
        have he := (cutAt_self s k hb).symm.trans (unhide H)
        have HE := hide he
        clear hb H he
        have hk0 : (0 : Int) ≤ k := by omega
        have hk1 : (k : Int) ≤ s.size := by omega
        go_wp2
        go_quiet (fail)
        go_wp2
        go_ret2
        exact ⟨by rw [← unhide HE]; rfl, below_drewN hB1 _⟩
      | false =>
        obtain ⟨hk1, he⟩ := cutAt_pred s k hb
        have HE := hide (he.symm.trans (unhide H))
        clear hb H he
        go_wp2
        go_roundw
        case rel => exact ⟨k - 1, by omega, by go_num, HE, hB1⟩
        case measure => simp [intOf]; omega

def joinsV (s t : ByteArray) : Bool := bdB (s.extract (s.size - 3) s.size ++ t.extract 0 (min t.size 3)) (min s.size 3)

theorem joinsV_eq (s t u v : ByteArray) (p : Nat) (hu : s.extract (s.size - 3) s.size = u) (hv : t.extract 0 (min t.size 3) = v) (hp : min s.size 3 = p) : bdB (u ++ v) p = joinsV s t := by
  unfold joinsV; rw [hu, hv, hp]
theorem extract_all (s : ByteArray) (i : Nat) (h : i = 0) : s.extract i s.size = s := by subst h; exact ByteArray.extract_zero_size
theorem extract_head (s : ByteArray) (i : Nat) (h : i = s.size) : s.extract 0 i = s := by subst h; exact ByteArray.extract_zero_size

end Go.Proofs.YtcnhkhjkeemafaaGreatDoor
/- Last, told for every text; and what every statement asks first: that the text of an e and of a bad byte has its two spots. -/
namespace Go.Proofs.YtcnhkhjkeemafaaGreatDoor
open Go.RowKit Go.Shelf
set_option linter.unusedVariables false

/-- Does a sequence of m bytes end the text? -/
def goodEnd (s : ByteArray) (m : Nat) : Bool := decide (m ≤ s.size ∧ wd s (s.size - m) = m ∧ ¬ (rn s (s.size - m) = 65533 ∧ wd s (s.size - m) = 1))
def lastS (s : ByteArray) : Int × Int × Bool :=
  if goodEnd s 1 then spotV s (s.size - 1) else if goodEnd s 2 then spotV s (s.size - 2) else if goodEnd s 3 then spotV s (s.size - 3) else if goodEnd s 4 then spotV s (s.size - 4) else (65533, 1, true)
def lastV (s : ByteArray) : Value := if 0 < s.size then .tuple #[encSpot (lastS s), .bool true] else .tuple #[encSpot (0, 0, false), .bool false]
theorem lastV_pos {s : ByteArray} (h : 0 < s.size) : lastV s = .tuple #[encSpot (lastS s), .bool true] := if_pos h
theorem lastV_neg {s : ByteArray} (h : ¬ 0 < s.size) : lastV s = .tuple #[encSpot (0, 0, false), .bool false] := if_neg h
theorem lastS_hit (s : ByteArray) (k : Nat) (h1 : 1 ≤ k) (h4 : k ≤ 4) (hg : goodEnd s k = true) (hn : ∀ m, m < k → 1 ≤ m → goodEnd s m = false) : lastS s = spotV s (s.size - k) := by
  have : k = 1 ∨ k = 2 ∨ k = 3 ∨ k = 4 := by omega
  unfold lastS
  rcases this with rfl | rfl | rfl | rfl
  · rw [if_pos hg]
  · rw [if_neg (by simp [hn 1]), if_pos hg]
  · rw [if_neg (by simp [hn 1]), if_neg (by simp [hn 2]), if_pos hg]
  · rw [if_neg (by simp [hn 1]), if_neg (by simp [hn 2]), if_neg (by simp [hn 3]), if_pos hg]
theorem lastS_none (s : ByteArray) (hn : ∀ m, m < 5 → 1 ≤ m → goodEnd s m = false) : lastS s = (65533, 1, true) := by
  unfold lastS
  rw [if_neg (by simp [hn 1]), if_neg (by simp [hn 2]), if_neg (by simp [hn 3]), if_neg (by simp [hn 4])]

/-- The text that every statement looks at first. -/
def text0 : ByteArray := ⟨#[195, 169, 255]⟩
theorem first0 : firstV text0 = .tuple #[.agg #[.int .i32 233, .int .i64 2, .bool false], .bool true] := by
  rw [firstV_pos (by decide)]
  have : Utf8.decode text0 0 = (233, 2) := by decide
  simp [spotV, rn, wd, this]
theorem last0 : lastV text0 = .tuple #[.agg #[.int .i32 65533, .int .i64 1, .bool true], .bool true] := by
  rw [lastV_pos (by decide), show lastS text0 = (65533, 1, true) by decide]

end Go.Proofs.YtcnhkhjkeemafaaGreatDoor
/- Count, Runes, Clean and Valid, told for every text that is not too great. -/
namespace Go.Proofs.YtcnhkhjkeemafaaGreatDoor
open Go.RowKit Go.Shelf
attribute [local go_sem] Oper.semAt_some
set_option linter.unusedVariables false

set_option maxRecDepth 100000 in
set_option maxHeartbeats 2000000 in
theorem count_any (s : ByteArray) (hs : s.size ≤ maxLen) (w : World) : Calls Tryz.prog 30 #[.string s] w fun e w' => e = .returned (.int .i64 (starts s).length) ∧ Below w.heap.size w w' := by
  unfold maxLen at hs
  go_enter Tryz.func30, Tryz.ntmps30
  go_wp2
  go_loopw [3] (fun n w' => ∃ (pre : List Nat) (pos f : Nat), w' = w.iter s pos ∧ n = .int .i64 pre.length ∧ Hz (starts s = pre ++ startsFrom s f pos) ∧ s.size ≤ pos + f) (fun _ w' => s.size - w'.iterPos w.heap.size)
  case atStart => exact ⟨[], 0, s.size, rfl, rfl, hide rfl, by omega⟩
  case round =>
    obtain ⟨pre, pos, f, rfl, rfl, HS, hf⟩ := hrel
    by_cases hp : pos < s.size
    · have hnx : ∀ ty, (Instr.next (.pointer (some ⟨w.heap.size, 0, none⟩)) true ty).run Tryz.prog (w.iter s pos) = _ := fun ty => run_next_any w s pos ty hp
      have hpl : (pre.length : Int) < 2 ^ 63 - 1 := by
        have h1 := starts_length s
        obtain ⟨g, rfl⟩ : ∃ g, f = g + 1 := ⟨f - 1, by omega⟩
        rw [unhide HS, List.length_append, startsFrom_cons s g pos hp] at h1
        simp at h1
        omega
      go_wp2
      have hwd := wd_pos s pos
      go_roundw
      case rel =>
        refine ⟨pre ++ [pos], pos + wd s pos, f - 1, rfl, ?_, hide ?_, by omega⟩
        · rw [List.length_append]; go_num
        · obtain ⟨g, rfl⟩ : ∃ g, f = g + 1 := ⟨f - 1, by omega⟩
          rw [unhide HS, startsFrom_cons s g pos hp]; simp
      case measure =>
        simp
        simp only [wd] at hwd
        omega
    · have hnx : ∀ ty, (Instr.next (.pointer (some ⟨w.heap.size, 0, none⟩)) true ty).run Tryz.prog (w.iter s pos) = _ := fun ty => run_next_end w s pos ty hp
      have hst := unhide HS
      rw [startsFrom_end s f pos hp, List.append_nil] at hst
      have HST := hide hst
      clear hst HS
      go_wp2
      go_ret
      exact ⟨by rw [unhide HST]; rfl, (Below.refl _ _).alloc (Nat.le_refl _) _⟩

/-- The runes of the spots. -/
def runesL (s : ByteArray) : List Int := (starts s).map (fun i => ((rn s i : Nat) : Int))
theorem runesFrom_eq (s : ByteArray) : ∀ f i (acc : Array Value), Conv.runesFrom s f i acc = acc ++ ((startsFrom s f i).map (fun i => Value.int .i32 (rn s i))).toArray
  | 0, i, acc => by simp [Conv.runesFrom, startsFrom]
  | f + 1, i, acc => by
    unfold Conv.runesFrom startsFrom
    split
    · show Conv.runesFrom s f (i + wd s i) (acc.push (.int .i32 (rn s i))) = _
      rw [runesFrom_eq s f]
      simp
    · simp
theorem runesFrom_all (s : ByteArray) : Conv.runesFrom s s.size 0 #[] = ((runesL s).map (Value.int .i32)).toArray := by
  rw [runesFrom_eq]; simp [runesL, starts]
theorem runesL_length (s : ByteArray) : (runesL s).length = (starts s).length := by simp [runesL]

theorem runes_cell (W : World) (zs : List Int) (cs : Array Value) (t : TypeId) (j : Nat) (h : j < zs.length) :
    (W.alloc (.cells ((zs.map (Value.int .i32)).toArray ++ cs) t)).cell? ((⟨W.heap.size, 0, none⟩ : Addr).add j) = some (.int .i32 (zs.getD j 0)) := by
  rw [show (⟨W.heap.size, 0, none⟩ : Addr).add j = ⟨W.heap.size, j, none⟩ by unfold Addr.add; split <;> simp_all]
  rw [(Blk.new W _ t).cell j, Array.getElem?_append_left (by simpa using h)]
  simp [List.getD, List.getElem?_eq_getElem h]

/-- The text of the runes of the spots. -/
def cleanV (s : ByteArray) : ByteArray := runesBytes (runesL s)

/-- Is what stands at i bad? -/
def badB (s : ByteArray) (i : Nat) : Bool := decide (rn s i = 65533 ∧ wd s i = 1)
def validFrom (s : ByteArray) : List Nat → Nat → Value
  | [], _ => .tuple #[.agg #[.int .i64 0, .int .i64 0], .bool true]
  | i :: l, n => if badB s i then .tuple #[.agg #[.int .i64 i, .int .i64 n], .bool false] else validFrom s l (n + 1)
def validV (s : ByteArray) : Value := validFrom s (starts s) 0
theorem validFrom_none (s : ByteArray) : ∀ (l : List Nat) (n : Nat), (∀ i ∈ l, badB s i = false) → validFrom s l n = .tuple #[.agg #[.int .i64 0, .int .i64 0], .bool true]
  | [], _, _ => rfl
  | i :: l, n, h => by
    unfold validFrom
    rw [if_neg (by rw [h i (by simp)]; simp)]
    exact validFrom_none s l (n + 1) (fun j hj => h j (by simp [hj]))
theorem validFrom_some (s : ByteArray) (x : Nat) (r : List Nat) (hx : badB s x = true) : ∀ (q : List Nat) (n : Nat), (∀ i ∈ q, badB s i = false) → validFrom s (q ++ x :: r) n = .tuple #[.agg #[.int .i64 x, .int .i64 ((n + q.length : Nat) : Int)], .bool false]
  | [], n, _ => by simp [validFrom, hx]
  | i :: q, n, h => by
    rw [List.cons_append]
    unfold validFrom
    rw [if_neg (by rw [h i (by simp)]; simp), validFrom_some s x r hx q (n + 1) (fun j hj => h j (by simp [hj]))]
    rw [show n + 1 + q.length = n + (i :: q).length by simp; omega]

set_option maxRecDepth 100000 in
set_option maxHeartbeats 4000000 in
theorem valid_in (n : Nat) (hn : 3 ≤ n) (s : ByteArray) (hs : s.size ≤ maxLen) (w : World) :
    CallsIn Fence.wide n Tryz.prog 98 #[.string s] w fun e W' => e = .returned (validV s) ∧ Below w.heap.size w W' := by
  have h1 : 1 ≤ n := by omega
  refine callsIn_of_wp_marks Tryz.func98 rfl trivial ?_ rfl
  simp only [Tryz.ntmps98, List.size_toArray, List.length_cons, List.length_nil, Nat.reduceAdd, Nat.reduceSub, Array.replicate_succ, Array.replicate_zero, List.push_toArray, List.append_toArray, List.nil_append, List.cons_append]
  gi_wp2_with (refine ⟨trivial, ?_⟩; gi_at_call 101; refine (callsIn_wide.2 (spots_any _ _)).mono ?_; rintro e w' ⟨rfl, rfl⟩)
  have hb2 := (((Blk.new w #[.int .i64 0, .int .i64 0] 128).alloc (.cells #[.bool false] 4)).alloc (.cells #[.int .i64 0] 3)).alloc (.cells #[.string s] 9)
  have hb3 := ((Blk.new (w.alloc (.cells #[.int .i64 0, .int .i64 0] 128)) #[.bool false] 4).alloc (.cells #[.int .i64 0] 3)).alloc (.cells #[.string s] 9)
  have hb4 := (Blk.new ((w.alloc (.cells #[.int .i64 0, .int .i64 0] 128)).alloc (.cells #[.bool false] 4)) #[.int .i64 0] 3).alloc (.cells #[.string s] 9)
  have hbS := Blk.new (((w.alloc (.cells #[.int .i64 0, .int .i64 0] 128)).alloc (.cells #[.bool false] 4)).alloc (.cells #[.int .i64 0] 3)) #[.string s] 9
  simp only [World.size_alloc] at hb3 hb4 hbS
  have hB0 : Below w.heap.size w ((((w.alloc (.cells #[.int .i64 0, .int .i64 0] 128)).alloc (.cells #[.bool false] 4)).alloc (.cells #[.int .i64 0] 3)).alloc (.cells #[.string s] 9)) := ((((Below.refl _ w).alloc (Nat.le_refl _) _).alloc (by simp) _).alloc (by simp; omega) _).alloc (by simp; omega) _
  have hsz : ((((w.alloc (.cells #[.int .i64 0, .int .i64 0] 128)).alloc (.cells #[.bool false] 4)).alloc (.cells #[.int .i64 0] 3)).alloc (.cells #[.string s] 9)).heap.size = w.heap.size + 4 := by simp
  obtain ⟨W0, hW0⟩ : ∃ W0, (((w.alloc (.cells #[.int .i64 0, .int .i64 0] 128)).alloc (.cells #[.bool false] 4)).alloc (.cells #[.int .i64 0] 3)).alloc (.cells #[.string s] 9) = W0 := ⟨_, rfl⟩
  rw [hW0] at hb2 hb3 hb4 hbS hB0 hsz ⊢
  clear hW0
  refine wpIn_rangeFunc_ownH rfl h1 (gf := 112) (lb := #[.pointer (some ⟨w.heap.size + 1 + 1 + 1, 0, none⟩)]) rfl trivial (enters_of Tryz.func112 (by kernel_rfl) rfl)
    (spots_stops (n - 1) (w.heap.size + 1 + 1 + 1) (by omega) s hs W0 (hbS.cell 0)) KpS_t (KpS_b (by omega)) (Below.refl _ _) (fun _ => rfl)
    (fun pre W => (Hz (∀ i ∈ pre, badB s i = false) ∧ Blk W w.heap.size #[.int .i64 0, .int .i64 0] 128 ∧ Blk W (w.heap.size + 1) #[.bool false] 4 ∧ Blk W (w.heap.size + 1 + 1) #[.int .i64 pre.length] 3 ∧ Blk W (w.heap.size + 1 + 1 + 1) #[.string s] 9) ∧ Below w.heap.size w W)
    (fun c pre W => (c = .ret ∧ ∃ q x, pre = q ++ [x] ∧ Hz (∀ i ∈ q, badB s i = false) ∧ badB s x = true ∧ Blk W w.heap.size #[.int .i64 x, .int .i64 (q.length : Nat)] 128 ∧ Blk W (w.heap.size + 1) #[.bool false] 4) ∧ Below w.heap.size w W)
    (OwnFrom.and (Own.from (fun s A B row hs hg hr => ⟨hs.1, Blk.own _ (fun _ => _) _ () A B row hs.2.1 hg hr, Blk.own _ (fun _ => _) _ () A B row hs.2.2.1 hg hr, Blk.own _ (fun _ => _) _ () A B row hs.2.2.2.1 hg hr, Blk.own _ (fun _ => _) _ () A B row hs.2.2.2.2 hg hr⟩) _) (ownFrom_below (Nat.le_refl _) (by omega)))
    (fun c => OwnFrom.and (Own.from (fun s A B row hs hg hr => by
      obtain ⟨hc, q, x, hx, hq, hbx, k2, k3⟩ := hs
      exact ⟨hc, q, x, hx, hq, hbx, Blk.own _ (fun _ => _) _ () A B row k2 hg hr, Blk.own _ (fun _ => _) _ () A B row k3 hg hr⟩) _) (ownFrom_below (Nat.le_refl _) (by omega)))
    ⟨⟨hide (fun i hi => by cases hi), hb2, hb3, hb4, hbS⟩, hB0⟩
    (fun x a' W => ∃ Bx, w.heap.size + 1 + 1 + 1 < Bx ∧ Blk W Bx (spotCells (spotV s x)) 110 ∧ a' = { tmps := #[.string s, undef, .pointer (some ⟨w.heap.size, 0, none⟩), .pointer (some ⟨w.heap.size + 1, 0, none⟩), .pointer (some ⟨w.heap.size + 1 + 1, 0, none⟩), .int .i64 x, .pointer (some ⟨Bx, 0, none⟩), .string s, .func (.func 112) #[] #[.pointer (some ⟨w.heap.size + 1 + 1 + 1, 0, none⟩)], .int .i64 x, encSpot (spotV s x), undef, undef, undef, undef, undef, undef, undef, undef], defers := [] })
    (fun x a' => Own.from (fun u A B row hs hg hr => by
      obtain ⟨Bx, h1, h2, h3⟩ := hs
      exact ⟨Bx, h1, Blk.own _ (fun _ => _) _ () A B row h2 hg hr, h3⟩) _)
    ?assign ?body ?done ?stop
  case assign =>
    rintro l pre x W K ⟨⟨hp, k2, k3, k4, kS⟩, hB⟩ hK
    gi_wp2
    exact hK _ _ ((KeepsOthers.alloc _ _).from _) ⟨(kS.alloc _).cell 0 |>.trans (kS.cell 0).symm, KeepsWalks.alloc _ _⟩ ⟨⟨hp, k2.alloc _, k3.alloc _, k4.alloc _, kS.alloc _⟩, hB.alloc hB.size _⟩ ⟨W.heap.size, kS.lt, Blk.new W _ 110, rfl⟩
  case body =>
    rintro l pre x a' W hl ⟨r, hr⟩ ⟨⟨hp, k2, k3, k4, kS⟩, hB⟩ ⟨Bx, hBx, bX, rfl⟩ hlt
    have x2 : W.cell? ⟨Bx, 2, none⟩ = some (.bool (badB s x)) := bX.cell 2
    have c0 := k2.cell 0
    have c1 := k2.cell 1
    have c3 := k3.cell 0
    have c4 := k4.cell 0
    have f0 := k2.frozen
    have f3 := k3.frozen
    have f4 := k4.frozen
    have hpl : (pre.length : Int) < 2 ^ 63 - 1 := by unfold maxLen at hs; omega
    cases hbx : badB s x with
    | true =>
      rw [hbx] at x2
      have HBX := hide hbx
      clear hbx
      gi_wp2
      refine ⟨(((KeepsOthers.setCell _ _ _).trans (KeepsOthers.setCell _ _ _)).trans (KeepsOthers.setCell _ _ _)).from _, ⟨rfl, pre, x, rfl, hp, unhide HBX, ?_, ?_⟩, ?_⟩
      · exact Blk.other ((k2.set 0 _).set 1 _) (by omega) _
      · exact ((k3.other (by omega) _).other (by omega) _).set 0 _
      · exact ((hB.setCell (p := ⟨w.heap.size, 0, none⟩) (Nat.le_refl _) _).setCell (p := ⟨w.heap.size, 1, none⟩) (Nat.le_refl _) _).setCell (p := ⟨w.heap.size + 1, 0, none⟩) (by simp) _
    | false =>
      rw [hbx] at x2
      have HBX := hide hbx
      clear hbx
      gi_wp2
      refine ⟨(KeepsOthers.setCell _ _ _).from _, ⟨((kS.other (by omega) _).cell 0).trans (kS.cell 0).symm, (KeepsOthers.setCell _ _ _).walks⟩, ⟨hide (fun i hi => ?_), k2.other (by omega) _, k3.other (by omega) _, ?_, kS.other (by omega) _⟩, hB.setCell (p := ⟨w.heap.size + 1 + 1, 0, none⟩) (by simp; omega) _⟩
      · rcases List.mem_append.1 hi with h | h
        · exact unhide hp i h
        · simp at h; rw [h]; exact unhide HBX
      · rw [show (((pre ++ [x]).length : Nat) : Int) = (pre.length : Int) + 1 by simp]
        exact k4.set 0 _
  case done =>
    rintro D ys W hD hys ⟨⟨hne, k2, k3, _⟩, hB⟩ hK
    have hv : validV s = .tuple #[.agg #[.int .i64 0, .int .i64 0], .bool true] := validFrom_none s _ 0 (by rw [← hys]; exact unhide hne)
    have HV := hide hv
    have c0 := k2.cell 0
    have c1 := k2.cell 1
    have c3 := k3.cell 0
    have f0 := k2.frozen
    have f3 := k3.frozen
    clear hys hne hv
    gi_wp2
    have hK' := (((KeepsOthers.setCell W ⟨w.heap.size, 0, none⟩ (.int .i64 0)).trans (KeepsOthers.setCell _ ⟨w.heap.size, 1, none⟩ (.int .i64 0))).trans (KeepsOthers.setCell _ ⟨w.heap.size + 1, 0, none⟩ (.bool true))).same D _ hK rfl
    have k2' := Blk.other (i := 0) ((k2.set 0 (.int .i64 0)).set 1 (.int .i64 0)) (B' := w.heap.size + 1) (by omega) (.bool true)
    have k3' := ((k3.other (B' := w.heap.size) (i := 0) (by omega) (.int .i64 0)).other (B' := w.heap.size) (i := 1) (by omega) (.int .i64 0)).set 0 (.bool true)
    have hB' := ((hB.setCell (p := ⟨w.heap.size, 0, none⟩) (Nat.le_refl _) (.int .i64 0)).setCell (p := ⟨w.heap.size, 1, none⟩) (Nat.le_refl _) (.int .i64 0)).setCell (p := ⟨w.heap.size + 1, 0, none⟩) (by simp) (.bool true)
    clear hK k2 k3 hB c0 c1 c3 f0 f3
    refine ⟨by simp, .inl ⟨_, _, rfl, run_takeDeferred hK', ?_⟩⟩
    have q2 := k2'.put (.deferred Option.none) hK' rfl
    have q3 := k3'.put (.deferred Option.none) hK' rfl
    have c0 := q2.cell 0
    have c1 := q2.cell 1
    have c3 := q3.cell 0
    refine ⟨.tuple #[.agg #[.int .i64 0, .int .i64 0], .bool true], ?_, by rw [unhide HV], hB'.trans (belowK_b (w := w) (Nat.le_refl _) _ D _ _ (by omega) hK' rfl rfl)⟩
    simp [results, Tryz.f98, go_sem, c0, c1, c3]
  case stop =>
    rintro D c pre W hD hpre ⟨⟨rfl, q, x, rfl, hq, hbx, k2, k3⟩, hB⟩ hK
    obtain ⟨r, hr⟩ := hpre
    have hv : validV s = .tuple #[.agg #[.int .i64 x, .int .i64 (q.length : Nat)], .bool false] := by
      unfold validV
      rw [← hr, List.append_assoc, List.singleton_append, validFrom_some s x r hbx q 0 (unhide hq), Nat.zero_add]
    have HV := hide hv
    clear hv hr hbx
    gi_wp2
    refine ⟨by simp, .inl ⟨_, _, rfl, run_takeDeferred hK, ?_⟩⟩
    have q2 := k2.put (.deferred Option.none) hK rfl
    have q3 := k3.put (.deferred Option.none) hK rfl
    have c0 := q2.cell 0
    have c1 := q2.cell 1
    have c3 := q3.cell 0
    refine ⟨.tuple #[.agg #[.int .i64 x, .int .i64 (q.length : Nat)], .bool false], ?_, by rw [unhide HV], hB.trans (belowK_b (w := w) (Nat.le_refl _) W D _ _ (by omega) hK rfl rfl)⟩
    simp [results, Tryz.f98, go_sem, c0, c1, c3]

theorem valid_any (s : ByteArray) (hs : s.size ≤ maxLen) (w : World) : Calls Tryz.prog 98 #[.string s] w fun e W' => e = .returned (validV s) ∧ Below w.heap.size w W' :=
  callsIn_wide.1 (valid_in 3 (Nat.le_refl _) s hs w)
end Go.Proofs.YtcnhkhjkeemafaaGreatDoor
/- Plain facts on two texts one behind the other: they join just if the first one's end is a bound of the whole; then the spots of the whole are those of the parts. -/
namespace Go.Proofs.YtcnhkhjkeemafaaGreatDoor
open Go.RowKit Go.Shelf
open Go.Lib (decodeN decode_at)
set_option linter.unusedVariables false

/-- What is told with more room, and fits into less, is told with less. -/
theorem decodeN_less (n m b0 b1 b2 b3 : Nat) (hnm : n ≤ m) (hg : ¬ ((decodeN m b0 b1 b2 b3).1 = 65533 ∧ (decodeN m b0 b1 b2 b3).2 = 1)) (hw : (decodeN m b0 b1 b2 b3).2 ≤ n) : decodeN n b0 b1 b2 b3 = decodeN m b0 b1 b2 b3 := by
  by_cases h0 : b0 < 128
  · unfold decodeN; rw [if_pos h0, if_pos h0]
  by_cases h2 : b0 / 32 = 6 ∧ (1 < m ∧ b1 / 64 = 2)
  · by_cases hc : b0 % 32 * 64 + b1 % 64 ≥ 128
    · have e : decodeN m b0 b1 b2 b3 = (b0 % 32 * 64 + b1 % 64, 2) := by unfold decodeN; rw [if_neg h0, if_pos h2, if_pos hc]
      rw [e] at hw
      rw [e]
      simp only at hw
      unfold decodeN
      rw [if_neg h0, if_pos ⟨h2.1, by omega, h2.2.2⟩, if_pos hc]
    · have e : decodeN m b0 b1 b2 b3 = (65533, 1) := by unfold decodeN; rw [if_neg h0, if_pos h2, if_neg hc]
      rw [e] at hg
      exact absurd ⟨rfl, rfl⟩ hg
  by_cases h3 : b0 / 16 = 14 ∧ (1 < m ∧ b1 / 64 = 2) ∧ (2 < m ∧ b2 / 64 = 2)
  · by_cases hc : b0 % 16 * 4096 + b1 % 64 * 64 + b2 % 64 ≥ 2048 ∧ (b0 % 16 * 4096 + b1 % 64 * 64 + b2 % 64 < 55296 ∨ (57344 ≤ b0 % 16 * 4096 + b1 % 64 * 64 + b2 % 64 ∧ b0 % 16 * 4096 + b1 % 64 * 64 + b2 % 64 ≤ 1114111))
    · have e : decodeN m b0 b1 b2 b3 = (b0 % 16 * 4096 + b1 % 64 * 64 + b2 % 64, 3) := by unfold decodeN; rw [if_neg h0, if_neg h2, if_pos h3, if_pos hc]
      rw [e] at hw
      rw [e]
      simp only at hw
      unfold decodeN
      rw [if_neg h0, if_neg (by omega), if_pos ⟨h3.1, ⟨by omega, h3.2.1.2⟩, ⟨by omega, h3.2.2.2⟩⟩, if_pos hc]
    · have e : decodeN m b0 b1 b2 b3 = (65533, 1) := by unfold decodeN; rw [if_neg h0, if_neg h2, if_pos h3, if_neg hc]
      rw [e] at hg
      exact absurd ⟨rfl, rfl⟩ hg
  by_cases h4 : b0 / 8 = 30 ∧ (1 < m ∧ b1 / 64 = 2) ∧ (2 < m ∧ b2 / 64 = 2) ∧ (3 < m ∧ b3 / 64 = 2)
  · by_cases hc : b0 % 8 * 262144 + b1 % 64 * 4096 + b2 % 64 * 64 + b3 % 64 ≥ 65536 ∧ (b0 % 8 * 262144 + b1 % 64 * 4096 + b2 % 64 * 64 + b3 % 64 < 55296 ∨ (57344 ≤ b0 % 8 * 262144 + b1 % 64 * 4096 + b2 % 64 * 64 + b3 % 64 ∧ b0 % 8 * 262144 + b1 % 64 * 4096 + b2 % 64 * 64 + b3 % 64 ≤ 1114111))
    · have e : decodeN m b0 b1 b2 b3 = (b0 % 8 * 262144 + b1 % 64 * 4096 + b2 % 64 * 64 + b3 % 64, 4) := by unfold decodeN; rw [if_neg h0, if_neg h2, if_neg h3, if_pos h4, if_pos hc]
      rw [e] at hw
      rw [e]
      simp only at hw
      unfold decodeN
      rw [if_neg h0, if_neg (by omega), if_neg (by omega), if_pos ⟨h4.1, ⟨by omega, h4.2.1.2⟩, ⟨by omega, h4.2.2.1.2⟩, ⟨by omega, h4.2.2.2.2⟩⟩, if_pos hc]
    · have e : decodeN m b0 b1 b2 b3 = (65533, 1) := by unfold decodeN; rw [if_neg h0, if_neg h2, if_neg h3, if_pos h4, if_neg hc]
      rw [e] at hg
      exact absurd ⟨rfl, rfl⟩ hg
  · have e : decodeN m b0 b1 b2 b3 = (65533, 1) := by unfold decodeN; rw [if_neg h0, if_neg h2, if_neg h3, if_neg h4]
    rw [e] at hg
    exact absurd ⟨rfl, rfl⟩ hg
/-- What is told with less room is told with more. -/
theorem decodeN_more (n m b0 b1 b2 b3 : Nat) (hnm : n ≤ m) (hn : 1 ≤ n) (h1 : b1 < 256) (h2 : b2 < 256) (h3 : b3 < 256) (h0 : b0 < 256) (hg : ¬ ((decodeN n b0 b1 b2 b3).1 = 65533 ∧ (decodeN n b0 b1 b2 b3).2 = 1)) : decodeN m b0 b1 b2 b3 = decodeN n b0 b1 b2 b3 := by
  have t := told n b0 b1 b2 b3 h0 h1 h2 h3
  by_cases hm : 4 ≤ n
  · exact decodeN_room m n _ _ _ _ (.inr ⟨by omega, hm⟩)
  by_cases c0 : b0 < 128
  · unfold decodeN; rw [if_pos c0, if_pos c0]
  by_cases c2 : b0 / 32 = 6 ∧ (1 < n ∧ b1 / 64 = 2)
  · unfold decodeN
    rw [if_neg c0, if_neg c0, if_pos c2, if_pos ⟨c2.1, by omega, c2.2.2⟩]
  by_cases c3 : b0 / 16 = 14 ∧ (1 < n ∧ b1 / 64 = 2) ∧ (2 < n ∧ b2 / 64 = 2)
  · unfold decodeN
    rw [if_neg c0, if_neg c0, if_neg c2, if_neg (by omega), if_pos c3, if_pos ⟨c3.1, ⟨by omega, c3.2.1.2⟩, ⟨by omega, c3.2.2.2⟩⟩]
  · have e : decodeN n b0 b1 b2 b3 = (65533, 1) := by unfold decodeN; rw [if_neg c0, if_neg c2, if_neg c3, if_neg (by omega)]
    rw [e] at hg
    exact absurd ⟨rfl, rfl⟩ hg

theorem get_append (u v : ByteArray) (i : Nat) : (u ++ v).get! i = if i < u.size then u.get! i else v.get! (i - u.size) := by
  by_cases h : i < u.size
  · rw [if_pos h, get_lt _ _ (by rw [ByteArray.size_append]; omega), get_lt _ _ h]
    simp [Array.getElem_append_left, h]
  · rw [if_neg h]
    by_cases k : i < (u ++ v).size
    · rw [get_lt _ _ k, get_lt _ _ (by rw [ByteArray.size_append] at k; omega)]
      simp [Array.getElem_append_right, Nat.le_of_not_lt h]
    · rw [get_ge _ _ (by omega), get_ge _ _ (by rw [ByteArray.size_append] at k; omega)]
theorem bt_left (s t : ByteArray) (i : Nat) (h : i < s.size) : bt (s ++ t) i = bt s i := by unfold bt; rw [get_append, if_pos h]
theorem bt_right (s t : ByteArray) (j : Nat) : bt (s ++ t) (s.size + j) = bt t j := by unfold bt; rw [get_append, if_neg (by omega)]; congr 2; omega

theorem decode_left (s t : ByteArray) (i : Nat) (hi : i < s.size) : Utf8.decode s i = decodeN (s.size - i) (bt (s ++ t) i) (bt (s ++ t) (i + 1)) (bt (s ++ t) (i + 2)) (bt (s ++ t) (i + 3)) := by
  rw [decode_at, bt_left s t i hi]
  refine decodeN_cong _ _ _ _ _ _ _ _ (fun h => ?_) (fun h => ?_) (fun h => ?_)
  · exact (bt_left s t _ (by omega)).symm
  · exact (bt_left s t _ (by omega)).symm
  · exact (bt_left s t _ (by omega)).symm
/-- A sequence of the first text is one of the whole. -/
theorem decode_grow (s t : ByteArray) (i : Nat) (hi : i < s.size) (hg : ¬ (rn s i = 65533 ∧ wd s i = 1)) : Utf8.decode (s ++ t) i = Utf8.decode s i := by
  have e := decode_left s t i hi
  simp only [rn, wd] at hg
  rw [e] at hg ⊢
  rw [decode_at]
  exact decodeN_more _ _ _ _ _ _ (by rw [ByteArray.size_append]; omega) (by omega) (bt_lt _ _) (bt_lt _ _) (bt_lt _ _) (bt_lt _ _) hg
/-- What stands in the whole and ends within the first text stands there. -/
theorem decode_part (s t : ByteArray) (i : Nat) (hi : i < s.size) (hw : i + wd (s ++ t) i ≤ s.size) : Utf8.decode s i = Utf8.decode (s ++ t) i := by
  by_cases hg : rn s i = 65533 ∧ wd s i = 1
  · by_cases hk : rn (s ++ t) i = 65533 ∧ wd (s ++ t) i = 1
    · exact Prod.ext (hg.1.trans hk.1.symm) (hg.2.trans hk.2.symm)
    · have e := decode_left s t i hi
      have e2 : Utf8.decode (s ++ t) i = decodeN ((s ++ t).size - i) (bt (s ++ t) i) (bt (s ++ t) (i + 1)) (bt (s ++ t) (i + 2)) (bt (s ++ t) (i + 3)) := decode_at _ _
      rw [e, e2]
      simp only [rn, wd] at hk hw
      rw [e2] at hk hw
      exact decodeN_less _ _ _ _ _ _ (by rw [ByteArray.size_append]; omega) hk (by omega)
  · exact (decode_grow s t i hi hg).symm
theorem decode_behind (s t : ByteArray) (j : Nat) : Utf8.decode (s ++ t) (s.size + j) = Utf8.decode t j := by
  rw [decode_at, decode_at, ByteArray.size_append, show s.size + t.size - (s.size + j) = t.size - j by omega]
  have h := bt_right s t
  unfold bt at h
  rw [h j, show s.size + j + 1 = s.size + (j + 1) by omega, h, show s.size + j + 2 = s.size + (j + 2) by omega, h, show s.size + j + 3 = s.size + (j + 3) by omega, h]

theorem startsFrom_behind (s t : ByteArray) : ∀ f j, startsFrom (s ++ t) f (s.size + j) = (startsFrom t f j).map (s.size + ·)
  | 0, j => rfl
  | f + 1, j => by
    unfold startsFrom
    rw [ByteArray.size_append]
    by_cases h : j < t.size
    · rw [if_pos (by omega), if_pos h, List.map_cons]
      have e : wd (s ++ t) (s.size + j) = wd t j := by simp only [wd]; rw [decode_behind]
      rw [e, Nat.add_assoc, startsFrom_behind s t f]
    · rw [if_neg (by omega), if_neg h]; rfl
theorem startsFrom_fuel (s : ByteArray) : ∀ f g i, s.size ≤ i + f → s.size ≤ i + g → startsFrom s f i = startsFrom s g i
  | 0, g, i, hf, hg => by rw [startsFrom_end s g i (by omega)]; rfl
  | f + 1, 0, i, hf, hg => by rw [startsFrom_end s (f + 1) i (by omega)]; rfl
  | f + 1, g + 1, i, hf, hg => by
    unfold startsFrom
    by_cases h : i < s.size
    · have := wd_pos s i
      rw [if_pos h, if_pos h, startsFrom_fuel s f g _ (by omega) (by omega)]
    · rw [if_neg h, if_neg h]
theorem startsFrom_both (s t : ByteArray) (hb : bdB (s ++ t) s.size = true) : ∀ f i, s.size + t.size ≤ i + f → i ≤ s.size → bdB (s ++ t) i = true →
    startsFrom (s ++ t) f i = startsFrom s f i ++ (starts t).map (s.size + ·) ∧ ∀ p ∈ startsFrom s f i, Utf8.decode s p = Utf8.decode (s ++ t) p
  | 0, i, hf, hi, hbi => by
    have : s.size = 0 ∨ t.size = 0 := by omega
    have ht : t.size = 0 := by omega
    refine ⟨?_, fun p hp => by cases hp⟩
    rw [show starts t = [] from startsFrom_end t _ _ (by omega)]
    rfl
  | f + 1, i, hf, hi, hbi => by
    by_cases h : i < s.size
    · have hw := wd_pos (s ++ t) i
      have hr : i + wd (s ++ t) i ≤ s.size := by
        rcases Nat.lt_or_ge s.size (i + wd (s ++ t) i) with hx | hx
        · have h4 := wd_four (s ++ t) i
          have := (bd_iff (s ++ t) s.size).1 hb (s.size - i) (by omega) (by omega) (by omega)
          rw [show s.size - (s.size - i) = i by omega] at this
          omega
        · exact hx
      have e := decode_part s t i h hr
      have ew : wd s i = wd (s ++ t) i := by simp only [wd]; rw [e]
      obtain ⟨h1, h2⟩ := startsFrom_both s t hb f (i + wd (s ++ t) i) (by omega) hr (bd_step (s ++ t) i hbi (by rw [ByteArray.size_append]; omega))
      rw [startsFrom_cons (s ++ t) f i (by rw [ByteArray.size_append]; omega), startsFrom_cons s f i h, h1, ew]
      refine ⟨rfl, fun p hp => ?_⟩
      rcases List.mem_cons.1 hp with rfl | hp
      · exact e
      · exact h2 p hp
    · obtain rfl : i = s.size := by omega
      rw [startsFrom_end s _ _ h]
      refine ⟨?_, fun p hp => by cases hp⟩
      have := startsFrom_behind s t (f + 1) 0
      rw [List.nil_append, show starts t = startsFrom t (f + 1) 0 from startsFrom_fuel t _ _ _ (by omega) (by omega)]
      exact this
theorem starts_both (s t : ByteArray) (hb : bdB (s ++ t) s.size = true) : starts (s ++ t) = starts s ++ (starts t).map (s.size + ·) ∧ (∀ p ∈ starts s, Utf8.decode s p = Utf8.decode (s ++ t) p) := by
  obtain ⟨h1, h2⟩ := startsFrom_both s t hb (s.size + t.size) 0 (by omega) (by omega) (bd_zero _)
  have e : startsFrom s (s.size + t.size) 0 = starts s := startsFrom_fuel s _ _ _ (by omega) (by omega)
  rw [e] at h1 h2
  refine ⟨?_, h2⟩
  unfold starts
  rw [ByteArray.size_append]
  exact h1
theorem runesL_both (s t : ByteArray) (hb : bdB (s ++ t) s.size = true) : runesL (s ++ t) = runesL s ++ runesL t := by
  obtain ⟨h1, h2⟩ := starts_both s t hb
  unfold runesL
  rw [h1, List.map_append, List.map_map]
  congr 1
  · refine List.map_congr_left (fun p hp => ?_)
    simp only [rn]
    rw [h2 p hp]
  · refine List.map_congr_left (fun p hp => ?_)
    simp only [Function.comp, rn]
    rw [decode_behind]
theorem foldl_enc (l : List Int) : ∀ r : ByteArray, l.foldl (fun r n => r ++ Utf8.encode n) r = r ++ l.foldl (fun r n => r ++ Utf8.encode n) ByteArray.empty := by
  induction l with
  | nil => intro r; simp
  | cons a l ih =>
    intro r
    rw [List.foldl_cons, ih, List.foldl_cons, ih (ByteArray.empty ++ Utf8.encode a), ByteArray.append_assoc]
    simp
theorem runesBytes_both (a b : List Int) : runesBytes (a ++ b) = runesBytes a ++ runesBytes b := by
  unfold runesBytes
  rw [List.foldl_append, foldl_enc b]
theorem cleanV_both (s t : ByteArray) (hb : bdB (s ++ t) s.size = true) : cleanV (s ++ t) = cleanV s ++ cleanV t := by
  unfold cleanV
  rw [runesL_both s t hb, runesBytes_both]

/-- Cut at p, the two parts join just if p is a bound. -/
theorem joins_cut (s : ByteArray) (p : Nat) (h : p ≤ s.size) : joinsV (s.extract 0 p) (s.extract p s.size) = bdB s p := by
  unfold joinsV
  have e0 : (s.extract 0 p).size = p := by rw [ByteArray.size_extract]; omega
  have e1 : (s.extract p s.size).size = s.size - p := by rw [ByteArray.size_extract]; omega
  rw [e0, e1, ByteArray.extract_extract, ByteArray.extract_extract]
  symm
  refine bd_near s _ p _ h ?_ ?_ ?_ ?_
  · rw [ByteArray.size_append, ByteArray.size_extract, ByteArray.size_extract]; omega
  · omega
  · rw [ByteArray.size_append, ByteArray.size_extract, ByteArray.size_extract]; omega
  · intro i j hij hi hj h3 h4
    rw [ByteArray.size_append, ByteArray.size_extract, ByteArray.size_extract] at hj
    unfold bt
    rw [get_append, ByteArray.size_extract]
    split
    · rw [get_extract _ _ _ _ (by omega) (by omega)]
      congr 2; omega
    · rw [get_extract _ _ _ _ (by omega) (by omega)]
      congr 2; omega
/-- Two texts join just if the first one's end is a bound of the whole. -/
theorem joins_bd (s t : ByteArray) : joinsV s t = bdB (s ++ t) s.size := by
  have := joins_cut (s ++ t) s.size (by rw [ByteArray.size_append]; omega)
  rw [ByteArray.extract_append_eq_left rfl, ByteArray.extract_append_eq_right rfl (by rw [ByteArray.size_append])] at this
  exact this
/-- Three bytes at each side tell it. -/
theorem joins_near (s t : ByteArray) : joinsV (s.extract (s.size - 3) s.size) (t.extract 0 (min t.size 3)) = joinsV s t := by
  have e0 : (s.extract (s.size - 3) s.size).size = min s.size 3 := by rw [ByteArray.size_extract]; omega
  have e1 : (t.extract 0 (min t.size 3)).size = min t.size 3 := by rw [ByteArray.size_extract]; omega
  unfold joinsV
  rw [extract_all (s.extract (s.size - 3) s.size) _ (by rw [e0]; omega), extract_head (t.extract 0 (min t.size 3)) _ (by rw [e1]; omega), e0]
  congr 1
  omega

/-- A byte that goes on no sequence is at a bound. -/
theorem bd_lead (s : ByteArray) (i : Nat) (h : bt s i / 64 ≠ 2) : bdB s i = true := by
  rw [bd_iff]
  intro n h4 h1 hn
  rcases Nat.lt_or_ge n (wd s (i - n)) with hx | hx
  · have := wd_cont s (i - n) n (by omega) hx
    rw [show i - n + n = i by omega] at this
    exact absurd this h
  · exact hx
theorem startsFrom_mem (s : ByteArray) : ∀ f i, s.size ≤ i + f → bdB s i = true → ∀ p, i ≤ p → p < s.size → bdB s p = true → p ∈ startsFrom s f i
  | 0, i, hf, hb, p, h1, h2, hp => by omega
  | f + 1, i, hf, hb, p, h1, h2, hp => by
    have hi : i < s.size := by omega
    have hw := wd_pos s i
    have h4 := wd_four s i
    rw [startsFrom_cons s f i hi, List.mem_cons]
    by_cases e : p = i
    · exact .inl e
    · refine .inr ?_
      rcases Nat.lt_or_ge p (i + wd s i) with hlt | hge
      · have := (bd_iff s p).1 hp (p - i) (by omega) (by omega) (by omega)
        rw [show p - (p - i) = i by omega] at this
        omega
      · exact startsFrom_mem s f (i + wd s i) (by omega) (bd_step s i hb hi) p hge h2 hp
theorem starts_mem (s : ByteArray) (p : Nat) (h : p < s.size) (hb : bdB s p = true) : p ∈ starts s := startsFrom_mem s s.size 0 (by omega) (bd_zero s) p (Nat.zero_le _) h hb

/-- A text without bad spots joins with any behind it, and any ahead of it. -/
theorem joins_valid_left (s t : ByteArray) (hv : ∀ i ∈ starts s, badB s i = false) : joinsV s t = true := by
  rw [joins_bd, bd_iff]
  intro n h4 h1 hn
  rcases Nat.lt_or_ge n (wd (s ++ t) (s.size - n)) with hx | hx
  · exfalso
    have hi : s.size - n < s.size := by omega
    have hl := wd_lead (s ++ t) (s.size - n) (by omega)
    rw [bt_left s t _ hi] at hl
    have hb := hv _ (starts_mem s _ hi (bd_lead s _ (by have := bt_lt s (s.size - n); omega)))
    unfold badB at hb
    have hg := of_decide_eq_false hb
    have e := decode_grow s t (s.size - n) hi hg
    have hr := wd_room s (s.size - n) hi
    simp only [wd] at hx hr
    rw [e] at hx
    omega
  · exact hx
theorem joins_valid_right (s t : ByteArray) (hv : ∀ i ∈ starts t, badB t i = false) : joinsV s t = true := by
  rw [joins_bd, bd_iff]
  intro n h4 h1 hn
  rcases Nat.lt_or_ge n (wd (s ++ t) (s.size - n)) with hx | hx
  · exfalso
    have hr := wd_room (s ++ t) (s.size - n) (by rw [ByteArray.size_append]; omega)
    rw [ByteArray.size_append] at hr
    have hc := wd_cont (s ++ t) (s.size - n) n (by omega) hx
    rw [show s.size - n + n = s.size + 0 by omega, bt_right] at hc
    have ht : 0 < t.size := by omega
    obtain ⟨r, hr0⟩ := starts_head t ht
    have hb := hv 0 (by rw [hr0]; simp)
    unfold badB at hb
    have hg := of_decide_eq_false hb
    have tl := at_told t 0
    rcases Nat.lt_or_ge (wd t 0) 2 with h2 | h2
    · have := tl.one (by have := wd_pos t 0; simp only [wd] at h2 this; omega)
      rcases this with ⟨a, _⟩ | ⟨_, a⟩
      · exact hg ⟨a, by have := wd_pos t 0; omega⟩
      · have : bt t 0 < 128 := a
        omega
    · have := wd_lead t 0 h2
      omega
  · exact hx
theorem validV_cases (s : ByteArray) : (∃ x y, validV s = .tuple #[.agg #[.int .i64 x, .int .i64 y], .bool false]) ∨ (validV s = .tuple #[.agg #[.int .i64 0, .int .i64 0], .bool true] ∧ ∀ i ∈ starts s, badB s i = false) := by
  have key : ∀ (l : List Nat) (n : Nat), (∃ x y, validFrom s l n = .tuple #[.agg #[.int .i64 x, .int .i64 y], .bool false]) ∨ (validFrom s l n = .tuple #[.agg #[.int .i64 0, .int .i64 0], .bool true] ∧ ∀ i ∈ l, badB s i = false) := by
    intro l
    induction l with
    | nil => intro n; exact .inr ⟨rfl, fun i hi => by cases hi⟩
    | cons a l ih =>
      intro n
      unfold validFrom
      cases hb : badB s a with
      | true => exact .inl ⟨_, _, by simp; exact ⟨rfl, rfl⟩⟩
      | false =>
        rcases ih (n + 1) with ⟨x, y, h⟩ | ⟨h, h2⟩
        · exact .inl ⟨x, y, by simp [h]⟩
        · refine .inr ⟨by simp [h], fun i hi => ?_⟩
          rcases List.mem_cons.1 hi with rfl | hi
          · exact hb
          · exact h2 i hi
  exact key _ _
end Go.Proofs.YtcnhkhjkeemafaaGreatDoor
/- The words of the rules: plain mathematics of bytes. -/
namespace Go.Proofs.YtcnhkhjkeemafaaGreatDoor
open Go.RowKit Go.Shelf
set_option linter.unusedVariables false
def blankB (c : Nat) : Bool := decide (c = 9 ∨ c = 10 ∨ c = 13 ∨ c = 32)
def smallB (c : Nat) : Bool := decide (97 ≤ c ∧ c ≤ 122)
def digB (c : Nat) : Bool := decide (48 ≤ c ∧ c ≤ 57)
def inNB (c : Nat) : Bool := smallB c || digB c || decide (c = 45)
def stkB (c : Nat) : Bool := inNB c || decide (65 ≤ c ∧ c ≤ 90) || decide (c = 95)
/-- The first place from n on, below hi, where p ends. -/
def scanF (p : Nat → Bool) : Nat → Nat → Nat
  | 0, n => n
  | f + 1, n => if p n = true then scanF p f (n + 1) else n
def scanTo (p : Nat → Bool) (hi n : Nat) : Nat := scanF p (hi - n) n
theorem scanTo_go {p : Nat → Bool} {hi n : Nat} (h : n < hi) (hp : p n = true) : scanTo p hi n = scanTo p hi (n + 1) := by
  unfold scanTo
  obtain ⟨f, hf⟩ : ∃ f, hi - n = f + 1 := ⟨hi - n - 1, by omega⟩
  rw [hf, show hi - (n + 1) = f by omega, scanF, if_pos hp]
theorem scanTo_end {p : Nat → Bool} {hi n : Nat} (h : ¬ n < hi) : scanTo p hi n = n := by
  unfold scanTo
  rw [show hi - n = 0 by omega]
  rfl
theorem scanTo_no {p : Nat → Bool} {hi n : Nat} (h : p n = false) : scanTo p hi n = n := by
  unfold scanTo
  cases hi - n with
  | zero => rfl
  | succ f => rw [scanF, if_neg (by rw [h]; decide)]
theorem scanTo_ge (p : Nat → Bool) (hi : Nat) : ∀ k n, hi ≤ n + k → n ≤ scanTo p hi n ∧ (n ≤ hi → scanTo p hi n ≤ hi)
  | 0, n, h => by rw [scanTo_end (by omega)]; exact ⟨Nat.le_refl _, fun h => h⟩
  | k + 1, n, h => by
    by_cases hn : n < hi
    · cases hp : p n with
      | true => have := scanTo_ge p hi k (n + 1) (by omega); rw [scanTo_go hn hp]; omega
      | false => rw [scanTo_no hp]; exact ⟨Nat.le_refl _, fun h => h⟩
    · rw [scanTo_end hn]; exact ⟨Nat.le_refl _, fun h => h⟩
theorem scanTo_le (p : Nat → Bool) {hi n : Nat} (h : n ≤ hi) : n ≤ scanTo p hi n ∧ scanTo p hi n ≤ hi := by have := scanTo_ge p hi (hi - n) n (by omega); exact ⟨this.1, this.2 h⟩
/-- How many bytes a name has at the beginning. -/
def nameLen (t : ByteArray) : Nat := if t.size = 0 ∨ smallB (bt t 0) = false then 0 else scanTo (fun n => inNB (bt t n)) (min t.size 32) 1
theorem nameLen_le (t : ByteArray) : nameLen t ≤ t.size ∧ nameLen t ≤ 32 := by
  unfold nameLen
  by_cases h : t.size = 0 ∨ smallB (bt t 0) = false
  · rw [if_pos h]; omega
  · rw [if_neg h]
    have := scanTo_le (fun n => inNB (bt t n)) (show 1 ≤ min t.size 32 by omega)
    omega
/-- A number's value and its bytes: from a value and a place on. -/
def numF (t : ByteArray) : Nat → Nat → Nat → Nat × Nat
  | 0, v, n => (v, n)
  | f + 1, v, n => if n < t.size ∧ digB (bt t n) = true ∧ 0 < v ∧ v * 10 + (bt t n - 48) ≤ 65535 then numF t f (v * 10 + (bt t n - 48)) (n + 1) else (v, n)
def numGo (t : ByteArray) (v n : Nat) : Nat × Nat := numF t (t.size - n) v n
theorem numGo_go {t : ByteArray} {v n : Nat} (h : n < t.size) (hd : digB (bt t n) = true) (h0 : 0 < v) (hv : v * 10 + (bt t n - 48) ≤ 65535) : numGo t v n = numGo t (v * 10 + (bt t n - 48)) (n + 1) := by
  unfold numGo
  obtain ⟨f, hf⟩ : ∃ f, t.size - n = f + 1 := ⟨t.size - n - 1, by omega⟩
  rw [hf, show t.size - (n + 1) = f by omega, numF, if_pos ⟨h, hd, h0, hv⟩]
theorem numGo_stop {t : ByteArray} {v n : Nat} (h : ¬ (n < t.size ∧ digB (bt t n) = true ∧ 0 < v ∧ v * 10 + (bt t n - 48) ≤ 65535)) : numGo t v n = (v, n) := by
  unfold numGo
  cases t.size - n with
  | zero => rfl
  | succ f => rw [numF, if_neg h]
def numV (t : ByteArray) : Nat × Nat := numGo t (bt t 0 - 48) 1
theorem numGo_le (t : ByteArray) : ∀ k v n, t.size ≤ n + k → n ≤ t.size → n ≤ (numGo t v n).2 ∧ (numGo t v n).2 ≤ t.size ∧ (v ≤ 65535 → (numGo t v n).1 ≤ 65535)
  | 0, v, n, h, hn => by rw [numGo_stop (by omega)]; exact ⟨Nat.le_refl _, hn, fun h => h⟩
  | k + 1, v, n, h, hn => by
    by_cases hc : n < t.size ∧ digB (bt t n) = true ∧ 0 < v ∧ v * 10 + (bt t n - 48) ≤ 65535
    · rw [numGo_go hc.1 hc.2.1 hc.2.2.1 hc.2.2.2]
      have := numGo_le t k (v * 10 + (bt t n - 48)) (n + 1) (by omega) (by omega)
      exact ⟨by omega, this.2.1, fun _ => this.2.2 hc.2.2.2⟩
    · rw [numGo_stop hc]; exact ⟨Nat.le_refl _, hn, fun h => h⟩
theorem digB_iff {c : Nat} : digB c = true ↔ 48 ≤ c ∧ c ≤ 57 := by simp [digB]
theorem smallB_iff {c : Nat} : smallB c = true ↔ 97 ≤ c ∧ c ≤ 122 := by simp [smallB]
end Go.Proofs.YtcnhkhjkeemafaaGreatDoor
/- The small functions of scan. -/
namespace Go.Proofs.YtcnhkhjkeemafaaGreatDoor
open Go.RowKit Go.Shelf
set_option linter.unusedVariables false
theorem ret_b {a b : Bool} (h : a = b) : Ending.returned (.bool a) = .returned (.bool b) := by rw [h]
theorem isBlank_any (c : Nat) (w : World) : Calls Tryz.prog 78 #[.int .u8 (c : Int)] w fun e w' => e = .returned (.bool (blankB c)) ∧ w' = w := by
  go_enter Tryz.func78, Tryz.ntmps78
  go_wp2
  all_goals (go_ret; refine ⟨ret_b ?_, rfl⟩; first | (unfold blankB; rw [Bool.eq_iff_iff]; simp; omega) | (unfold blankB; simp_all))
theorem isSmall_any (c : Nat) (w : World) : Calls Tryz.prog 41 #[.int .u8 (c : Int)] w fun e w' => e = .returned (.bool (smallB c)) ∧ w' = w := by
  go_enter Tryz.func41, Tryz.ntmps41
  go_wp2
  all_goals (go_ret; refine ⟨ret_b ?_, rfl⟩; first | (unfold smallB; rw [Bool.eq_iff_iff]; simp; omega) | (unfold smallB; simp_all))
theorem isDigit_any (c : Nat) (w : World) : Calls Tryz.prog 46 #[.int .u8 (c : Int)] w fun e w' => e = .returned (.bool (digB c)) ∧ w' = w := by
  go_enter Tryz.func46, Tryz.ntmps46
  go_wp2
  all_goals (go_ret; refine ⟨ret_b ?_, rfl⟩; first | (unfold digB; rw [Bool.eq_iff_iff]; simp; omega) | (unfold digB; simp_all))
theorem inName_any (c : Nat) (w : World) : Calls Tryz.prog 42 #[.int .u8 (c : Int)] w fun e w' => e = .returned (.bool (inNB c)) ∧ w' = w := by
  go_enter Tryz.func42, Tryz.ntmps42
  go_wp2_with (first | (go_at_call 41; refine (isSmall_any c _).mono ?_; rintro e w' ⟨rfl, rfl⟩) | (go_at_call 46; refine (isDigit_any c _).mono ?_; rintro e w' ⟨rfl, rfl⟩))
  all_goals (go_ret; refine ⟨ret_b ?_, rfl⟩; first | (unfold inNB; rw [Bool.eq_iff_iff]; simp; omega) | (unfold inNB; simp_all; done) | (unfold inNB; simp_all; rw [Bool.eq_iff_iff]; simp; omega))
theorem sticks_any (c : Nat) (w : World) : Calls Tryz.prog 51 #[.int .u8 (c : Int)] w fun e w' => e = .returned (.bool (stkB c)) ∧ w' = w := by
  go_enter Tryz.func51, Tryz.ntmps51
  go_wp2_with (go_at_call 42; refine (inName_any c _).mono ?_; rintro e w' ⟨rfl, rfl⟩)
  all_goals (go_ret; refine ⟨ret_b ?_, rfl⟩; first | (unfold stkB; rw [Bool.eq_iff_iff]; simp; omega) | (unfold stkB; simp_all; done) | (unfold stkB; simp_all; rw [Bool.eq_iff_iff]; simp; omega))
end Go.Proofs.YtcnhkhjkeemafaaGreatDoor
/- Plain facts on the reference's way to read a sequence by its bytes, and that it reads what the decoding reads; no program is named here. -/
namespace Go.Proofs.YtcnhkhjkeemafaaGreatDoor
open Go.Lib (decode_at)
set_option linter.unusedVariables false

def secOf (c : Nat) : Nat × Nat :=
  if c < 194 then (0, 0) else if c < 224 then (128, 191) else if c = 224 then (160, 191) else if c < 237 then (128, 191) else if c = 237 then (128, 159) else if c < 240 then (128, 191)
  else if c = 240 then (144, 191) else if c < 244 then (128, 191) else if c = 244 then (128, 143) else (0, 0)

theorem secOf_cases (c : Nat) (h : (secOf c).1 ≠ 0) : (194 ≤ c ∧ c < 224 ∧ secOf c = (128, 191)) ∨ (c = 224 ∧ secOf c = (160, 191)) ∨ (((225 ≤ c ∧ c < 237) ∨ (238 ≤ c ∧ c < 240)) ∧ secOf c = (128, 191)) ∨ (c = 237 ∧ secOf c = (128, 159)) ∨
    (c = 240 ∧ secOf c = (144, 191)) ∨ (241 ≤ c ∧ c < 244 ∧ secOf c = (128, 191)) ∨ (c = 244 ∧ secOf c = (128, 143)) := by
  unfold secOf at h ⊢
  repeat' split at h
  all_goals simp_all
  all_goals omega

/-- How many bytes a sequence has that begins with b0. -/
def szOf (b0 : Nat) : Nat := if b0 < 224 then 2 else if b0 < 240 then 3 else 4
theorem szOf_cases (b0 : Nat) : szOf b0 = 2 ∨ szOf b0 = 3 ∨ szOf b0 = 4 := by
  unfold szOf
  repeat' split
  all_goals simp
/-- What the leading byte says of the rune. -/
def leadOf (b0 : Nat) : Nat := if b0 < 224 then b0 % 32 else if b0 < 240 then b0 % 16 else b0 % 8
/-- The rune's bits up to byte k - 1. -/
def accOf (t : ByteArray) : Nat → Nat
  | 0 => 0
  | 1 => leadOf (bt t 0)
  | k + 2 => accOf t (k + 1) * 64 + bt t (k + 1) % 64

theorem acc_step (t : ByteArray) (k : Nat) (h : 1 ≤ k) : accOf t (k + 1) = accOf t k * 64 + bt t k % 64 := by
  obtain ⟨j, rfl⟩ : ∃ j, k = j + 1 := ⟨k - 1, by omega⟩
  rfl

/-- What Sequence answers. -/
def seqV (t : ByteArray) : Int × Int := if t.size = 0 ∨ (rn t 0 = 65533 ∧ wd t 0 = 1) then (0, 0) else (wd t 0, rn t 0)
abbrev seqR (x : Int × Int) : Value := .tuple #[.int .i64 x.1, .int .i32 x.2]

theorem bt_get (t : ByteArray) (k : Nat) (h : k < t.size) : bt t k = (t[k]'h).toNat := by unfold bt; rw [get_lt t k h]; rfl

theorem seqV_ascii (t : ByteArray) (h : 0 < t.size) (hb : bt t 0 < 128) : seqV t = (1, (bt t 0 : Int)) := by
  have e : Utf8.decode t 0 = (bt t 0, 1) := by rw [decode_at]; unfold Lib.decodeN; rw [if_pos hb]
  unfold seqV
  rw [if_neg (by simp only [rn, wd, e]; omega)]
  simp only [rn, wd, e]
  rfl
theorem seqV_of (t : ByteArray) (h : 0 < t.size) (hb : 128 ≤ bt t 0) (x : Nat × Nat) (e : Lib.decodeN (t.size - 0) (bt t 0) (bt t 1) (bt t 2) (bt t 3) = x) : seqV t = if x.1 = 65533 ∧ x.2 = 1 then (0, 0) else ((x.2 : Int), (x.1 : Int)) := by
  have e' : Utf8.decode t 0 = x := by rw [decode_at]; exact e
  unfold seqV
  simp only [rn, wd, e']
  have : ¬ t.size = 0 := by omega
  simp only [this, false_or]
theorem decodeN_none (n b0 b1 b2 b3 : Nat) (h : 128 ≤ b0) (h0 : b0 < 256) (hs : (secOf b0).1 = 0) : Lib.decodeN n b0 b1 b2 b3 = (65533, 1) := by
  have hc : b0 < 194 ∨ 245 ≤ b0 := by
    unfold secOf at hs
    repeat' split at hs
    all_goals simp at hs
    all_goals omega
  unfold Lib.decodeN
  repeat' split
  all_goals first | rfl | (exfalso; omega)
theorem decodeN_slow (n b0 b1 b2 b3 : Nat) (hn : 1 ≤ n) (h1 : b1 < 256) (h2 : b2 < 256) (h3 : b3 < 256) (hs : (secOf b0).1 ≠ 0) :
    Lib.decodeN n b0 b1 b2 b3 = Lib.slowN n b0 b1 b2 b3 (szOf b0) (secOf b0).1 (secOf b0).2 := by
  rcases secOf_cases b0 hs with ⟨a, b, e⟩ | ⟨a, e⟩ | ⟨a, e⟩ | ⟨a, e⟩ | ⟨a, e⟩ | ⟨a, b, e⟩ | ⟨a, e⟩
  · rw [e, show szOf b0 = 2 by unfold szOf; rw [if_pos (by omega)]]; exact (Lib.slow_C2 n b0 b1 b2 b3 hn h1 h2 h3 (by omega)).symm
  · rw [e, show szOf b0 = 3 by unfold szOf; rw [if_neg (by omega), if_pos (by omega)]]; exact (Lib.slow_E0 n b0 b1 b2 b3 hn h1 h2 h3 (by omega)).symm
  · rw [e, show szOf b0 = 3 by unfold szOf; rw [if_neg (by omega), if_pos (by omega)]]; exact (Lib.slow_E1 n b0 b1 b2 b3 hn h1 h2 h3 (by omega)).symm
  · rw [e, show szOf b0 = 3 by unfold szOf; rw [if_neg (by omega), if_pos (by omega)]]; exact (Lib.slow_ED n b0 b1 b2 b3 hn h1 h2 h3 (by omega)).symm
  · rw [e, show szOf b0 = 4 by unfold szOf; rw [if_neg (by omega), if_neg (by omega)]]; exact (Lib.slow_F0 n b0 b1 b2 b3 hn h1 h2 h3 (by omega)).symm
  · rw [e, show szOf b0 = 4 by unfold szOf; rw [if_neg (by omega), if_neg (by omega)]]; exact (Lib.slow_F1 n b0 b1 b2 b3 hn h1 h2 h3 (by omega)).symm
  · rw [e, show szOf b0 = 4 by unfold szOf; rw [if_neg (by omega), if_neg (by omega)]]; exact (Lib.slow_F4 n b0 b1 b2 b3 hn h1 h2 h3 (by omega)).symm
/-- The bytes of a sequence from the second one on up to k - 1 are right. -/
def Goes (t : ByteArray) (k : Nat) : Prop := ∀ j, 1 ≤ j → j < k → j < t.size ∧ 128 ≤ bt t j ∧ bt t j ≤ 191

theorem seqV_none (t : ByteArray) (h : 0 < t.size) (hb : 128 ≤ bt t 0) (hs : (secOf (bt t 0)).1 = 0) : seqV t = (0, 0) := by
  rw [seqV_of t h hb _ (decodeN_none _ _ _ _ _ hb (bt_lt t 0) hs), if_pos ⟨rfl, rfl⟩]
theorem seqV_bad (t : ByteArray) (h : 0 < t.size) (hb : 128 ≤ bt t 0) (hs : (secOf (bt t 0)).1 ≠ 0)
    (hx : t.size < 2 ∨ bt t 1 < (secOf (bt t 0)).1 ∨ (secOf (bt t 0)).2 < bt t 1 ∨ ∃ k, 1 ≤ k ∧ k < szOf (bt t 0) ∧ (t.size ≤ k ∨ bt t k < 128 ∨ 191 < bt t k)) : seqV t = (0, 0) := by
  rw [seqV_of t h hb _ (decodeN_slow _ _ _ _ _ (by omega) (bt_lt t _) (bt_lt t _) (bt_lt t _) hs)]
  have hz : szOf (bt t 0) = 2 ∨ szOf (bt t 0) = 3 ∨ szOf (bt t 0) = 4 := szOf_cases _
  have hlo : 128 ≤ (secOf (bt t 0)).1 ∧ (secOf (bt t 0)).2 ≤ 191 := by
    rcases secOf_cases _ hs with ⟨a, b, e⟩ | ⟨a, e⟩ | ⟨a, e⟩ | ⟨a, e⟩ | ⟨a, e⟩ | ⟨a, b, e⟩ | ⟨a, e⟩ <;> rw [e] <;> simp
  have : Lib.slowN (t.size - 0) (bt t 0) (bt t 1) (bt t 2) (bt t 3) (szOf (bt t 0)) (secOf (bt t 0)).1 (secOf (bt t 0)).2 = (65533, 1) := by
    generalize (secOf (bt t 0)).1 = lo at *
    generalize (secOf (bt t 0)).2 = hi at *
    generalize szOf (bt t 0) = z at *
    have hx' : t.size < 2 ∨ bt t 1 < lo ∨ hi < bt t 1 ∨ (t.size < z) ∨ (3 ≤ z ∧ (bt t 2 < 128 ∨ 191 < bt t 2)) ∨ (4 ≤ z ∧ (bt t 3 < 128 ∨ 191 < bt t 3)) := by
      rcases hx with h | h | h | ⟨k, h1, h2, h3⟩
      · exact .inl h
      · exact .inr (.inl h)
      · exact .inr (.inr (.inl h))
      · rcases h3 with h3 | h3
        · exact .inr (.inr (.inr (.inl (by omega))))
        · have hk : k = 1 ∨ k = 2 ∨ k = 3 := by omega
          rcases hk with rfl | rfl | rfl
          · omega
          · exact .inr (.inr (.inr (.inr (.inl ⟨by omega, h3⟩))))
          · exact .inr (.inr (.inr (.inr (.inr ⟨by omega, h3⟩))))
    clear hx
    unfold Lib.slowN
    repeat' split
    all_goals first | rfl | (exfalso; omega)
  rw [this, if_pos ⟨rfl, rfl⟩]
theorem seqV_good (t : ByteArray) (h : 0 < t.size) (hb : 128 ≤ bt t 0) (hs : (secOf (bt t 0)).1 ≠ 0) (h1 : (secOf (bt t 0)).1 ≤ bt t 1) (h2 : bt t 1 ≤ (secOf (bt t 0)).2) (hg : Goes t (szOf (bt t 0))) :
    seqV t = ((szOf (bt t 0) : Int), (accOf t (szOf (bt t 0)) : Int)) := by
  rw [seqV_of t h hb _ (decodeN_slow _ _ _ _ _ (by omega) (bt_lt t _) (bt_lt t _) (bt_lt t _) hs)]
  have hz : (szOf (bt t 0) = 2 ∧ leadOf (bt t 0) = bt t 0 % 32) ∨ (szOf (bt t 0) = 3 ∧ leadOf (bt t 0) = bt t 0 % 16) ∨ (szOf (bt t 0) = 4 ∧ leadOf (bt t 0) = bt t 0 % 8) := by
    unfold szOf leadOf; repeat' split
    all_goals simp
  generalize (secOf (bt t 0)).1 = lo at *
  generalize (secOf (bt t 0)).2 = hi at *
  rcases hz with ⟨e, l⟩ | ⟨e, l⟩ | ⟨e, l⟩
  · have g1 := hg 1 (by omega) (by omega)
    rw [e]
    have : Lib.slowN (t.size - 0) (bt t 0) (bt t 1) (bt t 2) (bt t 3) 2 lo hi = (bt t 0 % 32 * 64 + bt t 1 % 64, 2) := by
      unfold Lib.slowN
      repeat' split
      all_goals first | (exfalso; omega) | rfl
    rw [this, if_neg (by simp), show accOf t 2 = leadOf (bt t 0) * 64 + bt t 1 % 64 from rfl, l]
  · have g1 := hg 1 (by omega) (by omega)
    have g2 := hg 2 (by omega) (by omega)
    rw [e]
    have : Lib.slowN (t.size - 0) (bt t 0) (bt t 1) (bt t 2) (bt t 3) 3 lo hi = (bt t 0 % 16 * 4096 + bt t 1 % 64 * 64 + bt t 2 % 64, 3) := by
      unfold Lib.slowN
      repeat' split
      all_goals first | (exfalso; omega) | rfl
    rw [this, if_neg (by simp), show accOf t 3 = (leadOf (bt t 0) * 64 + bt t 1 % 64) * 64 + bt t 2 % 64 from rfl, l]
    rw [Prod.mk.injEq]
    exact ⟨rfl, by omega⟩
  · have g1 := hg 1 (by omega) (by omega)
    have g2 := hg 2 (by omega) (by omega)
    have g3 := hg 3 (by omega) (by omega)
    rw [e]
    have : Lib.slowN (t.size - 0) (bt t 0) (bt t 1) (bt t 2) (bt t 3) 4 lo hi = (bt t 0 % 8 * 262144 + bt t 1 % 64 * 4096 + bt t 2 % 64 * 64 + bt t 3 % 64, 4) := by
      unfold Lib.slowN
      repeat' split
      all_goals first | (exfalso; omega) | rfl
    rw [this, if_neg (by simp), show accOf t 4 = ((leadOf (bt t 0) * 64 + bt t 1 % 64) * 64 + bt t 2 % 64) * 64 + bt t 3 % 64 from rfl, l]
    rw [Prod.mk.injEq]
    exact ⟨rfl, by omega⟩
end Go.Proofs.YtcnhkhjkeemafaaGreatDoor
