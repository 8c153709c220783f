/- Texts of this claim, one behind the other. -/
import Derived.Lib.DecodeN
import Derived.Laws.Strings
import Derived.Laws.RangeAny
import Derived.RangeFuncNested
import Derived.RangeFuncBound
import Derived.RangeFuncCalls
import Derived.RangeFuncLeaves
import Derived.Shelf.Abstract
import Derived.Shelf.RegionOpen
import Derived.WalkKit
import Derived.OwnWalkIn
import Derived.TacticsInMore
import Derived.LoopNIn
import Derived.LoopIn
import Derived.Test.YtemmflhofhngbaaProg
import Derived.Lib.OthersKept
import Derived.Sort.LotD3
import Derived.Sort.Row
import Derived.BigGuard
import Derived.BigCall
import Derived.CellFam
import Derived.Deep.Draws
import Derived.Deep.QuietTactic
import Derived.BigQuiet
import Derived.Shelf.SlSortCmp.WholeK
import Derived.Shelf.SlSortCmp.Xorshift
/- Plain facts on UTF-8 sequences: what the model's decoding says of a text's bytes; no program is named here. -/
namespace Go.Proofs.Ytemmflhofhngbaa
set_option linter.unusedVariables false
open Go.Lib (decodeN decode_at)

def widthOf (r : Int) : Int :=
  if r < 0 ∨ (55296 ≤ r ∧ r ≤ 57343) ∨ 1114111 < r then 0 else if r ≤ 127 then 1 else if r ≤ 2047 then 2 else if r ≤ 65535 then 3 else 4
def hasRB (s : ByteArray) : Bool := decide (3 ≤ s.size) && ((s.extract 0 3).toList == [239, 191, 189])
def spotR (s : ByteArray) (r : Int) : Int × Int × Bool := if r = 65533 ∧ hasRB s = false then (65533, 1, true) else (r, widthOf r, false)

/-- The byte number i, as a number; 0 behind the end. -/
abbrev bt (s : ByteArray) (i : Nat) : Nat := (s.get! i).toNat
/-- The rune and the width of what stands at i. -/
abbrev rn (s : ByteArray) (i : Nat) : Nat := (Utf8.decode s i).1
abbrev wd (s : ByteArray) (i : Nat) : Nat := (Utf8.decode s i).2

theorem bt_lt (s : ByteArray) (i : Nat) : bt s i < 256 := (s.get! i).toNat_lt

/-- Everything that is wanted of the decoding, at plain numbers. -/
structure Told (n b0 b1 b2 b3 : Nat) (x : Nat × Nat) : Prop where
  pos : 1 ≤ x.2
  four : x.2 ≤ 4
  room : 1 ≤ n → x.2 ≤ n
  c1 : 2 ≤ x.2 → b1 / 64 = 2
  c2 : 3 ≤ x.2 → b2 / 64 = 2
  c3 : 4 ≤ x.2 → b3 / 64 = 2
  lead : 2 ≤ x.2 → 192 ≤ b0
  small : x.1 ≤ 1114111
  nosur : ¬ (55296 ≤ x.1 ∧ x.1 ≤ 57343)
  width : ¬ (x.1 = 65533 ∧ x.2 = 1) → (x.2 = 1 ∧ x.1 ≤ 127) ∨ (x.2 = 2 ∧ 128 ≤ x.1 ∧ x.1 ≤ 2047) ∨ (x.2 = 3 ∧ 2048 ≤ x.1 ∧ x.1 ≤ 65535) ∨ (x.2 = 4 ∧ 65536 ≤ x.1)
  one : x.2 = 1 → x.1 = 65533 ∧ 128 ≤ b0 ∨ x.1 = b0 ∧ b0 < 128
  repl : x.1 = 65533 → x.2 = 1 ∨ (x.2 = 3 ∧ 3 ≤ n ∧ b0 = 239 ∧ b1 = 191 ∧ b2 = 189)

set_option maxHeartbeats 2000000 in
theorem told (n b0 b1 b2 b3 : Nat) (h0 : b0 < 256) (h1 : b1 < 256) (h2 : b2 < 256) (h3 : b3 < 256) : Told n b0 b1 b2 b3 (decodeN n b0 b1 b2 b3) := by
  unfold decodeN
  repeat' split
  all_goals (constructor <;> intros <;> dsimp only at * <;> omega)

theorem decodeN_repl (n b3 : Nat) (h : 3 ≤ n) : decodeN n 239 191 189 b3 = (65533, 3) := by
  unfold decodeN
  rw [if_neg (by omega), if_neg (by omega), if_pos (by omega), if_pos (by omega)]

/-- Of the room only whether it is 1, 2, 3 or more counts. -/
theorem decodeN_room (n m b0 b1 b2 b3 : Nat) (h : n = m ∨ (4 ≤ n ∧ 4 ≤ m)) : decodeN n b0 b1 b2 b3 = decodeN m b0 b1 b2 b3 := by
  rcases h with rfl | ⟨h, k⟩
  · rfl
  · have e1 : (1 < n) = (1 < m) := propext ⟨fun _ => by omega, fun _ => by omega⟩
    have e2 : (2 < n) = (2 < m) := propext ⟨fun _ => by omega, fun _ => by omega⟩
    have e3 : (3 < n) = (3 < m) := propext ⟨fun _ => by omega, fun _ => by omega⟩
    unfold decodeN
    simp only [e1, e2, e3]

/-- Only the bytes that are there count. -/
theorem decodeN_cong (n b0 b1 b2 b3 c1 c2 c3 : Nat) (h1 : 1 < n → b1 = c1) (h2 : 2 < n → b2 = c2) (h3 : 3 < n → b3 = c3) : decodeN n b0 b1 b2 b3 = decodeN n b0 c1 c2 c3 := by
  by_cases k1 : 1 < n
  · by_cases k2 : 2 < n
    · by_cases k3 : 3 < n
      · rw [h1 k1, h2 k2, h3 k3]
      · rw [h1 k1, h2 k2]; unfold decodeN; simp only [k3, false_and, and_false, if_false]
    · have k3 : ¬ 3 < n := by omega
      rw [h1 k1]; unfold decodeN; simp only [k2, k3, false_and, and_false, if_false]
  · have k2 : ¬ 2 < n := by omega
    have k3 : ¬ 3 < n := by omega
    unfold decodeN; simp only [k1, k2, k3, false_and, and_false, if_false]

theorem get_lt (s : ByteArray) (i : Nat) (h : i < s.size) : s.get! i = s.data[i]'h := by
  show s.data[i]! = _
  exact getElem!_pos s.data i h
theorem get_ge (s : ByteArray) (i : Nat) (h : s.size ≤ i) : s.get! i = default := by
  show s.data[i]! = _
  exact getElem!_neg s.data i (by show ¬ i < s.data.size; have : s.data.size = s.size := rfl; omega)
theorem get_extract (s : ByteArray) (a b j : Nat) (h : a + j < b) (hb : b ≤ s.size) : (s.extract a b).get! j = s.get! (a + j) := by
  rw [get_lt _ _ (by rw [ByteArray.size_extract]; omega), get_lt _ _ (by omega)]
  simp
theorem get_suffix (s : ByteArray) (a j : Nat) (ha : a ≤ s.size) : (s.extract a s.size).get! j = s.get! (a + j) := by
  by_cases h : a + j < s.size
  · exact get_extract s a s.size j h (Nat.le_refl _)
  · rw [get_ge _ _ (by rw [ByteArray.size_extract]; omega), get_ge _ _ (by omega)]

theorem decode_suffix (s : ByteArray) (a j : Nat) (ha : a ≤ s.size) : Utf8.decode (s.extract a s.size) j = Utf8.decode s (a + j) := by
  rw [decode_at, decode_at, ByteArray.size_extract]
  simp only [get_suffix s a _ ha, Nat.min_self, Nat.sub_sub, Nat.add_assoc]

theorem at_told (s : ByteArray) (i : Nat) : Told (s.size - i) (bt s i) (bt s (i + 1)) (bt s (i + 2)) (bt s (i + 3)) (Utf8.decode s i) := by
  rw [decode_at]; exact told _ _ _ _ _ (bt_lt s i) (bt_lt s _) (bt_lt s _) (bt_lt s _)
theorem wd_pos (s : ByteArray) (i : Nat) : 1 ≤ wd s i := (at_told s i).pos
theorem wd_four (s : ByteArray) (i : Nat) : wd s i ≤ 4 := (at_told s i).four
theorem wd_room (s : ByteArray) (i : Nat) (h : i < s.size) : i + wd s i ≤ s.size := by have := (at_told s i).room (by omega); show i + (Utf8.decode s i).2 ≤ _; omega
theorem wd_cont (s : ByteArray) (i k : Nat) (h0 : 0 < k) (h : k < wd s i) : bt s (i + k) / 64 = 2 := by
  have t := at_told s i
  have f := wd_four s i
  have : k = 1 ∨ k = 2 ∨ k = 3 := by omega
  rcases this with rfl | rfl | rfl
  · exact t.c1 h
  · exact t.c2 h
  · exact t.c3 h
theorem wd_lead (s : ByteArray) (i : Nat) (h : 2 ≤ wd s i) : 192 ≤ bt s i := (at_told s i).lead h

/-- What stands at i: its rune, its width, whether it is bad. -/
def spotV (s : ByteArray) (i : Nat) : Int × Int × Bool := (rn s i, wd s i, decide (rn s i = 65533 ∧ wd s i = 1))

theorem three_iff (l : List UInt8) (hl : 3 ≤ l.length) : (l.extract 0 3 == [239, 191, 189]) = true ↔ l[0].toNat = 239 ∧ l[1].toNat = 191 ∧ l[2].toNat = 189 := by
  match l, hl with
  | a :: b :: c :: r, _ => simp [List.extract, ← UInt8.toNat_inj]

theorem hasRB_iff (t : ByteArray) : hasRB t = true ↔ 3 ≤ t.size ∧ bt t 0 = 239 ∧ bt t 1 = 191 ∧ bt t 2 = 189 := by
  unfold hasRB
  rw [ByteArray.toList_eq, ByteArray.data_extract, Array.toList_extract]
  by_cases h : 3 ≤ t.size
  · have g0 := get_lt t 0 (by omega)
    have g1 := get_lt t 1 (by omega)
    have g2 := get_lt t 2 (by omega)
    have hl : 3 ≤ t.data.toList.length := by simpa using h
    have e0 : t.get! 0 = t.data.toList[0] := by rw [g0]; simp
    have e1 : t.get! 1 = t.data.toList[1] := by rw [g1]; simp
    have e2 : t.get! 2 = t.data.toList[2] := by rw [g2]; simp
    simp only [bt, e0, e1, e2]
    rw [← three_iff t.data.toList hl]
    simp [h]
  · simp [h]

theorem widthOf_rn (s : ByteArray) (i : Nat) (h : ¬ (rn s i = 65533 ∧ wd s i = 1)) : widthOf (rn s i) = wd s i := by
  have t := at_told s i
  have hw := t.width h
  have hs := t.small
  have hn := t.nosur
  unfold widthOf
  simp only [rn, wd]
  rw [if_neg (by omega)]
  rcases hw with ⟨e, h1⟩ | ⟨e, h1, h2⟩ | ⟨e, h1, h2⟩ | ⟨e, h1⟩
  · rw [if_pos (by omega), e]; rfl
  · rw [if_neg (by omega), if_pos (by omega), e]; rfl
  · rw [if_neg (by omega), if_neg (by omega), if_pos (by omega), e]; rfl
  · rw [if_neg (by omega), if_neg (by omega), if_neg (by omega), e]; rfl

theorem spotR_eq (s : ByteArray) (i : Nat) (h : i < s.size) : spotR (s.extract i s.size) (rn s i) = spotV s i := by
  have hb : hasRB (s.extract i s.size) = true ↔ 3 ≤ s.size - i ∧ bt s i = 239 ∧ bt s (i + 1) = 191 ∧ bt s (i + 2) = 189 := by
    rw [hasRB_iff, ByteArray.size_extract, Nat.min_self]
    simp only [bt, get_suffix s i _ (Nat.le_of_lt h), Nat.add_zero]
  unfold spotR spotV
  by_cases hr : rn s i = 65533
  · rcases (at_told s i).repl hr with h1 | ⟨h3, hn, c0, c1, c2⟩
    · have hf : hasRB (s.extract i s.size) = false := by
        cases hx : hasRB (s.extract i s.size) with
        | false => rfl
        | true =>
          obtain ⟨hn, c0, c1, c2⟩ := hb.1 hx
          have := decode_at s i
          rw [show (s.get! i).toNat = 239 from c0, show (s.get! (i + 1)).toNat = 191 from c1, show (s.get! (i + 2)).toNat = 189 from c2, decodeN_repl _ _ hn] at this
          rw [this] at h1
          simp at h1
      rw [if_pos ⟨by rw [hr]; rfl, hf⟩]
      have e2 : wd s i = 1 := h1
      rw [hr, e2]
      rfl
    · have ht : hasRB (s.extract i s.size) = true := hb.2 ⟨hn, c0, c1, c2⟩
      have e2 : wd s i = 3 := h3
      rw [if_neg (by rw [ht]; simp), widthOf_rn s i (by omega)]
      simp [e2]
  · rw [if_neg (by intro hh; apply hr; have := hh.1; omega), widthOf_rn s i (by intro hh; exact hr hh.1)]
    simp [hr]

/-- The numbers of the first bytes of the spots. -/
def startsFrom (s : ByteArray) : Nat → Nat → List Nat
  | 0, _ => []
  | f + 1, i => if i < s.size then i :: startsFrom s f (i + wd s i) else []
def starts (s : ByteArray) : List Nat := startsFrom s s.size 0
theorem startsFrom_end (s : ByteArray) (f i : Nat) (h : ¬ i < s.size) : startsFrom s f i = [] := by cases f <;> simp [startsFrom, h]
theorem startsFrom_cons (s : ByteArray) (f i : Nat) (h : i < s.size) : startsFrom s (f + 1) i = i :: startsFrom s f (i + wd s i) := by simp [startsFrom, h]

/-- No sequence that began shortly ahead of p goes on behind it. -/
def bdB (s : ByteArray) (p : Nat) : Bool := decide ((1 ≤ p → wd s (p - 1) ≤ 1) ∧ (2 ≤ p → wd s (p - 2) ≤ 2) ∧ (3 ≤ p → wd s (p - 3) ≤ 3))
theorem bd_iff (s : ByteArray) (p : Nat) : bdB s p = true ↔ ∀ n, n < 4 → 1 ≤ n → n ≤ p → wd s (p - n) ≤ n := by
  unfold bdB
  rw [decide_eq_true_iff]
  constructor
  · rintro ⟨a, b, c⟩ n h4 h1 hn
    have : n = 1 ∨ n = 2 ∨ n = 3 := by omega
    rcases this with rfl | rfl | rfl
    · exact a hn
    · exact b hn
    · exact c hn
  · intro h
    exact ⟨h 1 (by omega) (by omega), h 2 (by omega) (by omega), h 3 (by omega) (by omega)⟩
theorem bd_zero (s : ByteArray) : bdB s 0 = true := (bd_iff s 0).2 fun n _ h1 h2 => by omega
theorem bd_end (s : ByteArray) : bdB s s.size = true := (bd_iff s _).2 fun n _ h1 h2 => by have := wd_room s (s.size - n) (by omega); omega
theorem bd_step (s : ByteArray) (p : Nat) (h : bdB s p = true) (hp : p < s.size) : bdB s (p + wd s p) = true := by
  rw [bd_iff] at h ⊢
  intro n h4 h1 hn
  have hw := wd_pos s p
  rcases Nat.lt_or_ge n (wd s p + 1) with hlt | hge
  · by_cases e : n = wd s p
    · rw [show p + wd s p - n = p by omega]; omega
    · -- within the sequence of p: a byte that begins none of more than one byte
      have hk := wd_cont s p (wd s p - n) (by omega) (by omega)
      rcases Nat.lt_or_ge (wd s (p + wd s p - n)) 2 with h2 | h2
      · omega
      · have := wd_lead s _ h2
        rw [show p + (wd s p - n) = p + wd s p - n by omega] at hk
        omega
  · have hh := h (n - wd s p) (by omega) (by omega) (by omega)
    rw [show p + wd s p - n = p - (n - wd s p) by omega]
    omega
/-- The same, told of a part of the text with three bytes at each side. -/
theorem bd_near (s u : ByteArray) (p q : Nat) (hp : p ≤ s.size) (hq : q ≤ u.size) (hl : p = q ∨ (3 ≤ p ∧ 3 ≤ q)) (hr : s.size - p = u.size - q ∨ (3 ≤ s.size - p ∧ 3 ≤ u.size - q))
    (hb : ∀ i j, p + j = q + i → i < s.size → j < u.size → i + 3 ≥ p → i < p + 3 → bt s i = bt u j) : bdB s p = bdB u q := by
  have hd : ∀ n, n < 4 → 1 ≤ n → n ≤ p → n ≤ q → wd s (p - n) = wd u (q - n) := by
    intro n h4 h1 hnp hnq
    show (Utf8.decode s (p - n)).2 = (Utf8.decode u (q - n)).2
    rw [decode_at, decode_at]
    rw [decodeN_room (u.size - (q - n)) (s.size - (p - n)) _ _ _ _ (by omega)]
    rw [show (s.get! (p - n)).toNat = (u.get! (q - n)).toNat from hb _ _ (by omega) (by omega) (by omega) (by omega) (by omega)]
    rw [decodeN_cong (s.size - (p - n)) _ _ _ _ (u.get! (q - n + 1)).toNat (u.get! (q - n + 2)).toNat (u.get! (q - n + 3)).toNat]
    · intro h; exact hb _ _ (by omega) (by omega) (by omega) (by omega) (by omega)
    · intro h; exact hb _ _ (by omega) (by omega) (by omega) (by omega) (by omega)
    · intro h; exact hb _ _ (by omega) (by omega) (by omega) (by omega) (by omega)
  rw [Bool.eq_iff_iff, bd_iff, bd_iff]
  constructor
  · intro h n h4 h1 hn
    rw [← hd n h4 h1 (by omega) hn]
    exact h n h4 h1 (by omega)
  · intro h n h4 h1 hn
    rw [hd n h4 h1 hn (by omega)]
    exact h n h4 h1 (by omega)
end Go.Proofs.Ytemmflhofhngbaa
/- The plain calls of the smallest functions (Width, badSpot, HasPrefix, spotOf), each told for every argument. -/
namespace Go.Proofs.Ytemmflhofhngbaa
open Go.RowKit Go.Shelf

theorem width_any (r : Int) (w : World) : Calls Try.prog 40 #[.int .i32 r] w fun e w' => e = .returned (.int .i64 (widthOf r)) ∧ w' = w := by
  by_cases h0 : r < 0
  · have : widthOf r = 0 := by unfold widthOf; rw [if_pos (by omega)]
    rw [this]
    go_enter Try.func40, Try.ntmps40
    go_wp2
    go_ret
    exact ⟨rfl, rfl⟩
  by_cases h1 : 55296 ≤ r
  · by_cases h2 : r ≤ 57343
    · have : widthOf r = 0 := by unfold widthOf; rw [if_pos (by omega)]
      rw [this]
      go_enter Try.func40, Try.ntmps40
      go_wp2
      go_ret
      exact ⟨rfl, rfl⟩
    by_cases h3 : 1114111 < r
    · have : widthOf r = 0 := by unfold widthOf; rw [if_pos (by omega)]
      rw [this]
      go_enter Try.func40, Try.ntmps40
      go_wp2
      go_ret
      exact ⟨rfl, rfl⟩
    by_cases h4 : r ≤ 65535
    · have : widthOf r = 3 := by unfold widthOf; rw [if_neg (by omega), if_neg (by omega), if_neg (by omega), if_pos h4]
      rw [this]
      go_enter Try.func40, Try.ntmps40
      go_wp2
      go_ret
      exact ⟨rfl, rfl⟩
    · have : widthOf r = 4 := by unfold widthOf; rw [if_neg (by omega), if_neg (by omega), if_neg (by omega), if_neg (by omega)]
      rw [this]
      go_enter Try.func40, Try.ntmps40
      go_wp2
      go_ret
      exact ⟨rfl, rfl⟩
  by_cases h5 : r ≤ 127
  · have : widthOf r = 1 := by unfold widthOf; rw [if_neg (by omega), if_pos (by omega)]
    rw [this]
    go_enter Try.func40, Try.ntmps40
    go_wp2
    go_ret
    exact ⟨rfl, rfl⟩
  by_cases h6 : r ≤ 2047
  · have : widthOf r = 2 := by unfold widthOf; rw [if_neg (by omega), if_neg (by omega), if_pos (by omega)]
    rw [this]
    go_enter Try.func40, Try.ntmps40
    go_wp2
    go_ret
    exact ⟨rfl, rfl⟩
  · have : widthOf r = 3 := by unfold widthOf; rw [if_neg (by omega), if_neg (by omega), if_neg (by omega), if_pos (by omega)]
    rw [this]
    go_enter Try.func40, Try.ntmps40
    go_wp2
    go_ret
    exact ⟨rfl, rfl⟩

abbrev encSpot (x : Int × Int × Bool) : Value := .agg #[.int .i32 x.1, .int .i64 x.2.1, .bool x.2.2]

end Go.Proofs.Ytemmflhofhngbaa
/- The function that Spots hands back, as an iterator: it hands out each spot of the text with the number of its first byte, in order, and stops where it is told to. -/
namespace Go.Proofs.Ytemmflhofhngbaa
open Go.RowKit Go.Shelf
attribute [local go_sem] Oper.semAt_some
set_option linter.unusedVariables false

/-- A fact that is kept from the walk: a structure, so that no tactic looks behind it. -/
structure Hz (p : Prop) : Prop where
  out : p
theorem hide {p : Prop} (h : p) : Hz p := ⟨h⟩
theorem unhide {p : Prop} (h : Hz p) : p := h.out

theorem grown_of_below {W W' : World} (h : Below W.heap.size W W') : W.grownBy W' none := ⟨h.os, h.tape, h.output, h.size, fun k hk _ => h.block k hk⟩
theorem grown_iterAt (w : World) (k : Nat) (s : ByteArray) (pos : Nat) : w.grownBy (w.iterAt k s pos) (some k) :=
  ⟨rfl, rfl, rfl, by rw [Lib.iterAt_size]; exact Nat.le_refl _, fun i _ h => Lib.iterAt_other w k i s pos (fun e => h (by rw [e]))⟩
theorem iterPos_at {w : World} {k : Nat} {s : ByteArray} {pos : Nat} (h : w.heap[k]? = some (.stringIter s pos)) : w.iterPos k = pos := by unfold World.iterPos; rw [h]

/-- What a round that goes on keeps: the box with the text, and whatever is walked over. -/
def KpS (b : Nat) (W W' : World) : Prop := W'.cell? ⟨b, 0, none⟩ = W.cell? ⟨b, 0, none⟩ ∧ KeepsWalks W W'
abbrev encsS (s : ByteArray) (i : Nat) : Array Value := #[.int .i64 i, encSpot (spotV s i)]

theorem cell_lt {W : World} {a : Addr} {v : Value} (h : W.cell? a = some v) : a.block < W.heap.size := by
  obtain ⟨o, ho, _⟩ := cells_of_cell h
  exact (Array.getElem?_eq_some_iff.1 ho).1
theorem startsFrom_length (s : ByteArray) : ∀ f i, (startsFrom s f i).length ≤ f
  | 0, i => by simp [startsFrom]
  | f + 1, i => by
    unfold startsFrom
    split
    · have := startsFrom_length s f (i + wd s i); simp; omega
    · simp
theorem starts_length (s : ByteArray) : (starts s).length ≤ s.size := startsFrom_length s _ _

theorem KpS_t {b : Nat} {A B C : World} (h : KpS b A B) (k : KpS b B C) : KpS b A C := ⟨k.1.trans h.1, h.2.trans k.2⟩
theorem KpS_b {b : Nat} {w : World} (hb : b < w.heap.size) (W : World) (l : Nat) (o o' : Obj) (hl : w.heap.size ≤ l) (h : W.heap[l]? = some o) (_ : o.isCells = false) (hw : o.isWalk = false) : KpS b W (W.putObj l o') :=
  ⟨World.cell?_of_block (World.putObj_heap_other (by show b ≠ l; omega)), KeepsWalks.putObj _ h hw⟩

end Go.Proofs.Ytemmflhofhngbaa
/- First, told for every text: its first spot and true, or the zero spot and false. -/
namespace Go.Proofs.Ytemmflhofhngbaa
open Go.RowKit Go.Shelf
attribute [local go_sem] Oper.semAt_some
set_option linter.unusedVariables false

/-- A block of cells, none of them frozen. -/
def Blk (W : World) (B : Nat) (cs : Array Value) (t : TypeId) : Prop := W.heap[B]? = some (.cells cs t (0, 0))
theorem Blk.lt {W : World} {B : Nat} {cs : Array Value} {t : TypeId} (h : Blk W B cs t) : B < W.heap.size := (Array.getElem?_eq_some_iff.1 h).1
theorem Blk.cell {W : World} {B : Nat} {cs : Array Value} {t : TypeId} (h : Blk W B cs t) (i : Nat) : W.cell? ⟨B, i, none⟩ = cs[i]? := by
  simp [World.cell?, show W.heap[B]? = _ from h]
theorem Blk.frozen {W : World} {B : Nat} {cs : Array Value} {t : TypeId} (h : Blk W B cs t) (i : Nat) : W.frozen? ⟨B, i, none⟩ = false := by simp [World.frozen?, show W.heap[B]? = _ from h]
theorem Blk.new (W : World) (cs : Array Value) (t : TypeId) : Blk (W.alloc (.cells cs t)) W.heap.size cs t := World.alloc_heap_new W _
theorem Blk.kept {W W' : World} {row : Option Nat} {B : Nat} {cs : Array Value} {t : TypeId} (h : Blk W B cs t) (hg : W.grownBy W' row) (hne : some B ≠ row) : Blk W' B cs t := (hg.block B h.lt hne).trans h
theorem Blk.alloc {W : World} {B : Nat} {cs : Array Value} {t : TypeId} (h : Blk W B cs t) (o : Obj) : Blk (W.alloc o) B cs t := h.kept (World.grownBy_alloc W o none) (by simp)
theorem Blk.below {W W' : World} {N B : Nat} {cs : Array Value} {t : TypeId} (h : Blk W B cs t) (hb : Below N W W') (hlt : B < N) : Blk W' B cs t := (hb.block B hlt).trans h
theorem Blk.own {β : Type} (B : Nat) (cs : β → Array Value) (t : TypeId) : Own (fun s W => Blk W B (cs s) t) := fun s A A' row hs hg hr => hs.kept hg (fun e => by
  obtain ⟨o, ho, hc⟩ := hr B e.symm
  rw [show A.heap[B]? = _ from hs] at ho
  cases ho
  simp [Obj.isCells] at hc)

theorem Blk.set {W : World} {B : Nat} {cs : Array Value} {t : TypeId} (h : Blk W B cs t) (i : Nat) (v : Value) : Blk (W.setCell ⟨B, i, none⟩ v) B (cs.setIfInBounds i v) t := by
  show (W.heap.modify B _)[B]? = _
  rw [Array.getElem?_modify, if_pos rfl, show W.heap[B]? = _ from h]
  rfl
theorem Blk.other {W : World} {B B' i : Nat} {cs : Array Value} {t : TypeId} (h : Blk W B cs t) (hne : B ≠ B') (v : Value) : Blk (W.setCell ⟨B', i, none⟩ v) B cs t :=
  (Below.heap_setCell W ⟨B', i, none⟩ v B hne).trans h
theorem Blk.put {W : World} {B l : Nat} {cs : Array Value} {t : TypeId} {o : Obj} (h : Blk W B cs t) (o' : Obj) (hl : W.heap[l]? = some o) (ho : o.isCells = false) : Blk (W.putObj l o') B cs t :=
  (World.putObj_heap_other (fun e => by subst e; rw [show W.heap[B]? = _ from h] at hl; cases hl; simp [Obj.isCells] at ho)).trans h
abbrev spotCells (x : Int × Int × Bool) : Array Value := #[.int .i32 x.1, .int .i64 x.2.1, .bool x.2.2]
/-- What First answers. -/
def firstV (s : ByteArray) : Value := if 0 < s.size then .tuple #[encSpot (spotV s 0), .bool true] else .tuple #[encSpot (0, 0, false), .bool false]
theorem firstV_pos {s : ByteArray} (h : 0 < s.size) : firstV s = .tuple #[encSpot (spotV s 0), .bool true] := if_pos h
theorem firstV_neg {s : ByteArray} (h : ¬ 0 < s.size) : firstV s = .tuple #[encSpot (0, 0, false), .bool false] := if_neg h
theorem starts_head (s : ByteArray) (h : 0 < s.size) : ∃ r, starts s = 0 :: r := by
  unfold starts
  obtain ⟨m, hm⟩ : ∃ m, s.size = m + 1 := ⟨s.size - 1, by omega⟩
  rw [hm, startsFrom_cons s m 0 h]
  exact ⟨_, rfl⟩
theorem starts_empty (s : ByteArray) (h : ¬ 0 < s.size) : starts s = [] := startsFrom_end s _ _ h

end Go.Proofs.Ytemmflhofhngbaa
/- A row of 32-bit numbers that is being sorted: where it lies, swaps, what stays. -/
namespace Go.Proofs.Ytemmflhofhngbaa
open Go.RowKit Go.Shelf
set_option linter.unusedVariables false
/-- The numbers d lie at blk from off on; since w nothing but that block has changed. -/
structure SoAt (w W : World) (blk off : Nat) (d : Array Int) : Prop where
  row : Sort.Holds (Value.int .i32) W blk off d
  gr : w.grownBy W (some blk)
theorem SoAt.start {w : World} {blk off : Nat} {d : Array Int} (h : Sort.Holds (Value.int .i32) w blk off d) : SoAt w w blk off d :=
  ⟨h, ⟨rfl, rfl, rfl, Nat.le_refl _, fun _ _ _ => rfl⟩⟩
theorem grown_trans {a b c : World} {row : Option Nat} (h : a.grownBy b row) (k : b.grownBy c row) : a.grownBy c row :=
  ⟨k.os.trans h.os, k.tape.trans h.tape, k.output.trans h.output, Nat.le_trans h.size k.size, fun i hi hn => (k.block i (by have := h.size; omega) hn).trans (h.block i hi hn)⟩
theorem SoAt.trans {w W W2 : World} {blk off : Nat} {d d2 : Array Int} (h : SoAt w W blk off d) (k : SoAt W W2 blk off d2) : SoAt w W2 blk off d2 :=
  ⟨k.row, grown_trans h.gr k.gr⟩
theorem SoAt.drewN {w W : World} {blk off : Nat} {d : Array Int} (h : SoAt w W blk off d) (q : Nat) : SoAt w (W.drewN q) blk off d :=
  ⟨h.row, ⟨h.gr.os, h.gr.tape, h.gr.output, h.gr.size, h.gr.block⟩⟩
theorem SoAt.drew {w W : World} {blk off : Nat} {d : Array Int} (h : SoAt w W blk off d) : SoAt w W.drew blk off d :=
  ⟨h.row, ⟨h.gr.os, h.gr.tape, h.gr.output, h.gr.size, h.gr.block⟩⟩
theorem holds_of {W W' : World} {blk off : Nat} {d : Array Int} (h : Sort.Holds (Value.int .i32) W blk off d) (hb : W'.heap[blk]? = W.heap[blk]?) : Sort.Holds (Value.int .i32) W' blk off d :=
  fun j hj => ⟨(World.cell?_of_block (a := ⟨blk, off + j, none⟩) hb).trans (h j hj).1, (World.frozen?_of_block (a := ⟨blk, off + j, none⟩) hb).trans (h j hj).2⟩
theorem SoAt.below {w W W' : World} {blk off : Nat} {d : Array Int} (h : SoAt w W blk off d) (hl : blk < w.heap.size) (hb : Below W.heap.size W W') : SoAt w W' blk off d :=
  ⟨holds_of h.row (hb.block blk (by have := h.gr.size; omega)), grown_trans h.gr ⟨hb.os, hb.tape, hb.output, hb.size, fun k hk _ => hb.block k hk⟩⟩
theorem size_swp' (d : Array Int) (i j : Nat) : (Sort.swp d i j).size = d.size := by simp [Sort.swp]
theorem SoAt.swap {w W : World} {blk off : Nat} {d : Array Int} (h : SoAt w W blk off d) {i j : Nat} (hi : i < d.size) (hj : j < d.size) :
    SoAt w ((W.setCell ⟨blk, off + i, none⟩ (.int .i32 d[j]!)).setCell ⟨blk, off + j, none⟩ (.int .i32 d[i]!)) blk off (Sort.swp d i j) := by
  have e := Sort.putRow_swp (Value.int .i32) W blk off d i j hi hj
  rw [Sort.putRow_self _ _ _ _ _ h.row] at e
  refine ⟨?_, ?_⟩
  · rw [e]
    exact Sort.holds_putRow _ _ _ _ d _ h.row (size_swp' d i j)
  · have g1 : W.grownBy (W.setCell ⟨blk, off + i, none⟩ (.int .i32 d[j]!)) (some blk) := ⟨rfl, rfl, rfl, (KeepsWalks.setCell W _ _).size, fun k hk hn => Below.heap_setCell W ⟨blk, off + i, none⟩ _ k (fun e => hn (by rw [e]))⟩
    have g2 : (W.setCell ⟨blk, off + i, none⟩ (.int .i32 d[j]!)).grownBy ((W.setCell ⟨blk, off + i, none⟩ (.int .i32 d[j]!)).setCell ⟨blk, off + j, none⟩ (.int .i32 d[i]!)) (some blk) := ⟨rfl, rfl, rfl, (KeepsWalks.setCell _ _ _).size, fun k hk hn => Below.heap_setCell _ ⟨blk, off + j, none⟩ _ k (fun e => hn (by rw [e]))⟩
    exact grown_trans h.gr (grown_trans g1 g2)
/-- What the row's cells hold, by a function: the walk's own form. -/
theorem SoAt.cells {w W : World} {blk off : Nat} {d : Array Int} (h : SoAt w W blk off d) (n : Nat) (hn : d.size = n) : ∃ G : Nat → Int, (∀ t, G t = d[t]!) ∧ (∀ t, t < n → W.cell? ⟨blk, off + t, none⟩ = some (.int .i32 (G t))) ∧ (∀ t, t < n → W.frozen? ⟨blk, off + t, none⟩ = false) :=
  ⟨fun t => d[t]!, fun _ => rfl, fun t ht => (h.row t (by omega)).1, fun t ht => (h.row t (by omega)).2⟩
/-- Between the two stores of a swap. -/
theorem mid_cell {W : World} {blk off N : Nat} {G : Nat → Int} (hc : ∀ t, t < N → W.cell? ⟨blk, off + t, none⟩ = some (.int .i32 (G t))) {i j : Nat} (hi : i < N) (hj : j < N) : (W.setCell ⟨blk, off + i, none⟩ (.int .i32 (G j))).drew.cell? ⟨blk, off + j, none⟩ = some (.int .i32 (G j)) := by
  show (W.setCell ⟨blk, off + i, none⟩ (.int .i32 (G j))).cell? ⟨blk, off + j, none⟩ = _
  by_cases e : i = j
  · subst e
    exact World.cell?_setCell_same _ _ _ (hc i hi)
  · rw [World.cell?_setCell_other _ _ _ _ (by intro h; injection h with h1 h2; omega)]
    exact hc j hj
theorem mid_frozen {W : World} {blk off N : Nat} {G : Nat → Int} (hf : ∀ t, t < N → W.frozen? ⟨blk, off + t, none⟩ = false) {i j : Nat} (hj : j < N) : (W.setCell ⟨blk, off + i, none⟩ (.int .i32 (G j))).drew.frozen? ⟨blk, off + j, none⟩ = false := by
  show (W.setCell ⟨blk, off + i, none⟩ (.int .i32 (G j))).frozen? ⟨blk, off + j, none⟩ = _
  rw [World.frozen?_setCell]
  exact hf j hj
theorem less32 (a b : Int) (w : World) : Calls Try.prog 87 #[.int .i32 a, .int .i32 b] w fun e w' => e = .returned (.bool (Sort.ltInt a b)) ∧ w' = w := by
  have ha : (a != a) = false := by simp
  go_enter Try.func87, Try.ntmps87
  go_wp2_with go_in
  go_ret
  exact ⟨rfl, rfl⟩
end Go.Proofs.Ytemmflhofhngbaa
/- insertionSortOrdered at runes. -/
namespace Go.Proofs.Ytemmflhofhngbaa
open Go.RowKit Go.Shelf
set_option linter.unusedVariables false
theorem insI_go {a j : Nat} {d : Array Int} (hj : a < j) (hl : Sort.ltInt d[j]! d[j - 1]! = true) : Sort.insInner Sort.ltInt a j d = Sort.insInner Sort.ltInt a (j - 1) (Sort.swp d j (j - 1)) := by
  cases j with
  | zero => omega
  | succ k =>
    rw [Nat.add_sub_cancel] at hl ⊢
    show (if _ then _ else _) = _
    rw [if_pos (by rw [hl, Bool.and_true]; exact decide_eq_true hj)]
theorem insI_stop {a j : Nat} {d : Array Int} (h : j ≤ a ∨ Sort.ltInt d[j]! d[j - 1]! = false) : Sort.insInner Sort.ltInt a j d = d := by
  cases j with
  | zero => rfl
  | succ k =>
    rw [Nat.add_sub_cancel] at h
    show (if _ then _ else _) = _
    rw [if_neg]
    intro e
    rcases Bool.and_eq_true_iff.1 e with ⟨e1, e2⟩
    have := of_decide_eq_true e1
    rcases h with h | h
    · omega
    · rw [h] at e2; exact Bool.false_ne_true e2
theorem insO_go {a b i : Nat} {d : Array Int} (h : i < b) : Sort.insOuter Sort.ltInt a b i d = Sort.insOuter Sort.ltInt a b (i + 1) (Sort.insInner Sort.ltInt a i d) := by rw [Sort.insOuter, if_pos h]
theorem insO_stop {a b i : Nat} {d : Array Int} (h : ¬ i < b) : Sort.insOuter Sort.ltInt a b i d = d := by rw [Sort.insOuter, if_neg h]
set_option maxRecDepth 100000 in
set_option maxHeartbeats 4000000 in
theorem so_ins (blk off cap a b : Nat) (d : Array Int) (hab : a ≤ b) (hb : b ≤ d.size) (hsz : d.size ≤ 1000000) (w : World) (hH : Sort.Holds (Value.int .i32) w blk off d) :
    Calls Try.prog 81 #[.slice (some ⟨blk, off, none⟩) d.size cap, .int .i64 a, .int .i64 b] w fun e w' => e = .returned (.tuple #[]) ∧ SoAt w w' blk off (Sort.insertionSort Sort.ltInt d a b) := by
  have HS := hide (SoAt.start hH)
  obtain ⟨N, hN⟩ : ∃ N, N = d.size := ⟨_, rfl⟩
  rw [← hN] at hb hsz ⊢
  have HN := hide hN
  clear hH hN
  go_enter Try.func81, Try.ntmps81
  go_wp2
  go_loopw [6] (fun vi wr => ∃ (i : Nat) (dk : Array Int), vi = .int .i64 i ∧ a < i ∧ i ≤ b + 1 ∧ Hz (dk.size = N ∧ SoAt w wr blk off dk ∧ Sort.insOuter Sort.ltInt a b i dk = Sort.insertionSort Sort.ltInt d a b)) (fun vi _ => b + 1 - (intOf vi).toNat)
  case atStart => exact ⟨a + 1, d, by go_num, by omega, by omega, hide ⟨(unhide HN).symm, unhide HS, rfl⟩⟩
  case round =>
    obtain ⟨i, dk, rfl, hai, hib, HO⟩ := hrel
    clear HS
    by_cases hlt : i < b
    · have hlt' : (i : Int) < (b : Int) := by omega
      go_wp2
      go_loopw [7] (fun vj wr2 => ∃ (j : Nat) (dj : Array Int), vj = .int .i64 j ∧ a ≤ j ∧ j ≤ i ∧ Hz (dj.size = N ∧ SoAt w wr2 blk off dj ∧ Sort.insInner Sort.ltInt a j dj = Sort.insInner Sort.ltInt a i dk)) (fun vj _ => (intOf vj).toNat)
      case atStart => exact ⟨i, dk, rfl, by omega, Nat.le_refl _, hide ⟨(unhide HO).1, (unhide HO).2.1, rfl⟩⟩
      case round =>
        obtain ⟨j, dj, rfl, haj, hji, HI⟩ := hrel
        obtain ⟨G, hG, hc, hf⟩ := (unhide HI).2.1.cells N (unhide HI).1
        have HG := hide hG
        clear hG
        have HOUT : Hz ((j ≤ a ∨ Sort.ltInt (G j) (G (j - 1)) = false) → ∀ q, SoAt w (wr.drewN q) blk off dj ∧ Sort.insOuter Sort.ltInt a b (i + 1) dj = Sort.insertionSort Sort.ltInt d a b) := hide (fun hs q => ⟨(unhide HI).2.1.drewN q, by
          rw [← (unhide HO).2.2, insO_go hlt, ← (unhide HI).2.2, insI_stop (by rw [← unhide HG, ← unhide HG]; exact hs)]⟩)
        go_wp2
        by_cases hja : a < j
        · cases hl : Sort.ltInt (G j) (G (j - 1)) with
          | true =>
            go_quiet (first | (go_at_call 87; refine Calls.quiet_of_same (less32 _ _ _)))
            go_wp2
            go_region
            all_goals go_wp2
            go_roundw
            case rel =>
              refine ⟨j - 1, Sort.swp dj j (j - 1), by congr 1; omega, by omega, by omega, hide ⟨by rw [size_swp']; exact (unhide HI).1, ?_, ?_⟩⟩
              · have hsz' := (unhide HI).1
                rw [unhide HG, unhide HG]
                exact ((unhide HI).2.1.drewN _).swap (by omega) (by omega)
              · rw [← (unhide HI).2.2, insI_go hja (by rw [← unhide HG, ← unhide HG]; exact hl)]
            case measure => simp [intOf]; omega
          | false =>
            go_quiet (first | (go_at_call 87; refine Calls.quiet_of_same (less32 _ _ _)))
            go_wp2
            go_roundw
            case rel => exact ⟨i + 1, dj, by go_num, by omega, by omega, hide ⟨(unhide HI).1, unhide HOUT (.inr hl) _⟩⟩
            case measure => simp [intOf]; omega
        · go_quiet (first | (go_at_call 87; refine Calls.quiet_of_same (less32 _ _ _)))
          go_wp2
          go_roundw
          case rel => exact ⟨i + 1, dj, by go_num, by omega, by omega, hide ⟨(unhide HI).1, unhide HOUT (.inl (by omega)) _⟩⟩
          case measure => simp [intOf]; omega
    · have hlt' : ¬ (i : Int) < (b : Int) := by omega
      go_wp2
      go_end0
      exact ⟨rfl, by rw [← (unhide HO).2.2, insO_stop hlt]; exact (unhide HO).2.1⟩
end Go.Proofs.Ytemmflhofhngbaa
/- siftDownOrdered at runes. -/
namespace Go.Proofs.Ytemmflhofhngbaa
open Go.RowKit Go.Shelf
set_option linter.unusedVariables false
theorem sd_end' {hi F root : Nat} {d : Array Int} (h : hi ≤ 2 * root + 1) : Sort.siftDown Sort.ltInt hi F root d = d := by rw [Sort.siftDown, dif_pos h]
theorem sd_two {hi F root : Nat} {d : Array Int} (h0 : ¬ hi ≤ 2 * root + 1) (h1 : 2 * root + 2 < hi) (h2 : Sort.ltInt d[F + 2 * root + 1]! d[F + 2 * root + 2]! = true) : Sort.siftDown Sort.ltInt hi F root d = if Sort.ltInt d[F + root]! d[F + 2 * root + 2]! then Sort.siftDown Sort.ltInt hi F (2 * root + 2) (Sort.swp d (F + root) (F + (2 * root + 2))) else d := by
  rw [show F + 2 * root + 1 = F + (2 * root + 1) from by omega, show F + 2 * root + 2 = F + (2 * root + 2) from by omega] at h2
  rw [Sort.siftDown, dif_neg h0, if_pos (by rw [show F + (2 * root + 1) + 1 = F + (2 * root + 2) from by omega, h2, Bool.and_true]; exact decide_eq_true (by omega)), dif_pos h1, show F + 2 * root + 2 = F + (2 * root + 2) from by omega]
  cases Sort.ltInt d[F + root]! d[F + (2 * root + 2)]! <;> rfl
theorem sd_one {hi F root : Nat} {d : Array Int} (h0 : ¬ hi ≤ 2 * root + 1) (h1 : ¬ 2 * root + 2 < hi ∨ Sort.ltInt d[F + 2 * root + 1]! d[F + 2 * root + 2]! = false) : Sort.siftDown Sort.ltInt hi F root d = if Sort.ltInt d[F + root]! d[F + 2 * root + 1]! then Sort.siftDown Sort.ltInt hi F (2 * root + 1) (Sort.swp d (F + root) (F + (2 * root + 1))) else d := by
  rw [show F + 2 * root + 1 = F + (2 * root + 1) from by omega, show F + 2 * root + 2 = F + (2 * root + 2) from by omega] at h1
  rw [Sort.siftDown, dif_neg h0, if_neg (by
    intro e
    rcases Bool.and_eq_true_iff.1 e with ⟨e1, e2⟩
    have := of_decide_eq_true e1
    rw [show F + (2 * root + 1) + 1 = F + (2 * root + 2) from by omega] at e2
    rcases h1 with h1 | h1
    · omega
    · rw [h1] at e2; exact Bool.false_ne_true e2), show F + 2 * root + 1 = F + (2 * root + 1) from by omega]
  cases Sort.ltInt d[F + root]! d[F + (2 * root + 1)]! <;> rfl
set_option maxRecDepth 100000 in
set_option maxHeartbeats 8000000 in
theorem so_sift (blk off cap lo hi first N : Nat) (d : Array Int) (hN : d.size = N) (hlo : lo ≤ hi) (hb : first + hi ≤ N) (hsz : N ≤ 1000000) (w : World) (hH : Sort.Holds (Value.int .i32) w blk off d) :
    Calls Try.prog 91 #[.slice (some ⟨blk, off, none⟩) N cap, .int .i64 lo, .int .i64 hi, .int .i64 first] w fun e w' => e = .returned (.tuple #[]) ∧ SoAt w w' blk off (Sort.siftDown Sort.ltInt hi first lo d) := by
  have HS := hide (SoAt.start hH)
  have HN := hide hN
  clear hH hN
  go_enter Try.func91, Try.ntmps91
  go_wp2
  go_loopw [8] (fun vi wr => ∃ (root : Nat) (dk : Array Int), vi = .int .i64 root ∧ root ≤ hi ∧ Hz (dk.size = N ∧ SoAt w wr blk off dk ∧ Sort.siftDown Sort.ltInt hi first root dk = Sort.siftDown Sort.ltInt hi first lo d)) (fun vi _ => hi - (intOf vi).toNat)
  case atStart => exact ⟨lo, d, rfl, hlo, hide ⟨unhide HN, unhide HS, rfl⟩⟩
  case round =>
    obtain ⟨root, dj, rfl, hr, HI⟩ := hrel
    clear HS
    obtain ⟨G, hG, hc, hf⟩ := (unhide HI).2.1.cells N (unhide HI).1
    have HZ := hide (unhide HI).1
    have HA := hide (unhide HI).2.1
    have HE := hide (unhide HI).2.2
    have HG := hide hG
    clear hG HI
    by_cases h0 : hi ≤ 2 * root + 1
    · have h0z : (hi : Int) ≤ 2 * (root : Int) + 1 := by omega
      go_wp2
      go_end0
      exact ⟨rfl, by rw [← unhide HE, sd_end' h0]; exact unhide HA⟩
    · have h0z : ¬ ((hi : Int) ≤ 2 * (root : Int) + 1) := by omega
      by_cases h1 : 2 * root + 2 < hi
      · have h1z : 2 * (root : Int) + 1 + 1 < (hi : Int) := by omega
        cases h2 : Sort.ltInt (G (first + 2 * root + 1)) (G (first + 2 * root + 2)) with
        | true =>
          go_wp2_with fail
          go_big_quiet (first | (go_at_call 87; refine Calls.quiet_of_same (less32 _ _ _)))
          go_wp2_with fail
          have HA2 : Hz (SoAt w (wr.drewN nq) blk off dj) := hide ((unhide HA).drewN nq)
          have hc2 : ∀ t, t < N → (wr.drewN nq).cell? ⟨blk, off + t, none⟩ = some (.int .i32 (G t)) := hc
          have hf2 : ∀ t, t < N → (wr.drewN nq).frozen? ⟨blk, off + t, none⟩ = false := hf
          clear hc hf HA
          generalize wr.drewN nq = W2 at HA2 hc2 hf2 ⊢
          clear nq
          cases hl : Sort.ltInt (G (first + root)) (G (first + 2 * root + 2)) with
          | false =>
            go_big_quiet (first | (go_at_call 87; refine Calls.quiet_of_same (less32 _ _ _)))
            go_wp2_with fail
            (try simp only [Exit.inBlock, Exit.then])
            refine bodyPost_ret (results_none rfl _ _ _) rfl ?_
            exact ⟨rfl, by rw [← unhide HE, sd_two h0 h1 (by rw [← unhide HG, ← unhide HG]; exact h2), if_neg (by rw [← unhide HG, ← unhide HG, hl]; exact Bool.false_ne_true)]; exact (unhide HA2).drewN _⟩
          | true =>
            go_big_quiet (first | (go_at_call 87; refine Calls.quiet_of_same (less32 _ _ _)))
            go_wp2_with fail
            have HA3 : Hz (SoAt w (W2.drewN nq) blk off dj) := hide ((unhide HA2).drewN nq)
            have hc3 : ∀ t, t < N → (W2.drewN nq).cell? ⟨blk, off + t, none⟩ = some (.int .i32 (G t)) := hc2
            have hf3 : ∀ t, t < N → (W2.drewN nq).frozen? ⟨blk, off + t, none⟩ = false := hf2
            clear hc2 hf2 HA2
            generalize W2.drewN nq = W3 at HA3 hc3 hf3 ⊢
            clear nq
            go_region
            all_goals go_wp2
            go_roundw
            case rel =>
              refine ⟨2 * root + 2, Sort.swp dj (first + root) (first + (2 * root + 2)), by simp <;> omega, by omega, hide ⟨by rw [size_swp']; exact unhide HZ, ?_, ?_⟩⟩
              · have hsz' := unhide HZ
                rw [unhide HG, unhide HG]
                exact (unhide HA3).drew.swap (by omega) (by omega)
              · rw [← unhide HE, sd_two h0 h1 (by rw [← unhide HG, ← unhide HG]; exact h2), if_pos (by rw [← unhide HG, ← unhide HG]; exact hl)]
            case measure => simp [intOf]; omega
        | false =>
          go_wp2_with fail
          go_big_quiet (first | (go_at_call 87; refine Calls.quiet_of_same (less32 _ _ _)))
          go_wp2_with fail
          have HA2 : Hz (SoAt w (wr.drewN nq) blk off dj) := hide ((unhide HA).drewN nq)
          have hc2 : ∀ t, t < N → (wr.drewN nq).cell? ⟨blk, off + t, none⟩ = some (.int .i32 (G t)) := hc
          have hf2 : ∀ t, t < N → (wr.drewN nq).frozen? ⟨blk, off + t, none⟩ = false := hf
          clear hc hf HA
          generalize wr.drewN nq = W2 at HA2 hc2 hf2 ⊢
          clear nq
          cases hl : Sort.ltInt (G (first + root)) (G (first + 2 * root + 1)) with
          | false =>
            go_big_quiet (first | (go_at_call 87; refine Calls.quiet_of_same (less32 _ _ _)))
            go_wp2_with fail
            (try simp only [Exit.inBlock, Exit.then])
            refine bodyPost_ret (results_none rfl _ _ _) rfl ?_
            exact ⟨rfl, by rw [← unhide HE, sd_one h0 (.inr (by rw [← unhide HG, ← unhide HG]; exact h2)), if_neg (by rw [← unhide HG, ← unhide HG, hl]; exact Bool.false_ne_true)]; exact (unhide HA2).drewN _⟩
          | true =>
            go_big_quiet (first | (go_at_call 87; refine Calls.quiet_of_same (less32 _ _ _)))
            go_wp2_with fail
            have HA3 : Hz (SoAt w (W2.drewN nq) blk off dj) := hide ((unhide HA2).drewN nq)
            have hc3 : ∀ t, t < N → (W2.drewN nq).cell? ⟨blk, off + t, none⟩ = some (.int .i32 (G t)) := hc2
            have hf3 : ∀ t, t < N → (W2.drewN nq).frozen? ⟨blk, off + t, none⟩ = false := hf2
            clear hc2 hf2 HA2
            generalize W2.drewN nq = W3 at HA3 hc3 hf3 ⊢
            clear nq
            go_region
            all_goals go_wp2
            go_roundw
            case rel =>
              refine ⟨2 * root + 1, Sort.swp dj (first + root) (first + (2 * root + 1)), by simp <;> omega, by omega, hide ⟨by rw [size_swp']; exact unhide HZ, ?_, ?_⟩⟩
              · have hsz' := unhide HZ
                rw [unhide HG, unhide HG]
                exact (unhide HA3).drew.swap (by omega) (by omega)
              · rw [← unhide HE, sd_one h0 (.inr (by rw [← unhide HG, ← unhide HG]; exact h2)), if_pos (by rw [← unhide HG, ← unhide HG]; exact hl)]
            case measure => simp [intOf]; omega
      · have h1z : ¬ (2 * (root : Int) + 1 + 1 < (hi : Int)) := by omega
        go_wp2_with fail
        have h1d : decide (2 * (root : Int) + 1 + 1 < (hi : Int)) = false := decide_eq_false (by omega)
        go_big_quiet (first | (go_at_call 87; refine Calls.quiet_of_same (less32 _ _ _)))
        go_wp2_with fail
        have HA2 : Hz (SoAt w (wr.drewN nq) blk off dj) := hide ((unhide HA).drewN nq)
        have hc2 : ∀ t, t < N → (wr.drewN nq).cell? ⟨blk, off + t, none⟩ = some (.int .i32 (G t)) := hc
        have hf2 : ∀ t, t < N → (wr.drewN nq).frozen? ⟨blk, off + t, none⟩ = false := hf
        clear hc hf HA
        generalize wr.drewN nq = W2 at HA2 hc2 hf2 ⊢
        clear nq
        cases hl : Sort.ltInt (G (first + root)) (G (first + 2 * root + 1)) with
        | false =>
          go_big_quiet (first | (go_at_call 87; refine Calls.quiet_of_same (less32 _ _ _)))
          go_wp2_with fail
          (try simp only [Exit.inBlock, Exit.then])
          refine bodyPost_ret (results_none rfl _ _ _) rfl ?_
          exact ⟨rfl, by rw [← unhide HE, sd_one h0 (.inl h1), if_neg (by rw [← unhide HG, ← unhide HG, hl]; exact Bool.false_ne_true)]; exact (unhide HA2).drewN _⟩
        | true =>
          go_big_quiet (first | (go_at_call 87; refine Calls.quiet_of_same (less32 _ _ _)))
          go_wp2_with fail
          have HA3 : Hz (SoAt w (W2.drewN nq) blk off dj) := hide ((unhide HA2).drewN nq)
          have hc3 : ∀ t, t < N → (W2.drewN nq).cell? ⟨blk, off + t, none⟩ = some (.int .i32 (G t)) := hc2
          have hf3 : ∀ t, t < N → (W2.drewN nq).frozen? ⟨blk, off + t, none⟩ = false := hf2
          clear hc2 hf2 HA2
          generalize W2.drewN nq = W3 at HA3 hc3 hf3 ⊢
          clear nq
          go_region
          all_goals go_wp2
          go_roundw
          case rel =>
            refine ⟨2 * root + 1, Sort.swp dj (first + root) (first + (2 * root + 1)), by simp <;> omega, by omega, hide ⟨by rw [size_swp']; exact unhide HZ, ?_, ?_⟩⟩
            · have hsz' := unhide HZ
              rw [unhide HG, unhide HG]
              exact (unhide HA3).drew.swap (by omega) (by omega)
            · rw [← unhide HE, sd_one h0 (.inl h1), if_pos (by rw [← unhide HG, ← unhide HG]; exact hl)]
          case measure => simp [intOf]; omega
end Go.Proofs.Ytemmflhofhngbaa
/- heapSortOrdered at runes. -/
namespace Go.Proofs.Ytemmflhofhngbaa
open Go.RowKit Go.Shelf
set_option linter.unusedVariables false
theorem sift_size (hi F : Nat) : ∀ (f root : Nat) (d : Array Int), hi ≤ f + root → (Sort.siftDown Sort.ltInt hi F root d).size = d.size
  | 0, root, d, h => by rw [Sort.siftDown, dif_pos (by omega)]
  | f + 1, root, d, h => by
    rw [Sort.siftDown]
    split
    · rfl
    · split
      · split
        · rfl
        · split
          · rw [sift_size hi F f _ _ (by omega), size_swp']
          · rfl
      · split
        · rfl
        · rw [sift_size hi F f _ _ (by omega), size_swp']
theorem half_from {a b : Nat} (h : a < b) : ((b : Int) - (a : Int) - 1).tdiv 2 = (((b - a - 1) / 2 + 1 : Nat) : Int) - 1 := by
  rw [Int.tdiv_eq_ediv_of_nonneg (by omega)]
  omega
set_option maxRecDepth 100000 in
set_option maxHeartbeats 8000000 in
theorem so_heap (blk off cap a b N : Nat) (d : Array Int) (hN : d.size = N) (hab : a < b) (hb : b ≤ N) (hsz : N ≤ 1000000) (w : World) (hH : Sort.Holds (Value.int .i32) w blk off d) :
    Calls Try.prog 82 #[.slice (some ⟨blk, off, none⟩) N cap, .int .i64 a, .int .i64 b] w fun e w' => e = .returned (.tuple #[]) ∧ SoAt w w' blk off (Sort.heapSort Sort.ltInt d a b) := by
  have HS := hide (SoAt.start hH)
  have HN := hide hN
  obtain ⟨H, hHd⟩ : ∃ H, H = b - a := ⟨_, rfl⟩
  have HHi := hide (show (b : Int) - (a : Int) = (H : Int) by omega)
  have HF := hide (half_from hab)
  have hH1 : 1 ≤ H := by omega
  have hHb : a + H ≤ N := by omega
  have HHd := hide hHd
  clear hH hN hHd
  go_enter Try.func82, Try.ntmps82
  go_wp2_with fail
  rw [← unhide HHd] at HF
  rw [unhide HHi] at HF ⊢
  go_loopw [9] (fun vi wr => ∃ (k : Nat) (dk : Array Int), vi = .int .i64 ((k : Int) - 1) ∧ k ≤ (H - 1) / 2 + 1 ∧ Hz (dk.size = N ∧ SoAt w wr blk off dk ∧ Sort.heapBuild Sort.ltInt H a k dk = Sort.heapBuild Sort.ltInt H a ((H - 1) / 2 + 1) d)) (fun vi _ => (intOf vi + 1).toNat)
  case atStart => exact ⟨(H - 1) / 2 + 1, d, by congr 1; omega, Nat.le_refl _, hide ⟨unhide HN, unhide HS, rfl⟩⟩
  case round =>
    obtain ⟨k, dk, rfl, hk, HI⟩ := hrel
    clear HS
    cases k with
    | zero =>
      clear HF
      rw [show (((0 : Nat) : Int)) - 1 = -1 from rfl]
      go_wp2_with fail
      go_loopw [10] (fun vi wr2 => ∃ (k : Nat) (dj : Array Int), vi = .int .i64 ((k : Int) - 1) ∧ k ≤ H ∧ Hz (dj.size = N ∧ SoAt w wr2 blk off dj ∧ Sort.heapPop Sort.ltInt a k dj = Sort.heapSort Sort.ltInt d a b)) (fun vi _ => (intOf vi + 1).toNat)
      case atStart => exact ⟨H, dk, rfl, Nat.le_refl _, hide ⟨(unhide HI).1, (unhide HI).2.1, by unfold Sort.heapSort; rw [← unhide HHd, ← (unhide HI).2.2]; rfl⟩⟩
      case round =>
        obtain ⟨k, dj, rfl, hk2, HJ⟩ := hrel
        cases k with
        | zero =>
          go_wp2_with fail
          go_end0
          exact ⟨rfl, by rw [← (unhide HJ).2.2]; exact (unhide HJ).2.1⟩
        | succ k =>
          obtain ⟨G, hG, hc, hf⟩ := (unhide HJ).2.1.cells N (unhide HJ).1
          have HG := hide hG
          clear hG
          have hkk : (((k + 1 : Nat) : Int)) - 1 = (k : Int) := by omega
          rw [hkk]
          clear hkk
          have hszj := (unhide HJ).1
          have HA := (unhide HJ).2.1.drew.swap (i := a) (j := a + k) (by omega) (by omega)
          rw [← unhide HG, ← unhide HG] at HA
          have HA2 := hide HA
          clear HA hszj
          have hm1 := mid_cell hc (i := a) (j := a + k) (by omega) (by omega)
          have hm2 := mid_frozen (G := G) hf (i := a) (j := a + k) (by omega)
          go_wp2_with fail
          go_region
          all_goals go_wp2_with fail
          refine (so_sift blk off cap 0 k a N (Sort.swp dj a (a + k)) (by rw [size_swp']; exact (unhide HJ).1) (by omega) (by omega) hsz _ (unhide HA2).row).mono ?_
          rintro e w' ⟨rfl, hA⟩
          go_wp2_with fail
          go_roundw
          case rel => exact ⟨k, Sort.siftDown Sort.ltInt k a 0 (Sort.swp dj a (a + k)), by simp, by omega, hide ⟨by rw [sift_size k a k 0 _ (by omega), size_swp']; exact (unhide HJ).1, (unhide HA2).trans hA, by rw [← (unhide HJ).2.2]; rfl⟩⟩
          case measure => simp [intOf]
    | succ k =>
      have hkk : (((k + 1 : Nat) : Int)) - 1 = (k : Int) := by omega
      rw [hkk]
      clear hkk
      go_wp2_with (go_at_call 91; refine (so_sift blk off cap k H a N dk (unhide HI).1 (by omega) (by omega) hsz _ (unhide HI).2.1.row).mono ?_; rintro e w' ⟨rfl, hA⟩)
      go_roundw
      case rel => exact ⟨k, Sort.siftDown Sort.ltInt H a k dk, by simp, by omega, hide ⟨by rw [sift_size H a H k dk (by omega)]; exact (unhide HI).1, (unhide HI).2.1.trans hA, by rw [← (unhide HI).2.2]; rfl⟩⟩
      case measure => simp [intOf]
end Go.Proofs.Ytemmflhofhngbaa
/- reverseRangeOrdered at runes: a rearrangement. -/
namespace Go.Proofs.Ytemmflhofhngbaa
open Go.RowKit Go.Shelf
set_option linter.unusedVariables false
set_option maxRecDepth 100000 in
set_option maxHeartbeats 4000000 in
theorem so_rev (blk off cap a b N : Nat) (d : Array Int) (hN : d.size = N) (hab : a < b) (hb : b ≤ N) (hsz : N ≤ 1000000) (w : World) (hH : Sort.Holds (Value.int .i32) w blk off d) :
    Calls Try.prog 85 #[.slice (some ⟨blk, off, none⟩) N cap, .int .i64 a, .int .i64 b] w fun e w' => e = .returned (.tuple #[]) ∧ ∃ d', Sort.PermIn a b d d' ∧ SoAt w w' blk off d' := by
  have HS := hide (SoAt.start hH)
  have HN := hide hN
  clear hH hN
  go_enter Try.func85, Try.ntmps85
  go_wp2
  go_loopw [6, 7] (fun vi vj wr => ∃ (i j : Nat) (dk : Array Int), vi = .int .i64 i ∧ vj = .int .i64 j ∧ a ≤ i ∧ j < b ∧ Hz (dk.size = N ∧ SoAt w wr blk off dk ∧ Sort.PermIn a b d dk)) (fun vi vj _ => ((intOf vj) - (intOf vi)).toNat)
  case atStart => exact ⟨a, b - 1, d, rfl, by congr 1; omega, Nat.le_refl _, by omega, hide ⟨unhide HN, unhide HS, Sort.permIn_refl _ _ _⟩⟩
  case round =>
    obtain ⟨i, j, dk, rfl, rfl, hi, hj, HI⟩ := hrel
    clear HS
    by_cases hlt : i < j
    · have hlt' : (i : Int) < (j : Int) := by omega
      obtain ⟨G, hG, hc, hf⟩ := (unhide HI).2.1.cells N (unhide HI).1
      have hm1 := mid_cell hc (i := i) (j := j) (by omega) (by omega)
      have hm2 := mid_frozen (G := G) hf (i := i) (j := j) (by omega)
      have hszj := (unhide HI).1
      have HA := (unhide HI).2.1.drew.swap (i := i) (j := j) (by omega) (by omega)
      rw [← hG, ← hG] at HA
      have HA2 := hide HA
      have HP := hide (Sort.permIn_trans _ _ _ _ _ (unhide HI).2.2 (Sort.swp_permIn dk a b i j (by omega) (by omega) (by omega) (by omega) (by omega)))
      have HZ := hide (show (Sort.swp dk i j).size = N by rw [size_swp']; exact hszj)
      clear HA hG hszj HI
      go_wp2_with fail
      go_region
      all_goals go_wp2
      go_roundw
      case rel => exact ⟨i + 1, j - 1, Sort.swp dk i j, by go_num, by congr 1; omega, by omega, by omega, hide ⟨unhide HZ, unhide HA2, unhide HP⟩⟩
      case measure => simp [intOf]; omega
    · have hlt' : ¬ (i : Int) < (j : Int) := by omega
      go_wp2
      go_end0
      exact ⟨rfl, dk, (unhide HI).2.2, (unhide HI).2.1⟩
end Go.Proofs.Ytemmflhofhngbaa
/- choosePivotOrdered at runes: some place of the range. -/
namespace Go.Proofs.Ytemmflhofhngbaa
open Go.RowKit Go.Shelf
set_option linter.unusedVariables false
/-- The row is as it was; the box sb holds a number of at most m. -/
structure PvAt (w W : World) (blk off : Nat) (d : Array Int) (sb m : Nat) : Prop where
  row : Sort.Holds (Value.int .i32) W blk off d
  gr : w.grownBy W (some sb)
  box : ∃ s : Nat, s ≤ m ∧ Blk W sb #[.int .i64 s] 3
theorem PvAt.trans {w W W2 : World} {blk off : Nat} {d : Array Int} {sb m m2 : Nat} (h : PvAt w W blk off d sb m) (k : PvAt W W2 blk off d sb m2) : PvAt w W2 blk off d sb m2 := ⟨k.row, grown_trans h.gr k.gr, k.box⟩
theorem PvAt.mono {w W : World} {blk off : Nat} {d : Array Int} {sb m m2 : Nat} (h : PvAt w W blk off d sb m) (hm : m ≤ m2) : PvAt w W blk off d sb m2 := ⟨h.row, h.gr, by obtain ⟨s, hs, hb⟩ := h.box; exact ⟨s, by omega, hb⟩⟩
theorem PvAt.drewN {w W : World} {blk off : Nat} {d : Array Int} {sb m : Nat} (h : PvAt w W blk off d sb m) (q : Nat) : PvAt w (W.drewN q) blk off d sb m := ⟨h.row, ⟨h.gr.os, h.gr.tape, h.gr.output, h.gr.size, h.gr.block⟩, h.box⟩
theorem PvAt.start {w : World} {blk off : Nat} {d : Array Int} {sb m s : Nat} (h : Sort.Holds (Value.int .i32) w blk off d) (hs : s ≤ m) (hb : Blk w sb #[.int .i64 s] 3) : PvAt w w blk off d sb m := ⟨h, ⟨rfl, rfl, rfl, Nat.le_refl _, fun _ _ _ => rfl⟩, s, hs, hb⟩
theorem grown_set (W : World) (B i : Nat) (v : Value) : W.grownBy (W.setCell ⟨B, i, none⟩ v) (some B) := ⟨rfl, rfl, rfl, (KeepsWalks.setCell W _ _).size, fun k hk hn => Below.heap_setCell W ⟨B, i, none⟩ _ k (fun e => hn (by rw [e]))⟩
set_option maxRecDepth 100000 in
set_option maxHeartbeats 4000000 in
theorem so_order (blk off cap a b sb m N : Nat) (d : Array Int) (hN : d.size = N) (ha : a < N) (hb : b < N) (hsz : N ≤ 1000000) (hm : m ≤ 100) (w0 w : World) (hne : blk ≠ sb) (hP : PvAt w0 w blk off d sb m) :
    Calls Try.prog 94 #[.slice (some ⟨blk, off, none⟩) N cap, .int .i64 a, .int .i64 b, .pointer (some ⟨sb, 0, none⟩)] w fun e w' => ∃ x y : Nat, e = .returned (.tuple #[.int .i64 x, .int .i64 y]) ∧ (x = a ∨ x = b) ∧ (y = a ∨ y = b) ∧ PvAt w0 w' blk off d sb (m + 1) := by
  obtain ⟨s, hs, hbx⟩ := hP.box
  obtain ⟨G, hG, hc, hf⟩ := (SoAt.start hP.row).cells N hN
  have HP := hide hP
  have HBX := hide hbx
  have c0 := hbx.cell 0
  have f0 := hbx.frozen 0
  clear hP hbx hG
  go_enter Try.func94, Try.ntmps94
  go_wp2_with fail
  go_big_quiet (first | (go_at_call 87; refine Calls.quiet_of_same (less32 _ _ _)))
  go_wp2_with fail
  · go_ret2
    have hP2 : PvAt w0 (w.drewN nq) blk off d sb m := (unhide HP).drewN nq
    have hB2 : Blk (w.drewN nq) sb #[.int .i64 s] 3 := unhide HBX
    refine ⟨b, a, rfl, .inr rfl, .inl rfl, ?_⟩
    exact ⟨holds_of hP2.row (Below.heap_setCell _ ⟨sb, 0, none⟩ _ blk hne), grown_trans hP2.gr (grown_set _ sb 0 _), s + 1, by omega, hB2.set 0 _⟩
  · go_ret2
    exact ⟨a, b, rfl, .inl rfl, .inr rfl, ((unhide HP).drewN _).mono (by omega)⟩
set_option maxRecDepth 100000 in
set_option maxHeartbeats 4000000 in
theorem so_median (blk off cap a b c sb m N : Nat) (d : Array Int) (hN : d.size = N) (ha : a < N) (hb : b < N) (hc : c < N) (hsz : N ≤ 1000000) (hm : m ≤ 90) (w0 w : World) (hne : blk ≠ sb) (hP : PvAt w0 w blk off d sb m) :
    Calls Try.prog 93 #[.slice (some ⟨blk, off, none⟩) N cap, .int .i64 a, .int .i64 b, .int .i64 c, .pointer (some ⟨sb, 0, none⟩)] w fun e w' => ∃ x : Nat, e = .returned (.int .i64 x) ∧ (x = a ∨ x = b ∨ x = c) ∧ PvAt w0 w' blk off d sb (m + 3) := by
  have HN := hide hN
  have HP := hide hP
  clear hP hN
  go_enter Try.func93, Try.ntmps93
  go_wp2_with fail
  refine (so_order blk off cap a b sb m N d (unhide HN) ha hb hsz (by omega) w0 _ hne (unhide HP)).mono ?_
  rintro e w1 ⟨x1, y1, rfl, hx1, hy1, hP1⟩
  have HP1 := hide hP1
  clear hP1 HP
  go_wp2_with fail
  refine (so_order blk off cap y1 c sb (m + 1) N d (unhide HN) (by omega) hc hsz (by omega) w0 _ hne (unhide HP1)).mono ?_
  rintro e w2 ⟨x2, y2, rfl, hx2, hy2, hP2⟩
  have HP2 := hide hP2
  clear hP2 HP1
  go_wp2_with fail
  refine (so_order blk off cap x1 x2 sb (m + 2) N d (unhide HN) (by omega) (by omega) hsz (by omega) w0 _ hne (unhide HP2)).mono ?_
  rintro e w3 ⟨x3, y3, rfl, hx3, hy3, hP3⟩
  have HP3 := hide hP3
  clear hP3 HP2
  go_wp2_with fail
  go_ret
  exact ⟨y3, rfl, by omega, unhide HP3⟩
set_option maxRecDepth 100000 in
set_option maxHeartbeats 4000000 in
theorem so_adjacent (blk off cap a sb m N : Nat) (d : Array Int) (hN : d.size = N) (h1 : 1 ≤ a) (ha : a + 1 < N) (hsz : N ≤ 1000000) (hm : m ≤ 90) (w0 w : World) (hne : blk ≠ sb) (hP : PvAt w0 w blk off d sb m) :
    Calls Try.prog 92 #[.slice (some ⟨blk, off, none⟩) N cap, .int .i64 a, .pointer (some ⟨sb, 0, none⟩)] w fun e w' => ∃ x : Nat, e = .returned (.int .i64 x) ∧ a - 1 ≤ x ∧ x ≤ a + 1 ∧ PvAt w0 w' blk off d sb (m + 3) := by
  have HN := hide hN
  have HP := hide hP
  have HC := hide (so_median blk off cap (a - 1) a (a + 1) sb m N d hN (by omega) (by omega) ha hsz hm w0 w hne hP)
  rw [show (((a - 1 : Nat) : Int)) = (a : Int) - 1 by omega, show (((a + 1 : Nat) : Int)) = (a : Int) + 1 by omega] at HC
  clear hP hN
  go_enter Try.func92, Try.ntmps92
  go_wp2_with fail
  refine (unhide HC).mono ?_
  rintro e w1 ⟨x, rfl, hx, hP1⟩
  have HP1 := hide hP1
  clear hP1 HP
  go_wp2_with fail
  go_ret
  exact ⟨x, rfl, by omega, by omega, unhide HP1⟩
end Go.Proofs.Ytemmflhofhngbaa
/- choosePivotOrdered at runes: some place of the range. -/
namespace Go.Proofs.Ytemmflhofhngbaa
open Go.RowKit Go.Shelf
set_option linter.unusedVariables false
theorem pv_so {w W : World} {blk off : Nat} {d : Array Int} {m : Nat} (h : PvAt w W blk off d w.heap.size m) (hl : blk < w.heap.size) : SoAt w W blk off d :=
  ⟨h.row, ⟨h.gr.os, h.gr.tape, h.gr.output, h.gr.size, fun k hk _ => h.gr.block k hk (fun e => by injection e; omega)⟩⟩
set_option maxRecDepth 100000 in
set_option maxHeartbeats 4000000 in
theorem so_pivot (blk off cap a b N : Nat) (d : Array Int) (hN : d.size = N) (hab : a + 12 < b) (hb : b ≤ N) (hsz : N ≤ 1000000) (w : World) (hl : blk < w.heap.size) (hH : Sort.Holds (Value.int .i32) w blk off d) :
    Calls Try.prog 84 #[.slice (some ⟨blk, off, none⟩) N cap, .int .i64 a, .int .i64 b] w fun e w' => ∃ (p : Nat) (h : Int), e = .returned (.tuple #[.int .i64 p, .int .i64 h]) ∧ a ≤ p ∧ p < b ∧ SoAt w w' blk off d := by
  have HN := hide hN
  have HH := hide hH
  have hL : (8 : Int) ≤ (b : Int) - (a : Int) := by omega
  clear hN hH
  go_enter Try.func84, Try.ntmps84
  obtain ⟨I, hI⟩ : ∃ I, I = a + (b - a) / 4 := ⟨_, rfl⟩
  obtain ⟨J, hJ⟩ : ∃ J, J = a + (b - a) / 4 * 2 := ⟨_, rfl⟩
  obtain ⟨K, hK⟩ : ∃ K, K = a + (b - a) / 4 * 3 := ⟨_, rfl⟩
  have E1 := hide (show (a : Int) + ((b : Int) - (a : Int)) / 4 = (I : Int) by omega)
  have E2 := hide (show (a : Int) + ((b : Int) - (a : Int)) / 4 * 2 = (J : Int) by omega)
  have E3 := hide (show (a : Int) + ((b : Int) - (a : Int)) / 4 * 3 = (K : Int) by omega)
  have b1 : a + 1 ≤ I ∧ I + 2 < b := by omega
  have b2 : a + 1 ≤ J ∧ J + 2 < b := by omega
  have b3 : a + 1 ≤ K ∧ K + 2 < b := by omega
  clear hI hJ hK
  have hne : blk ≠ w.heap.size := by omega
  have hP0 : PvAt w (w.alloc (.cells #[.int .i64 0] 3)) blk off d w.heap.size 0 := ⟨holds_of (unhide HH) (Below.heap_alloc w _ blk hl), ⟨rfl, rfl, rfl, by simp, fun k hk _ => Below.heap_alloc w _ k hk⟩, 0, Nat.le_refl _, Blk.new w _ _⟩
  have HP0 := hide hP0
  clear hP0
  by_cases h50 : a + 50 ≤ b
  · have h50' : (50 : Int) ≤ (b : Int) - (a : Int) := by omega
    go_wp2_with fail
    rw [unhide E1, unhide E2, unhide E3]
    refine (so_adjacent blk off cap I w.heap.size 0 N d (unhide HN) (by omega) (by omega) hsz (by omega) w _ hne (unhide HP0)).mono ?_
    rintro e w1 ⟨x1, rfl, h1, h1', hP1⟩
    have HP1 := hide hP1
    clear hP1 HP0
    go_wp2_with fail
    refine (so_adjacent blk off cap J w.heap.size 3 N d (unhide HN) (by omega) (by omega) hsz (by omega) w _ hne (unhide HP1)).mono ?_
    rintro e w2 ⟨x2, rfl, h2, h2', hP2⟩
    have HP2 := hide hP2
    clear hP2 HP1
    go_wp2_with fail
    refine (so_adjacent blk off cap K w.heap.size 6 N d (unhide HN) (by omega) (by omega) hsz (by omega) w _ hne (unhide HP2)).mono ?_
    rintro e w3 ⟨x3, rfl, h3, h3', hP3⟩
    have HP3 := hide hP3
    clear hP3 HP2
    go_wp2_with fail
    refine (so_median blk off cap x1 x2 x3 w.heap.size 9 N d (unhide HN) (by omega) (by omega) (by omega) hsz (by omega) w _ hne (unhide HP3)).mono ?_
    rintro e w4 ⟨x, rfl, hx, hP4⟩
    have HP4 := hide hP4
    clear hP4 HP3
    obtain ⟨s, hs, hbx⟩ := (unhide HP4).box
    have c0 : w4.cell? ⟨w.heap.size, 0, none⟩ = some (.int .i64 s) := hbx.cell 0
    clear hbx
    have HE : Hz (SoAt w w4 blk off d) := hide (pv_so (unhide HP4) hl)
    clear HP4
    go_wp2_with fail
    all_goals
      go_ret2
      exact ⟨x, _, by first | rfl | (congr 3), by omega, by omega, unhide HE⟩
  · have h50' : ¬ (50 : Int) ≤ (b : Int) - (a : Int) := by omega
    go_wp2_with fail
    rw [unhide E1, unhide E2, unhide E3]
    refine (so_median blk off cap I J K w.heap.size 0 N d (unhide HN) (by omega) (by omega) (by omega) hsz (by omega) w _ hne (unhide HP0)).mono ?_
    rintro e w4 ⟨x, rfl, hx, hP4⟩
    have HP4 := hide hP4
    clear hP4 HP0
    obtain ⟨s, hs, hbx⟩ := (unhide HP4).box
    have c0 : w4.cell? ⟨w.heap.size, 0, none⟩ = some (.int .i64 s) := hbx.cell 0
    clear hbx
    have HE : Hz (SoAt w w4 blk off d) := hide (pv_so (unhide HP4) hl)
    clear HP4
    go_wp2_with fail
    all_goals
      go_ret2
      exact ⟨x, _, by first | rfl | (congr 3), by omega, by omega, unhide HE⟩
end Go.Proofs.Ytemmflhofhngbaa
/- The library's contract of slices.SortFunc, laid at this program: each field a fact of the program. -/
namespace Go.Proofs.Ytemmflhofhngbaa
open Go.Shelf
def sortP_ren : Go.Shelf.Ren := ⟨fun | 6 => 32 | 15 => 58 | 14 => 57 | 28 => 72 | 29 => 73 | 20 => 64 | 21 => 65 | 22 => 66 | 23 => 67 | 24 => 68 | 25 => 69 | 26 => 70 | 27 => 71 | 46 => 76 | 47 => 77 | 48 => 78 | 49 => 79 | 50 => 80 | 57 => 90 | n => n, fun | 22 => 30 | 24 => 28 | 25 => 64 | 3 => 3 | 39 => 88 | 0 => 0 | 53 => 51 | 55 => 102 | 4 => 4 | 46 => 95 | 45 => 94 | 50 => 71 | 5 => 5 | 9 => 9 | 66 => 104 | 70 => 108 | 76 => 116 | 77 => 117 | n => n, fun | n => n⟩
theorem sortP : Go.Proofs.SlLaysF0.n6 Try.prog sortP_ren := {
  mixed := by kernel_rfl
  f6 := ⟨Try.f32.name, by decide, Try.func32.trans (congrArg some (by kernel_rfl))⟩
  f14 := ⟨Try.f57.name, by decide, Try.func57.trans (congrArg some (by kernel_rfl))⟩
  f15 := Try.func58.trans (congrArg some (by kernel_rfl))
  f20 := ⟨Try.f64.name, by decide, Try.func64.trans (congrArg some (by kernel_rfl))⟩
  f21 := ⟨Try.f65.name, by decide, Try.func65.trans (congrArg some (by kernel_rfl))⟩
  f22 := ⟨Try.f66.name, by decide, Try.func66.trans (congrArg some (by kernel_rfl))⟩
  f23 := ⟨Try.f67.name, by decide, Try.func67.trans (congrArg some (by kernel_rfl))⟩
  f24 := ⟨Try.f68.name, by decide, Try.func68.trans (congrArg some (by kernel_rfl))⟩
  f25 := ⟨Try.f69.name, by decide, Try.func69.trans (congrArg some (by kernel_rfl))⟩
  f26 := ⟨Try.f70.name, by decide, Try.func70.trans (congrArg some (by kernel_rfl))⟩
  f27 := ⟨Try.f71.name, by decide, Try.func71.trans (congrArg some (by kernel_rfl))⟩
  f28 := Try.func72.trans (congrArg some (by kernel_rfl))
  f29 := Try.func73.trans (congrArg some (by kernel_rfl))
  f46 := ⟨Try.f76.name, by decide, Try.func76.trans (congrArg some (by kernel_rfl))⟩
  f47 := Try.func77.trans (congrArg some (by kernel_rfl))
  f48 := Try.func78.trans (congrArg some (by kernel_rfl))
  f49 := ⟨Try.f79.name, by decide, Try.func79.trans (congrArg some (by kernel_rfl))⟩
  f50 := ⟨Try.f80.name, by decide, Try.func80.trans (congrArg some (by kernel_rfl))⟩
  f57 := ⟨Try.f90.name, by decide, Try.func90.trans (congrArg some (by kernel_rfl))⟩
  t0 := Try.underlying0
  a0 := Try.isAgg0
  z0 := Try.sizeOf0
  v0 := Try.zeroValue0
  t3 := Try.underlying3
  a3 := Try.isAgg3
  z3 := Try.sizeOf3
  v3 := Try.zeroValue3
  t4 := Try.underlying4
  a4 := Try.isAgg4
  z4 := Try.sizeOf4
  v4 := Try.zeroValue4
  t5 := Try.underlying5
  a5 := Try.isAgg5
  z5 := Try.sizeOf5
  v5 := Try.zeroValue5
  t9 := Try.underlying9
  a9 := Try.isAgg9
  z9 := Try.sizeOf9
  v9 := Try.zeroValue9
  t22 := Try.underlying30
  a22 := Try.isAgg30
  z22 := Try.sizeOf30
  v22 := Try.zeroValue30
  t25 := Try.underlying64
  a25 := Try.isAgg64
  z25 := Try.sizeOf64
  v25 := Try.zeroValue64
  t39 := Try.underlying88
  a39 := Try.isAgg88
  z39 := Try.sizeOf88
  v39 := Try.zeroValue88
  t45 := Try.underlying94
  a45 := Try.isAgg94
  z45 := Try.sizeOf94
  v45 := Try.zeroValue94
  t46 := Try.underlying95
  a46 := Try.isAgg95
  z46 := Try.sizeOf95
  v46 := Try.zeroValue95
  t50 := Try.underlying71
  a50 := Try.isAgg71
  z50 := Try.sizeOf71
  v50 := Try.zeroValue71
  t53 := Try.underlying51
  a53 := Try.isAgg51
  z53 := Try.sizeOf51
  v53 := Try.zeroValue51
  t55 := Try.underlying102
  a55 := Try.isAgg102
  z55 := Try.sizeOf102
  v55 := Try.zeroValue102
  t66 := Try.underlying104
  a66 := Try.isAgg104
  z66 := Try.sizeOf104
  v66 := Try.zeroValue104
  t70 := Try.underlying108
  a70 := Try.isAgg108
  z70 := Try.sizeOf108
  v70 := Try.zeroValue108
  t76 := Try.underlying116
  a76 := Try.isAgg116
  z76 := Try.sizeOf116
  v76 := Try.zeroValue116
  t77 := Try.underlying117
  a77 := Try.isAgg117
  z77 := Try.sizeOf117
  v77 := Try.zeroValue117 }
end Go.Proofs.Ytemmflhofhngbaa
/- breakPatternsOrdered at runes: a rearrangement. -/
namespace Go.Proofs.Ytemmflhofhngbaa
open Go.RowKit Go.Shelf
set_option linter.unusedVariables false
theorem next_any (rb X : Nat) (hX : X < 18446744073709551616) (w : World) (hc : w.cell? ⟨rb, 0, none⟩ = some (.int .u64 X)) (hf : w.frozen? ⟨rb, 0, none⟩ = false) :
    Calls Try.prog 78 #[.pointer (some ⟨rb, 0, none⟩)] w fun e w' => e = .returned (.int .u64 (Sort.xorNextN X : Nat)) ∧ w' = (w.setCell ⟨rb, 0, none⟩ (.int .u64 (Sort.xorNextN X : Nat))).drewN 3 :=
  AnyF.xorshift_Next (P := Try.prog) (ρ := sortP_ren) { sortP with } rb 0 X hX w hc hf
theorem power_any (n : Nat) (hn : n < 4611686018427387904) (w : World) :
    Calls Try.prog 77 #[.int .i64 n] w fun e w' => e = .returned (.int .u64 ((1 <<< Sort.bitsLen n : Nat) : Int)) ∧ w' = w :=
  AnyF.nextPowerOfTwo (P := Try.prog) (ρ := sortP_ren) { sortP with } n hn w
theorem len_any (n : Nat) (hn : n < 4611686018427387904) (w : World) :
    Calls Try.prog 58 #[.int .u64 n] w fun e w' => e = .returned (.int .i64 (Sort.bitsLen n : Nat)) ∧ w' = w := by
  have h := Any.bits_Len (SlLaysF0.n15.bits (P := Try.prog) (ρ := sortP_ren) { sortP with }) (n : Int) w (by omega) (by omega)
  rw [Int.toNat_natCast, bitLen_eq _ (by omega)] at h
  exact h
set_option maxRecDepth 100000 in
set_option maxHeartbeats 4000000 in
theorem so_break (blk off cap a b N : Nat) (d : Array Int) (hN : d.size = N) (hab : a + 12 < b) (hb : b ≤ N) (hsz : N ≤ 1000000) (w : World) (hl : blk < w.heap.size) (hH : Sort.Holds (Value.int .i32) w blk off d) :
    Calls Try.prog 83 #[.slice (some ⟨blk, off, none⟩) N cap, .int .i64 a, .int .i64 b] w fun e w' => e = .returned (.tuple #[]) ∧ ∃ d', Sort.PermIn a b d d' ∧ SoAt w w' blk off d' := by
  have HN := hide hN
  have HH := hide hH
  obtain ⟨L, hL⟩ : ∃ L, L = b - a := ⟨_, rfl⟩
  have HL := hide (show (b : Int) - (a : Int) = (L : Int) by omega)
  have hLb : a + L ≤ N := by omega
  have HLb := hide (show b = a + L by omega)
  have hL8 : 12 < L := by omega
  obtain ⟨M, hM⟩ : ∃ M : Nat, M = 1 <<< Sort.bitsLen L := ⟨_, rfl⟩
  have hM1 : 1 ≤ M := by rw [hM, Nat.one_shiftLeft]; exact Nat.two_pow_pos _
  have hM2 : M ≤ 2 * L := by rw [hM, Nat.one_shiftLeft]; exact Sort.two_pow_bitsLen_le (by omega)
  have hNP : ∀ w, Calls Try.prog 77 #[.int .i64 (L : Int)] w fun e w' => e = .returned (.int .u64 (M : Int)) ∧ w' = w := by rw [hM]; exact fun w => power_any L (by omega) w
  have HNP := hide hNP
  have hge : (8 : Int) ≤ (b : Int) - (a : Int) := by omega
  clear hM hNP hL hN hH
  go_enter Try.func83, Try.ntmps83
  go_wp2_with fail
  rw [unhide HL]
  refine (unhide HNP _).mono ?_
  rintro e w' ⟨rfl, rfl⟩
  go_wp2_with fail
  obtain ⟨J, hJ⟩ : ∃ J, J = a + L / 4 * 2 := ⟨_, rfl⟩
  have hJ1 : a + 6 ≤ J ∧ J + 1 < a + L := by omega
  have hJi : (a : Int) + (L : Int) / 4 * 2 = (J : Int) := by omega
  have HJi := hide hJi
  clear hJ hJi
  go_loopw [9] (fun vi wr => ∃ (x X : Nat) (dk : Array Int), vi = .int .i64 x ∧ J - 1 ≤ x ∧ x ≤ J + 2 ∧ X < 18446744073709551616 ∧ Hz (dk.size = N ∧ SoAt w wr blk off dk ∧ Blk wr w.heap.size #[.int .u64 X] 104 ∧ Sort.PermIn a b d dk)) (fun vi _ => J + 2 - (intOf vi).toNat)
  case atStart => exact ⟨J - 1, L, d, by rw [unhide HJi]; congr 1; omega, by omega, by omega, by omega, hide ⟨unhide HN, ⟨holds_of (unhide HH) (Below.heap_alloc w _ blk hl), ⟨rfl, rfl, rfl, by simp, fun k hk _ => Below.heap_alloc w _ k hk⟩⟩, Blk.new w _ _, Sort.permIn_refl _ _ _⟩⟩
  case round =>
    obtain ⟨x, X, dk, rfl, hx1, hx2, hX, HI⟩ := hrel
    by_cases hlt : x ≤ J + 1
    · have hlt' : (x : Int) ≤ (a : Int) + (L : Int) / 4 * 2 + 1 := by rw [unhide HJi]; omega
      obtain ⟨Y, hY⟩ : ∃ Y : Nat, Y = Sort.xorNextN X := ⟨_, rfl⟩
      have hY' : Y < 18446744073709551616 := by rw [hY]; exact Sort.xorNextN_lt X hX
      obtain ⟨O, hO⟩ : ∃ O : Nat, O = Y &&& (M - 1) := ⟨_, rfl⟩
      have hO1 : O ≤ M - 1 := by rw [hO]; exact Nat.and_le_right
      have eAnd : bits .and .u64 (Y : Int) ((M : Int) - 1) = (O : Int) := by
        rw [show ((M : Int) - 1) = ((M - 1 : Nat) : Int) by omega, bits_and_u64_nat _ _ hY' (by omega), hO]
      have hbx := (unhide HI).2.2.1
      have hNext := next_any w.heap.size X hX wr (hbx.cell 0) (hbx.frozen 0)
      rw [← hY] at hNext
      have HX := hide hNext
      clear hNext hbx hY hO
      go_wp2_with fail
      refine (unhide HX).mono ?_
      rintro e w1 ⟨rfl, rfl⟩
      have hA1 : SoAt w ((wr.setCell ⟨w.heap.size, 0, none⟩ (.int .u64 Y)).drewN 3) blk off dk :=
        SoAt.drewN ⟨holds_of (unhide HI).2.1.row (Below.heap_setCell wr ⟨w.heap.size, 0, none⟩ _ blk (by show blk ≠ w.heap.size; omega)), ⟨(unhide HI).2.1.gr.os, (unhide HI).2.1.gr.tape, (unhide HI).2.1.gr.output, Nat.le_trans (unhide HI).2.1.gr.size (KeepsWalks.setCell wr ⟨w.heap.size, 0, none⟩ _).size, fun k hk hn => (Below.heap_setCell wr ⟨w.heap.size, 0, none⟩ _ k (by show k ≠ w.heap.size; omega)).trans ((unhide HI).2.1.gr.block k hk hn)⟩⟩ 3
      have hB1 : Blk ((wr.setCell ⟨w.heap.size, 0, none⟩ (.int .u64 Y)).drewN 3) w.heap.size #[.int .u64 Y] 104 := (unhide HI).2.2.1.set 0 _
      have HZ := hide (unhide HI).1
      have HP := hide (unhide HI).2.2.2
      have HA := hide hA1
      have HB := hide hB1
      clear hA1 hB1 HI HX
      generalize (wr.setCell ⟨w.heap.size, 0, none⟩ (.int .u64 Y)).drewN 3 = W1 at *
      obtain ⟨G, hG, hc, hf⟩ := (unhide HA).cells N (unhide HZ)
      have HG := hide hG
      clear hG
      have HEND : Hz (∀ o : Nat, o < L → ∃ (x' X' : Nat) (dk' : Array Int), Value.int .i64 ((x : Int) + 1) = .int .i64 x' ∧ J - 1 ≤ x' ∧ x' ≤ J + 2 ∧ X' < 18446744073709551616 ∧ Hz (dk'.size = N ∧ SoAt w ((W1.drew.setCell ⟨blk, off + x, none⟩ (.int .i32 (G (a + o)))).setCell ⟨blk, off + (a + o), none⟩ (.int .i32 (G x))) blk off dk' ∧ Blk ((W1.drew.setCell ⟨blk, off + x, none⟩ (.int .i32 (G (a + o)))).setCell ⟨blk, off + (a + o), none⟩ (.int .i32 (G x))) w.heap.size #[.int .u64 X'] 104 ∧ Sort.PermIn a b d dk')) := hide (fun o ho => by
        have hz := unhide HZ
        have hbL := unhide HLb
        refine ⟨x + 1, Y, Sort.swp dk x (a + o), by go_num, by omega, by omega, hY', hide ⟨by rw [size_swp']; exact hz, ?_, ?_, ?_⟩⟩
        · rw [unhide HG, unhide HG]
          exact (unhide HA).drew.swap (by omega) (by omega)
        · have h0 : Blk W1.drew w.heap.size #[.int .u64 Y] 104 := unhide HB
          exact (h0.other (by omega) _).other (by omega) _
        · exact Sort.permIn_trans _ _ _ _ _ (unhide HP) (Sort.swp_permIn dk a b x (a + o) (by omega) (by omega) (by omega) (by omega) (by omega)))
      by_cases hOL : L ≤ O
      · have hOL' : (L : Int) ≤ (O : Int) := by omega
        obtain ⟨o, ho⟩ : ∃ o, o = O - L := ⟨_, rfl⟩
        have hoi := hide (show (O : Int) - (L : Int) = (o : Int) by omega)
        have hoL : o < L := by omega
        have hm1 := mid_cell hc (i := x) (j := a + o) (by omega) (by omega)
        have hm2 := mid_frozen (G := G) hf (i := x) (j := a + o) (by omega)
        clear ho HP HB HZ HA
        go_wp2_with fail
        rw [unhide hoi]
        go_region
        all_goals go_wp2_with fail
        go_roundw
        case rel => exact unhide HEND o hoL
        case measure => simp [intOf]; omega
      · have hOL' : ¬ (L : Int) ≤ (O : Int) := by omega
        have hm1 := mid_cell hc (i := x) (j := a + O) (by omega) (by omega)
        have hm2 := mid_frozen (G := G) hf (i := x) (j := a + O) (by omega)
        clear HP HB HZ HA
        go_wp2_with fail
        go_region
        all_goals go_wp2_with fail
        go_roundw
        case rel => exact unhide HEND O (by omega)
        case measure => simp [intOf]; omega
    · have hlt' : ¬ (x : Int) ≤ (a : Int) + (L : Int) / 4 * 2 + 1 := by rw [unhide HJi]; omega
      go_wp2_with fail
      go_end0
      exact ⟨rfl, dk, (unhide HI).2.2.2, (unhide HI).2.1⟩
end Go.Proofs.Ytemmflhofhngbaa
/- What a partition keeps: mathematics. -/
namespace Go.Proofs.Ytemmflhofhngbaa
open Go.RowKit Go.Shelf
set_option linter.unusedVariables false
/-- Left of i all pass the test, right of j none; p stands at a. -/
structure PartI (f : Int → Bool) (p : Int) (a b i j : Nat) (d dk : Array Int) : Prop where
  ai : a < i
  ij : i ≤ j + 1
  jb : j < b
  perm : Sort.PermIn a b d dk
  at_ : dk[a]! = p
  lo : ∀ t, a < t → t < i → f dk[t]! = true
  hi : ∀ t, j < t → t < b → f dk[t]! = false
theorem get_swp {d : Array Int} {i j : Nat} (hi : i < d.size) (hj : j < d.size) : (Sort.swp d i j)[i]! = d[j]! ∧ (Sort.swp d i j)[j]! = d[i]! ∧ ∀ t, t ≠ i → t ≠ j → (Sort.swp d i j)[t]! = d[t]! := by
  have h2 : (Sort.swp d i j)[j]! = d[i]! := Sort.getElem!_set_same _ _ _ (by simpa using hj)
  refine ⟨?_, h2, fun t h3 h4 => ?_⟩
  · by_cases e : i = j
    · subst e; exact h2
    · exact (Sort.getElem!_set_other _ _ _ _ e).trans (Sort.getElem!_set_same _ _ _ hi)
  · exact (Sort.getElem!_set_other _ _ _ _ h4).trans (Sort.getElem!_set_other _ _ _ _ h3)
theorem PartI.start {f : Int → Bool} {a b pv : Nat} {d : Array Int} (ha : a ≤ pv) (hp : pv < b) (hb : b ≤ d.size) : PartI f d[pv]! a b (a + 1) (b - 1) d (Sort.swp d a pv) :=
  ⟨by omega, by omega, by omega, Sort.swp_permIn d a b a pv (by omega) (by omega) ha hp hb, (get_swp (by omega) (by omega)).1, fun t h1 h2 => by omega, fun t h1 h2 => by omega⟩
theorem PartI.up {f : Int → Bool} {p : Int} {a b i j : Nat} {d dk : Array Int} (h : PartI f p a b i j d dk) (hij : i ≤ j) (hf : f dk[i]! = true) : PartI f p a b (i + 1) j d dk :=
  ⟨by have := h.ai; omega, by omega, h.jb, h.perm, h.at_, fun t h1 h2 => by
    by_cases e : t = i
    · subst e; exact hf
    · exact h.lo t h1 (by omega), h.hi⟩
theorem PartI.down {f : Int → Bool} {p : Int} {a b i j : Nat} {d dk : Array Int} (h : PartI f p a b i j d dk) (hij : i ≤ j) (hf : f dk[j]! = false) : PartI f p a b i (j - 1) d dk :=
  ⟨h.ai, by have := h.ai; omega, by have := h.jb; omega, h.perm, h.at_, h.lo, fun t h1 h2 => by
    have := h.ai
    by_cases e : t = j
    · subst e; exact hf
    · exact h.hi t (by omega) h2⟩
theorem PartI.swap {f : Int → Bool} {p : Int} {a b i j : Nat} {d dk : Array Int} (h : PartI f p a b i j d dk) (hb : b ≤ dk.size) (hij : i ≤ j) (hi : f dk[i]! = false) (hj : f dk[j]! = true) : i < j ∧ PartI f p a b (i + 1) (j - 1) d (Sort.swp dk i j) := by
  have hlt : i < j := by
    rcases Nat.lt_or_ge i j with h1 | h1
    · exact h1
    · have e : i = j := by omega
      subst e; rw [hi] at hj; exact absurd hj Bool.false_ne_true
  have h1 := h.ai
  have h2 := h.jb
  obtain ⟨g1, g2, g3⟩ := get_swp (d := dk) (i := i) (j := j) (by omega) (by omega)
  refine ⟨hlt, ⟨by omega, by omega, by omega, Sort.permIn_trans _ _ _ _ _ h.perm (Sort.swp_permIn dk a b i j (by omega) (by omega) (by omega) (by omega) hb), ?_, fun t ht1 ht2 => ?_, fun t ht1 ht2 => ?_⟩⟩
  · rw [g3 a (by omega) (by omega)]; exact h.at_
  · by_cases e : t = i
    · subst e; rw [g1]; exact hj
    · rw [g3 t e (by omega)]; exact h.lo t ht1 (by omega)
  · by_cases e : t = j
    · subst e; rw [g2]; exact hi
    · rw [g3 t (by omega) e]; exact h.hi t (by omega) ht2
/-- A partition is done: what stands where. -/
structure PartOk (a b m : Nat) (d dk : Array Int) : Prop where
  am : a ≤ m
  mb : m < b
  perm : Sort.PermIn a b d dk
  lo : ∀ t, a ≤ t → t < m → Sort.ltInt dk[t]! dk[m]! = true
  hi : ∀ t, m < t → t < b → Sort.ltInt dk[t]! dk[m]! = false
theorem PartI.done {p : Int} {a b i j : Nat} {d dk : Array Int} (h : PartI (fun x => Sort.ltInt x p) p a b i j d dk) (hb : b ≤ dk.size) (hij : j < i) : PartOk a b j d (Sort.swp dk j a) := by
  have h1 := h.ai
  have h2 := h.jb
  have h3 := h.ij
  obtain ⟨g1, g2, g3⟩ := get_swp (d := dk) (i := j) (j := a) (by omega) (by omega)
  refine ⟨by omega, h2, Sort.permIn_trans _ _ _ _ _ h.perm (Sort.swp_permIn dk a b j a (by omega) (by omega) (by omega) (by omega) hb), fun t ht1 ht2 => ?_, fun t ht1 ht2 => ?_⟩
  · rw [g1, h.at_]
    by_cases e : t = a
    · subst e; rw [g2]; exact h.lo j (by omega) (by omega)
    · rw [g3 t (by omega) e]; exact h.lo t (by omega) (by omega)
  · rw [g1, h.at_, g3 t (by omega) (by omega)]; exact h.hi t ht1 ht2
/-- The like ones are moved ahead. -/
structure EqOk (a b m : Nat) (p : Int) (d dk : Array Int) : Prop where
  am : a < m
  mb : m ≤ b
  perm : Sort.PermIn a b d dk
  lo : ∀ t, a ≤ t → t < m → Sort.ltInt p dk[t]! = false
  hi : ∀ t, m ≤ t → t < b → Sort.ltInt p dk[t]! = true
theorem PartI.eq {p : Int} {a b i j : Nat} {d dk : Array Int} (h : PartI (fun x => !Sort.ltInt p x) p a b i j d dk) (hij : j < i) : EqOk a b i p d dk := by
  have h1 := h.ai
  have h2 := h.jb
  have h3 := h.ij
  refine ⟨h1, by omega, h.perm, fun t ht1 ht2 => ?_, fun t ht1 ht2 => ?_⟩
  · by_cases e : t = a
    · subst e; rw [h.at_]; unfold Sort.ltInt; exact decide_eq_false (by omega)
    · have := h.lo t (by omega) ht2
      simpa using this
  · have := h.hi t (by omega) ht2
    simpa using this
end Go.Proofs.Ytemmflhofhngbaa
/- partitionEqualOrdered at runes. -/
namespace Go.Proofs.Ytemmflhofhngbaa
open Go.RowKit Go.Shelf
set_option linter.unusedVariables false
set_option maxRecDepth 100000 in
set_option maxHeartbeats 16000000 in
theorem so_equal (blk off cap a b pv N : Nat) (d : Array Int) (hN : d.size = N) (hap : a ≤ pv) (hpb : pv < b) (hb : b ≤ N) (hsz : N ≤ 1000000) (w : World) (hH : Sort.Holds (Value.int .i32) w blk off d) :
    Calls Try.prog 88 #[.slice (some ⟨blk, off, none⟩) N cap, .int .i64 a, .int .i64 b, .int .i64 pv] w fun e w' => ∃ (m : Nat) (d' : Array Int), e = .returned (.int .i64 m) ∧ EqOk a b m d[pv]! d d' ∧ SoAt w w' blk off d' := by
  obtain ⟨G, hG, hc, hf⟩ := (SoAt.start hH).cells N hN
  have hm1 := mid_cell hc (i := a) (j := pv) (by omega) (by omega)
  have hm2 := mid_frozen (G := G) hf (i := a) (j := pv) (by omega)
  have hA0 := (SoAt.start hH).drew.swap (i := a) (j := pv) (by omega) (by omega)
  rw [← hG, ← hG] at hA0
  have HA0 := hide hA0
  obtain ⟨p, hp⟩ : ∃ p, p = d[pv]! := ⟨_, rfl⟩
  have HP0 := hide (show PartI (fun x => !Sort.ltInt p x) p a b (a + 1) (b - 1) d (Sort.swp d a pv) by rw [hp]; exact PartI.start hap hpb (by omega))
  have HZ := hide (show (Sort.swp d a pv).size = N by rw [size_swp']; exact hN)
  obtain ⟨j0, hj0⟩ : ∃ j0, j0 = b - 1 := ⟨_, rfl⟩
  rw [← hj0] at HP0
  have Hj := hide (show (b : Int) - 1 = (j0 : Int) by omega)
  have hj1 : a ≤ j0 ∧ j0 < b := by omega
  have HPV := hide hp
  clear hA0 hG hH hj0 hp hN
  go_enter Try.func88, Try.ntmps88
  go_wp2_with fail
  go_region
  all_goals go_wp2_with fail
  clear hm1 hm2 hc hf
  generalize Sort.swp d a pv = dk at *
  rw [unhide Hj]
  go_loopw [9, 10] (fun vi vj wr => ∃ (i j : Nat) (dk : Array Int), vi = .int .i64 i ∧ vj = .int .i64 j ∧ a < i ∧ i ≤ j + 1 ∧ j < b ∧ Hz (PartI (fun x => !Sort.ltInt p x) p a b i j d dk ∧ SoAt w wr blk off dk ∧ dk.size = N)) (fun vi vj _ => (intOf vj + 1 - intOf vi).toNat)
  case atStart => exact ⟨a + 1, j0, dk, by go_num, rfl, by omega, by omega, by omega, hide ⟨unhide HP0, unhide HA0, unhide HZ⟩⟩
  case round =>
    clear HP0 HA0 HZ
    clear dk
    obtain ⟨io, jo, dk, rfl, rfl, hai, hij, hjb, HI⟩ := hrel
    have HP := hide (unhide HI).1
    have HA := hide (unhide HI).2.1
    have HZ := hide (unhide HI).2.2
    clear HI
    go_wp2_with fail
    go_loopw [9] (fun vi wr => ∃ i : Nat, vi = .int .i64 i ∧ io ≤ i ∧ i ≤ jo + 1 ∧ Hz (PartI (fun x => !Sort.ltInt p x) p a b i jo d dk ∧ SoAt w wr blk off dk)) (fun vi _ => jo + 1 - (intOf vi).toNat)
    case atStart => exact ⟨io, rfl, Nat.le_refl _, hij, hide ⟨unhide HP, unhide HA⟩⟩
    case round =>
      clear HP HA
      obtain ⟨i, rfl, hio, hij1, HI⟩ := hrel
      have HP := hide (unhide HI).1
      have HA := hide (unhide HI).2
      clear HI
      obtain ⟨G, hG, hc, hf⟩ := (unhide HA).cells N (unhide HZ)
      have HG := hide hG
      clear hG
      go_wp2_with fail
      by_cases hij : i ≤ jo
      · have hij' : (i : Int) ≤ (jo : Int) := by omega
        cases hl : Sort.ltInt (G a) (G i) with
        | false =>
          go_big_quiet (first | (go_at_call 87; refine Calls.quiet_of_same (less32 _ _ _)))
          go_wp2_with fail
          go_roundw
          case rel => exact ⟨i + 1, by go_num, by omega, by omega, hide ⟨(unhide HP).up hij (by rw [← unhide HG]; have hp1 := (unhide HP).at_; rw [← unhide HG] at hp1; rw [← hp1]; show (!Sort.ltInt (G a) (G i)) = true; rw [hl]; rfl), (unhide HA).drewN _⟩⟩
          case measure => simp [intOf]; omega
        | true =>
          go_big_quiet (first | (go_at_call 87; refine Calls.quiet_of_same (less32 _ _ _)))
          go_wp2_with fail
          have HST : Hz (jo < i ∨ (fun x => !Sort.ltInt p x) dk[i]! = false) := hide (.inr (by rw [← unhide HG]; have hp1 := (unhide HP).at_; rw [← unhide HG] at hp1; rw [← hp1]; show (!Sort.ltInt (G a) (G i)) = false; rw [hl]; rfl))
          have HA1 : Hz (SoAt w (wr.drewN nq) blk off dk) := hide ((unhide HA).drewN nq)
          clear hc hf HA HG hl
          generalize wr.drewN nq = W1 at *
          clear nq
          go_loopw [10] (fun vj wr => ∃ j2 : Nat, vj = .int .i64 j2 ∧ i ≤ j2 + 1 ∧ j2 ≤ jo ∧ Hz (PartI (fun x => !Sort.ltInt p x) p a b i j2 d dk ∧ SoAt w wr blk off dk ∧ (j2 < i ∨ (fun x => !Sort.ltInt p x) dk[i]! = false))) (fun vj _ => (intOf vj).toNat)
          case atStart => exact ⟨jo, rfl, by omega, Nat.le_refl _, hide ⟨unhide HP, unhide HA1, unhide HST⟩⟩
          case round =>
            clear HP HA1 HST
            obtain ⟨j2, rfl, hij2, hjb2, HI⟩ := hrel
            have HP := hide (unhide HI).1
            have HA := hide (unhide HI).2.1
            have HST := hide (unhide HI).2.2
            clear HI
            obtain ⟨G, hG, hc, hf⟩ := (unhide HA).cells N (unhide HZ)
            have HG := hide hG
            clear hG
            go_wp2_with fail
            by_cases hij : i ≤ j2
            · have hij' : (i : Int) ≤ (j2 : Int) := by omega
              cases hl : Sort.ltInt (G a) (G j2) with
              | true =>
                go_big_quiet (first | (go_at_call 87; refine Calls.quiet_of_same (less32 _ _ _)))
                go_wp2_with fail
                go_roundw
                case rel => exact ⟨j2 - 1, by congr 1; omega, by omega, by omega, hide ⟨(unhide HP).down hij (by rw [← unhide HG]; have hp1 := (unhide HP).at_; rw [← unhide HG] at hp1; rw [← hp1]; show (!Sort.ltInt (G a) (G j2)) = false; rw [hl]; rfl), (unhide HA).drewN _, by rcases unhide HST with h | h; exact .inl (by omega); exact .inr h⟩⟩
                case measure => simp [intOf]; omega
              | false =>
                go_big_quiet (first | (go_at_call 87; refine Calls.quiet_of_same (less32 _ _ _)))
                go_wp2_with fail
                have hF1 : (fun x => !Sort.ltInt p x) dk[i]! = false := by rcases unhide HST with h | h; omega; exact h
                have hF2 : (fun x => !Sort.ltInt p x) dk[j2]! = true := by rw [← unhide HG]; have hp1 := (unhide HP).at_; rw [← unhide HG] at hp1; rw [← hp1]; show (!Sort.ltInt (G a) (G j2)) = true; rw [hl]; rfl
                obtain ⟨hlt, hP2⟩ := (unhide HP).swap (by have := unhide HZ; omega) hij hF1 hF2
                have HP2 := hide hP2
                have HA1 : Hz (SoAt w (wr.drewN nq) blk off dk) := hide ((unhide HA).drewN nq)
                clear hP2 hF1 hF2 hl hc hf HA HG HP HST
                generalize wr.drewN nq = W2 at *
                clear nq
                have hnot : ¬ (j2 : Int) < (i : Int) := by omega
                obtain ⟨G, hG, hc, hf⟩ := (unhide HA1).cells N (unhide HZ)
                have hm1 := mid_cell hc (i := i) (j := j2) (by omega) (by omega)
                have hm2 := mid_frozen (G := G) hf (i := i) (j := j2) (by omega)
                have hA2 := (unhide HA1).drew.swap (i := i) (j := j2) (by have := unhide HZ; omega) (by have := unhide HZ; omega)
                rw [← hG, ← hG] at hA2
                have HA2 := hide hA2
                have HZ2 := hide (show (Sort.swp dk i j2).size = N by rw [size_swp']; exact unhide HZ)
                clear hG hA2 HA1
                go_wp2_with fail
                go_region
                all_goals go_wp2_with fail
                clear hm1 hm2 hc hf
                go_roundw
                case rel => exact ⟨i + 1, j2 - 1, Sort.swp dk i j2, by go_num, by congr 1; omega, by omega, by omega, by omega, hide ⟨unhide HP2, unhide HA2, unhide HZ2⟩⟩
                case measure => simp [intOf]; omega
            · have hij' : decide ((i : Int) ≤ (j2 : Int)) = false := decide_eq_false (by omega)
              go_big_quiet (first | (go_at_call 87; refine Calls.quiet_of_same (less32 _ _ _)))
              go_wp2_with fail
              have HA1 : Hz (SoAt w (wr.drewN nq) blk off dk) := hide ((unhide HA).drewN nq)
              clear hc hf HA HG HST hij'
              generalize wr.drewN nq = W2 at *
              clear nq
              have hyes : (j2 : Int) < (i : Int) := by omega
              go_wp2_with fail
              go_ret
              exact ⟨i, dk, rfl, by rw [← unhide HPV]; exact (unhide HP).eq (by omega), unhide HA1⟩
      · have hij' : decide ((i : Int) ≤ (jo : Int)) = false := decide_eq_false (by omega)
        go_big_quiet (first | (go_at_call 87; refine Calls.quiet_of_same (less32 _ _ _)))
        go_wp2_with fail
        have HST : Hz (jo < i ∨ (fun x => !Sort.ltInt p x) dk[i]! = false) := hide (.inl (by omega))
        have HA1 : Hz (SoAt w (wr.drewN nq) blk off dk) := hide ((unhide HA).drewN nq)
        clear hc hf HA HG hij' hij
        generalize wr.drewN nq = W1 at *
        clear nq
        go_loopw [10] (fun vj wr => ∃ j2 : Nat, vj = .int .i64 j2 ∧ i ≤ j2 + 1 ∧ j2 ≤ jo ∧ Hz (PartI (fun x => !Sort.ltInt p x) p a b i j2 d dk ∧ SoAt w wr blk off dk ∧ (j2 < i ∨ (fun x => !Sort.ltInt p x) dk[i]! = false))) (fun vj _ => (intOf vj).toNat)
        case atStart => exact ⟨jo, rfl, by omega, Nat.le_refl _, hide ⟨unhide HP, unhide HA1, unhide HST⟩⟩
        case round =>
          clear HP HA1 HST
          obtain ⟨j2, rfl, hij2, hjb2, HI⟩ := hrel
          have HP := hide (unhide HI).1
          have HA := hide (unhide HI).2.1
          have HST := hide (unhide HI).2.2
          clear HI
          obtain ⟨G, hG, hc, hf⟩ := (unhide HA).cells N (unhide HZ)
          have HG := hide hG
          clear hG
          go_wp2_with fail
          by_cases hij : i ≤ j2
          · have hij' : (i : Int) ≤ (j2 : Int) := by omega
            cases hl : Sort.ltInt (G a) (G j2) with
            | true =>
              go_big_quiet (first | (go_at_call 87; refine Calls.quiet_of_same (less32 _ _ _)))
              go_wp2_with fail
              go_roundw
              case rel => exact ⟨j2 - 1, by congr 1; omega, by omega, by omega, hide ⟨(unhide HP).down hij (by rw [← unhide HG]; have hp1 := (unhide HP).at_; rw [← unhide HG] at hp1; rw [← hp1]; show (!Sort.ltInt (G a) (G j2)) = false; rw [hl]; rfl), (unhide HA).drewN _, by rcases unhide HST with h | h; exact .inl (by omega); exact .inr h⟩⟩
              case measure => simp [intOf]; omega
            | false =>
              go_big_quiet (first | (go_at_call 87; refine Calls.quiet_of_same (less32 _ _ _)))
              go_wp2_with fail
              have hF1 : (fun x => !Sort.ltInt p x) dk[i]! = false := by rcases unhide HST with h | h; omega; exact h
              have hF2 : (fun x => !Sort.ltInt p x) dk[j2]! = true := by rw [← unhide HG]; have hp1 := (unhide HP).at_; rw [← unhide HG] at hp1; rw [← hp1]; show (!Sort.ltInt (G a) (G j2)) = true; rw [hl]; rfl
              obtain ⟨hlt, hP2⟩ := (unhide HP).swap (by have := unhide HZ; omega) hij hF1 hF2
              have HP2 := hide hP2
              have HA1 : Hz (SoAt w (wr.drewN nq) blk off dk) := hide ((unhide HA).drewN nq)
              clear hP2 hF1 hF2 hl hc hf HA HG HP HST
              generalize wr.drewN nq = W2 at *
              clear nq
              have hnot : ¬ (j2 : Int) < (i : Int) := by omega
              obtain ⟨G, hG, hc, hf⟩ := (unhide HA1).cells N (unhide HZ)
              have hm1 := mid_cell hc (i := i) (j := j2) (by omega) (by omega)
              have hm2 := mid_frozen (G := G) hf (i := i) (j := j2) (by omega)
              have hA2 := (unhide HA1).drew.swap (i := i) (j := j2) (by have := unhide HZ; omega) (by have := unhide HZ; omega)
              rw [← hG, ← hG] at hA2
              have HA2 := hide hA2
              have HZ2 := hide (show (Sort.swp dk i j2).size = N by rw [size_swp']; exact unhide HZ)
              clear hG hA2 HA1
              go_wp2_with fail
              go_region
              all_goals go_wp2_with fail
              clear hm1 hm2 hc hf
              go_roundw
              case rel => exact ⟨i + 1, j2 - 1, Sort.swp dk i j2, by go_num, by congr 1; omega, by omega, by omega, by omega, hide ⟨unhide HP2, unhide HA2, unhide HZ2⟩⟩
              case measure => simp [intOf]; omega
          · have hij' : decide ((i : Int) ≤ (j2 : Int)) = false := decide_eq_false (by omega)
            go_big_quiet (first | (go_at_call 87; refine Calls.quiet_of_same (less32 _ _ _)))
            go_wp2_with fail
            have HA1 : Hz (SoAt w (wr.drewN nq) blk off dk) := hide ((unhide HA).drewN nq)
            clear hc hf HA HG HST hij'
            generalize wr.drewN nq = W2 at *
            clear nq
            have hyes : (j2 : Int) < (i : Int) := by omega
            go_wp2_with fail
            go_ret
            exact ⟨i, dk, rfl, by rw [← unhide HPV]; exact (unhide HP).eq (by omega), unhide HA1⟩
end Go.Proofs.Ytemmflhofhngbaa
