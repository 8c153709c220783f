/- Texts of this claim, one behind the other. -/
import Derived.Lib.DecodeN
import Derived.Laws.Strings
import Derived.Laws.RangeAny
import Derived.RangeFuncNested
import Derived.RangeFuncBound
import Derived.RangeFuncCalls
import Derived.RangeFuncLeaves
import Derived.Shelf.Abstract
import Derived.Shelf.RegionOpen
import Derived.WalkKit
import Derived.OwnWalkIn
import Derived.TacticsInMore
import Derived.LoopNIn
import Derived.LoopIn
import Derived.Test.YtnnbaodillnkkaaGreatProg
import Derived.Lib.OthersKept
import Derived.ArgAppend
import Derived.Laws.Rows
import Derived.RegionTactic
import Derived.Deep.QuietTactic
import Derived.BigQuiet
import Derived.WalkSmall
import Derived.Laws.Cover4
import Derived.Laws.IdiomStrings
import Derived.Test.YtnnbaodillnkkaaGreatShA
import Derived.Lib.QuietBelow
import Derived.Maps.AppendAt
import Derived.Laws.StructEq
import Derived.BigRegion
/- Plain facts on UTF-8 sequences: what the model's decoding says of a text's bytes; no program is named here. -/
namespace Go.Proofs.YtnnbaodillnkkaaGreat
set_option linter.unusedVariables false
open Go.Lib (decodeN decode_at)

def widthOf (r : Int) : Int :=
  if r < 0 ∨ (55296 ≤ r ∧ r ≤ 57343) ∨ 1114111 < r then 0 else if r ≤ 127 then 1 else if r ≤ 2047 then 2 else if r ≤ 65535 then 3 else 4
def hasRB (s : ByteArray) : Bool := decide (3 ≤ s.size) && ((s.extract 0 3).toList == [239, 191, 189])
def spotR (s : ByteArray) (r : Int) : Int × Int × Bool := if r = 65533 ∧ hasRB s = false then (65533, 1, true) else (r, widthOf r, false)

abbrev bt (s : ByteArray) (i : Nat) : Nat := (s.get! i).toNat
abbrev rn (s : ByteArray) (i : Nat) : Nat := (Utf8.decode s i).1
abbrev wd (s : ByteArray) (i : Nat) : Nat := (Utf8.decode s i).2

theorem bt_lt (s : ByteArray) (i : Nat) : bt s i < 256 := (s.get! i).toNat_lt

structure Told (n b0 b1 b2 b3 : Nat) (x : Nat × Nat) : Prop where
  pos : 1 ≤ x.2
  four : x.2 ≤ 4
  room : 1 ≤ n → x.2 ≤ n
  c1 : 2 ≤ x.2 → b1 / 64 = 2
  c2 : 3 ≤ x.2 → b2 / 64 = 2
  c3 : 4 ≤ x.2 → b3 / 64 = 2
  lead : 2 ≤ x.2 → 192 ≤ b0
  small : x.1 ≤ 1114111
  nosur : ¬ (55296 ≤ x.1 ∧ x.1 ≤ 57343)
  width : ¬ (x.1 = 65533 ∧ x.2 = 1) → (x.2 = 1 ∧ x.1 ≤ 127) ∨ (x.2 = 2 ∧ 128 ≤ x.1 ∧ x.1 ≤ 2047) ∨ (x.2 = 3 ∧ 2048 ≤ x.1 ∧ x.1 ≤ 65535) ∨ (x.2 = 4 ∧ 65536 ≤ x.1)
  one : x.2 = 1 → x.1 = 65533 ∧ 128 ≤ b0 ∨ x.1 = b0 ∧ b0 < 128
  repl : x.1 = 65533 → x.2 = 1 ∨ (x.2 = 3 ∧ 3 ≤ n ∧ b0 = 239 ∧ b1 = 191 ∧ b2 = 189)

set_option maxHeartbeats 2000000 in
theorem told (n b0 b1 b2 b3 : Nat) (h0 : b0 < 256) (h1 : b1 < 256) (h2 : b2 < 256) (h3 : b3 < 256) : Told n b0 b1 b2 b3 (decodeN n b0 b1 b2 b3) := by
  unfold decodeN
  repeat' split
  all_goals (constructor <;> intros <;> dsimp only at * <;> omega)

theorem decodeN_repl (n b3 : Nat) (h : 3 ≤ n) : decodeN n 239 191 189 b3 = (65533, 3) := by
  unfold decodeN
  rw [if_neg (by omega), if_neg (by omega), if_pos (by omega), if_pos (by omega)]

theorem get_lt (s : ByteArray) (i : Nat) (h : i < s.size) : s.get! i = s.data[i]'h := by
  show s.data[i]! = _
  exact getElem!_pos s.data i h
theorem get_ge (s : ByteArray) (i : Nat) (h : s.size ≤ i) : s.get! i = default := by
  show s.data[i]! = _
  exact getElem!_neg s.data i (by show ¬ i < s.data.size; have : s.data.size = s.size := rfl; omega)
theorem get_extract (s : ByteArray) (a b j : Nat) (h : a + j < b) (hb : b ≤ s.size) : (s.extract a b).get! j = s.get! (a + j) := by
  rw [get_lt _ _ (by rw [ByteArray.size_extract]; omega), get_lt _ _ (by omega)]
  simp
theorem get_suffix (s : ByteArray) (a j : Nat) (ha : a ≤ s.size) : (s.extract a s.size).get! j = s.get! (a + j) := by
  by_cases h : a + j < s.size
  · exact get_extract s a s.size j h (Nat.le_refl _)
  · rw [get_ge _ _ (by rw [ByteArray.size_extract]; omega), get_ge _ _ (by omega)]

theorem at_told (s : ByteArray) (i : Nat) : Told (s.size - i) (bt s i) (bt s (i + 1)) (bt s (i + 2)) (bt s (i + 3)) (Utf8.decode s i) := by
  rw [decode_at]; exact told _ _ _ _ _ (bt_lt s i) (bt_lt s _) (bt_lt s _) (bt_lt s _)
theorem wd_pos (s : ByteArray) (i : Nat) : 1 ≤ wd s i := (at_told s i).pos
theorem wd_four (s : ByteArray) (i : Nat) : wd s i ≤ 4 := (at_told s i).four
def spotV (s : ByteArray) (i : Nat) : Int × Int × Bool := (rn s i, wd s i, decide (rn s i = 65533 ∧ wd s i = 1))

theorem three_iff (l : List UInt8) (hl : 3 ≤ l.length) : (l.extract 0 3 == [239, 191, 189]) = true ↔ l[0].toNat = 239 ∧ l[1].toNat = 191 ∧ l[2].toNat = 189 := by
  match l, hl with
  | a :: b :: c :: r, _ => simp [List.extract, ← UInt8.toNat_inj]

theorem hasRB_iff (t : ByteArray) : hasRB t = true ↔ 3 ≤ t.size ∧ bt t 0 = 239 ∧ bt t 1 = 191 ∧ bt t 2 = 189 := by
  unfold hasRB
  rw [ByteArray.toList_eq, ByteArray.data_extract, Array.toList_extract]
  by_cases h : 3 ≤ t.size
  · have g0 := get_lt t 0 (by omega)
    have g1 := get_lt t 1 (by omega)
    have g2 := get_lt t 2 (by omega)
    have hl : 3 ≤ t.data.toList.length := by simpa using h
    have e0 : t.get! 0 = t.data.toList[0] := by rw [g0]; simp
    have e1 : t.get! 1 = t.data.toList[1] := by rw [g1]; simp
    have e2 : t.get! 2 = t.data.toList[2] := by rw [g2]; simp
    simp only [bt, e0, e1, e2]
    rw [← three_iff t.data.toList hl]
    simp [h]
  · simp [h]

theorem widthOf_rn (s : ByteArray) (i : Nat) (h : ¬ (rn s i = 65533 ∧ wd s i = 1)) : widthOf (rn s i) = wd s i := by
  have t := at_told s i
  have hw := t.width h
  have hs := t.small
  have hn := t.nosur
  unfold widthOf
  simp only [rn, wd]
  rw [if_neg (by omega)]
  rcases hw with ⟨e, h1⟩ | ⟨e, h1, h2⟩ | ⟨e, h1, h2⟩ | ⟨e, h1⟩
  · rw [if_pos (by omega), e]; rfl
  · rw [if_neg (by omega), if_pos (by omega), e]; rfl
  · rw [if_neg (by omega), if_neg (by omega), if_pos (by omega), e]; rfl
  · rw [if_neg (by omega), if_neg (by omega), if_neg (by omega), e]; rfl

theorem spotR_eq (s : ByteArray) (i : Nat) (h : i < s.size) : spotR (s.extract i s.size) (rn s i) = spotV s i := by
  have hb : hasRB (s.extract i s.size) = true ↔ 3 ≤ s.size - i ∧ bt s i = 239 ∧ bt s (i + 1) = 191 ∧ bt s (i + 2) = 189 := by
    rw [hasRB_iff, ByteArray.size_extract, Nat.min_self]
    simp only [bt, get_suffix s i _ (Nat.le_of_lt h), Nat.add_zero]
  unfold spotR spotV
  by_cases hr : rn s i = 65533
  · rcases (at_told s i).repl hr with h1 | ⟨h3, hn, c0, c1, c2⟩
    · have hf : hasRB (s.extract i s.size) = false := by
        cases hx : hasRB (s.extract i s.size) with
        | false => rfl
        | true =>
          obtain ⟨hn, c0, c1, c2⟩ := hb.1 hx
          have := decode_at s i
          rw [show (s.get! i).toNat = 239 from c0, show (s.get! (i + 1)).toNat = 191 from c1, show (s.get! (i + 2)).toNat = 189 from c2, decodeN_repl _ _ hn] at this
          rw [this] at h1
          simp at h1
      rw [if_pos ⟨by rw [hr]; rfl, hf⟩]
      have e2 : wd s i = 1 := h1
      rw [hr, e2]
      rfl
    · have ht : hasRB (s.extract i s.size) = true := hb.2 ⟨hn, c0, c1, c2⟩
      have e2 : wd s i = 3 := h3
      rw [if_neg (by rw [ht]; simp), widthOf_rn s i (by omega)]
      simp [e2]
  · rw [if_neg (by intro hh; apply hr; have := hh.1; omega), widthOf_rn s i (by intro hh; exact hr hh.1)]
    simp [hr]

def startsFrom (s : ByteArray) : Nat → Nat → List Nat
  | 0, _ => []
  | f + 1, i => if i < s.size then i :: startsFrom s f (i + wd s i) else []
def starts (s : ByteArray) : List Nat := startsFrom s s.size 0
theorem startsFrom_end (s : ByteArray) (f i : Nat) (h : ¬ i < s.size) : startsFrom s f i = [] := by cases f <;> simp [startsFrom, h]
theorem startsFrom_cons (s : ByteArray) (f i : Nat) (h : i < s.size) : startsFrom s (f + 1) i = i :: startsFrom s f (i + wd s i) := by simp [startsFrom, h]

end Go.Proofs.YtnnbaodillnkkaaGreat
namespace Go.Proofs.YtnnbaodillnkkaaGreat
open Go.RowKit Go.Shelf

theorem width_any (r : Int) (w : World) : Calls Tryz.prog 35 #[.int .i32 r] w fun e w' => e = .returned (.int .i64 (widthOf r)) ∧ w' = w := by
  by_cases h0 : r < 0
  · have : widthOf r = 0 := by unfold widthOf; rw [if_pos (by omega)]
    rw [this]
    go_enter Tryz.func35, Tryz.ntmps35
    go_wp2
    go_ret
    exact ⟨rfl, rfl⟩
  by_cases h1 : 55296 ≤ r
  · by_cases h2 : r ≤ 57343
    · have : widthOf r = 0 := by unfold widthOf; rw [if_pos (by omega)]
      rw [this]
      go_enter Tryz.func35, Tryz.ntmps35
      go_wp2
      go_ret
      exact ⟨rfl, rfl⟩
    by_cases h3 : 1114111 < r
    · have : widthOf r = 0 := by unfold widthOf; rw [if_pos (by omega)]
      rw [this]
      go_enter Tryz.func35, Tryz.ntmps35
      go_wp2
      go_ret
      exact ⟨rfl, rfl⟩
    by_cases h4 : r ≤ 65535
    · have : widthOf r = 3 := by unfold widthOf; rw [if_neg (by omega), if_neg (by omega), if_neg (by omega), if_pos h4]
      rw [this]
      go_enter Tryz.func35, Tryz.ntmps35
      go_wp2
      go_ret
      exact ⟨rfl, rfl⟩
    · have : widthOf r = 4 := by unfold widthOf; rw [if_neg (by omega), if_neg (by omega), if_neg (by omega), if_neg (by omega)]
      rw [this]
      go_enter Tryz.func35, Tryz.ntmps35
      go_wp2
      go_ret
      exact ⟨rfl, rfl⟩
  by_cases h5 : r ≤ 127
  · have : widthOf r = 1 := by unfold widthOf; rw [if_neg (by omega), if_pos (by omega)]
    rw [this]
    go_enter Tryz.func35, Tryz.ntmps35
    go_wp2
    go_ret
    exact ⟨rfl, rfl⟩
  by_cases h6 : r ≤ 2047
  · have : widthOf r = 2 := by unfold widthOf; rw [if_neg (by omega), if_neg (by omega), if_pos (by omega)]
    rw [this]
    go_enter Tryz.func35, Tryz.ntmps35
    go_wp2
    go_ret
    exact ⟨rfl, rfl⟩
  · have : widthOf r = 3 := by unfold widthOf; rw [if_neg (by omega), if_neg (by omega), if_neg (by omega), if_pos (by omega)]
    rw [this]
    go_enter Tryz.func35, Tryz.ntmps35
    go_wp2
    go_ret
    exact ⟨rfl, rfl⟩

theorem badSpot_any (w : World) : Calls Tryz.prog 193 #[] w fun e w' => e = .returned (.agg #[.int .i32 65533, .int .i64 1, .bool true]) ∧ w' = w.alloc (.cells #[.int .i32 65533, .int .i64 1, .bool true] 194) := by
  go_enter Tryz.func193, Tryz.ntmps193
  go_wp2
  exact bodyPost_ret (v := .agg #[.int .i32 65533, .int .i64 1, .bool true]) (by simp [results, Tryz.results193, go_sem]) rfl ⟨rfl, rfl⟩

theorem hasPrefix_any (s : ByteArray) (hs : s.size ≤ maxLen) (w : World) : Calls Tryz.prog 192 #[.string s, .string ⟨#[239, 191, 189]⟩] w fun e w' => e = .returned (.bool (hasRB s)) ∧ w' = w := by
  unfold maxLen at hs
  by_cases h : 3 ≤ s.size
  · have e : hasRB s = ((s.extract 0 3).toList == [239, 191, 189]) := by simp [hasRB, h]
    rw [e]
    clear e
    go_enter Tryz.func192, Tryz.ntmps192
    go_wp2
    go_ret
    exact ⟨rfl, rfl⟩
  · have e : hasRB s = false := by simp [hasRB, h]
    rw [e]
    clear e
    go_enter Tryz.func192, Tryz.ntmps192
    go_wp2
    go_ret
    exact ⟨rfl, rfl⟩

abbrev encSpot (x : Int × Int × Bool) : Value := .agg #[.int .i32 x.1, .int .i64 x.2.1, .bool x.2.2]

theorem spotOf_any (s : ByteArray) (hs : s.size ≤ maxLen) (r : Int) (w : World) : Calls Tryz.prog 180 #[.string s, .int .i32 r] w fun e w' => e = .returned (encSpot (spotR s r)) ∧ Below w.heap.size w w' := by
  by_cases h : r = 65533
  · subst h
    cases hb : hasRB s with
    | true =>
      have e : spotR s 65533 = (65533, widthOf 65533, false) := by simp [spotR, hb]
      rw [e]
      clear e
      have H : Hid (hasRB s = true) := hb
      clear hb
      go_enter Tryz.func180, Tryz.ntmps180
      go_wp2_with (first | (go_at_call 192; refine (hasPrefix_any _ hs _).mono ?_; rintro e w' ⟨rfl, rfl⟩; rw [H.out]) | (go_at_call 35; refine (width_any _ _).mono ?_; rintro e w' ⟨rfl, rfl⟩))
      exact bodyPost_ret (v := encSpot (65533, widthOf 65533, false)) (by simp [results, Tryz.results180, go_sem]) rfl ⟨rfl, (Below.refl _ _).alloc (Nat.le_refl _) _⟩
    | false =>
      have e : spotR s 65533 = (65533, 1, true) := by simp [spotR, hb]
      rw [e]
      clear e
      have H : Hid (hasRB s = false) := hb
      clear hb
      go_enter Tryz.func180, Tryz.ntmps180
      go_wp2_with (first | (go_at_call 192; refine (hasPrefix_any _ hs _).mono ?_; rintro e w' ⟨rfl, rfl⟩; rw [H.out]) | (go_at_call 193; refine (badSpot_any _).mono ?_; rintro e w1 ⟨rfl, rfl⟩))
      exact bodyPost_ret (v := encSpot (65533, 1, true)) (by simp [results, Tryz.results180, go_sem]) rfl ⟨rfl, ((Below.refl _ _).alloc (Nat.le_refl _) _).alloc (by simp) _⟩
  · have e : spotR s r = (r, widthOf r, false) := by simp [spotR, h]
    rw [e]
    clear e
    have hb : (r == 65533) = false := by simpa using h
    go_enter Tryz.func180, Tryz.ntmps180
    go_wp2_with (go_at_call 35; refine (width_any _ _).mono ?_; rintro e w' ⟨rfl, rfl⟩)
    exact bodyPost_ret (v := encSpot (r, widthOf r, false)) (by simp [results, Tryz.results180, go_sem]) rfl ⟨rfl, (Below.refl _ _).alloc (Nat.le_refl _) _⟩
attribute [local go_sem] Oper.semAt_some
set_option linter.unusedVariables false

structure Hz (p : Prop) : Prop where
  out : p
theorem hide {p : Prop} (h : p) : Hz p := ⟨h⟩
theorem unhide {p : Prop} (h : Hz p) : p := h.out

theorem grown_of_below {W W' : World} (h : Below W.heap.size W W') : W.grownBy W' none := ⟨h.os, h.tape, h.output, h.size, fun k hk _ => h.block k hk⟩
theorem grown_iterAt (w : World) (k : Nat) (s : ByteArray) (pos : Nat) : w.grownBy (w.iterAt k s pos) (some k) :=
  ⟨rfl, rfl, rfl, by rw [Lib.iterAt_size]; exact Nat.le_refl _, fun i _ h => Lib.iterAt_other w k i s pos (fun e => h (by rw [e]))⟩
theorem iterPos_at {w : World} {k : Nat} {s : ByteArray} {pos : Nat} (h : w.heap[k]? = some (.stringIter s pos)) : w.iterPos k = pos := by unfold World.iterPos; rw [h]

def KpS (b : Nat) (W W' : World) : Prop := W'.cell? ⟨b, 0, none⟩ = W.cell? ⟨b, 0, none⟩ ∧ KeepsWalks W W'
abbrev encsS (s : ByteArray) (i : Nat) : Array Value := #[.int .i64 i, encSpot (spotV s i)]

theorem cell_lt {W : World} {a : Addr} {v : Value} (h : W.cell? a = some v) : a.block < W.heap.size := by
  obtain ⟨o, ho, _⟩ := cells_of_cell h
  exact (Array.getElem?_eq_some_iff.1 ho).1
theorem startsFrom_length (s : ByteArray) : ∀ f i, (startsFrom s f i).length ≤ f
  | 0, i => by simp [startsFrom]
  | f + 1, i => by
    unfold startsFrom
    split
    · have := startsFrom_length s f (i + wd s i); simp; omega
    · simp
theorem starts_length (s : ByteArray) : (starts s).length ≤ s.size := startsFrom_length s _ _

set_option maxRecDepth 100000 in
set_option maxHeartbeats 2000000 in
theorem iter_in (n l Bn : Nat) (hn : 1 ≤ n) (s : ByteArray) (hs : s.size ≤ maxLen) (J Jx : List Nat → World → Prop) (W0 : World) (hJ : AbidesFrom W0.heap.size J)
    (hY : ∀ pre x W, J pre W → pre.length < s.size → YieldAt Fence.wide (n - 1) Tryz.prog l (encsS s x) W fun e W' =>
      (e = .returned (.bool true) ∧ J (pre ++ [x]) W' ∧ KpS Bn W W') ∨ (e = .returned (.bool false) ∧ Jx (pre ++ [x]) W'))
    (hBn : W0.cell? ⟨Bn, 0, none⟩ = some (.string s)) (h0 : J [] W0) :
    CallsIn Fence.wide n Tryz.prog 179 #[.func (.yield l) #[] #[], .pointer (some ⟨Bn, 0, none⟩)] W0 fun e W' => (∃ v, e = .returned v) ∧
      ((∃ ys, ys = starts s ∧ J ys W') ∨ (∃ pre, pre <+: starts s ∧ Jx pre W')) := by
  unfold maxLen at hs
  refine callsIn_of_wp Tryz.func179 rfl trivial ?_ rfl
  simp only [Tryz.ntmps179, List.size_toArray, List.length_cons, List.length_nil, Nat.reduceAdd, Nat.reduceSub, Array.replicate_succ, Array.replicate_zero, List.push_toArray, List.append_toArray, List.nil_append, List.cons_append]
  have hlt : Bn < W0.heap.size := cell_lt hBn
  gi_wp2
  gi_loopw [3] (fun _ wr => ∃ (pre : List Nat) (pos f : Nat), starts s = pre ++ startsFrom s f pos ∧ s.size ≤ pos + f ∧ wr.heap[W0.heap.size]? = some (.stringIter s pos) ∧ wr.cell? ⟨Bn, 0, none⟩ = some (.string s) ∧ J pre wr)
    (fun _ wr => s.size - wr.iterPos W0.heap.size)
  case atStart =>
    exact ⟨[], 0, s.size, rfl, by omega, World.iter_heap W0 s 0, ((World.grownBy_alloc W0 (.stringIter s 0) none).cell hBn (by simp)), hJ _ _ _ none h0 (World.grownBy_alloc W0 (.stringIter s 0) none) (fun r e => by cases e)⟩
  case round =>
    obtain ⟨pre, pos, f, hst, hf, hit, hc, hj⟩ := hrel
    have hpl : pre.length + (startsFrom s f pos).length ≤ s.size := by rw [← List.length_append, ← hst]; exact starts_length s
    by_cases hp : pos < s.size
    · obtain ⟨f, rfl⟩ : ∃ g, f = g + 1 := ⟨f - 1, by omega⟩
      rw [startsFrom_cons s f pos hp] at hst hpl
      have hnx : ∀ ty, (Instr.next (.pointer (some ⟨W0.heap.size, 0, none⟩)) true ty).run Tryz.prog wr = _ := fun ty => Lib.run_next_any_at wr W0.heap.size s pos ty hit hp
      have hg1 := grown_iterAt wr W0.heap.size s (pos + (Utf8.decode s pos).2)
      have hj1 := hJ pre _ _ _ hj hg1 (fun r e => by cases e; exact ⟨Nat.le_refl _, _, hit, rfl⟩)
      have hc1 := hg1.cell hc (by simp; omega)
      have hi1 := Lib.iterAt_heap wr W0.heap.size s pos (pos + (Utf8.decode s pos).2) hit
      have hsz : W0.heap.size < (wr.iterAt W0.heap.size s (pos + (Utf8.decode s pos).2)).heap.size := (Array.getElem?_eq_some_iff.1 hi1).1
      have HY := hide hY
      have HJ := hide hJ
      have HS := hide hst
      have HP := hide hit
      have HR := hide (spotR_eq s pos hp)
      clear hg1 hj hit hst hY hJ h0
      gi_wp2_with fail
      refine ⟨trivial, ?_⟩
      refine (callsIn_wide.2 (spotOf_any _ (by rw [ByteArray.size_extract]; unfold maxLen; omega) _ _)).mono ?_
      rintro e W2 ⟨rfl, hb2⟩
      rw [show spotR (s.extract pos s.size) ((Utf8.decode s pos).1 : Int) = spotV s pos from unhide HR]
      have hj2 := (unhide HJ) pre _ _ none hj1 (grown_of_below hb2) (fun r e => by cases e)
      have hc2 : W2.cell? ⟨Bn, 0, none⟩ = some (.string s) := (hb2.cell (p := ⟨Bn, 0, none⟩) (by show Bn < _; omega)).trans hc1
      have hi2 : W2.heap[W0.heap.size]? = some (.stringIter s (pos + (Utf8.decode s pos).2)) := (hb2.block _ hsz).trans hi1
      obtain ⟨fn, tmps, assign, body, hy, hR⟩ := (unhide HY) pre pos W2 hj2 (by simp at hpl; omega)
      dsimp only [encsS] at hy
      clear hj2 hb2 hnx hj1 hc1 hi1
      gi_wp2
      refine hR.mono ?_
      rintro e W3 (⟨rfl, hJ3, hk3⟩ | ⟨rfl, hJx3⟩)
      · have hi3 := hk3.2.same _ _ hi2 rfl
        have hc3 := hk3.1.trans hc2
        gi_wp2
        go_roundw
        case rel => exact ⟨pre ++ [pos], pos + wd s pos, f, by rw [unhide HS]; simp, by have := wd_pos s pos; omega, hi3, hc3, hJ3⟩
        case measure => rw [iterPos_at hi3, iterPos_at (unhide HP)]; have := wd_pos s pos; simp only [wd] at this; omega
      · gi_wp2
        refine bodyPost_ret (results_none rfl _ _ _) rfl ?_
        exact ⟨⟨_, rfl⟩, .inr ⟨pre ++ [pos], ⟨startsFrom s f (pos + wd s pos), by rw [unhide HS]; simp⟩, hJx3⟩⟩
    · have hnx : ∀ ty, (Instr.next (.pointer (some ⟨W0.heap.size, 0, none⟩)) true ty).run Tryz.prog wr = _ := fun ty => Lib.run_next_end_at wr W0.heap.size s pos ty hit hp
      rw [startsFrom_end s f pos hp, List.append_nil] at hst
      have HS := hide hst
      clear hst hY hJ h0 hpl
      gi_wp2
      go_end0
      exact ⟨⟨_, rfl⟩, .inl ⟨pre, (unhide HS).symm, hj⟩⟩

theorem spots_stops (n Bn : Nat) (hn : 1 ≤ n) (s : ByteArray) (hs : s.size ≤ maxLen) (w : World) (hc : w.cell? ⟨Bn, 0, none⟩ = some (.string s)) :
    SeqStopsK Fence.wide n Tryz.prog 179 #[.pointer (some ⟨Bn, 0, none⟩)] (encsS s) (KpS Bn) (fun ys => ys = starts s) (fun pre => pre <+: starts s) s.size w := fun l J Jx W hW hJ _ hY h0 =>
  iter_in n l Bn hn s hs J Jx W hJ hY ((hW.cell (p := ⟨Bn, 0, none⟩) (cell_lt hc)).trans hc) h0

theorem KpS_t {b : Nat} {A B C : World} (h : KpS b A B) (k : KpS b B C) : KpS b A C := ⟨k.1.trans h.1, h.2.trans k.2⟩
theorem KpS_b {b : Nat} {w : World} (hb : b < w.heap.size) (W : World) (l : Nat) (o o' : Obj) (hl : w.heap.size ≤ l) (h : W.heap[l]? = some o) (_ : o.isCells = false) (hw : o.isWalk = false) : KpS b W (W.putObj l o') :=
  ⟨World.cell?_of_block (World.putObj_heap_other (by show b ≠ l; omega)), KeepsWalks.putObj _ h hw⟩

theorem spots_any (s : ByteArray) (w : World) : Calls Tryz.prog 170 #[.string s] w fun e w' => e = .returned (.func (.func 179) #[] #[.pointer (some ⟨w.heap.size, 0, none⟩)]) ∧ w' = w.alloc (.cells #[.string s] 9) := by
  go_enter Tryz.func170, Tryz.ntmps170
  go_wp2
  go_ret
  exact ⟨rfl, rfl⟩
attribute [local go_sem] Oper.semAt_some
set_option linter.unusedVariables false

def Blk (W : World) (B : Nat) (cs : Array Value) (t : TypeId) : Prop := W.heap[B]? = some (.cells cs t (0, 0))
theorem Blk.lt {W : World} {B : Nat} {cs : Array Value} {t : TypeId} (h : Blk W B cs t) : B < W.heap.size := (Array.getElem?_eq_some_iff.1 h).1
theorem Blk.cell {W : World} {B : Nat} {cs : Array Value} {t : TypeId} (h : Blk W B cs t) (i : Nat) : W.cell? ⟨B, i, none⟩ = cs[i]? := by
  simp [World.cell?, show W.heap[B]? = _ from h]
theorem Blk.frozen {W : World} {B : Nat} {cs : Array Value} {t : TypeId} (h : Blk W B cs t) (i : Nat) : W.frozen? ⟨B, i, none⟩ = false := by simp [World.frozen?, show W.heap[B]? = _ from h]
theorem Blk.new (W : World) (cs : Array Value) (t : TypeId) : Blk (W.alloc (.cells cs t)) W.heap.size cs t := World.alloc_heap_new W _
theorem Blk.kept {W W' : World} {row : Option Nat} {B : Nat} {cs : Array Value} {t : TypeId} (h : Blk W B cs t) (hg : W.grownBy W' row) (hne : some B ≠ row) : Blk W' B cs t := (hg.block B h.lt hne).trans h
theorem Blk.alloc {W : World} {B : Nat} {cs : Array Value} {t : TypeId} (h : Blk W B cs t) (o : Obj) : Blk (W.alloc o) B cs t := h.kept (World.grownBy_alloc W o none) (by simp)
theorem Blk.below {W W' : World} {N B : Nat} {cs : Array Value} {t : TypeId} (h : Blk W B cs t) (hb : Below N W W') (hlt : B < N) : Blk W' B cs t := (hb.block B hlt).trans h
theorem Blk.own {β : Type} (B : Nat) (cs : β → Array Value) (t : TypeId) : Own (fun s W => Blk W B (cs s) t) := fun s A A' row hs hg hr => hs.kept hg (fun e => by
  obtain ⟨o, ho, hc⟩ := hr B e.symm
  rw [show A.heap[B]? = _ from hs] at ho
  cases ho
  simp [Obj.isCells] at hc)

theorem Blk.set {W : World} {B : Nat} {cs : Array Value} {t : TypeId} (h : Blk W B cs t) (i : Nat) (v : Value) : Blk (W.setCell ⟨B, i, none⟩ v) B (cs.setIfInBounds i v) t := by
  show (W.heap.modify B _)[B]? = _
  rw [Array.getElem?_modify, if_pos rfl, show W.heap[B]? = _ from h]
  rfl
theorem Blk.other {W : World} {B B' i : Nat} {cs : Array Value} {t : TypeId} (h : Blk W B cs t) (hne : B ≠ B') (v : Value) : Blk (W.setCell ⟨B', i, none⟩ v) B cs t :=
  (Below.heap_setCell W ⟨B', i, none⟩ v B hne).trans h
theorem Blk.put {W : World} {B l : Nat} {cs : Array Value} {t : TypeId} {o : Obj} (h : Blk W B cs t) (o' : Obj) (hl : W.heap[l]? = some o) (ho : o.isCells = false) : Blk (W.putObj l o') B cs t :=
  (World.putObj_heap_other (fun e => by subst e; rw [show W.heap[B]? = _ from h] at hl; cases hl; simp [Obj.isCells] at ho)).trans h
abbrev spotCells (x : Int × Int × Bool) : Array Value := #[.int .i32 x.1, .int .i64 x.2.1, .bool x.2.2]
end Go.Proofs.YtnnbaodillnkkaaGreat
namespace Go.Proofs.YtnnbaodillnkkaaGreat
open Go.RowKit Go.Shelf
set_option linter.unusedVariables false

theorem grown_setCell' (W : World) (a : Addr) (v : Value) : W.grownBy (W.setCell a v) (some a.block) :=
  ⟨rfl, rfl, rfl, by simp, fun k _ hk => Below.heap_setCell _ _ _ k (fun e => hk (by rw [e]))⟩

theorem add_none' (g o j : Nat) : (⟨g, o, none⟩ : Addr).add j = ⟨g, o + j, none⟩ := by unfold Addr.add; split <;> simp_all

def slotAt : List Value → Nat → Value
  | [], _ => undef
  | v :: _, 0 => v
  | _ :: L, k + 1 => slotAt L k
theorem mk_act {ds : List Deferred} {L : List Value} {G : (Nat → Value) → List Value} (h : L = G (slotAt L)) : ∃ U, ({ tmps := L.toArray, defers := ds } : Act) = { tmps := (G U).toArray, defers := ds } := ⟨_, by rw [← h]⟩
section
variable {P : Program} (w : World)
theorem step_append_zero {ops : Array Oper} {o : Oper} {a : Act} {K : Act → World → Prop} {Q : Exit → Act → World → Prop} {E : Prop} (hgd : o.guard = none) (s x : Operand) (t : TypeId)
    (ho : o.op = .call { callee := .builtin .append, args := #[s, x], argTypes := #[t, t] }) (e : TypeId) (i : TypeInfo) (ht : P.underlying t = some (.slice e)) (hi : P.info? e = some i) (hs : a.eval s = .slice none 0 0) (b : Option Addr) (n c : Nat) (hn : n = 0) (hx : a.eval x = .slice b n c)
    (h : K (a.put o.dst (.slice none 0 0)) w) : if Region.wanted o (yielded ops a.tmps) = true then Oper.wp P o a w K Q else E := by
  have hw : Region.wanted o (yielded ops a.tmps) = true := by simp [Region.wanted, hgd]
  rw [if_pos hw]
  subst hn
  have hr : (Builtin.append_ #[t, t] o.type #[.slice none 0 0, .slice b 0 c]).run P w = .ok (.slice none 0 0) w := by
    cases b <;> simp [Builtin.append_, run_underlying ht, sizeOf, typeInfo, hi, Builtin.lenOf, Builtin.firstCells, loadCells, loadCellsFrom]
  unfold Oper.wp execOp
  simp only [ho, resolve, invoke, builtin, Sem.run_bind, Sem.run_pure, Result.andThen_ok, List.map_toArray, List.map_cons, List.map_nil, hs, hx, hr]
  exact h
end


end Go.Proofs.YtnnbaodillnkkaaGreat
namespace Go.Proofs.YtnnbaodillnkkaaGreat
open Go.RowKit Go.Shelf
attribute [local go_sem] Oper.semAt_some
set_option linter.unusedVariables false

def runesL (s : ByteArray) : List Int := (starts s).map (fun i => ((rn s i : Nat) : Int))
theorem runesFrom_eq (s : ByteArray) : ∀ f i (acc : Array Value), Conv.runesFrom s f i acc = acc ++ ((startsFrom s f i).map (fun i => Value.int .i32 (rn s i))).toArray
  | 0, i, acc => by simp [Conv.runesFrom, startsFrom]
  | f + 1, i, acc => by
    unfold Conv.runesFrom startsFrom
    split
    · show Conv.runesFrom s f (i + wd s i) (acc.push (.int .i32 (rn s i))) = _
      rw [runesFrom_eq s f]
      simp
    · simp
theorem runesFrom_all (s : ByteArray) : Conv.runesFrom s s.size 0 #[] = ((runesL s).map (Value.int .i32)).toArray := by
  rw [runesFrom_eq]; simp [runesL, starts]
theorem runesL_length (s : ByteArray) : (runesL s).length = (starts s).length := by simp [runesL]

set_option maxHeartbeats 2000000 in
theorem runes_any (s : ByteArray) (hs : s.size ≤ 70368744177664) (w : World) : Calls Tryz.prog 101 #[.string s] w fun e w' => ∃ cap, e = .returned (.slice (some ⟨w.heap.size, 0, none⟩) (runesL s).length cap) ∧ (runesL s).length ≤ cap ∧
    (∃ cs : Array Value, w' = w.drew.alloc (.cells (((runesL s).map (Value.int .i32)).toArray ++ cs) 21)) := by
  have hl : (Conv.runesFrom s s.size 0 #[]).size = (runesL s).length := by rw [runesFrom_all]; simp
  have h46 : (Conv.runesFrom s s.size 0 #[]).size ≤ 70368744177664 := by
    have := starts_length s; rw [hl, runesL_length]; omega
  have kc := run_runes_of_string (P := Tryz.prog) w 9 33 21 s Tryz.underlying9 Tryz.underlying33 Tryz.underlying21 h46
  have hge := grownCap_ge w (Conv.runesFrom s s.size 0 #[]).size 0 21
  rw [hl] at hge
  rw [hl, runesFrom_all] at kc
  generalize grownCap w (runesL s).length 0 21 = cap at kc hge
  generalize Array.replicate (cap - (runesL s).length) (Value.int IntKind.i32 0) = cs at kc
  clear h46 hl
  go_enter Tryz.func101, Tryz.ntmps101
  go_wp2
  go_ret
  exact ⟨cap, rfl, hge, cs, rfl⟩

def badB (s : ByteArray) (i : Nat) : Bool := decide (rn s i = 65533 ∧ wd s i = 1)
end Go.Proofs.YtnnbaodillnkkaaGreat
namespace Go.Proofs.YtnnbaodillnkkaaGreat
open Go.RowKit Go.Shelf
open Go.Lib (decodeN decode_at)
set_option linter.unusedVariables false

end Go.Proofs.YtnnbaodillnkkaaGreat
namespace Go.Proofs.YtnnbaodillnkkaaGreat
open Go.RowKit Go.Shelf
set_option linter.unusedVariables false
theorem ret_b {a b : Bool} (h : a = b) : Ending.returned (.bool a) = .returned (.bool b) := by rw [h]
end Go.Proofs.YtnnbaodillnkkaaGreat
namespace Go.Proofs.YtnnbaodillnkkaaGreat
open Go.Lib (decode_at)
set_option linter.unusedVariables false

theorem bt_get (t : ByteArray) (k : Nat) (h : k < t.size) : bt t k = (t[k]'h).toNat := by unfold bt; rw [get_lt t k h]; rfl

end Go.Proofs.YtnnbaodillnkkaaGreat
namespace Go.Proofs.YtnnbaodillnkkaaGreat
open Go.RowKit Go.Shelf
set_option linter.unusedVariables false
theorem toList_nil (t : ByteArray) (h : t.size = 0) : t = ByteArray.empty := by
  apply ByteArray.ext
  apply Array.eq_empty_of_size_eq_zero
  exact h
section
variable {F : Fence} {n : Nat} {P : Program}
end




theorem grown_trans' {a b c : World} {row : Option Nat} (h : a.grownBy b row) (k : b.grownBy c row) : a.grownBy c row :=
  ⟨k.os.trans h.os, k.tape.trans h.tape, k.output.trans h.output, Nat.le_trans h.size k.size, fun i hi hn => (k.block i (by have := h.size; omega) hn).trans (h.block i hi hn)⟩
theorem grown_set' (W : World) (B i : Nat) (v : Value) : W.grownBy (W.setCell ⟨B, i, none⟩ v) (some B) := ⟨rfl, rfl, rfl, (KeepsWalks.setCell W _ _).size, fun k hk hn => Below.heap_setCell W ⟨B, i, none⟩ _ k (fun e => hn (by rw [e]))⟩
theorem box8 {W : World} {N : Nat} {a0 a1 a2 a3 a4 a5 a6 a7 : Value} {ty : TypeId} (h : Blk W N #[a0, a1, a2, a3, a4, a5, a6, a7] ty) (v0 v1 v2 v3 v4 v5 v6 v7 : Value) : Blk ((((((((W.setCell ⟨N, 0, none⟩ v0).setCell ⟨N, 1, none⟩ v1).setCell ⟨N, 2, none⟩ v2).setCell ⟨N, 3, none⟩ v3).setCell ⟨N, 4, none⟩ v4).setCell ⟨N, 5, none⟩ v5).setCell ⟨N, 6, none⟩ v6).setCell ⟨N, 7, none⟩ v7) N #[v0, v1, v2, v3, v4, v5, v6, v7] ty := by
  have h0 : Blk (_ : World) N #[v0, a1, a2, a3, a4, a5, a6, a7] ty := h.set 0 v0
  have h1 : Blk (_ : World) N #[v0, v1, a2, a3, a4, a5, a6, a7] ty := h0.set 1 v1
  have h2 : Blk (_ : World) N #[v0, v1, v2, a3, a4, a5, a6, a7] ty := h1.set 2 v2
  have h3 : Blk (_ : World) N #[v0, v1, v2, v3, a4, a5, a6, a7] ty := h2.set 3 v3
  have h4 : Blk (_ : World) N #[v0, v1, v2, v3, v4, a5, a6, a7] ty := h3.set 4 v4
  have h5 : Blk (_ : World) N #[v0, v1, v2, v3, v4, v5, a6, a7] ty := h4.set 5 v5
  have h6 : Blk (_ : World) N #[v0, v1, v2, v3, v4, v5, v6, a7] ty := h5.set 6 v6
  have h7 : Blk (_ : World) N #[v0, v1, v2, v3, v4, v5, v6, v7] ty := h6.set 7 v7
  exact h7
theorem grown8 (W : World) (N : Nat) (v0 v1 v2 v3 v4 v5 v6 v7 : Value) : W.grownBy ((((((((W.setCell ⟨N, 0, none⟩ v0).setCell ⟨N, 1, none⟩ v1).setCell ⟨N, 2, none⟩ v2).setCell ⟨N, 3, none⟩ v3).setCell ⟨N, 4, none⟩ v4).setCell ⟨N, 5, none⟩ v5).setCell ⟨N, 6, none⟩ v6).setCell ⟨N, 7, none⟩ v7) (some N) :=
  grown_trans' (grown_trans' (grown_trans' (grown_trans' (grown_trans' (grown_trans' (grown_trans' (grown_set' W N 0 v0) (grown_set' _ N 1 v1)) (grown_set' _ N 2 v2)) (grown_set' _ N 3 v3)) (grown_set' _ N 4 v4)) (grown_set' _ N 5 v5)) (grown_set' _ N 6 v6)) (grown_set' _ N 7 v7)
theorem blk_types {W : World} {B : Nat} {cs cs' : Array Value} {t t' : TypeId} (h : Blk W B cs t) (h' : Blk W B cs' t') : t = t' := by
  have := h.symm.trans h'
  injection this with e
  injection e
theorem rd_other {W W' : World} {lo E sz n : Nat} {v : Value} {xs : List Value} {row : Option Nat} (h : W.ownsRow lo E sz v n xs) (hg : W.grownBy W' row) (hne : v.ownBlock = none ∨ v.ownBlock ≠ row) : W'.ownsRow lo E sz v n xs := by
  refine ⟨h.1, ?_⟩
  rcases h.2 with h2 | ⟨g, cap, cur, e, hb, h3, r⟩
  · exact .inl h2
  · refine .inr ⟨g, cap, cur, e, hb, ?_, r⟩
    subst e
    rw [hg.block g (Array.getElem?_eq_some_iff.1 h3).1 (by rcases hne with h4 | h4; exact absurd h4 (by simp [Value.ownBlock]); exact h4)]
    exact h3
theorem rd_apart {W : World} {base base' E E' sz sz' n n' : Nat} {v v' : Value} {xs xs' : List Value} (h : W.ownsRow base E sz v n xs) (h' : W.ownsRow base' E' sz' v' n' xs') (hE : E ≠ E') : v.ownBlock = none ∨ v.ownBlock ≠ v'.ownBlock := by
  rcases h.2 with ⟨rfl, _⟩ | ⟨g, cap, cur, rfl, _, hg, _⟩
  · exact .inl rfl
  · refine .inr ?_
    rcases h'.2 with ⟨rfl, _⟩ | ⟨g', cap', cur', rfl, _, hg', _⟩
    · simp [Value.ownBlock]
    · simp only [Value.ownBlock]
      intro e
      have e := Option.some.inj e
      subst e
      exact hE (blk_types (show Blk W g cur E from hg) (show Blk W g cur' E' from hg'))
theorem rd_from {W : World} {lo E sz n : Nat} {v : Value} {xs : List Value} (h : W.ownsRow lo E sz v n xs) : ∀ k, v.ownBlock = some k → lo ≤ k := by
  rcases h.2 with ⟨rfl, _⟩ | ⟨g, cap, cur, rfl, hl, hg, _⟩
  · intro k e; simp [Value.ownBlock] at e
  · intro k e; simp [Value.ownBlock] at e; omega
def encS2 : List (Int × Int) → List Value
  | [] => []
  | x :: t => .int .i32 x.1 :: .int .i32 x.2 :: encS2 t
end Go.Proofs.YtnnbaodillnkkaaGreat
