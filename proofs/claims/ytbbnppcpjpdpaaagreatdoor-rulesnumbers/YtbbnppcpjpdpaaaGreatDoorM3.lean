/- Texts of this claim, one behind the other. -/
import Derived.Test.YtbbnppcpjpdpaaaGreatDoorM2
import Derived.Deep.QuietTactic
import Derived.BigQuiet
import Derived.WalkSmall
/- Bound, Cut and Joins, told for every text and every number. -/
namespace Go.Proofs.YtbbnppcpjpdpaaaGreatDoor
open Go.RowKit Go.Shelf
set_option linter.unusedVariables false

theorem first_any (s : ByteArray) (hs : s.size ≤ maxLen) (w : World) : Calls Tryz.prog 109 #[.string s] w fun e W' => e = .returned (firstV s) ∧ Below w.heap.size w W' :=
  callsIn_wide.1 (first_in 3 (Nat.le_refl _) s hs w)

/-- What First answers of the text from i on. -/
theorem firstV_at (s : ByteArray) (i : Nat) (h : i < s.size) : firstV (s.extract i s.size) = .tuple #[.agg #[.int .i32 (rn s i), .int .i64 (wd s i), .bool (decide (rn s i = 65533 ∧ wd s i = 1))], .bool true] := by
  rw [firstV_pos (by rw [ByteArray.size_extract]; omega)]
  simp only [encSpot, spotV, rn, wd, decode_suffix s i 0 (Nat.le_of_lt h), Nat.add_zero]

def boundV (s : ByteArray) (a : Int) : Bool := decide (0 ≤ a ∧ a ≤ s.size) && bdB s a.toNat

set_option maxHeartbeats 1000000 in
theorem bound_out (s : ByteArray) (hs : s.size ≤ maxLen) (a : Int) (ha : a < 0 ∨ (s.size : Int) < a) (w : World) :
    Calls Tryz.prog 78 #[.string s, .int .i64 a] w fun e w' => e = .returned (.bool false) ∧ w' = w := by
  unfold maxLen at hs
  rcases ha with ha | ha
  · go_enter Tryz.func78, Tryz.ntmps78
    go_wp2
    go_ret
    exact ⟨rfl, rfl⟩
  · have h0 : ¬ a < 0 := by omega
    go_enter Tryz.func78, Tryz.ntmps78
    go_wp2
    go_ret
    exact ⟨rfl, rfl⟩

set_option maxHeartbeats 1000000 in
theorem bound_in (s : ByteArray) (hs : s.size ≤ maxLen) (p : Nat) (hp : p ≤ s.size) (w : World) :
    Calls Tryz.prog 78 #[.string s, .int .i64 p] w fun e w' => e = .returned (.bool (bdB s p)) ∧ Below w.heap.size w w' := by
  unfold maxLen at hs
  have h0 : ¬ (p : Int) < 0 := by omega
  have h1 : ¬ (s.size : Int) < (p : Int) := by omega
  go_enter Tryz.func78, Tryz.ntmps78
  go_wp2
  go_loopw [5] (fun i wr => ∃ k : Nat, 1 ≤ k ∧ k ≤ 4 ∧ i = .int .i64 k ∧ Hz (∀ m, m < k → 1 ≤ m → m ≤ p → wd s (p - m) ≤ m) ∧ Below w.heap.size w wr) (fun i _ => 4 - (intOf i).toNat)
  case atStart => exact ⟨1, by omega, by omega, rfl, hide (fun m h1 h2 => by omega), Below.refl _ _⟩
  case round =>
    obtain ⟨k, hk1, hk4, rfl, H, hB⟩ := hrel
    by_cases h4 : k < 4
    · by_cases hkp : k ≤ p
      · have hfv := firstV_at s (p - k) (by omega)
        generalize decide (rn s (p - k) = 65533 ∧ wd s (p - k) = 1) = b at hfv
        generalize rn s (p - k) = r at hfv
        obtain ⟨d, hd⟩ : ∃ d, wd s (p - k) = d := ⟨_, rfl⟩
        rw [hd] at hfv
        have HF := hide hfv
        have HD := hide hd
        clear hfv hd
        go_wp2_with fail
        refine (first_any _ (by rw [ByteArray.size_extract]; unfold maxLen; omega) _).mono ?_
        rintro e w1 ⟨rfl, hb1⟩
        rw [HF.out]
        have hB1 : Below w.heap.size w w1 := hB.trans (hb1.mono hB.size)
        clear hb1
        by_cases hdk : (k : Int) < d
        · go_wp2
          go_ret
          refine ⟨?_, hB1.alloc hB1.size _⟩
          have : bdB s p = false := by
            rw [← Bool.not_eq_true, bd_iff]
            intro h
            have := h k h4 hk1 hkp
            rw [HD.out] at this
            omega
          rw [this]
          rfl
        · go_wp2
          go_roundw
          case rel =>
            refine ⟨k + 1, by omega, by omega, by go_num, hide (fun m h1 h2 h3 => ?_), hB1.alloc hB1.size _⟩
            by_cases e : m = k
            · subst e; rw [HD.out]; omega
            · exact H.out m (by omega) h2 h3
          case measure => simp [intOf]; omega
      · go_wp2
        go_ret
        refine ⟨?_, hB⟩
        rw [(bd_iff s p).2 (fun m h1 h2 h3 => H.out m (by omega) h2 h3)]
        rfl
    · go_wp2
      go_ret
      refine ⟨?_, hB⟩
      rw [(bd_iff s p).2 (fun m h1 h2 h3 => H.out m (by omega) h2 h3)]
      rfl

theorem bound_any (s : ByteArray) (hs : s.size ≤ maxLen) (a : Int) (w : World) :
    Calls Tryz.prog 78 #[.string s, .int .i64 a] w fun e w' => e = .returned (.bool (boundV s a)) ∧ Below w.heap.size w w' := by
  by_cases ha : 0 ≤ a ∧ a ≤ s.size
  · obtain ⟨p, rfl⟩ := Int.eq_ofNat_of_zero_le ha.1
    refine (bound_in s hs p (by omega) w).mono ?_
    rintro e w' ⟨rfl, hb⟩
    exact ⟨by rw [boundV, decide_eq_true ha]; simp, hb⟩
  · refine (bound_out s hs a (by omega) w).mono ?_
    rintro e w' ⟨rfl, rfl⟩
    exact ⟨by rw [boundV, decide_eq_false ha]; simp, Below.refl _ _⟩

/-- The greatest bound that is not above p. -/
def cutAt (s : ByteArray) : Nat → Nat
  | 0 => 0
  | p + 1 => if bdB s (p + 1) then p + 1 else cutAt s p
theorem cutAt_le (s : ByteArray) : ∀ p, cutAt s p ≤ p
  | 0 => Nat.le_refl _
  | p + 1 => by unfold cutAt; split; exact Nat.le_refl _; exact Nat.le_succ_of_le (cutAt_le s p)
theorem cutAt_bd (s : ByteArray) : ∀ p, bdB s (cutAt s p) = true
  | 0 => bd_zero s
  | p + 1 => by
    unfold cutAt
    split
    · assumption
    · exact cutAt_bd s p
theorem cutAt_max (s : ByteArray) : ∀ p q, q ≤ p → bdB s q = true → q ≤ cutAt s p
  | 0, q, h, _ => h
  | p + 1, q, h, hq => by
    unfold cutAt
    split
    · exact h
    · rename_i hn
      exact cutAt_max s p q (by
        rcases Nat.lt_or_ge q (p + 1) with hl | hl
        · omega
        · have : q = p + 1 := by omega
          subst this; exact absurd hq hn) hq
theorem cutAt_self (s : ByteArray) (p : Nat) (h : bdB s p = true) : cutAt s p = p := Nat.le_antisymm (cutAt_le s p) (cutAt_max s p p (Nat.le_refl _) h)
theorem cutAt_pred (s : ByteArray) (p : Nat) (h : bdB s p = false) : 1 ≤ p ∧ cutAt s p = cutAt s (p - 1) := by
  cases p with
  | zero => rw [bd_zero] at h; cases h
  | succ p => refine ⟨by omega, ?_⟩; rw [cutAt, if_neg (by simp [h])]; rfl
/-- The number, brought within the text. -/
def clampV (s : ByteArray) (a : Int) : Nat := min a.toNat s.size

set_option maxHeartbeats 2000000 in
theorem cut_any (s : ByteArray) (hs : s.size ≤ maxLen) (a : Int) (w : World) :
    Calls Tryz.prog 46 #[.string s, .int .i64 a] w fun e w' => e = .returned (.tuple #[.string (s.extract 0 (cutAt s (clampV s a))), .string (s.extract (cutAt s (clampV s a)) s.size)]) ∧ Below w.heap.size w w' := by
  have hs' := hs
  unfold maxLen at hs
  obtain ⟨c, hc, hcs⟩ : ∃ c, clampV s a = c ∧ c ≤ s.size := ⟨_, rfl, Nat.min_le_right _ _⟩
  have hc3 : (a < 0 ∧ c = 0) ∨ (0 ≤ a ∧ a ≤ s.size ∧ a = c) ∨ ((s.size : Int) < a ∧ c = s.size) := by unfold clampV at hc; omega
  rw [hc]
  have HS := hide hs'
  clear hc hs'
  rcases hc3 with ⟨h0, rfl⟩ | ⟨h0, h1, rfl⟩ | ⟨h0, rfl⟩
  all_goals
    go_enter Tryz.func46, Tryz.ntmps46
    go_wp2
    go_loopw [1] (fun i wr => ∃ k : Nat, k ≤ s.size ∧ i = .int .i64 k ∧ Hz (cutAt s k = cutAt s _) ∧ Below w.heap.size w wr) (fun i _ => (intOf i).toNat)
    case atStart => exact ⟨_, hcs, rfl, hide rfl, Below.refl _ _⟩
    case round =>
      obtain ⟨k, hk, rfl, H, hB⟩ := hrel
      go_wp2_with fail
      refine (bound_in s (unhide HS) k hk _).mono ?_
      rintro e w1 ⟨rfl, hb1⟩
      have hB1 : Below w.heap.size w w1 := hB.trans (hb1.mono hB.size)
      clear hb1 hB
      cases hb : bdB s k with
      | true =>
        have he := (cutAt_self s k hb).symm.trans (unhide H)
        have HE := hide he
        clear hb H he
        have hk0 : (0 : Int) ≤ k := by omega
        have hk1 : (k : Int) ≤ s.size := by omega
        go_wp2
        go_quiet (fail)
        go_wp2
        go_ret2
        exact ⟨by rw [← unhide HE]; rfl, below_drewN hB1 _⟩
      | false =>
        obtain ⟨hk1, he⟩ := cutAt_pred s k hb
        have HE := hide (he.symm.trans (unhide H))
        clear hb H he
        go_wp2
        go_roundw
        case rel => exact ⟨k - 1, by omega, by go_num, HE, hB1⟩
        case measure => simp [intOf]; omega

def joinsV (s t : ByteArray) : Bool := bdB (s.extract (s.size - 3) s.size ++ t.extract 0 (min t.size 3)) (min s.size 3)

theorem joinsV_eq (s t u v : ByteArray) (p : Nat) (hu : s.extract (s.size - 3) s.size = u) (hv : t.extract 0 (min t.size 3) = v) (hp : min s.size 3 = p) : bdB (u ++ v) p = joinsV s t := by
  unfold joinsV; rw [hu, hv, hp]
theorem extract_all (s : ByteArray) (i : Nat) (h : i = 0) : s.extract i s.size = s := by subst h; exact ByteArray.extract_zero_size
theorem extract_head (s : ByteArray) (i : Nat) (h : i = s.size) : s.extract 0 i = s := by subst h; exact ByteArray.extract_zero_size

end Go.Proofs.YtbbnppcpjpdpaaaGreatDoor
/- Last, told for every text; and what every statement asks first: that the text of an e and of a bad byte has its two spots. -/
namespace Go.Proofs.YtbbnppcpjpdpaaaGreatDoor
open Go.RowKit Go.Shelf
set_option linter.unusedVariables false

/-- Does a sequence of m bytes end the text? -/
def goodEnd (s : ByteArray) (m : Nat) : Bool := decide (m ≤ s.size ∧ wd s (s.size - m) = m ∧ ¬ (rn s (s.size - m) = 65533 ∧ wd s (s.size - m) = 1))
def lastS (s : ByteArray) : Int × Int × Bool :=
  if goodEnd s 1 then spotV s (s.size - 1) else if goodEnd s 2 then spotV s (s.size - 2) else if goodEnd s 3 then spotV s (s.size - 3) else if goodEnd s 4 then spotV s (s.size - 4) else (65533, 1, true)
def lastV (s : ByteArray) : Value := if 0 < s.size then .tuple #[encSpot (lastS s), .bool true] else .tuple #[encSpot (0, 0, false), .bool false]
theorem lastV_pos {s : ByteArray} (h : 0 < s.size) : lastV s = .tuple #[encSpot (lastS s), .bool true] := if_pos h
theorem lastV_neg {s : ByteArray} (h : ¬ 0 < s.size) : lastV s = .tuple #[encSpot (0, 0, false), .bool false] := if_neg h
theorem lastS_hit (s : ByteArray) (k : Nat) (h1 : 1 ≤ k) (h4 : k ≤ 4) (hg : goodEnd s k = true) (hn : ∀ m, m < k → 1 ≤ m → goodEnd s m = false) : lastS s = spotV s (s.size - k) := by
  have : k = 1 ∨ k = 2 ∨ k = 3 ∨ k = 4 := by omega
  unfold lastS
  rcases this with rfl | rfl | rfl | rfl
  · rw [if_pos hg]
  · rw [if_neg (by simp [hn 1]), if_pos hg]
  · rw [if_neg (by simp [hn 1]), if_neg (by simp [hn 2]), if_pos hg]
  · rw [if_neg (by simp [hn 1]), if_neg (by simp [hn 2]), if_neg (by simp [hn 3]), if_pos hg]
theorem lastS_none (s : ByteArray) (hn : ∀ m, m < 5 → 1 ≤ m → goodEnd s m = false) : lastS s = (65533, 1, true) := by
  unfold lastS
  rw [if_neg (by simp [hn 1]), if_neg (by simp [hn 2]), if_neg (by simp [hn 3]), if_neg (by simp [hn 4])]

/-- The text that every statement looks at first. -/
def text0 : ByteArray := ⟨#[195, 169, 255]⟩
theorem first0 : firstV text0 = .tuple #[.agg #[.int .i32 233, .int .i64 2, .bool false], .bool true] := by
  rw [firstV_pos (by decide)]
  have : Utf8.decode text0 0 = (233, 2) := by decide
  simp [spotV, rn, wd, this]
theorem last0 : lastV text0 = .tuple #[.agg #[.int .i32 65533, .int .i64 1, .bool true], .bool true] := by
  rw [lastV_pos (by decide), show lastS text0 = (65533, 1, true) by decide]

end Go.Proofs.YtbbnppcpjpdpaaaGreatDoor
