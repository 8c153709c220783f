/- A sequence's first wrong byte: plain mathematics. -/
import Derived.Test.YtncmabmpkdmpfaaDoorScLC
namespace Go.Proofs.YtncmabmpkdmpfaaDoor
open Go.RowKit Go.Shelf
open Go.Lib (decode_at)
set_option linter.unusedVariables false
/-- Does the byte number k go on what the first one begins? -/
def good4 (t : ByteArray) (k : Nat) : Bool := decide (k < t.size ∧ (if k = 1 then (secOf (bt t 0)).1 else 128) ≤ bt t k ∧ bt t k ≤ (if k = 1 then (secOf (bt t 0)).2 else 191))
theorem good4_iff {t : ByteArray} {k : Nat} : good4 t k = true ↔ k < t.size ∧ (if k = 1 then (secOf (bt t 0)).1 else 128) ≤ bt t k ∧ bt t k ≤ (if k = 1 then (secOf (bt t 0)).2 else 191) := by simp [good4]
/-- What the reference reads at a text's beginning: the rune, the bytes; or how many bytes stand ahead of the first wrong one. -/
def seq4V (t : ByteArray) : Nat × Nat × Bool := if t.size = 0 then (0, 0, false) else if badB t 0 = true then (0, begLen t, false) else (rn t 0, wd t 0, true)
theorem secOf_lo (c : Nat) (hs : (secOf c).1 ≠ 0) : 128 ≤ (secOf c).1 ∧ (secOf c).2 ≤ 191 ∧ (secOf c).1 ≤ (secOf c).2 ∧ 194 ≤ c ∧ c < 245 ∧ (((secOf c).1 ≤ 128 ∧ 128 ≤ (secOf c).2) ∨ ((secOf c).1 ≤ 160 ∧ 160 ≤ (secOf c).2)) := by
  rcases secOf_cases _ hs with ⟨a, b, e⟩ | ⟨a, e⟩ | ⟨a, e⟩ | ⟨a, e⟩ | ⟨a, e⟩ | ⟨a, b, e⟩ | ⟨a, e⟩ <;> rw [e] <;> simp only [] <;> omega
theorem wdN (n b0 b1 b2 b3 : Nat) (hn : 4 ≤ n) (h1 : b1 < 256) (h2 : b2 < 256) (h3 : b3 < 256) (hs : (secOf b0).1 ≠ 0) : (Lib.decodeN n b0 b1 b2 b3).2 = if (secOf b0).1 ≤ b1 ∧ b1 ≤ (secOf b0).2 ∧ (3 ≤ szOf b0 → 128 ≤ b2 ∧ b2 ≤ 191) ∧ (4 ≤ szOf b0 → 128 ≤ b3 ∧ b3 ≤ 191) then szOf b0 else 1 := by
  rw [decodeN_slow n b0 b1 b2 b3 (by omega) h1 h2 h3 hs]
  have hz := szOf_cases b0
  generalize (secOf b0).1 = lo at *
  generalize (secOf b0).2 = hi at *
  generalize szOf b0 = z at *
  unfold Lib.slowN
  repeat' split
  all_goals first | rfl | (exfalso; omega) | (dsimp only; omega)
theorem decode_tail (u x : ByteArray) (hu : 1 ≤ u.size) (hx : x.size = 3) : wd (u ++ x) 0 = (Lib.decodeN (u.size + 3) (bt u 0) (if 1 < u.size then bt u 1 else bt x (1 - u.size)) (if 2 < u.size then bt u 2 else bt x (2 - u.size)) (if 3 < u.size then bt u 3 else bt x (3 - u.size))).2 := by
  unfold wd
  rw [decode_at]
  have hz : (u ++ x).size - 0 = u.size + 3 := by rw [ByteArray.size_append, hx]; rfl
  have hb : ∀ i, bt (u ++ x) i = if i < u.size then bt u i else bt x (i - u.size) := fun i => by
    unfold bt
    rw [get_append]
    split <;> rfl
  rw [hz]
  show (Lib.decodeN (u.size + 3) (bt (u ++ x) 0) (bt (u ++ x) (0 + 1)) (bt (u ++ x) (0 + 2)) (bt (u ++ x) (0 + 3))).2 = _
  rw [hb, hb, hb, hb, if_pos (by omega)]
theorem bt_pre (t : ByteArray) (m i : Nat) (h : i < m) (hm : m ≤ t.size) : bt (t.extract 0 m) i = bt t i := by
  unfold bt
  rw [get_extract t 0 m i (by omega) hm, Nat.zero_add]
theorem tailA_bt : ∀ i, i < 3 → bt tailA i = 128 := by decide
theorem tailB_bt : ∀ i, i < 3 → bt tailB i = if i = 0 then 160 else 128 := by decide
/-- Which beginnings can go on to a rune. -/
theorem begB_none (t : ByteArray) (m : Nat) (h1 : 1 ≤ m) (hm : m ≤ t.size) (hs : (secOf (bt t 0)).1 = 0) : begB (t.extract 0 m) = false := by
  have hz : (t.extract 0 m).size = m := by rw [ByteArray.size_extract]; omega
  have hw : ∀ x : ByteArray, x.size = 3 → wd (t.extract 0 m ++ x) 0 = 1 := fun x hx => by
    rw [decode_tail _ x (by omega) hx, bt_pre t m 0 (by omega) hm]
    by_cases hb : bt t 0 < 128
    · unfold Lib.decodeN; rw [if_pos hb]
    · rw [decodeN_none _ _ _ _ _ (by omega) (bt_lt t 0) hs]
  unfold begB
  rw [hw tailA rfl, hw tailB rfl, hz, decide_eq_false (by omega)]
  rfl
theorem wd_one (t x : ByteArray) (h : 1 ≤ t.size) (hx : x.size = 3) : wd (t.extract 0 1 ++ x) 0 = (Lib.decodeN 4 (bt t 0) (bt x 0) (bt x 1) (bt x 2)).2 := by
  have hz : (t.extract 0 1).size = 1 := by rw [ByteArray.size_extract]; omega
  rw [decode_tail _ x (by omega) hx, hz, bt_pre t 1 0 (by omega) h]
  rfl
theorem wd_two (t x : ByteArray) (h : 2 ≤ t.size) (hx : x.size = 3) : wd (t.extract 0 2 ++ x) 0 = (Lib.decodeN 5 (bt t 0) (bt t 1) (bt x 0) (bt x 1)).2 := by
  have hz : (t.extract 0 2).size = 2 := by rw [ByteArray.size_extract]; omega
  rw [decode_tail _ x (by omega) hx, hz, bt_pre t 2 0 (by omega) h, if_pos (by decide), bt_pre t 2 1 (by omega) h]
  rfl
theorem wd_three (t x : ByteArray) (h : 3 ≤ t.size) (hx : x.size = 3) : wd (t.extract 0 3 ++ x) 0 = (Lib.decodeN 6 (bt t 0) (bt t 1) (bt t 2) (bt x 0)).2 := by
  have hz : (t.extract 0 3).size = 3 := by rw [ByteArray.size_extract]; omega
  rw [decode_tail _ x (by omega) hx, hz, bt_pre t 3 0 (by omega) h, if_pos (by decide), bt_pre t 3 1 (by omega) h, if_pos (by decide), bt_pre t 3 2 (by omega) h]
  rfl
theorem begB_iff (u : ByteArray) : begB u = true ↔ u.size < wd (u ++ tailA) 0 ∨ u.size < wd (u ++ tailB) 0 := by unfold begB; simp
theorem beg_1 {lo hi z : Nat} (hz : z = 2 ∨ z = 3 ∨ z = 4) (hq : (lo ≤ 128 ∧ 128 ≤ hi) ∨ (lo ≤ 160 ∧ 160 ≤ hi)) : (1 < (if lo ≤ 128 ∧ 128 ≤ hi ∧ (3 ≤ z → 128 ≤ 128 ∧ 128 ≤ 191) ∧ (4 ≤ z → 128 ≤ 128 ∧ 128 ≤ 191) then z else 1) ∨ 1 < (if lo ≤ 160 ∧ 160 ≤ hi ∧ (3 ≤ z → 128 ≤ 128 ∧ 128 ≤ 191) ∧ (4 ≤ z → 128 ≤ 128 ∧ 128 ≤ 191) then z else 1)) := by
  rcases hq with q | q
  · left; rw [if_pos ⟨q.1, q.2, fun _ => by decide, fun _ => by decide⟩]; omega
  · right; rw [if_pos ⟨q.1, q.2, fun _ => by decide, fun _ => by decide⟩]; omega
theorem beg_2 {lo hi z b1 : Nat} (hz : z = 2 ∨ z = 3 ∨ z = 4) : (2 < (if lo ≤ b1 ∧ b1 ≤ hi ∧ (3 ≤ z → 128 ≤ 128 ∧ 128 ≤ 191) ∧ (4 ≤ z → 128 ≤ 128 ∧ 128 ≤ 191) then z else 1) ∨ 2 < (if lo ≤ b1 ∧ b1 ≤ hi ∧ (3 ≤ z → 128 ≤ 160 ∧ 160 ≤ 191) ∧ (4 ≤ z → 128 ≤ 128 ∧ 128 ≤ 191) then z else 1)) ↔ 2 < z ∧ lo ≤ b1 ∧ b1 ≤ hi := by
  constructor
  · intro h
    rcases h with h | h <;> (split at h <;> omega)
  · intro h
    left; rw [if_pos ⟨h.2.1, h.2.2, fun _ => by decide, fun _ => by decide⟩]; exact h.1
theorem beg_3 {lo hi z b1 b2 : Nat} (hz : z = 2 ∨ z = 3 ∨ z = 4) : (3 < (if lo ≤ b1 ∧ b1 ≤ hi ∧ (3 ≤ z → 128 ≤ b2 ∧ b2 ≤ 191) ∧ (4 ≤ z → 128 ≤ 128 ∧ 128 ≤ 191) then z else 1) ∨ 3 < (if lo ≤ b1 ∧ b1 ≤ hi ∧ (3 ≤ z → 128 ≤ b2 ∧ b2 ≤ 191) ∧ (4 ≤ z → 128 ≤ 160 ∧ 160 ≤ 191) then z else 1)) ↔ 3 < z ∧ (lo ≤ b1 ∧ b1 ≤ hi) ∧ 128 ≤ b2 ∧ b2 ≤ 191 := by
  constructor
  · intro h
    rcases h with h | h <;> (split at h <;> omega)
  · intro h
    left; rw [if_pos ⟨h.2.1.1, h.2.1.2, fun _ => h.2.2, fun _ => by decide⟩]; exact h.1
theorem good_1 (t : ByteArray) : good4 t 1 = true ↔ 1 < t.size ∧ (secOf (bt t 0)).1 ≤ bt t 1 ∧ bt t 1 ≤ (secOf (bt t 0)).2 := by rw [good4_iff, if_pos rfl, if_pos rfl]
theorem good_2 (t : ByteArray) : good4 t 2 = true ↔ 2 < t.size ∧ 128 ≤ bt t 2 ∧ bt t 2 ≤ 191 := by rw [good4_iff, if_neg (by decide), if_neg (by decide)]
theorem begB_one (t : ByteArray) (hm : 1 ≤ t.size) (hs : (secOf (bt t 0)).1 ≠ 0) : begB (t.extract 0 1) = true := by
  have hz : (t.extract 0 1).size = 1 := by rw [ByteArray.size_extract]; omega
  rw [begB_iff, hz, wd_one t tailA hm rfl, wd_one t tailB hm rfl, wdN 4 _ _ _ _ (by decide) (by decide) (by decide) (by decide) hs, wdN 4 _ _ _ _ (by decide) (by decide) (by decide) (by decide) hs]
  exact beg_1 (szOf_cases _) (secOf_lo _ hs).2.2.2.2.2
theorem begB_two (t : ByteArray) (hm : 2 ≤ t.size) (hs : (secOf (bt t 0)).1 ≠ 0) : begB (t.extract 0 2) = true ↔ 2 < szOf (bt t 0) ∧ (secOf (bt t 0)).1 ≤ bt t 1 ∧ bt t 1 ≤ (secOf (bt t 0)).2 := by
  have hz : (t.extract 0 2).size = 2 := by rw [ByteArray.size_extract]; omega
  rw [begB_iff, hz, wd_two t tailA hm rfl, wd_two t tailB hm rfl, wdN 5 _ _ _ _ (by decide) (bt_lt t 1) (by decide) (by decide) hs, wdN 5 _ _ _ _ (by decide) (bt_lt t 1) (by decide) (by decide) hs]
  exact beg_2 (szOf_cases _)
theorem begB_three (t : ByteArray) (hm : 3 ≤ t.size) (hs : (secOf (bt t 0)).1 ≠ 0) : begB (t.extract 0 3) = true ↔ 3 < szOf (bt t 0) ∧ ((secOf (bt t 0)).1 ≤ bt t 1 ∧ bt t 1 ≤ (secOf (bt t 0)).2) ∧ 128 ≤ bt t 2 ∧ bt t 2 ≤ 191 := by
  have hz : (t.extract 0 3).size = 3 := by rw [ByteArray.size_extract]; omega
  rw [begB_iff, hz, wd_three t tailA hm rfl, wd_three t tailB hm rfl, wdN 6 _ _ _ _ (by decide) (bt_lt t 1) (bt_lt t 2) (by decide) hs, wdN 6 _ _ _ _ (by decide) (bt_lt t 1) (bt_lt t 2) (by decide) hs]
  exact beg_3 (szOf_cases _)
theorem begB_some (t : ByteArray) (m : Nat) (h1 : 1 ≤ m) (hm : m ≤ t.size) (hs : (secOf (bt t 0)).1 ≠ 0) : begB (t.extract 0 m) = true ↔ m < szOf (bt t 0) ∧ ∀ j, 1 ≤ j → j < m → good4 t j = true := by
  have hsz := szOf_cases (bt t 0)
  rcases Nat.lt_or_ge m 4 with hm4 | hm4
  · have hm3 : m = 1 ∨ m = 2 ∨ m = 3 := by omega
    rcases hm3 with rfl | rfl | rfl
    · exact ⟨fun _ => ⟨by omega, fun j h1 h2 => by omega⟩, fun _ => begB_one t hm hs⟩
    · rw [begB_two t hm hs]
      constructor
      · intro h
        refine ⟨h.1, fun j h1 h2 => ?_⟩
        obtain rfl : j = 1 := by omega
        exact (good_1 t).2 ⟨by omega, h.2⟩
      · intro h
        exact ⟨h.1, ((good_1 t).1 (h.2 1 (by omega) (by omega))).2⟩
    · rw [begB_three t hm hs]
      constructor
      · intro h
        refine ⟨h.1, fun j h1 h2 => ?_⟩
        have : j = 1 ∨ j = 2 := by omega
        rcases this with rfl | rfl
        · exact (good_1 t).2 ⟨by omega, h.2.1⟩
        · exact (good_2 t).2 ⟨by omega, h.2.2⟩
      · intro h
        exact ⟨h.1, ((good_1 t).1 (h.2 1 (by omega) (by omega))).2, ((good_2 t).1 (h.2 2 (by omega) (by omega))).2⟩
  · have hz : (t.extract 0 m).size = m := by rw [ByteArray.size_extract]; omega
    constructor
    · intro h
      rw [begB_iff, hz] at h
      have a := wd_four (t.extract 0 m ++ tailA) 0
      have b := wd_four (t.extract 0 m ++ tailB) 0
      omega
    · intro h
      omega
theorem begLen_none (t : ByteArray) (h : 0 < t.size) (hs : (secOf (bt t 0)).1 = 0) : begLen t = 0 := by
  unfold begLen
  exact scanTo_no (begB_none t 1 (by omega) (by omega) hs)
theorem begLen_some (t : ByteArray) (hs : (secOf (bt t 0)).1 ≠ 0) (k : Nat) (h1 : 1 ≤ k) (hk : k < szOf (bt t 0)) (hg : ∀ j, 1 ≤ j → j < k → good4 t j = true) (hb : good4 t k = false) (h0 : 0 < t.size) : begLen t = k := by
  unfold begLen
  have hkt : k ≤ t.size := by
    rcases Nat.lt_or_ge 1 k with q | q
    · have := (good4_iff.1 (hg (k - 1) (by omega) (by omega))).1; omega
    · omega
  rw [scanTo_all (p := fun n => begB (t.extract 0 (n + 1))) (hi := t.size) (m := k) k 0 (by omega) hkt (fun j _ hj => (begB_some t (j + 1) (by omega) (by omega) hs).2 ⟨by omega, fun i h1 h2 => hg i h1 (by omega)⟩)]
  by_cases hlt : k < t.size
  · refine scanTo_no ?_
    rw [Bool.eq_false_iff]
    intro q
    have := (begB_some t (k + 1) (by omega) (by omega) hs).1 q
    have := this.2 k h1 (by omega)
    rw [hb] at this
    cases this
  · exact scanTo_end hlt
theorem seqV_zero {t : ByteArray} (h : 0 < t.size) (e : seqV t = (0, 0)) : badB t 0 = true := by
  unfold seqV at e
  by_cases q : rn t 0 = 65533 ∧ wd t 0 = 1
  · unfold badB; exact decide_eq_true q
  · rw [if_neg (by omega), Prod.mk.injEq] at e
    have := wd_pos t 0
    omega
theorem seqV_some {t : ByteArray} {a b : Nat} (h : 0 < t.size) (ha : a ≠ 0) (e : seqV t = ((a : Int), (b : Int))) : badB t 0 = false ∧ wd t 0 = a ∧ rn t 0 = b := by
  unfold seqV at e
  by_cases q : rn t 0 = 65533 ∧ wd t 0 = 1
  · rw [if_pos (.inr q), Prod.mk.injEq] at e
    omega
  · rw [if_neg (by omega), Prod.mk.injEq] at e
    exact ⟨by unfold badB; exact decide_eq_false q, by omega, by omega⟩
theorem seq4_end {t : ByteArray} (h : ¬ 0 < t.size) : seq4V t = (0, 0, false) := by unfold seq4V; rw [if_pos (by omega)]
theorem seq4_ascii {t : ByteArray} (h : 0 < t.size) (hb : bt t 0 < 128) : seq4V t = (bt t 0, 1, true) := by
  obtain ⟨h1, h2, h3⟩ := seqV_some (a := 1) h (by decide) (seqV_ascii t h hb)
  unfold seq4V
  rw [if_neg (by omega), if_neg (by rw [h1]; decide), h2, h3]
theorem seq4_none {t : ByteArray} (h : 0 < t.size) (hb : 128 ≤ bt t 0) (hs : (secOf (bt t 0)).1 = 0) : seq4V t = (0, 0, false) := by
  have h1 := seqV_zero h (seqV_none t h hb hs)
  unfold seq4V
  rw [if_neg (by omega), if_pos h1, begLen_none t h hs]
theorem seq4_bad {t : ByteArray} (h : 0 < t.size) (hs : (secOf (bt t 0)).1 ≠ 0) (k : Nat) (h1 : 1 ≤ k) (hk : k < szOf (bt t 0)) (hg : ∀ j, 1 ≤ j → j < k → good4 t j = true) (hb : good4 t k = false) : seq4V t = (0, k, false) := by
  have hq := secOf_lo _ hs
  have hx : t.size < 2 ∨ bt t 1 < (secOf (bt t 0)).1 ∨ (secOf (bt t 0)).2 < bt t 1 ∨ ∃ k, 1 ≤ k ∧ k < szOf (bt t 0) ∧ (t.size ≤ k ∨ bt t k < 128 ∨ 191 < bt t k) := by
    have hn : ¬ (k < t.size ∧ (if k = 1 then (secOf (bt t 0)).1 else 128) ≤ bt t k ∧ bt t k ≤ (if k = 1 then (secOf (bt t 0)).2 else 191)) := fun q => by rw [good4_iff.2 q] at hb; cases hb
    by_cases e : k = 1
    · subst e
      rw [if_pos rfl, if_pos rfl] at hn
      omega
    · rw [if_neg e, if_neg e] at hn
      exact .inr (.inr (.inr ⟨k, h1, hk, by omega⟩))
  have hz := seqV_zero h (seqV_bad t h (by omega) hs hx)
  unfold seq4V
  rw [if_neg (by omega), if_pos hz, begLen_some t hs k h1 hk hg hb h]
theorem seq4_good {t : ByteArray} (h : 0 < t.size) (hs : (secOf (bt t 0)).1 ≠ 0) (hg : ∀ j, 1 ≤ j → j < szOf (bt t 0) → good4 t j = true) : seq4V t = (accOf t (szOf (bt t 0)), szOf (bt t 0), true) := by
  have hq := secOf_lo _ hs
  have hsz := szOf_cases (bt t 0)
  have g1 := good4_iff.1 (hg 1 (by omega) (by omega))
  rw [if_pos rfl, if_pos rfl] at g1
  have hgo : Goes t (szOf (bt t 0)) := fun j h1 h2 => by
    have := good4_iff.1 (hg j h1 h2)
    by_cases e : j = 1
    · subst e; omega
    · rw [if_neg e, if_neg e] at this; exact this
  obtain ⟨q1, q2, q3⟩ := seqV_some h (by omega) (seqV_good t h (by omega) hs g1.2.1 g1.2.2 hgo)
  unfold seq4V
  rw [if_neg (by omega), if_neg (by rw [q1]; decide), q2, q3]
end Go.Proofs.YtncmabmpkdmpfaaDoor
