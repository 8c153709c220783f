/- Texts of this claim, one behind the other. -/
import Derived.Test.YtgchlilpjkndlaaGreatDoorM24
/- A sequence's first wrong byte: plain mathematics. -/
namespace Go.Proofs.YtgchlilpjkndlaaGreatDoor
open Go.RowKit Go.Shelf
open Go.Lib (decode_at)
set_option linter.unusedVariables false
def good4 (t : ByteArray) (k : Nat) : Bool := decide (k < t.size ∧ (if k = 1 then (secOf (bt t 0)).1 else 128) ≤ bt t k ∧ bt t k ≤ (if k = 1 then (secOf (bt t 0)).2 else 191))
theorem good4_iff {t : ByteArray} {k : Nat} : good4 t k = true ↔ k < t.size ∧ (if k = 1 then (secOf (bt t 0)).1 else 128) ≤ bt t k ∧ bt t k ≤ (if k = 1 then (secOf (bt t 0)).2 else 191) := by simp [good4]
def seq4V (t : ByteArray) : Nat × Nat × Bool := if t.size = 0 then (0, 0, false) else if badB t 0 = true then (0, begLen t, false) else (rn t 0, wd t 0, true)
theorem secOf_lo (c : Nat) (hs : (secOf c).1 ≠ 0) : 128 ≤ (secOf c).1 ∧ (secOf c).2 ≤ 191 ∧ (secOf c).1 ≤ (secOf c).2 ∧ 194 ≤ c ∧ c < 245 ∧ (((secOf c).1 ≤ 128 ∧ 128 ≤ (secOf c).2) ∨ ((secOf c).1 ≤ 160 ∧ 160 ≤ (secOf c).2)) := by
  rcases secOf_cases _ hs with ⟨a, b, e⟩ | ⟨a, e⟩ | ⟨a, e⟩ | ⟨a, e⟩ | ⟨a, e⟩ | ⟨a, b, e⟩ | ⟨a, e⟩ <;> rw [e] <;> simp only [] <;> omega
theorem wdN (n b0 b1 b2 b3 : Nat) (hn : 4 ≤ n) (h1 : b1 < 256) (h2 : b2 < 256) (h3 : b3 < 256) (hs : (secOf b0).1 ≠ 0) : (Lib.decodeN n b0 b1 b2 b3).2 = if (secOf b0).1 ≤ b1 ∧ b1 ≤ (secOf b0).2 ∧ (3 ≤ szOf b0 → 128 ≤ b2 ∧ b2 ≤ 191) ∧ (4 ≤ szOf b0 → 128 ≤ b3 ∧ b3 ≤ 191) then szOf b0 else 1 := by
  rw [decodeN_slow n b0 b1 b2 b3 (by omega) h1 h2 h3 hs]
  have hz := szOf_cases b0
  generalize (secOf b0).1 = lo at *
  generalize (secOf b0).2 = hi at *
  generalize szOf b0 = z at *
  unfold Lib.slowN
  repeat' split
  all_goals first | rfl | (exfalso; omega) | (dsimp only; omega)
theorem decode_tail (u x : ByteArray) (hu : 1 ≤ u.size) (hx : x.size = 3) : wd (u ++ x) 0 = (Lib.decodeN (u.size + 3) (bt u 0) (if 1 < u.size then bt u 1 else bt x (1 - u.size)) (if 2 < u.size then bt u 2 else bt x (2 - u.size)) (if 3 < u.size then bt u 3 else bt x (3 - u.size))).2 := by
  unfold wd
  rw [decode_at]
  have hz : (u ++ x).size - 0 = u.size + 3 := by rw [ByteArray.size_append, hx]; rfl
  have hb : ∀ i, bt (u ++ x) i = if i < u.size then bt u i else bt x (i - u.size) := fun i => by
    unfold bt
    rw [get_append]
    split <;> rfl
  rw [hz]
  show (Lib.decodeN (u.size + 3) (bt (u ++ x) 0) (bt (u ++ x) (0 + 1)) (bt (u ++ x) (0 + 2)) (bt (u ++ x) (0 + 3))).2 = _
  rw [hb, hb, hb, hb, if_pos (by omega)]
theorem bt_pre (t : ByteArray) (m i : Nat) (h : i < m) (hm : m ≤ t.size) : bt (t.extract 0 m) i = bt t i := by
  unfold bt
  rw [get_extract t 0 m i (by omega) hm, Nat.zero_add]
theorem begB_none (t : ByteArray) (m : Nat) (h1 : 1 ≤ m) (hm : m ≤ t.size) (hs : (secOf (bt t 0)).1 = 0) : begB (t.extract 0 m) = false := by
  have hz : (t.extract 0 m).size = m := by rw [ByteArray.size_extract]; omega
  have hw : ∀ x : ByteArray, x.size = 3 → wd (t.extract 0 m ++ x) 0 = 1 := fun x hx => by
    rw [decode_tail _ x (by omega) hx, bt_pre t m 0 (by omega) hm]
    by_cases hb : bt t 0 < 128
    · unfold Lib.decodeN; rw [if_pos hb]
    · rw [decodeN_none _ _ _ _ _ (by omega) (bt_lt t 0) hs]
  unfold begB
  rw [hw tailA rfl, hw tailB rfl, hz, decide_eq_false (by omega)]
  rfl
theorem wd_one (t x : ByteArray) (h : 1 ≤ t.size) (hx : x.size = 3) : wd (t.extract 0 1 ++ x) 0 = (Lib.decodeN 4 (bt t 0) (bt x 0) (bt x 1) (bt x 2)).2 := by
  have hz : (t.extract 0 1).size = 1 := by rw [ByteArray.size_extract]; omega
  rw [decode_tail _ x (by omega) hx, hz, bt_pre t 1 0 (by omega) h]
  rfl
theorem wd_two (t x : ByteArray) (h : 2 ≤ t.size) (hx : x.size = 3) : wd (t.extract 0 2 ++ x) 0 = (Lib.decodeN 5 (bt t 0) (bt t 1) (bt x 0) (bt x 1)).2 := by
  have hz : (t.extract 0 2).size = 2 := by rw [ByteArray.size_extract]; omega
  rw [decode_tail _ x (by omega) hx, hz, bt_pre t 2 0 (by omega) h, if_pos (by decide), bt_pre t 2 1 (by omega) h]
  rfl
theorem wd_three (t x : ByteArray) (h : 3 ≤ t.size) (hx : x.size = 3) : wd (t.extract 0 3 ++ x) 0 = (Lib.decodeN 6 (bt t 0) (bt t 1) (bt t 2) (bt x 0)).2 := by
  have hz : (t.extract 0 3).size = 3 := by rw [ByteArray.size_extract]; omega
  rw [decode_tail _ x (by omega) hx, hz, bt_pre t 3 0 (by omega) h, if_pos (by decide), bt_pre t 3 1 (by omega) h, if_pos (by decide), bt_pre t 3 2 (by omega) h]
  rfl
theorem begB_iff (u : ByteArray) : begB u = true ↔ u.size < wd (u ++ tailA) 0 ∨ u.size < wd (u ++ tailB) 0 := by unfold begB; simp
theorem beg_1 {lo hi z : Nat} (hz : z = 2 ∨ z = 3 ∨ z = 4) (hq : (lo ≤ 128 ∧ 128 ≤ hi) ∨ (lo ≤ 160 ∧ 160 ≤ hi)) : (1 < (if lo ≤ 128 ∧ 128 ≤ hi ∧ (3 ≤ z → 128 ≤ 128 ∧ 128 ≤ 191) ∧ (4 ≤ z → 128 ≤ 128 ∧ 128 ≤ 191) then z else 1) ∨ 1 < (if lo ≤ 160 ∧ 160 ≤ hi ∧ (3 ≤ z → 128 ≤ 128 ∧ 128 ≤ 191) ∧ (4 ≤ z → 128 ≤ 128 ∧ 128 ≤ 191) then z else 1)) := by
  rcases hq with q | q
  · left; rw [if_pos ⟨q.1, q.2, fun _ => by decide, fun _ => by decide⟩]; omega
  · right; rw [if_pos ⟨q.1, q.2, fun _ => by decide, fun _ => by decide⟩]; omega
theorem beg_2 {lo hi z b1 : Nat} (hz : z = 2 ∨ z = 3 ∨ z = 4) : (2 < (if lo ≤ b1 ∧ b1 ≤ hi ∧ (3 ≤ z → 128 ≤ 128 ∧ 128 ≤ 191) ∧ (4 ≤ z → 128 ≤ 128 ∧ 128 ≤ 191) then z else 1) ∨ 2 < (if lo ≤ b1 ∧ b1 ≤ hi ∧ (3 ≤ z → 128 ≤ 160 ∧ 160 ≤ 191) ∧ (4 ≤ z → 128 ≤ 128 ∧ 128 ≤ 191) then z else 1)) ↔ 2 < z ∧ lo ≤ b1 ∧ b1 ≤ hi := by
  constructor
  · intro h
    rcases h with h | h <;> (split at h <;> omega)
  · intro h
    left; rw [if_pos ⟨h.2.1, h.2.2, fun _ => by decide, fun _ => by decide⟩]; exact h.1
theorem beg_3 {lo hi z b1 b2 : Nat} (hz : z = 2 ∨ z = 3 ∨ z = 4) : (3 < (if lo ≤ b1 ∧ b1 ≤ hi ∧ (3 ≤ z → 128 ≤ b2 ∧ b2 ≤ 191) ∧ (4 ≤ z → 128 ≤ 128 ∧ 128 ≤ 191) then z else 1) ∨ 3 < (if lo ≤ b1 ∧ b1 ≤ hi ∧ (3 ≤ z → 128 ≤ b2 ∧ b2 ≤ 191) ∧ (4 ≤ z → 128 ≤ 160 ∧ 160 ≤ 191) then z else 1)) ↔ 3 < z ∧ (lo ≤ b1 ∧ b1 ≤ hi) ∧ 128 ≤ b2 ∧ b2 ≤ 191 := by
  constructor
  · intro h
    rcases h with h | h <;> (split at h <;> omega)
  · intro h
    left; rw [if_pos ⟨h.2.1.1, h.2.1.2, fun _ => h.2.2, fun _ => by decide⟩]; exact h.1
theorem good_1 (t : ByteArray) : good4 t 1 = true ↔ 1 < t.size ∧ (secOf (bt t 0)).1 ≤ bt t 1 ∧ bt t 1 ≤ (secOf (bt t 0)).2 := by rw [good4_iff, if_pos rfl, if_pos rfl]
theorem good_2 (t : ByteArray) : good4 t 2 = true ↔ 2 < t.size ∧ 128 ≤ bt t 2 ∧ bt t 2 ≤ 191 := by rw [good4_iff, if_neg (by decide), if_neg (by decide)]
theorem begB_one (t : ByteArray) (hm : 1 ≤ t.size) (hs : (secOf (bt t 0)).1 ≠ 0) : begB (t.extract 0 1) = true := by
  have hz : (t.extract 0 1).size = 1 := by rw [ByteArray.size_extract]; omega
  rw [begB_iff, hz, wd_one t tailA hm rfl, wd_one t tailB hm rfl, wdN 4 _ _ _ _ (by decide) (by decide) (by decide) (by decide) hs, wdN 4 _ _ _ _ (by decide) (by decide) (by decide) (by decide) hs]
  exact beg_1 (szOf_cases _) (secOf_lo _ hs).2.2.2.2.2
theorem begB_two (t : ByteArray) (hm : 2 ≤ t.size) (hs : (secOf (bt t 0)).1 ≠ 0) : begB (t.extract 0 2) = true ↔ 2 < szOf (bt t 0) ∧ (secOf (bt t 0)).1 ≤ bt t 1 ∧ bt t 1 ≤ (secOf (bt t 0)).2 := by
  have hz : (t.extract 0 2).size = 2 := by rw [ByteArray.size_extract]; omega
  rw [begB_iff, hz, wd_two t tailA hm rfl, wd_two t tailB hm rfl, wdN 5 _ _ _ _ (by decide) (bt_lt t 1) (by decide) (by decide) hs, wdN 5 _ _ _ _ (by decide) (bt_lt t 1) (by decide) (by decide) hs]
  exact beg_2 (szOf_cases _)
theorem begB_three (t : ByteArray) (hm : 3 ≤ t.size) (hs : (secOf (bt t 0)).1 ≠ 0) : begB (t.extract 0 3) = true ↔ 3 < szOf (bt t 0) ∧ ((secOf (bt t 0)).1 ≤ bt t 1 ∧ bt t 1 ≤ (secOf (bt t 0)).2) ∧ 128 ≤ bt t 2 ∧ bt t 2 ≤ 191 := by
  have hz : (t.extract 0 3).size = 3 := by rw [ByteArray.size_extract]; omega
  rw [begB_iff, hz, wd_three t tailA hm rfl, wd_three t tailB hm rfl, wdN 6 _ _ _ _ (by decide) (bt_lt t 1) (bt_lt t 2) (by decide) hs, wdN 6 _ _ _ _ (by decide) (bt_lt t 1) (bt_lt t 2) (by decide) hs]
  exact beg_3 (szOf_cases _)
theorem begB_some (t : ByteArray) (m : Nat) (h1 : 1 ≤ m) (hm : m ≤ t.size) (hs : (secOf (bt t 0)).1 ≠ 0) : begB (t.extract 0 m) = true ↔ m < szOf (bt t 0) ∧ ∀ j, 1 ≤ j → j < m → good4 t j = true := by
  have hsz := szOf_cases (bt t 0)
  rcases Nat.lt_or_ge m 4 with hm4 | hm4
  · have hm3 : m = 1 ∨ m = 2 ∨ m = 3 := by omega
    rcases hm3 with rfl | rfl | rfl
    · exact ⟨fun _ => ⟨by omega, fun j h1 h2 => by omega⟩, fun _ => begB_one t hm hs⟩
    · rw [begB_two t hm hs]
      constructor
      · intro h
        refine ⟨h.1, fun j h1 h2 => ?_⟩
        obtain rfl : j = 1 := by omega
        exact (good_1 t).2 ⟨by omega, h.2⟩
      · intro h
        exact ⟨h.1, ((good_1 t).1 (h.2 1 (by omega) (by omega))).2⟩
    · rw [begB_three t hm hs]
      constructor
      · intro h
        refine ⟨h.1, fun j h1 h2 => ?_⟩
        have : j = 1 ∨ j = 2 := by omega
        rcases this with rfl | rfl
        · exact (good_1 t).2 ⟨by omega, h.2.1⟩
        · exact (good_2 t).2 ⟨by omega, h.2.2⟩
      · intro h
        exact ⟨h.1, ((good_1 t).1 (h.2 1 (by omega) (by omega))).2, ((good_2 t).1 (h.2 2 (by omega) (by omega))).2⟩
  · have hz : (t.extract 0 m).size = m := by rw [ByteArray.size_extract]; omega
    constructor
    · intro h
      rw [begB_iff, hz] at h
      have a := wd_four (t.extract 0 m ++ tailA) 0
      have b := wd_four (t.extract 0 m ++ tailB) 0
      omega
    · intro h
      omega
theorem begLen_none (t : ByteArray) (h : 0 < t.size) (hs : (secOf (bt t 0)).1 = 0) : begLen t = 0 := by
  unfold begLen
  exact scanTo_no (begB_none t 1 (by omega) (by omega) hs)
theorem begLen_some (t : ByteArray) (hs : (secOf (bt t 0)).1 ≠ 0) (k : Nat) (h1 : 1 ≤ k) (hk : k < szOf (bt t 0)) (hg : ∀ j, 1 ≤ j → j < k → good4 t j = true) (hb : good4 t k = false) (h0 : 0 < t.size) : begLen t = k := by
  unfold begLen
  have hkt : k ≤ t.size := by
    rcases Nat.lt_or_ge 1 k with q | q
    · have := (good4_iff.1 (hg (k - 1) (by omega) (by omega))).1; omega
    · omega
  rw [scanTo_all (p := fun n => begB (t.extract 0 (n + 1))) (hi := t.size) (m := k) k 0 (by omega) hkt (fun j _ hj => (begB_some t (j + 1) (by omega) (by omega) hs).2 ⟨by omega, fun i h1 h2 => hg i h1 (by omega)⟩)]
  by_cases hlt : k < t.size
  · refine scanTo_no ?_
    rw [Bool.eq_false_iff]
    intro q
    have := (begB_some t (k + 1) (by omega) (by omega) hs).1 q
    have := this.2 k h1 (by omega)
    rw [hb] at this
    cases this
  · exact scanTo_end hlt
theorem seqV_zero {t : ByteArray} (h : 0 < t.size) (e : seqV t = (0, 0)) : badB t 0 = true := by
  unfold seqV at e
  by_cases q : rn t 0 = 65533 ∧ wd t 0 = 1
  · unfold badB; exact decide_eq_true q
  · rw [if_neg (by omega), Prod.mk.injEq] at e
    have := wd_pos t 0
    omega
theorem seqV_some {t : ByteArray} {a b : Nat} (h : 0 < t.size) (ha : a ≠ 0) (e : seqV t = ((a : Int), (b : Int))) : badB t 0 = false ∧ wd t 0 = a ∧ rn t 0 = b := by
  unfold seqV at e
  by_cases q : rn t 0 = 65533 ∧ wd t 0 = 1
  · rw [if_pos (.inr q), Prod.mk.injEq] at e
    omega
  · rw [if_neg (by omega), Prod.mk.injEq] at e
    exact ⟨by unfold badB; exact decide_eq_false q, by omega, by omega⟩
theorem seq4_end {t : ByteArray} (h : ¬ 0 < t.size) : seq4V t = (0, 0, false) := by unfold seq4V; rw [if_pos (by omega)]
theorem seq4_ascii {t : ByteArray} (h : 0 < t.size) (hb : bt t 0 < 128) : seq4V t = (bt t 0, 1, true) := by
  obtain ⟨h1, h2, h3⟩ := seqV_some (a := 1) h (by decide) (seqV_ascii t h hb)
  unfold seq4V
  rw [if_neg (by omega), if_neg (by rw [h1]; decide), h2, h3]
theorem seq4_none {t : ByteArray} (h : 0 < t.size) (hb : 128 ≤ bt t 0) (hs : (secOf (bt t 0)).1 = 0) : seq4V t = (0, 0, false) := by
  have h1 := seqV_zero h (seqV_none t h hb hs)
  unfold seq4V
  rw [if_neg (by omega), if_pos h1, begLen_none t h hs]
theorem seq4_bad {t : ByteArray} (h : 0 < t.size) (hs : (secOf (bt t 0)).1 ≠ 0) (k : Nat) (h1 : 1 ≤ k) (hk : k < szOf (bt t 0)) (hg : ∀ j, 1 ≤ j → j < k → good4 t j = true) (hb : good4 t k = false) : seq4V t = (0, k, false) := by
  have hq := secOf_lo _ hs
  have hx : t.size < 2 ∨ bt t 1 < (secOf (bt t 0)).1 ∨ (secOf (bt t 0)).2 < bt t 1 ∨ ∃ k, 1 ≤ k ∧ k < szOf (bt t 0) ∧ (t.size ≤ k ∨ bt t k < 128 ∨ 191 < bt t k) := by
    have hn : ¬ (k < t.size ∧ (if k = 1 then (secOf (bt t 0)).1 else 128) ≤ bt t k ∧ bt t k ≤ (if k = 1 then (secOf (bt t 0)).2 else 191)) := fun q => by rw [good4_iff.2 q] at hb; cases hb
    by_cases e : k = 1
    · subst e
      rw [if_pos rfl, if_pos rfl] at hn
      omega
    · rw [if_neg e, if_neg e] at hn
      exact .inr (.inr (.inr ⟨k, h1, hk, by omega⟩))
  have hz := seqV_zero h (seqV_bad t h (by omega) hs hx)
  unfold seq4V
  rw [if_neg (by omega), if_pos hz, begLen_some t hs k h1 hk hg hb h]
theorem seq4_good {t : ByteArray} (h : 0 < t.size) (hs : (secOf (bt t 0)).1 ≠ 0) (hg : ∀ j, 1 ≤ j → j < szOf (bt t 0) → good4 t j = true) : seq4V t = (accOf t (szOf (bt t 0)), szOf (bt t 0), true) := by
  have hq := secOf_lo _ hs
  have hsz := szOf_cases (bt t 0)
  have g1 := good4_iff.1 (hg 1 (by omega) (by omega))
  rw [if_pos rfl, if_pos rfl] at g1
  have hgo : Goes t (szOf (bt t 0)) := fun j h1 h2 => by
    have := good4_iff.1 (hg j h1 h2)
    by_cases e : j = 1
    · subst e; omega
    · rw [if_neg e, if_neg e] at this; exact this
  obtain ⟨q1, q2, q3⟩ := seqV_some h (by omega) (seqV_good t h (by omega) hs g1.2.1 g1.2.2 hgo)
  unfold seq4V
  rw [if_neg (by omega), if_neg (by rw [q1]; decide), q2, q3]
end Go.Proofs.YtgchlilpjkndlaaGreatDoor
namespace Go.Proofs.YtgchlilpjkndlaaGreatDoor
open Go.RowKit Go.Shelf
set_option linter.unusedVariables false
theorem bd_pre (s : ByteArray) (i e : Nat) (h : bdB s i = true) (hi : i ≤ e) (he : e ≤ s.size) : bdB (s.extract 0 e) i = true := by
  rw [bd_iff] at h ⊢
  intro n h4 h1 hn
  have hz : (s.extract 0 e).size = e := by rw [ByteArray.size_extract]; omega
  by_cases hb : rn (s.extract 0 e) (i - n) = 65533 ∧ wd (s.extract 0 e) (i - n) = 1
  · omega
  · have := decode_grow (s.extract 0 e) (s.extract e s.size) (i - n) (by omega) hb
    rw [cat_split s e he] at this
    unfold wd
    rw [← this]
    exact h n h4 h1 hn
def lcAt (s : ByteArray) (i : Nat) : Nat × Nat := lcR (1, 1) (runesL (s.extract 0 i))
theorem lcAt_zero (s : ByteArray) : lcAt s 0 = (1, 1) := by
  have : s.extract 0 0 = ByteArray.empty := toList_nil _ (by rw [ByteArray.size_extract]; omega)
  unfold lcAt
  rw [this]
  rfl
theorem whL_at (s : ByteArray) (k : Nat) : whL s k = lcAt s (cutAt s k) := whL_runes s k
theorem whL_bd (s : ByteArray) (k : Nat) (h : bdB s k = true) : whL s k = lcAt s k := by rw [whL_at, cutAt_self s k h]
theorem rst_rst (s : ByteArray) (a k : Nat) (h : a ≤ s.size) : (rst s a).extract k (rst s a).size = rst s (a + k) := by
  unfold rst
  rw [ByteArray.size_extract, ByteArray.extract_extract, Nat.min_self]
  congr 1
  omega
theorem rst_at (s : ByteArray) (a k : Nat) (h : a ≤ s.size) : bt (rst s a) k = bt s (a + k) := by unfold bt; rw [get_suffix s a k h]
theorem gap_shift (t : ByteArray) (a : Nat) (ha : a ≤ t.size) : ∀ f k, gapGo t f (a + k) = (a + (gapGo (rst t a) f k).1, (gapGo (rst t a) f k).2)
  | 0, k => by
    unfold gapGo
    rw [rst_size, Prod.mk.injEq]
    exact ⟨by show t.size = a + (t.size - a); omega, rfl⟩
  | f + 1, k => by
    unfold gapGo
    rw [rst_at t a k ha, rst_rst t a k ha, rst_size]
    by_cases h : a + k < t.size
    · rw [if_pos h, if_pos (show k < t.size - a by omega)]
      by_cases hb : blankB (bt t (a + k)) = true
      · rw [if_pos hb, if_pos hb]
        exact gap_shift t a ha f (k + 1)
      · rw [if_neg hb, if_neg hb]
        by_cases hr : bt t (a + k) = 35
        · rw [if_pos hr, if_pos hr]
          show (if (remV (rst t (a + k))).2 = true then _ else _) = _
          by_cases ho : (remV (rst t (a + k))).2 = true
          · rw [if_pos ho, if_pos ho, Nat.add_assoc]
            exact gap_shift t a ha f _
          · rw [if_neg ho, if_neg ho, Nat.add_assoc]
        · rw [if_neg hr, if_neg hr]
    · rw [if_neg h, if_neg (show ¬ k < t.size - a by omega), Prod.mk.injEq]
      exact ⟨by show t.size = a + (t.size - a); omega, rfl⟩
theorem nlAt_pos (t : ByteArray) (h : 0 < t.size) (hb : bt t 0 ≠ 10) : 1 ≤ nlAt t := by
  unfold nlAt
  rw [scanTo_go h (by simp [hb])]
  exact (scanTo_le _ (by omega)).1
theorem remV_pos2 (t : ByteArray) (h : 0 < t.size) (hb : bt t 0 ≠ 10) (ho : (remV t).2 = true) : 1 ≤ (remV t).1 ∧ (remV t).1 ≤ t.size := by
  have h1 := nlAt_pos t h hb
  have h2 := nlAt_le t
  unfold remV at ho ⊢
  split at ho
  · rename_i e
    show 1 ≤ (t.extract 0 (nlAt t)).size ∧ (t.extract 0 (nlAt t)).size ≤ _
    rw [ByteArray.size_extract]
    omega
  · cases ho
theorem gap_fuel (t : ByteArray) : ∀ f g n, t.size ≤ n + f → t.size ≤ n + g → n ≤ t.size → gapGo t f n = gapGo t g n
  | 0, 0, n, _, _, _ => rfl
  | 0, g + 1, n, h, _, _ => by unfold gapGo; rw [if_neg (by omega)]
  | f + 1, 0, n, _, h, _ => by unfold gapGo; rw [if_neg (by omega)]
  | f + 1, g + 1, n, h1, h2, hn => by
    unfold gapGo
    by_cases h : n < t.size
    · rw [if_pos h, if_pos h]
      by_cases hb : blankB (bt t n) = true
      · rw [if_pos hb, if_pos hb]
        exact gap_fuel t f g (n + 1) (by omega) (by omega) (by omega)
      · rw [if_neg hb, if_neg hb]
        by_cases hr : bt t n = 35
        · rw [if_pos hr, if_pos hr]
          by_cases ho : (remV (t.extract n t.size)).2 = true
          · rw [if_pos ho, if_pos ho]
            have hz : 0 < (rst t n).size := by rw [rst_size]; omega
            have h0 : bt (rst t n) 0 = 35 := by rw [rst_at t n 0 (by omega)]; exact hr
            have hp := remV_pos2 (rst t n) hz (by rw [h0]; decide) ho
            rw [rst_size] at hp
            show gapGo t f (n + (remV (rst t n)).1) = gapGo t g (n + (remV (rst t n)).1)
            exact gap_fuel t f g _ (by omega) (by omega) (by omega)
          · rw [if_neg ho, if_neg ho]
        · rw [if_neg hr, if_neg hr]
    · rw [if_neg h, if_neg h]
def gapA (s : ByteArray) (p : Nat) : Nat × Bool := (p + (gapV (rst s p)).1, (gapV (rst s p)).2)
theorem gapA_from (s : ByteArray) (p k f : Nat) (hp : p + k ≤ s.size) (hf : s.size ≤ p + k + f) : (p + (gapGo (rst s p) f k).1, (gapGo (rst s p) f k).2) = gapA s (p + k) := by
  unfold gapA gapV
  have h := gap_shift (rst s p) k (by rw [rst_size]; omega) f 0
  rw [Nat.add_zero] at h
  have e : rst (rst s p) k = rst s (p + k) := rst_rst s p k (by omega)
  rw [e] at h
  rw [h, gap_fuel (rst s (p + k)) f (rst s (p + k)).size 0 (by rw [rst_size]; omega) (by omega) (by omega), Prod.mk.injEq]
  exact ⟨by show p + (k + _) = _; omega, rfl⟩
theorem gapA_end (s : ByteArray) (p : Nat) (h : s.size ≤ p) (h2 : p ≤ s.size) : gapA s p = (p, true) := by
  obtain rfl : p = s.size := by omega
  unfold gapA
  have e : rst s s.size = ByteArray.empty := toList_nil _ (by rw [rst_size]; omega)
  rw [e]
  rfl
theorem gapA_blank (s : ByteArray) (p : Nat) (h : p < s.size) (hb : blankB (bt s p) = true) : gapA s p = gapA s (p + 1) := by
  rw [← gapA_from s p 1 (s.size - p - 1) (by omega) (by omega)]
  unfold gapA gapV
  have hz := rst_size s p
  obtain ⟨f, hf⟩ : ∃ f, s.size - p = f + 1 := ⟨s.size - p - 1, by omega⟩
  have e : gapGo (rst s p) (rst s p).size 0 = gapGo (rst s p) (s.size - p - 1) 1 := by
    rw [hz, show s.size - p - 1 = f by omega, hf]
    conv => lhs; unfold gapGo
    rw [if_pos (by omega), rst_at s p 0 (by omega), Nat.add_zero, if_pos hb]
  rw [e]
theorem gapA_stop (s : ByteArray) (p : Nat) (h : p < s.size) (hb : blankB (bt s p) = false) (hr : bt s p ≠ 35) : gapA s p = (p, true) := by
  unfold gapA
  have hg : gapV (rst s p) = (0, true) := by
    have hz := rst_size s p
    unfold gapV
    obtain ⟨f, hf⟩ : ∃ f, s.size - p = f + 1 := ⟨s.size - p - 1, by omega⟩
    rw [hz, hf]
    unfold gapGo
    rw [if_pos (by omega), rst_at s p 0 (by omega), Nat.add_zero, if_neg (by rw [hb]; decide), if_neg hr]
  rw [hg]
  rfl
theorem gapA_sharp (s : ByteArray) (p : Nat) (h : p < s.size) (hr : bt s p = 35) : gapA s p = if (remV (rst s p)).2 = true then gapA s (p + (remV (rst s p)).1) else (p + (remV (rst s p)).1, false) := by
  have hz := rst_size s p
  obtain ⟨f, hf⟩ : ∃ f, s.size - p = f + 1 := ⟨s.size - p - 1, by omega⟩
  have h0 : bt (rst s p) 0 = 35 := by rw [rst_at s p 0 (by omega)]; exact hr
  have e : gapGo (rst s p) (rst s p).size 0 = if (remV (rst s p)).2 = true then gapGo (rst s p) f ((remV (rst s p)).1) else ((remV (rst s p)).1, false) := by
    rw [hz, hf]
    conv => lhs; unfold gapGo
    have hx : (rst s p).extract 0 (rst s p).size = rst s p := ByteArray.extract_zero_size
    rw [if_pos (by omega), h0, if_neg (by decide), if_pos rfl, hx, Nat.zero_add]
  by_cases ho : (remV (rst s p)).2 = true
  · have hp := remV_pos2 (rst s p) (by omega) (by rw [h0]; decide) ho
    rw [if_pos ho] at e ⊢
    rw [← gapA_from s p _ f (by omega) (by omega)]
    show (p + (gapGo (rst s p) (rst s p).size 0).1, (gapGo (rst s p) (rst s p).size 0).2) = _
    rw [e]
  · rw [if_neg ho] at e ⊢
    show (p + (gapGo (rst s p) (rst s p).size 0).1, (gapGo (rst s p) (rst s p).size 0).2) = _
    rw [e]
def lnEnd (s : ByteArray) (p : Nat) : Nat := p + nlAt (rst s p)
def remA (s : ByteArray) (p : Nat) : Nat × Bool := match badOf (s.extract p (lnEnd s p)) with
  | none => gapA s (lnEnd s p)
  | some x => (p + x + begLen ((s.extract p (lnEnd s p)).extract x (s.extract p (lnEnd s p)).size), false)
theorem lnEnd_le (s : ByteArray) (p : Nat) (h : p ≤ s.size) : p ≤ lnEnd s p ∧ lnEnd s p ≤ s.size := by
  have := nlAt_le (rst s p)
  rw [rst_size] at this
  unfold lnEnd
  omega
theorem scanTo_shift (q : Nat → Bool) (hi a : Nat) : ∀ k n, hi ≤ n + k → scanTo q (a + hi) (a + n) = a + scanTo (fun j => q (a + j)) hi n
  | 0, n, h => by rw [scanTo_end (by omega), scanTo_end (by omega)]
  | k + 1, n, h => by
    by_cases hn : n < hi
    · cases hp : q (a + n) with
      | true => rw [scanTo_go (by omega) hp, scanTo_go (p := fun j => q (a + j)) hn hp]; exact scanTo_shift q hi a k (n + 1) (by omega)
      | false => rw [scanTo_no hp, scanTo_no (p := fun j => q (a + j)) hp]
    · rw [scanTo_end (by omega), scanTo_end hn]
theorem lnEnd_eq (s : ByteArray) (p : Nat) (h : p ≤ s.size) : lnEnd s p = scanTo (fun n => !decide (bt s n = 10)) s.size p := by
  unfold lnEnd nlAt
  rw [rst_size]
  have := scanTo_shift (fun n => !decide (bt s n = 10)) (s.size - p) p (s.size - p) 0 (by omega)
  rw [Nat.add_zero, show p + (s.size - p) = s.size by omega] at this
  have hf : (fun n => !decide (bt (rst s p) n = 10)) = (fun j => !decide (bt s (p + j) = 10)) := by funext j; rw [rst_at s p j h]
  rw [this, hf]
theorem scanTo_stop (q : Nat → Bool) (hi : Nat) : ∀ k n, hi ≤ n + k → scanTo q hi n < hi → q (scanTo q hi n) = false
  | 0, n, h, hl => by rw [scanTo_end (by omega)] at hl; omega
  | k + 1, n, h, hl => by
    by_cases hn : n < hi
    · cases hp : q n with
      | true => rw [scanTo_go hn hp] at hl ⊢; exact scanTo_stop q hi k (n + 1) (by omega) hl
      | false => rw [scanTo_no hp]; exact hp
    · rw [scanTo_end hn] at hl; omega
theorem lnEnd_on (s : ByteArray) (p d : Nat) (h : p + d ≤ s.size) (hn : ∀ j, p ≤ j → j < p + d → bt s j ≠ 10) : lnEnd s p = lnEnd s (p + d) := by
  rw [lnEnd_eq s p (by omega), lnEnd_eq s (p + d) h]
  exact scanTo_all (p := fun n => !decide (bt s n = 10)) d p rfl h (fun j h1 h2 => by simp [hn j h1 h2])
theorem remA_end (s : ByteArray) (p : Nat) (h : p = s.size) : remA s p = (p, true) := by
  subst h
  have e := lnEnd_le s s.size (Nat.le_refl _)
  have e1 : lnEnd s s.size = s.size := by omega
  unfold remA
  have e2 : s.extract s.size (lnEnd s s.size) = ByteArray.empty := toList_nil _ (by rw [ByteArray.size_extract]; omega)
  rw [e2, e1]
  exact gapA_end s s.size (Nat.le_refl _) (Nat.le_refl _)
theorem remA_nl (s : ByteArray) (p : Nat) (h : p < s.size) (hb : bt s p = 10) : remA s p = gapA s (p + 1) := by
  have e1 : lnEnd s p = p := by rw [lnEnd_eq s p (by omega)]; exact scanTo_no (by simp [hb])
  unfold remA
  have e2 : s.extract p (lnEnd s p) = ByteArray.empty := toList_nil _ (by rw [ByteArray.size_extract]; omega)
  rw [e2, e1]
  exact gapA_blank s p h (by rw [hb]; decide)
theorem find_map {α β : Type} (f : α → β) (q : β → Bool) : ∀ l : List α, (l.map f).find? q = (l.find? (fun a => q (f a))).map f
  | [] => rfl
  | a :: l => by
    rw [List.map_cons]
    by_cases h : q (f a) = true
    · rw [List.find?_cons_of_pos h, List.find?_cons_of_pos (p := fun a => q (f a)) h]; rfl
    · rw [List.find?_cons_of_neg h, List.find?_cons_of_neg (p := fun a => q (f a)) h]; exact find_map f q l
theorem badOf_behind (v u : ByteArray) (hb : bdB (v ++ u) v.size = true) (hv : ∀ i ∈ starts v, badB v i = false) : badOf (v ++ u) = (badOf u).map (v.size + ·) := by
  obtain ⟨e, hd⟩ := starts_both v u hb
  unfold badOf
  rw [e, List.find?_append]
  have h1 : (starts v).find? (badB (v ++ u)) = none := by
    rw [List.find?_eq_none]
    intro i hi
    have e2 : badB (v ++ u) i = badB v i := by unfold badB; simp only [rn, wd, hd i hi]
    rw [e2, hv i hi]
    decide
  rw [h1, Option.none_or, find_map]
  congr 2
  funext j
  unfold badB
  simp only [rn, wd, decode_behind]
theorem remA_behind (s : ByteArray) (p d : Nat) (hd : p + d ≤ s.size) (hn : ∀ j, p ≤ j → j < p + d → bt s j ≠ 10) (hv : ∀ i ∈ starts (s.extract p (p + d)), badB (s.extract p (p + d)) i = false) : remA s p = remA s (p + d) := by
  have e0 := lnEnd_on s p d hd hn
  have hl := lnEnd_le s (p + d) hd
  have hcat : s.extract p (p + d) ++ s.extract (p + d) (lnEnd s (p + d)) = s.extract p (lnEnd s (p + d)) := by
    rw [ByteArray.extract_append_extract]
    congr 1 <;> omega
  have hz : (s.extract p (p + d)).size = d := by rw [ByteArray.size_extract]; omega
  have hj := joins_valid_left (s.extract p (p + d)) (s.extract (p + d) (lnEnd s (p + d))) hv
  rw [joins_bd] at hj
  have hbo := badOf_behind _ _ hj hv
  rw [hcat, hz] at hbo
  unfold remA
  rw [e0, hbo]
  cases hq : badOf (s.extract (p + d) (lnEnd s (p + d))) with
  | none => rfl
  | some x =>
    show (p + (d + x) + begLen _, false) = (p + d + x + begLen _, false)
    have e1 : (s.extract p (lnEnd s (p + d))).extract (d + x) (s.extract p (lnEnd s (p + d))).size = (s.extract (p + d) (lnEnd s (p + d))).extract x (s.extract (p + d) (lnEnd s (p + d))).size := by
      rw [ByteArray.size_extract, ByteArray.size_extract, ByteArray.extract_extract, ByteArray.extract_extract]
      congr 1 <;> omega
    rw [e1, Nat.add_assoc p d x]
theorem remA_spot (s : ByteArray) (p : Nat) (h : p < s.size) (hb : bt s p ≠ 10) (hg : badB s p = false) : remA s p = remA s (p + wd s p) := by
  have hr := wd_room s p h
  have hz : (s.extract p (p + wd s p)).size = wd s p := by rw [ByteArray.size_extract]; have := wd_pos s p; omega
  refine remA_behind s p (wd s p) hr (fun j h1 h2 => ?_) ?_
  · by_cases e : j = p
    · rw [e]; exact hb
    · have := wd_cont s p (j - p) (by omega) (by omega)
      rw [show p + (j - p) = j by omega] at this
      omega
  · have hcat : s.extract p (p + wd s p) ++ s.extract (p + wd s p) s.size = rst s p := by
      rw [ByteArray.extract_append_extract]
      congr 1 <;> omega
    have hd : Utf8.decode (rst s p) 0 = Utf8.decode s p := decode_suffix s p 0 (by omega)
    have hp := wd_pos s p
    have e := decode_part (s.extract p (p + wd s p)) (s.extract (p + wd s p) s.size) 0 (by omega) (by rw [hcat, hz]; unfold wd; rw [hd]; omega)
    rw [hcat, hd] at e
    have hs : starts (s.extract p (p + wd s p)) = [0] := by
      unfold starts
      obtain ⟨m, hm⟩ : ∃ m, (s.extract p (p + wd s p)).size = m + 1 := ⟨wd s p - 1, by omega⟩
      rw [hm, startsFrom_cons _ m 0 (by omega), startsFrom_end _ _ _ (by show ¬ 0 + (Utf8.decode _ 0).2 < _; rw [e]; show ¬ 0 + wd s p < _; omega)]
    intro i hi
    rw [hs] at hi
    obtain rfl : i = 0 := by simpa using hi
    unfold badB rn wd at hg ⊢
    rw [e]
    exact hg
theorem badB_ascii' (s : ByteArray) (i : Nat) (h : bt s i < 128) : badB s i = false := by
  have t := at_told s i
  unfold badB
  refine decide_eq_false ?_
  rintro ⟨a, b⟩
  rcases t.one b with q | q
  · omega
  · simp only [rn] at a; omega
theorem gapA_rem (s : ByteArray) (p : Nat) (h : p < s.size) (hr : bt s p = 35) : gapA s p = remA s (p + 1) := by
  have hb : badB s p = false := badB_ascii' s p (by omega)
  have hw : wd s p = 1 := by
    rcases Nat.lt_or_ge (wd s p) 2 with q | q
    · have := wd_pos s p; omega
    · have := wd_lead s p q; omega
  rw [← hw, ← remA_spot s p h (by omega) hb, gapA_sharp s p h hr]
  have hl := lnEnd_le s p (by omega)
  have e1 : (rst s p).extract 0 (nlAt (rst s p)) = s.extract p (lnEnd s p) := by
    unfold lnEnd rst
    rw [ByteArray.extract_extract, Nat.add_zero]
    congr 1
    have := nlAt_le (rst s p)
    rw [rst_size] at this
    unfold rst at this
    omega
  have hz : (s.extract p (lnEnd s p)).size = lnEnd s p - p := by rw [ByteArray.size_extract]; omega
  have e2 : remV (rst s p) = match badOf (s.extract p (lnEnd s p)) with
    | none => (lnEnd s p - p, true)
    | some x => (x + begLen ((s.extract p (lnEnd s p)).extract x (s.extract p (lnEnd s p)).size), false) := by
    unfold remV
    rw [e1]
    cases badOf (s.extract p (lnEnd s p)) with
    | none => show (_, true) = (_, true); rw [hz]
    | some x => rfl
  unfold remA
  cases hq : badOf (s.extract p (lnEnd s p)) with
  | none =>
    rw [hq] at e2
    rw [e2]
    show (if true = true then gapA s (p + (lnEnd s p - p)) else _) = _
    rw [if_pos rfl, show p + (lnEnd s p - p) = lnEnd s p by omega]
  | some x =>
    rw [hq] at e2
    rw [e2]
    show (if false = true then _ else (p + (x + begLen _), false)) = (p + x + begLen _, false)
    rw [if_neg (by decide), Nat.add_assoc]
theorem first_bad (t : ByteArray) (h : 0 < t.size) (hs : (secOf (bt t 0)).1 ≠ 0) (hb : badB t 0 = true) : ∃ k, 1 ≤ k ∧ k < szOf (bt t 0) ∧ (∀ j, 1 ≤ j → j < k → good4 t j = true) ∧ good4 t k = false := by
  have hne : ¬ ∀ j, 1 ≤ j → j < szOf (bt t 0) → good4 t j = true := fun q => by
    have e := seq4_good h hs q
    unfold seq4V at e
    rw [if_neg (by omega), if_pos hb] at e
    exact absurd (congrArg (fun x => x.2.2) e) (by simp)
  have hsz := szOf_cases (bt t 0)
  cases g1 : good4 t 1 with
  | false => exact ⟨1, by omega, by omega, fun j a b => by omega, g1⟩
  | true =>
    by_cases h3 : szOf (bt t 0) = 2
    · exact absurd (fun j a b => by obtain rfl : j = 1 := by omega
                                    exact g1) hne
    · cases g2 : good4 t 2 with
      | false => exact ⟨2, by omega, by omega, fun j a b => by obtain rfl : j = 1 := by omega
                                                               exact g1, g2⟩
      | true =>
        by_cases h4 : szOf (bt t 0) = 3
        · refine absurd (fun j a b => ?_) hne
          have : j = 1 ∨ j = 2 := by omega
          rcases this with rfl | rfl
          · exact g1
          · exact g2
        · cases g3 : good4 t 3 with
          | false =>
            refine ⟨3, by omega, by omega, fun j a b => ?_, g3⟩
            have : j = 1 ∨ j = 2 := by omega
            rcases this with rfl | rfl
            · exact g1
            · exact g2
          | true =>
            refine absurd (fun j a b => ?_) hne
            have : j = 1 ∨ j = 2 ∨ j = 3 := by omega
            rcases this with rfl | rfl | rfl
            · exact g1
            · exact g2
            · exact g3
theorem begLen_line (t : ByteArray) (m : Nat) (h1 : 1 ≤ m) (hm : m ≤ t.size) (he : m = t.size ∨ bt t m = 10) (hb : badB t 0 = true) : begLen (t.extract 0 m) = begLen t := by
  have hz : (t.extract 0 m).size = m := by rw [ByteArray.size_extract]; omega
  have h0 : bt (t.extract 0 m) 0 = bt t 0 := bt_pre t m 0 (by omega) hm
  by_cases hs : (secOf (bt t 0)).1 = 0
  · rw [begLen_none t (by omega) hs, begLen_none _ (by omega) (by rw [h0]; exact hs)]
  · obtain ⟨k, k1, k2, k3, k4⟩ := first_bad t (by omega) hs hb
    have hq := secOf_lo _ hs
    have hkm : k ≤ m := by
      rcases Nat.lt_or_ge m k with q | q
      · have g := good4_iff.1 (k3 m h1 q)
        rcases he with e | e
        · omega
        · rw [e] at g
          split at g <;> omega
      · exact q
    rw [begLen_some t hs k k1 k2 k3 k4 (by omega)]
    refine begLen_some _ (by rw [h0]; exact hs) k k1 (by rw [h0]; exact k2) (fun j a b => ?_) ?_ (by omega)
    · have g := good4_iff.1 (k3 j a b)
      refine good4_iff.2 ⟨by omega, ?_⟩
      rw [h0, bt_pre t m j (by omega) hm]
      exact g.2
    · rw [Bool.eq_false_iff]
      intro g
      have g := good4_iff.1 g
      rw [h0, bt_pre t m k (by omega) hm] at g
      rw [good4_iff.2 ⟨by omega, g.2⟩] at k4
      cases k4
theorem bad_line (s : ByteArray) (p L : Nat) (hln : p < L) (hl : L ≤ s.size) (hend : L = s.size ∨ bt s L = 10) (hb : badB s p = true) : badOf (s.extract p L) = some 0 ∧ begLen (s.extract p L) = begLen (rst s p) := by
  have hz : (s.extract p L).size = L - p := by rw [ByteArray.size_extract]; omega
  have e1 : (rst s p).extract 0 (L - p) = s.extract p L := by
    unfold rst
    rw [ByteArray.extract_extract, Nat.add_zero, show min (p + (L - p)) s.size = L by omega]
  have hd : Utf8.decode (rst s p) 0 = Utf8.decode s p := decode_suffix s p 0 (by omega)
  have hbt : badB (rst s p) 0 = true := by unfold badB rn wd at hb ⊢; rw [hd]; exact hb
  have hbu : badB (s.extract p L) 0 = true := by
    cases q : badB (s.extract p L) 0 with
    | true => rfl
    | false =>
      have hg : ¬ (rn (s.extract p L) 0 = 65533 ∧ wd (s.extract p L) 0 = 1) := by simpa [badB] using q
      have hcat : s.extract p L ++ s.extract L s.size = rst s p := by rw [ByteArray.extract_append_extract, Nat.min_eq_left (by omega), Nat.max_eq_right hl]
      have := decode_grow (s.extract p L) (s.extract L s.size) 0 (by omega) hg
      rw [hcat] at this
      have e : badB (rst s p) 0 = badB (s.extract p L) 0 := by unfold badB; simp only [rn, wd, this]
      rw [e, q] at hbt
      exact hbt
  refine ⟨?_, ?_⟩
  · unfold badOf
    obtain ⟨r, hr⟩ := starts_head (s.extract p L) (by omega)
    rw [hr, List.find?_cons_of_pos hbu]
  · have := begLen_line (rst s p) (L - p) (by omega) (by rw [rst_size]; omega) (by
      rcases hend with e | e
      · left; rw [rst_size, e]
      · right; rw [rst_at s p _ (by omega), show p + (L - p) = L by omega]; exact e) hbt
    rwa [e1] at this
theorem remA_bad (s : ByteArray) (p : Nat) (h : p < s.size) (hb : badB s p = true) : remA s p = (p + begLen (rst s p), false) := by
  have hb10 : bt s p ≠ 10 := fun e => by rw [badB_ascii' s p (by omega)] at hb; cases hb
  have hln : p < lnEnd s p := by
    have := nlAt_pos (rst s p) (by rw [rst_size]; omega) (by rw [rst_at s p 0 (by omega)]; exact hb10)
    unfold lnEnd
    omega
  have hl := lnEnd_le s p (by omega)
  have hend : lnEnd s p = s.size ∨ bt s (lnEnd s p) = 10 := by
    by_cases q : lnEnd s p < s.size
    · right
      have := scanTo_stop (fun n => !decide (bt s n = 10)) s.size (s.size - p) p (by omega)
      rw [← lnEnd_eq s p (by omega)] at this
      simpa using this q
    · left; omega
  unfold remA
  generalize lnEnd s p = L at *
  obtain ⟨e1, e2⟩ := bad_line s p L hln hl.2 hend hb
  rw [e1]
  show (p + 0 + begLen ((s.extract p L).extract 0 (s.extract p L).size), false) = _
  rw [ByteArray.extract_zero_size, e2, Nat.add_zero]
theorem rn_39 (s : ByteArray) (i : Nat) : rn s i = 39 ↔ bt s i = 39 := by
  have t := at_told s i
  constructor
  · intro h
    have hg : ¬ (rn s i = 65533 ∧ wd s i = 1) := by omega
    rcases t.width hg with h1 | h1 | h1 | h1
    · rcases t.one h1.1 with h2 | h2 <;> (simp only [rn] at h; omega)
    all_goals (simp only [rn] at h; omega)
  · intro h
    rcases Nat.lt_or_ge (wd s i) 2 with h1 | h1
    · have : wd s i = 1 := by have := wd_pos s i; omega
      rcases t.one this with h2 | h2 <;> (simp only [rn]; omega)
    · have := wd_lead s i h1; omega
theorem quo_cases (s : ByteArray) (a : Nat) (h : a < s.size) : (∃ n, seq4V (rst s (a + 1)) = (0, n, false) ∧ quoV (rst s a) = (0, 1 + n, false)) ∨
    (∃ r n, seq4V (rst s (a + 1)) = (r, n, true) ∧ 1 ≤ n ∧ a + 1 + n ≤ s.size ∧ r ≤ 1114111 ∧ quoV (rst s a) = if r < 32 ∨ r = 39 ∨ r = 127 then (0, 1, false) else if a + 1 + n < s.size ∧ bt s (a + 1 + n) = 39 then (r, n + 2, true) else (0, 1 + n, false)) := by
  have ht : tl1 (rst s a) = rst s (a + 1) := rst_rst s a 1 (by omega)
  have hz := rst_size s a
  have hz1 := rst_size s (a + 1)
  obtain ⟨u, hu⟩ : ∃ u, u = rst s (a + 1) := ⟨_, rfl⟩
  have hq : quoV (rst s a) = if u.size = 0 then (0, (rst s a).size, false) else if rn u 0 < 32 ∨ rn u 0 = 39 ∨ rn u 0 = 127 then (0, 1, false) else if wholeB u = false then (0, 1 + begLen u, false) else if ¬ wd u 0 < u.size then (0, (rst s a).size, false) else if rn u (wd u 0) = 39 then (rn u 0, wd u 0 + 2, true) else (0, 1 + wd u 0, false) := by unfold quoV; rw [ht, hu]
  rw [← hu] at hz1 ⊢
  by_cases h0 : u.size = 0
  · left
    refine ⟨0, by unfold seq4V; rw [if_pos h0], ?_⟩
    rw [hq, if_pos h0, show (rst s a).size = 1 + 0 by omega]
  · rw [if_neg h0] at hq
    cases hb : badB u 0 with
    | true =>
      left
      have hr := of_decide_eq_true hb
      refine ⟨begLen u, by unfold seq4V; rw [if_neg h0, hb, if_pos rfl], ?_⟩
      rw [hq, if_neg (by omega), if_pos (by unfold wholeB; rw [hb]; simp)]
    | false =>
      right
      have hr := wd_room u 0 (by omega)
      have hp := wd_pos u 0
      have hs := (at_told u 0).small
      refine ⟨rn u 0, wd u 0, by unfold seq4V; rw [if_neg h0, hb, if_neg (by decide)], hp, by omega, hs, ?_⟩
      rw [hq]
      by_cases hl : rn u 0 < 32 ∨ rn u 0 = 39 ∨ rn u 0 = 127
      · rw [if_pos hl, if_pos hl]
      · rw [if_neg hl, if_neg hl, if_neg (by unfold wholeB; rw [hb, decide_eq_true (by omega)]; decide)]
        have hbt : bt u (wd u 0) = bt s (a + 1 + wd u 0) := by rw [hu]; exact rst_at s (a + 1) _ (by omega)
        by_cases hw : wd u 0 < u.size
        · rw [if_neg (fun q => q hw)]
          by_cases h39 : rn u (wd u 0) = 39
          · rw [if_pos h39, if_pos ⟨by omega, by rw [← hbt]; exact (rn_39 u _).1 h39⟩]
          · rw [if_neg h39, if_neg (fun q => h39 ((rn_39 u _).2 (by rw [hbt]; exact q.2)))]
        · rw [if_pos hw, if_neg (by omega), show (rst s a).size = 1 + wd u 0 by omega]
end Go.Proofs.YtgchlilpjkndlaaGreatDoor
