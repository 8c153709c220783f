/- Texts of this claim, one behind the other. -/
import Derived.Test.YtbefahknbdjnpaaGreatDoorM12
import Derived.Test.YtbefahknbdjnpaaGreatDoorM23
/- Lines and columns by runes: plain mathematics. -/
namespace Go.Proofs.YtbefahknbdjnpaaGreatDoor
open Go.RowKit Go.Shelf
set_option linter.unusedVariables false
/-- Line and column behind some runes. -/
def lcR (x : Nat × Nat) (zs : List Int) : Nat × Nat := zs.foldl (fun x z => if z = 10 then (x.1 + 1, 1) else (x.1, x.2 + 1)) x
theorem lcR_app (x : Nat × Nat) (a b : List Int) : lcR x (a ++ b) = lcR (lcR x a) b := by simp [lcR]
theorem lcR_cons (x : Nat × Nat) (z : Int) (b : List Int) : lcR x (z :: b) = lcR (if z = 10 then (x.1 + 1, 1) else (x.1, x.2 + 1)) b := rfl
theorem lcR_nil (x : Nat × Nat) : lcR x [] = x := rfl
theorem lcF_runes (t : ByteArray) : ∀ (ps : List Nat) (x : Nat × Nat), lcF t x ps = lcR x (ps.map (fun i => ((rn t i : Nat) : Int)))
  | [], x => rfl
  | p :: ps, x => by
    show lcF t (lcStep t x p) ps = _
    rw [lcF_runes t ps, List.map_cons, lcR_cons]
    unfold lcStep
    by_cases h : rn t p = 10
    · rw [if_pos h, if_pos (by omega)]
    · rw [if_neg h, if_neg (by omega)]
theorem lcF_all (t : ByteArray) (x : Nat × Nat) : lcF t x (starts t) = lcR x (runesL t) := lcF_runes t _ x
theorem lcR_line : ∀ (zs : List Int) (x : Nat × Nat), (lcR x zs).1 = x.1 + zs.count 10
  | [], x => rfl
  | z :: zs, x => by
    rw [lcR_cons, lcR_line zs]
    by_cases h : z = 10
    · rw [if_pos h, h, List.count_cons_self]; show x.1 + 1 + _ = _; omega
    · rw [if_neg h, List.count_cons_of_ne h]
theorem lcR_none : ∀ (zs : List Int) (x : Nat × Nat), (10 : Int) ∉ zs → lcR x zs = (x.1, x.2 + zs.length)
  | [], x, _ => rfl
  | z :: zs, x, h => by
    rw [List.mem_cons, not_or] at h
    rw [lcR_cons, if_neg (fun e => h.1 e.symm), lcR_none zs _ h.2, List.length_cons, Prod.mk.injEq]
    exact ⟨rfl, by show x.2 + 1 + _ = _; omega⟩
/-- What a spot's rune says of its bytes. -/
theorem rn_ten (s : ByteArray) (i : Nat) : rn s i = 10 ↔ bt s i = 10 := by
  have t := at_told s i
  constructor
  · intro h
    have hg : ¬ (rn s i = 65533 ∧ wd s i = 1) := by omega
    rcases t.width hg with h1 | h1 | h1 | h1
    · rcases t.one h1.1 with h2 | h2 <;> (simp only [rn] at h; omega)
    all_goals (simp only [rn] at h; omega)
  · intro h
    rcases Nat.lt_or_ge (wd s i) 2 with h1 | h1
    · have : wd s i = 1 := by have := wd_pos s i; omega
      rcases t.one this with h2 | h2 <;> (simp only [rn]; omega)
    · have := wd_lead s i h1; omega
theorem drop_bt (s : ByteArray) (i : Nat) (h : i < s.size) : s.data.toList.drop i = s.get! i :: s.data.toList.drop (i + 1) := by
  rw [← List.getElem_cons_drop (h := by rw [Array.length_toList]; exact h)]
  congr 1
  rw [get_lt s i h]
  simp
theorem count_step (s : ByteArray) (i : Nat) (h : i < s.size) (hn : bt s i ≠ 10) : (s.data.toList.drop i).count 10 = (s.data.toList.drop (i + 1)).count 10 := by
  rw [drop_bt s i h, List.count_cons_of_ne (fun e => hn (by unfold bt; rw [e]; rfl))]
theorem count_cont (s : ByteArray) (i : Nat) : ∀ k, (∀ j, i ≤ j → j < i + k → j < s.size ∧ bt s j ≠ 10) → (s.data.toList.drop i).count 10 = (s.data.toList.drop (i + k)).count 10
  | 0, _ => rfl
  | k + 1, h => by
    rw [count_cont s i k (fun j h1 h2 => h j h1 (by omega)), count_step s (i + k) (h _ (by omega) (by omega)).1 (h _ (by omega) (by omega)).2]
    rfl
theorem count_from (s : ByteArray) : ∀ f i, s.size ≤ i + f → (s.data.toList.drop i).count 10 = ((startsFrom s f i).map (fun i => ((rn s i : Nat) : Int))).count 10
  | 0, i, h => by
    rw [List.drop_eq_nil_of_le (by rw [Array.length_toList]; show s.size ≤ i; omega)]
    rfl
  | f + 1, i, h => by
    by_cases hi : i < s.size
    · have hp := wd_pos s i
      have hr := wd_room s i hi
      rw [startsFrom_cons s f i hi, List.map_cons]
      by_cases ht : bt s i = 10
      · have h1 : wd s i = 1 := by
          rcases Nat.lt_or_ge (wd s i) 2 with h1 | h1
          · omega
          · have := wd_lead s i h1; omega
        have e : s.get! i = 10 := by rw [← UInt8.toNat_inj]; exact ht
        rw [drop_bt s i hi, e, (rn_ten s i).2 ht, h1, List.count_cons_self, count_from s f (i + 1) (by omega)]
        exact (List.count_cons_self ..).symm
      · have hz : (10 : Int) ≠ ((rn s i : Nat) : Int) := fun e => ht ((rn_ten s i).1 (by omega))
        rw [List.count_cons_of_ne (Ne.symm hz), ← count_from s f (i + wd s i) (by omega)]
        refine count_cont s i (wd s i) (fun j h1 h2 => ⟨by omega, ?_⟩)
        by_cases hj : j = i
        · rw [hj]; exact ht
        · have := wd_cont s i (j - i) (by omega) (by omega)
          rw [show i + (j - i) = j by omega] at this
          omega
    · rw [startsFrom_end s _ _ hi, List.drop_eq_nil_of_le (by rw [Array.length_toList]; show s.size ≤ i; omega)]
      rfl
theorem count_runes (s : ByteArray) : Lib.countByte s.data.toList 10 = (runesL s).count 10 := by
  have := count_from s s.size 0 (by omega)
  rw [List.drop_zero] at this
  exact this
theorem cat_split (t : ByteArray) (p : Nat) (h : p ≤ t.size) : t.extract 0 p ++ t.extract p t.size = t := by
  rw [ByteArray.extract_append_extract, Nat.zero_min, Nat.max_eq_right h, ByteArray.extract_zero_size]
theorem runesL_split (t : ByteArray) (p : Nat) (h : p ≤ t.size) (hb : bdB t p = true) : runesL t = runesL (t.extract 0 p) ++ runesL (t.extract p t.size) := by
  have hz : (t.extract 0 p).size = p := by rw [ByteArray.size_extract]; omega
  have := runesL_both (t.extract 0 p) (t.extract p t.size) (by rw [cat_split t p h, hz]; exact hb)
  rwa [cat_split t p h] at this
theorem ext_pre (s : ByteArray) (b a : Nat) (h : a ≤ b) : (s.extract 0 b).extract 0 a = s.extract 0 a := by rw [ByteArray.extract_extract, Nat.zero_add, Nat.zero_add, Nat.min_eq_left h]
theorem ext_mid (s : ByteArray) (b a : Nat) : (s.extract 0 b).extract a b = s.extract a b := by rw [ByteArray.extract_extract, Nat.zero_add, Nat.zero_add, Nat.min_self]
theorem no_ten (t : ByteArray) (h : ∀ j, j < t.size → bt t j ≠ 10) : (10 : Int) ∉ runesL t := by
  intro hm
  unfold runesL at hm
  obtain ⟨p, hp, e⟩ := List.mem_map.1 hm
  have h1 := (startsFrom_ge t t.size 0 p hp).2
  exact h p h1 ((rn_ten t p).1 (by omega))
theorem lastNl_spec (t : ByteArray) : (lastL t = 0 ∧ ∀ j, j < t.size → bt t j ≠ 10) ∨ (1 ≤ lastL t ∧ lastL t ≤ t.size ∧ bt t (lastL t - 1) = 10 ∧ ∀ j, lastL t ≤ j → j < t.size → bt t j ≠ 10) := by
  have hget : ∀ j, ((t.data[j]!).toNat : Int) = (bt t j : Int) := fun j => rfl
  unfold lastL
  rcases Lib.lastIndexByte_spec t 10 with ⟨h, h2⟩ | ⟨i, hi, h, h2, h3⟩
  · rw [h]; exact .inl ⟨rfl, fun j hj e => h2 j hj (by rw [hget, e]; rfl)⟩
  · rw [h]
    rw [hget] at h2
    refine .inr ⟨by omega, by omega, ?_, fun j h4 hj e => h3 j (by omega) hj (by rw [hget, e]; rfl)⟩
    rw [show ((i : Int) + 1).toNat - 1 = i by omega]
    omega
theorem runes_one_ten : runesL ⟨#[10]⟩ = [10] := by decide
/-- Line and column of a text's end, counted as the program counts them. -/
theorem lc_text (t : ByteArray) : (1 + Lib.countByte t.data.toList 10, 1 + (starts (t.extract (lastL t) t.size)).length) = lcR (1, 1) (runesL t) := by
  rw [count_runes]
  rcases lastNl_spec t with ⟨h0, hn⟩ | ⟨h1, h2, h3, h4⟩
  · have hno := no_ten t hn
    rw [h0, ByteArray.extract_zero_size, lcR_none _ _ hno, List.count_eq_zero_of_not_mem hno, runesL_length]
  · have hb : bdB t (lastL t) = true := by
      have hb0 : bdB t (lastL t - 1) = true := bd_lead t _ (by omega)
      have hw : wd t (lastL t - 1) = 1 := by
        rcases Nat.lt_or_ge (wd t (lastL t - 1)) 2 with q | q
        · have := wd_pos t (lastL t - 1); omega
        · have := wd_lead t _ q; omega
      have := bd_step t (lastL t - 1) hb0 (by omega)
      rwa [hw, show lastL t - 1 + 1 = lastL t by omega] at this
    have hno : (10 : Int) ∉ runesL (t.extract (lastL t) t.size) := no_ten _ (fun j hj => by
      rw [ByteArray.size_extract] at hj
      unfold bt
      rw [get_suffix t (lastL t) j h2]
      exact h4 (lastL t + j) (by omega) (by omega))
    have e1 := runesL_split t (lastL t) h2 hb
    -- the first part ends with the byte 10
    have hb0 : bdB t (lastL t - 1) = true := bd_lead t _ (by omega)
    have e2 : runesL (t.extract 0 (lastL t)) = runesL (t.extract 0 (lastL t - 1)) ++ [10] := by
      have hz : (t.extract 0 (lastL t)).size = lastL t := by rw [ByteArray.size_extract]; omega
      have hbt : bt (t.extract 0 (lastL t)) (lastL t - 1) = 10 := by
        unfold bt
        rw [get_extract t 0 (lastL t) (lastL t - 1) (by omega) h2, Nat.zero_add]
        exact h3
      have := runesL_split (t.extract 0 (lastL t)) (lastL t - 1) (by omega) (bd_lead _ _ (by rw [hbt]; decide))
      rw [this, ext_pre t _ _ (by omega)]
      have e3 : (t.extract 0 (lastL t)).extract (lastL t - 1) (t.extract 0 (lastL t)).size = ⟨#[10]⟩ := by
        refine ext_get _ _ ?_ ?_
        · rw [ByteArray.size_extract, hz]; show _ = 1; omega
        · intro j hj
          rw [ByteArray.size_extract, hz] at hj
          unfold bt
          rw [get_suffix _ _ _ (by omega)]
          obtain rfl : j = 0 := by omega
          exact hbt
      rw [e3, runes_one_ten]
    rw [e1, List.count_append, List.count_eq_zero_of_not_mem hno, lcR_app, lcR_none _ _ hno, e2, lcR_app]
    generalize runesL (t.extract 0 (lastL t - 1)) = A
    rw [runesL_length, Prod.mk.injEq]
    refine ⟨?_, rfl⟩
    show 1 + _ = (lcR (1, 1) A).1 + 1
    rw [lcR_line, List.count_append]
    show 1 + (_ + 1 + 0) = _
    omega
/-- Line and column of a place. -/
theorem whL_runes (s : ByteArray) (k : Nat) : whL s k = lcR (1, 1) (runesL (s.extract 0 (cutAt s k))) := lc_text (aheadV s k)
/-- From a bound on. -/
theorem lcR_on (s : ByteArray) (a b : Nat) (x : Nat × Nat) (hab : a ≤ b) (hb : b ≤ s.size) (ha : bdB (s.extract 0 b) a = true) : lcR x (runesL (s.extract 0 b)) = lcR (lcR x (runesL (s.extract 0 a))) (runesL (s.extract a b)) := by
  have hz : (s.extract 0 b).size = b := by rw [ByteArray.size_extract]; omega
  rw [runesL_split (s.extract 0 b) a (by omega) ha, lcR_app, ext_pre s b a hab, hz, ext_mid s b a]
end Go.Proofs.YtbefahknbdjnpaaGreatDoor
/- A sequence's first wrong byte: plain mathematics. -/
namespace Go.Proofs.YtbefahknbdjnpaaGreatDoor
open Go.RowKit Go.Shelf
open Go.Lib (decode_at)
set_option linter.unusedVariables false
/-- Does the byte number k go on what the first one begins? -/
def good4 (t : ByteArray) (k : Nat) : Bool := decide (k < t.size ∧ (if k = 1 then (secOf (bt t 0)).1 else 128) ≤ bt t k ∧ bt t k ≤ (if k = 1 then (secOf (bt t 0)).2 else 191))
theorem good4_iff {t : ByteArray} {k : Nat} : good4 t k = true ↔ k < t.size ∧ (if k = 1 then (secOf (bt t 0)).1 else 128) ≤ bt t k ∧ bt t k ≤ (if k = 1 then (secOf (bt t 0)).2 else 191) := by simp [good4]
/-- What the reference reads at a text's beginning: the rune, the bytes; or how many bytes stand ahead of the first wrong one. -/
def seq4V (t : ByteArray) : Nat × Nat × Bool := if t.size = 0 then (0, 0, false) else if badB t 0 = true then (0, begLen t, false) else (rn t 0, wd t 0, true)
theorem secOf_lo (c : Nat) (hs : (secOf c).1 ≠ 0) : 128 ≤ (secOf c).1 ∧ (secOf c).2 ≤ 191 ∧ (secOf c).1 ≤ (secOf c).2 ∧ 194 ≤ c ∧ c < 245 ∧ (((secOf c).1 ≤ 128 ∧ 128 ≤ (secOf c).2) ∨ ((secOf c).1 ≤ 160 ∧ 160 ≤ (secOf c).2)) := by
  rcases secOf_cases _ hs with ⟨a, b, e⟩ | ⟨a, e⟩ | ⟨a, e⟩ | ⟨a, e⟩ | ⟨a, e⟩ | ⟨a, b, e⟩ | ⟨a, e⟩ <;> rw [e] <;> simp only [] <;> omega
theorem wdN (n b0 b1 b2 b3 : Nat) (hn : 4 ≤ n) (h1 : b1 < 256) (h2 : b2 < 256) (h3 : b3 < 256) (hs : (secOf b0).1 ≠ 0) : (Lib.decodeN n b0 b1 b2 b3).2 = if (secOf b0).1 ≤ b1 ∧ b1 ≤ (secOf b0).2 ∧ (3 ≤ szOf b0 → 128 ≤ b2 ∧ b2 ≤ 191) ∧ (4 ≤ szOf b0 → 128 ≤ b3 ∧ b3 ≤ 191) then szOf b0 else 1 := by
  rw [decodeN_slow n b0 b1 b2 b3 (by omega) h1 h2 h3 hs]
  have hz := szOf_cases b0
  generalize (secOf b0).1 = lo at *
  generalize (secOf b0).2 = hi at *
  generalize szOf b0 = z at *
  unfold Lib.slowN
  repeat' split
  all_goals first | rfl | (exfalso; omega) | (dsimp only; omega)
theorem decode_tail (u x : ByteArray) (hu : 1 ≤ u.size) (hx : x.size = 3) : wd (u ++ x) 0 = (Lib.decodeN (u.size + 3) (bt u 0) (if 1 < u.size then bt u 1 else bt x (1 - u.size)) (if 2 < u.size then bt u 2 else bt x (2 - u.size)) (if 3 < u.size then bt u 3 else bt x (3 - u.size))).2 := by
  unfold wd
  rw [decode_at]
  have hz : (u ++ x).size - 0 = u.size + 3 := by rw [ByteArray.size_append, hx]; rfl
  have hb : ∀ i, bt (u ++ x) i = if i < u.size then bt u i else bt x (i - u.size) := fun i => by
    unfold bt
    rw [get_append]
    split <;> rfl
  rw [hz]
  show (Lib.decodeN (u.size + 3) (bt (u ++ x) 0) (bt (u ++ x) (0 + 1)) (bt (u ++ x) (0 + 2)) (bt (u ++ x) (0 + 3))).2 = _
  rw [hb, hb, hb, hb, if_pos (by omega)]
theorem bt_pre (t : ByteArray) (m i : Nat) (h : i < m) (hm : m ≤ t.size) : bt (t.extract 0 m) i = bt t i := by
  unfold bt
  rw [get_extract t 0 m i (by omega) hm, Nat.zero_add]
theorem tailA_bt : ∀ i, i < 3 → bt tailA i = 128 := by decide
theorem tailB_bt : ∀ i, i < 3 → bt tailB i = if i = 0 then 160 else 128 := by decide
/-- Which beginnings can go on to a rune. -/
theorem begB_none (t : ByteArray) (m : Nat) (h1 : 1 ≤ m) (hm : m ≤ t.size) (hs : (secOf (bt t 0)).1 = 0) : begB (t.extract 0 m) = false := by
  have hz : (t.extract 0 m).size = m := by rw [ByteArray.size_extract]; omega
  have hw : ∀ x : ByteArray, x.size = 3 → wd (t.extract 0 m ++ x) 0 = 1 := fun x hx => by
    rw [decode_tail _ x (by omega) hx, bt_pre t m 0 (by omega) hm]
    by_cases hb : bt t 0 < 128
    · unfold Lib.decodeN; rw [if_pos hb]
    · rw [decodeN_none _ _ _ _ _ (by omega) (bt_lt t 0) hs]
  unfold begB
  rw [hw tailA rfl, hw tailB rfl, hz, decide_eq_false (by omega)]
  rfl
theorem wd_one (t x : ByteArray) (h : 1 ≤ t.size) (hx : x.size = 3) : wd (t.extract 0 1 ++ x) 0 = (Lib.decodeN 4 (bt t 0) (bt x 0) (bt x 1) (bt x 2)).2 := by
  have hz : (t.extract 0 1).size = 1 := by rw [ByteArray.size_extract]; omega
  rw [decode_tail _ x (by omega) hx, hz, bt_pre t 1 0 (by omega) h]
  rfl
theorem wd_two (t x : ByteArray) (h : 2 ≤ t.size) (hx : x.size = 3) : wd (t.extract 0 2 ++ x) 0 = (Lib.decodeN 5 (bt t 0) (bt t 1) (bt x 0) (bt x 1)).2 := by
  have hz : (t.extract 0 2).size = 2 := by rw [ByteArray.size_extract]; omega
  rw [decode_tail _ x (by omega) hx, hz, bt_pre t 2 0 (by omega) h, if_pos (by decide), bt_pre t 2 1 (by omega) h]
  rfl
theorem wd_three (t x : ByteArray) (h : 3 ≤ t.size) (hx : x.size = 3) : wd (t.extract 0 3 ++ x) 0 = (Lib.decodeN 6 (bt t 0) (bt t 1) (bt t 2) (bt x 0)).2 := by
  have hz : (t.extract 0 3).size = 3 := by rw [ByteArray.size_extract]; omega
  rw [decode_tail _ x (by omega) hx, hz, bt_pre t 3 0 (by omega) h, if_pos (by decide), bt_pre t 3 1 (by omega) h, if_pos (by decide), bt_pre t 3 2 (by omega) h]
  rfl
theorem begB_iff (u : ByteArray) : begB u = true ↔ u.size < wd (u ++ tailA) 0 ∨ u.size < wd (u ++ tailB) 0 := by unfold begB; simp
theorem beg_1 {lo hi z : Nat} (hz : z = 2 ∨ z = 3 ∨ z = 4) (hq : (lo ≤ 128 ∧ 128 ≤ hi) ∨ (lo ≤ 160 ∧ 160 ≤ hi)) : (1 < (if lo ≤ 128 ∧ 128 ≤ hi ∧ (3 ≤ z → 128 ≤ 128 ∧ 128 ≤ 191) ∧ (4 ≤ z → 128 ≤ 128 ∧ 128 ≤ 191) then z else 1) ∨ 1 < (if lo ≤ 160 ∧ 160 ≤ hi ∧ (3 ≤ z → 128 ≤ 128 ∧ 128 ≤ 191) ∧ (4 ≤ z → 128 ≤ 128 ∧ 128 ≤ 191) then z else 1)) := by
  rcases hq with q | q
  · left; rw [if_pos ⟨q.1, q.2, fun _ => by decide, fun _ => by decide⟩]; omega
  · right; rw [if_pos ⟨q.1, q.2, fun _ => by decide, fun _ => by decide⟩]; omega
theorem beg_2 {lo hi z b1 : Nat} (hz : z = 2 ∨ z = 3 ∨ z = 4) : (2 < (if lo ≤ b1 ∧ b1 ≤ hi ∧ (3 ≤ z → 128 ≤ 128 ∧ 128 ≤ 191) ∧ (4 ≤ z → 128 ≤ 128 ∧ 128 ≤ 191) then z else 1) ∨ 2 < (if lo ≤ b1 ∧ b1 ≤ hi ∧ (3 ≤ z → 128 ≤ 160 ∧ 160 ≤ 191) ∧ (4 ≤ z → 128 ≤ 128 ∧ 128 ≤ 191) then z else 1)) ↔ 2 < z ∧ lo ≤ b1 ∧ b1 ≤ hi := by
  constructor
  · intro h
    rcases h with h | h <;> (split at h <;> omega)
  · intro h
    left; rw [if_pos ⟨h.2.1, h.2.2, fun _ => by decide, fun _ => by decide⟩]; exact h.1
theorem beg_3 {lo hi z b1 b2 : Nat} (hz : z = 2 ∨ z = 3 ∨ z = 4) : (3 < (if lo ≤ b1 ∧ b1 ≤ hi ∧ (3 ≤ z → 128 ≤ b2 ∧ b2 ≤ 191) ∧ (4 ≤ z → 128 ≤ 128 ∧ 128 ≤ 191) then z else 1) ∨ 3 < (if lo ≤ b1 ∧ b1 ≤ hi ∧ (3 ≤ z → 128 ≤ b2 ∧ b2 ≤ 191) ∧ (4 ≤ z → 128 ≤ 160 ∧ 160 ≤ 191) then z else 1)) ↔ 3 < z ∧ (lo ≤ b1 ∧ b1 ≤ hi) ∧ 128 ≤ b2 ∧ b2 ≤ 191 := by
  constructor
  · intro h
    rcases h with h | h <;> (split at h <;> omega)
  · intro h
    left; rw [if_pos ⟨h.2.1.1, h.2.1.2, fun _ => h.2.2, fun _ => by decide⟩]; exact h.1
theorem good_1 (t : ByteArray) : good4 t 1 = true ↔ 1 < t.size ∧ (secOf (bt t 0)).1 ≤ bt t 1 ∧ bt t 1 ≤ (secOf (bt t 0)).2 := by rw [good4_iff, if_pos rfl, if_pos rfl]
theorem good_2 (t : ByteArray) : good4 t 2 = true ↔ 2 < t.size ∧ 128 ≤ bt t 2 ∧ bt t 2 ≤ 191 := by rw [good4_iff, if_neg (by decide), if_neg (by decide)]
theorem begB_one (t : ByteArray) (hm : 1 ≤ t.size) (hs : (secOf (bt t 0)).1 ≠ 0) : begB (t.extract 0 1) = true := by
  have hz : (t.extract 0 1).size = 1 := by rw [ByteArray.size_extract]; omega
  rw [begB_iff, hz, wd_one t tailA hm rfl, wd_one t tailB hm rfl, wdN 4 _ _ _ _ (by decide) (by decide) (by decide) (by decide) hs, wdN 4 _ _ _ _ (by decide) (by decide) (by decide) (by decide) hs]
  exact beg_1 (szOf_cases _) (secOf_lo _ hs).2.2.2.2.2
theorem begB_two (t : ByteArray) (hm : 2 ≤ t.size) (hs : (secOf (bt t 0)).1 ≠ 0) : begB (t.extract 0 2) = true ↔ 2 < szOf (bt t 0) ∧ (secOf (bt t 0)).1 ≤ bt t 1 ∧ bt t 1 ≤ (secOf (bt t 0)).2 := by
  have hz : (t.extract 0 2).size = 2 := by rw [ByteArray.size_extract]; omega
  rw [begB_iff, hz, wd_two t tailA hm rfl, wd_two t tailB hm rfl, wdN 5 _ _ _ _ (by decide) (bt_lt t 1) (by decide) (by decide) hs, wdN 5 _ _ _ _ (by decide) (bt_lt t 1) (by decide) (by decide) hs]
  exact beg_2 (szOf_cases _)
theorem begB_three (t : ByteArray) (hm : 3 ≤ t.size) (hs : (secOf (bt t 0)).1 ≠ 0) : begB (t.extract 0 3) = true ↔ 3 < szOf (bt t 0) ∧ ((secOf (bt t 0)).1 ≤ bt t 1 ∧ bt t 1 ≤ (secOf (bt t 0)).2) ∧ 128 ≤ bt t 2 ∧ bt t 2 ≤ 191 := by
  have hz : (t.extract 0 3).size = 3 := by rw [ByteArray.size_extract]; omega
  rw [begB_iff, hz, wd_three t tailA hm rfl, wd_three t tailB hm rfl, wdN 6 _ _ _ _ (by decide) (bt_lt t 1) (bt_lt t 2) (by decide) hs, wdN 6 _ _ _ _ (by decide) (bt_lt t 1) (bt_lt t 2) (by decide) hs]
  exact beg_3 (szOf_cases _)
theorem begB_some (t : ByteArray) (m : Nat) (h1 : 1 ≤ m) (hm : m ≤ t.size) (hs : (secOf (bt t 0)).1 ≠ 0) : begB (t.extract 0 m) = true ↔ m < szOf (bt t 0) ∧ ∀ j, 1 ≤ j → j < m → good4 t j = true := by
  have hsz := szOf_cases (bt t 0)
  rcases Nat.lt_or_ge m 4 with hm4 | hm4
  · have hm3 : m = 1 ∨ m = 2 ∨ m = 3 := by omega
    rcases hm3 with rfl | rfl | rfl
    · exact ⟨fun _ => ⟨by omega, fun j h1 h2 => by omega⟩, fun _ => begB_one t hm hs⟩
    · rw [begB_two t hm hs]
      constructor
      · intro h
        refine ⟨h.1, fun j h1 h2 => ?_⟩
        obtain rfl : j = 1 := by omega
        exact (good_1 t).2 ⟨by omega, h.2⟩
      · intro h
        exact ⟨h.1, ((good_1 t).1 (h.2 1 (by omega) (by omega))).2⟩
    · rw [begB_three t hm hs]
      constructor
      · intro h
        refine ⟨h.1, fun j h1 h2 => ?_⟩
        have : j = 1 ∨ j = 2 := by omega
        rcases this with rfl | rfl
        · exact (good_1 t).2 ⟨by omega, h.2.1⟩
        · exact (good_2 t).2 ⟨by omega, h.2.2⟩
      · intro h
        exact ⟨h.1, ((good_1 t).1 (h.2 1 (by omega) (by omega))).2, ((good_2 t).1 (h.2 2 (by omega) (by omega))).2⟩
  · have hz : (t.extract 0 m).size = m := by rw [ByteArray.size_extract]; omega
    constructor
    · intro h
      rw [begB_iff, hz] at h
      have a := wd_four (t.extract 0 m ++ tailA) 0
      have b := wd_four (t.extract 0 m ++ tailB) 0
      omega
    · intro h
      omega
theorem begLen_none (t : ByteArray) (h : 0 < t.size) (hs : (secOf (bt t 0)).1 = 0) : begLen t = 0 := by
  unfold begLen
  exact scanTo_no (begB_none t 1 (by omega) (by omega) hs)
theorem begLen_some (t : ByteArray) (hs : (secOf (bt t 0)).1 ≠ 0) (k : Nat) (h1 : 1 ≤ k) (hk : k < szOf (bt t 0)) (hg : ∀ j, 1 ≤ j → j < k → good4 t j = true) (hb : good4 t k = false) (h0 : 0 < t.size) : begLen t = k := by
  unfold begLen
  have hkt : k ≤ t.size := by
    rcases Nat.lt_or_ge 1 k with q | q
    · have := (good4_iff.1 (hg (k - 1) (by omega) (by omega))).1; omega
    · omega
  rw [scanTo_all (p := fun n => begB (t.extract 0 (n + 1))) (hi := t.size) (m := k) k 0 (by omega) hkt (fun j _ hj => (begB_some t (j + 1) (by omega) (by omega) hs).2 ⟨by omega, fun i h1 h2 => hg i h1 (by omega)⟩)]
  by_cases hlt : k < t.size
  · refine scanTo_no ?_
    rw [Bool.eq_false_iff]
    intro q
    have := (begB_some t (k + 1) (by omega) (by omega) hs).1 q
    have := this.2 k h1 (by omega)
    rw [hb] at this
    cases this
  · exact scanTo_end hlt
theorem seqV_zero {t : ByteArray} (h : 0 < t.size) (e : seqV t = (0, 0)) : badB t 0 = true := by
  unfold seqV at e
  by_cases q : rn t 0 = 65533 ∧ wd t 0 = 1
  · unfold badB; exact decide_eq_true q
  · rw [if_neg (by omega), Prod.mk.injEq] at e
    have := wd_pos t 0
    omega
theorem seqV_some {t : ByteArray} {a b : Nat} (h : 0 < t.size) (ha : a ≠ 0) (e : seqV t = ((a : Int), (b : Int))) : badB t 0 = false ∧ wd t 0 = a ∧ rn t 0 = b := by
  unfold seqV at e
  by_cases q : rn t 0 = 65533 ∧ wd t 0 = 1
  · rw [if_pos (.inr q), Prod.mk.injEq] at e
    omega
  · rw [if_neg (by omega), Prod.mk.injEq] at e
    exact ⟨by unfold badB; exact decide_eq_false q, by omega, by omega⟩
theorem seq4_end {t : ByteArray} (h : ¬ 0 < t.size) : seq4V t = (0, 0, false) := by unfold seq4V; rw [if_pos (by omega)]
theorem seq4_ascii {t : ByteArray} (h : 0 < t.size) (hb : bt t 0 < 128) : seq4V t = (bt t 0, 1, true) := by
  obtain ⟨h1, h2, h3⟩ := seqV_some (a := 1) h (by decide) (seqV_ascii t h hb)
  unfold seq4V
  rw [if_neg (by omega), if_neg (by rw [h1]; decide), h2, h3]
theorem seq4_none {t : ByteArray} (h : 0 < t.size) (hb : 128 ≤ bt t 0) (hs : (secOf (bt t 0)).1 = 0) : seq4V t = (0, 0, false) := by
  have h1 := seqV_zero h (seqV_none t h hb hs)
  unfold seq4V
  rw [if_neg (by omega), if_pos h1, begLen_none t h hs]
theorem seq4_bad {t : ByteArray} (h : 0 < t.size) (hs : (secOf (bt t 0)).1 ≠ 0) (k : Nat) (h1 : 1 ≤ k) (hk : k < szOf (bt t 0)) (hg : ∀ j, 1 ≤ j → j < k → good4 t j = true) (hb : good4 t k = false) : seq4V t = (0, k, false) := by
  have hq := secOf_lo _ hs
  have hx : t.size < 2 ∨ bt t 1 < (secOf (bt t 0)).1 ∨ (secOf (bt t 0)).2 < bt t 1 ∨ ∃ k, 1 ≤ k ∧ k < szOf (bt t 0) ∧ (t.size ≤ k ∨ bt t k < 128 ∨ 191 < bt t k) := by
    have hn : ¬ (k < t.size ∧ (if k = 1 then (secOf (bt t 0)).1 else 128) ≤ bt t k ∧ bt t k ≤ (if k = 1 then (secOf (bt t 0)).2 else 191)) := fun q => by rw [good4_iff.2 q] at hb; cases hb
    by_cases e : k = 1
    · subst e
      rw [if_pos rfl, if_pos rfl] at hn
      omega
    · rw [if_neg e, if_neg e] at hn
      exact .inr (.inr (.inr ⟨k, h1, hk, by omega⟩))
  have hz := seqV_zero h (seqV_bad t h (by omega) hs hx)
  unfold seq4V
  rw [if_neg (by omega), if_pos hz, begLen_some t hs k h1 hk hg hb h]
theorem seq4_good {t : ByteArray} (h : 0 < t.size) (hs : (secOf (bt t 0)).1 ≠ 0) (hg : ∀ j, 1 ≤ j → j < szOf (bt t 0) → good4 t j = true) : seq4V t = (accOf t (szOf (bt t 0)), szOf (bt t 0), true) := by
  have hq := secOf_lo _ hs
  have hsz := szOf_cases (bt t 0)
  have g1 := good4_iff.1 (hg 1 (by omega) (by omega))
  rw [if_pos rfl, if_pos rfl] at g1
  have hgo : Goes t (szOf (bt t 0)) := fun j h1 h2 => by
    have := good4_iff.1 (hg j h1 h2)
    by_cases e : j = 1
    · subst e; omega
    · rw [if_neg e, if_neg e] at this; exact this
  obtain ⟨q1, q2, q3⟩ := seqV_some h (by omega) (seqV_good t h (by omega) hs g1.2.1 g1.2.2 hgo)
  unfold seq4V
  rw [if_neg (by omega), if_neg (by rw [q1]; decide), q2, q3]
end Go.Proofs.YtbefahknbdjnpaaGreatDoor
/- Lines and columns, spot by spot: plain mathematics. -/
namespace Go.Proofs.YtbefahknbdjnpaaGreatDoor
open Go.RowKit Go.Shelf
set_option linter.unusedVariables false
theorem bd_pre (s : ByteArray) (i e : Nat) (h : bdB s i = true) (hi : i ≤ e) (he : e ≤ s.size) : bdB (s.extract 0 e) i = true := by
  rw [bd_iff] at h ⊢
  intro n h4 h1 hn
  have hz : (s.extract 0 e).size = e := by rw [ByteArray.size_extract]; omega
  by_cases hb : rn (s.extract 0 e) (i - n) = 65533 ∧ wd (s.extract 0 e) (i - n) = 1
  · omega
  · have := decode_grow (s.extract 0 e) (s.extract e s.size) (i - n) (by omega) hb
    rw [cat_split s e he] at this
    unfold wd
    rw [← this]
    exact h n h4 h1 hn
theorem runes_spot (s : ByteArray) (i : Nat) (hi : i < s.size) : runesL (s.extract i (i + wd s i)) = [((rn s i : Nat) : Int)] := by
  have hr := wd_room s i hi
  have hp := wd_pos s i
  have hz : (s.extract i (i + wd s i)).size = wd s i := by rw [ByteArray.size_extract]; omega
  have hcat : s.extract i (i + wd s i) ++ s.extract (i + wd s i) s.size = rst s i := by
    rw [ByteArray.extract_append_extract]
    congr 1 <;> omega
  have hd : Utf8.decode (rst s i) 0 = Utf8.decode s i := decode_suffix s i 0 (by omega)
  have h1 : wd (rst s i) 0 = wd s i := by unfold wd; rw [hd]
  have e := decode_part (s.extract i (i + wd s i)) (s.extract (i + wd s i) s.size) 0 (by omega) (by rw [hcat, h1, hz]; omega)
  rw [hcat, hd] at e
  have hw : wd (s.extract i (i + wd s i)) 0 = wd s i := by show (Utf8.decode _ 0).2 = _; rw [e]
  have hs : starts (s.extract i (i + wd s i)) = [0] := by
    unfold starts
    obtain ⟨m, hm⟩ : ∃ m, (s.extract i (i + wd s i)).size = m + 1 := ⟨wd s i - 1, by omega⟩
    rw [hm, startsFrom_cons _ m 0 (by omega), hw, startsFrom_end _ _ _ (by omega)]
  unfold runesL
  rw [hs]
  simp only [List.map_cons, List.map_nil]
  show [(((Utf8.decode (s.extract i (i + wd s i)) 0).1 : Nat) : Int)] = _
  rw [e]
theorem runes_snoc (s : ByteArray) (i : Nat) (h : bdB s i = true) (hi : i < s.size) : runesL (s.extract 0 (i + wd s i)) = runesL (s.extract 0 i) ++ [((rn s i : Nat) : Int)] := by
  have hr := wd_room s i hi
  have hz : (s.extract 0 (i + wd s i)).size = i + wd s i := by rw [ByteArray.size_extract]; omega
  rw [runesL_split (s.extract 0 (i + wd s i)) i (by omega) (bd_pre s i _ h (by omega) hr), hz, ext_pre s _ _ (by omega), ext_mid, runes_spot s i hi]
theorem cutAt_in (s : ByteArray) (i k : Nat) (h : bdB s i = true) (h1 : i ≤ k) (h2 : k < i + wd s i) : cutAt s k = i := by
  have a := cutAt_max s k i h1 h
  have b := cutAt_le s k
  have c := cutAt_bd s k
  by_cases e : cutAt s k = i
  · exact e
  · rw [bd_within s i (cutAt s k) (by omega) (by omega)] at c
    cases c
/-- Line and column of a place, as the reference counts them. -/
def lcAt (s : ByteArray) (i : Nat) : Nat × Nat := lcR (1, 1) (runesL (s.extract 0 i))
theorem lcAt_zero (s : ByteArray) : lcAt s 0 = (1, 1) := by
  have : s.extract 0 0 = ByteArray.empty := toList_nil _ (by rw [ByteArray.size_extract]; omega)
  unfold lcAt
  rw [this]
  rfl
theorem lcAt_step (s : ByteArray) (i : Nat) (h : bdB s i = true) (hi : i < s.size) : lcAt s (i + wd s i) = if bt s i = 10 then ((lcAt s i).1 + 1, 1) else ((lcAt s i).1, (lcAt s i).2 + 1) := by
  unfold lcAt
  rw [runes_snoc s i h hi, lcR_app, lcR_cons, lcR_nil]
  by_cases e : bt s i = 10
  · rw [if_pos e, if_pos (by have := (rn_ten s i).2 e; omega)]
  · rw [if_neg e, if_neg (fun q => e ((rn_ten s i).1 (by omega)))]
theorem whL_at (s : ByteArray) (k : Nat) : whL s k = lcAt s (cutAt s k) := whL_runes s k
theorem whL_bd (s : ByteArray) (k : Nat) (h : bdB s k = true) : whL s k = lcAt s k := by rw [whL_at, cutAt_self s k h]
/-- How far a spot reaches, by what the reference reads there. -/
theorem seq4_wd (s : ByteArray) (i : Nat) (hi : i < s.size) : (if (seq4V (rst s i)).2.2 = true then i + (seq4V (rst s i)).2.1 else i + 1) = i + wd s i := by
  have hd : Utf8.decode (rst s i) 0 = Utf8.decode s i := decode_suffix s i 0 (by omega)
  have hz := rst_size s i
  by_cases hb : badB (rst s i) 0 = true
  · have e : seq4V (rst s i) = (0, begLen (rst s i), false) := by unfold seq4V; rw [if_neg (by omega), if_pos hb]
    rw [e, if_neg (fun q => by cases q)]
    unfold badB rn wd at hb
    rw [hd] at hb
    have := of_decide_eq_true hb
    show i + 1 = i + (Utf8.decode s i).2
    omega
  · have e : seq4V (rst s i) = (rn (rst s i) 0, wd (rst s i) 0, true) := by unfold seq4V; rw [if_neg (by omega), if_neg hb]
    rw [e, if_pos rfl]
    show i + (Utf8.decode (rst s i) 0).2 = _
    rw [hd]
end Go.Proofs.YtbefahknbdjnpaaGreatDoor
