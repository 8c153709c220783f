/- Lines and columns by runes: plain mathematics. -/
import Derived.Test.YtncmabmpkdmpfaaDoorScWords
import Derived.Test.YtncmabmpkdmpfaaDoorEnc
namespace Go.Proofs.YtncmabmpkdmpfaaDoor
open Go.RowKit Go.Shelf
set_option linter.unusedVariables false
/-- Line and column behind some runes. -/
def lcR (x : Nat × Nat) (zs : List Int) : Nat × Nat := zs.foldl (fun x z => if z = 10 then (x.1 + 1, 1) else (x.1, x.2 + 1)) x
theorem lcR_app (x : Nat × Nat) (a b : List Int) : lcR x (a ++ b) = lcR (lcR x a) b := by simp [lcR]
theorem lcR_cons (x : Nat × Nat) (z : Int) (b : List Int) : lcR x (z :: b) = lcR (if z = 10 then (x.1 + 1, 1) else (x.1, x.2 + 1)) b := rfl
theorem lcR_nil (x : Nat × Nat) : lcR x [] = x := rfl
theorem lcF_runes (t : ByteArray) : ∀ (ps : List Nat) (x : Nat × Nat), lcF t x ps = lcR x (ps.map (fun i => ((rn t i : Nat) : Int)))
  | [], x => rfl
  | p :: ps, x => by
    show lcF t (lcStep t x p) ps = _
    rw [lcF_runes t ps, List.map_cons, lcR_cons]
    unfold lcStep
    by_cases h : rn t p = 10
    · rw [if_pos h, if_pos (by omega)]
    · rw [if_neg h, if_neg (by omega)]
theorem lcF_all (t : ByteArray) (x : Nat × Nat) : lcF t x (starts t) = lcR x (runesL t) := lcF_runes t _ x
theorem lcR_line : ∀ (zs : List Int) (x : Nat × Nat), (lcR x zs).1 = x.1 + zs.count 10
  | [], x => rfl
  | z :: zs, x => by
    rw [lcR_cons, lcR_line zs]
    by_cases h : z = 10
    · rw [if_pos h, h, List.count_cons_self]; show x.1 + 1 + _ = _; omega
    · rw [if_neg h, List.count_cons_of_ne h]
theorem lcR_none : ∀ (zs : List Int) (x : Nat × Nat), (10 : Int) ∉ zs → lcR x zs = (x.1, x.2 + zs.length)
  | [], x, _ => rfl
  | z :: zs, x, h => by
    rw [List.mem_cons, not_or] at h
    rw [lcR_cons, if_neg (fun e => h.1 e.symm), lcR_none zs _ h.2, List.length_cons, Prod.mk.injEq]
    exact ⟨rfl, by show x.2 + 1 + _ = _; omega⟩
/-- What a spot's rune says of its bytes. -/
theorem rn_ten (s : ByteArray) (i : Nat) : rn s i = 10 ↔ bt s i = 10 := by
  have t := at_told s i
  constructor
  · intro h
    have hg : ¬ (rn s i = 65533 ∧ wd s i = 1) := by omega
    rcases t.width hg with h1 | h1 | h1 | h1
    · rcases t.one h1.1 with h2 | h2 <;> (simp only [rn] at h; omega)
    all_goals (simp only [rn] at h; omega)
  · intro h
    rcases Nat.lt_or_ge (wd s i) 2 with h1 | h1
    · have : wd s i = 1 := by have := wd_pos s i; omega
      rcases t.one this with h2 | h2 <;> (simp only [rn]; omega)
    · have := wd_lead s i h1; omega
theorem drop_bt (s : ByteArray) (i : Nat) (h : i < s.size) : s.data.toList.drop i = s.get! i :: s.data.toList.drop (i + 1) := by
  rw [← List.getElem_cons_drop (h := by rw [Array.length_toList]; exact h)]
  congr 1
  rw [get_lt s i h]
  simp
theorem count_step (s : ByteArray) (i : Nat) (h : i < s.size) (hn : bt s i ≠ 10) : (s.data.toList.drop i).count 10 = (s.data.toList.drop (i + 1)).count 10 := by
  rw [drop_bt s i h, List.count_cons_of_ne (fun e => hn (by unfold bt; rw [e]; rfl))]
theorem count_cont (s : ByteArray) (i : Nat) : ∀ k, (∀ j, i ≤ j → j < i + k → j < s.size ∧ bt s j ≠ 10) → (s.data.toList.drop i).count 10 = (s.data.toList.drop (i + k)).count 10
  | 0, _ => rfl
  | k + 1, h => by
    rw [count_cont s i k (fun j h1 h2 => h j h1 (by omega)), count_step s (i + k) (h _ (by omega) (by omega)).1 (h _ (by omega) (by omega)).2]
    rfl
theorem count_from (s : ByteArray) : ∀ f i, s.size ≤ i + f → (s.data.toList.drop i).count 10 = ((startsFrom s f i).map (fun i => ((rn s i : Nat) : Int))).count 10
  | 0, i, h => by
    rw [List.drop_eq_nil_of_le (by rw [Array.length_toList]; show s.size ≤ i; omega)]
    rfl
  | f + 1, i, h => by
    by_cases hi : i < s.size
    · have hp := wd_pos s i
      have hr := wd_room s i hi
      rw [startsFrom_cons s f i hi, List.map_cons]
      by_cases ht : bt s i = 10
      · have h1 : wd s i = 1 := by
          rcases Nat.lt_or_ge (wd s i) 2 with h1 | h1
          · omega
          · have := wd_lead s i h1; omega
        have e : s.get! i = 10 := by rw [← UInt8.toNat_inj]; exact ht
        rw [drop_bt s i hi, e, (rn_ten s i).2 ht, h1, List.count_cons_self, count_from s f (i + 1) (by omega)]
        exact (List.count_cons_self ..).symm
      · have hz : (10 : Int) ≠ ((rn s i : Nat) : Int) := fun e => ht ((rn_ten s i).1 (by omega))
        rw [List.count_cons_of_ne (Ne.symm hz), ← count_from s f (i + wd s i) (by omega)]
        refine count_cont s i (wd s i) (fun j h1 h2 => ⟨by omega, ?_⟩)
        by_cases hj : j = i
        · rw [hj]; exact ht
        · have := wd_cont s i (j - i) (by omega) (by omega)
          rw [show i + (j - i) = j by omega] at this
          omega
    · rw [startsFrom_end s _ _ hi, List.drop_eq_nil_of_le (by rw [Array.length_toList]; show s.size ≤ i; omega)]
      rfl
theorem count_runes (s : ByteArray) : Lib.countByte s.data.toList 10 = (runesL s).count 10 := by
  have := count_from s s.size 0 (by omega)
  rw [List.drop_zero] at this
  exact this
theorem cat_split (t : ByteArray) (p : Nat) (h : p ≤ t.size) : t.extract 0 p ++ t.extract p t.size = t := by
  rw [ByteArray.extract_append_extract, Nat.zero_min, Nat.max_eq_right h, ByteArray.extract_zero_size]
theorem runesL_split (t : ByteArray) (p : Nat) (h : p ≤ t.size) (hb : bdB t p = true) : runesL t = runesL (t.extract 0 p) ++ runesL (t.extract p t.size) := by
  have hz : (t.extract 0 p).size = p := by rw [ByteArray.size_extract]; omega
  have := runesL_both (t.extract 0 p) (t.extract p t.size) (by rw [cat_split t p h, hz]; exact hb)
  rwa [cat_split t p h] at this
theorem ext_pre (s : ByteArray) (b a : Nat) (h : a ≤ b) : (s.extract 0 b).extract 0 a = s.extract 0 a := by rw [ByteArray.extract_extract, Nat.zero_add, Nat.zero_add, Nat.min_eq_left h]
theorem ext_mid (s : ByteArray) (b a : Nat) : (s.extract 0 b).extract a b = s.extract a b := by rw [ByteArray.extract_extract, Nat.zero_add, Nat.zero_add, Nat.min_self]
theorem no_ten (t : ByteArray) (h : ∀ j, j < t.size → bt t j ≠ 10) : (10 : Int) ∉ runesL t := by
  intro hm
  unfold runesL at hm
  obtain ⟨p, hp, e⟩ := List.mem_map.1 hm
  have h1 := (startsFrom_ge t t.size 0 p hp).2
  exact h p h1 ((rn_ten t p).1 (by omega))
theorem lastNl_spec (t : ByteArray) : (lastL t = 0 ∧ ∀ j, j < t.size → bt t j ≠ 10) ∨ (1 ≤ lastL t ∧ lastL t ≤ t.size ∧ bt t (lastL t - 1) = 10 ∧ ∀ j, lastL t ≤ j → j < t.size → bt t j ≠ 10) := by
  have hget : ∀ j, ((t.data[j]!).toNat : Int) = (bt t j : Int) := fun j => rfl
  unfold lastL
  rcases Lib.lastIndexByte_spec t 10 with ⟨h, h2⟩ | ⟨i, hi, h, h2, h3⟩
  · rw [h]; exact .inl ⟨rfl, fun j hj e => h2 j hj (by rw [hget, e]; rfl)⟩
  · rw [h]
    rw [hget] at h2
    refine .inr ⟨by omega, by omega, ?_, fun j h4 hj e => h3 j (by omega) hj (by rw [hget, e]; rfl)⟩
    rw [show ((i : Int) + 1).toNat - 1 = i by omega]
    omega
theorem runes_one_ten : runesL ⟨#[10]⟩ = [10] := by decide
/-- Line and column of a text's end, counted as the program counts them. -/
theorem lc_text (t : ByteArray) : (1 + Lib.countByte t.data.toList 10, 1 + (starts (t.extract (lastL t) t.size)).length) = lcR (1, 1) (runesL t) := by
  rw [count_runes]
  rcases lastNl_spec t with ⟨h0, hn⟩ | ⟨h1, h2, h3, h4⟩
  · have hno := no_ten t hn
    rw [h0, ByteArray.extract_zero_size, lcR_none _ _ hno, List.count_eq_zero_of_not_mem hno, runesL_length]
  · have hb : bdB t (lastL t) = true := by
      have hb0 : bdB t (lastL t - 1) = true := bd_lead t _ (by omega)
      have hw : wd t (lastL t - 1) = 1 := by
        rcases Nat.lt_or_ge (wd t (lastL t - 1)) 2 with q | q
        · have := wd_pos t (lastL t - 1); omega
        · have := wd_lead t _ q; omega
      have := bd_step t (lastL t - 1) hb0 (by omega)
      rwa [hw, show lastL t - 1 + 1 = lastL t by omega] at this
    have hno : (10 : Int) ∉ runesL (t.extract (lastL t) t.size) := no_ten _ (fun j hj => by
      rw [ByteArray.size_extract] at hj
      unfold bt
      rw [get_suffix t (lastL t) j h2]
      exact h4 (lastL t + j) (by omega) (by omega))
    have e1 := runesL_split t (lastL t) h2 hb
    -- the first part ends with the byte 10
    have hb0 : bdB t (lastL t - 1) = true := bd_lead t _ (by omega)
    have e2 : runesL (t.extract 0 (lastL t)) = runesL (t.extract 0 (lastL t - 1)) ++ [10] := by
      have hz : (t.extract 0 (lastL t)).size = lastL t := by rw [ByteArray.size_extract]; omega
      have hbt : bt (t.extract 0 (lastL t)) (lastL t - 1) = 10 := by
        unfold bt
        rw [get_extract t 0 (lastL t) (lastL t - 1) (by omega) h2, Nat.zero_add]
        exact h3
      have := runesL_split (t.extract 0 (lastL t)) (lastL t - 1) (by omega) (bd_lead _ _ (by rw [hbt]; decide))
      rw [this, ext_pre t _ _ (by omega)]
      have e3 : (t.extract 0 (lastL t)).extract (lastL t - 1) (t.extract 0 (lastL t)).size = ⟨#[10]⟩ := by
        refine ext_get _ _ ?_ ?_
        · rw [ByteArray.size_extract, hz]; show _ = 1; omega
        · intro j hj
          rw [ByteArray.size_extract, hz] at hj
          unfold bt
          rw [get_suffix _ _ _ (by omega)]
          obtain rfl : j = 0 := by omega
          exact hbt
      rw [e3, runes_one_ten]
    rw [e1, List.count_append, List.count_eq_zero_of_not_mem hno, lcR_app, lcR_none _ _ hno, e2, lcR_app]
    generalize runesL (t.extract 0 (lastL t - 1)) = A
    rw [runesL_length, Prod.mk.injEq]
    refine ⟨?_, rfl⟩
    show 1 + _ = (lcR (1, 1) A).1 + 1
    rw [lcR_line, List.count_append]
    show 1 + (_ + 1 + 0) = _
    omega
/-- Line and column of a place. -/
theorem whL_runes (s : ByteArray) (k : Nat) : whL s k = lcR (1, 1) (runesL (s.extract 0 (cutAt s k))) := lc_text (aheadV s k)
/-- From a bound on. -/
theorem lcR_on (s : ByteArray) (a b : Nat) (x : Nat × Nat) (hab : a ≤ b) (hb : b ≤ s.size) (ha : bdB (s.extract 0 b) a = true) : lcR x (runesL (s.extract 0 b)) = lcR (lcR x (runesL (s.extract 0 a))) (runesL (s.extract a b)) := by
  have hz : (s.extract 0 b).size = b := by rw [ByteArray.size_extract]; omega
  rw [runesL_split (s.extract 0 b) a (by omega) ha, lcR_app, ext_pre s b a hab, hz, ext_mid s b a]
end Go.Proofs.YtncmabmpkdmpfaaDoor
