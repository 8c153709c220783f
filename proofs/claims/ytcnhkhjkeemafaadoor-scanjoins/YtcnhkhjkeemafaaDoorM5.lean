/- Texts of this claim, one behind the other. -/
import Derived.Test.YtcnhkhjkeemafaaDoorM4
import Derived.Test.YtcnhkhjkeemafaaDoorM2
import Derived.Test.YtcnhkhjkeemafaaDoorM3
import Derived.Laws.StructEq
import Derived.Deep.QuietTactic
import Derived.Test.YtcnhkhjkeemafaaDoorM1
import Derived.Test.YtcnhkhjkeemafaaDoorRows
import Derived.ProofKit
import Derived.OpenShut
import Derived.ChangeOld
/- What stands ahead of a number's end: plain mathematics. -/
namespace Go.Proofs.YtcnhkhjkeemafaaDoor
open Go.RowKit Go.Shelf
set_option linter.unusedVariables false
theorem numGo_prev (t : ByteArray) : ∀ f v k, t.size ≤ k + f → 1 ≤ k → digB (bt t (k - 1)) = true → digB (bt t ((numGo t v k).2 - 1)) = true
  | 0, v, k, h, h1, hd => by rw [numGo_stop (by omega)]; exact hd
  | f + 1, v, k, h, h1, hd => by
    by_cases hc : k < t.size ∧ digB (bt t k) = true ∧ 0 < v ∧ v * 10 + (bt t k - 48) ≤ 65535
    · rw [numGo_go hc.1 hc.2.1 hc.2.2.1 hc.2.2.2]
      exact numGo_prev t f _ (k + 1) (by omega) (by omega) hc.2.1
    · rw [numGo_stop hc]; exact hd
theorem numV_prev (t : ByteArray) (h : 0 < t.size) (hd : digB (bt t 0) = true) : digB (bt t ((numV t).2 - 1)) = true := numGo_prev t t.size _ 1 (by omega) (by omega) hd
theorem numdGo_prev (t : ByteArray) : ∀ f v k, t.size ≤ k + f → 1 ≤ k → (3 ≤ k → hxB (bt t (k - 1)) = true) → 3 ≤ (numdGo t v k).2 → hxB (bt t ((numdGo t v k).2 - 1)) = true
  | 0, v, k, h, h1, hd, h3 => by rw [numdGo_stop (by omega)] at h3 ⊢; exact hd h3
  | f + 1, v, k, h, h1, hd, h3 => by
    by_cases hc : k < t.size ∧ (k < 6 ∨ bt t 2 ≠ 48) ∧ 0 ≤ hexI (bt t k) ∧ v * 16 + (hexI (bt t k)).toNat ≤ 1114111
    · rw [numdGo_go hc] at h3 ⊢
      exact numdGo_prev t f _ (k + 1) (by omega) (by omega) (fun _ => hxB_hexI.2 hc.2.2.1) h3
    · rw [numdGo_stop hc] at h3 ⊢; exact hd h3
theorem nameLen_prev (t : ByteArray) : ∀ f k, min t.size 32 ≤ k + f → 1 ≤ k → k ≤ min t.size 32 → inNB (bt t (k - 1)) = true → inNB (bt t (scanTo (fun n => inNB (bt t n)) (min t.size 32) k - 1)) = true
  | 0, k, h, h1, hk, hd => by rw [scanTo_end (by omega)]; exact hd
  | f + 1, k, h, h1, hk, hd => by
    by_cases hl : k < min t.size 32
    · cases hp : inNB (bt t k) with
      | true => rw [scanTo_go (p := fun n => inNB (bt t n)) hl hp]; exact nameLen_prev t f (k + 1) (by omega) (by omega) (by omega) hp
      | false => rw [scanTo_no (p := fun n => inNB (bt t n)) hp]; exact hd
    · rw [scanTo_end hl]; exact hd
theorem stk_dig {c : Nat} (h : digB c = true) : stkB c = true := by unfold stkB inNB; rw [h]; simp
theorem stk_hex {c : Nat} (h : hxB c = true) : stkB c = true := by
  have h1 := of_decide_eq_true h
  rcases h1 with h1 | h1
  · exact stk_dig (decide_eq_true h1)
  · unfold stkB
    rw [decide_eq_true (show 65 ≤ c ∧ c ≤ 90 by omega)]
    simp
theorem stk_inN {c : Nat} (h : inNB c = true) : stkB c = true := by unfold stkB; rw [h]; simp
end Go.Proofs.YtcnhkhjkeemafaaDoor
/- Where words stand: plain mathematics. -/
namespace Go.Proofs.YtcnhkhjkeemafaaDoor
open Go.RowKit Go.Shelf
set_option linter.unusedVariables false
theorem small_lt {c : Nat} (h : smallB c = true) : c < 128 := by have := smallB_iff.1 h; omega
theorem dig_lt {c : Nat} (h : digB c = true) : c < 128 := by have := digB_iff.1 h; omega
theorem stk_lt {c : Nat} (h : stkB c = true) : c < 128 := by
  unfold stkB inNB smallB digB at h
  simp at h
  omega
theorem tl1_bt (t : ByteArray) (k : Nat) (h : 1 ≤ t.size) : bt (tl1 t) k = bt t (1 + k) := by unfold tl1 bt; rw [get_suffix t 1 k h]
theorem dots_bt (t : ByteArray) (h : dotsB t = true) : bt t 1 = 46 := by
  have h2 : [46, 46] <+: t.data.toList := List.isPrefixOf_iff_prefix.1 h
  obtain ⟨r, hr⟩ := h2
  have hz := dotsB_iff t h
  have : t.data.toList[1]? = some 46 := by rw [← hr]; rfl
  have h1 : 1 < t.size := by omega
  unfold bt
  rw [get_lt t 1 h1]
  rw [Array.getElem?_toList, Array.getElem?_eq_getElem h1] at this
  have e : t.data[1] = 46 := Option.some.inj this
  show (t.data[1]).toNat = 46
  rw [e]
  rfl
theorem word_last (t : ByteArray) (h : 0 < t.size) (ho : (wordV t).ok = true) : bt t ((wordV t).n - 1) < 128 := by
  unfold wordV at ho ⊢
  split at ho
  · rename_i hs
    rw [if_pos hs]
    refine stk_lt (stk_inN ?_)
    have hn : nameLen t = scanTo (fun n => inNB (bt t n)) (min t.size 32) 1 := by unfold nameLen; rw [if_neg (fun q => q.elim (by omega) (fun q => by rw [hs] at q; cases q))]
    show inNB (bt t (nameLen t - 1)) = true
    rw [hn]
    exact nameLen_prev t (min t.size 32) 1 (by omega) (by omega) (by omega) (by show inNB (bt t 0) = true; unfold inNB; rw [hs]; rfl)
  · rename_i hs
    rw [if_neg hs]
    split at ho
    · rename_i hd
      rw [if_pos hd]
      exact dig_lt (numV_prev t h hd)
    · rename_i hd
      rw [if_neg hd]
      split at ho
      · rename_i hu
        rw [if_pos hu]
        have ho2 : (numdV t).2.2 = true := ((Bool.and_eq_true _ _).mp ho).1
        show bt t ((numdV t).2.1 - 1) < 128
        unfold numdV at ho2 ⊢
        split at ho2
        · cases ho2
        · rename_i h1
          rw [if_neg h1]
          split at ho2
          · cases ho2
          · rename_i h6
            rw [if_neg h6]
            exact stk_lt (stk_hex (numdGo_prev t t.size 0 2 (by omega) (by omega) (fun q => by omega) (by omega)))
      · rename_i hu
        rw [if_neg hu]
        split at ho
        · rename_i hq
          rw [if_pos hq]
          have ho2 : (quoV t).2.2 = true := ho
          show bt t ((quoV t).2.1 - 1) < 128
          unfold quoV at ho2 ⊢
          repeat' split at ho2
          all_goals first | (cases ho2; done) | skip
          rename_i h1 h2 h3 h4 h5
          rw [if_neg h1, if_neg h2, if_neg h3, if_neg h4, if_pos h5]
          have := (rn_39 (tl1 t) (wd (tl1 t) 0)).1 h5
          rw [tl1_bt t _ h] at this
          show bt t (wd (tl1 t) 0 + 2 - 1) < 128
          rw [show wd (tl1 t) 0 + 2 - 1 = 1 + wd (tl1 t) 0 by omega, this]
          decide
        · rename_i hq
          rw [if_neg hq]
          have ho2 : (sgnV t).2.2 = true := ho
          show bt t ((sgnV t).2.1 - 1) < 128
          unfold sgnV at ho2 ⊢
          repeat' split
          all_goals first
            | (show bt t 0 < 128; omega)
            | skip
          all_goals first
            | (rename_i hdt; show bt t 1 < 128; rw [dots_bt t hdt]; decide)
            | (exfalso; simp_all; done)
theorem word_first (t : ByteArray) (ho : (wordV t).ok = true) : bt t 0 < 128 := by
  by_cases hs : smallB (bt t 0) = true
  · exact small_lt hs
  · by_cases hd : digB (bt t 0) = true
    · exact dig_lt hd
    · unfold wordV at ho
      rw [if_neg hs, if_neg hd] at ho
      split at ho
      · omega
      · split at ho
        · omega
        · have ho2 : (sgnV t).2.2 = true := ho
          unfold sgnV at ho2
          repeat' split at ho2
          all_goals first | omega | cases ho2
theorem bd_ascii (s : ByteArray) (i : Nat) (h : bt s i < 128) : bdB s i = true := bd_lead s i (by omega)
theorem bd_next (s : ByteArray) (i : Nat) (hi : i < s.size) (h : bt s i < 128) : bdB s (i + 1) = true := by
  have hw : wd s i = 1 := by
    rcases Nat.lt_or_ge (wd s i) 2 with q | q
    · have := wd_pos s i; omega
    · have := wd_lead s _ q; omega
  have := bd_step s i (bd_ascii s i h) hi
  rwa [hw] at this
/-- Lines and columns behind n bytes more. -/
theorem lcB_at (s : ByteArray) (b n : Nat) (hb : b + n ≤ s.size) (hd : bdB s b = true) : lcB (rst s b) (lcAt s b) n = lcAt s (b + n) := by
  unfold lcB lcAt
  have e : (rst s b).extract 0 n = s.extract b (b + n) := by
    unfold rst
    rw [ByteArray.extract_extract, Nat.add_zero, Nat.min_eq_left (by omega)]
  rw [e, lcF_all, ← lcR_on s b (b + n) (1, 1) (by omega) hb (bd_pre s b (b + n) hd (by omega) hb)]
/-- What is known of a word's place. -/
structure WdAt (s : ByteArray) (x : Wd) : Prop where
  lc : (x.l, x.c) = whL s x.b
  lt : x.b < s.size
  e : x.e = x.b + x.v.n
  v : x.v = wordV (rst s x.b)
  le : x.e ≤ s.size
theorem wdAt_mk {s : ByteArray} {b : Nat} {x : Nat × Nat} (h1 : x = whL s b) (h2 : b < s.size) (h3 : b + (wordV (rst s b)).n ≤ s.size) : WdAt s ⟨wordV (rst s b), b, x.1, x.2, b + (wordV (rst s b)).n⟩ := by
  obtain ⟨x1, x2⟩ := x
  generalize hw : whL s b = y at h1
  subst h1
  generalize hv : wordV (rst s b) = v at h3
  exact { lc := hw.symm, lt := h2, e := rfl, v := hv.symm, le := h3 }
theorem cut_places (s : ByteArray) : ∀ f b x ws, b ≤ s.size → bdB s b = true → x = lcAt s b → (∀ y ∈ ws, WdAt s y) → (∀ y ∈ (cutGo s f b x ws).ws, WdAt s y) ∧ (cutGo s f b x ws).b ≤ s.size
  | 0, b, x, ws, hb, _, _, h => ⟨h, hb⟩
  | f + 1, b, x, ws, hb, hd, hx, h => by
    have hg := gB_le s b hb
    unfold cutGo
    split
    · exact ⟨h, hg.2⟩
    · split
      · exact ⟨h, hg.2⟩
      · rename_i hz
        rw [rst_size] at hz
        have hp : 0 < (rst s (gB s b)).size := by rw [rst_size]; omega
        have hle := wordV_le (rst s (gB s b)) hp
        rw [rst_size] at hle
        split
        · exact ⟨h, by show gB s b + _ ≤ _; omega⟩
        · rename_i ho
          have ho2 : (wordV (rst s (gB s b))).ok = true := Bool.eq_false_or_eq_true _ |>.resolve_right ho
          have hn := hle.2 ho2
          have e0 : bt (rst s (gB s b)) 0 = bt s (gB s b) := rst_at s (gB s b) 0 hg.2
          have hf := word_first _ ho2
          rw [e0] at hf
          have hl := word_last _ hp ho2
          rw [rst_at s (gB s b) _ hg.2] at hl
          have hbg : bdB s (gB s b) = true := bd_ascii s _ hf
          have hgl : gLC s b x = lcAt s (gB s b) := by
            unfold gLC
            rw [hx, lcB_at s b _ (by have := hg.2; unfold gB at this; exact this) hd]
            rfl
          have hnx : bdB s (gB s b + (wordV (rst s (gB s b))).n) = true := by
            have := bd_next s (gB s b + ((wordV (rst s (gB s b))).n - 1)) (by omega) hl
            rwa [show gB s b + ((wordV (rst s (gB s b))).n - 1) + 1 = gB s b + (wordV (rst s (gB s b))).n by omega] at this
          refine cut_places s f _ _ _ (by omega) hnx (by rw [hgl, lcB_at s _ _ (by omega) hbg]) (fun y hy => ?_)
          rcases List.mem_append.1 hy with hy | hy
          · exact h y hy
          · obtain rfl := List.mem_singleton.1 hy
            exact wdAt_mk (hgl.trans (whL_bd s _ hbg).symm) (by omega) (by omega)
theorem words_places (s : ByteArray) : (∀ y ∈ (wordsV s).ws, WdAt s y) ∧ (wordsV s).b ≤ s.size := cut_places s _ 0 (1, 1) [] (Nat.zero_le _) (bd_zero s) (lcAt_zero s).symm (fun _ h => by cases h)
end Go.Proofs.YtcnhkhjkeemafaaDoor
/- A word stays what it is, whatever stands behind it: plain mathematics. -/
namespace Go.Proofs.YtcnhkhjkeemafaaDoor
open Go.RowKit Go.Shelf
set_option linter.unusedVariables false
theorem scanTo_mem (p : Nat → Bool) (hi : Nat) : ∀ k n, hi ≤ n + k → ∀ j, n ≤ j → j < scanTo p hi n → p j = true ∧ j < hi
  | 0, n, h, j, h1, h2 => by rw [scanTo_end (by omega)] at h2; omega
  | k + 1, n, h, j, h1, h2 => by
    by_cases hn : n < hi
    · cases hp : p n with
      | true =>
        rw [scanTo_go hn hp] at h2
        by_cases e : j = n
        · subst e; exact ⟨hp, hn⟩
        · exact scanTo_mem p hi k (n + 1) (by omega) j (by omega) h2
      | false => rw [scanTo_no hp] at h2; omega
    · rw [scanTo_end hn] at h2; omega
theorem not_stk_in {c : Nat} (h : stkB c = false) : inNB c = false ∧ digB c = false ∧ hxB c = false := by
  refine ⟨?_, ?_, ?_⟩
  · cases q : inNB c
    · rfl
    · rw [stk_inN q] at h; cases h
  · cases q : digB c
    · rfl
    · rw [stk_dig q] at h; cases h
  · cases q : hxB c
    · rfl
    · rw [stk_hex q] at h; cases h
theorem edge_yes {u : ByteArray} {n : Nat} (h : n = u.size ∨ stkB (bt u n) = false) : edgeB u n = true := by
  unfold edgeB
  rcases h with h | h
  · rw [decide_eq_true h]; rfl
  · rw [h]; simp
theorem ext_pre_eq {t u : ByteArray} {n : Nat} (ht : n ≤ t.size) (hu : n ≤ u.size) (hb : ∀ i, i < n → bt u i = bt t i) : u.extract 0 n = t.extract 0 n := by
  refine ext_get _ _ (by rw [ByteArray.size_extract, ByteArray.size_extract]; omega) (fun j hj => ?_)
  rw [ByteArray.size_extract] at hj
  rw [bt_pre u n j (by omega) hu, bt_pre t n j (by omega) ht]
  exact hb j (by omega)
theorem wordV_sm {t : ByteArray} (h : smallB (bt t 0) = true) : wordV t = ⟨1, t.extract 0 (nameLen t), 0, 0, nameLen t, edgeB t (nameLen t)⟩ := by unfold wordV; rw [if_pos h]
theorem name_local {t u : ByteArray} (hs : smallB (bt t 0) = true) (ht : 0 < t.size) (hn : nameLen t ≤ u.size) (hb : ∀ i, i < nameLen t → bt u i = bt t i) (he : nameLen t = u.size ∨ stkB (bt u (nameLen t)) = false) : nameLen u = nameLen t := by
  have e1 : nameLen t = scanTo (fun n => inNB (bt t n)) (min t.size 32) 1 := by unfold nameLen; rw [if_neg (fun q => q.elim (by omega) (fun q => by rw [hs] at q; cases q))]
  have h1 : 1 ≤ nameLen t := by rw [e1]; exact (scanTo_le _ (by omega)).1
  have h32 := (nameLen_le t).2
  have hs2 : smallB (bt u 0) = true := by rw [hb 0 (by omega)]; exact hs
  have e2 : nameLen u = scanTo (fun n => inNB (bt u n)) (min u.size 32) 1 := by unfold nameLen; rw [if_neg (fun q => q.elim (by omega) (fun q => by rw [hs2] at q; cases q))]
  have hm : ∀ j, 1 ≤ j → j < nameLen t → inNB (bt u j) = true := fun j h2 h3 => by
    rw [hb j h3]
    rw [e1] at h3
    exact (scanTo_mem (fun n => inNB (bt t n)) (min t.size 32) (min t.size 32) 1 (by omega) j h2 h3).1
  rw [e2, scanTo_all (p := fun n => inNB (bt u n)) (hi := min u.size 32) (m := nameLen t) (nameLen t - 1) 1 (by omega) (by omega) hm]
  by_cases hl : nameLen t < min u.size 32
  · refine scanTo_no (p := fun n => inNB (bt u n)) ?_
    rcases he with he | he
    · omega
    · exact (not_stk_in he).1
  · exact scanTo_end hl
theorem num_local {t u : ByteArray} {V n : Nat} (hn : n ≤ u.size) (hb : ∀ i, i < n → bt u i = bt t i) (he : n = u.size ∨ stkB (bt u n) = false) : ∀ f v k, t.size ≤ k + f → k ≤ t.size → numGo t v k = (V, n) → numGo u v k = (V, n)
  | 0, v, k, h, hk, hg => by
    rw [numGo_stop (by omega), Prod.mk.injEq] at hg
    rw [numGo_stop, hg.1, hg.2]
    rw [hg.2]
    rcases he with he | he
    · omega
    · intro q; rw [(not_stk_in he).2.1] at q; cases q.2.1
  | f + 1, v, k, h, hk, hg => by
    by_cases hc : k < t.size ∧ digB (bt t k) = true ∧ 0 < v ∧ v * 10 + (bt t k - 48) ≤ 65535
    · rw [numGo_go hc.1 hc.2.1 hc.2.2.1 hc.2.2.2] at hg
      have hle := (numGo_le t t.size (v * 10 + (bt t k - 48)) (k + 1) (by omega) (by omega)).1
      rw [hg] at hle
      have hkn : k < n := hle
      rw [numGo_go (by omega) (by rw [hb k hkn]; exact hc.2.1) hc.2.2.1 (by rw [hb k hkn]; exact hc.2.2.2), hb k hkn]
      exact num_local hn hb he f _ (k + 1) (by omega) (by omega) hg
    · rw [numGo_stop hc, Prod.mk.injEq] at hg
      rw [numGo_stop, hg.1, hg.2]
      rw [hg.2]
      rcases he with he | he
      · omega
      · intro q; rw [(not_stk_in he).2.1] at q; cases q.2.1
theorem numd_local {t u : ByteArray} {V n : Nat} (h3 : 3 ≤ n) (hn : n ≤ u.size) (hb : ∀ i, i < n → bt u i = bt t i) (he : n = u.size ∨ stkB (bt u n) = false) : ∀ f v k, t.size ≤ k + f → k ≤ t.size → numdGo t v k = (V, n) → numdGo u v k = (V, n)
  | 0, v, k, h, hk, hg => by
    rw [numdGo_stop (by omega), Prod.mk.injEq] at hg
    rw [numdGo_stop, hg.1, hg.2]
    rw [hg.2]
    rcases he with he | he
    · omega
    · intro q; have := hxB_hexI.2 q.2.2.1; rw [(not_stk_in he).2.2] at this; cases this
  | f + 1, v, k, h, hk, hg => by
    by_cases hc : k < t.size ∧ (k < 6 ∨ bt t 2 ≠ 48) ∧ 0 ≤ hexI (bt t k) ∧ v * 16 + (hexI (bt t k)).toNat ≤ 1114111
    · rw [numdGo_go hc] at hg
      have hle := (numdGo_le t t.size (v * 16 + (hexI (bt t k)).toNat) (k + 1) (by omega) (by omega)).1
      rw [hg] at hle
      have hkn : k < n := hle
      have hc2 : k < u.size ∧ (k < 6 ∨ bt u 2 ≠ 48) ∧ 0 ≤ hexI (bt u k) ∧ v * 16 + (hexI (bt u k)).toNat ≤ 1114111 := ⟨by omega, by rw [hb 2 (by omega)]; exact hc.2.1, by rw [hb k hkn]; exact hc.2.2.1, by rw [hb k hkn]; exact hc.2.2.2⟩
      rw [numdGo_go hc2, hb k hkn]
      exact numd_local h3 hn hb he f _ (k + 1) (by omega) (by omega) hg
    · rw [numdGo_stop hc, Prod.mk.injEq] at hg
      rw [numdGo_stop, hg.1, hg.2]
      rw [hg.2]
      rcases he with he | he
      · omega
      · intro q; have := hxB_hexI.2 q.2.2.1; rw [(not_stk_in he).2.2] at this; cases this
theorem dots_mk (t : ByteArray) (h : 2 ≤ t.size) (h0 : bt t 0 = 46) (h1 : bt t 1 = 46) : dotsB t = true := by
  unfold dotsB Lib.hasPrefix
  rw [List.isPrefixOf_iff_prefix]
  have e : t.data.toList = [t.get! 0, t.get! 1] ++ t.data.toList.drop 2 := by
    rw [show t.data.toList = t.data.toList.drop 0 from rfl, drop_bt t 0 (by omega), drop_bt t 1 (by omega)]
    rfl
  have g0 : t.get! 0 = 46 := by rw [← UInt8.toNat_inj]; exact h0
  have g1 : t.get! 1 = 46 := by rw [← UInt8.toNat_inj]; exact h1
  rw [e, g0, g1]
  exact ⟨_, rfl⟩
/-- What stands at the beginning of a text, when more bytes of it are the same than it has. -/
theorem decode_same {t u : ByteArray} {m : Nat} (hm : wd t 0 ≤ m) (ht : m ≤ t.size) (hu : m ≤ u.size) (h0 : 0 < m) (hb : ∀ i, i < m → bt u i = bt t i) (hg : ¬ (rn t 0 = 65533 ∧ wd t 0 = 1)) : Utf8.decode u 0 = Utf8.decode t 0 := by
  have e := ext_pre_eq ht hu hb
  have hz : (t.extract 0 m).size = m := by rw [ByteArray.size_extract]; omega
  have h1 := decode_part (t.extract 0 m) (t.extract m t.size) 0 (by omega) (by rw [cat_split t m ht, hz]; omega)
  rw [cat_split t m ht] at h1
  have h2 := decode_grow (u.extract 0 m) (u.extract m u.size) 0 (by rw [e]; omega) (by rw [e]; unfold rn wd; rw [h1]; exact hg)
  rw [cat_split u m hu] at h2
  rw [h2, e, h1]
theorem quo_local {t u : ByteArray} (ht : 0 < t.size) (ho : (quoV t).2.2 = true) (hn : (quoV t).2.1 ≤ u.size) (hb : ∀ i, i < (quoV t).2.1 → bt u i = bt t i) : quoV u = quoV t := by
  have hle := quoV_le t ht
  unfold quoV at ho
  split at ho
  · cases ho
  · rename_i h1
    split at ho
    · cases ho
    · rename_i h2
      split at ho
      · cases ho
      · rename_i h3
        split at ho
        · cases ho
        · rename_i h4
          split at ho
          · rename_i h5
            have ev : quoV t = (rn (tl1 t) 0, wd (tl1 t) 0 + 2, true) := by unfold quoV; rw [if_neg h1, if_neg h2, if_neg h3, if_neg h4, if_pos h5]
            rw [ev] at hn hb hle ⊢
            have hn' : wd (tl1 t) 0 + 2 ≤ u.size := hn
            have hb' : ∀ i, i < wd (tl1 t) 0 + 2 → bt u i = bt t i := hb
            have hle' : wd (tl1 t) 0 + 2 ≤ t.size := hle.2
            have zt := tl1_size t
            have zu := tl1_size u
            have hp := wd_pos (tl1 t) 0
            have hbt : ∀ i, i < wd (tl1 t) 0 + 1 → bt (tl1 u) i = bt (tl1 t) i := fun i hi => by
              rw [tl1_bt u i (by omega), tl1_bt t i (by omega)]
              exact hb' (1 + i) (by omega)
            have hwb : wholeB (tl1 t) = true := Bool.eq_false_or_eq_true _ |>.resolve_right h3
            have hg : ¬ (rn (tl1 t) 0 = 65533 ∧ wd (tl1 t) 0 = 1) := by
              unfold wholeB badB at hwb
              simp at hwb
              intro q
              rcases hwb.2 with h | h
              · exact h q.1
              · exact h q.2
            have hd := decode_same (t := tl1 t) (u := tl1 u) (m := wd (tl1 t) 0 + 1) (by omega) (by omega) (by omega) (by omega) hbt hg
            have r0 : rn (tl1 u) 0 = rn (tl1 t) 0 := by unfold rn; rw [hd]
            have w0 : wd (tl1 u) 0 = wd (tl1 t) 0 := by unfold wd; rw [hd]
            have hwu : wholeB (tl1 u) = true := by
              unfold wholeB badB
              rw [r0, w0, decide_eq_true (by omega), decide_eq_false hg]
              rfl
            have h5u : rn (tl1 u) (wd (tl1 u) 0) = 39 := by
              rw [rn_39, w0, hbt _ (by omega), ← rn_39]
              exact h5
            unfold quoV
            rw [if_neg (by omega), r0, if_neg h2, hwu, if_neg (by decide), if_neg (by rw [w0]; omega), if_pos h5u, w0]
          · cases ho
theorem sgn_local {t u : ByteArray} (ht : 0 < t.size) (ho : (sgnV t).2.2 = true) (hn : (sgnV t).2.1 ≤ u.size) (hb : ∀ i, i < (sgnV t).2.1 → bt u i = bt t i) : sgnV u = sgnV t := by
  have h1 := (sgnV_le t ht).2 ho
  have h0 : bt u 0 = bt t 0 := hb 0 (by omega)
  by_cases hd : bt t 0 = 46
  · have hdt : dotsB t = true := by
      cases q : dotsB t
      · unfold sgnV at ho
        rw [hd, q] at ho
        cases ho
      · rfl
    have ev : sgnV t = (9, 2, true) := by
      unfold sgnV
      rw [hd, hdt]
      rfl
    rw [ev] at hn hb ⊢
    have hn' : 2 ≤ u.size := hn
    have hdu : dotsB u = true := dots_mk u hn' (by rw [h0]; exact hd) (by rw [hb 1 (by show 1 < 2; omega)]; exact dots_bt t hdt)
    unfold sgnV
    rw [h0, hd, hdu]
    rfl
  · unfold sgnV
    rw [h0]
    simp only [if_neg hd]
/-- A word stays what it is, whatever stands behind it that does not stick to it. -/
theorem word_local {t u : ByteArray} (ht : 0 < t.size) (ho : (wordV t).ok = true) (hn : (wordV t).n ≤ u.size) (hb : ∀ i, i < (wordV t).n → bt u i = bt t i) (he : (smallB (bt t 0) = true ∨ digB (bt t 0) = true ∨ bt t 0 = 85) → (wordV t).n = u.size ∨ stkB (bt u (wordV t).n) = false) : wordV u = wordV t := by
  have hpos := (wordV_le t ht).2 ho
  have hle := (wordV_le t ht).1
  have h0 : bt u 0 = bt t 0 := hb 0 (by omega)
  by_cases hs : smallB (bt t 0) = true
  · have ev := wordV_sm hs
    have he' := he (.inl hs)
    rw [ev] at hn hb he' hle ho ⊢
    simp only at hn hb he' hle ho
    have hnl := name_local hs ht hn hb he'
    rw [wordV_sm (t := u) (by rw [h0]; exact hs), hnl, edge_yes he', ext_pre_eq hle hn hb, ho]
  · by_cases hd : digB (bt t 0) = true
    · have ev : wordV t = ⟨2, ByteArray.empty, 0, (numV t).1, (numV t).2, edgeB t (numV t).2⟩ := by unfold wordV; rw [if_neg hs, if_pos hd]
      have eu : wordV u = ⟨2, ByteArray.empty, 0, (numV u).1, (numV u).2, edgeB u (numV u).2⟩ := by unfold wordV; rw [h0, if_neg hs, if_pos hd]
      have he' := he (.inr (.inl hd))
      rw [ev] at hn hb he' hle ho
      simp only at hn hb he' hle ho
      have hnv : numV u = numV t := by
        have := num_local (V := (numV t).1) (n := (numV t).2) hn hb he' t.size (bt t 0 - 48) 1 (by omega) (by omega) rfl
        unfold numV
        rw [h0]
        exact this
      rw [eu, ev, hnv, ho, edge_yes he']
    · by_cases hu : bt t 0 = 85
      · have ev : wordV t = ⟨3, ByteArray.empty, (numdV t).1, 0, (numdV t).2.1, (numdV t).2.2 && edgeB t (numdV t).2.1⟩ := by unfold wordV; rw [if_neg hs, if_neg hd, if_pos hu]
        have eu : wordV u = ⟨3, ByteArray.empty, (numdV u).1, 0, (numdV u).2.1, (numdV u).2.2 && edgeB u (numdV u).2.1⟩ := by unfold wordV; rw [h0, if_neg hs, if_neg hd, if_pos hu]
        have he' := he (.inr (.inr hu))
        rw [ev] at hn hb he' hle ho
        simp only at hn hb he' hle ho
        have ho2 := (Bool.and_eq_true _ _).mp ho
        have hnv : numdV u = numdV t := by
          have hok := ho2.1
          unfold numdV at hok
          split at hok
          · cases hok
          · rename_i g1
            split at hok
            · cases hok
            · rename_i g2
              have evd : numdV t = ((numdGo t 0 2).1, (numdGo t 0 2).2, true) := by unfold numdV; rw [if_neg g1, if_neg g2]
              rw [evd] at hn hb he' ⊢
              simp only at hn hb he'
              have hg := numd_local (V := (numdGo t 0 2).1) (n := (numdGo t 0 2).2) (by omega) hn hb he' t.size 0 2 (by omega) (by omega) rfl
              have h1 := hb 1 (by omega)
              unfold numdV
              rw [hg, h1, if_neg (fun q => q.elim (fun q => by omega) (fun q => g1 (.inr q))), if_neg g2]
        rw [eu, ev, hnv, ho, ho2.1, edge_yes he']
        rfl
      · by_cases hq : bt t 0 = 39
        · have ev : wordV t = ⟨3, ByteArray.empty, (quoV t).1, 0, (quoV t).2.1, (quoV t).2.2⟩ := by unfold wordV; rw [if_neg hs, if_neg hd, if_neg hu, if_pos hq]
          have eu : wordV u = ⟨3, ByteArray.empty, (quoV u).1, 0, (quoV u).2.1, (quoV u).2.2⟩ := by unfold wordV; rw [h0, if_neg hs, if_neg hd, if_neg hu, if_pos hq]
          rw [ev] at hn hb ho
          rw [eu, ev, quo_local ht ho hn hb]
        · have ev : wordV t = ⟨(sgnV t).1, ByteArray.empty, 0, 0, (sgnV t).2.1, (sgnV t).2.2⟩ := by unfold wordV; rw [if_neg hs, if_neg hd, if_neg hu, if_neg hq]
          have eu : wordV u = ⟨(sgnV u).1, ByteArray.empty, 0, 0, (sgnV u).2.1, (sgnV u).2.2⟩ := by unfold wordV; rw [h0, if_neg hs, if_neg hd, if_neg hu, if_neg hq]
          rw [ev] at hn hb ho
          rw [eu, ev, sgn_local ht ho hn hb]
end Go.Proofs.YtcnhkhjkeemafaaDoor
/- Texts behind one another, and words with other blanks between them: plain mathematics. -/
namespace Go.Proofs.YtcnhkhjkeemafaaDoor
open Go.RowKit Go.Shelf
set_option linter.unusedVariables false
theorem scanTo_agree {q q' : Nat → Bool} {m hi hi' : Nat} (hq : ∀ j, j < m → q' j = q j) (h1 : m ≤ hi) (h2 : m ≤ hi') (e1 : m = hi ∨ q m = false) (e2 : m = hi' ∨ q' m = false) : ∀ k n, m = n + k → scanTo q' hi' n = scanTo q hi n
  | 0, n, h => by
    obtain rfl : m = n := by omega
    have a1 : scanTo q hi m = m := by
      rcases e1 with e | e
      · exact scanTo_end (by omega)
      · exact scanTo_no e
    have a2 : scanTo q' hi' m = m := by
      rcases e2 with e | e
      · exact scanTo_end (by omega)
      · exact scanTo_no e
    rw [a1, a2]
  | k + 1, n, h => by
    cases hp : q n with
    | true => rw [scanTo_go (by omega) hp, scanTo_go (p := q') (by omega) (by rw [hq n (by omega)]; exact hp)]; exact scanTo_agree hq h1 h2 e1 e2 k (n + 1) (by omega)
    | false => rw [scanTo_no hp, scanTo_no (p := q') (by rw [hq n (by omega)]; exact hp)]
/-- A remark hangs on its line alone. -/
theorem rem_agree {t u : ByteArray} {m : Nat} (ht : m ≤ t.size) (hu : m ≤ u.size) (hb : ∀ j, j < m → bt u j = bt t j) (e1 : m = t.size ∨ bt t m = 10) (e2 : m = u.size ∨ bt u m = 10) : remV u = remV t := by
  have hn : nlAt u = nlAt t := by
    unfold nlAt
    exact scanTo_agree (q := fun n => !decide (bt t n = 10)) (q' := fun n => !decide (bt u n = 10)) (m := m) (fun j hj => by rw [hb j hj]) ht hu (e1.imp id (fun h => by rw [h]; rfl)) (e2.imp id (fun h => by rw [h]; rfl)) m 0 (by omega)
  have hnm : nlAt t ≤ m := by
    unfold nlAt
    rcases Nat.lt_or_ge m (scanTo (fun n => !decide (bt t n = 10)) t.size 0) with q | q
    · have := scanTo_mem (fun n => !decide (bt t n = 10)) t.size t.size 0 (by omega) m (by omega) q
      rcases e1 with e | e
      · omega
      · rw [e] at this; cases this.1
    · exact q
  have hx : u.extract 0 (nlAt u) = t.extract 0 (nlAt t) := by
    rw [hn]
    exact ext_pre_eq (by omega) (by omega) (fun i hi => hb i (by omega))
  unfold remV
  rw [hx]
/-- The words' places. -/
def mkW (s : ByteArray) (q : Nat) : Wd := ⟨wordV (rst s q), q, (lcAt s q).1, (lcAt s q).2, q + (wordV (rst s q)).n⟩
def cutP (s : ByteArray) : Nat → Nat → Option (List Nat)
  | 0, _ => none
  | f + 1, b => if (gapA s b).2 = false then none else if (gapA s b).1 = s.size then some [] else if (wordV (rst s (gapA s b).1)).ok = false then none
    else (cutP s f ((gapA s b).1 + (wordV (rst s (gapA s b).1)).n)).map ((gapA s b).1 :: ·)
theorem cutP_bad {s : ByteArray} {f b : Nat} (h : (gapA s b).2 = false) : cutP s (f + 1) b = none := by rw [cutP, if_pos h]
theorem cutP_end {s : ByteArray} {f b : Nat} (h : (gapA s b).2 = true) (he : (gapA s b).1 = s.size) : cutP s (f + 1) b = some [] := by rw [cutP, if_neg (by rw [h]; decide), if_pos he]
theorem cutP_no {s : ByteArray} {f b : Nat} (h : (gapA s b).2 = true) (he : (gapA s b).1 ≠ s.size) (ho : (wordV (rst s (gapA s b).1)).ok = false) : cutP s (f + 1) b = none := by rw [cutP, if_neg (by rw [h]; decide), if_neg he, if_pos ho]
theorem cutP_go {s : ByteArray} {f b : Nat} (h : (gapA s b).2 = true) (he : (gapA s b).1 ≠ s.size) (ho : (wordV (rst s (gapA s b).1)).ok = true) : cutP s (f + 1) b = (cutP s f ((gapA s b).1 + (wordV (rst s (gapA s b).1)).n)).map ((gapA s b).1 :: ·) := by rw [cutP, if_neg (by rw [h]; decide), if_neg he, if_neg (by rw [ho]; decide)]
theorem gapA_le (s : ByteArray) (b : Nat) (h : b ≤ s.size) : b ≤ (gapA s b).1 ∧ (gapA s b).1 ≤ s.size := gB_le s b h
theorem word_at (s : ByteArray) (q : Nat) (hq : q < s.size) (ho : (wordV (rst s q)).ok = true) : 1 ≤ (wordV (rst s q)).n ∧ q + (wordV (rst s q)).n ≤ s.size ∧ bdB s q = true ∧ bdB s (q + (wordV (rst s q)).n) = true ∧ blankB (bt s q) = false ∧ bt s q ≠ 35 := by
  have hp : 0 < (rst s q).size := by rw [rst_size]; omega
  have hle := wordV_le (rst s q) hp
  rw [rst_size] at hle
  have hn := hle.2 ho
  have e0 : bt (rst s q) 0 = bt s q := rst_at s q 0 (by omega)
  have hf := word_first _ ho
  rw [e0] at hf
  have hl := word_last _ hp ho
  rw [rst_at s q _ (by omega)] at hl
  have hnx : bdB s (q + (wordV (rst s q)).n) = true := by
    have := bd_next s (q + ((wordV (rst s q)).n - 1)) (by omega) hl
    rwa [show q + ((wordV (rst s q)).n - 1) + 1 = q + (wordV (rst s q)).n by omega] at this
  have hbl : ¬ (blankB (bt s q) = true ∨ bt s q = 35) := by
    intro h
    have hc : bt (rst s q) 0 = 9 ∨ bt (rst s q) 0 = 10 ∨ bt (rst s q) 0 = 13 ∨ bt (rst s q) 0 = 32 ∨ bt (rst s q) 0 = 35 := by
      rw [e0]
      unfold blankB at h
      simp at h
      omega
    have : (wordV (rst s q)).ok = false := by
      unfold wordV sgnV
      rcases hc with h | h | h | h | h <;> (rw [h]; rfl)
    rw [this] at ho
    cases ho
  refine ⟨hn, by omega, bd_ascii s q hf, hnx, ?_, fun h => hbl (.inr h)⟩
  cases hb : blankB (bt s q)
  · rfl
  · exact absurd (.inl hb) hbl
theorem cut_P (s : ByteArray) : ∀ f b ws, b ≤ s.size → bdB s b = true → (∀ ps, cutP s f b = some ps → (cutGo s f b (lcAt s b) ws).ok = true ∧ (cutGo s f b (lcAt s b) ws).ws = ws ++ ps.map (mkW s)) ∧ (cutP s f b = none → (cutGo s f b (lcAt s b) ws).ok = false)
  | 0, b, ws, hb, hd => ⟨fun ps h => by (cases h), fun _ => rfl⟩
  | f + 1, b, ws, hb, hd => by
    have hg := gapA_le s b hb
    have hgl : gLC s b (lcAt s b) = lcAt s (gB s b) := by
      unfold gLC
      rw [lcB_at s b _ (by have := hg.2; exact this) hd]
      rfl
    cases h1 : (gapA s b).2
    · have h1' : (gapV (rst s b)).2 = false := h1
      rw [cutP_bad h1]
      unfold cutGo
      rw [if_pos h1']
      exact ⟨fun ps h => by (cases h), fun _ => rfl⟩
    · have h1' : ¬ (gapV (rst s b)).2 = false := by rw [show (gapV (rst s b)).2 = true from h1]; decide
      by_cases he : (gapA s b).1 = s.size
      · rw [cutP_end h1 he]
        have he' : (rst s (gB s b)).size = 0 := by rw [rst_size]; have : gB s b = s.size := he; omega
        unfold cutGo
        rw [if_neg h1', if_pos he']
        exact ⟨fun ps h => by cases h; exact ⟨rfl, by simp⟩, fun h => by cases h⟩
      · have hq : gB s b < s.size := by have h9 : gB s b ≠ s.size := he; have h8 : gB s b ≤ s.size := hg.2; omega
        have he' : ¬ (rst s (gB s b)).size = 0 := by rw [rst_size]; omega
        cases h2 : (wordV (rst s (gapA s b).1)).ok
        · have h2' : (wordV (rst s (gB s b))).ok = false := h2
          rw [cutP_no h1 he h2]
          unfold cutGo
          rw [if_neg h1', if_neg he', if_pos h2']
          exact ⟨fun ps h => by (cases h), fun _ => rfl⟩
        · have h2' : (wordV (rst s (gB s b))).ok = true := h2
          obtain ⟨hn, hle, hbq, hbn, _, _⟩ := word_at s (gB s b) hq h2'
          have ih := cut_P s f (gB s b + (wordV (rst s (gB s b))).n) (ws ++ [mkW s (gB s b)]) hle hbn
          have e : cutGo s (f + 1) b (lcAt s b) ws = cutGo s f (gB s b + (wordV (rst s (gB s b))).n) (lcAt s (gB s b + (wordV (rst s (gB s b))).n)) (ws ++ [mkW s (gB s b)]) := by
            conv => lhs; unfold cutGo
            rw [if_neg h1', if_neg he', if_neg (by rw [h2']; decide), hgl, lcB_at s _ _ hle hbq]
            rfl
          rw [e, cutP_go h1 he h2]
          refine ⟨fun ps h => ?_, fun h => ?_⟩
          · obtain ⟨qs, h3, rfl⟩ := Option.map_eq_some_iff.1 h
            obtain ⟨i1, i2⟩ := ih.1 qs h3
            refine ⟨i1, ?_⟩
            rw [i2, List.append_assoc]
            rfl
          · exact ih.2 (Option.map_eq_none_iff.1 h)
theorem cutP_fuel (s : ByteArray) : ∀ f g b, b ≤ s.size → s.size < b + f → s.size < b + g → cutP s f b = cutP s g b
  | 0, g, b, hb, hf, hg => by omega
  | f + 1, 0, b, hb, hf, hg => by omega
  | f + 1, g + 1, b, hb, hf, hg => by
    have hq := gapA_le s b hb
    cases h1 : (gapA s b).2
    · rw [cutP_bad h1, cutP_bad h1]
    · by_cases he : (gapA s b).1 = s.size
      · rw [cutP_end h1 he, cutP_end h1 he]
      · cases h2 : (wordV (rst s (gapA s b).1)).ok
        · rw [cutP_no h1 he h2, cutP_no h1 he h2]
        · have hw := word_at s (gapA s b).1 (by omega) h2
          rw [cutP_go h1 he h2, cutP_go h1 he h2, cutP_fuel s f g _ hw.2.1 (by omega) (by omega)]
/-- The places of a text's words; none, if it is not right by its words. -/
def posV (s : ByteArray) : Option (List Nat) := cutP s (s.size + 1) 0
theorem words_pos {s : ByteArray} {ps : List Nat} (h : posV s = some ps) : (wordsV s).ok = true ∧ (wordsV s).ws = ps.map (mkW s) := by
  have := (cut_P s (s.size + 1) 0 [] (Nat.zero_le _) (bd_zero s)).1 ps h
  rw [lcAt_zero] at this
  simpa [wordsV] using this
theorem words_none {s : ByteArray} (h : posV s = none) : (wordsV s).ok = false := by
  have := (cut_P s (s.size + 1) 0 [] (Nat.zero_le _) (bd_zero s)).2 h
  rw [lcAt_zero] at this
  exact this
theorem cutP_mem (s : ByteArray) : ∀ f b ps, b ≤ s.size → cutP s f b = some ps → ∀ p ∈ ps, p < s.size ∧ (wordV (rst s p)).ok = true
  | 0, b, ps, hb, h => by cases h
  | f + 1, b, ps, hb, h => by
    have hq := gapA_le s b hb
    cases h1 : (gapA s b).2
    · rw [cutP_bad h1] at h; cases h
    · by_cases he : (gapA s b).1 = s.size
      · rw [cutP_end h1 he] at h; cases h; intro p hp; cases hp
      · cases h2 : (wordV (rst s (gapA s b).1)).ok
        · rw [cutP_no h1 he h2] at h; cases h
        · have hw := word_at s (gapA s b).1 (by omega) h2
          rw [cutP_go h1 he h2] at h
          obtain ⟨qs, h3, rfl⟩ := Option.map_eq_some_iff.1 h
          intro p hp
          rcases List.mem_cons.1 hp with rfl | hp
          · exact ⟨by omega, h2⟩
          · exact cutP_mem s f _ qs hw.2.1 h3 p hp
end Go.Proofs.YtcnhkhjkeemafaaDoor
/- Two texts behind one another; words with other blanks between them: plain mathematics. -/
namespace Go.Proofs.YtcnhkhjkeemafaaDoor
open Go.RowKit Go.Shelf
set_option linter.unusedVariables false
/-- Two texts, a line's end between them. -/
def joinT (a b : ByteArray) : ByteArray := a ++ ⟨#[10]⟩ ++ b
theorem joinT_size (a b : ByteArray) : (joinT a b).size = a.size + 1 + b.size := by unfold joinT; rw [ByteArray.size_append, ByteArray.size_append]; rfl
theorem joinT_left (a b : ByteArray) (i : Nat) (h : i < a.size) : bt (joinT a b) i = bt a i := by
  unfold joinT bt
  rw [get_append, if_pos (by rw [ByteArray.size_append]; omega), get_append, if_pos h]
theorem joinT_mid (a b : ByteArray) : bt (joinT a b) a.size = 10 := by
  unfold joinT bt
  rw [get_append, if_pos (by rw [ByteArray.size_append]; show a.size < a.size + 1; omega), get_append, if_neg (by omega), Nat.sub_self]
  rfl
theorem joinT_right (a b : ByteArray) (i : Nat) : bt (joinT a b) (a.size + 1 + i) = bt b i := by
  unfold joinT bt
  have hz : (a ++ (⟨#[10]⟩ : ByteArray)).size = a.size + 1 := by rw [ByteArray.size_append]; rfl
  rw [get_append, if_neg (by omega), hz, Nat.add_sub_cancel_left]
theorem joinT_rst (a b : ByteArray) (q : Nat) (hq : q ≤ b.size) : rst (joinT a b) (a.size + 1 + q) = rst b q := by
  have hz := joinT_size a b
  refine ext_get _ _ (by rw [rst_size, rst_size]; omega) (fun j hj => ?_)
  rw [rst_at _ _ _ (by omega), rst_at _ _ _ hq, Nat.add_assoc, joinT_right]
theorem joinT_pre (a b : ByteArray) (p : Nat) (hp : p ≤ a.size) : (joinT a b).extract 0 p = a.extract 0 p :=
  ext_pre_eq hp (by rw [joinT_size]; omega) (fun i hi => joinT_left a b i (by omega))
theorem joinT_lc (a b : ByteArray) (p : Nat) (hp : p ≤ a.size) : lcAt (joinT a b) p = lcAt a p := by unfold lcAt; rw [joinT_pre a b p hp]
theorem rem_join (a b : ByteArray) (p : Nat) (hp : p ≤ a.size) : remV (rst (joinT a b) p) = remV (rst a p) := by
  have hz := joinT_size a b
  refine rem_agree (m := a.size - p) (by rw [rst_size]; omega) (by rw [rst_size]; omega) (fun j hj => ?_) (.inl (by rw [rst_size])) (.inr ?_)
  · rw [rst_at _ _ _ (by omega), rst_at _ _ _ hp, joinT_left a b _ (by omega)]
  · rw [rst_at _ _ _ (by omega), show p + (a.size - p) = a.size by omega, joinT_mid]
theorem gap_mid (a b : ByteArray) : gapA (joinT a b) a.size = gapA (joinT a b) (a.size + 1) := gapA_blank _ _ (by rw [joinT_size]; omega) (by rw [joinT_mid]; rfl)
theorem gap_join (a b : ByteArray) : ∀ k p q, a.size ≤ p + k → p ≤ a.size → gapA a p = (q, true) → (q < a.size → gapA (joinT a b) p = (q, true)) ∧ (q = a.size → gapA (joinT a b) p = gapA (joinT a b) (a.size + 1))
  | 0, p, q, h, hp, hg => by
    obtain rfl : p = a.size := by omega
    have := (gapA_le a a.size (Nat.le_refl _)).1
    rw [hg] at this
    have h9 : a.size ≤ q := this
    exact ⟨fun h => by omega, fun _ => gap_mid a b⟩
  | k + 1, p, q, h, hp, hg => by
    by_cases he : p = a.size
    · subst he
      have := (gapA_le a a.size (Nat.le_refl _)).1
      rw [hg] at this
      have h9 : a.size ≤ q := this
      exact ⟨fun h => by omega, fun _ => gap_mid a b⟩
    · have hlt : p < a.size := by omega
      have hls : p < (joinT a b).size := by rw [joinT_size]; omega
      have hbt := joinT_left a b p hlt
      cases hb : blankB (bt a p)
      · by_cases hr : bt a p = 35
        · rw [gapA_sharp a p hlt hr] at hg
          rw [gapA_sharp (joinT a b) p hls (by rw [hbt]; exact hr), rem_join a b p hp]
          by_cases ho : (remV (rst a p)).2 = true
          · rw [if_pos ho] at hg ⊢
            have hz : 0 < (rst a p).size := by rw [rst_size]; omega
            have h0 : bt (rst a p) 0 = 35 := by rw [rst_at a p 0 hp]; exact hr
            have hm := remV_pos2 (rst a p) hz (by rw [h0]; decide) ho
            rw [rst_size] at hm
            exact gap_join a b k _ q (by omega) (by omega) hg
          · rw [if_neg ho, Prod.mk.injEq] at hg
            cases hg.2
        · rw [gapA_stop a p hlt hb hr, Prod.mk.injEq] at hg
          obtain ⟨rfl, _⟩ := hg
          exact ⟨fun _ => gapA_stop _ _ hls (by rw [hbt]; exact hb) (by rw [hbt]; exact hr), fun h => by omega⟩
      · rw [gapA_blank a p hlt hb] at hg
        rw [gapA_blank (joinT a b) p hls (by rw [hbt]; exact hb)]
        exact gap_join a b k (p + 1) q (by omega) (by omega) hg
theorem word_edge {t : ByteArray} (ho : (wordV t).ok = true) (hc : smallB (bt t 0) = true ∨ digB (bt t 0) = true ∨ bt t 0 = 85) : edgeB t (wordV t).n = true := by
  unfold wordV at ho ⊢
  split at ho
  · rename_i hs; rw [if_pos hs]; exact ho
  · rename_i hs
    rw [if_neg hs]
    split at ho
    · rename_i hd; rw [if_pos hd]; exact ho
    · rename_i hd
      rw [if_neg hd]
      split at ho
      · rename_i hu; rw [if_pos hu]; exact ((Bool.and_eq_true _ _).mp ho).2
      · rename_i hu
        rcases hc with h | h | h
        · exact absurd h hs
        · exact absurd h hd
        · exact absurd h hu
theorem word_join (a b : ByteArray) (p : Nat) (hp : p < a.size) (ho : (wordV (rst a p)).ok = true) : wordV (rst (joinT a b) p) = wordV (rst a p) := by
  have hz := joinT_size a b
  have hw := word_at a p hp ho
  refine word_local (by rw [rst_size]; omega) ho (by rw [rst_size]; omega) (fun i hi => ?_) (fun hc => ?_)
  · rw [rst_at _ _ _ (by omega), rst_at _ _ _ (by omega), joinT_left a b _ (by omega)]
  · right
    rw [rst_at _ _ _ (by omega)]
    have he := word_edge ho hc
    unfold edgeB at he
    rw [rst_size, rst_at _ _ _ (by omega)] at he
    by_cases e : p + (wordV (rst a p)).n = a.size
    · rw [e, joinT_mid]; rfl
    · rw [joinT_left a b _ (by omega)]
      rw [decide_eq_false (by omega), Bool.false_or] at he
      simpa using he
theorem cutP_same {s : ByteArray} {f b c : Nat} (h : gapA s b = gapA s c) : cutP s (f + 1) b = cutP s (f + 1) c := by rw [cutP, cutP, h]
theorem cutP_left (a b : ByteArray) : ∀ f p ps, p ≤ a.size → cutP a f p = some ps → ∀ g, (joinT a b).size < a.size + 1 + g → cutP (joinT a b) (f + g) p = (cutP (joinT a b) g (a.size + 1)).map (ps ++ ·)
  | 0, p, ps, hp, h, g, hg => by cases h
  | f + 1, p, ps, hp, h, g, hg => by
    have hz := joinT_size a b
    have hq := gapA_le a p hp
    cases h1 : (gapA a p).2
    · rw [cutP_bad h1] at h; cases h
    · have hj := gap_join a b a.size p (gapA a p).1 (by omega) hp (by rw [← h1])
      by_cases he : (gapA a p).1 = a.size
      · rw [cutP_end h1 he] at h
        cases h
        rw [show f + 1 + g = f + g + 1 by omega, cutP_same (hj.2 he), cutP_fuel (joinT a b) (f + g + 1) g _ (by omega) (by omega) hg]
        cases cutP (joinT a b) g (a.size + 1) <;> rfl
      · cases h2 : (wordV (rst a (gapA a p).1)).ok
        · rw [cutP_no h1 he h2] at h; cases h
        · rw [cutP_go h1 he h2] at h
          obtain ⟨qs, h3, rfl⟩ := Option.map_eq_some_iff.1 h
          have hlt : (gapA a p).1 < a.size := by omega
          have hw := word_at a _ hlt h2
          have hs := hj.1 hlt
          have hwj := word_join a b _ hlt h2
          have ih := cutP_left a b f _ qs hw.2.1 h3 g hg
          generalize (gapA a p).1 = q at *
          have hs1 : (gapA (joinT a b) p).1 = q := by rw [hs]
          have hs2 : (gapA (joinT a b) p).2 = true := by rw [hs]
          rw [show f + 1 + g = f + g + 1 by omega, cutP_go hs2 (by rw [hs1]; omega) (by rw [hs1, hwj]; exact h2), hs1, hwj, ih]
          cases cutP (joinT a b) g (a.size + 1) <;> rfl
theorem gap_right (a b : ByteArray) (q : Nat) (hq : q ≤ b.size) : gapA (joinT a b) (a.size + 1 + q) = (a.size + 1 + (gapA b q).1, (gapA b q).2) := by
  unfold gapA
  rw [joinT_rst a b q hq, Prod.mk.injEq]
  exact ⟨by show _ = a.size + 1 + (q + _); omega, rfl⟩
theorem cutP_right (a b : ByteArray) : ∀ f q, q ≤ b.size → cutP (joinT a b) f (a.size + 1 + q) = (cutP b f q).map (List.map (a.size + 1 + ·))
  | 0, q, hq => rfl
  | f + 1, q, hq => by
    have hz := joinT_size a b
    have hg := gap_right a b q hq
    have hg1 : (gapA (joinT a b) (a.size + 1 + q)).1 = a.size + 1 + (gapA b q).1 := by rw [hg]
    have hg2 : (gapA (joinT a b) (a.size + 1 + q)).2 = (gapA b q).2 := by rw [hg]
    have hle := gapA_le b q hq
    cases h1 : (gapA b q).2
    · rw [cutP_bad h1, cutP_bad (by rw [hg2]; exact h1)]; rfl
    · by_cases he : (gapA b q).1 = b.size
      · rw [cutP_end h1 he, cutP_end (by rw [hg2]; exact h1) (by rw [hg1]; omega)]; rfl
      · have hr := joinT_rst a b (gapA b q).1 hle.2
        cases h2 : (wordV (rst b (gapA b q).1)).ok
        · rw [cutP_no h1 he h2, cutP_no (by rw [hg2]; exact h1) (by rw [hg1]; omega) (by rw [hg1, hr]; exact h2)]; rfl
        · have hw := word_at b (gapA b q).1 (by omega) h2
          rw [cutP_go h1 he h2, cutP_go (by rw [hg2]; exact h1) (by rw [hg1]; omega) (by rw [hg1, hr]; exact h2), hg1, hr, Nat.add_assoc (a.size + 1), cutP_right a b f _ hw.2.1]
          cases cutP b f ((gapA b q).1 + (wordV (rst b (gapA b q).1)).n) <;> rfl
theorem pos_join {a b : ByteArray} {ps qs : List Nat} (ha : posV a = some ps) (hb : posV b = some qs) : posV (joinT a b) = some (ps ++ qs.map (a.size + 1 + ·)) := by
  have hz := joinT_size a b
  have h1 := cutP_left a b (a.size + 1) 0 ps (Nat.zero_le _) ha (b.size + 1) (by omega)
  have h2 := cutP_right a b (b.size + 1) 0 (Nat.zero_le _)
  rw [Nat.add_zero] at h2
  unfold posV
  rw [cutP_fuel (joinT a b) _ (a.size + 1 + (b.size + 1)) 0 (Nat.zero_le _) (by omega) (by omega), h1, h2, show cutP b (b.size + 1) 0 = some qs from hb]
  rfl
theorem lcR_shift (L : Nat) : ∀ (zs : List Int) (x c : Nat), lcR (x + L, c) zs = ((lcR (x, c) zs).1 + L, (lcR (x, c) zs).2)
  | [], x, c => rfl
  | z :: zs, x, c => by
    rw [lcR_cons, lcR_cons]
    by_cases h : z = 10
    · rw [if_pos h, if_pos h]
      show lcR (x + L + 1, 1) zs = _
      rw [show x + L + 1 = x + 1 + L by omega]
      exact lcR_shift L zs (x + 1) 1
    · rw [if_neg h, if_neg h]
      exact lcR_shift L zs x (c + 1)
theorem lc_right (a b : ByteArray) (q : Nat) (hq : q ≤ b.size) : lcAt (joinT a b) (a.size + 1 + q) = ((lcAt b q).1 + (lcAt a a.size).1, (lcAt b q).2) := by
  have hz := joinT_size a b
  have hb0 : bdB (joinT a b) a.size = true := bd_ascii _ _ (by rw [joinT_mid]; decide)
  have hw : wd (joinT a b) a.size = 1 := by
    rcases Nat.lt_or_ge (wd (joinT a b) a.size) 2 with h | h
    · have := wd_pos (joinT a b) a.size; omega
    · have := wd_lead (joinT a b) a.size h; rw [joinT_mid] at this; omega
  have hs := lcAt_step (joinT a b) a.size hb0 (by omega)
  rw [hw, if_pos (joinT_mid a b), joinT_lc a b a.size (Nat.le_refl _)] at hs
  have hb1 : bdB (joinT a b) (a.size + 1) = true := bd_next _ _ (by omega) (by rw [joinT_mid]; decide)
  have hon := lcR_on (joinT a b) (a.size + 1) (a.size + 1 + q) (1, 1) (by omega) (by omega) (bd_pre _ _ _ hb1 (by omega) (by omega))
  have hx : (joinT a b).extract (a.size + 1) (a.size + 1 + q) = b.extract 0 q := by
    refine ext_get _ _ (by rw [ByteArray.size_extract, ByteArray.size_extract]; omega) (fun j hj => ?_)
    rw [ByteArray.size_extract] at hj
    unfold bt
    rw [get_extract _ _ _ _ (by omega) (by omega), get_extract b 0 q j (by omega) hq, Nat.zero_add]
    exact joinT_right a b j
  show lcR (1, 1) (runesL ((joinT a b).extract 0 (a.size + 1 + q))) = _
  rw [hon, hx]
  show lcR (lcAt (joinT a b) (a.size + 1)) _ = _
  rw [hs, show ((lcAt a a.size).1 + 1, 1) = (1 + (lcAt a a.size).1, 1) by rw [Nat.add_comm]]
  exact lcR_shift _ _ 1 1
/-- A word of the first text, and one of the second. -/
theorem mk_left {a b : ByteArray} {p : Nat} (hp : p < a.size) (ho : (wordV (rst a p)).ok = true) : mkW (joinT a b) p = mkW a p := by unfold mkW; rw [word_join a b p hp ho, joinT_lc a b p (by omega)]
theorem mk_right {a b : ByteArray} {q : Nat} (hq : q ≤ b.size) : mkW (joinT a b) (a.size + 1 + q) = ⟨(mkW b q).v, (mkW b q).b + a.size + 1, (mkW b q).l + (lcAt a a.size).1, (mkW b q).c, (mkW b q).e + a.size + 1⟩ := by
  unfold mkW
  rw [joinT_rst a b q hq, lc_right a b q hq]
  simp only [Wd.mk.injEq, true_and]
  omega
end Go.Proofs.YtcnhkhjkeemafaaDoor
/- Words with other blanks and remarks between them: plain mathematics. -/
namespace Go.Proofs.YtcnhkhjkeemafaaDoor
open Go.RowKit Go.Shelf
set_option linter.unusedVariables false
/-- What is put between words. -/
def fills : List ByteArray := [⟨#[32]⟩, ⟨#[9]⟩, ⟨#[13, 10]⟩, ⟨#[35, 195, 169, 32, 125, 32, 120, 10]⟩, ⟨#[35, 32, 10, 10]⟩, ⟨#[10]⟩]
theorem app_left (r x : ByteArray) (i : Nat) (h : i < r.size) : bt (r ++ x) i = bt r i := by unfold bt; rw [get_append, if_pos h]
theorem app_right (r x : ByteArray) (i : Nat) : bt (r ++ x) (r.size + i) = bt x i := by unfold bt; rw [get_append, if_neg (by omega), Nat.add_sub_cancel_left]
theorem app_rst (r x : ByteArray) : (r ++ x).extract r.size (r ++ x).size = x := by
  have hz : (r ++ x).size = r.size + x.size := ByteArray.size_append
  refine ext_get _ _ (by rw [ByteArray.size_extract]; omega) (fun j hj => ?_)
  unfold bt
  rw [get_suffix _ _ _ (by omega)]
  exact app_right r x j
theorem rst_0 (s : ByteArray) : rst s 0 = s := ByteArray.extract_zero_size
theorem gapA_zero (u : ByteArray) : gapA u 0 = gapV u := by
  unfold gapA
  rw [rst_0, Nat.zero_add]
theorem fill_stop (r x : ByteArray) (hx : 0 < x.size) (hb : blankB (bt x 0) = false) (h35 : bt x 0 ≠ 35) : gapA (r ++ x) r.size = (r.size, true) := by
  have hz : (r ++ x).size = r.size + x.size := ByteArray.size_append
  have e : bt (r ++ x) r.size = bt x 0 := app_right r x 0
  exact gapA_stop _ _ (by omega) (by rw [e]; exact hb) (by rw [e]; exact h35)
theorem fill_blank (r x : ByteArray) (i : Nat) (h : i < r.size) (hb : blankB (bt r i) = true) : gapA (r ++ x) i = gapA (r ++ x) (i + 1) :=
  gapA_blank _ _ (by rw [ByteArray.size_append]; omega) (by rw [app_left r x i h]; exact hb)
theorem fill_rem (r x : ByteArray) (m : Nat) (h0 : bt r 0 = 35) (hm : m < r.size) (h10 : bt r m = 10) (hr : remV r = (m, true)) : gapA (r ++ x) 0 = gapA (r ++ x) m := by
  have hz : (r ++ x).size = r.size + x.size := ByteArray.size_append
  have hrem : remV (r ++ x) = remV r := rem_agree (m := m) (by omega) (by omega) (fun j hj => app_left r x j (by omega)) (.inr h10) (.inr (by rw [app_left r x m hm]; exact h10))
  rw [gapA_sharp _ 0 (by omega) (by rw [app_left r x 0 (by omega)]; exact h0), rst_0, hrem, hr, if_pos rfl, Nat.zero_add]
theorem gap_fill (r x : ByteArray) (hr : r ∈ fills) (hx : 0 < x.size) (hb : blankB (bt x 0) = false) (h35 : bt x 0 ≠ 35) : gapV (r ++ x) = (r.size, true) := by
  rw [← gapA_zero]
  have hs := fill_stop r x hx hb h35
  simp only [fills, List.mem_cons, List.not_mem_nil, or_false] at hr
  rcases hr with rfl | rfl | rfl | rfl | rfl | rfl
  · rw [fill_blank _ x 0 (by decide) (by decide)]; exact hs
  · rw [fill_blank _ x 0 (by decide) (by decide)]; exact hs
  · rw [fill_blank _ x 0 (by decide) (by decide), fill_blank _ x 1 (by decide) (by decide)]; exact hs
  · rw [fill_rem _ x 7 (by decide) (by decide) (by decide) (by kernel_rfl), fill_blank _ x 7 (by decide) (by decide)]; exact hs
  · rw [fill_rem _ x 2 (by decide) (by decide) (by decide) (by kernel_rfl), fill_blank _ x 2 (by decide) (by decide), fill_blank _ x 3 (by decide) (by decide)]; exact hs
  · rw [fill_blank _ x 0 (by decide) (by decide)]; exact hs
theorem fill_first : ∀ r ∈ fills, 0 < r.size ∧ stkB (bt r 0) = false := by decide
/-- The bytes of the word at a place. -/
def wordT (a : ByteArray) (p : Nat) : ByteArray := a.extract p (p + (wordV (rst a p)).n)
/-- Words, something ahead of each. -/
def fillT (a : ByteArray) : List (ByteArray × Nat) → ByteArray
  | [] => ByteArray.empty
  | x :: L => x.1 ++ (wordT a x.2 ++ fillT a L)
theorem wordT_size (a : ByteArray) (p : Nat) (hp : p < a.size) (ho : (wordV (rst a p)).ok = true) : (wordT a p).size = (wordV (rst a p)).n := by
  have := word_at a p hp ho
  unfold wordT
  rw [ByteArray.size_extract]
  omega
theorem wordT_bt (a : ByteArray) (p : Nat) (hp : p < a.size) (ho : (wordV (rst a p)).ok = true) (i : Nat) (hi : i < (wordV (rst a p)).n) : bt (wordT a p) i = bt a (p + i) := by
  have := word_at a p hp ho
  unfold wordT bt
  rw [get_extract a p _ i (by omega) (by omega)]
theorem fillT_first (a : ByteArray) (L : List (ByteArray × Nat)) (h : ∀ x ∈ L, x.1 ∈ fills) : (fillT a L).size = 0 ∨ stkB (bt (fillT a L) 0) = false := by
  cases L with
  | nil => exact .inl rfl
  | cons x L =>
    right
    have := fill_first x.1 (h x (List.mem_cons_self ..))
    show stkB (bt (x.1 ++ _) 0) = false
    rw [app_left _ _ 0 this.1]
    exact this.2
theorem word_fill (a : ByteArray) (p : Nat) (L : List (ByteArray × Nat)) (hp : p < a.size) (ho : (wordV (rst a p)).ok = true) (h : ∀ x ∈ L, x.1 ∈ fills) : wordV (wordT a p ++ fillT a L) = wordV (rst a p) := by
  have hw := word_at a p hp ho
  have hz := wordT_size a p hp ho
  have hs : (wordT a p ++ fillT a L).size = (wordT a p).size + (fillT a L).size := ByteArray.size_append
  refine word_local (by rw [rst_size]; omega) ho (by omega) (fun i hi => ?_) (fun _ => ?_)
  · rw [app_left _ _ i (by omega), wordT_bt a p hp ho i hi, rst_at _ _ _ (by omega)]
  · rcases fillT_first a L h with q | q
    · left; omega
    · right
      have := app_right (wordT a p) (fillT a L) 0
      rw [hz, Nat.add_zero] at this
      rw [this]
      exact q
theorem cut_fill (a S : ByteArray) : ∀ (L : List (ByteArray × Nat)) (o f : Nat), o ≤ S.size → rst S o = fillT a L → (∀ x ∈ L, x.1 ∈ fills ∧ x.2 < a.size ∧ (wordV (rst a x.2)).ok = true) → S.size < o + f →
    ∃ xs, cutP S f o = some xs ∧ xs.length = L.length ∧ ∀ (i x : Nat) (y : ByteArray × Nat), xs[i]? = some x → L[i]? = some y → wordV (rst S x) = wordV (rst a y.2)
  | [], o, f, ho, hr, _, hf => by
    obtain ⟨g, rfl⟩ : ∃ g, f = g + 1 := ⟨f - 1, by omega⟩
    have hz := rst_size S o
    rw [hr] at hz
    have h0 : 0 = S.size - o := hz
    have hg := gapA_end S o (by omega) ho
    exact ⟨[], cutP_end (by rw [hg]) (by rw [hg]; show o = S.size; omega), rfl, fun i x y h => by simp at h⟩
  | y :: L, o, f, ho, hr, hL, hf => by
    obtain ⟨g, rfl⟩ : ∃ g, f = g + 1 := ⟨f - 1, by omega⟩
    obtain ⟨hy1, hy2, hy3⟩ := hL y (List.mem_cons_self ..)
    have hL' : ∀ x ∈ L, x.1 ∈ fills ∧ x.2 < a.size ∧ (wordV (rst a x.2)).ok = true := fun x hx => hL x (List.mem_cons_of_mem _ hx)
    have hw := word_at a y.2 hy2 hy3
    have hz := wordT_size a y.2 hy2 hy3
    have hfw := word_fill a y.2 L hy2 hy3 (fun x hx => (hL' x hx).1)
    have hr' : rst S o = y.1 ++ (wordT a y.2 ++ fillT a L) := hr
    have hs2 : (wordT a y.2 ++ fillT a L).size = (wordT a y.2).size + (fillT a L).size := ByteArray.size_append
    have hs1 : S.size - o = y.1.size + (wordT a y.2 ++ fillT a L).size := by rw [← rst_size S o, hr']; exact ByteArray.size_append
    have hb0 : bt (wordT a y.2 ++ fillT a L) 0 = bt a y.2 := by rw [app_left _ _ 0 (by omega), wordT_bt a y.2 hy2 hy3 0 (by omega)]; rfl
    have hgv := gap_fill y.1 (wordT a y.2 ++ fillT a L) hy1 (by omega) (by rw [hb0]; exact hw.2.2.2.2.1) (by rw [hb0]; exact hw.2.2.2.2.2)
    have hg : gapA S o = (o + y.1.size, true) := by unfold gapA; rw [hr', hgv]
    have hrx : rst S (o + y.1.size) = wordT a y.2 ++ fillT a L := by
      rw [← rst_rst S o y.1.size ho, hr']
      exact app_rst _ _
    have hro : rst S (o + y.1.size + (wordV (rst a y.2)).n) = fillT a L := by
      rw [← rst_rst S (o + y.1.size) (wordV (rst a y.2)).n (by omega), hrx, ← hz]
      exact app_rst _ _
    obtain ⟨xs, h1, h2, h3⟩ := cut_fill a S L (o + y.1.size + (wordV (rst a y.2)).n) g (by omega) hro hL' (by omega)
    have hwx : wordV (rst S (o + y.1.size)) = wordV (rst a y.2) := by rw [hrx]; exact hfw
    have hg1 : (gapA S o).1 = o + y.1.size := by rw [hg]
    have hg2 : (gapA S o).2 = true := by rw [hg]
    refine ⟨(o + y.1.size) :: xs, ?_, by rw [List.length_cons, List.length_cons, h2], fun i x z hx hzz => ?_⟩
    · rw [cutP_go hg2 (by rw [hg1]; omega) (by rw [hg1, hwx]; exact hy3), hg1, hwx, h1]
      rfl
    · cases i with
      | zero =>
        obtain rfl : o + y.1.size = x := by simpa using hx
        obtain rfl : y = z := by simpa using hzz
        exact hwx
      | succ i => exact h3 i x z (by simpa using hx) (by simpa using hzz)
/-- The text that the law makes, word by word. -/
theorem pos_fill (a : ByteArray) (L : List (ByteArray × Nat)) (hL : ∀ x ∈ L, x.1 ∈ fills ∧ x.2 < a.size ∧ (wordV (rst a x.2)).ok = true) : ∃ xs, posV (fillT a L) = some xs ∧ xs.length = L.length ∧ ∀ (i x : Nat) (y : ByteArray × Nat), xs[i]? = some x → L[i]? = some y → wordV (rst (fillT a L) x) = wordV (rst a y.2) :=
  cut_fill a (fillT a L) L 0 _ (Nat.zero_le _) (rst_0 _) hL (by omega)
theorem fillT_snoc (a : ByteArray) : ∀ (L : List (ByteArray × Nat)) (y : ByteArray × Nat), fillT a (L ++ [y]) = fillT a L ++ y.1 ++ wordT a y.2
  | [], y => by
    show y.1 ++ (wordT a y.2 ++ ByteArray.empty) = ByteArray.empty ++ y.1 ++ wordT a y.2
    simp
  | x :: L, y => by
    show x.1 ++ (wordT a x.2 ++ fillT a (L ++ [y])) = x.1 ++ (wordT a x.2 ++ fillT a L) ++ y.1 ++ wordT a y.2
    rw [fillT_snoc a L y]
    simp only [ByteArray.append_assoc]
end Go.Proofs.YtcnhkhjkeemafaaDoor
/- How many words a text can have. -/
namespace Go.Proofs.YtcnhkhjkeemafaaDoor
open Go.RowKit Go.Shelf
set_option linter.unusedVariables false
theorem cut_count (s : ByteArray) : ∀ f b x ws, b ≤ s.size → ws.length ≤ b → (cutGo s f b x ws).ws.length ≤ s.size
  | 0, b, x, ws, hb, h => Nat.le_trans h hb
  | f + 1, b, x, ws, hb, h => by
    have hg := gB_le s b hb
    unfold cutGo
    split
    · exact Nat.le_trans h hb
    · split
      · exact Nat.le_trans h hb
      · rename_i hz
        rw [rst_size] at hz
        have hp : 0 < (rst s (gB s b)).size := by rw [rst_size]; omega
        have hle := wordV_le (rst s (gB s b)) hp
        rw [rst_size] at hle
        split
        · exact Nat.le_trans h hb
        · rename_i ho
          have ho2 : (wordV (rst s (gB s b))).ok = true := Bool.eq_false_or_eq_true _ |>.resolve_right ho
          have hn := hle.2 ho2
          exact cut_count s f _ _ _ (by omega) (by rw [List.length_append, List.length_singleton]; omega)
theorem words_count (s : ByteArray) : (wordsV s).ws.length ≤ s.size := cut_count s _ 0 (1, 1) [] (Nat.zero_le _) (Nat.le_refl _)
end Go.Proofs.YtcnhkhjkeemafaaDoor
/- Words as elements of lists; Same of the books at lists of words. -/
namespace Go.Proofs.YtcnhkhjkeemafaaDoor
open Go.RowKit Go.Shelf
set_option linter.unusedVariables false
/-- A word, with its eight parts. -/
structure W8 where
  k : Int
  S : ByteArray
  r : Int
  n : Int
  b : Int
  l : Int
  c : Int
  e : Int
def w8Cells (x : W8) : List Value := [.int .i64 x.k, .string x.S, .int .i32 x.r, .int .i64 x.n, .int .i64 x.b, .int .i64 x.l, .int .i64 x.c, .int .i64 x.e]
def encW (zs : List W8) : List Value := zs.flatMap w8Cells
theorem encW_cons (x : W8) (zs : List W8) : encW (x :: zs) = w8Cells x ++ encW zs := rfl
theorem encW_length (zs : List W8) : (encW zs).length = zs.length * 8 := by
  induction zs with
  | nil => rfl
  | cons x zs ih => rw [encW_cons, List.length_append, ih, List.length_cons]; show 8 + _ = _; omega
theorem encW_at (zs : List W8) (j : Nat) (x : W8) (h : zs[j]? = some x) : ∀ i u, (w8Cells x)[i]? = some u → (encW zs)[j * 8 + i]? = some u := by
  induction zs generalizing j with
  | nil => simp at h
  | cons y zs ih =>
    intro i u hu
    have hi : i < 8 := (List.getElem?_eq_some_iff.1 hu).1
    cases j with
    | zero =>
      obtain rfl : y = x := by simpa using h
      rw [encW_cons, Nat.zero_mul, Nat.zero_add, List.getElem?_append_left (by exact hi)]
      exact hu
    | succ j =>
      have h' : zs[j]? = some x := by simpa using h
      rw [encW_cons, List.getElem?_append_right (by show 8 ≤ _; omega), show (j + 1) * 8 + i - (w8Cells y).length = j * 8 + i by show (j + 1) * 8 + i - 8 = _; omega]
      exact ih j h' i u hu
theorem encW_one (zs : List W8) : ∀ u ∈ encW zs, u.oneCell' = true := by
  induction zs with
  | nil => intro u hu; cases hu
  | cons x zs ih =>
    intro u hu
    rw [encW_cons] at hu
    rcases List.mem_append.1 hu with hu | hu
    · simp only [w8Cells, List.mem_cons, List.not_mem_nil, or_false] at hu
      rcases hu with rfl | rfl | rfl | rfl | rfl | rfl | rfl | rfl <;> rfl
    · exact ih u hu
/-- The words that the cutter makes, as elements. -/
def w8 (x : Wd) : W8 := ⟨x.v.kind, x.v.S, x.v.R, x.v.N, x.b, x.l, x.c, x.e⟩
theorem encW_ws (ws : List Wd) : encW (ws.map w8) = encWs ws := by
  unfold encW encWs
  rw [List.flatMap_map]
  rfl
def RowW (W : World) (a : Option Addr) (zs : List W8) : Prop := 0 < zs.length → ∃ g, a = some ⟨g, 0, none⟩ ∧ g < W.heap.size ∧ ∀ j x, zs[j]? = some x → ∀ i u, (w8Cells x)[i]? = some u → W.cell? ⟨g, j * 8 + i, none⟩ = some u
theorem own_rowW {W : World} {base n : Nat} {v : Value} {zs : List W8} (h : W.ownsRow base 34 8 v n (encW zs)) : ∃ a c, v = .slice a zs.length c ∧ RowW W a zs ∧ n = zs.length ∧ zs.length ≤ c := by
  obtain ⟨hl, h⟩ := h
  rw [encW_length] at hl
  have hn : n = zs.length := by omega
  subst hn
  rcases h with ⟨rfl, h0⟩ | ⟨g, cap, cur, rfl, hb, hg, h1, h2, h3, h4⟩
  · exact ⟨none, 0, by rw [h0], fun h => by omega, rfl, by omega⟩
  · refine ⟨_, cap, rfl, fun h0 => ⟨g, rfl, (Array.getElem?_eq_some_iff.1 hg).1, fun j x hj i u hu => ?_⟩, rfl, h1⟩
    have hbk : Blk W g cur 34 := hg
    have e := encW_at zs j x hj i u hu
    rw [← h4] at e
    have hjl := (List.getElem?_eq_some_iff.1 hj).1
    have hil : i < 8 := (List.getElem?_eq_some_iff.1 hu).1
    rw [List.getElem?_take, if_pos (by omega)] at e
    rw [Blk.cell hbk]
    simpa using e
theorem below_drewNW {B : Nat} {a w : World} (h : Below B a w) (n : Nat) : Below B a (w.drewN n) := h.trans ⟨rfl, rfl, rfl, Nat.le_refl _, fun _ _ => rfl⟩
set_option maxRecDepth 100000 in
set_option maxHeartbeats 2000000 in
theorem sameW_row (a b : Option Addr) (ca cb : Nat) (zs : List W8) (hz : zs.length ≤ 9223372036854775807) (w : World) (ha : RowW w a zs) (hb : RowW w b zs) :
    Calls Tryd.prog 19 #[.slice a zs.length ca, .slice b zs.length cb] w fun e w' => e = .returned (.bool true) ∧ Below w.heap.size w w' := by
  have HA := hide ha
  have HB := hide hb
  clear ha hb
  have hne : (((zs.length : Nat) : Int) != ((zs.length : Nat) : Int)) = false := by simp
  go_enter Tryd.func19, Tryd.ntmps19
  go_wp2
  go_loopw [5] (fun i wr => ∃ k : Nat, k ≤ zs.length ∧ i = .int .i64 k ∧ ∃ q, wr = w.drewN q) (fun i _ => zs.length - (intOf i).toNat)
  case atStart => exact ⟨0, by omega, rfl, 0, rfl⟩
  case round =>
    obtain ⟨k, hk, rfl, q, rfl⟩ := hrel
    by_cases hkn : k < zs.length
    · obtain ⟨x, hx⟩ : ∃ x, zs[k]? = some x := ⟨_, List.getElem?_eq_getElem hkn⟩
      obtain ⟨g, rfl, _, hc⟩ := unhide HA (by omega)
      obtain ⟨h, rfl, _, hd⟩ := unhide HB (by omega)
      have hc' := hc k x hx
      have hd' := hd k x hx
      have hk1 : (k : Int) < (zs.length : Int) := by omega
      have hk2 : ((k : Nat) : Int).toNat = k := by omega
      obtain ⟨x0, x1, x2, x3, x4, x5, x6, x7⟩ := x
      have c0 := hc' 0 (.int .i64 x0) rfl
      have c1 := hc' 1 (.string x1) rfl
      have c2 := hc' 2 (.int .i32 x2) rfl
      have c3 := hc' 3 (.int .i64 x3) rfl
      have c4 := hc' 4 (.int .i64 x4) rfl
      have c5 := hc' 5 (.int .i64 x5) rfl
      have c6 := hc' 6 (.int .i64 x6) rfl
      have c7 := hc' 7 (.int .i64 x7) rfl
      have d0 := hd' 0 (.int .i64 x0) rfl
      have d1 := hd' 1 (.string x1) rfl
      have d2 := hd' 2 (.int .i32 x2) rfl
      have d3 := hd' 3 (.int .i64 x3) rfl
      have d4 := hd' 4 (.int .i64 x4) rfl
      have d5 := hd' 5 (.int .i64 x5) rfl
      have d6 := hd' 6 (.int .i64 x6) rfl
      have d7 := hd' 7 (.int .i64 x7) rfl
      rw [Nat.add_zero] at c0 d0
      have e0 : (x0 == x0) = true := by simp
      have e1 : (x1.toList == x1.toList) = true := by simp
      have e2 : (x2 == x2) = true := by simp
      have e3 : (x3 == x3) = true := by simp
      have e4 : (x4 == x4) = true := by simp
      have e5 : (x5 == x5) = true := by simp
      have e6 : (x6 == x6) = true := by simp
      have e7 : (x7 == x7) = true := by simp
      clear hc hd hx hc' hd'
      go_wp2
      go_quiet (fail)
      go_wp2
      go_roundw
      case rel => exact ⟨k + 1, by omega, by go_num, _, rfl⟩
      case measure => simp [intOf]; omega
    · have hk1 : ¬ (k : Int) < (zs.length : Int) := by omega
      go_wp2
      go_ret
      exact ⟨rfl, below_drewNW (Below.refl _ _) _⟩
end Go.Proofs.YtcnhkhjkeemafaaDoor
/- A text, cut off. -/
namespace Go.Proofs.YtcnhkhjkeemafaaDoor
open Go.RowKit Go.Shelf
set_option linter.unusedVariables false
/-- A text, cut off. -/
def fewV (s : ByteArray) (n : Nat) : ByteArray := if n < s.size then s.extract 0 n else s
theorem fewV_size (s : ByteArray) (n : Nat) : (fewV s n).size ≤ n := by
  unfold fewV
  split
  · rw [ByteArray.size_extract]; omega
  · omega
set_option maxRecDepth 100000 in
theorem few_any (s : ByteArray) (hs : s.size ≤ maxLen) (n : Nat) (hn : n ≤ 1099511627776) (w : World) : Calls Tryd.prog 6 #[.string s, .int .i64 n] w fun e w' => e = .returned (.string (fewV s n)) ∧ w' = w := by
  unfold maxLen at hs
  unfold fewV
  by_cases h : n < s.size
  · rw [if_pos h]
    have h1 : (n : Int) < (s.size : Int) := by omega
    have h2 : (n : Int) ≤ (s.size : Int) := by omega
    go_enter Tryd.func6, Tryd.ntmps6
    go_wp2_with fail
    go_ret
    exact ⟨rfl, rfl⟩
  · rw [if_neg h]
    have h1 : ¬ (n : Int) < (s.size : Int) := by omega
    go_enter Tryd.func6, Tryd.ntmps6
    go_wp2_with fail
    go_ret
    exact ⟨rfl, rfl⟩
end Go.Proofs.YtcnhkhjkeemafaaDoor
/- ScanJoins: what it calls, and what it counts. -/
namespace Go.Proofs.YtcnhkhjkeemafaaDoor
open Go.RowKit Go.Shelf
set_option linter.unusedVariables false
set_option maxRecDepth 100000 in
set_option maxHeartbeats 4000000 in
theorem column_any (s : ByteArray) (hs : s.size ≤ 4294967281) (t : Nat) (ht : t ≤ s.size) (hb : bdB s t = true) (w : World) : Calls Tryd.prog 10 #[.string s, .int .i64 t] w fun e w' => e = .returned (.int .i64 ((lcAt s t).2 : Nat)) ∧ Below w.heap.size w w' := by
  have HT := hide (And.intro ht hb)
  clear hb
  have htb : (t : Int) ≤ 4294967281 := by omega
  go_enter Tryd.func10, Tryd.ntmps10
  go_wp2_with fail
  have HB0 := hide ((Below.refl w.heap.size w).alloc (Nat.le_refl _) (.stringIter s 0))
  have hI0 : (w.iter s 0).heap[w.heap.size]? = some (.stringIter s 0) := World.alloc_heap_new w _
  have HI0 := hide hI0
  clear hI0
  go_loopw [5, 6, 7] (fun n _ _ wr => ∃ (pos c : Nat), pos ≤ t ∧ c ≤ pos + 1 ∧ n = .int .i64 c ∧ Hz (bdB s pos = true ∧ c = (lcAt s pos).2) ∧ Hz (wr.heap[w.heap.size]? = some (.stringIter s pos)) ∧ Hz (Below w.heap.size w wr)) (fun _ _ _ wr => s.size + 1 - wr.iterPos w.heap.size)
  case atStart => exact ⟨0, 1, by omega, by omega, rfl, hide ⟨bd_zero s, by rw [lcAt_zero]⟩, HI0, HB0⟩
  case round =>
    obtain ⟨pos, c, hpt, hcp, rfl, HC, HI, HB⟩ := hrel
    by_cases hp : pos < s.size
    · have hnx : ∀ ty, (Instr.next (.pointer (some ⟨w.heap.size, 0, none⟩)) true ty).run Tryd.prog wr = _ := fun ty => Lib.run_next_any_at wr w.heap.size s pos ty (unhide HI) hp
      have hwd := wd_pos s pos
      have hwr := wd_room s pos hp
      have hst := lcAt_step s pos (unhide HC).1 hp
      have hbs := bd_step s pos (unhide HC).1 hp
      have hwi : ∀ k, pos < k → k < pos + wd s pos → bdB s k = false := fun k h1 h2 => bd_within s pos k h1 h2
      have hrn := rn_ten s pos
      have i0 : (wr.iterAt w.heap.size s (pos + (Utf8.decode s pos).2)).heap[w.heap.size]? = some (.stringIter s (pos + (Utf8.decode s pos).2)) := Lib.iterAt_heap wr w.heap.size s pos _ (unhide HI)
      have g0 : Below w.heap.size w (wr.iterAt w.heap.size s (pos + (Utf8.decode s pos).2)) := (unhide HB).grown (grown_iterAt wr w.heap.size s _) (unhide HB).size (fun k hk => by cases hk; exact Nat.le_refl _)
      simp only [rn, wd] at hwd hwr hst hbs hwi hrn
      obtain ⟨d, hd⟩ : ∃ d, d = pos + (Utf8.decode s pos).2 := ⟨_, rfl⟩
      obtain ⟨x, hx⟩ : ∃ x, x = (Utf8.decode s pos).1 := ⟨_, rfl⟩
      rw [← hd] at hnx hst hbs i0 g0 hwr
      rw [← hx] at hnx hrn
      have hpb : (pos : Int) ≤ 4294967281 := by omega
      have hcb : (c : Int) ≤ 4294967282 := by omega
      have HI2 := hide i0
      have HB2 := hide g0
      have HIP := hide (And.intro (iterPos_at (unhide HI)) (And.intro (iterPos_at i0) (show pos < d by omega)))
      clear i0 g0
      by_cases hge : pos = t
      · have hge' : (t : Int) ≤ (pos : Int) := by omega
        have HF : Hz (c = (lcAt s t).2) := hide (by rw [← hge]; exact (unhide HC).2)
        clear hge hst hbs hwi hrn hd hx HC HI hwd hwr
        go_wp2_with fail
        go_ret
        exact ⟨by rw [← unhide HF]; rfl, unhide HB2⟩
      · have hge' : ¬ (t : Int) ≤ (pos : Int) := by omega
        have hdt : d ≤ t := by
          rcases Nat.lt_or_ge t d with q | q
          · have := hwi t (by omega) (by omega)
            rw [(unhide HT).2] at this
            cases this
          · exact q
        have hdb : d ≤ 4294967281 := by omega
        by_cases h10 : x = 10
        · have h10' : ((x : Int) == 10) = true := by rw [beq_iff_eq]; omega
          rw [if_pos (hrn.1 h10)] at hst
          have HC2 : Hz (bdB s d = true ∧ 1 = (lcAt s d).2) := hide ⟨hbs, by rw [hst]⟩
          clear hge h10 hst hbs hwi hrn hd hx HC HI hwd hwr
          go_wp2_with fail
          go_roundw
          case rel => exact ⟨d, 1, hdt, by omega, rfl, HC2, HI2, HB2⟩
          case measure => rw [(unhide HIP).2.1, (unhide HIP).1]; have := (unhide HIP).2.2; omega
        · have h10' : ((x : Int) == 10) = false := by rw [beq_eq_false_iff_ne]; omega
          rw [if_neg (fun q => h10 (hrn.2 q))] at hst
          have HC2 : Hz (bdB s d = true ∧ c + 1 = (lcAt s d).2) := hide ⟨hbs, by rw [hst]; show c + 1 = (lcAt s pos).2 + 1; rw [(unhide HC).2]⟩
          clear hge h10 hst hbs hwi hrn hd hx HC HI hwd hwr
          go_wp2_with fail
          go_roundw
          case rel => exact ⟨d, c + 1, hdt, by have := (unhide HIP).2.2; omega, by go_num, HC2, HI2, HB2⟩
          case measure => rw [(unhide HIP).2.1, (unhide HIP).1]; have := (unhide HIP).2.2; omega
    · have hnx : ∀ ty, (Instr.next (.pointer (some ⟨w.heap.size, 0, none⟩)) true ty).run Tryd.prog wr = _ := fun ty => Lib.run_next_end_at wr w.heap.size s pos ty (unhide HI) hp
      have HF : Hz (c = (lcAt s t).2) := hide (by rw [show t = pos by omega]; exact (unhide HC).2)
      clear HC HI
      go_wp2_with fail
      go_ret
      exact ⟨by rw [← unhide HF]; rfl, unhide HB⟩
/-- A list of words in memory, by the words' places. -/
def RowJ (W : World) (a : Option Addr) (t : ByteArray) (ps : List Nat) : Prop := 0 < ps.length → ∃ g, a = some ⟨g, 0, none⟩ ∧ g < W.heap.size ∧ ∀ k p, ps[k]? = some p → ∀ i u, (wdCells (mkW t p))[i]? = some u → W.cell? ⟨g, k * 8 + i, none⟩ = some u
theorem RowJ.below {W W' : World} {a : Option Addr} {t : ByteArray} {ps : List Nat} (h : RowJ W a t ps) {B : Nat} (hb : Below B W W') (hB : W.heap.size ≤ B) : RowJ W' a t ps := fun h0 => by
  obtain ⟨g, ha, hg, hc⟩ := h h0
  exact ⟨g, ha, Nat.lt_of_lt_of_le hg hb.size, fun k p hp i u hu => (hb.cell (p := ⟨g, k * 8 + i, none⟩) (by show g < B; omega)).trans (hc k p hp i u hu)⟩
theorem words_at (t : ByteArray) (ht : t.size ≤ 262144) (ps : List Nat) (hp : posV t = some ps) (m : Int) (w : World) (hE : Env m w) :
    Calls Tryd.prog 7 #[.string t] w fun e w' => ∃ a c, e = .returned (.tuple #[.slice a ps.length c, .agg #[.int .i64 0, .int .i64 0, .int .i64 0], .int .i64 0]) ∧ RowJ w' a t ps ∧ Below w.heap.size w w' := by
  obtain ⟨ho, hws⟩ := words_pos hp
  refine (words_yes t ht ho m w hE.max (cell_lt hE.max)).mono fun e w' ⟨v, he, hown, hb⟩ => ?_
  rw [hws] at hown
  have hown2 : w'.ownsRow w.heap.size 34 8 v (ps.map (mkW t)).length (encW ((ps.map (mkW t)).map w8)) := by rw [encW_ws]; exact hown
  obtain ⟨a, c, rfl, hr, _, _⟩ := own_rowW hown2
  refine ⟨a, c, by rw [he]; simp, fun h0 => ?_, hb⟩
  obtain ⟨g, ha, hg, hc⟩ := hr (by simpa using h0)
  refine ⟨g, ha, hg, fun k p hk i u hu => hc k (w8 (mkW t p)) (by simp [hk]) i u hu⟩
theorem words_bad (t : ByteArray) (ht : t.size ≤ 262144) (hp : posV t = none) (m : Int) (w : World) (hE : Env m w) :
    Calls Tryd.prog 7 #[.string t] w fun e w' => ∃ (x0 x1 x2 c : Int), e = .returned (.tuple #[.slice none 0 0, .agg #[.int .i64 x0, .int .i64 x1, .int .i64 x2], .int .i64 c]) ∧ (c = 20 ∨ c = 21) ∧ Below w.heap.size w w' := by
  refine (words_no t ht (words_none hp) (words_places t).2 m w hE.max (cell_lt hE.max)).mono fun e w' ⟨he, hb⟩ => ?_
  exact ⟨_, _, _, _, he, by split <;> simp, hb⟩
/-- Words of any text: some list, some place, some number. -/
theorem words_q (t : ByteArray) (ht : t.size ≤ 262144) (m : Int) (w : World) (hE : Env m w) :
    Calls Tryd.prog 7 #[.string t] w fun e w' => ∃ (a : Option Addr) (n c : Nat) (x0 x1 x2 d : Int), e = .returned (.tuple #[.slice a n c, .agg #[.int .i64 x0, .int .i64 x1, .int .i64 x2], .int .i64 d]) ∧ Below w.heap.size w w' := by
  cases hp : posV t with
  | none => exact (words_bad t ht hp m w hE).mono fun e w' ⟨x0, x1, x2, c, he, _, hb⟩ => ⟨none, 0, 0, x0, x1, x2, c, he, hb⟩
  | some ps => exact (words_at t ht ps hp m w hE).mono fun e w' ⟨a, c, he, _, hb⟩ => ⟨a, _, c, 0, 0, 0, 0, he, hb⟩
/-- How many of the first bytes are line ends. -/
def cn10 (a : ByteArray) : Nat → Nat
  | 0 => 0
  | k + 1 => cn10 a k + if bt a k = 10 then 1 else 0
theorem cn10_le (a : ByteArray) : ∀ k, cn10 a k ≤ k
  | 0 => Nat.le_refl _
  | k + 1 => by have := cn10_le a k; unfold cn10; split <;> omega
theorem cn10_drop (a : ByteArray) : ∀ k, k ≤ a.size → cn10 a k + (a.data.toList.drop k).count 10 = a.data.toList.count 10
  | 0, _ => by show 0 + _ = _; rw [List.drop_zero, Nat.zero_add]
  | k + 1, h => by
    rw [← cn10_drop a k (by omega), drop_bt a k (by omega), show cn10 a (k + 1) = cn10 a k + if bt a k = 10 then 1 else 0 from rfl]
    by_cases e : bt a k = 10
    · have e2 : a.get! k = 10 := by rw [← UInt8.toNat_inj]; exact e
      rw [if_pos e, e2, List.count_cons_self]
      omega
    · rw [if_neg e, List.count_cons_of_ne (fun q => e (by unfold bt; rw [q]; rfl))]
      omega
theorem cn10_all (a : ByteArray) : 1 + cn10 a a.size = (lcAt a a.size).1 := by
  have h := cn10_drop a a.size (Nat.le_refl _)
  rw [List.drop_eq_nil_of_le (by rw [Array.length_toList]; exact Nat.le_refl _)] at h
  have h2 := count_runes a
  unfold lcAt
  rw [lcR_line, ByteArray.extract_zero_size, ← h2]
  show 1 + cn10 a a.size = 1 + a.data.toList.count 10
  rw [← h]
  rfl
/-- How many bytes the words have. -/
def sumN (a : ByteArray) (ps : List Nat) : Nat := (ps.map (fun p => (wordV (rst a p)).n)).sum
theorem cutP_sum (s : ByteArray) : ∀ f b ps, b ≤ s.size → cutP s f b = some ps → b + sumN s ps ≤ s.size ∧ ps.length ≤ sumN s ps
  | 0, b, ps, hb, h => by cases h
  | f + 1, b, ps, hb, h => by
    have hq := gapA_le s b hb
    cases h1 : (gapA s b).2
    · rw [cutP_bad h1] at h; cases h
    · by_cases he : (gapA s b).1 = s.size
      · rw [cutP_end h1 he] at h; cases h; exact ⟨hb, Nat.le_refl _⟩
      · cases h2 : (wordV (rst s (gapA s b).1)).ok
        · rw [cutP_no h1 he h2] at h; cases h
        · have hw := word_at s (gapA s b).1 (by omega) h2
          rw [cutP_go h1 he h2] at h
          obtain ⟨qs, h3, rfl⟩ := Option.map_eq_some_iff.1 h
          have := cutP_sum s f _ qs hw.2.1 h3
          have e : sumN s ((gapA s b).1 :: qs) = (wordV (rst s (gapA s b).1)).n + sumN s qs := rfl
          rw [e, List.length_cons]
          omega
theorem fillT_size (a : ByteArray) : ∀ L : List (ByteArray × Nat), (∀ x ∈ L, x.1.size ≤ 8 ∧ x.2 < a.size ∧ (wordV (rst a x.2)).ok = true) → (fillT a L).size ≤ 8 * L.length + sumN a (L.map (·.2))
  | [], _ => Nat.zero_le _
  | x :: L, h => by
    have h1 := h x (List.mem_cons_self ..)
    have h2 := fillT_size a L (fun y hy => h y (List.mem_cons_of_mem _ hy))
    have h3 := wordT_size a x.2 h1.2.1 h1.2.2
    have e : sumN a ((x :: L).map (·.2)) = (wordV (rst a x.2)).n + sumN a (L.map (·.2)) := rfl
    show (x.1 ++ (wordT a x.2 ++ fillT a L)).size ≤ _
    rw [ByteArray.size_append, ByteArray.size_append, e, List.length_cons]
    omega
end Go.Proofs.YtcnhkhjkeemafaaDoor
/- A list of numbers that was handed in: how it lies in memory. -/
namespace Go.Proofs.YtcnhkhjkeemafaaDoor
open Go.RowKit Go.Shelf Go.ChangeShapes
set_option linter.unusedVariables false

/-- The numbers of a list that was handed in, its spare room behind them. -/
def ArgRow (k : IntKind) (W : World) (a : Option Addr) (len cap : Nat) (zs : List Int) : Prop :=
  len ≤ cap ∧ zs.length = cap ∧ (∀ n ∈ zs, (Lit.int k n).wf = true) ∧ (0 < cap → ∃ g o, a = some ⟨g, o, none⟩ ∧ g < W.heap.size ∧ ∀ i, i < cap → W.cell? ⟨g, o + i, none⟩ = some (.int k (zs.getD i 0)))

theorem laidOut : laidOutB Tryd.prog = true := by kernel_rfl
theorem arg_row {H : Type} {enc : TypeId × Value → H} {W : World} {t e : TypeId} {k : IntKind} {a : Option Addr} {len cap : Nat} {d : DataW H} {p : List MemPlace}
    (ht : Tryd.prog.underlying t = some (.slice e)) (he : Tryd.prog.underlying e = some (.int k)) (hc : Tryd.prog.cellsOf e = 1)
    (h : DataW.Trod enc Tryd.prog W 0 (fun _ => true) true t (.slice a len cap) d p) : ∃ zs, ArgRow k W a len cap zs ∧ True := by
  obtain ⟨fuel, hf⟩ := h
  rcases open_ints ht he hc hf with ⟨hcs, hx⟩ | ⟨x, l, c, zs, hcs, _, hl, hm, hz, hx, hcell, hwz⟩
  · simp [Value.cells] at hcs
    obtain ⟨rfl, rfl, rfl⟩ := hcs
    exact ⟨[], ⟨Nat.le_refl _, rfl, by simp, fun h => by omega⟩, trivial⟩
  · simp [Value.cells] at hcs
    obtain ⟨rfl, rfl, rfl⟩ := hcs
    have hz' : zs.length = cap := by simpa using hz
    refine ⟨zs, ⟨hl, hz', hwz, fun h0 => ?_⟩, trivial⟩
    obtain ⟨b, off, spot⟩ := x
    have hc0 := hcell 0 (by omega)
    have hspot : spot = none := by simpa [Addr.add] using World.cell?_spot hc0
    subst hspot
    refine ⟨b, off, rfl, by have := cell_lt hc0; simpa [Addr.add] using this, fun i hi => ?_⟩
    have := hcell i (by omega)
    rw [show (⟨b, off, none⟩ : Addr).add i = ⟨b, off + i, none⟩ by unfold Addr.add; split <;> simp_all] at this
    exact this
end Go.Proofs.YtcnhkhjkeemafaaDoor
