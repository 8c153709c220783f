/- Texts of this claim, one behind the other. -/
import Derived.Test.YtcnhkhjkeemafaaDoorM4
/- What stands ahead of a number's end: plain mathematics. -/
namespace Go.Proofs.YtcnhkhjkeemafaaDoor
open Go.RowKit Go.Shelf
set_option linter.unusedVariables false
theorem numGo_prev (t : ByteArray) : ∀ f v k, t.size ≤ k + f → 1 ≤ k → digB (bt t (k - 1)) = true → digB (bt t ((numGo t v k).2 - 1)) = true
  | 0, v, k, h, h1, hd => by rw [numGo_stop (by omega)]; exact hd
  | f + 1, v, k, h, h1, hd => by
    by_cases hc : k < t.size ∧ digB (bt t k) = true ∧ 0 < v ∧ v * 10 + (bt t k - 48) ≤ 65535
    · rw [numGo_go hc.1 hc.2.1 hc.2.2.1 hc.2.2.2]
      exact numGo_prev t f _ (k + 1) (by omega) (by omega) hc.2.1
    · rw [numGo_stop hc]; exact hd
theorem numV_prev (t : ByteArray) (h : 0 < t.size) (hd : digB (bt t 0) = true) : digB (bt t ((numV t).2 - 1)) = true := numGo_prev t t.size _ 1 (by omega) (by omega) hd
theorem numdGo_prev (t : ByteArray) : ∀ f v k, t.size ≤ k + f → 1 ≤ k → (3 ≤ k → hxB (bt t (k - 1)) = true) → 3 ≤ (numdGo t v k).2 → hxB (bt t ((numdGo t v k).2 - 1)) = true
  | 0, v, k, h, h1, hd, h3 => by rw [numdGo_stop (by omega)] at h3 ⊢; exact hd h3
  | f + 1, v, k, h, h1, hd, h3 => by
    by_cases hc : k < t.size ∧ (k < 6 ∨ bt t 2 ≠ 48) ∧ 0 ≤ hexI (bt t k) ∧ v * 16 + (hexI (bt t k)).toNat ≤ 1114111
    · rw [numdGo_go hc] at h3 ⊢
      exact numdGo_prev t f _ (k + 1) (by omega) (by omega) (fun _ => hxB_hexI.2 hc.2.2.1) h3
    · rw [numdGo_stop hc] at h3 ⊢; exact hd h3
theorem nameLen_prev (t : ByteArray) : ∀ f k, min t.size 32 ≤ k + f → 1 ≤ k → k ≤ min t.size 32 → inNB (bt t (k - 1)) = true → inNB (bt t (scanTo (fun n => inNB (bt t n)) (min t.size 32) k - 1)) = true
  | 0, k, h, h1, hk, hd => by rw [scanTo_end (by omega)]; exact hd
  | f + 1, k, h, h1, hk, hd => by
    by_cases hl : k < min t.size 32
    · cases hp : inNB (bt t k) with
      | true => rw [scanTo_go (p := fun n => inNB (bt t n)) hl hp]; exact nameLen_prev t f (k + 1) (by omega) (by omega) (by omega) hp
      | false => rw [scanTo_no (p := fun n => inNB (bt t n)) hp]; exact hd
    · rw [scanTo_end hl]; exact hd
theorem stk_dig {c : Nat} (h : digB c = true) : stkB c = true := by unfold stkB inNB; rw [h]; simp
theorem stk_hex {c : Nat} (h : hxB c = true) : stkB c = true := by
  have h1 := of_decide_eq_true h
  rcases h1 with h1 | h1
  · exact stk_dig (decide_eq_true h1)
  · unfold stkB
    rw [decide_eq_true (show 65 ≤ c ∧ c ≤ 90 by omega)]
    simp
theorem stk_inN {c : Nat} (h : inNB c = true) : stkB c = true := by unfold stkB; rw [h]; simp
end Go.Proofs.YtcnhkhjkeemafaaDoor
/- Where words stand: plain mathematics. -/
namespace Go.Proofs.YtcnhkhjkeemafaaDoor
open Go.RowKit Go.Shelf
set_option linter.unusedVariables false
theorem small_lt {c : Nat} (h : smallB c = true) : c < 128 := by have := smallB_iff.1 h; omega
theorem dig_lt {c : Nat} (h : digB c = true) : c < 128 := by have := digB_iff.1 h; omega
theorem stk_lt {c : Nat} (h : stkB c = true) : c < 128 := by
  unfold stkB inNB smallB digB at h
  simp at h
  omega
theorem tl1_bt (t : ByteArray) (k : Nat) (h : 1 ≤ t.size) : bt (tl1 t) k = bt t (1 + k) := by unfold tl1 bt; rw [get_suffix t 1 k h]
theorem dots_bt (t : ByteArray) (h : dotsB t = true) : bt t 1 = 46 := by
  have h2 : [46, 46] <+: t.data.toList := List.isPrefixOf_iff_prefix.1 h
  obtain ⟨r, hr⟩ := h2
  have hz := dotsB_iff t h
  have : t.data.toList[1]? = some 46 := by rw [← hr]; rfl
  have h1 : 1 < t.size := by omega
  unfold bt
  rw [get_lt t 1 h1]
  rw [Array.getElem?_toList, Array.getElem?_eq_getElem h1] at this
  have e : t.data[1] = 46 := Option.some.inj this
  show (t.data[1]).toNat = 46
  rw [e]
  rfl
theorem word_last (t : ByteArray) (h : 0 < t.size) (ho : (wordV t).ok = true) : bt t ((wordV t).n - 1) < 128 := by
  unfold wordV at ho ⊢
  split at ho
  · rename_i hs
    rw [if_pos hs]
    refine stk_lt (stk_inN ?_)
    have hn : nameLen t = scanTo (fun n => inNB (bt t n)) (min t.size 32) 1 := by unfold nameLen; rw [if_neg (fun q => q.elim (by omega) (fun q => by rw [hs] at q; cases q))]
    show inNB (bt t (nameLen t - 1)) = true
    rw [hn]
    exact nameLen_prev t (min t.size 32) 1 (by omega) (by omega) (by omega) (by show inNB (bt t 0) = true; unfold inNB; rw [hs]; rfl)
  · rename_i hs
    rw [if_neg hs]
    split at ho
    · rename_i hd
      rw [if_pos hd]
      exact dig_lt (numV_prev t h hd)
    · rename_i hd
      rw [if_neg hd]
      split at ho
      · rename_i hu
        rw [if_pos hu]
        have ho2 : (numdV t).2.2 = true := ((Bool.and_eq_true _ _).mp ho).1
        show bt t ((numdV t).2.1 - 1) < 128
        unfold numdV at ho2 ⊢
        split at ho2
        · cases ho2
        · rename_i h1
          rw [if_neg h1]
          split at ho2
          · cases ho2
          · rename_i h6
            rw [if_neg h6]
            exact stk_lt (stk_hex (numdGo_prev t t.size 0 2 (by omega) (by omega) (fun q => by omega) (by omega)))
      · rename_i hu
        rw [if_neg hu]
        split at ho
        · rename_i hq
          rw [if_pos hq]
          have ho2 : (quoV t).2.2 = true := ho
          show bt t ((quoV t).2.1 - 1) < 128
          unfold quoV at ho2 ⊢
          repeat' split at ho2
          all_goals first | (cases ho2; done) | skip
          rename_i h1 h2 h3 h4 h5
          rw [if_neg h1, if_neg h2, if_neg h3, if_neg h4, if_pos h5]
          have := (rn_39 (tl1 t) (wd (tl1 t) 0)).1 h5
          rw [tl1_bt t _ h] at this
          show bt t (wd (tl1 t) 0 + 2 - 1) < 128
          rw [show wd (tl1 t) 0 + 2 - 1 = 1 + wd (tl1 t) 0 by omega, this]
          decide
        · rename_i hq
          rw [if_neg hq]
          have ho2 : (sgnV t).2.2 = true := ho
          show bt t ((sgnV t).2.1 - 1) < 128
          unfold sgnV at ho2 ⊢
          repeat' split
          all_goals first
            | (show bt t 0 < 128; omega)
            | skip
          all_goals first
            | (rename_i hdt; show bt t 1 < 128; rw [dots_bt t hdt]; decide)
            | (exfalso; simp_all; done)
theorem word_first (t : ByteArray) (ho : (wordV t).ok = true) : bt t 0 < 128 := by
  by_cases hs : smallB (bt t 0) = true
  · exact small_lt hs
  · by_cases hd : digB (bt t 0) = true
    · exact dig_lt hd
    · unfold wordV at ho
      rw [if_neg hs, if_neg hd] at ho
      split at ho
      · omega
      · split at ho
        · omega
        · have ho2 : (sgnV t).2.2 = true := ho
          unfold sgnV at ho2
          repeat' split at ho2
          all_goals first | omega | cases ho2
theorem bd_ascii (s : ByteArray) (i : Nat) (h : bt s i < 128) : bdB s i = true := bd_lead s i (by omega)
theorem bd_next (s : ByteArray) (i : Nat) (hi : i < s.size) (h : bt s i < 128) : bdB s (i + 1) = true := by
  have hw : wd s i = 1 := by
    rcases Nat.lt_or_ge (wd s i) 2 with q | q
    · have := wd_pos s i; omega
    · have := wd_lead s _ q; omega
  have := bd_step s i (bd_ascii s i h) hi
  rwa [hw] at this
/-- Lines and columns behind n bytes more. -/
theorem lcB_at (s : ByteArray) (b n : Nat) (hb : b + n ≤ s.size) (hd : bdB s b = true) : lcB (rst s b) (lcAt s b) n = lcAt s (b + n) := by
  unfold lcB lcAt
  have e : (rst s b).extract 0 n = s.extract b (b + n) := by
    unfold rst
    rw [ByteArray.extract_extract, Nat.add_zero, Nat.min_eq_left (by omega)]
  rw [e, lcF_all, ← lcR_on s b (b + n) (1, 1) (by omega) hb (bd_pre s b (b + n) hd (by omega) hb)]
/-- What is known of a word's place. -/
structure WdAt (s : ByteArray) (x : Wd) : Prop where
  lc : (x.l, x.c) = whL s x.b
  lt : x.b < s.size
  e : x.e = x.b + x.v.n
  v : x.v = wordV (rst s x.b)
  le : x.e ≤ s.size
theorem wdAt_mk {s : ByteArray} {b : Nat} {x : Nat × Nat} (h1 : x = whL s b) (h2 : b < s.size) (h3 : b + (wordV (rst s b)).n ≤ s.size) : WdAt s ⟨wordV (rst s b), b, x.1, x.2, b + (wordV (rst s b)).n⟩ := by
  obtain ⟨x1, x2⟩ := x
  generalize hw : whL s b = y at h1
  subst h1
  generalize hv : wordV (rst s b) = v at h3
  exact { lc := hw.symm, lt := h2, e := rfl, v := hv.symm, le := h3 }
theorem cut_places (s : ByteArray) : ∀ f b x ws, b ≤ s.size → bdB s b = true → x = lcAt s b → (∀ y ∈ ws, WdAt s y) → (∀ y ∈ (cutGo s f b x ws).ws, WdAt s y) ∧ (cutGo s f b x ws).b ≤ s.size
  | 0, b, x, ws, hb, _, _, h => ⟨h, hb⟩
  | f + 1, b, x, ws, hb, hd, hx, h => by
    have hg := gB_le s b hb
    unfold cutGo
    split
    · exact ⟨h, hg.2⟩
    · split
      · exact ⟨h, hg.2⟩
      · rename_i hz
        rw [rst_size] at hz
        have hp : 0 < (rst s (gB s b)).size := by rw [rst_size]; omega
        have hle := wordV_le (rst s (gB s b)) hp
        rw [rst_size] at hle
        split
        · exact ⟨h, by show gB s b + _ ≤ _; omega⟩
        · rename_i ho
          have ho2 : (wordV (rst s (gB s b))).ok = true := Bool.eq_false_or_eq_true _ |>.resolve_right ho
          have hn := hle.2 ho2
          have e0 : bt (rst s (gB s b)) 0 = bt s (gB s b) := rst_at s (gB s b) 0 hg.2
          have hf := word_first _ ho2
          rw [e0] at hf
          have hl := word_last _ hp ho2
          rw [rst_at s (gB s b) _ hg.2] at hl
          have hbg : bdB s (gB s b) = true := bd_ascii s _ hf
          have hgl : gLC s b x = lcAt s (gB s b) := by
            unfold gLC
            rw [hx, lcB_at s b _ (by have := hg.2; unfold gB at this; exact this) hd]
            rfl
          have hnx : bdB s (gB s b + (wordV (rst s (gB s b))).n) = true := by
            have := bd_next s (gB s b + ((wordV (rst s (gB s b))).n - 1)) (by omega) hl
            rwa [show gB s b + ((wordV (rst s (gB s b))).n - 1) + 1 = gB s b + (wordV (rst s (gB s b))).n by omega] at this
          refine cut_places s f _ _ _ (by omega) hnx (by rw [hgl, lcB_at s _ _ (by omega) hbg]) (fun y hy => ?_)
          rcases List.mem_append.1 hy with hy | hy
          · exact h y hy
          · obtain rfl := List.mem_singleton.1 hy
            exact wdAt_mk (hgl.trans (whL_bd s _ hbg).symm) (by omega) (by omega)
theorem words_places (s : ByteArray) : (∀ y ∈ (wordsV s).ws, WdAt s y) ∧ (wordsV s).b ≤ s.size := cut_places s _ 0 (1, 1) [] (Nat.zero_le _) (bd_zero s) (lcAt_zero s).symm (fun _ h => by cases h)
end Go.Proofs.YtcnhkhjkeemafaaDoor
/- A word stays what it is, whatever stands behind it: plain mathematics. -/
namespace Go.Proofs.YtcnhkhjkeemafaaDoor
open Go.RowKit Go.Shelf
set_option linter.unusedVariables false
theorem scanTo_mem (p : Nat → Bool) (hi : Nat) : ∀ k n, hi ≤ n + k → ∀ j, n ≤ j → j < scanTo p hi n → p j = true ∧ j < hi
  | 0, n, h, j, h1, h2 => by rw [scanTo_end (by omega)] at h2; omega
  | k + 1, n, h, j, h1, h2 => by
    by_cases hn : n < hi
    · cases hp : p n with
      | true =>
        rw [scanTo_go hn hp] at h2
        by_cases e : j = n
        · subst e; exact ⟨hp, hn⟩
        · exact scanTo_mem p hi k (n + 1) (by omega) j (by omega) h2
      | false => rw [scanTo_no hp] at h2; omega
    · rw [scanTo_end hn] at h2; omega
theorem not_stk_in {c : Nat} (h : stkB c = false) : inNB c = false ∧ digB c = false ∧ hxB c = false := by
  refine ⟨?_, ?_, ?_⟩
  · cases q : inNB c
    · rfl
    · rw [stk_inN q] at h; cases h
  · cases q : digB c
    · rfl
    · rw [stk_dig q] at h; cases h
  · cases q : hxB c
    · rfl
    · rw [stk_hex q] at h; cases h
theorem edge_yes {u : ByteArray} {n : Nat} (h : n = u.size ∨ stkB (bt u n) = false) : edgeB u n = true := by
  unfold edgeB
  rcases h with h | h
  · rw [decide_eq_true h]; rfl
  · rw [h]; simp
theorem ext_pre_eq {t u : ByteArray} {n : Nat} (ht : n ≤ t.size) (hu : n ≤ u.size) (hb : ∀ i, i < n → bt u i = bt t i) : u.extract 0 n = t.extract 0 n := by
  refine ext_get _ _ (by rw [ByteArray.size_extract, ByteArray.size_extract]; omega) (fun j hj => ?_)
  rw [ByteArray.size_extract] at hj
  rw [bt_pre u n j (by omega) hu, bt_pre t n j (by omega) ht]
  exact hb j (by omega)
theorem wordV_sm {t : ByteArray} (h : smallB (bt t 0) = true) : wordV t = ⟨1, t.extract 0 (nameLen t), 0, 0, nameLen t, edgeB t (nameLen t)⟩ := by unfold wordV; rw [if_pos h]
theorem name_local {t u : ByteArray} (hs : smallB (bt t 0) = true) (ht : 0 < t.size) (hn : nameLen t ≤ u.size) (hb : ∀ i, i < nameLen t → bt u i = bt t i) (he : nameLen t = u.size ∨ stkB (bt u (nameLen t)) = false) : nameLen u = nameLen t := by
  have e1 : nameLen t = scanTo (fun n => inNB (bt t n)) (min t.size 32) 1 := by unfold nameLen; rw [if_neg (fun q => q.elim (by omega) (fun q => by rw [hs] at q; cases q))]
  have h1 : 1 ≤ nameLen t := by rw [e1]; exact (scanTo_le _ (by omega)).1
  have h32 := (nameLen_le t).2
  have hs2 : smallB (bt u 0) = true := by rw [hb 0 (by omega)]; exact hs
  have e2 : nameLen u = scanTo (fun n => inNB (bt u n)) (min u.size 32) 1 := by unfold nameLen; rw [if_neg (fun q => q.elim (by omega) (fun q => by rw [hs2] at q; cases q))]
  have hm : ∀ j, 1 ≤ j → j < nameLen t → inNB (bt u j) = true := fun j h2 h3 => by
    rw [hb j h3]
    rw [e1] at h3
    exact (scanTo_mem (fun n => inNB (bt t n)) (min t.size 32) (min t.size 32) 1 (by omega) j h2 h3).1
  rw [e2, scanTo_all (p := fun n => inNB (bt u n)) (hi := min u.size 32) (m := nameLen t) (nameLen t - 1) 1 (by omega) (by omega) hm]
  by_cases hl : nameLen t < min u.size 32
  · refine scanTo_no (p := fun n => inNB (bt u n)) ?_
    rcases he with he | he
    · omega
    · exact (not_stk_in he).1
  · exact scanTo_end hl
theorem num_local {t u : ByteArray} {V n : Nat} (hn : n ≤ u.size) (hb : ∀ i, i < n → bt u i = bt t i) (he : n = u.size ∨ stkB (bt u n) = false) : ∀ f v k, t.size ≤ k + f → k ≤ t.size → numGo t v k = (V, n) → numGo u v k = (V, n)
  | 0, v, k, h, hk, hg => by
    rw [numGo_stop (by omega), Prod.mk.injEq] at hg
    rw [numGo_stop, hg.1, hg.2]
    rw [hg.2]
    rcases he with he | he
    · omega
    · intro q; rw [(not_stk_in he).2.1] at q; cases q.2.1
  | f + 1, v, k, h, hk, hg => by
    by_cases hc : k < t.size ∧ digB (bt t k) = true ∧ 0 < v ∧ v * 10 + (bt t k - 48) ≤ 65535
    · rw [numGo_go hc.1 hc.2.1 hc.2.2.1 hc.2.2.2] at hg
      have hle := (numGo_le t t.size (v * 10 + (bt t k - 48)) (k + 1) (by omega) (by omega)).1
      rw [hg] at hle
      have hkn : k < n := hle
      rw [numGo_go (by omega) (by rw [hb k hkn]; exact hc.2.1) hc.2.2.1 (by rw [hb k hkn]; exact hc.2.2.2), hb k hkn]
      exact num_local hn hb he f _ (k + 1) (by omega) (by omega) hg
    · rw [numGo_stop hc, Prod.mk.injEq] at hg
      rw [numGo_stop, hg.1, hg.2]
      rw [hg.2]
      rcases he with he | he
      · omega
      · intro q; rw [(not_stk_in he).2.1] at q; cases q.2.1
theorem numd_local {t u : ByteArray} {V n : Nat} (h3 : 3 ≤ n) (hn : n ≤ u.size) (hb : ∀ i, i < n → bt u i = bt t i) (he : n = u.size ∨ stkB (bt u n) = false) : ∀ f v k, t.size ≤ k + f → k ≤ t.size → numdGo t v k = (V, n) → numdGo u v k = (V, n)
  | 0, v, k, h, hk, hg => by
    rw [numdGo_stop (by omega), Prod.mk.injEq] at hg
    rw [numdGo_stop, hg.1, hg.2]
    rw [hg.2]
    rcases he with he | he
    · omega
    · intro q; have := hxB_hexI.2 q.2.2.1; rw [(not_stk_in he).2.2] at this; cases this
  | f + 1, v, k, h, hk, hg => by
    by_cases hc : k < t.size ∧ (k < 6 ∨ bt t 2 ≠ 48) ∧ 0 ≤ hexI (bt t k) ∧ v * 16 + (hexI (bt t k)).toNat ≤ 1114111
    · rw [numdGo_go hc] at hg
      have hle := (numdGo_le t t.size (v * 16 + (hexI (bt t k)).toNat) (k + 1) (by omega) (by omega)).1
      rw [hg] at hle
      have hkn : k < n := hle
      have hc2 : k < u.size ∧ (k < 6 ∨ bt u 2 ≠ 48) ∧ 0 ≤ hexI (bt u k) ∧ v * 16 + (hexI (bt u k)).toNat ≤ 1114111 := ⟨by omega, by rw [hb 2 (by omega)]; exact hc.2.1, by rw [hb k hkn]; exact hc.2.2.1, by rw [hb k hkn]; exact hc.2.2.2⟩
      rw [numdGo_go hc2, hb k hkn]
      exact numd_local h3 hn hb he f _ (k + 1) (by omega) (by omega) hg
    · rw [numdGo_stop hc, Prod.mk.injEq] at hg
      rw [numdGo_stop, hg.1, hg.2]
      rw [hg.2]
      rcases he with he | he
      · omega
      · intro q; have := hxB_hexI.2 q.2.2.1; rw [(not_stk_in he).2.2] at this; cases this
theorem dots_mk (t : ByteArray) (h : 2 ≤ t.size) (h0 : bt t 0 = 46) (h1 : bt t 1 = 46) : dotsB t = true := by
  unfold dotsB Lib.hasPrefix
  rw [List.isPrefixOf_iff_prefix]
  have e : t.data.toList = [t.get! 0, t.get! 1] ++ t.data.toList.drop 2 := by
    rw [show t.data.toList = t.data.toList.drop 0 from rfl, drop_bt t 0 (by omega), drop_bt t 1 (by omega)]
    rfl
  have g0 : t.get! 0 = 46 := by rw [← UInt8.toNat_inj]; exact h0
  have g1 : t.get! 1 = 46 := by rw [← UInt8.toNat_inj]; exact h1
  rw [e, g0, g1]
  exact ⟨_, rfl⟩
/-- What stands at the beginning of a text, when more bytes of it are the same than it has. -/
theorem decode_same {t u : ByteArray} {m : Nat} (hm : wd t 0 ≤ m) (ht : m ≤ t.size) (hu : m ≤ u.size) (h0 : 0 < m) (hb : ∀ i, i < m → bt u i = bt t i) (hg : ¬ (rn t 0 = 65533 ∧ wd t 0 = 1)) : Utf8.decode u 0 = Utf8.decode t 0 := by
  have e := ext_pre_eq ht hu hb
  have hz : (t.extract 0 m).size = m := by rw [ByteArray.size_extract]; omega
  have h1 := decode_part (t.extract 0 m) (t.extract m t.size) 0 (by omega) (by rw [cat_split t m ht, hz]; omega)
  rw [cat_split t m ht] at h1
  have h2 := decode_grow (u.extract 0 m) (u.extract m u.size) 0 (by rw [e]; omega) (by rw [e]; unfold rn wd; rw [h1]; exact hg)
  rw [cat_split u m hu] at h2
  rw [h2, e, h1]
theorem quo_local {t u : ByteArray} (ht : 0 < t.size) (ho : (quoV t).2.2 = true) (hn : (quoV t).2.1 ≤ u.size) (hb : ∀ i, i < (quoV t).2.1 → bt u i = bt t i) : quoV u = quoV t := by
  have hle := quoV_le t ht
  unfold quoV at ho
  split at ho
  · cases ho
  · rename_i h1
    split at ho
    · cases ho
    · rename_i h2
      split at ho
      · cases ho
      · rename_i h3
        split at ho
        · cases ho
        · rename_i h4
          split at ho
          · rename_i h5
            have ev : quoV t = (rn (tl1 t) 0, wd (tl1 t) 0 + 2, true) := by unfold quoV; rw [if_neg h1, if_neg h2, if_neg h3, if_neg h4, if_pos h5]
            rw [ev] at hn hb hle ⊢
            have hn' : wd (tl1 t) 0 + 2 ≤ u.size := hn
            have hb' : ∀ i, i < wd (tl1 t) 0 + 2 → bt u i = bt t i := hb
            have hle' : wd (tl1 t) 0 + 2 ≤ t.size := hle.2
            have zt := tl1_size t
            have zu := tl1_size u
            have hp := wd_pos (tl1 t) 0
            have hbt : ∀ i, i < wd (tl1 t) 0 + 1 → bt (tl1 u) i = bt (tl1 t) i := fun i hi => by
              rw [tl1_bt u i (by omega), tl1_bt t i (by omega)]
              exact hb' (1 + i) (by omega)
            have hwb : wholeB (tl1 t) = true := Bool.eq_false_or_eq_true _ |>.resolve_right h3
            have hg : ¬ (rn (tl1 t) 0 = 65533 ∧ wd (tl1 t) 0 = 1) := by
              unfold wholeB badB at hwb
              simp at hwb
              intro q
              rcases hwb.2 with h | h
              · exact h q.1
              · exact h q.2
            have hd := decode_same (t := tl1 t) (u := tl1 u) (m := wd (tl1 t) 0 + 1) (by omega) (by omega) (by omega) (by omega) hbt hg
            have r0 : rn (tl1 u) 0 = rn (tl1 t) 0 := by unfold rn; rw [hd]
            have w0 : wd (tl1 u) 0 = wd (tl1 t) 0 := by unfold wd; rw [hd]
            have hwu : wholeB (tl1 u) = true := by
              unfold wholeB badB
              rw [r0, w0, decide_eq_true (by omega), decide_eq_false hg]
              rfl
            have h5u : rn (tl1 u) (wd (tl1 u) 0) = 39 := by
              rw [rn_39, w0, hbt _ (by omega), ← rn_39]
              exact h5
            unfold quoV
            rw [if_neg (by omega), r0, if_neg h2, hwu, if_neg (by decide), if_neg (by rw [w0]; omega), if_pos h5u, w0]
          · cases ho
theorem sgn_local {t u : ByteArray} (ht : 0 < t.size) (ho : (sgnV t).2.2 = true) (hn : (sgnV t).2.1 ≤ u.size) (hb : ∀ i, i < (sgnV t).2.1 → bt u i = bt t i) : sgnV u = sgnV t := by
  have h1 := (sgnV_le t ht).2 ho
  have h0 : bt u 0 = bt t 0 := hb 0 (by omega)
  by_cases hd : bt t 0 = 46
  · have hdt : dotsB t = true := by
      cases q : dotsB t
      · unfold sgnV at ho
        rw [hd, q] at ho
        cases ho
      · rfl
    have ev : sgnV t = (9, 2, true) := by
      unfold sgnV
      rw [hd, hdt]
      rfl
    rw [ev] at hn hb ⊢
    have hn' : 2 ≤ u.size := hn
    have hdu : dotsB u = true := dots_mk u hn' (by rw [h0]; exact hd) (by rw [hb 1 (by show 1 < 2; omega)]; exact dots_bt t hdt)
    unfold sgnV
    rw [h0, hd, hdu]
    rfl
  · unfold sgnV
    rw [h0]
    simp only [if_neg hd]
/-- A word stays what it is, whatever stands behind it that does not stick to it. -/
theorem word_local {t u : ByteArray} (ht : 0 < t.size) (ho : (wordV t).ok = true) (hn : (wordV t).n ≤ u.size) (hb : ∀ i, i < (wordV t).n → bt u i = bt t i) (he : (smallB (bt t 0) = true ∨ digB (bt t 0) = true ∨ bt t 0 = 85) → (wordV t).n = u.size ∨ stkB (bt u (wordV t).n) = false) : wordV u = wordV t := by
  have hpos := (wordV_le t ht).2 ho
  have hle := (wordV_le t ht).1
  have h0 : bt u 0 = bt t 0 := hb 0 (by omega)
  by_cases hs : smallB (bt t 0) = true
  · have ev := wordV_sm hs
    have he' := he (.inl hs)
    rw [ev] at hn hb he' hle ho ⊢
    simp only at hn hb he' hle ho
    have hnl := name_local hs ht hn hb he'
    rw [wordV_sm (t := u) (by rw [h0]; exact hs), hnl, edge_yes he', ext_pre_eq hle hn hb, ho]
  · by_cases hd : digB (bt t 0) = true
    · have ev : wordV t = ⟨2, ByteArray.empty, 0, (numV t).1, (numV t).2, edgeB t (numV t).2⟩ := by unfold wordV; rw [if_neg hs, if_pos hd]
      have eu : wordV u = ⟨2, ByteArray.empty, 0, (numV u).1, (numV u).2, edgeB u (numV u).2⟩ := by unfold wordV; rw [h0, if_neg hs, if_pos hd]
      have he' := he (.inr (.inl hd))
      rw [ev] at hn hb he' hle ho
      simp only at hn hb he' hle ho
      have hnv : numV u = numV t := by
        have := num_local (V := (numV t).1) (n := (numV t).2) hn hb he' t.size (bt t 0 - 48) 1 (by omega) (by omega) rfl
        unfold numV
        rw [h0]
        exact this
      rw [eu, ev, hnv, ho, edge_yes he']
    · by_cases hu : bt t 0 = 85
      · have ev : wordV t = ⟨3, ByteArray.empty, (numdV t).1, 0, (numdV t).2.1, (numdV t).2.2 && edgeB t (numdV t).2.1⟩ := by unfold wordV; rw [if_neg hs, if_neg hd, if_pos hu]
        have eu : wordV u = ⟨3, ByteArray.empty, (numdV u).1, 0, (numdV u).2.1, (numdV u).2.2 && edgeB u (numdV u).2.1⟩ := by unfold wordV; rw [h0, if_neg hs, if_neg hd, if_pos hu]
        have he' := he (.inr (.inr hu))
        rw [ev] at hn hb he' hle ho
        simp only at hn hb he' hle ho
        have ho2 := (Bool.and_eq_true _ _).mp ho
        have hnv : numdV u = numdV t := by
          have hok := ho2.1
          unfold numdV at hok
          split at hok
          · cases hok
          · rename_i g1
            split at hok
            · cases hok
            · rename_i g2
              have evd : numdV t = ((numdGo t 0 2).1, (numdGo t 0 2).2, true) := by unfold numdV; rw [if_neg g1, if_neg g2]
              rw [evd] at hn hb he' ⊢
              simp only at hn hb he'
              have hg := numd_local (V := (numdGo t 0 2).1) (n := (numdGo t 0 2).2) (by omega) hn hb he' t.size 0 2 (by omega) (by omega) rfl
              have h1 := hb 1 (by omega)
              unfold numdV
              rw [hg, h1, if_neg (fun q => q.elim (fun q => by omega) (fun q => g1 (.inr q))), if_neg g2]
        rw [eu, ev, hnv, ho, ho2.1, edge_yes he']
        rfl
      · by_cases hq : bt t 0 = 39
        · have ev : wordV t = ⟨3, ByteArray.empty, (quoV t).1, 0, (quoV t).2.1, (quoV t).2.2⟩ := by unfold wordV; rw [if_neg hs, if_neg hd, if_neg hu, if_pos hq]
          have eu : wordV u = ⟨3, ByteArray.empty, (quoV u).1, 0, (quoV u).2.1, (quoV u).2.2⟩ := by unfold wordV; rw [h0, if_neg hs, if_neg hd, if_neg hu, if_pos hq]
          rw [ev] at hn hb ho
          rw [eu, ev, quo_local ht ho hn hb]
        · have ev : wordV t = ⟨(sgnV t).1, ByteArray.empty, 0, 0, (sgnV t).2.1, (sgnV t).2.2⟩ := by unfold wordV; rw [if_neg hs, if_neg hd, if_neg hu, if_neg hq]
          have eu : wordV u = ⟨(sgnV u).1, ByteArray.empty, 0, 0, (sgnV u).2.1, (sgnV u).2.2⟩ := by unfold wordV; rw [h0, if_neg hs, if_neg hd, if_neg hu, if_neg hq]
          rw [ev] at hn hb ho
          rw [eu, ev, sgn_local ht ho hn hb]
end Go.Proofs.YtcnhkhjkeemafaaDoor
/- Texts behind one another, and words with other blanks between them: plain mathematics. -/
namespace Go.Proofs.YtcnhkhjkeemafaaDoor
open Go.RowKit Go.Shelf
set_option linter.unusedVariables false
theorem scanTo_agree {q q' : Nat → Bool} {m hi hi' : Nat} (hq : ∀ j, j < m → q' j = q j) (h1 : m ≤ hi) (h2 : m ≤ hi') (e1 : m = hi ∨ q m = false) (e2 : m = hi' ∨ q' m = false) : ∀ k n, m = n + k → scanTo q' hi' n = scanTo q hi n
  | 0, n, h => by
    obtain rfl : m = n := by omega
    have a1 : scanTo q hi m = m := by
      rcases e1 with e | e
      · exact scanTo_end (by omega)
      · exact scanTo_no e
    have a2 : scanTo q' hi' m = m := by
      rcases e2 with e | e
      · exact scanTo_end (by omega)
      · exact scanTo_no e
    rw [a1, a2]
  | k + 1, n, h => by
    cases hp : q n with
    | true => rw [scanTo_go (by omega) hp, scanTo_go (p := q') (by omega) (by rw [hq n (by omega)]; exact hp)]; exact scanTo_agree hq h1 h2 e1 e2 k (n + 1) (by omega)
    | false => rw [scanTo_no hp, scanTo_no (p := q') (by rw [hq n (by omega)]; exact hp)]
/-- A remark hangs on its line alone. -/
theorem rem_agree {t u : ByteArray} {m : Nat} (ht : m ≤ t.size) (hu : m ≤ u.size) (hb : ∀ j, j < m → bt u j = bt t j) (e1 : m = t.size ∨ bt t m = 10) (e2 : m = u.size ∨ bt u m = 10) : remV u = remV t := by
  have hn : nlAt u = nlAt t := by
    unfold nlAt
    exact scanTo_agree (q := fun n => !decide (bt t n = 10)) (q' := fun n => !decide (bt u n = 10)) (m := m) (fun j hj => by rw [hb j hj]) ht hu (e1.imp id (fun h => by rw [h]; rfl)) (e2.imp id (fun h => by rw [h]; rfl)) m 0 (by omega)
  have hnm : nlAt t ≤ m := by
    unfold nlAt
    rcases Nat.lt_or_ge m (scanTo (fun n => !decide (bt t n = 10)) t.size 0) with q | q
    · have := scanTo_mem (fun n => !decide (bt t n = 10)) t.size t.size 0 (by omega) m (by omega) q
      rcases e1 with e | e
      · omega
      · rw [e] at this; cases this.1
    · exact q
  have hx : u.extract 0 (nlAt u) = t.extract 0 (nlAt t) := by
    rw [hn]
    exact ext_pre_eq (by omega) (by omega) (fun i hi => hb i (by omega))
  unfold remV
  rw [hx]
/-- The words' places. -/
def mkW (s : ByteArray) (q : Nat) : Wd := ⟨wordV (rst s q), q, (lcAt s q).1, (lcAt s q).2, q + (wordV (rst s q)).n⟩
def cutP (s : ByteArray) : Nat → Nat → Option (List Nat)
  | 0, _ => none
  | f + 1, b => if (gapA s b).2 = false then none else if (gapA s b).1 = s.size then some [] else if (wordV (rst s (gapA s b).1)).ok = false then none
    else (cutP s f ((gapA s b).1 + (wordV (rst s (gapA s b).1)).n)).map ((gapA s b).1 :: ·)
theorem cutP_bad {s : ByteArray} {f b : Nat} (h : (gapA s b).2 = false) : cutP s (f + 1) b = none := by rw [cutP, if_pos h]
theorem cutP_end {s : ByteArray} {f b : Nat} (h : (gapA s b).2 = true) (he : (gapA s b).1 = s.size) : cutP s (f + 1) b = some [] := by rw [cutP, if_neg (by rw [h]; decide), if_pos he]
theorem cutP_no {s : ByteArray} {f b : Nat} (h : (gapA s b).2 = true) (he : (gapA s b).1 ≠ s.size) (ho : (wordV (rst s (gapA s b).1)).ok = false) : cutP s (f + 1) b = none := by rw [cutP, if_neg (by rw [h]; decide), if_neg he, if_pos ho]
theorem cutP_go {s : ByteArray} {f b : Nat} (h : (gapA s b).2 = true) (he : (gapA s b).1 ≠ s.size) (ho : (wordV (rst s (gapA s b).1)).ok = true) : cutP s (f + 1) b = (cutP s f ((gapA s b).1 + (wordV (rst s (gapA s b).1)).n)).map ((gapA s b).1 :: ·) := by rw [cutP, if_neg (by rw [h]; decide), if_neg he, if_neg (by rw [ho]; decide)]
theorem gapA_le (s : ByteArray) (b : Nat) (h : b ≤ s.size) : b ≤ (gapA s b).1 ∧ (gapA s b).1 ≤ s.size := gB_le s b h
theorem word_at (s : ByteArray) (q : Nat) (hq : q < s.size) (ho : (wordV (rst s q)).ok = true) : 1 ≤ (wordV (rst s q)).n ∧ q + (wordV (rst s q)).n ≤ s.size ∧ bdB s q = true ∧ bdB s (q + (wordV (rst s q)).n) = true ∧ blankB (bt s q) = false ∧ bt s q ≠ 35 := by
  have hp : 0 < (rst s q).size := by rw [rst_size]; omega
  have hle := wordV_le (rst s q) hp
  rw [rst_size] at hle
  have hn := hle.2 ho
  have e0 : bt (rst s q) 0 = bt s q := rst_at s q 0 (by omega)
  have hf := word_first _ ho
  rw [e0] at hf
  have hl := word_last _ hp ho
  rw [rst_at s q _ (by omega)] at hl
  have hnx : bdB s (q + (wordV (rst s q)).n) = true := by
    have := bd_next s (q + ((wordV (rst s q)).n - 1)) (by omega) hl
    rwa [show q + ((wordV (rst s q)).n - 1) + 1 = q + (wordV (rst s q)).n by omega] at this
  have hbl : ¬ (blankB (bt s q) = true ∨ bt s q = 35) := by
    intro h
    have hc : bt (rst s q) 0 = 9 ∨ bt (rst s q) 0 = 10 ∨ bt (rst s q) 0 = 13 ∨ bt (rst s q) 0 = 32 ∨ bt (rst s q) 0 = 35 := by
      rw [e0]
      unfold blankB at h
      simp at h
      omega
    have : (wordV (rst s q)).ok = false := by
      unfold wordV sgnV
      rcases hc with h | h | h | h | h <;> (rw [h]; rfl)
    rw [this] at ho
    cases ho
  refine ⟨hn, by omega, bd_ascii s q hf, hnx, ?_, fun h => hbl (.inr h)⟩
  cases hb : blankB (bt s q)
  · rfl
  · exact absurd (.inl hb) hbl
theorem cut_P (s : ByteArray) : ∀ f b ws, b ≤ s.size → bdB s b = true → (∀ ps, cutP s f b = some ps → (cutGo s f b (lcAt s b) ws).ok = true ∧ (cutGo s f b (lcAt s b) ws).ws = ws ++ ps.map (mkW s)) ∧ (cutP s f b = none → (cutGo s f b (lcAt s b) ws).ok = false)
  | 0, b, ws, hb, hd => ⟨fun ps h => by (cases h), fun _ => rfl⟩
  | f + 1, b, ws, hb, hd => by
    have hg := gapA_le s b hb
    have hgl : gLC s b (lcAt s b) = lcAt s (gB s b) := by
      unfold gLC
      rw [lcB_at s b _ (by have := hg.2; exact this) hd]
      rfl
    cases h1 : (gapA s b).2
    · have h1' : (gapV (rst s b)).2 = false := h1
      rw [cutP_bad h1]
      unfold cutGo
      rw [if_pos h1']
      exact ⟨fun ps h => by (cases h), fun _ => rfl⟩
    · have h1' : ¬ (gapV (rst s b)).2 = false := by rw [show (gapV (rst s b)).2 = true from h1]; decide
      by_cases he : (gapA s b).1 = s.size
      · rw [cutP_end h1 he]
        have he' : (rst s (gB s b)).size = 0 := by rw [rst_size]; have : gB s b = s.size := he; omega
        unfold cutGo
        rw [if_neg h1', if_pos he']
        exact ⟨fun ps h => by cases h; exact ⟨rfl, by simp⟩, fun h => by cases h⟩
      · have hq : gB s b < s.size := by have h9 : gB s b ≠ s.size := he; have h8 : gB s b ≤ s.size := hg.2; omega
        have he' : ¬ (rst s (gB s b)).size = 0 := by rw [rst_size]; omega
        cases h2 : (wordV (rst s (gapA s b).1)).ok
        · have h2' : (wordV (rst s (gB s b))).ok = false := h2
          rw [cutP_no h1 he h2]
          unfold cutGo
          rw [if_neg h1', if_neg he', if_pos h2']
          exact ⟨fun ps h => by (cases h), fun _ => rfl⟩
        · have h2' : (wordV (rst s (gB s b))).ok = true := h2
          obtain ⟨hn, hle, hbq, hbn, _, _⟩ := word_at s (gB s b) hq h2'
          have ih := cut_P s f (gB s b + (wordV (rst s (gB s b))).n) (ws ++ [mkW s (gB s b)]) hle hbn
          have e : cutGo s (f + 1) b (lcAt s b) ws = cutGo s f (gB s b + (wordV (rst s (gB s b))).n) (lcAt s (gB s b + (wordV (rst s (gB s b))).n)) (ws ++ [mkW s (gB s b)]) := by
            conv => lhs; unfold cutGo
            rw [if_neg h1', if_neg he', if_neg (by rw [h2']; decide), hgl, lcB_at s _ _ hle hbq]
            rfl
          rw [e, cutP_go h1 he h2]
          refine ⟨fun ps h => ?_, fun h => ?_⟩
          · obtain ⟨qs, h3, rfl⟩ := Option.map_eq_some_iff.1 h
            obtain ⟨i1, i2⟩ := ih.1 qs h3
            refine ⟨i1, ?_⟩
            rw [i2, List.append_assoc]
            rfl
          · exact ih.2 (Option.map_eq_none_iff.1 h)
theorem cutP_fuel (s : ByteArray) : ∀ f g b, b ≤ s.size → s.size < b + f → s.size < b + g → cutP s f b = cutP s g b
  | 0, g, b, hb, hf, hg => by omega
  | f + 1, 0, b, hb, hf, hg => by omega
  | f + 1, g + 1, b, hb, hf, hg => by
    have hq := gapA_le s b hb
    cases h1 : (gapA s b).2
    · rw [cutP_bad h1, cutP_bad h1]
    · by_cases he : (gapA s b).1 = s.size
      · rw [cutP_end h1 he, cutP_end h1 he]
      · cases h2 : (wordV (rst s (gapA s b).1)).ok
        · rw [cutP_no h1 he h2, cutP_no h1 he h2]
        · have hw := word_at s (gapA s b).1 (by omega) h2
          rw [cutP_go h1 he h2, cutP_go h1 he h2, cutP_fuel s f g _ hw.2.1 (by omega) (by omega)]
/-- The places of a text's words; none, if it is not right by its words. -/
def posV (s : ByteArray) : Option (List Nat) := cutP s (s.size + 1) 0
theorem words_pos {s : ByteArray} {ps : List Nat} (h : posV s = some ps) : (wordsV s).ok = true ∧ (wordsV s).ws = ps.map (mkW s) := by
  have := (cut_P s (s.size + 1) 0 [] (Nat.zero_le _) (bd_zero s)).1 ps h
  rw [lcAt_zero] at this
  simpa [wordsV] using this
theorem words_none {s : ByteArray} (h : posV s = none) : (wordsV s).ok = false := by
  have := (cut_P s (s.size + 1) 0 [] (Nat.zero_le _) (bd_zero s)).2 h
  rw [lcAt_zero] at this
  exact this
theorem cutP_mem (s : ByteArray) : ∀ f b ps, b ≤ s.size → cutP s f b = some ps → ∀ p ∈ ps, p < s.size ∧ (wordV (rst s p)).ok = true
  | 0, b, ps, hb, h => by cases h
  | f + 1, b, ps, hb, h => by
    have hq := gapA_le s b hb
    cases h1 : (gapA s b).2
    · rw [cutP_bad h1] at h; cases h
    · by_cases he : (gapA s b).1 = s.size
      · rw [cutP_end h1 he] at h; cases h; intro p hp; cases hp
      · cases h2 : (wordV (rst s (gapA s b).1)).ok
        · rw [cutP_no h1 he h2] at h; cases h
        · have hw := word_at s (gapA s b).1 (by omega) h2
          rw [cutP_go h1 he h2] at h
          obtain ⟨qs, h3, rfl⟩ := Option.map_eq_some_iff.1 h
          intro p hp
          rcases List.mem_cons.1 hp with rfl | hp
          · exact ⟨by omega, h2⟩
          · exact cutP_mem s f _ qs hw.2.1 h3 p hp
end Go.Proofs.YtcnhkhjkeemafaaDoor
/- How far a text is right hangs on its bytes up to there: plain mathematics. -/
namespace Go.Proofs.YtcnhkhjkeemafaaDoor
open Go.RowKit Go.Shelf
set_option linter.unusedVariables false
/-- Two texts have the same first bytes. -/
structure Agr (s u : ByteArray) (k : Nat) : Prop where
  ls : k ≤ s.size
  lu : k ≤ u.size
  bt : ∀ i, i < k → bt u i = bt s i
theorem Agr.mono {s u : ByteArray} {k m : Nat} (h : Agr s u k) (hm : m ≤ k) : Agr s u m := ⟨by have := h.ls; omega, by have := h.lu; omega, fun i hi => h.bt i (by omega)⟩
/-- In a gap, or in a remark of it. -/
def gapM (s : ByteArray) (r : Bool) (p : Nat) : Nat × Bool := if r = true then remA s p else gapA s p
theorem remA_ge (s : ByteArray) (p : Nat) (h : p ≤ s.size) : p ≤ (remA s p).1 := by
  have hl := lnEnd_le s p h
  unfold remA
  split
  · have := (gapA_le s (lnEnd s p) hl.2).1; omega
  · show p ≤ p + _ + _; omega
theorem gapM_t (s : ByteArray) (p : Nat) : gapM s true p = remA s p := by unfold gapM; rw [if_pos rfl]
theorem gapM_f (s : ByteArray) (p : Nat) : gapM s false p = gapA s p := by unfold gapM; rw [if_neg (by decide)]
theorem gapM_ge (s : ByteArray) (r : Bool) (p : Nat) (h : p ≤ s.size) : p ≤ (gapM s r p).1 := by
  unfold gapM
  split
  · exact remA_ge s p h
  · exact (gapA_le s p h).1
theorem spot_same {s u : ByteArray} {p : Nat} (hp : p < s.size) (hg : badB s p = false) (ha : Agr s u (p + wd s p)) : badB u p = false ∧ wd u p = wd s p := by
  have hd : Utf8.decode (rst s p) 0 = Utf8.decode s p := decode_suffix s p 0 (by omega)
  have hdu : Utf8.decode (rst u p) 0 = Utf8.decode u p := decode_suffix u p 0 (by have := ha.lu; omega)
  have hw := wd_pos s p
  have h1 := ha.ls
  have h2 := ha.lu
  have hng : ¬ (rn s p = 65533 ∧ wd s p = 1) := of_decide_eq_false hg
  have := decode_same (t := rst s p) (u := rst u p) (m := wd s p) (by unfold wd; rw [hd]; exact Nat.le_refl _) (by rw [rst_size]; omega) (by rw [rst_size]; omega) (by omega)
    (fun i hi => by rw [rst_at _ _ _ (by omega), rst_at _ _ _ (by omega)]; exact ha.bt _ (by omega)) (by unfold rn wd; rw [hd]; exact hng)
  rw [hd, hdu] at this
  refine ⟨?_, by unfold wd; rw [this]⟩
  unfold badB rn wd
  rw [this]
  exact hg
/-- A gap that ends ahead of the end of a text. -/
theorem gap_on {s u : ByteArray} {N : Nat} (ha : Agr s u N) : ∀ k r p q, s.size ≤ p + k → p ≤ s.size → gapM s r p = (q, true) → q < s.size → q ≤ N → gapM u r p = gapA u q
  | 0, r, p, q, h, hp, hg, hq, hN => by
    have := gapM_ge s r p hp
    rw [hg] at this
    have h9 : p ≤ q := this
    omega
  | k + 1, r, p, q, h, hp, hg, hq, hN => by
    have hge := gapM_ge s r p hp
    rw [hg] at hge
    have hpq : p ≤ q := hge
    have hps : p < s.size := by omega
    have hlu := ha.lu
    cases r
    · have hg' : gapA s p = (q, true) := by rw [← gapM_f]; exact hg
      rw [gapM_f]
      cases hb : blankB (bt s p)
      · by_cases hr : bt s p = 35
        · rw [gapA_rem s p hps hr] at hg'
          have h1 := remA_ge s (p + 1) (by omega)
          rw [hg'] at h1
          have h2 : p + 1 ≤ q := h1
          have hbu := ha.bt p (by omega)
          rw [gapA_rem u p (by omega) (by rw [hbu]; exact hr)]
          have := gap_on ha k true (p + 1) q (by omega) (by omega) (by rw [gapM_t]; exact hg') hq hN
          rwa [gapM_t] at this
        · rw [gapA_stop s p hps hb hr, Prod.mk.injEq] at hg'
          rw [hg'.1]
      · rw [gapA_blank s p hps hb] at hg'
        have h1 := (gapA_le s (p + 1) (by omega)).1
        rw [hg'] at h1
        have h2 : p + 1 ≤ q := h1
        have hbu := ha.bt p (by omega)
        rw [gapA_blank u p (by omega) (by rw [hbu]; exact hb)]
        have := gap_on ha k false (p + 1) q (by omega) (by omega) (by rw [gapM_f]; exact hg') hq hN
        rwa [gapM_f] at this
    · have hg' : remA s p = (q, true) := by rw [← gapM_t]; exact hg
      rw [gapM_t]
      by_cases h10 : bt s p = 10
      · rw [remA_nl s p hps h10] at hg'
        have h1 := (gapA_le s (p + 1) (by omega)).1
        rw [hg'] at h1
        have h2 : p + 1 ≤ q := h1
        have hbu := ha.bt p (by omega)
        rw [remA_nl u p (by omega) (by rw [hbu]; exact h10)]
        have := gap_on ha k false (p + 1) q (by omega) (by omega) (by rw [gapM_f]; exact hg') hq hN
        rwa [gapM_f] at this
      · cases hb : badB s p
        · rw [remA_spot s p hps h10 hb] at hg'
          have hw := wd_pos s p
          have hwr := wd_room s p hps
          have h1 := remA_ge s (p + wd s p) hwr
          rw [hg'] at h1
          have h2 : p + wd s p ≤ q := h1
          obtain ⟨c1, c2⟩ := spot_same hps hb (ha.mono (show p + wd s p ≤ N by omega))
          have hbu := ha.bt p (by omega)
          rw [remA_spot u p (by omega) (by rw [hbu]; exact h10) c1, c2]
          have := gap_on ha k true (p + wd s p) q (by omega) hwr (by rw [gapM_t]; exact hg') hq hN
          rwa [gapM_t] at this
        · rw [remA_bad s p hps hb, Prod.mk.injEq] at hg'
          cases hg'.2
/-- A gap with a wrong remark: where the wrong bytes begin. -/
theorem gap_off (s : ByteArray) : ∀ k r p q, s.size ≤ p + k → p ≤ s.size → gapM s r p = (q, false) → ∃ x, p ≤ x ∧ x < s.size ∧ badB s x = true ∧ q = x + begLen (rst s x) ∧ (r = false → p < x) ∧ ∀ u, Agr s u x → gapM u r p = remA u x
  | 0, r, p, q, h, hp, hg => by
    obtain rfl : p = s.size := by omega
    cases r
    · have hg' : gapA s s.size = (q, false) := by rw [← gapM_f]; exact hg
      rw [gapA_end s s.size (Nat.le_refl _) (Nat.le_refl _), Prod.mk.injEq] at hg'
      cases hg'.2
    · have hg' : remA s s.size = (q, false) := by rw [← gapM_t]; exact hg
      rw [remA_end s s.size rfl, Prod.mk.injEq] at hg'
      cases hg'.2
  | k + 1, r, p, q, h, hp, hg => by
    by_cases he : p = s.size
    · subst he
      cases r
      · have hg' : gapA s s.size = (q, false) := by rw [← gapM_f]; exact hg
        rw [gapA_end s s.size (Nat.le_refl _) (Nat.le_refl _), Prod.mk.injEq] at hg'
        cases hg'.2
      · have hg' : remA s s.size = (q, false) := by rw [← gapM_t]; exact hg
        rw [remA_end s s.size rfl, Prod.mk.injEq] at hg'
        cases hg'.2
    · have hps : p < s.size := by omega
      cases r
      · have hg' : gapA s p = (q, false) := by rw [← gapM_f]; exact hg
        cases hb : blankB (bt s p)
        · by_cases hr : bt s p = 35
          · rw [gapA_rem s p hps hr] at hg'
            obtain ⟨x, h1, h2, h3, h4, _, h5⟩ := gap_off s k true (p + 1) q (by omega) (by omega) (by rw [gapM_t]; exact hg')
            refine ⟨x, by omega, h2, h3, h4, fun _ => by omega, fun u hu => ?_⟩
            have hbu := hu.bt p (by omega)
            rw [gapM_f, gapA_rem u p (by have := hu.lu; omega) (by rw [hbu]; exact hr)]
            have := h5 u hu
            rwa [gapM_t] at this
          · rw [gapA_stop s p hps hb hr, Prod.mk.injEq] at hg'
            cases hg'.2
        · rw [gapA_blank s p hps hb] at hg'
          obtain ⟨x, h1, h2, h3, h4, h6, h5⟩ := gap_off s k false (p + 1) q (by omega) (by omega) (by rw [gapM_f]; exact hg')
          refine ⟨x, by omega, h2, h3, h4, fun _ => by omega, fun u hu => ?_⟩
          have hbu := hu.bt p (by omega)
          rw [gapM_f, gapA_blank u p (by have := hu.lu; omega) (by rw [hbu]; exact hb)]
          have := h5 u hu
          rwa [gapM_f] at this
      · have hg' : remA s p = (q, false) := by rw [← gapM_t]; exact hg
        by_cases h10 : bt s p = 10
        · rw [remA_nl s p hps h10] at hg'
          obtain ⟨x, h1, h2, h3, h4, h6, h5⟩ := gap_off s k false (p + 1) q (by omega) (by omega) (by rw [gapM_f]; exact hg')
          have h7 := h6 rfl
          refine ⟨x, by omega, h2, h3, h4, (fun q => by cases q), fun u hu => ?_⟩
          have hbu := hu.bt p (by omega)
          rw [gapM_t, remA_nl u p (by have := hu.lu; omega) (by rw [hbu]; exact h10)]
          have := h5 u hu
          rwa [gapM_f] at this
        · cases hb : badB s p
          · rw [remA_spot s p hps h10 hb] at hg'
            have hw := wd_pos s p
            have hwr := wd_room s p hps
            obtain ⟨x, h1, h2, h3, h4, _, h5⟩ := gap_off s k true (p + wd s p) q (by omega) hwr (by rw [gapM_t]; exact hg')
            refine ⟨x, by omega, h2, h3, h4, (fun q => by cases q), fun u hu => ?_⟩
            obtain ⟨c1, c2⟩ := spot_same hps hb (hu.mono h1)
            have hbu := hu.bt p (by omega)
            rw [gapM_t, remA_spot u p (by have := hu.lu; omega) (by rw [hbu]; exact h10) c1, c2]
            have := h5 u hu
            rwa [gapM_t] at this
          · rw [remA_bad s p hps hb, Prod.mk.injEq] at hg'
            exact ⟨p, Nat.le_refl _, hps, hb, hg'.1.symm, (fun q => by cases q), fun u hu => gapM_t u p⟩
/-- How far a text is right, and whether it is to its end. -/
def endP (s : ByteArray) : Nat → Nat → Bool × Nat
  | 0, b => (false, b)
  | f + 1, b => if (gapA s b).2 = false then (false, (gapA s b).1) else if (gapA s b).1 = s.size then (true, s.size) else if (wordV (rst s (gapA s b).1)).ok = false then (false, (gapA s b).1 + (wordV (rst s (gapA s b).1)).n) else endP s f ((gapA s b).1 + (wordV (rst s (gapA s b).1)).n)
theorem cut_end (s : ByteArray) : ∀ f b x ws, b ≤ s.size → (cutGo s f b x ws).ok = (endP s f b).1 ∧ (cutGo s f b x ws).b = (endP s f b).2
  | 0, b, x, ws, hb => ⟨rfl, rfl⟩
  | f + 1, b, x, ws, hb => by
    have hgb := gapA_le s b hb
    have e1 : (gapA s b).1 = gB s b := rfl
    have e2 : (gapA s b).2 = (gapV (rst s b)).2 := rfl
    unfold cutGo endP
    rw [e1, e2]
    by_cases h1 : (gapV (rst s b)).2 = false
    · rw [if_pos h1, if_pos h1]; exact ⟨rfl, rfl⟩
    · rw [if_neg h1, if_neg h1]
      by_cases h2 : gB s b = s.size
      · rw [if_pos (by rw [rst_size]; omega), if_pos h2]
        exact ⟨rfl, h2⟩
      · have h5 : gB s b < s.size := by have h9 : gB s b ≤ s.size := hgb.2; omega
        rw [if_neg (by rw [rst_size]; omega), if_neg h2]
        by_cases h3 : (wordV (rst s (gB s b))).ok = false
        · rw [if_pos h3, if_pos h3]; exact ⟨rfl, rfl⟩
        · rw [if_neg h3, if_neg h3]
          have hw := word_at s (gB s b) h5 (Bool.eq_false_or_eq_true _ |>.resolve_right h3)
          exact cut_end s f _ _ _ hw.2.1
end Go.Proofs.YtcnhkhjkeemafaaDoor
/- States of a cut; wrong sequences, and how they go on: plain mathematics. -/
namespace Go.Proofs.YtcnhkhjkeemafaaDoor
open Go.RowKit Go.Shelf
set_option linter.unusedVariables false
theorem endP_fuel (s : ByteArray) : ∀ f g b, b ≤ s.size → s.size < b + f → s.size < b + g → endP s f b = endP s g b
  | 0, g, b, hb, hf, hg => by omega
  | f + 1, 0, b, hb, hf, hg => by omega
  | f + 1, g + 1, b, hb, hf, hg => by
    have hq := gapA_le s b hb
    unfold endP
    by_cases h1 : (gapA s b).2 = false
    · rw [if_pos h1, if_pos h1]
    · rw [if_neg h1, if_neg h1]
      by_cases h2 : (gapA s b).1 = s.size
      · rw [if_pos h2, if_pos h2]
      · rw [if_neg h2, if_neg h2]
        by_cases h3 : (wordV (rst s (gapA s b).1)).ok = false
        · rw [if_pos h3, if_pos h3]
        · rw [if_neg h3, if_neg h3]
          have hw := word_at s (gapA s b).1 (by omega) (Bool.eq_false_or_eq_true _ |>.resolve_right h3)
          exact endP_fuel s f g _ hw.2.1 (by omega) (by omega)
def endE (s : ByteArray) (b : Nat) : Bool × Nat := endP s (s.size + 1) b
theorem words_end (s : ByteArray) : (wordsV s).ok = (endE s 0).1 ∧ (wordsV s).b = (endE s 0).2 := cut_end s (s.size + 1) 0 (1, 1) [] (Nat.zero_le _)
theorem endE_step (s : ByteArray) (b : Nat) (hb : b ≤ s.size) : endE s b = if (gapA s b).2 = false then (false, (gapA s b).1) else if (gapA s b).1 = s.size then (true, s.size) else if (wordV (rst s (gapA s b).1)).ok = false then (false, (gapA s b).1 + (wordV (rst s (gapA s b).1)).n) else endE s ((gapA s b).1 + (wordV (rst s (gapA s b).1)).n) := by
  have hq := gapA_le s b hb
  unfold endE
  conv => lhs; unfold endP
  by_cases h1 : (gapA s b).2 = false
  · rw [if_pos h1, if_pos h1]
  · rw [if_neg h1, if_neg h1]
    by_cases h2 : (gapA s b).1 = s.size
    · rw [if_pos h2, if_pos h2]
    · rw [if_neg h2, if_neg h2]
      by_cases h3 : (wordV (rst s (gapA s b).1)).ok = false
      · rw [if_pos h3, if_pos h3]
      · rw [if_neg h3, if_neg h3]
        have hw := word_at s (gapA s b).1 (by omega) (Bool.eq_false_or_eq_true _ |>.resolve_right h3)
        exact endP_fuel s _ _ _ hw.2.1 (by omega) (by omega)
/-- Places to which a cut comes behind so many words. -/
def reachN (s : ByteArray) : Nat → Nat → Prop
  | 0, b => b = 0
  | k + 1, b => ∃ b0 q, reachN s k b0 ∧ gapA s b0 = (q, true) ∧ q < s.size ∧ (wordV (rst s q)).ok = true ∧ b = q + (wordV (rst s q)).n
/-- Places to which a cut comes behind its words. -/
def Reach (s : ByteArray) (b : Nat) : Prop := ∃ k, reachN s k b
theorem Reach.zero {s : ByteArray} : Reach s 0 := ⟨0, rfl⟩
theorem Reach.next {s : ByteArray} {b q : Nat} (h : Reach s b) (hg : gapA s b = (q, true)) (hq : q < s.size) (ho : (wordV (rst s q)).ok = true) : Reach s (q + (wordV (rst s q)).n) := by
  obtain ⟨k, hk⟩ := h
  exact ⟨k + 1, b, q, hk, hg, hq, ho, rfl⟩
theorem reachN_le {s : ByteArray} : ∀ k b, reachN s k b → b ≤ s.size
  | 0, b, h => by rw [show b = 0 from h]; exact Nat.zero_le _
  | k + 1, b, h => by
    obtain ⟨b0, q, _, _, hq, ho, rfl⟩ := h
    exact (word_at s _ hq ho).2.1
theorem Reach.le {s : ByteArray} {b : Nat} (h : Reach s b) : b ≤ s.size := by
  obtain ⟨k, hk⟩ := h
  exact reachN_le k b hk
theorem reachN_eq {s : ByteArray} : ∀ k b, reachN s k b → endE s 0 = endE s b
  | 0, b, h => by rw [show b = 0 from h]
  | k + 1, b, h => by
    obtain ⟨b0, q, hk, hg, hq, ho, rfl⟩ := h
    rw [reachN_eq k b0 hk, endE_step s b0 (reachN_le k b0 hk), hg, if_neg (show ¬ (true = false) by decide), if_neg (by show ¬ q = s.size; omega), if_neg (by rw [ho]; decide)]
theorem Reach.eq {s : ByteArray} {b : Nat} (h : Reach s b) : endE s 0 = endE s b := by
  obtain ⟨k, hk⟩ := h
  exact reachN_eq k b hk
theorem reach_ok {s : ByteArray} {b : Nat} (h : Reach s b) (hg : gapA s b = (s.size, true)) : (wordsV s).ok = true := by
  rw [(words_end s).1, h.eq, endE_step s b h.le, hg, if_neg (show ¬ (true = false) by decide), if_pos rfl]
theorem reach_gap {s : ByteArray} {b k : Nat} (h : Reach s b) (hg : gapA s b = (k, false)) : (wordsV s).ok = false ∧ (wordsV s).b = k := by
  rw [(words_end s).1, (words_end s).2, h.eq, endE_step s b h.le, hg, if_pos rfl]
  exact ⟨rfl, rfl⟩
theorem reach_word {s : ByteArray} {b q : Nat} (h : Reach s b) (hg : gapA s b = (q, true)) (hq : q < s.size) (ho : (wordV (rst s q)).ok = false) : (wordsV s).ok = false ∧ (wordsV s).b = q + (wordV (rst s q)).n := by
  rw [(words_end s).1, (words_end s).2, h.eq, endE_step s b h.le, hg, if_neg (show ¬ (true = false) by decide), if_neg (by show ¬ q = s.size; omega), if_pos ho]
  exact ⟨rfl, rfl⟩
/-- Where a text that is not right stops. -/
theorem stops_at (s : ByteArray) : ∀ f b, Reach s b → s.size < b + f → (endE s b).1 = false → ∃ b', Reach s b' ∧ (gapA s b' = ((endE s b).2, false) ∨ ∃ q, gapA s b' = (q, true) ∧ q < s.size ∧ (wordV (rst s q)).ok = false ∧ (endE s b).2 = q + (wordV (rst s q)).n)
  | 0, b, h, hf, _ => by have := h.le; omega
  | f + 1, b, h, hf, he => by
    have hq := gapA_le s b h.le
    have hs := endE_step s b h.le
    by_cases h1 : (gapA s b).2 = false
    · rw [if_pos h1] at hs
      exact ⟨b, h, .inl (by rw [hs, ← h1])⟩
    · have h1' : (gapA s b).2 = true := Bool.eq_false_or_eq_true _ |>.resolve_right h1
      rw [if_neg h1] at hs
      by_cases h2 : (gapA s b).1 = s.size
      · rw [if_pos h2] at hs
        rw [hs] at he
        cases he
      · rw [if_neg h2] at hs
        have hlt : (gapA s b).1 < s.size := by omega
        have hg : gapA s b = ((gapA s b).1, true) := by rw [← h1']
        by_cases h3 : (wordV (rst s (gapA s b).1)).ok = false
        · rw [if_pos h3] at hs
          exact ⟨b, h, .inr ⟨(gapA s b).1, hg, hlt, h3, by rw [hs]⟩⟩
        · rw [if_neg h3] at hs
          have ho := Bool.eq_false_or_eq_true _ |>.resolve_right h3
          have hw := word_at s (gapA s b).1 hlt ho
          rw [hs] at he ⊢
          exact stops_at s f _ (.next h hg hlt ho) (by omega) he
theorem words_stop {s : ByteArray} (h : (wordsV s).ok = false) : ∃ b, Reach s b ∧ (gapA s b = ((wordsV s).b, false) ∨ ∃ q, gapA s b = (q, true) ∧ q < s.size ∧ (wordV (rst s q)).ok = false ∧ (wordsV s).b = q + (wordV (rst s q)).n) := by
  have he := words_end s
  rw [he.1] at h
  rw [he.2]
  exact stops_at s (s.size + 1) 0 .zero (by omega) h
theorem word_edge2 {t : ByteArray} (ho : (wordV t).ok = true) (hc : smallB (bt t 0) = true ∨ digB (bt t 0) = true ∨ bt t 0 = 85) : edgeB t (wordV t).n = true := by
  unfold wordV at ho ⊢
  split at ho
  · rename_i hs; rw [if_pos hs]; exact ho
  · rename_i hs
    rw [if_neg hs]
    split at ho
    · rename_i hd; rw [if_pos hd]; exact ho
    · rename_i hd
      rw [if_neg hd]
      split at ho
      · rename_i hu; rw [if_pos hu]; exact ((Bool.and_eq_true _ _).mp ho).2
      · rename_i hu
        rcases hc with h | h | h
        · exact absurd h hs
        · exact absurd h hd
        · exact absurd h hu
/-- A gap that ends at a place whose byte is the same, too. -/
theorem gap_at {s u : ByteArray} {b q : Nat} (ha : Agr s u (q + 1)) (hb : b ≤ s.size) (hg : gapA s b = (q, true)) (hq : q < s.size) (hw : blankB (bt s q) = false ∧ bt s q ≠ 35) : gapA u b = (q, true) := by
  have := gap_on (ha.mono (Nat.le_succ q)) s.size false b q (by omega) hb (by rw [gapM_f]; exact hg) hq (Nat.le_refl _)
  rw [gapM_f] at this
  rw [this]
  have hbt := ha.bt q (by omega)
  exact gapA_stop u q (by have := ha.lu; omega) (by rw [hbt]; exact hw.1) (by rw [hbt]; exact hw.2)
theorem reachN_on {s : ByteArray} : ∀ k b, reachN s k b → ∀ u : ByteArray, Agr s u b → (u.size = b ∨ (b < s.size ∧ b < u.size ∧ bt u b = bt s b) ∨ (b < u.size ∧ stkB (bt u b) = false)) → Reach u b
  | 0, b, h, u, _, _ => by rw [show b = 0 from h]; exact Reach.zero
  | k + 1, b', h0, u, ha, he => by
    obtain ⟨b, q, hk, hg, hq, ho, rfl⟩ := h0
    have hbl := reachN_le k b hk
    have hw := word_at s q hq ho
    have hbq : b ≤ q := by have := (gapA_le s b hbl).1; rw [hg] at this; exact this
    have hlu := ha.lu
    have hub : Reach u b := reachN_on k b hk u (ha.mono (by omega)) (.inr (.inl ⟨by omega, by omega, ha.bt b (by omega)⟩))
    have hgu := gap_at (ha.mono (show q + 1 ≤ q + (wordV (rst s q)).n by omega)) hbl hg hq ⟨hw.2.2.2.2.1, hw.2.2.2.2.2⟩
    have hwu : wordV (rst u q) = wordV (rst s q) := by
      refine word_local (by rw [rst_size]; omega) ho (by rw [rst_size]; omega) (fun i hi => ?_) (fun hc => ?_)
      · rw [rst_at _ _ _ (by omega), rst_at _ _ _ (by omega)]; exact ha.bt _ (by omega)
      · have hed := word_edge2 ho hc
        unfold edgeB at hed
        rw [rst_size, rst_at _ _ _ (by omega)] at hed
        rw [rst_size, rst_at _ _ _ (by omega)]
        rcases he with he | ⟨h1, h2, h3⟩ | ⟨h1, h2⟩
        · left; omega
        · right
          rw [decide_eq_false (by omega), Bool.false_or] at hed
          rw [h3]
          simpa using hed
        · right; exact h2
    have := Reach.next hub hgu (by omega) (by rw [hwu]; exact ho)
    rwa [hwu] at this
theorem Reach.on {s : ByteArray} {b : Nat} (h : Reach s b) {u : ByteArray} (ha : Agr s u b) (he : u.size = b ∨ (b < s.size ∧ b < u.size ∧ bt u b = bt s b) ∨ (b < u.size ∧ stkB (bt u b) = false)) : Reach u b := by
  obtain ⟨k, hk⟩ := h
  exact reachN_on k b hk u ha he
/-- A wrong sequence: how it goes wrong. -/
theorem bad_cases {t : ByteArray} (h : 0 < t.size) (hb : badB t 0 = true) : ((secOf (bt t 0)).1 = 0 ∧ 128 ≤ bt t 0 ∧ begLen t = 0) ∨ ((secOf (bt t 0)).1 ≠ 0 ∧ 1 ≤ begLen t ∧ begLen t < szOf (bt t 0) ∧ (∀ j, 1 ≤ j → j < begLen t → good4 t j = true) ∧ good4 t (begLen t) = false) := by
  have ht := at_told t 0
  have hbd : rn t 0 = 65533 ∧ wd t 0 = 1 := of_decide_eq_true hb
  have h128 : 128 ≤ bt t 0 := by
    rcases ht.one hbd.2 with q | q
    · exact q.2
    · have : rn t 0 = bt t 0 := q.1
      omega
  by_cases hs : (secOf (bt t 0)).1 = 0
  · exact .inl ⟨hs, h128, begLen_none t h hs⟩
  · right
    have hz := szOf_cases (bt t 0)
    have hne : ¬ ∀ j, 1 ≤ j → j < szOf (bt t 0) → good4 t j = true := fun hg => by
      have := seq4_good h hs hg
      unfold seq4V at this
      rw [if_neg (by omega), if_pos hb] at this
      simp at this
    have hk : ∃ k, 1 ≤ k ∧ k < szOf (bt t 0) ∧ (∀ j, 1 ≤ j → j < k → good4 t j = true) ∧ good4 t k = false := by
      cases g1 : good4 t 1
      · exact ⟨1, by omega, by omega, fun j h1 h2 => by omega, g1⟩
      · by_cases z2 : szOf (bt t 0) = 2
        · exact absurd (fun j h1 h2 => by obtain rfl : j = 1 := by omega
                                          exact g1) hne
        · cases g2 : good4 t 2
          · exact ⟨2, by omega, by omega, fun j h1 h2 => by obtain rfl : j = 1 := by omega
                                                            exact g1, g2⟩
          · by_cases z3 : szOf (bt t 0) = 3
            · exact absurd (fun j h1 h2 => by
                have : j = 1 ∨ j = 2 := by omega
                rcases this with rfl | rfl
                · exact g1
                · exact g2) hne
            · cases g3 : good4 t 3
              · exact ⟨3, by omega, by omega, fun j h1 h2 => by
                  have : j = 1 ∨ j = 2 := by omega
                  rcases this with rfl | rfl
                  · exact g1
                  · exact g2, g3⟩
              · exact absurd (fun j h1 h2 => by
                  have : j = 1 ∨ j = 2 ∨ j = 3 := by omega
                  rcases this with rfl | rfl | rfl
                  · exact g1
                  · exact g2
                  · exact g3) hne
    obtain ⟨k, h1, h2, h3, h4⟩ := hk
    have e := begLen_some t hs k h1 h2 h3 h4 h
    rw [e]
    exact ⟨hs, h1, h2, h3, h4⟩
theorem bad_of_seq {t : ByteArray} {m : Nat} (h : 0 < t.size) (e : seq4V t = (0, m, false)) : badB t 0 = true ∧ begLen t = m := by
  unfold seq4V at e
  rw [if_neg (by omega)] at e
  by_cases hb : badB t 0 = true
  · rw [if_pos hb] at e
    simp at e
    exact ⟨hb, e⟩
  · rw [if_neg hb] at e
    simp at e
theorem good_agr {t u : ByteArray} {k j : Nat} (ha : Agr t u k) (hj : j < k) (h0 : 0 < k) : good4 u j = good4 t j := by
  have hlt := ha.ls
  have hlu := ha.lu
  unfold good4
  rw [ha.bt j hj, ha.bt 0 h0]
  apply decide_eq_decide.2
  constructor <;> (intro q; exact ⟨by omega, q.2⟩)
/-- It goes wrong there, whatever follows. -/
theorem bad_on {t u : ByteArray} (h : 0 < t.size) (hb : badB t 0 = true) (hm : begLen t < t.size) (ha : Agr t u (begLen t + 1)) : badB u 0 = true ∧ begLen u = begLen t := by
  have hlu := ha.lu
  rcases bad_cases h hb with ⟨h1, h2, h3⟩ | ⟨h1, h2, h3, h4, h5⟩
  · have e0 := ha.bt 0 (by omega)
    have e := seq4_none (t := u) (by omega) (by rw [e0]; exact h2) (by rw [e0]; exact h1)
    rw [h3]
    exact bad_of_seq (by omega) e
  · have e0 := ha.bt 0 (by omega)
    have e := seq4_bad (t := u) (by omega) (by rw [e0]; exact h1) (begLen t) h2 (by rw [e0]; exact h3) (fun j q1 q2 => by rw [good_agr ha (by omega) (by omega)]; exact h4 j q1 q2) (by rw [good_agr ha (by omega) (by omega)]; exact h5)
    exact bad_of_seq (by omega) e
/-- How a sequence that is begun can go on. -/
def contS : List ByteArray := [⟨#[128]⟩, ⟨#[128, 128]⟩, ⟨#[128, 128, 128]⟩, ⟨#[191]⟩, ⟨#[191, 128]⟩, ⟨#[191, 128, 128]⟩]
end Go.Proofs.YtcnhkhjkeemafaaDoor
/- A word that goes wrong: it goes wrong there whatever follows; what stands ahead of that can go on: plain mathematics. -/
namespace Go.Proofs.YtcnhkhjkeemafaaDoor
open Go.RowKit Go.Shelf
set_option linter.unusedVariables false
theorem apL (r x : ByteArray) (i : Nat) (h : i < r.size) : bt (r ++ x) i = bt r i := by unfold bt; rw [get_append, if_pos h]
theorem apR (r x : ByteArray) (i j : Nat) (h : i = r.size + j) : bt (r ++ x) i = bt x j := by subst h; unfold bt; rw [get_append, if_neg (by omega), Nat.add_sub_cancel_left]
theorem cont_core {u : ByteArray} (h : 0 < u.size) (hs : (secOf (bt u 0)).1 ≠ 0) (hg : ∀ j, 1 ≤ j → j < szOf (bt u 0) → good4 u j = true) : badB u 0 = false ∧ wd u 0 = szOf (bt u 0) ∧ 128 ≤ rn u 0 := by
  have e := seq4_good h hs hg
  have hz := szOf_cases (bt u 0)
  unfold seq4V at e
  rw [if_neg (by omega)] at e
  by_cases hb : badB u 0 = true
  · rw [if_pos hb] at e; simp at e
  · rw [if_neg hb] at e
    have hb' : badB u 0 = false := Bool.eq_false_iff.2 hb
    simp at e
    have hw : wd u 0 = szOf (bt u 0) := e.2
    refine ⟨hb', hw, ?_⟩
    rcases (at_told u 0).width (of_decide_eq_false hb') with q | q | q | q
    · have : wd u 0 = 1 := q.1; omega
    · exact q.2.1
    · have : 2048 ≤ rn u 0 := q.2.1; omega
    · have : 65536 ≤ rn u 0 := q.2; omega
theorem begLen_le (t : ByteArray) : begLen t ≤ t.size := (scanTo_le _ (Nat.zero_le _)).2
/-- The bytes of a beginning, a continuation, and what follows. -/
theorem cont_at {t l x : ByteArray} {m : Nat} (hm : m ≤ t.size) : ((t.extract 0 m ++ l ++ x).size = m + l.size + x.size) ∧ (∀ i, i < m → bt (t.extract 0 m ++ l ++ x) i = bt t i) ∧ (∀ i, i < l.size → bt (t.extract 0 m ++ l ++ x) (m + i) = bt l i) ∧ (∀ i, bt (t.extract 0 m ++ l ++ x) (m + l.size + i) = bt x i) := by
  have hz : (t.extract 0 m).size = m := by rw [ByteArray.size_extract]; omega
  have hz2 : (t.extract 0 m ++ l).size = m + l.size := by rw [ByteArray.size_append, hz]
  refine ⟨by rw [ByteArray.size_append, hz2], fun i hi => ?_, fun i hi => ?_, fun i => apR _ _ _ _ (by omega)⟩
  · rw [apL _ _ i (by omega), apL _ _ i (by omega), bt_pre t m i hi hm]
  · rw [apL _ _ _ (by omega), apR _ _ _ i (by omega)]
theorem contS_bt : bt ⟨#[128]⟩ 0 = 128 ∧ bt ⟨#[191]⟩ 0 = 191 ∧ bt ⟨#[128, 128]⟩ 0 = 128 ∧ bt ⟨#[128, 128]⟩ 1 = 128 ∧ bt ⟨#[191, 128]⟩ 0 = 191 ∧ bt ⟨#[191, 128]⟩ 1 = 128 ∧ bt ⟨#[128, 128, 128]⟩ 0 = 128 ∧ bt ⟨#[128, 128, 128]⟩ 1 = 128 ∧ bt ⟨#[128, 128, 128]⟩ 2 = 128 ∧ bt ⟨#[191, 128, 128]⟩ 0 = 191 ∧ bt ⟨#[191, 128, 128]⟩ 1 = 128 ∧ bt ⟨#[191, 128, 128]⟩ 2 = 128 := by decide
/-- A continuation whose first byte fits, the others being 128. -/
theorem cont_fit {t l : ByteArray} (h : 0 < t.size) (hs : (secOf (bt t 0)).1 ≠ 0) {m : Nat} (hm1 : 1 ≤ m) (hm : m ≤ t.size) (hz : m + l.size = szOf (bt t 0)) (hg : ∀ j, 1 ≤ j → j < m → good4 t j = true)
    (hl : ∀ i, i < l.size → (if m + i = 1 then (secOf (bt t 0)).1 else 128) ≤ bt l i ∧ bt l i ≤ (if m + i = 1 then (secOf (bt t 0)).2 else 191)) (x : ByteArray) : badB (t.extract 0 m ++ l ++ x) 0 = false ∧ wd (t.extract 0 m ++ l ++ x) 0 = m + l.size ∧ 128 ≤ rn (t.extract 0 m ++ l ++ x) 0 := by
  obtain ⟨c1, c2, c3, c4⟩ := cont_at (l := l) (x := x) hm
  generalize t.extract 0 m ++ l ++ x = u at *
  have e0 : bt u 0 = bt t 0 := c2 0 (by omega)
  rw [hz]
  have := cont_core (u := u) (by omega) (by rw [e0]; exact hs) (fun j h1 h2 => ?_)
  · rw [e0] at this; exact this
  · rw [e0] at h2
    by_cases hj : j < m
    · have hgj := good4_iff.1 (hg j h1 hj)
      rw [good4_iff, e0, c2 j hj]
      exact ⟨by omega, hgj.2⟩
    · have hb := c3 (j - m) (by omega)
      rw [show m + (j - m) = j by omega] at hb
      have hlj := hl (j - m) (by omega)
      rw [show m + (j - m) = j by omega] at hlj
      rw [good4_iff, e0, hb]
      exact ⟨by omega, hlj⟩
theorem hi191 {c : Nat} (hs : (secOf c).1 ≠ 0) (h8 : ¬ ((secOf c).1 ≤ 128 ∧ 128 ≤ (secOf c).2)) : (secOf c).1 ≤ 191 ∧ 191 ≤ (secOf c).2 := by
  rcases secOf_cases _ hs with ⟨a, b, e⟩ | ⟨a, e⟩ | ⟨a, e⟩ | ⟨a, e⟩ | ⟨a, e⟩ | ⟨a, b, e⟩ | ⟨a, e⟩ <;> rw [e] at h8 ⊢ <;> simp only [] at h8 ⊢ <;> omega
theorem cont_ok {t : ByteArray} (h : 0 < t.size) (hb : badB t 0 = true) (h1 : 1 ≤ begLen t) : ∃ l ∈ contS, ∀ x, badB (t.extract 0 (begLen t) ++ l ++ x) 0 = false ∧ wd (t.extract 0 (begLen t) ++ l ++ x) 0 = begLen t + l.size ∧ 128 ≤ rn (t.extract 0 (begLen t) ++ l ++ x) 0 := by
  rcases bad_cases h hb with ⟨_, _, h3⟩ | ⟨hs, h2, h3, h4, _⟩
  · omega
  · have hm := begLen_le t
    generalize begLen t = m at *
    have h191 := fun q => hi191 hs q
    have hz := szOf_cases (bt t 0)
    obtain ⟨b1, b2, b3, b4, b5, b6, b7, b8, b9, b10, b11, b12⟩ := contS_bt
    have hc : (m = 1 ∨ m = 2 ∨ m = 3) := by omega
    have fin : ∀ l ∈ contS, m + l.size = szOf (bt t 0) → (∀ i, i < l.size → (if m + i = 1 then (secOf (bt t 0)).1 else 128) ≤ bt l i ∧ bt l i ≤ (if m + i = 1 then (secOf (bt t 0)).2 else 191)) → ∃ l ∈ contS, ∀ x, badB (t.extract 0 m ++ l ++ x) 0 = false ∧ wd (t.extract 0 m ++ l ++ x) 0 = m + l.size ∧ 128 ≤ rn (t.extract 0 m ++ l ++ x) 0 := fun l hl hsz hfit => ⟨l, hl, fun x => cont_fit h hs h1 hm hsz h4 hfit x⟩
    generalize (secOf (bt t 0)).1 = lo at *
    generalize (secOf (bt t 0)).2 = hi at *
    generalize szOf (bt t 0) = z at *
    rcases hc with rfl | rfl | rfl
    · by_cases h8 : lo ≤ 128 ∧ 128 ≤ hi
      · rcases hz with rfl | rfl | rfl
        · refine fin ⟨#[128]⟩ (by simp [contS]) rfl (fun i hi => ?_)
          obtain rfl : i = 0 := by have : i < 1 := hi; omega
          rw [b1, if_pos rfl, if_pos rfl]; exact h8
        · refine fin ⟨#[128, 128]⟩ (by simp [contS]) rfl (fun i hi => ?_)
          have hi' : i < 2 := hi
          have : i = 0 ∨ i = 1 := by omega
          rcases this with rfl | rfl
          · rw [b3, if_pos rfl, if_pos rfl]; exact h8
          · rw [b4, if_neg (by decide), if_neg (by decide)]; decide
        · refine fin ⟨#[128, 128, 128]⟩ (by simp [contS]) rfl (fun i hi => ?_)
          have hi' : i < 3 := hi
          have : i = 0 ∨ i = 1 ∨ i = 2 := by omega
          rcases this with rfl | rfl | rfl
          · rw [b7, if_pos rfl, if_pos rfl]; exact h8
          · rw [b8, if_neg (by decide), if_neg (by decide)]; decide
          · rw [b9, if_neg (by decide), if_neg (by decide)]; decide
      · have h9 : lo ≤ 191 ∧ 191 ≤ hi := h191 h8
        rcases hz with rfl | rfl | rfl
        · refine fin ⟨#[191]⟩ (by simp [contS]) rfl (fun i hi => ?_)
          obtain rfl : i = 0 := by have : i < 1 := hi; omega
          rw [b2, if_pos rfl, if_pos rfl]; exact h9
        · refine fin ⟨#[191, 128]⟩ (by simp [contS]) rfl (fun i hi => ?_)
          have hi' : i < 2 := hi
          have : i = 0 ∨ i = 1 := by omega
          rcases this with rfl | rfl
          · rw [b5, if_pos rfl, if_pos rfl]; exact h9
          · rw [b6, if_neg (by decide), if_neg (by decide)]; decide
        · refine fin ⟨#[191, 128, 128]⟩ (by simp [contS]) rfl (fun i hi => ?_)
          have hi' : i < 3 := hi
          have : i = 0 ∨ i = 1 ∨ i = 2 := by omega
          rcases this with rfl | rfl | rfl
          · rw [b10, if_pos rfl, if_pos rfl]; exact h9
          · rw [b11, if_neg (by decide), if_neg (by decide)]; decide
          · rw [b12, if_neg (by decide), if_neg (by decide)]; decide
    · have hz' : z = 3 ∨ z = 4 := by omega
      rcases hz' with rfl | rfl
      · refine fin ⟨#[128]⟩ (by simp [contS]) rfl (fun i hi => ?_)
        obtain rfl : i = 0 := by have : i < 1 := hi; omega
        rw [b1, if_neg (by decide), if_neg (by decide)]; decide
      · refine fin ⟨#[128, 128]⟩ (by simp [contS]) rfl (fun i hi => ?_)
        have hi' : i < 2 := hi
        have : i = 0 ∨ i = 1 := by omega
        rcases this with rfl | rfl
        · rw [b3, if_neg (by decide), if_neg (by decide)]; decide
        · rw [b4, if_neg (by decide), if_neg (by decide)]; decide
    · obtain rfl : z = 4 := by omega
      refine fin ⟨#[128]⟩ (by simp [contS]) rfl (fun i hi => ?_)
      obtain rfl : i = 0 := by have : i < 1 := hi; omega
      rw [b1, if_neg (by decide), if_neg (by decide)]; decide
/-- A number of bytes more: the same beginning. -/
theorem num_agr {t u : ByteArray} {V n : Nat} (ha : Agr t u (n + 1)) : ∀ f v k, t.size ≤ k + f → k ≤ t.size → numGo t v k = (V, n) → numGo u v k = (V, n)
  | 0, v, k, h, hk, hg => by
    rw [numGo_stop (by omega), Prod.mk.injEq] at hg
    have := ha.ls
    omega
  | f + 1, v, k, h, hk, hg => by
    have hlu := ha.lu
    by_cases hc : k < t.size ∧ digB (bt t k) = true ∧ 0 < v ∧ v * 10 + (bt t k - 48) ≤ 65535
    · rw [numGo_go hc.1 hc.2.1 hc.2.2.1 hc.2.2.2] at hg
      have hle := (numGo_le t t.size (v * 10 + (bt t k - 48)) (k + 1) (by omega) (by omega)).1
      rw [hg] at hle
      have hkn : k < n := hle
      have hb := ha.bt k (by omega)
      rw [numGo_go (by omega) (by rw [hb]; exact hc.2.1) hc.2.2.1 (by rw [hb]; exact hc.2.2.2), hb]
      exact num_agr ha f _ (k + 1) (by omega) (by omega) hg
    · rw [numGo_stop hc, Prod.mk.injEq] at hg
      obtain ⟨rfl, rfl⟩ := hg
      have hb := ha.bt k (by omega)
      rw [numGo_stop]
      rw [hb]
      intro q
      exact hc ⟨by have := ha.ls; omega, q.2⟩
theorem numd_agr {t u : ByteArray} {V n : Nat} (h2 : 2 ≤ n) (ha : Agr t u (n + 1)) : ∀ f v k, t.size ≤ k + f → k ≤ t.size → numdGo t v k = (V, n) → numdGo u v k = (V, n)
  | 0, v, k, h, hk, hg => by
    rw [numdGo_stop (by omega), Prod.mk.injEq] at hg
    have := ha.ls
    omega
  | f + 1, v, k, h, hk, hg => by
    have hlu := ha.lu
    have hb2 := ha.bt 2 (by omega)
    by_cases hc : k < t.size ∧ (k < 6 ∨ bt t 2 ≠ 48) ∧ 0 ≤ hexI (bt t k) ∧ v * 16 + (hexI (bt t k)).toNat ≤ 1114111
    · rw [numdGo_go hc] at hg
      have hle := (numdGo_le t t.size (v * 16 + (hexI (bt t k)).toNat) (k + 1) (by omega) (by omega)).1
      rw [hg] at hle
      have hkn : k < n := hle
      have hb := ha.bt k (by omega)
      have hc2 : k < u.size ∧ (k < 6 ∨ bt u 2 ≠ 48) ∧ 0 ≤ hexI (bt u k) ∧ v * 16 + (hexI (bt u k)).toNat ≤ 1114111 := ⟨by omega, by rw [hb2]; exact hc.2.1, by rw [hb]; exact hc.2.2.1, by rw [hb]; exact hc.2.2.2⟩
      rw [numdGo_go hc2, hb]
      exact numd_agr h2 ha f _ (k + 1) (by omega) (by omega) hg
    · rw [numdGo_stop hc, Prod.mk.injEq] at hg
      obtain ⟨rfl, rfl⟩ := hg
      have hb := ha.bt k (by omega)
      rw [numdGo_stop]
      rw [hb, hb2]
      intro q
      exact hc ⟨by have := ha.ls; omega, q.2⟩
end Go.Proofs.YtcnhkhjkeemafaaDoor
/- A word that goes wrong goes wrong there, whatever follows: plain mathematics. -/
namespace Go.Proofs.YtcnhkhjkeemafaaDoor
open Go.RowKit Go.Shelf
set_option linter.unusedVariables false
theorem edge_no {t : ByteArray} {n : Nat} (h : edgeB t n = false) : n ≠ t.size ∧ stkB (bt t n) = true := by
  unfold edgeB at h
  simp at h
  exact h
theorem edge_off {t u : ByteArray} {n : Nat} (h : edgeB t n = false) (ha : Agr t u (n + 1)) : edgeB u n = false := by
  obtain ⟨h1, h2⟩ := edge_no h
  unfold edgeB
  rw [decide_eq_false (by have := ha.lu; omega), ha.bt n (by omega), h2]
  rfl
theorem nameLen_eq {t : ByteArray} (hs : smallB (bt t 0) = true) (ht : 0 < t.size) : nameLen t = scanTo (fun n => inNB (bt t n)) (min t.size 32) 1 ∧ 1 ≤ nameLen t := by
  have e1 : nameLen t = scanTo (fun n => inNB (bt t n)) (min t.size 32) 1 := by unfold nameLen; rw [if_neg (fun q => q.elim (by omega) (fun q => by rw [hs] at q; cases q))]
  exact ⟨e1, by rw [e1]; exact (scanTo_le _ (by omega)).1⟩
theorem name_agr {t u : ByteArray} (hs : smallB (bt t 0) = true) (ht : 0 < t.size) (ha : Agr t u (nameLen t + 1)) : nameLen u = nameLen t := by
  obtain ⟨e1, h1⟩ := nameLen_eq hs ht
  have hls := ha.ls
  have hlu := ha.lu
  have h32 := (nameLen_le t).2
  have hsu : smallB (bt u 0) = true := by rw [ha.bt 0 (by omega)]; exact hs
  obtain ⟨e2, _⟩ := nameLen_eq hsu (by omega)
  have hst : nameLen t = min t.size 32 ∨ inNB (bt t (nameLen t)) = false := by
    rcases Nat.lt_or_ge (nameLen t) (min t.size 32) with q | q
    · right
      have := scanTo_stop (fun n => inNB (bt t n)) (min t.size 32) (min t.size 32) 1 (by omega) (by rw [← e1]; exact q)
      rw [← e1] at this
      exact this
    · left; omega
  rw [e2]
  conv => rhs; rw [e1]
  refine scanTo_agree (q := fun n => inNB (bt t n)) (q' := fun n => inNB (bt u n)) (m := nameLen t) (fun j hj => by rw [ha.bt j (by omega)]) (by omega) (by omega) hst ?_ (nameLen t - 1) 1 (by omega)
  rcases hst with q | q
  · left; omega
  · right; show inNB (bt u (nameLen t)) = false; rw [ha.bt _ (by omega)]; exact q
theorem rn_ascii {t : ByteArray} (h : rn t 0 ≤ 127) : rn t 0 = bt t 0 ∧ bt t 0 < 128 := by
  have ht := at_told t 0
  have hg : ¬ (rn t 0 = 65533 ∧ wd t 0 = 1) := by omega
  rcases ht.width hg with q | q | q | q
  · rcases ht.one q.1 with r | r
    · have : rn t 0 = 65533 := r.1; omega
    · exact r
  · have : 128 ≤ rn t 0 := q.2.1; omega
  · have : 2048 ≤ rn t 0 := q.2.1; omega
  · have : 65536 ≤ rn t 0 := q.2; omega
theorem rn_of_ascii {t : ByteArray} (h : bt t 0 < 128) : rn t 0 = bt t 0 := by
  have ht := at_told t 0
  have hw : wd t 0 = 1 := by
    rcases Nat.lt_or_ge (wd t 0) 2 with q | q
    · have := wd_pos t 0; omega
    · have := wd_lead t 0 q; omega
  rcases ht.one hw with r | r
  · have : 128 ≤ bt t 0 := r.2; omega
  · exact r.1
theorem tl1_agr {t u : ByteArray} {k : Nat} (ha : Agr t u (k + 1)) : Agr (tl1 t) (tl1 u) k := by
  have h1 := ha.ls
  have h2 := ha.lu
  refine ⟨by rw [tl1_size]; omega, by rw [tl1_size]; omega, fun i hi => ?_⟩
  rw [tl1_bt u i (by omega), tl1_bt t i (by omega)]
  exact ha.bt _ (by omega)
theorem whole_bad {t : ByteArray} (h : 0 < t.size) (hw : wholeB t = false) : badB t 0 = true := by
  unfold wholeB at hw
  rw [decide_eq_true h] at hw
  simpa using hw
theorem whole_good {t : ByteArray} (hw : ¬ wholeB t = false) : 0 < t.size ∧ badB t 0 = false := by
  have : wholeB t = true := Bool.eq_false_or_eq_true _ |>.resolve_right hw
  unfold wholeB at this
  simpa using this
theorem bad_rn {t : ByteArray} (hb : badB t 0 = true) : ¬ (rn t 0 < 32 ∨ rn t 0 = 39 ∨ rn t 0 = 127) := by
  have : rn t 0 = 65533 ∧ wd t 0 = 1 := of_decide_eq_true hb
  omega
theorem quo_off {t u : ByteArray} (ht : 0 < t.size) (ho : (quoV t).2.2 = false) (hn : (quoV t).2.1 < t.size) (ha : Agr t u ((quoV t).2.1 + 1)) : (quoV u).2.2 = false ∧ (quoV u).2.1 = (quoV t).2.1 := by
  have zt := tl1_size t
  by_cases h1 : (tl1 t).size = 0
  · have e : quoV t = (0, t.size, false) := by unfold quoV; rw [if_pos h1]
    rw [e] at hn
    have : t.size < t.size := hn
    omega
  by_cases h2 : rn (tl1 t) 0 < 32 ∨ rn (tl1 t) 0 = 39 ∨ rn (tl1 t) 0 = 127
  · have e : quoV t = (0, 1, false) := by unfold quoV; rw [if_neg h1, if_pos h2]
    rw [e] at ha ⊢
    have ha1 : Agr (tl1 t) (tl1 u) 1 := tl1_agr ha
    have hlu := ha1.lu
    have hr := rn_ascii (t := tl1 t) (by omega)
    have hb := ha1.bt 0 (by omega)
    have hru := rn_of_ascii (t := tl1 u) (by rw [hb]; exact hr.2)
    have h2u : rn (tl1 u) 0 < 32 ∨ rn (tl1 u) 0 = 39 ∨ rn (tl1 u) 0 = 127 := by rw [hru, hb, ← hr.1]; exact h2
    have eu : quoV u = (0, 1, false) := by unfold quoV; rw [if_neg (by omega), if_pos h2u]
    rw [eu]
    exact ⟨rfl, rfl⟩
  by_cases h3 : wholeB (tl1 t) = false
  · have e : quoV t = (0, 1 + begLen (tl1 t), false) := by unfold quoV; rw [if_neg h1, if_neg h2, if_pos h3]
    rw [e] at ha hn ⊢
    have hn' : 1 + begLen (tl1 t) < t.size := hn
    have ha1 : Agr (tl1 t) (tl1 u) (begLen (tl1 t) + 1) := tl1_agr (by rw [Nat.add_comm] at ha; exact (show Agr t u (1 + begLen (tl1 t) + 1) by rw [Nat.add_comm]; exact ha).mono (by omega))
    have hlu := ha1.lu
    obtain ⟨b1, b2⟩ := bad_on (by omega) (whole_bad (by omega) h3) (by omega) ha1
    have hwu : wholeB (tl1 u) = false := by unfold wholeB; rw [b1]; simp
    have eu : quoV u = (0, 1 + begLen (tl1 u), false) := by unfold quoV; rw [if_neg (by omega), if_neg (bad_rn b1), if_pos hwu]
    rw [eu, b2]
    exact ⟨rfl, rfl⟩
  by_cases h4 : ¬ wd (tl1 t) 0 < (tl1 t).size
  · have e : quoV t = (0, t.size, false) := by unfold quoV; rw [if_neg h1, if_neg h2, if_neg h3, if_pos h4]
    rw [e] at hn
    have : t.size < t.size := hn
    omega
  by_cases h5 : rn (tl1 t) (wd (tl1 t) 0) = 39
  · have e : quoV t = (rn (tl1 t) 0, wd (tl1 t) 0 + 2, true) := by unfold quoV; rw [if_neg h1, if_neg h2, if_neg h3, if_neg h4, if_pos h5]
    rw [e] at ho
    cases ho
  · have e : quoV t = (0, 1 + wd (tl1 t) 0, false) := by unfold quoV; rw [if_neg h1, if_neg h2, if_neg h3, if_neg h4, if_neg h5]
    rw [e] at ha ⊢
    have hp := wd_pos (tl1 t) 0
    have ha0 : Agr t u (1 + wd (tl1 t) 0 + 1) := ha
    have ha1 : Agr (tl1 t) (tl1 u) (wd (tl1 t) 0 + 1) := tl1_agr (ha0.mono (by omega))
    have hlu := ha1.lu
    have hg := (whole_good h3).2
    have hng : ¬ (rn (tl1 t) 0 = 65533 ∧ wd (tl1 t) 0 = 1) := of_decide_eq_false hg
    have hd := decode_same (t := tl1 t) (u := tl1 u) (m := wd (tl1 t) 0 + 1) (by omega) ha1.ls ha1.lu (by omega) ha1.bt hng
    have r0 : rn (tl1 u) 0 = rn (tl1 t) 0 := by unfold rn; rw [hd]
    have w0 : wd (tl1 u) 0 = wd (tl1 t) 0 := by unfold wd; rw [hd]
    have hwu : ¬ wholeB (tl1 u) = false := by
      unfold wholeB badB
      rw [r0, w0, decide_eq_true (by omega), decide_eq_false hng]
      decide
    have h5u : ¬ rn (tl1 u) (wd (tl1 u) 0) = 39 := by
      rw [rn_39, w0, ha1.bt _ (by omega), ← rn_39]
      exact h5
    have eu : quoV u = (0, 1 + wd (tl1 u) 0, false) := by unfold quoV; rw [if_neg (by omega), r0, if_neg h2, if_neg hwu, if_neg (by rw [w0]; omega), if_neg h5u]
    rw [eu, w0]
    exact ⟨rfl, rfl⟩
theorem sgn_off {t u : ByteArray} (ht : 0 < t.size) (ho : (sgnV t).2.2 = false) (hn : (sgnV t).2.1 < t.size) (ha : Agr t u ((sgnV t).2.1 + 1)) : (sgnV u).2.2 = false ∧ (sgnV u).2.1 = (sgnV t).2.1 := by
  have h0 : bt u 0 = bt t 0 := ha.bt 0 (by omega)
  by_cases hd : bt t 0 = 46
  · have hdt : dotsB t = false := by
      cases q : dotsB t
      · rfl
      · unfold sgnV at ho
        rw [hd, q] at ho
        cases ho
    have ev : sgnV t = (0, 1, false) := by unfold sgnV; rw [hd, hdt]; rfl
    rw [ev] at hn ha ⊢
    have hn' : 1 < t.size := hn
    have ha' : Agr t u 2 := ha
    have hdu : dotsB u = false := by
      cases q : dotsB u
      · rfl
      · have := dots_bt u q
        rw [ha'.bt 1 (by omega)] at this
        rw [dots_mk t (by omega) hd this] at hdt
        cases hdt
    have eu : sgnV u = (0, 1, false) := by unfold sgnV; rw [h0, hd, hdu]; rfl
    rw [eu]
    exact ⟨rfl, rfl⟩
  · have : sgnV u = sgnV t := by
      unfold sgnV
      rw [h0]
      simp only [if_neg hd]
    rw [this]
    exact ⟨ho, rfl⟩
theorem numdV_cases (t : ByteArray) (h : 0 < t.size) : ((t.size < 2 ∨ bt t 1 ≠ 43) ∧ numdV t = (0, 1, false)) ∨ (2 ≤ t.size ∧ bt t 1 = 43 ∧ ((numdGo t 0 2).2 < 6 ∨ widthOf (numdGo t 0 2).1 = 0) ∧ numdV t = (0, (numdGo t 0 2).2, false)) ∨ (2 ≤ t.size ∧ bt t 1 = 43 ∧ ¬ ((numdGo t 0 2).2 < 6 ∨ widthOf (numdGo t 0 2).1 = 0) ∧ numdV t = ((numdGo t 0 2).1, (numdGo t 0 2).2, true)) := by
  by_cases h1 : t.size < 2 ∨ bt t 1 ≠ 43
  · left; exact ⟨h1, by unfold numdV; rw [if_pos h1]⟩
  · right
    have h1a : 2 ≤ t.size := by omega
    have h1b : bt t 1 = 43 := by omega
    by_cases h2 : (numdGo t 0 2).2 < 6 ∨ widthOf (numdGo t 0 2).1 = 0
    · left; exact ⟨h1a, h1b, h2, by unfold numdV; rw [if_neg h1, if_pos h2]⟩
    · right; exact ⟨h1a, h1b, h2, by unfold numdV; rw [if_neg h1, if_neg h2]⟩
theorem numd_off {t u : ByteArray} (ht : 0 < t.size) (hn : (numdV t).2.1 < t.size) (ha : Agr t u ((numdV t).2.1 + 1)) : numdV u = numdV t := by
  rcases numdV_cases t ht with ⟨h1, e⟩ | ⟨h1, h2, h3, e⟩ | ⟨h1, h2, h3, e⟩
  · rw [e] at hn ha ⊢
    have hn' : 1 < t.size := hn
    have ha' : Agr t u 2 := ha
    have hb : bt u 1 ≠ 43 := by rw [ha'.bt 1 (by omega)]; exact h1.resolve_left (by omega)
    unfold numdV
    rw [if_pos (.inr hb)]
  · rw [e] at hn ha ⊢
    have ha' : Agr t u ((numdGo t 0 2).2 + 1) := ha
    have hge := (numdGo_le t t.size 0 2 (by omega) h1).1
    have hg := numd_agr (V := (numdGo t 0 2).1) hge ha' t.size 0 2 (by omega) h1 rfl
    unfold numdV
    rw [hg, ha'.bt 1 (by omega), h2, if_neg (fun q => q.elim (fun q => by have := ha'.lu; omega) (fun q => q rfl)), if_pos h3]
  · rw [e] at hn ha ⊢
    have ha' : Agr t u ((numdGo t 0 2).2 + 1) := ha
    have hge := (numdGo_le t t.size 0 2 (by omega) h1).1
    have hg := numd_agr (V := (numdGo t 0 2).1) hge ha' t.size 0 2 (by omega) h1 rfl
    unfold numdV
    rw [hg, ha'.bt 1 (by omega), h2, if_neg (fun q => q.elim (fun q => by have := ha'.lu; omega) (fun q => q rfl)), if_neg h3]
/-- The five classes of words. -/
theorem wordV_cases (t : ByteArray) : (smallB (bt t 0) = true ∧ wordV t = ⟨1, t.extract 0 (nameLen t), 0, 0, nameLen t, edgeB t (nameLen t)⟩) ∨
    (smallB (bt t 0) = false ∧ digB (bt t 0) = true ∧ wordV t = ⟨2, ByteArray.empty, 0, (numV t).1, (numV t).2, edgeB t (numV t).2⟩) ∨
    (smallB (bt t 0) = false ∧ digB (bt t 0) = false ∧ bt t 0 = 85 ∧ wordV t = ⟨3, ByteArray.empty, (numdV t).1, 0, (numdV t).2.1, (numdV t).2.2 && edgeB t (numdV t).2.1⟩) ∨
    (smallB (bt t 0) = false ∧ digB (bt t 0) = false ∧ bt t 0 ≠ 85 ∧ bt t 0 = 39 ∧ wordV t = ⟨3, ByteArray.empty, (quoV t).1, 0, (quoV t).2.1, (quoV t).2.2⟩) ∨
    (smallB (bt t 0) = false ∧ digB (bt t 0) = false ∧ bt t 0 ≠ 85 ∧ bt t 0 ≠ 39 ∧ wordV t = ⟨(sgnV t).1, ByteArray.empty, 0, 0, (sgnV t).2.1, (sgnV t).2.2⟩) := by
  cases hs : smallB (bt t 0)
  · right
    cases hd : digB (bt t 0)
    · right
      by_cases hu : bt t 0 = 85
      · left; exact ⟨rfl, rfl, hu, by unfold wordV; rw [hs, hd, if_neg (by decide), if_neg (by decide), if_pos hu]⟩
      · right
        by_cases hq : bt t 0 = 39
        · left; exact ⟨rfl, rfl, hu, hq, by unfold wordV; rw [hs, hd, if_neg (by decide), if_neg (by decide), if_neg hu, if_pos hq]⟩
        · right; exact ⟨rfl, rfl, hu, hq, by unfold wordV; rw [hs, hd, if_neg (by decide), if_neg (by decide), if_neg hu, if_neg hq]⟩
    · left; exact ⟨rfl, rfl, by unfold wordV; rw [hs, hd, if_neg (by decide), if_pos rfl]⟩
  · left; exact ⟨rfl, by unfold wordV; rw [hs, if_pos rfl]⟩
theorem word_off {t u : ByteArray} (ht : 0 < t.size) (ho : (wordV t).ok = false) (hn : (wordV t).n < t.size) (ha : Agr t u ((wordV t).n + 1)) : (wordV u).ok = false ∧ (wordV u).n = (wordV t).n := by
  have h0 : bt u 0 = bt t 0 := ha.bt 0 (by omega)
  have hlu := ha.lu
  rcases wordV_cases t with ⟨hs, e⟩ | ⟨hs, hd, e⟩ | ⟨hs, hd, hu, e⟩ | ⟨hs, hd, hu, hq, e⟩ | ⟨hs, hd, hu, hq, e⟩
  · rw [e] at ho hn ha ⊢
    have hl := name_agr hs ht ha
    rw [wordV_sm (t := u) (by rw [h0]; exact hs), hl]
    exact ⟨edge_off ho ha, rfl⟩
  · rw [e] at ho hn ha ⊢
    have hv : numV u = numV t := by
      have := num_agr (V := (numV t).1) (n := (numV t).2) ha t.size (bt t 0 - 48) 1 (by omega) (by omega) rfl
      unfold numV
      rw [h0]
      exact this
    have eu : wordV u = ⟨2, ByteArray.empty, 0, (numV u).1, (numV u).2, edgeB u (numV u).2⟩ := by unfold wordV; rw [h0, hs, hd, if_neg (by decide), if_pos rfl]
    rw [eu, hv]
    exact ⟨edge_off ho ha, rfl⟩
  · rw [e] at ho hn ha ⊢
    have hv := numd_off ht hn ha
    have eu : wordV u = ⟨3, ByteArray.empty, (numdV u).1, 0, (numdV u).2.1, (numdV u).2.2 && edgeB u (numdV u).2.1⟩ := by unfold wordV; rw [h0, hs, hd, if_neg (by decide), if_neg (by decide), if_pos hu]
    rw [eu, hv]
    refine ⟨?_, rfl⟩
    show ((numdV t).2.2 && edgeB u (numdV t).2.1) = false
    have ho' : ((numdV t).2.2 && edgeB t (numdV t).2.1) = false := ho
    cases h2 : (numdV t).2.2
    · rfl
    · rw [h2, Bool.true_and] at ho'
      rw [Bool.true_and]
      exact edge_off ho' ha
  · rw [e] at ho hn ha ⊢
    have hv := quo_off ht ho hn ha
    have eu : wordV u = ⟨3, ByteArray.empty, (quoV u).1, 0, (quoV u).2.1, (quoV u).2.2⟩ := by unfold wordV; rw [h0, hs, hd, if_neg (by decide), if_neg (by decide), if_neg hu, if_pos hq]
    rw [eu]
    exact hv
  · rw [e] at ho hn ha ⊢
    have hv := sgn_off ht ho hn ha
    have eu : wordV u = ⟨(sgnV u).1, ByteArray.empty, 0, 0, (sgnV u).2.1, (sgnV u).2.2⟩ := by unfold wordV; rw [h0, hs, hd, if_neg (by decide), if_neg (by decide), if_neg hu, if_neg hq]
    rw [eu]
    exact hv
/-- Where a gap ends no blank stands. -/
theorem gap_stopped (s : ByteArray) : ∀ k r p q, s.size ≤ p + k → p ≤ s.size → gapM s r p = (q, true) → q < s.size → blankB (bt s q) = false ∧ bt s q ≠ 35
  | 0, r, p, q, h, hp, hg, hq => by
    have := gapM_ge s r p hp
    rw [hg] at this
    have h9 : p ≤ q := this
    omega
  | k + 1, r, p, q, h, hp, hg, hq => by
    have hge := gapM_ge s r p hp
    rw [hg] at hge
    have hpq : p ≤ q := hge
    have hps : p < s.size := by omega
    cases r
    · have hg' : gapA s p = (q, true) := by rw [← gapM_f]; exact hg
      cases hb : blankB (bt s p)
      · by_cases hr : bt s p = 35
        · rw [gapA_rem s p hps hr] at hg'
          exact gap_stopped s k true (p + 1) q (by omega) (by omega) (by rw [gapM_t]; exact hg') hq
        · rw [gapA_stop s p hps hb hr, Prod.mk.injEq] at hg'
          rw [← hg'.1]
          exact ⟨hb, hr⟩
      · rw [gapA_blank s p hps hb] at hg'
        exact gap_stopped s k false (p + 1) q (by omega) (by omega) (by rw [gapM_f]; exact hg') hq
    · have hg' : remA s p = (q, true) := by rw [← gapM_t]; exact hg
      by_cases h10 : bt s p = 10
      · rw [remA_nl s p hps h10] at hg'
        exact gap_stopped s k false (p + 1) q (by omega) (by omega) (by rw [gapM_f]; exact hg') hq
      · cases hb : badB s p
        · rw [remA_spot s p hps h10 hb] at hg'
          have hw := wd_pos s p
          have hwr := wd_room s p hps
          exact gap_stopped s k true (p + wd s p) q (by omega) hwr (by rw [gapM_t]; exact hg') hq
        · rw [remA_bad s p hps hb, Prod.mk.injEq] at hg'
          cases hg'.2
/-- A text that stops at a byte stops there, whatever follows. -/
theorem words_off {s u : ByteArray} (h : (wordsV s).ok = false) (hk : (wordsV s).b < s.size) (ha : Agr s u ((wordsV s).b + 1)) : (wordsV u).ok = false ∧ (wordsV u).b = (wordsV s).b := by
  obtain ⟨b, hr, hc⟩ := words_stop h
  have hlu := ha.lu
  generalize (wordsV s).b = k at *
  rcases hc with hg | ⟨q, hg, hq, ho, hk2⟩
  · obtain ⟨x, h1, h2, h3, h4, h6, h5⟩ := gap_off s s.size false b k (by omega) hr.le (by rw [gapM_f]; exact hg)
    have hlt := h6 rfl
    have hru := hr.on (ha.mono (by omega)) (.inr (.inl ⟨by omega, by omega, ha.bt b (by omega)⟩))
    have hgu := h5 u (ha.mono (by omega))
    rw [gapM_f] at hgu
    have hbt0 : badB (rst s x) 0 = true := by
      have hd : Utf8.decode (rst s x) 0 = Utf8.decode s x := decode_suffix s x 0 (by omega)
      unfold badB rn wd
      rw [hd]
      exact h3
    have hz := rst_size s x
    have hax : Agr (rst s x) (rst u x) (begLen (rst s x) + 1) := ⟨by omega, by rw [rst_size]; omega, fun i hi => by rw [rst_at _ _ _ (by omega), rst_at _ _ _ (by omega)]; exact ha.bt _ (by omega)⟩
    obtain ⟨c1, c2⟩ := bad_on (by omega) hbt0 (by omega) hax
    have hbu : badB u x = true := by
      have hd : Utf8.decode (rst u x) 0 = Utf8.decode u x := decode_suffix u x 0 (by omega)
      unfold badB rn wd at c1 ⊢
      rw [hd] at c1
      exact c1
    rw [remA_bad u x (by omega) hbu, c2, ← h4] at hgu
    exact reach_gap hru hgu
  · have hbq : b ≤ q := by have := (gapA_le s b hr.le).1; rw [hg] at this; exact this
    have hru := hr.on (ha.mono (by omega)) (.inr (.inl ⟨by omega, by omega, ha.bt b (by omega)⟩))
    have hstop : blankB (bt s q) = false ∧ bt s q ≠ 35 := gap_stopped s s.size false b q (by omega) hr.le (by rw [gapM_f]; exact hg) hq
    have hgu := gap_at (ha.mono (show q + 1 ≤ k + 1 by omega)) hr.le hg hq hstop
    have hz := rst_size s q
    have hwu := word_off (t := rst s q) (u := rst u q) (by omega) ho (by omega) ⟨by omega, by rw [rst_size]; omega, fun i hi => by rw [rst_at _ _ _ (by omega), rst_at _ _ _ (by omega)]; exact ha.bt _ (by omega)⟩
    have := reach_word hru hgu (by omega) hwu.1
    rw [hwu.2, ← hk2] at this
    exact this
end Go.Proofs.YtcnhkhjkeemafaaDoor
/- What stands ahead of the first wrong byte can go on: plain mathematics. -/
namespace Go.Proofs.YtcnhkhjkeemafaaDoor
open Go.RowKit Go.Shelf
set_option linter.unusedVariables false
/-- How texts that were cut within a word can go on. -/
def endsL : List ByteArray := [⟨#[]⟩, ⟨#[39]⟩, ⟨#[97, 39]⟩, ⟨#[43, 48, 48, 52, 49]⟩, ⟨#[48, 48, 52, 49]⟩, ⟨#[48, 52, 49]⟩, ⟨#[52, 49]⟩, ⟨#[49]⟩, ⟨#[48]⟩, ⟨#[48, 48]⟩, ⟨#[48, 48, 48]⟩, ⟨#[46]⟩, ⟨#[128]⟩, ⟨#[128, 128]⟩, ⟨#[128, 128, 128]⟩, ⟨#[191]⟩, ⟨#[191, 128]⟩, ⟨#[191, 128, 128]⟩, ⟨#[128, 39]⟩, ⟨#[128, 128, 39]⟩, ⟨#[128, 128, 128, 39]⟩, ⟨#[191, 39]⟩, ⟨#[191, 128, 39]⟩, ⟨#[191, 128, 128, 39]⟩]
theorem cont_ends : ∀ l ∈ contS, l ∈ endsL ∧ (l ++ ⟨#[39]⟩ : ByteArray) ∈ endsL := by
  intro l hl
  simp only [contS, List.mem_cons, List.not_mem_nil, or_false] at hl
  have e1 : (⟨#[128]⟩ : ByteArray) ++ ⟨#[39]⟩ = ⟨#[128, 39]⟩ := rfl
  have e2 : (⟨#[128, 128]⟩ : ByteArray) ++ ⟨#[39]⟩ = ⟨#[128, 128, 39]⟩ := rfl
  have e3 : (⟨#[128, 128, 128]⟩ : ByteArray) ++ ⟨#[39]⟩ = ⟨#[128, 128, 128, 39]⟩ := rfl
  have e4 : (⟨#[191]⟩ : ByteArray) ++ ⟨#[39]⟩ = ⟨#[191, 39]⟩ := rfl
  have e5 : (⟨#[191, 128]⟩ : ByteArray) ++ ⟨#[39]⟩ = ⟨#[191, 128, 39]⟩ := rfl
  have e6 : (⟨#[191, 128, 128]⟩ : ByteArray) ++ ⟨#[39]⟩ = ⟨#[191, 128, 128, 39]⟩ := rfl
  rcases hl with rfl | rfl | rfl | rfl | rfl | rfl
  · rw [e1]; simp [endsL]
  · rw [e2]; simp [endsL]
  · rw [e3]; simp [endsL]
  · rw [e4]; simp [endsL]
  · rw [e5]; simp [endsL]
  · rw [e6]; simp [endsL]
/-- The word of a beginning and an end is right, and is all of it. -/
def Goes1 (t : ByteArray) : Prop := ∃ l ∈ endsL, (wordV (t ++ l)).ok = true ∧ (wordV (t ++ l)).n = (t ++ l).size
theorem app_nil (t : ByteArray) : t ++ (⟨#[]⟩ : ByteArray) = t := by
  apply ByteArray.ext
  rw [ByteArray.data_append]
  simp
theorem goes_nil {t : ByteArray} (h : (wordV t).ok = true) (hn : (wordV t).n = t.size) : Goes1 t := ⟨⟨#[]⟩, by simp [endsL], by rw [app_nil]; exact h, by rw [app_nil]; exact hn⟩
theorem pre_size (t : ByteArray) (n : Nat) (h : n ≤ t.size) : (t.extract 0 n).size = n := by rw [ByteArray.size_extract]; omega
theorem go_name {t : ByteArray} (ht : 0 < t.size) (hs : smallB (bt t 0) = true) : Goes1 (t.extract 0 (nameLen t)) := by
  obtain ⟨e1, h1⟩ := nameLen_eq hs ht
  have hle := (nameLen_le t).1
  have hz := pre_size t (nameLen t) hle
  have hb : ∀ i, i < nameLen t → bt (t.extract 0 (nameLen t)) i = bt t i := fun i hi => bt_pre t (nameLen t) i hi hle
  have hl := name_local hs ht (u := t.extract 0 (nameLen t)) (by omega) hb (.inl hz.symm)
  have e := wordV_sm (t := t.extract 0 (nameLen t)) (by rw [hb 0 (by omega)]; exact hs)
  rw [hl] at e
  exact goes_nil (by rw [e]; exact edge_yes (.inl hz.symm)) (by rw [e]; exact hz.symm)
theorem go_num {t : ByteArray} (ht : 0 < t.size) (hs : smallB (bt t 0) = false) (hd : digB (bt t 0) = true) : Goes1 (t.extract 0 (numV t).2) := by
  have hle := numGo_le t t.size (bt t 0 - 48) 1 (by omega) (by omega)
  have hle1 : 1 ≤ (numV t).2 := hle.1
  have hle2 : (numV t).2 ≤ t.size := hle.2.1
  have hz := pre_size t (numV t).2 hle2
  have hb : ∀ i, i < (numV t).2 → bt (t.extract 0 (numV t).2) i = bt t i := fun i hi => bt_pre t (numV t).2 i hi hle2
  have hnv : numV (t.extract 0 (numV t).2) = numV t := by
    have := num_local (V := (numV t).1) (n := (numV t).2) (u := t.extract 0 (numV t).2) (by omega) hb (.inl hz.symm) t.size (bt t 0 - 48) 1 (by omega) (by omega) rfl
    unfold numV at this ⊢
    rw [show bt (t.extract 0 (numGo t (bt t 0 - 48) 1).2) 0 = bt t 0 from hb 0 (by omega)]
    exact this
  have e : wordV (t.extract 0 (numV t).2) = ⟨2, ByteArray.empty, 0, (numV (t.extract 0 (numV t).2)).1, (numV (t.extract 0 (numV t).2)).2, edgeB (t.extract 0 (numV t).2) (numV (t.extract 0 (numV t).2)).2⟩ := by unfold wordV; rw [hb 0 (by omega), hs, hd, if_neg (by decide), if_pos rfl]
  rw [hnv] at e
  exact goes_nil (by rw [e]; exact edge_yes (.inl hz.symm)) (by rw [e]; exact hz.symm)
/-- The digits of a beginning are gone through alike. -/
theorem numd_pre {t u : ByteArray} {V n : Nat} (h3 : 2 ≤ n) (ha : Agr t u n) : ∀ f v k, t.size ≤ k + f → k ≤ t.size → (2 < n ∨ k = n) → numdGo t v k = (V, n) → numdGo u v k = numdGo u V n
  | 0, v, k, h, hk, h2, hg => by
    rw [numdGo_stop (by omega), Prod.mk.injEq] at hg
    rw [hg.1, hg.2]
  | f + 1, v, k, h, hk, h2, hg => by
    have hlu := ha.lu
    by_cases hc : k < t.size ∧ (k < 6 ∨ bt t 2 ≠ 48) ∧ 0 ≤ hexI (bt t k) ∧ v * 16 + (hexI (bt t k)).toNat ≤ 1114111
    · rw [numdGo_go hc] at hg
      have hle := (numdGo_le t t.size (v * 16 + (hexI (bt t k)).toNat) (k + 1) (by omega) (by omega)).1
      rw [hg] at hle
      have hkn : k < n := hle
      have hb := ha.bt k (by omega)
      have hb2 := ha.bt 2 (by omega)
      have hc2 : k < u.size ∧ (k < 6 ∨ bt u 2 ≠ 48) ∧ 0 ≤ hexI (bt u k) ∧ v * 16 + (hexI (bt u k)).toNat ≤ 1114111 := ⟨by omega, by rw [hb2]; exact hc.2.1, by rw [hb]; exact hc.2.2.1, by rw [hb]; exact hc.2.2.2⟩
      rw [numdGo_go hc2, hb]
      exact numd_pre h3 ha f _ (k + 1) (by omega) (by omega) (.inl (by omega)) hg
    · rw [numdGo_stop hc, Prod.mk.injEq] at hg
      rw [hg.1, hg.2]
theorem numd_lt (t : ByteArray) : ∀ f v k j, t.size ≤ k + f → v < 16 ^ j → (numdGo t v k).1 < 16 ^ (j + ((numdGo t v k).2 - k))
  | 0, v, k, j, h, hv => by rw [numdGo_stop (by omega)]; simpa using hv
  | f + 1, v, k, j, h, hv => by
    by_cases hc : k < t.size ∧ (k < 6 ∨ bt t 2 ≠ 48) ∧ 0 ≤ hexI (bt t k) ∧ v * 16 + (hexI (bt t k)).toNat ≤ 1114111
    · rw [numdGo_go hc]
      have hle := (numdGo_le t t.size (v * 16 + (hexI (bt t k)).toNat) (k + 1) (by omega) (by omega)).1
      have hx := (hexI_nat (hxB_hexI.2 hc.2.2.1)).1
      have := numd_lt t f (v * 16 + (hexI (bt t k)).toNat) (k + 1) (j + 1) (by omega) (by rw [Nat.pow_succ]; omega)
      rw [show j + ((numdGo t (v * 16 + (hexI (bt t k)).toNat) (k + 1)).2 - k) = j + 1 + ((numdGo t (v * 16 + (hexI (bt t k)).toNat) (k + 1)).2 - (k + 1)) by omega]
      exact this
    · rw [numdGo_stop hc]; simpa using hv
/-- A number that begins with a nought is small. -/
theorem numd_nought {t : ByteArray} (h2 : 2 ≤ t.size) (h48 : bt t 2 = 48) (h3 : 3 ≤ (numdGo t 0 2).2) : (numdGo t 0 2).1 < 16 ^ ((numdGo t 0 2).2 - 3) := by
  have hc : 2 < t.size ∧ (2 < 6 ∨ bt t 2 ≠ 48) ∧ 0 ≤ hexI (bt t 2) ∧ 0 * 16 + (hexI (bt t 2)).toNat ≤ 1114111 := by
    by_cases q : 2 < t.size ∧ (2 < 6 ∨ bt t 2 ≠ 48) ∧ 0 ≤ hexI (bt t 2) ∧ 0 * 16 + (hexI (bt t 2)).toNat ≤ 1114111
    · exact q
    · rw [numdGo_stop q] at h3
      have : 3 ≤ 2 := h3
      omega
  have e := numdGo_go hc
  rw [h48] at e
  have hz : 0 * 16 + (hexI 48).toNat = 0 := by decide
  rw [hz] at e
  rw [e]
  have := numd_lt t t.size 0 3 0 (by omega) (by decide)
  rwa [Nat.zero_add] at this
end Go.Proofs.YtcnhkhjkeemafaaDoor
