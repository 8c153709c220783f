/- Texts of this claim, one behind the other. -/
import Derived.Test.YtbefahknbdjnpaaGreatDoorM25
/- Where words stand: plain mathematics. -/
namespace Go.Proofs.YtbefahknbdjnpaaGreatDoor
open Go.RowKit Go.Shelf
set_option linter.unusedVariables false
theorem small_lt {c : Nat} (h : smallB c = true) : c < 128 := by have := smallB_iff.1 h; omega
theorem dig_lt {c : Nat} (h : digB c = true) : c < 128 := by have := digB_iff.1 h; omega
theorem stk_lt {c : Nat} (h : stkB c = true) : c < 128 := by
  unfold stkB inNB smallB digB at h
  simp at h
  omega
theorem tl1_bt (t : ByteArray) (k : Nat) (h : 1 ≤ t.size) : bt (tl1 t) k = bt t (1 + k) := by unfold tl1 bt; rw [get_suffix t 1 k h]
theorem dots_bt (t : ByteArray) (h : dotsB t = true) : bt t 1 = 46 := by
  have h2 : [46, 46] <+: t.data.toList := List.isPrefixOf_iff_prefix.1 h
  obtain ⟨r, hr⟩ := h2
  have hz := dotsB_iff t h
  have : t.data.toList[1]? = some 46 := by rw [← hr]; rfl
  have h1 : 1 < t.size := by omega
  unfold bt
  rw [get_lt t 1 h1]
  rw [Array.getElem?_toList, Array.getElem?_eq_getElem h1] at this
  have e : t.data[1] = 46 := Option.some.inj this
  show (t.data[1]).toNat = 46
  rw [e]
  rfl
theorem word_last (t : ByteArray) (h : 0 < t.size) (ho : (wordV t).ok = true) : bt t ((wordV t).n - 1) < 128 := by
  unfold wordV at ho ⊢
  split at ho
  · rename_i hs
    rw [if_pos hs]
    refine stk_lt (stk_inN ?_)
    have hn : nameLen t = scanTo (fun n => inNB (bt t n)) (min t.size 32) 1 := by unfold nameLen; rw [if_neg (fun q => q.elim (by omega) (fun q => by rw [hs] at q; cases q))]
    show inNB (bt t (nameLen t - 1)) = true
    rw [hn]
    exact nameLen_prev t (min t.size 32) 1 (by omega) (by omega) (by omega) (by show inNB (bt t 0) = true; unfold inNB; rw [hs]; rfl)
  · rename_i hs
    rw [if_neg hs]
    split at ho
    · rename_i hd
      rw [if_pos hd]
      exact dig_lt (numV_prev t h hd)
    · rename_i hd
      rw [if_neg hd]
      split at ho
      · rename_i hu
        rw [if_pos hu]
        have ho2 : (numdV t).2.2 = true := ((Bool.and_eq_true _ _).mp ho).1
        show bt t ((numdV t).2.1 - 1) < 128
        unfold numdV at ho2 ⊢
        split at ho2
        · cases ho2
        · rename_i h1
          rw [if_neg h1]
          split at ho2
          · cases ho2
          · rename_i h6
            rw [if_neg h6]
            exact stk_lt (stk_hex (numdGo_prev t t.size 0 2 (by omega) (by omega) (fun q => by omega) (by omega)))
      · rename_i hu
        rw [if_neg hu]
        split at ho
        · rename_i hq
          rw [if_pos hq]
          have ho2 : (quoV t).2.2 = true := ho
          show bt t ((quoV t).2.1 - 1) < 128
          unfold quoV at ho2 ⊢
          repeat' split at ho2
          all_goals first | (cases ho2; done) | skip
          rename_i h1 h2 h3 h4 h5
          rw [if_neg h1, if_neg h2, if_neg h3, if_neg h4, if_pos h5]
          have := (rn_39 (tl1 t) (wd (tl1 t) 0)).1 h5
          rw [tl1_bt t _ h] at this
          show bt t (wd (tl1 t) 0 + 2 - 1) < 128
          rw [show wd (tl1 t) 0 + 2 - 1 = 1 + wd (tl1 t) 0 by omega, this]
          decide
        · rename_i hq
          rw [if_neg hq]
          have ho2 : (sgnV t).2.2 = true := ho
          show bt t ((sgnV t).2.1 - 1) < 128
          unfold sgnV at ho2 ⊢
          repeat' split
          all_goals first
            | (show bt t 0 < 128; omega)
            | skip
          all_goals first
            | (rename_i hdt; show bt t 1 < 128; rw [dots_bt t hdt]; decide)
            | (exfalso; simp_all; done)
theorem word_first (t : ByteArray) (ho : (wordV t).ok = true) : bt t 0 < 128 := by
  by_cases hs : smallB (bt t 0) = true
  · exact small_lt hs
  · by_cases hd : digB (bt t 0) = true
    · exact dig_lt hd
    · unfold wordV at ho
      rw [if_neg hs, if_neg hd] at ho
      split at ho
      · omega
      · split at ho
        · omega
        · have ho2 : (sgnV t).2.2 = true := ho
          unfold sgnV at ho2
          repeat' split at ho2
          all_goals first | omega | cases ho2
theorem bd_ascii (s : ByteArray) (i : Nat) (h : bt s i < 128) : bdB s i = true := bd_lead s i (by omega)
theorem bd_next (s : ByteArray) (i : Nat) (hi : i < s.size) (h : bt s i < 128) : bdB s (i + 1) = true := by
  have hw : wd s i = 1 := by
    rcases Nat.lt_or_ge (wd s i) 2 with q | q
    · have := wd_pos s i; omega
    · have := wd_lead s _ q; omega
  have := bd_step s i (bd_ascii s i h) hi
  rwa [hw] at this
/-- Lines and columns behind n bytes more. -/
theorem lcB_at (s : ByteArray) (b n : Nat) (hb : b + n ≤ s.size) (hd : bdB s b = true) : lcB (rst s b) (lcAt s b) n = lcAt s (b + n) := by
  unfold lcB lcAt
  have e : (rst s b).extract 0 n = s.extract b (b + n) := by
    unfold rst
    rw [ByteArray.extract_extract, Nat.add_zero, Nat.min_eq_left (by omega)]
  rw [e, lcF_all, ← lcR_on s b (b + n) (1, 1) (by omega) hb (bd_pre s b (b + n) hd (by omega) hb)]
/-- What is known of a word's place. -/
structure WdAt (s : ByteArray) (x : Wd) : Prop where
  lc : (x.l, x.c) = whL s x.b
  lt : x.b < s.size
  e : x.e = x.b + x.v.n
  v : x.v = wordV (rst s x.b)
  le : x.e ≤ s.size
theorem wdAt_mk {s : ByteArray} {b : Nat} {x : Nat × Nat} (h1 : x = whL s b) (h2 : b < s.size) (h3 : b + (wordV (rst s b)).n ≤ s.size) : WdAt s ⟨wordV (rst s b), b, x.1, x.2, b + (wordV (rst s b)).n⟩ := by
  obtain ⟨x1, x2⟩ := x
  generalize hw : whL s b = y at h1
  subst h1
  generalize hv : wordV (rst s b) = v at h3
  exact { lc := hw.symm, lt := h2, e := rfl, v := hv.symm, le := h3 }
theorem cut_places (s : ByteArray) : ∀ f b x ws, b ≤ s.size → bdB s b = true → x = lcAt s b → (∀ y ∈ ws, WdAt s y) → (∀ y ∈ (cutGo s f b x ws).ws, WdAt s y) ∧ (cutGo s f b x ws).b ≤ s.size
  | 0, b, x, ws, hb, _, _, h => ⟨h, hb⟩
  | f + 1, b, x, ws, hb, hd, hx, h => by
    have hg := gB_le s b hb
    unfold cutGo
    split
    · exact ⟨h, hg.2⟩
    · split
      · exact ⟨h, hg.2⟩
      · rename_i hz
        rw [rst_size] at hz
        have hp : 0 < (rst s (gB s b)).size := by rw [rst_size]; omega
        have hle := wordV_le (rst s (gB s b)) hp
        rw [rst_size] at hle
        split
        · exact ⟨h, by show gB s b + _ ≤ _; omega⟩
        · rename_i ho
          have ho2 : (wordV (rst s (gB s b))).ok = true := Bool.eq_false_or_eq_true _ |>.resolve_right ho
          have hn := hle.2 ho2
          have e0 : bt (rst s (gB s b)) 0 = bt s (gB s b) := rst_at s (gB s b) 0 hg.2
          have hf := word_first _ ho2
          rw [e0] at hf
          have hl := word_last _ hp ho2
          rw [rst_at s (gB s b) _ hg.2] at hl
          have hbg : bdB s (gB s b) = true := bd_ascii s _ hf
          have hgl : gLC s b x = lcAt s (gB s b) := by
            unfold gLC
            rw [hx, lcB_at s b _ (by have := hg.2; unfold gB at this; exact this) hd]
            rfl
          have hnx : bdB s (gB s b + (wordV (rst s (gB s b))).n) = true := by
            have := bd_next s (gB s b + ((wordV (rst s (gB s b))).n - 1)) (by omega) hl
            rwa [show gB s b + ((wordV (rst s (gB s b))).n - 1) + 1 = gB s b + (wordV (rst s (gB s b))).n by omega] at this
          refine cut_places s f _ _ _ (by omega) hnx (by rw [hgl, lcB_at s _ _ (by omega) hbg]) (fun y hy => ?_)
          rcases List.mem_append.1 hy with hy | hy
          · exact h y hy
          · obtain rfl := List.mem_singleton.1 hy
            exact wdAt_mk (hgl.trans (whL_bd s _ hbg).symm) (by omega) (by omega)
theorem words_places (s : ByteArray) : (∀ y ∈ (wordsV s).ws, WdAt s y) ∧ (wordsV s).b ≤ s.size := cut_places s _ 0 (1, 1) [] (Nat.zero_le _) (bd_zero s) (lcAt_zero s).symm (fun _ h => by cases h)
end Go.Proofs.YtbefahknbdjnpaaGreatDoor
/- A word stays what it is, whatever stands behind it: plain mathematics. -/
namespace Go.Proofs.YtbefahknbdjnpaaGreatDoor
open Go.RowKit Go.Shelf
set_option linter.unusedVariables false
theorem scanTo_mem (p : Nat → Bool) (hi : Nat) : ∀ k n, hi ≤ n + k → ∀ j, n ≤ j → j < scanTo p hi n → p j = true ∧ j < hi
  | 0, n, h, j, h1, h2 => by rw [scanTo_end (by omega)] at h2; omega
  | k + 1, n, h, j, h1, h2 => by
    by_cases hn : n < hi
    · cases hp : p n with
      | true =>
        rw [scanTo_go hn hp] at h2
        by_cases e : j = n
        · subst e; exact ⟨hp, hn⟩
        · exact scanTo_mem p hi k (n + 1) (by omega) j (by omega) h2
      | false => rw [scanTo_no hp] at h2; omega
    · rw [scanTo_end hn] at h2; omega
theorem not_stk_in {c : Nat} (h : stkB c = false) : inNB c = false ∧ digB c = false ∧ hxB c = false := by
  refine ⟨?_, ?_, ?_⟩
  · cases q : inNB c
    · rfl
    · rw [stk_inN q] at h; cases h
  · cases q : digB c
    · rfl
    · rw [stk_dig q] at h; cases h
  · cases q : hxB c
    · rfl
    · rw [stk_hex q] at h; cases h
theorem edge_yes {u : ByteArray} {n : Nat} (h : n = u.size ∨ stkB (bt u n) = false) : edgeB u n = true := by
  unfold edgeB
  rcases h with h | h
  · rw [decide_eq_true h]; rfl
  · rw [h]; simp
theorem ext_pre_eq {t u : ByteArray} {n : Nat} (ht : n ≤ t.size) (hu : n ≤ u.size) (hb : ∀ i, i < n → bt u i = bt t i) : u.extract 0 n = t.extract 0 n := by
  refine ext_get _ _ (by rw [ByteArray.size_extract, ByteArray.size_extract]; omega) (fun j hj => ?_)
  rw [ByteArray.size_extract] at hj
  rw [bt_pre u n j (by omega) hu, bt_pre t n j (by omega) ht]
  exact hb j (by omega)
theorem wordV_sm {t : ByteArray} (h : smallB (bt t 0) = true) : wordV t = ⟨1, t.extract 0 (nameLen t), 0, 0, nameLen t, edgeB t (nameLen t)⟩ := by unfold wordV; rw [if_pos h]
theorem name_local {t u : ByteArray} (hs : smallB (bt t 0) = true) (ht : 0 < t.size) (hn : nameLen t ≤ u.size) (hb : ∀ i, i < nameLen t → bt u i = bt t i) (he : nameLen t = u.size ∨ stkB (bt u (nameLen t)) = false) : nameLen u = nameLen t := by
  have e1 : nameLen t = scanTo (fun n => inNB (bt t n)) (min t.size 32) 1 := by unfold nameLen; rw [if_neg (fun q => q.elim (by omega) (fun q => by rw [hs] at q; cases q))]
  have h1 : 1 ≤ nameLen t := by rw [e1]; exact (scanTo_le _ (by omega)).1
  have h32 := (nameLen_le t).2
  have hs2 : smallB (bt u 0) = true := by rw [hb 0 (by omega)]; exact hs
  have e2 : nameLen u = scanTo (fun n => inNB (bt u n)) (min u.size 32) 1 := by unfold nameLen; rw [if_neg (fun q => q.elim (by omega) (fun q => by rw [hs2] at q; cases q))]
  have hm : ∀ j, 1 ≤ j → j < nameLen t → inNB (bt u j) = true := fun j h2 h3 => by
    rw [hb j h3]
    rw [e1] at h3
    exact (scanTo_mem (fun n => inNB (bt t n)) (min t.size 32) (min t.size 32) 1 (by omega) j h2 h3).1
  rw [e2, scanTo_all (p := fun n => inNB (bt u n)) (hi := min u.size 32) (m := nameLen t) (nameLen t - 1) 1 (by omega) (by omega) hm]
  by_cases hl : nameLen t < min u.size 32
  · refine scanTo_no (p := fun n => inNB (bt u n)) ?_
    rcases he with he | he
    · omega
    · exact (not_stk_in he).1
  · exact scanTo_end hl
theorem num_local {t u : ByteArray} {V n : Nat} (hn : n ≤ u.size) (hb : ∀ i, i < n → bt u i = bt t i) (he : n = u.size ∨ stkB (bt u n) = false) : ∀ f v k, t.size ≤ k + f → k ≤ t.size → numGo t v k = (V, n) → numGo u v k = (V, n)
  | 0, v, k, h, hk, hg => by
    rw [numGo_stop (by omega), Prod.mk.injEq] at hg
    rw [numGo_stop, hg.1, hg.2]
    rw [hg.2]
    rcases he with he | he
    · omega
    · intro q; rw [(not_stk_in he).2.1] at q; cases q.2.1
  | f + 1, v, k, h, hk, hg => by
    by_cases hc : k < t.size ∧ digB (bt t k) = true ∧ 0 < v ∧ v * 10 + (bt t k - 48) ≤ 65535
    · rw [numGo_go hc.1 hc.2.1 hc.2.2.1 hc.2.2.2] at hg
      have hle := (numGo_le t t.size (v * 10 + (bt t k - 48)) (k + 1) (by omega) (by omega)).1
      rw [hg] at hle
      have hkn : k < n := hle
      rw [numGo_go (by omega) (by rw [hb k hkn]; exact hc.2.1) hc.2.2.1 (by rw [hb k hkn]; exact hc.2.2.2), hb k hkn]
      exact num_local hn hb he f _ (k + 1) (by omega) (by omega) hg
    · rw [numGo_stop hc, Prod.mk.injEq] at hg
      rw [numGo_stop, hg.1, hg.2]
      rw [hg.2]
      rcases he with he | he
      · omega
      · intro q; rw [(not_stk_in he).2.1] at q; cases q.2.1
theorem numd_local {t u : ByteArray} {V n : Nat} (h3 : 3 ≤ n) (hn : n ≤ u.size) (hb : ∀ i, i < n → bt u i = bt t i) (he : n = u.size ∨ stkB (bt u n) = false) : ∀ f v k, t.size ≤ k + f → k ≤ t.size → numdGo t v k = (V, n) → numdGo u v k = (V, n)
  | 0, v, k, h, hk, hg => by
    rw [numdGo_stop (by omega), Prod.mk.injEq] at hg
    rw [numdGo_stop, hg.1, hg.2]
    rw [hg.2]
    rcases he with he | he
    · omega
    · intro q; have := hxB_hexI.2 q.2.2.1; rw [(not_stk_in he).2.2] at this; cases this
  | f + 1, v, k, h, hk, hg => by
    by_cases hc : k < t.size ∧ (k < 6 ∨ bt t 2 ≠ 48) ∧ 0 ≤ hexI (bt t k) ∧ v * 16 + (hexI (bt t k)).toNat ≤ 1114111
    · rw [numdGo_go hc] at hg
      have hle := (numdGo_le t t.size (v * 16 + (hexI (bt t k)).toNat) (k + 1) (by omega) (by omega)).1
      rw [hg] at hle
      have hkn : k < n := hle
      have hc2 : k < u.size ∧ (k < 6 ∨ bt u 2 ≠ 48) ∧ 0 ≤ hexI (bt u k) ∧ v * 16 + (hexI (bt u k)).toNat ≤ 1114111 := ⟨by omega, by rw [hb 2 (by omega)]; exact hc.2.1, by rw [hb k hkn]; exact hc.2.2.1, by rw [hb k hkn]; exact hc.2.2.2⟩
      rw [numdGo_go hc2, hb k hkn]
      exact numd_local h3 hn hb he f _ (k + 1) (by omega) (by omega) hg
    · rw [numdGo_stop hc, Prod.mk.injEq] at hg
      rw [numdGo_stop, hg.1, hg.2]
      rw [hg.2]
      rcases he with he | he
      · omega
      · intro q; have := hxB_hexI.2 q.2.2.1; rw [(not_stk_in he).2.2] at this; cases this
theorem dots_mk (t : ByteArray) (h : 2 ≤ t.size) (h0 : bt t 0 = 46) (h1 : bt t 1 = 46) : dotsB t = true := by
  unfold dotsB Lib.hasPrefix
  rw [List.isPrefixOf_iff_prefix]
  have e : t.data.toList = [t.get! 0, t.get! 1] ++ t.data.toList.drop 2 := by
    rw [show t.data.toList = t.data.toList.drop 0 from rfl, drop_bt t 0 (by omega), drop_bt t 1 (by omega)]
    rfl
  have g0 : t.get! 0 = 46 := by rw [← UInt8.toNat_inj]; exact h0
  have g1 : t.get! 1 = 46 := by rw [← UInt8.toNat_inj]; exact h1
  rw [e, g0, g1]
  exact ⟨_, rfl⟩
/-- What stands at the beginning of a text, when more bytes of it are the same than it has. -/
theorem decode_same {t u : ByteArray} {m : Nat} (hm : wd t 0 ≤ m) (ht : m ≤ t.size) (hu : m ≤ u.size) (h0 : 0 < m) (hb : ∀ i, i < m → bt u i = bt t i) (hg : ¬ (rn t 0 = 65533 ∧ wd t 0 = 1)) : Utf8.decode u 0 = Utf8.decode t 0 := by
  have e := ext_pre_eq ht hu hb
  have hz : (t.extract 0 m).size = m := by rw [ByteArray.size_extract]; omega
  have h1 := decode_part (t.extract 0 m) (t.extract m t.size) 0 (by omega) (by rw [cat_split t m ht, hz]; omega)
  rw [cat_split t m ht] at h1
  have h2 := decode_grow (u.extract 0 m) (u.extract m u.size) 0 (by rw [e]; omega) (by rw [e]; unfold rn wd; rw [h1]; exact hg)
  rw [cat_split u m hu] at h2
  rw [h2, e, h1]
theorem quo_local {t u : ByteArray} (ht : 0 < t.size) (ho : (quoV t).2.2 = true) (hn : (quoV t).2.1 ≤ u.size) (hb : ∀ i, i < (quoV t).2.1 → bt u i = bt t i) : quoV u = quoV t := by
  have hle := quoV_le t ht
  unfold quoV at ho
  split at ho
  · cases ho
  · rename_i h1
    split at ho
    · cases ho
    · rename_i h2
      split at ho
      · cases ho
      · rename_i h3
        split at ho
        · cases ho
        · rename_i h4
          split at ho
          · rename_i h5
            have ev : quoV t = (rn (tl1 t) 0, wd (tl1 t) 0 + 2, true) := by unfold quoV; rw [if_neg h1, if_neg h2, if_neg h3, if_neg h4, if_pos h5]
            rw [ev] at hn hb hle ⊢
            have hn' : wd (tl1 t) 0 + 2 ≤ u.size := hn
            have hb' : ∀ i, i < wd (tl1 t) 0 + 2 → bt u i = bt t i := hb
            have hle' : wd (tl1 t) 0 + 2 ≤ t.size := hle.2
            have zt := tl1_size t
            have zu := tl1_size u
            have hp := wd_pos (tl1 t) 0
            have hbt : ∀ i, i < wd (tl1 t) 0 + 1 → bt (tl1 u) i = bt (tl1 t) i := fun i hi => by
              rw [tl1_bt u i (by omega), tl1_bt t i (by omega)]
              exact hb' (1 + i) (by omega)
            have hwb : wholeB (tl1 t) = true := Bool.eq_false_or_eq_true _ |>.resolve_right h3
            have hg : ¬ (rn (tl1 t) 0 = 65533 ∧ wd (tl1 t) 0 = 1) := by
              unfold wholeB badB at hwb
              simp at hwb
              intro q
              rcases hwb.2 with h | h
              · exact h q.1
              · exact h q.2
            have hd := decode_same (t := tl1 t) (u := tl1 u) (m := wd (tl1 t) 0 + 1) (by omega) (by omega) (by omega) (by omega) hbt hg
            have r0 : rn (tl1 u) 0 = rn (tl1 t) 0 := by unfold rn; rw [hd]
            have w0 : wd (tl1 u) 0 = wd (tl1 t) 0 := by unfold wd; rw [hd]
            have hwu : wholeB (tl1 u) = true := by
              unfold wholeB badB
              rw [r0, w0, decide_eq_true (by omega), decide_eq_false hg]
              rfl
            have h5u : rn (tl1 u) (wd (tl1 u) 0) = 39 := by
              rw [rn_39, w0, hbt _ (by omega), ← rn_39]
              exact h5
            unfold quoV
            rw [if_neg (by omega), r0, if_neg h2, hwu, if_neg (by decide), if_neg (by rw [w0]; omega), if_pos h5u, w0]
          · cases ho
theorem sgn_local {t u : ByteArray} (ht : 0 < t.size) (ho : (sgnV t).2.2 = true) (hn : (sgnV t).2.1 ≤ u.size) (hb : ∀ i, i < (sgnV t).2.1 → bt u i = bt t i) : sgnV u = sgnV t := by
  have h1 := (sgnV_le t ht).2 ho
  have h0 : bt u 0 = bt t 0 := hb 0 (by omega)
  by_cases hd : bt t 0 = 46
  · have hdt : dotsB t = true := by
      cases q : dotsB t
      · unfold sgnV at ho
        rw [hd, q] at ho
        cases ho
      · rfl
    have ev : sgnV t = (9, 2, true) := by
      unfold sgnV
      rw [hd, hdt]
      rfl
    rw [ev] at hn hb ⊢
    have hn' : 2 ≤ u.size := hn
    have hdu : dotsB u = true := dots_mk u hn' (by rw [h0]; exact hd) (by rw [hb 1 (by show 1 < 2; omega)]; exact dots_bt t hdt)
    unfold sgnV
    rw [h0, hd, hdu]
    rfl
  · unfold sgnV
    rw [h0]
    simp only [if_neg hd]
/-- A word stays what it is, whatever stands behind it that does not stick to it. -/
theorem word_local {t u : ByteArray} (ht : 0 < t.size) (ho : (wordV t).ok = true) (hn : (wordV t).n ≤ u.size) (hb : ∀ i, i < (wordV t).n → bt u i = bt t i) (he : (smallB (bt t 0) = true ∨ digB (bt t 0) = true ∨ bt t 0 = 85) → (wordV t).n = u.size ∨ stkB (bt u (wordV t).n) = false) : wordV u = wordV t := by
  have hpos := (wordV_le t ht).2 ho
  have hle := (wordV_le t ht).1
  have h0 : bt u 0 = bt t 0 := hb 0 (by omega)
  by_cases hs : smallB (bt t 0) = true
  · have ev := wordV_sm hs
    have he' := he (.inl hs)
    rw [ev] at hn hb he' hle ho ⊢
    simp only at hn hb he' hle ho
    have hnl := name_local hs ht hn hb he'
    rw [wordV_sm (t := u) (by rw [h0]; exact hs), hnl, edge_yes he', ext_pre_eq hle hn hb, ho]
  · by_cases hd : digB (bt t 0) = true
    · have ev : wordV t = ⟨2, ByteArray.empty, 0, (numV t).1, (numV t).2, edgeB t (numV t).2⟩ := by unfold wordV; rw [if_neg hs, if_pos hd]
      have eu : wordV u = ⟨2, ByteArray.empty, 0, (numV u).1, (numV u).2, edgeB u (numV u).2⟩ := by unfold wordV; rw [h0, if_neg hs, if_pos hd]
      have he' := he (.inr (.inl hd))
      rw [ev] at hn hb he' hle ho
      simp only at hn hb he' hle ho
      have hnv : numV u = numV t := by
        have := num_local (V := (numV t).1) (n := (numV t).2) hn hb he' t.size (bt t 0 - 48) 1 (by omega) (by omega) rfl
        unfold numV
        rw [h0]
        exact this
      rw [eu, ev, hnv, ho, edge_yes he']
    · by_cases hu : bt t 0 = 85
      · have ev : wordV t = ⟨3, ByteArray.empty, (numdV t).1, 0, (numdV t).2.1, (numdV t).2.2 && edgeB t (numdV t).2.1⟩ := by unfold wordV; rw [if_neg hs, if_neg hd, if_pos hu]
        have eu : wordV u = ⟨3, ByteArray.empty, (numdV u).1, 0, (numdV u).2.1, (numdV u).2.2 && edgeB u (numdV u).2.1⟩ := by unfold wordV; rw [h0, if_neg hs, if_neg hd, if_pos hu]
        have he' := he (.inr (.inr hu))
        rw [ev] at hn hb he' hle ho
        simp only at hn hb he' hle ho
        have ho2 := (Bool.and_eq_true _ _).mp ho
        have hnv : numdV u = numdV t := by
          have hok := ho2.1
          unfold numdV at hok
          split at hok
          · cases hok
          · rename_i g1
            split at hok
            · cases hok
            · rename_i g2
              have evd : numdV t = ((numdGo t 0 2).1, (numdGo t 0 2).2, true) := by unfold numdV; rw [if_neg g1, if_neg g2]
              rw [evd] at hn hb he' ⊢
              simp only at hn hb he'
              have hg := numd_local (V := (numdGo t 0 2).1) (n := (numdGo t 0 2).2) (by omega) hn hb he' t.size 0 2 (by omega) (by omega) rfl
              have h1 := hb 1 (by omega)
              unfold numdV
              rw [hg, h1, if_neg (fun q => q.elim (fun q => by omega) (fun q => g1 (.inr q))), if_neg g2]
        rw [eu, ev, hnv, ho, ho2.1, edge_yes he']
        rfl
      · by_cases hq : bt t 0 = 39
        · have ev : wordV t = ⟨3, ByteArray.empty, (quoV t).1, 0, (quoV t).2.1, (quoV t).2.2⟩ := by unfold wordV; rw [if_neg hs, if_neg hd, if_neg hu, if_pos hq]
          have eu : wordV u = ⟨3, ByteArray.empty, (quoV u).1, 0, (quoV u).2.1, (quoV u).2.2⟩ := by unfold wordV; rw [h0, if_neg hs, if_neg hd, if_neg hu, if_pos hq]
          rw [ev] at hn hb ho
          rw [eu, ev, quo_local ht ho hn hb]
        · have ev : wordV t = ⟨(sgnV t).1, ByteArray.empty, 0, 0, (sgnV t).2.1, (sgnV t).2.2⟩ := by unfold wordV; rw [if_neg hs, if_neg hd, if_neg hu, if_neg hq]
          have eu : wordV u = ⟨(sgnV u).1, ByteArray.empty, 0, 0, (sgnV u).2.1, (sgnV u).2.2⟩ := by unfold wordV; rw [h0, if_neg hs, if_neg hd, if_neg hu, if_neg hq]
          rw [ev] at hn hb ho
          rw [eu, ev, sgn_local ht ho hn hb]
end Go.Proofs.YtbefahknbdjnpaaGreatDoor
/- Texts behind one another, and words with other blanks between them: plain mathematics. -/
namespace Go.Proofs.YtbefahknbdjnpaaGreatDoor
open Go.RowKit Go.Shelf
set_option linter.unusedVariables false
theorem scanTo_agree {q q' : Nat → Bool} {m hi hi' : Nat} (hq : ∀ j, j < m → q' j = q j) (h1 : m ≤ hi) (h2 : m ≤ hi') (e1 : m = hi ∨ q m = false) (e2 : m = hi' ∨ q' m = false) : ∀ k n, m = n + k → scanTo q' hi' n = scanTo q hi n
  | 0, n, h => by
    obtain rfl : m = n := by omega
    have a1 : scanTo q hi m = m := by
      rcases e1 with e | e
      · exact scanTo_end (by omega)
      · exact scanTo_no e
    have a2 : scanTo q' hi' m = m := by
      rcases e2 with e | e
      · exact scanTo_end (by omega)
      · exact scanTo_no e
    rw [a1, a2]
  | k + 1, n, h => by
    cases hp : q n with
    | true => rw [scanTo_go (by omega) hp, scanTo_go (p := q') (by omega) (by rw [hq n (by omega)]; exact hp)]; exact scanTo_agree hq h1 h2 e1 e2 k (n + 1) (by omega)
    | false => rw [scanTo_no hp, scanTo_no (p := q') (by rw [hq n (by omega)]; exact hp)]
/-- A remark hangs on its line alone. -/
theorem rem_agree {t u : ByteArray} {m : Nat} (ht : m ≤ t.size) (hu : m ≤ u.size) (hb : ∀ j, j < m → bt u j = bt t j) (e1 : m = t.size ∨ bt t m = 10) (e2 : m = u.size ∨ bt u m = 10) : remV u = remV t := by
  have hn : nlAt u = nlAt t := by
    unfold nlAt
    exact scanTo_agree (q := fun n => !decide (bt t n = 10)) (q' := fun n => !decide (bt u n = 10)) (m := m) (fun j hj => by rw [hb j hj]) ht hu (e1.imp id (fun h => by rw [h]; rfl)) (e2.imp id (fun h => by rw [h]; rfl)) m 0 (by omega)
  have hnm : nlAt t ≤ m := by
    unfold nlAt
    rcases Nat.lt_or_ge m (scanTo (fun n => !decide (bt t n = 10)) t.size 0) with q | q
    · have := scanTo_mem (fun n => !decide (bt t n = 10)) t.size t.size 0 (by omega) m (by omega) q
      rcases e1 with e | e
      · omega
      · rw [e] at this; cases this.1
    · exact q
  have hx : u.extract 0 (nlAt u) = t.extract 0 (nlAt t) := by
    rw [hn]
    exact ext_pre_eq (by omega) (by omega) (fun i hi => hb i (by omega))
  unfold remV
  rw [hx]
/-- The words' places. -/
def mkW (s : ByteArray) (q : Nat) : Wd := ⟨wordV (rst s q), q, (lcAt s q).1, (lcAt s q).2, q + (wordV (rst s q)).n⟩
def cutP (s : ByteArray) : Nat → Nat → Option (List Nat)
  | 0, _ => none
  | f + 1, b => if (gapA s b).2 = false then none else if (gapA s b).1 = s.size then some [] else if (wordV (rst s (gapA s b).1)).ok = false then none
    else (cutP s f ((gapA s b).1 + (wordV (rst s (gapA s b).1)).n)).map ((gapA s b).1 :: ·)
theorem cutP_bad {s : ByteArray} {f b : Nat} (h : (gapA s b).2 = false) : cutP s (f + 1) b = none := by rw [cutP, if_pos h]
theorem cutP_end {s : ByteArray} {f b : Nat} (h : (gapA s b).2 = true) (he : (gapA s b).1 = s.size) : cutP s (f + 1) b = some [] := by rw [cutP, if_neg (by rw [h]; decide), if_pos he]
theorem cutP_no {s : ByteArray} {f b : Nat} (h : (gapA s b).2 = true) (he : (gapA s b).1 ≠ s.size) (ho : (wordV (rst s (gapA s b).1)).ok = false) : cutP s (f + 1) b = none := by rw [cutP, if_neg (by rw [h]; decide), if_neg he, if_pos ho]
theorem cutP_go {s : ByteArray} {f b : Nat} (h : (gapA s b).2 = true) (he : (gapA s b).1 ≠ s.size) (ho : (wordV (rst s (gapA s b).1)).ok = true) : cutP s (f + 1) b = (cutP s f ((gapA s b).1 + (wordV (rst s (gapA s b).1)).n)).map ((gapA s b).1 :: ·) := by rw [cutP, if_neg (by rw [h]; decide), if_neg he, if_neg (by rw [ho]; decide)]
theorem gapA_le (s : ByteArray) (b : Nat) (h : b ≤ s.size) : b ≤ (gapA s b).1 ∧ (gapA s b).1 ≤ s.size := gB_le s b h
theorem word_at (s : ByteArray) (q : Nat) (hq : q < s.size) (ho : (wordV (rst s q)).ok = true) : 1 ≤ (wordV (rst s q)).n ∧ q + (wordV (rst s q)).n ≤ s.size ∧ bdB s q = true ∧ bdB s (q + (wordV (rst s q)).n) = true ∧ blankB (bt s q) = false ∧ bt s q ≠ 35 := by
  have hp : 0 < (rst s q).size := by rw [rst_size]; omega
  have hle := wordV_le (rst s q) hp
  rw [rst_size] at hle
  have hn := hle.2 ho
  have e0 : bt (rst s q) 0 = bt s q := rst_at s q 0 (by omega)
  have hf := word_first _ ho
  rw [e0] at hf
  have hl := word_last _ hp ho
  rw [rst_at s q _ (by omega)] at hl
  have hnx : bdB s (q + (wordV (rst s q)).n) = true := by
    have := bd_next s (q + ((wordV (rst s q)).n - 1)) (by omega) hl
    rwa [show q + ((wordV (rst s q)).n - 1) + 1 = q + (wordV (rst s q)).n by omega] at this
  have hbl : ¬ (blankB (bt s q) = true ∨ bt s q = 35) := by
    intro h
    have hc : bt (rst s q) 0 = 9 ∨ bt (rst s q) 0 = 10 ∨ bt (rst s q) 0 = 13 ∨ bt (rst s q) 0 = 32 ∨ bt (rst s q) 0 = 35 := by
      rw [e0]
      unfold blankB at h
      simp at h
      omega
    have : (wordV (rst s q)).ok = false := by
      unfold wordV sgnV
      rcases hc with h | h | h | h | h <;> (rw [h]; rfl)
    rw [this] at ho
    cases ho
  refine ⟨hn, by omega, bd_ascii s q hf, hnx, ?_, fun h => hbl (.inr h)⟩
  cases hb : blankB (bt s q)
  · rfl
  · exact absurd (.inl hb) hbl
theorem cut_P (s : ByteArray) : ∀ f b ws, b ≤ s.size → bdB s b = true → (∀ ps, cutP s f b = some ps → (cutGo s f b (lcAt s b) ws).ok = true ∧ (cutGo s f b (lcAt s b) ws).ws = ws ++ ps.map (mkW s)) ∧ (cutP s f b = none → (cutGo s f b (lcAt s b) ws).ok = false)
  | 0, b, ws, hb, hd => ⟨fun ps h => by (cases h), fun _ => rfl⟩
  | f + 1, b, ws, hb, hd => by
    have hg := gapA_le s b hb
    have hgl : gLC s b (lcAt s b) = lcAt s (gB s b) := by
      unfold gLC
      rw [lcB_at s b _ (by have := hg.2; exact this) hd]
      rfl
    cases h1 : (gapA s b).2
    · have h1' : (gapV (rst s b)).2 = false := h1
      rw [cutP_bad h1]
      unfold cutGo
      rw [if_pos h1']
      exact ⟨fun ps h => by (cases h), fun _ => rfl⟩
    · have h1' : ¬ (gapV (rst s b)).2 = false := by rw [show (gapV (rst s b)).2 = true from h1]; decide
      by_cases he : (gapA s b).1 = s.size
      · rw [cutP_end h1 he]
        have he' : (rst s (gB s b)).size = 0 := by rw [rst_size]; have : gB s b = s.size := he; omega
        unfold cutGo
        rw [if_neg h1', if_pos he']
        exact ⟨fun ps h => by cases h; exact ⟨rfl, by simp⟩, fun h => by cases h⟩
      · have hq : gB s b < s.size := by have h9 : gB s b ≠ s.size := he; have h8 : gB s b ≤ s.size := hg.2; omega
        have he' : ¬ (rst s (gB s b)).size = 0 := by rw [rst_size]; omega
        cases h2 : (wordV (rst s (gapA s b).1)).ok
        · have h2' : (wordV (rst s (gB s b))).ok = false := h2
          rw [cutP_no h1 he h2]
          unfold cutGo
          rw [if_neg h1', if_neg he', if_pos h2']
          exact ⟨fun ps h => by (cases h), fun _ => rfl⟩
        · have h2' : (wordV (rst s (gB s b))).ok = true := h2
          obtain ⟨hn, hle, hbq, hbn, _, _⟩ := word_at s (gB s b) hq h2'
          have ih := cut_P s f (gB s b + (wordV (rst s (gB s b))).n) (ws ++ [mkW s (gB s b)]) hle hbn
          have e : cutGo s (f + 1) b (lcAt s b) ws = cutGo s f (gB s b + (wordV (rst s (gB s b))).n) (lcAt s (gB s b + (wordV (rst s (gB s b))).n)) (ws ++ [mkW s (gB s b)]) := by
            conv => lhs; unfold cutGo
            rw [if_neg h1', if_neg he', if_neg (by rw [h2']; decide), hgl, lcB_at s _ _ hle hbq]
            rfl
          rw [e, cutP_go h1 he h2]
          refine ⟨fun ps h => ?_, fun h => ?_⟩
          · obtain ⟨qs, h3, rfl⟩ := Option.map_eq_some_iff.1 h
            obtain ⟨i1, i2⟩ := ih.1 qs h3
            refine ⟨i1, ?_⟩
            rw [i2, List.append_assoc]
            rfl
          · exact ih.2 (Option.map_eq_none_iff.1 h)
theorem cutP_fuel (s : ByteArray) : ∀ f g b, b ≤ s.size → s.size < b + f → s.size < b + g → cutP s f b = cutP s g b
  | 0, g, b, hb, hf, hg => by omega
  | f + 1, 0, b, hb, hf, hg => by omega
  | f + 1, g + 1, b, hb, hf, hg => by
    have hq := gapA_le s b hb
    cases h1 : (gapA s b).2
    · rw [cutP_bad h1, cutP_bad h1]
    · by_cases he : (gapA s b).1 = s.size
      · rw [cutP_end h1 he, cutP_end h1 he]
      · cases h2 : (wordV (rst s (gapA s b).1)).ok
        · rw [cutP_no h1 he h2, cutP_no h1 he h2]
        · have hw := word_at s (gapA s b).1 (by omega) h2
          rw [cutP_go h1 he h2, cutP_go h1 he h2, cutP_fuel s f g _ hw.2.1 (by omega) (by omega)]
/-- The places of a text's words; none, if it is not right by its words. -/
def posV (s : ByteArray) : Option (List Nat) := cutP s (s.size + 1) 0
theorem words_pos {s : ByteArray} {ps : List Nat} (h : posV s = some ps) : (wordsV s).ok = true ∧ (wordsV s).ws = ps.map (mkW s) := by
  have := (cut_P s (s.size + 1) 0 [] (Nat.zero_le _) (bd_zero s)).1 ps h
  rw [lcAt_zero] at this
  simpa [wordsV] using this
theorem words_none {s : ByteArray} (h : posV s = none) : (wordsV s).ok = false := by
  have := (cut_P s (s.size + 1) 0 [] (Nat.zero_le _) (bd_zero s)).2 h
  rw [lcAt_zero] at this
  exact this
theorem cutP_mem (s : ByteArray) : ∀ f b ps, b ≤ s.size → cutP s f b = some ps → ∀ p ∈ ps, p < s.size ∧ (wordV (rst s p)).ok = true
  | 0, b, ps, hb, h => by cases h
  | f + 1, b, ps, hb, h => by
    have hq := gapA_le s b hb
    cases h1 : (gapA s b).2
    · rw [cutP_bad h1] at h; cases h
    · by_cases he : (gapA s b).1 = s.size
      · rw [cutP_end h1 he] at h; cases h; intro p hp; cases hp
      · cases h2 : (wordV (rst s (gapA s b).1)).ok
        · rw [cutP_no h1 he h2] at h; cases h
        · have hw := word_at s (gapA s b).1 (by omega) h2
          rw [cutP_go h1 he h2] at h
          obtain ⟨qs, h3, rfl⟩ := Option.map_eq_some_iff.1 h
          intro p hp
          rcases List.mem_cons.1 hp with rfl | hp
          · exact ⟨by omega, h2⟩
          · exact cutP_mem s f _ qs hw.2.1 h3 p hp
end Go.Proofs.YtbefahknbdjnpaaGreatDoor
