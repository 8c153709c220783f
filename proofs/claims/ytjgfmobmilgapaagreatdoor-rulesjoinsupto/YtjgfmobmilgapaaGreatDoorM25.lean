/- Texts of this claim, one behind the other. -/
import Derived.Test.YtjgfmobmilgapaaGreatDoorM24
/- A word stays what it is, whatever stands behind it: plain mathematics. -/
namespace Go.Proofs.YtjgfmobmilgapaaGreatDoor
open Go.RowKit Go.Shelf
set_option linter.unusedVariables false
theorem scanTo_mem (p : Nat → Bool) (hi : Nat) : ∀ k n, hi ≤ n + k → ∀ j, n ≤ j → j < scanTo p hi n → p j = true ∧ j < hi
  | 0, n, h, j, h1, h2 => by rw [scanTo_end (by omega)] at h2; omega
  | k + 1, n, h, j, h1, h2 => by
    by_cases hn : n < hi
    · cases hp : p n with
      | true =>
        rw [scanTo_go hn hp] at h2
        by_cases e : j = n
        · subst e; exact ⟨hp, hn⟩
        · exact scanTo_mem p hi k (n + 1) (by omega) j (by omega) h2
      | false => rw [scanTo_no hp] at h2; omega
    · rw [scanTo_end hn] at h2; omega
theorem not_stk_in {c : Nat} (h : stkB c = false) : inNB c = false ∧ digB c = false ∧ hxB c = false := by
  refine ⟨?_, ?_, ?_⟩
  · cases q : inNB c
    · rfl
    · rw [stk_inN q] at h; cases h
  · cases q : digB c
    · rfl
    · rw [stk_dig q] at h; cases h
  · cases q : hxB c
    · rfl
    · rw [stk_hex q] at h; cases h
theorem edge_yes {u : ByteArray} {n : Nat} (h : n = u.size ∨ stkB (bt u n) = false) : edgeB u n = true := by
  unfold edgeB
  rcases h with h | h
  · rw [decide_eq_true h]; rfl
  · rw [h]; simp
theorem ext_pre_eq {t u : ByteArray} {n : Nat} (ht : n ≤ t.size) (hu : n ≤ u.size) (hb : ∀ i, i < n → bt u i = bt t i) : u.extract 0 n = t.extract 0 n := by
  refine ext_get _ _ (by rw [ByteArray.size_extract, ByteArray.size_extract]; omega) (fun j hj => ?_)
  rw [ByteArray.size_extract] at hj
  rw [bt_pre u n j (by omega) hu, bt_pre t n j (by omega) ht]
  exact hb j (by omega)
theorem wordV_sm {t : ByteArray} (h : smallB (bt t 0) = true) : wordV t = ⟨1, t.extract 0 (nameLen t), 0, 0, nameLen t, edgeB t (nameLen t)⟩ := by unfold wordV; rw [if_pos h]
theorem name_local {t u : ByteArray} (hs : smallB (bt t 0) = true) (ht : 0 < t.size) (hn : nameLen t ≤ u.size) (hb : ∀ i, i < nameLen t → bt u i = bt t i) (he : nameLen t = u.size ∨ stkB (bt u (nameLen t)) = false) : nameLen u = nameLen t := by
  have e1 : nameLen t = scanTo (fun n => inNB (bt t n)) (min t.size 32) 1 := by unfold nameLen; rw [if_neg (fun q => q.elim (by omega) (fun q => by rw [hs] at q; cases q))]
  have h1 : 1 ≤ nameLen t := by rw [e1]; exact (scanTo_le _ (by omega)).1
  have h32 := (nameLen_le t).2
  have hs2 : smallB (bt u 0) = true := by rw [hb 0 (by omega)]; exact hs
  have e2 : nameLen u = scanTo (fun n => inNB (bt u n)) (min u.size 32) 1 := by unfold nameLen; rw [if_neg (fun q => q.elim (by omega) (fun q => by rw [hs2] at q; cases q))]
  have hm : ∀ j, 1 ≤ j → j < nameLen t → inNB (bt u j) = true := fun j h2 h3 => by
    rw [hb j h3]
    rw [e1] at h3
    exact (scanTo_mem (fun n => inNB (bt t n)) (min t.size 32) (min t.size 32) 1 (by omega) j h2 h3).1
  rw [e2, scanTo_all (p := fun n => inNB (bt u n)) (hi := min u.size 32) (m := nameLen t) (nameLen t - 1) 1 (by omega) (by omega) hm]
  by_cases hl : nameLen t < min u.size 32
  · refine scanTo_no (p := fun n => inNB (bt u n)) ?_
    rcases he with he | he
    · omega
    · exact (not_stk_in he).1
  · exact scanTo_end hl
theorem num_local {t u : ByteArray} {V n : Nat} (hn : n ≤ u.size) (hb : ∀ i, i < n → bt u i = bt t i) (he : n = u.size ∨ stkB (bt u n) = false) : ∀ f v k, t.size ≤ k + f → k ≤ t.size → numGo t v k = (V, n) → numGo u v k = (V, n)
  | 0, v, k, h, hk, hg => by
    rw [numGo_stop (by omega), Prod.mk.injEq] at hg
    rw [numGo_stop, hg.1, hg.2]
    rw [hg.2]
    rcases he with he | he
    · omega
    · intro q; rw [(not_stk_in he).2.1] at q; cases q.2.1
  | f + 1, v, k, h, hk, hg => by
    by_cases hc : k < t.size ∧ digB (bt t k) = true ∧ 0 < v ∧ v * 10 + (bt t k - 48) ≤ 65535
    · rw [numGo_go hc.1 hc.2.1 hc.2.2.1 hc.2.2.2] at hg
      have hle := (numGo_le t t.size (v * 10 + (bt t k - 48)) (k + 1) (by omega) (by omega)).1
      rw [hg] at hle
      have hkn : k < n := hle
      rw [numGo_go (by omega) (by rw [hb k hkn]; exact hc.2.1) hc.2.2.1 (by rw [hb k hkn]; exact hc.2.2.2), hb k hkn]
      exact num_local hn hb he f _ (k + 1) (by omega) (by omega) hg
    · rw [numGo_stop hc, Prod.mk.injEq] at hg
      rw [numGo_stop, hg.1, hg.2]
      rw [hg.2]
      rcases he with he | he
      · omega
      · intro q; rw [(not_stk_in he).2.1] at q; cases q.2.1
theorem numd_local {t u : ByteArray} {V n : Nat} (h3 : 3 ≤ n) (hn : n ≤ u.size) (hb : ∀ i, i < n → bt u i = bt t i) (he : n = u.size ∨ stkB (bt u n) = false) : ∀ f v k, t.size ≤ k + f → k ≤ t.size → numdGo t v k = (V, n) → numdGo u v k = (V, n)
  | 0, v, k, h, hk, hg => by
    rw [numdGo_stop (by omega), Prod.mk.injEq] at hg
    rw [numdGo_stop, hg.1, hg.2]
    rw [hg.2]
    rcases he with he | he
    · omega
    · intro q; have := hxB_hexI.2 q.2.2.1; rw [(not_stk_in he).2.2] at this; cases this
  | f + 1, v, k, h, hk, hg => by
    by_cases hc : k < t.size ∧ (k < 6 ∨ bt t 2 ≠ 48) ∧ 0 ≤ hexI (bt t k) ∧ v * 16 + (hexI (bt t k)).toNat ≤ 1114111
    · rw [numdGo_go hc] at hg
      have hle := (numdGo_le t t.size (v * 16 + (hexI (bt t k)).toNat) (k + 1) (by omega) (by omega)).1
      rw [hg] at hle
      have hkn : k < n := hle
      have hc2 : k < u.size ∧ (k < 6 ∨ bt u 2 ≠ 48) ∧ 0 ≤ hexI (bt u k) ∧ v * 16 + (hexI (bt u k)).toNat ≤ 1114111 := ⟨by omega, by rw [hb 2 (by omega)]; exact hc.2.1, by rw [hb k hkn]; exact hc.2.2.1, by rw [hb k hkn]; exact hc.2.2.2⟩
      rw [numdGo_go hc2, hb k hkn]
      exact numd_local h3 hn hb he f _ (k + 1) (by omega) (by omega) hg
    · rw [numdGo_stop hc, Prod.mk.injEq] at hg
      rw [numdGo_stop, hg.1, hg.2]
      rw [hg.2]
      rcases he with he | he
      · omega
      · intro q; have := hxB_hexI.2 q.2.2.1; rw [(not_stk_in he).2.2] at this; cases this
theorem dots_mk (t : ByteArray) (h : 2 ≤ t.size) (h0 : bt t 0 = 46) (h1 : bt t 1 = 46) : dotsB t = true := by
  unfold dotsB Lib.hasPrefix
  rw [List.isPrefixOf_iff_prefix]
  have e : t.data.toList = [t.get! 0, t.get! 1] ++ t.data.toList.drop 2 := by
    rw [show t.data.toList = t.data.toList.drop 0 from rfl, drop_bt t 0 (by omega), drop_bt t 1 (by omega)]
    rfl
  have g0 : t.get! 0 = 46 := by rw [← UInt8.toNat_inj]; exact h0
  have g1 : t.get! 1 = 46 := by rw [← UInt8.toNat_inj]; exact h1
  rw [e, g0, g1]
  exact ⟨_, rfl⟩
theorem decode_same {t u : ByteArray} {m : Nat} (hm : wd t 0 ≤ m) (ht : m ≤ t.size) (hu : m ≤ u.size) (h0 : 0 < m) (hb : ∀ i, i < m → bt u i = bt t i) (hg : ¬ (rn t 0 = 65533 ∧ wd t 0 = 1)) : Utf8.decode u 0 = Utf8.decode t 0 := by
  have e := ext_pre_eq ht hu hb
  have hz : (t.extract 0 m).size = m := by rw [ByteArray.size_extract]; omega
  have h1 := decode_part (t.extract 0 m) (t.extract m t.size) 0 (by omega) (by rw [cat_split t m ht, hz]; omega)
  rw [cat_split t m ht] at h1
  have h2 := decode_grow (u.extract 0 m) (u.extract m u.size) 0 (by rw [e]; omega) (by rw [e]; unfold rn wd; rw [h1]; exact hg)
  rw [cat_split u m hu] at h2
  rw [h2, e, h1]
theorem quo_local {t u : ByteArray} (ht : 0 < t.size) (ho : (quoV t).2.2 = true) (hn : (quoV t).2.1 ≤ u.size) (hb : ∀ i, i < (quoV t).2.1 → bt u i = bt t i) : quoV u = quoV t := by
  have hle := quoV_le t ht
  unfold quoV at ho
  split at ho
  · cases ho
  · rename_i h1
    split at ho
    · cases ho
    · rename_i h2
      split at ho
      · cases ho
      · rename_i h3
        split at ho
        · cases ho
        · rename_i h4
          split at ho
          · rename_i h5
            have ev : quoV t = (rn (tl1 t) 0, wd (tl1 t) 0 + 2, true) := by unfold quoV; rw [if_neg h1, if_neg h2, if_neg h3, if_neg h4, if_pos h5]
            rw [ev] at hn hb hle ⊢
            have hn' : wd (tl1 t) 0 + 2 ≤ u.size := hn
            have hb' : ∀ i, i < wd (tl1 t) 0 + 2 → bt u i = bt t i := hb
            have hle' : wd (tl1 t) 0 + 2 ≤ t.size := hle.2
            have zt := tl1_size t
            have zu := tl1_size u
            have hp := wd_pos (tl1 t) 0
            have hbt : ∀ i, i < wd (tl1 t) 0 + 1 → bt (tl1 u) i = bt (tl1 t) i := fun i hi => by
              rw [tl1_bt u i (by omega), tl1_bt t i (by omega)]
              exact hb' (1 + i) (by omega)
            have hwb : wholeB (tl1 t) = true := Bool.eq_false_or_eq_true _ |>.resolve_right h3
            have hg : ¬ (rn (tl1 t) 0 = 65533 ∧ wd (tl1 t) 0 = 1) := by
              unfold wholeB badB at hwb
              simp at hwb
              intro q
              rcases hwb.2 with h | h
              · exact h q.1
              · exact h q.2
            have hd := decode_same (t := tl1 t) (u := tl1 u) (m := wd (tl1 t) 0 + 1) (by omega) (by omega) (by omega) (by omega) hbt hg
            have r0 : rn (tl1 u) 0 = rn (tl1 t) 0 := by unfold rn; rw [hd]
            have w0 : wd (tl1 u) 0 = wd (tl1 t) 0 := by unfold wd; rw [hd]
            have hwu : wholeB (tl1 u) = true := by
              unfold wholeB badB
              rw [r0, w0, decide_eq_true (by omega), decide_eq_false hg]
              rfl
            have h5u : rn (tl1 u) (wd (tl1 u) 0) = 39 := by
              rw [rn_39, w0, hbt _ (by omega), ← rn_39]
              exact h5
            unfold quoV
            rw [if_neg (by omega), r0, if_neg h2, hwu, if_neg (by decide), if_neg (by rw [w0]; omega), if_pos h5u, w0]
          · cases ho
theorem sgn_local {t u : ByteArray} (ht : 0 < t.size) (ho : (sgnV t).2.2 = true) (hn : (sgnV t).2.1 ≤ u.size) (hb : ∀ i, i < (sgnV t).2.1 → bt u i = bt t i) : sgnV u = sgnV t := by
  have h1 := (sgnV_le t ht).2 ho
  have h0 : bt u 0 = bt t 0 := hb 0 (by omega)
  by_cases hd : bt t 0 = 46
  · have hdt : dotsB t = true := by
      cases q : dotsB t
      · unfold sgnV at ho
        rw [hd, q] at ho
        cases ho
      · rfl
    have ev : sgnV t = (9, 2, true) := by
      unfold sgnV
      rw [hd, hdt]
      rfl
    rw [ev] at hn hb ⊢
    have hn' : 2 ≤ u.size := hn
    have hdu : dotsB u = true := dots_mk u hn' (by rw [h0]; exact hd) (by rw [hb 1 (by show 1 < 2; omega)]; exact dots_bt t hdt)
    unfold sgnV
    rw [h0, hd, hdu]
    rfl
  · unfold sgnV
    rw [h0]
    simp only [if_neg hd]
theorem word_local {t u : ByteArray} (ht : 0 < t.size) (ho : (wordV t).ok = true) (hn : (wordV t).n ≤ u.size) (hb : ∀ i, i < (wordV t).n → bt u i = bt t i) (he : (smallB (bt t 0) = true ∨ digB (bt t 0) = true ∨ bt t 0 = 85) → (wordV t).n = u.size ∨ stkB (bt u (wordV t).n) = false) : wordV u = wordV t := by
  have hpos := (wordV_le t ht).2 ho
  have hle := (wordV_le t ht).1
  have h0 : bt u 0 = bt t 0 := hb 0 (by omega)
  by_cases hs : smallB (bt t 0) = true
  · have ev := wordV_sm hs
    have he' := he (.inl hs)
    rw [ev] at hn hb he' hle ho ⊢
    simp only at hn hb he' hle ho
    have hnl := name_local hs ht hn hb he'
    rw [wordV_sm (t := u) (by rw [h0]; exact hs), hnl, edge_yes he', ext_pre_eq hle hn hb, ho]
  · by_cases hd : digB (bt t 0) = true
    · have ev : wordV t = ⟨2, ByteArray.empty, 0, (numV t).1, (numV t).2, edgeB t (numV t).2⟩ := by unfold wordV; rw [if_neg hs, if_pos hd]
      have eu : wordV u = ⟨2, ByteArray.empty, 0, (numV u).1, (numV u).2, edgeB u (numV u).2⟩ := by unfold wordV; rw [h0, if_neg hs, if_pos hd]
      have he' := he (.inr (.inl hd))
      rw [ev] at hn hb he' hle ho
      simp only at hn hb he' hle ho
      have hnv : numV u = numV t := by
        have := num_local (V := (numV t).1) (n := (numV t).2) hn hb he' t.size (bt t 0 - 48) 1 (by omega) (by omega) rfl
        unfold numV
        rw [h0]
        exact this
      rw [eu, ev, hnv, ho, edge_yes he']
    · by_cases hu : bt t 0 = 85
      · have ev : wordV t = ⟨3, ByteArray.empty, (numdV t).1, 0, (numdV t).2.1, (numdV t).2.2 && edgeB t (numdV t).2.1⟩ := by unfold wordV; rw [if_neg hs, if_neg hd, if_pos hu]
        have eu : wordV u = ⟨3, ByteArray.empty, (numdV u).1, 0, (numdV u).2.1, (numdV u).2.2 && edgeB u (numdV u).2.1⟩ := by unfold wordV; rw [h0, if_neg hs, if_neg hd, if_pos hu]
        have he' := he (.inr (.inr hu))
        rw [ev] at hn hb he' hle ho
        simp only at hn hb he' hle ho
        have ho2 := (Bool.and_eq_true _ _).mp ho
        have hnv : numdV u = numdV t := by
          have hok := ho2.1
          unfold numdV at hok
          split at hok
          · cases hok
          · rename_i g1
            split at hok
            · cases hok
            · rename_i g2
              have evd : numdV t = ((numdGo t 0 2).1, (numdGo t 0 2).2, true) := by unfold numdV; rw [if_neg g1, if_neg g2]
              rw [evd] at hn hb he' ⊢
              simp only at hn hb he'
              have hg := numd_local (V := (numdGo t 0 2).1) (n := (numdGo t 0 2).2) (by omega) hn hb he' t.size 0 2 (by omega) (by omega) rfl
              have h1 := hb 1 (by omega)
              unfold numdV
              rw [hg, h1, if_neg (fun q => q.elim (fun q => by omega) (fun q => g1 (.inr q))), if_neg g2]
        rw [eu, ev, hnv, ho, ho2.1, edge_yes he']
        rfl
      · by_cases hq : bt t 0 = 39
        · have ev : wordV t = ⟨3, ByteArray.empty, (quoV t).1, 0, (quoV t).2.1, (quoV t).2.2⟩ := by unfold wordV; rw [if_neg hs, if_neg hd, if_neg hu, if_pos hq]
          have eu : wordV u = ⟨3, ByteArray.empty, (quoV u).1, 0, (quoV u).2.1, (quoV u).2.2⟩ := by unfold wordV; rw [h0, if_neg hs, if_neg hd, if_neg hu, if_pos hq]
          rw [ev] at hn hb ho
          rw [eu, ev, quo_local ht ho hn hb]
        · have ev : wordV t = ⟨(sgnV t).1, ByteArray.empty, 0, 0, (sgnV t).2.1, (sgnV t).2.2⟩ := by unfold wordV; rw [if_neg hs, if_neg hd, if_neg hu, if_neg hq]
          have eu : wordV u = ⟨(sgnV u).1, ByteArray.empty, 0, 0, (sgnV u).2.1, (sgnV u).2.2⟩ := by unfold wordV; rw [h0, if_neg hs, if_neg hd, if_neg hu, if_neg hq]
          rw [ev] at hn hb ho
          rw [eu, ev, sgn_local ht ho hn hb]
theorem scanTo_agree {q q' : Nat → Bool} {m hi hi' : Nat} (hq : ∀ j, j < m → q' j = q j) (h1 : m ≤ hi) (h2 : m ≤ hi') (e1 : m = hi ∨ q m = false) (e2 : m = hi' ∨ q' m = false) : ∀ k n, m = n + k → scanTo q' hi' n = scanTo q hi n
  | 0, n, h => by
    obtain rfl : m = n := by omega
    have a1 : scanTo q hi m = m := by
      rcases e1 with e | e
      · exact scanTo_end (by omega)
      · exact scanTo_no e
    have a2 : scanTo q' hi' m = m := by
      rcases e2 with e | e
      · exact scanTo_end (by omega)
      · exact scanTo_no e
    rw [a1, a2]
  | k + 1, n, h => by
    cases hp : q n with
    | true => rw [scanTo_go (by omega) hp, scanTo_go (p := q') (by omega) (by rw [hq n (by omega)]; exact hp)]; exact scanTo_agree hq h1 h2 e1 e2 k (n + 1) (by omega)
    | false => rw [scanTo_no hp, scanTo_no (p := q') (by rw [hq n (by omega)]; exact hp)]
theorem rem_agree {t u : ByteArray} {m : Nat} (ht : m ≤ t.size) (hu : m ≤ u.size) (hb : ∀ j, j < m → bt u j = bt t j) (e1 : m = t.size ∨ bt t m = 10) (e2 : m = u.size ∨ bt u m = 10) : remV u = remV t := by
  have hn : nlAt u = nlAt t := by
    unfold nlAt
    exact scanTo_agree (q := fun n => !decide (bt t n = 10)) (q' := fun n => !decide (bt u n = 10)) (m := m) (fun j hj => by rw [hb j hj]) ht hu (e1.imp id (fun h => by rw [h]; rfl)) (e2.imp id (fun h => by rw [h]; rfl)) m 0 (by omega)
  have hnm : nlAt t ≤ m := by
    unfold nlAt
    rcases Nat.lt_or_ge m (scanTo (fun n => !decide (bt t n = 10)) t.size 0) with q | q
    · have := scanTo_mem (fun n => !decide (bt t n = 10)) t.size t.size 0 (by omega) m (by omega) q
      rcases e1 with e | e
      · omega
      · rw [e] at this; cases this.1
    · exact q
  have hx : u.extract 0 (nlAt u) = t.extract 0 (nlAt t) := by
    rw [hn]
    exact ext_pre_eq (by omega) (by omega) (fun i hi => hb i (by omega))
  unfold remV
  rw [hx]
def mkW (s : ByteArray) (q : Nat) : Wd := ⟨wordV (rst s q), q, (lcAt s q).1, (lcAt s q).2, q + (wordV (rst s q)).n⟩
def cutP (s : ByteArray) : Nat → Nat → Option (List Nat)
  | 0, _ => none
  | f + 1, b => if (gapA s b).2 = false then none else if (gapA s b).1 = s.size then some [] else if (wordV (rst s (gapA s b).1)).ok = false then none
    else (cutP s f ((gapA s b).1 + (wordV (rst s (gapA s b).1)).n)).map ((gapA s b).1 :: ·)
theorem cutP_bad {s : ByteArray} {f b : Nat} (h : (gapA s b).2 = false) : cutP s (f + 1) b = none := by rw [cutP, if_pos h]
theorem cutP_end {s : ByteArray} {f b : Nat} (h : (gapA s b).2 = true) (he : (gapA s b).1 = s.size) : cutP s (f + 1) b = some [] := by rw [cutP, if_neg (by rw [h]; decide), if_pos he]
theorem cutP_no {s : ByteArray} {f b : Nat} (h : (gapA s b).2 = true) (he : (gapA s b).1 ≠ s.size) (ho : (wordV (rst s (gapA s b).1)).ok = false) : cutP s (f + 1) b = none := by rw [cutP, if_neg (by rw [h]; decide), if_neg he, if_pos ho]
theorem cutP_go {s : ByteArray} {f b : Nat} (h : (gapA s b).2 = true) (he : (gapA s b).1 ≠ s.size) (ho : (wordV (rst s (gapA s b).1)).ok = true) : cutP s (f + 1) b = (cutP s f ((gapA s b).1 + (wordV (rst s (gapA s b).1)).n)).map ((gapA s b).1 :: ·) := by rw [cutP, if_neg (by rw [h]; decide), if_neg he, if_neg (by rw [ho]; decide)]
theorem gapA_le (s : ByteArray) (b : Nat) (h : b ≤ s.size) : b ≤ (gapA s b).1 ∧ (gapA s b).1 ≤ s.size := gB_le s b h
theorem word_at (s : ByteArray) (q : Nat) (hq : q < s.size) (ho : (wordV (rst s q)).ok = true) : 1 ≤ (wordV (rst s q)).n ∧ q + (wordV (rst s q)).n ≤ s.size ∧ bdB s q = true ∧ bdB s (q + (wordV (rst s q)).n) = true ∧ blankB (bt s q) = false ∧ bt s q ≠ 35 := by
  have hp : 0 < (rst s q).size := by rw [rst_size]; omega
  have hle := wordV_le (rst s q) hp
  rw [rst_size] at hle
  have hn := hle.2 ho
  have e0 : bt (rst s q) 0 = bt s q := rst_at s q 0 (by omega)
  have hf := word_first _ ho
  rw [e0] at hf
  have hl := word_last _ hp ho
  rw [rst_at s q _ (by omega)] at hl
  have hnx : bdB s (q + (wordV (rst s q)).n) = true := by
    have := bd_next s (q + ((wordV (rst s q)).n - 1)) (by omega) hl
    rwa [show q + ((wordV (rst s q)).n - 1) + 1 = q + (wordV (rst s q)).n by omega] at this
  have hbl : ¬ (blankB (bt s q) = true ∨ bt s q = 35) := by
    intro h
    have hc : bt (rst s q) 0 = 9 ∨ bt (rst s q) 0 = 10 ∨ bt (rst s q) 0 = 13 ∨ bt (rst s q) 0 = 32 ∨ bt (rst s q) 0 = 35 := by
      rw [e0]
      unfold blankB at h
      simp at h
      omega
    have : (wordV (rst s q)).ok = false := by
      unfold wordV sgnV
      rcases hc with h | h | h | h | h <;> (rw [h]; rfl)
    rw [this] at ho
    cases ho
  refine ⟨hn, by omega, bd_ascii s q hf, hnx, ?_, fun h => hbl (.inr h)⟩
  cases hb : blankB (bt s q)
  · rfl
  · exact absurd (.inl hb) hbl
theorem cut_P (s : ByteArray) : ∀ f b ws, b ≤ s.size → bdB s b = true → (∀ ps, cutP s f b = some ps → (cutGo s f b (lcAt s b) ws).ok = true ∧ (cutGo s f b (lcAt s b) ws).ws = ws ++ ps.map (mkW s)) ∧ (cutP s f b = none → (cutGo s f b (lcAt s b) ws).ok = false)
  | 0, b, ws, hb, hd => ⟨fun ps h => by (cases h), fun _ => rfl⟩
  | f + 1, b, ws, hb, hd => by
    have hg := gapA_le s b hb
    have hgl : gLC s b (lcAt s b) = lcAt s (gB s b) := by
      unfold gLC
      rw [lcB_at s b _ (by have := hg.2; exact this) hd]
      rfl
    cases h1 : (gapA s b).2
    · have h1' : (gapV (rst s b)).2 = false := h1
      rw [cutP_bad h1]
      unfold cutGo
      rw [if_pos h1']
      exact ⟨fun ps h => by (cases h), fun _ => rfl⟩
    · have h1' : ¬ (gapV (rst s b)).2 = false := by rw [show (gapV (rst s b)).2 = true from h1]; decide
      by_cases he : (gapA s b).1 = s.size
      · rw [cutP_end h1 he]
        have he' : (rst s (gB s b)).size = 0 := by rw [rst_size]; have : gB s b = s.size := he; omega
        unfold cutGo
        rw [if_neg h1', if_pos he']
        exact ⟨fun ps h => by cases h; exact ⟨rfl, by simp⟩, fun h => by cases h⟩
      · have hq : gB s b < s.size := by have h9 : gB s b ≠ s.size := he; have h8 : gB s b ≤ s.size := hg.2; omega
        have he' : ¬ (rst s (gB s b)).size = 0 := by rw [rst_size]; omega
        cases h2 : (wordV (rst s (gapA s b).1)).ok
        · have h2' : (wordV (rst s (gB s b))).ok = false := h2
          rw [cutP_no h1 he h2]
          unfold cutGo
          rw [if_neg h1', if_neg he', if_pos h2']
          exact ⟨fun ps h => by (cases h), fun _ => rfl⟩
        · have h2' : (wordV (rst s (gB s b))).ok = true := h2
          obtain ⟨hn, hle, hbq, hbn, _, _⟩ := word_at s (gB s b) hq h2'
          have ih := cut_P s f (gB s b + (wordV (rst s (gB s b))).n) (ws ++ [mkW s (gB s b)]) hle hbn
          have e : cutGo s (f + 1) b (lcAt s b) ws = cutGo s f (gB s b + (wordV (rst s (gB s b))).n) (lcAt s (gB s b + (wordV (rst s (gB s b))).n)) (ws ++ [mkW s (gB s b)]) := by
            conv => lhs; unfold cutGo
            rw [if_neg h1', if_neg he', if_neg (by rw [h2']; decide), hgl, lcB_at s _ _ hle hbq]
            rfl
          rw [e, cutP_go h1 he h2]
          refine ⟨fun ps h => ?_, fun h => ?_⟩
          · obtain ⟨qs, h3, rfl⟩ := Option.map_eq_some_iff.1 h
            obtain ⟨i1, i2⟩ := ih.1 qs h3
            refine ⟨i1, ?_⟩
            rw [i2, List.append_assoc]
            rfl
          · exact ih.2 (Option.map_eq_none_iff.1 h)
theorem cutP_fuel (s : ByteArray) : ∀ f g b, b ≤ s.size → s.size < b + f → s.size < b + g → cutP s f b = cutP s g b
  | 0, g, b, hb, hf, hg => by omega
  | f + 1, 0, b, hb, hf, hg => by omega
  | f + 1, g + 1, b, hb, hf, hg => by
    have hq := gapA_le s b hb
    cases h1 : (gapA s b).2
    · rw [cutP_bad h1, cutP_bad h1]
    · by_cases he : (gapA s b).1 = s.size
      · rw [cutP_end h1 he, cutP_end h1 he]
      · cases h2 : (wordV (rst s (gapA s b).1)).ok
        · rw [cutP_no h1 he h2, cutP_no h1 he h2]
        · have hw := word_at s (gapA s b).1 (by omega) h2
          rw [cutP_go h1 he h2, cutP_go h1 he h2, cutP_fuel s f g _ hw.2.1 (by omega) (by omega)]
def posV (s : ByteArray) : Option (List Nat) := cutP s (s.size + 1) 0
theorem words_pos {s : ByteArray} {ps : List Nat} (h : posV s = some ps) : (wordsV s).ok = true ∧ (wordsV s).ws = ps.map (mkW s) := by
  have := (cut_P s (s.size + 1) 0 [] (Nat.zero_le _) (bd_zero s)).1 ps h
  rw [lcAt_zero] at this
  simpa [wordsV] using this
theorem words_none {s : ByteArray} (h : posV s = none) : (wordsV s).ok = false := by
  have := (cut_P s (s.size + 1) 0 [] (Nat.zero_le _) (bd_zero s)).2 h
  rw [lcAt_zero] at this
  exact this
theorem cutP_mem (s : ByteArray) : ∀ f b ps, b ≤ s.size → cutP s f b = some ps → ∀ p ∈ ps, p < s.size ∧ (wordV (rst s p)).ok = true
  | 0, b, ps, hb, h => by cases h
  | f + 1, b, ps, hb, h => by
    have hq := gapA_le s b hb
    cases h1 : (gapA s b).2
    · rw [cutP_bad h1] at h; cases h
    · by_cases he : (gapA s b).1 = s.size
      · rw [cutP_end h1 he] at h; cases h; intro p hp; cases hp
      · cases h2 : (wordV (rst s (gapA s b).1)).ok
        · rw [cutP_no h1 he h2] at h; cases h
        · have hw := word_at s (gapA s b).1 (by omega) h2
          rw [cutP_go h1 he h2] at h
          obtain ⟨qs, h3, rfl⟩ := Option.map_eq_some_iff.1 h
          intro p hp
          rcases List.mem_cons.1 hp with rfl | hp
          · exact ⟨by omega, h2⟩
          · exact cutP_mem s f _ qs hw.2.1 h3 p hp
def joinT (a b : ByteArray) : ByteArray := a ++ ⟨#[10]⟩ ++ b
theorem joinT_size (a b : ByteArray) : (joinT a b).size = a.size + 1 + b.size := by unfold joinT; rw [ByteArray.size_append, ByteArray.size_append]; rfl
theorem joinT_left (a b : ByteArray) (i : Nat) (h : i < a.size) : bt (joinT a b) i = bt a i := by
  unfold joinT bt
  rw [get_append, if_pos (by rw [ByteArray.size_append]; omega), get_append, if_pos h]
theorem joinT_mid (a b : ByteArray) : bt (joinT a b) a.size = 10 := by
  unfold joinT bt
  rw [get_append, if_pos (by rw [ByteArray.size_append]; show a.size < a.size + 1; omega), get_append, if_neg (by omega), Nat.sub_self]
  rfl
theorem joinT_right (a b : ByteArray) (i : Nat) : bt (joinT a b) (a.size + 1 + i) = bt b i := by
  unfold joinT bt
  have hz : (a ++ (⟨#[10]⟩ : ByteArray)).size = a.size + 1 := by rw [ByteArray.size_append]; rfl
  rw [get_append, if_neg (by omega), hz, Nat.add_sub_cancel_left]
theorem joinT_rst (a b : ByteArray) (q : Nat) (hq : q ≤ b.size) : rst (joinT a b) (a.size + 1 + q) = rst b q := by
  have hz := joinT_size a b
  refine ext_get _ _ (by rw [rst_size, rst_size]; omega) (fun j hj => ?_)
  rw [rst_at _ _ _ (by omega), rst_at _ _ _ hq, Nat.add_assoc, joinT_right]
theorem joinT_pre (a b : ByteArray) (p : Nat) (hp : p ≤ a.size) : (joinT a b).extract 0 p = a.extract 0 p :=
  ext_pre_eq hp (by rw [joinT_size]; omega) (fun i hi => joinT_left a b i (by omega))
theorem joinT_lc (a b : ByteArray) (p : Nat) (hp : p ≤ a.size) : lcAt (joinT a b) p = lcAt a p := by unfold lcAt; rw [joinT_pre a b p hp]
theorem rem_join (a b : ByteArray) (p : Nat) (hp : p ≤ a.size) : remV (rst (joinT a b) p) = remV (rst a p) := by
  have hz := joinT_size a b
  refine rem_agree (m := a.size - p) (by rw [rst_size]; omega) (by rw [rst_size]; omega) (fun j hj => ?_) (.inl (by rw [rst_size])) (.inr ?_)
  · rw [rst_at _ _ _ (by omega), rst_at _ _ _ hp, joinT_left a b _ (by omega)]
  · rw [rst_at _ _ _ (by omega), show p + (a.size - p) = a.size by omega, joinT_mid]
theorem gap_mid (a b : ByteArray) : gapA (joinT a b) a.size = gapA (joinT a b) (a.size + 1) := gapA_blank _ _ (by rw [joinT_size]; omega) (by rw [joinT_mid]; rfl)
theorem gap_join (a b : ByteArray) : ∀ k p q, a.size ≤ p + k → p ≤ a.size → gapA a p = (q, true) → (q < a.size → gapA (joinT a b) p = (q, true)) ∧ (q = a.size → gapA (joinT a b) p = gapA (joinT a b) (a.size + 1))
  | 0, p, q, h, hp, hg => by
    obtain rfl : p = a.size := by omega
    have := (gapA_le a a.size (Nat.le_refl _)).1
    rw [hg] at this
    have h9 : a.size ≤ q := this
    exact ⟨fun h => by omega, fun _ => gap_mid a b⟩
  | k + 1, p, q, h, hp, hg => by
    by_cases he : p = a.size
    · subst he
      have := (gapA_le a a.size (Nat.le_refl _)).1
      rw [hg] at this
      have h9 : a.size ≤ q := this
      exact ⟨fun h => by omega, fun _ => gap_mid a b⟩
    · have hlt : p < a.size := by omega
      have hls : p < (joinT a b).size := by rw [joinT_size]; omega
      have hbt := joinT_left a b p hlt
      cases hb : blankB (bt a p)
      · by_cases hr : bt a p = 35
        · rw [gapA_sharp a p hlt hr] at hg
          rw [gapA_sharp (joinT a b) p hls (by rw [hbt]; exact hr), rem_join a b p hp]
          by_cases ho : (remV (rst a p)).2 = true
          · rw [if_pos ho] at hg ⊢
            have hz : 0 < (rst a p).size := by rw [rst_size]; omega
            have h0 : bt (rst a p) 0 = 35 := by rw [rst_at a p 0 hp]; exact hr
            have hm := remV_pos2 (rst a p) hz (by rw [h0]; decide) ho
            rw [rst_size] at hm
            exact gap_join a b k _ q (by omega) (by omega) hg
          · rw [if_neg ho, Prod.mk.injEq] at hg
            cases hg.2
        · rw [gapA_stop a p hlt hb hr, Prod.mk.injEq] at hg
          obtain ⟨rfl, _⟩ := hg
          exact ⟨fun _ => gapA_stop _ _ hls (by rw [hbt]; exact hb) (by rw [hbt]; exact hr), fun h => by omega⟩
      · rw [gapA_blank a p hlt hb] at hg
        rw [gapA_blank (joinT a b) p hls (by rw [hbt]; exact hb)]
        exact gap_join a b k (p + 1) q (by omega) (by omega) hg
theorem word_edge {t : ByteArray} (ho : (wordV t).ok = true) (hc : smallB (bt t 0) = true ∨ digB (bt t 0) = true ∨ bt t 0 = 85) : edgeB t (wordV t).n = true := by
  unfold wordV at ho ⊢
  split at ho
  · rename_i hs; rw [if_pos hs]; exact ho
  · rename_i hs
    rw [if_neg hs]
    split at ho
    · rename_i hd; rw [if_pos hd]; exact ho
    · rename_i hd
      rw [if_neg hd]
      split at ho
      · rename_i hu; rw [if_pos hu]; exact ((Bool.and_eq_true _ _).mp ho).2
      · rename_i hu
        rcases hc with h | h | h
        · exact absurd h hs
        · exact absurd h hd
        · exact absurd h hu
theorem word_join (a b : ByteArray) (p : Nat) (hp : p < a.size) (ho : (wordV (rst a p)).ok = true) : wordV (rst (joinT a b) p) = wordV (rst a p) := by
  have hz := joinT_size a b
  have hw := word_at a p hp ho
  refine word_local (by rw [rst_size]; omega) ho (by rw [rst_size]; omega) (fun i hi => ?_) (fun hc => ?_)
  · rw [rst_at _ _ _ (by omega), rst_at _ _ _ (by omega), joinT_left a b _ (by omega)]
  · right
    rw [rst_at _ _ _ (by omega)]
    have he := word_edge ho hc
    unfold edgeB at he
    rw [rst_size, rst_at _ _ _ (by omega)] at he
    by_cases e : p + (wordV (rst a p)).n = a.size
    · rw [e, joinT_mid]; rfl
    · rw [joinT_left a b _ (by omega)]
      rw [decide_eq_false (by omega), Bool.false_or] at he
      simpa using he
theorem cutP_same {s : ByteArray} {f b c : Nat} (h : gapA s b = gapA s c) : cutP s (f + 1) b = cutP s (f + 1) c := by rw [cutP, cutP, h]
theorem cutP_left (a b : ByteArray) : ∀ f p ps, p ≤ a.size → cutP a f p = some ps → ∀ g, (joinT a b).size < a.size + 1 + g → cutP (joinT a b) (f + g) p = (cutP (joinT a b) g (a.size + 1)).map (ps ++ ·)
  | 0, p, ps, hp, h, g, hg => by cases h
  | f + 1, p, ps, hp, h, g, hg => by
    have hz := joinT_size a b
    have hq := gapA_le a p hp
    cases h1 : (gapA a p).2
    · rw [cutP_bad h1] at h; cases h
    · have hj := gap_join a b a.size p (gapA a p).1 (by omega) hp (by rw [← h1])
      by_cases he : (gapA a p).1 = a.size
      · rw [cutP_end h1 he] at h
        cases h
        rw [show f + 1 + g = f + g + 1 by omega, cutP_same (hj.2 he), cutP_fuel (joinT a b) (f + g + 1) g _ (by omega) (by omega) hg]
        cases cutP (joinT a b) g (a.size + 1) <;> rfl
      · cases h2 : (wordV (rst a (gapA a p).1)).ok
        · rw [cutP_no h1 he h2] at h; cases h
        · rw [cutP_go h1 he h2] at h
          obtain ⟨qs, h3, rfl⟩ := Option.map_eq_some_iff.1 h
          have hlt : (gapA a p).1 < a.size := by omega
          have hw := word_at a _ hlt h2
          have hs := hj.1 hlt
          have hwj := word_join a b _ hlt h2
          have ih := cutP_left a b f _ qs hw.2.1 h3 g hg
          generalize (gapA a p).1 = q at *
          have hs1 : (gapA (joinT a b) p).1 = q := by rw [hs]
          have hs2 : (gapA (joinT a b) p).2 = true := by rw [hs]
          rw [show f + 1 + g = f + g + 1 by omega, cutP_go hs2 (by rw [hs1]; omega) (by rw [hs1, hwj]; exact h2), hs1, hwj, ih]
          cases cutP (joinT a b) g (a.size + 1) <;> rfl
theorem gap_right (a b : ByteArray) (q : Nat) (hq : q ≤ b.size) : gapA (joinT a b) (a.size + 1 + q) = (a.size + 1 + (gapA b q).1, (gapA b q).2) := by
  unfold gapA
  rw [joinT_rst a b q hq, Prod.mk.injEq]
  exact ⟨by show _ = a.size + 1 + (q + _); omega, rfl⟩
theorem cutP_right (a b : ByteArray) : ∀ f q, q ≤ b.size → cutP (joinT a b) f (a.size + 1 + q) = (cutP b f q).map (List.map (a.size + 1 + ·))
  | 0, q, hq => rfl
  | f + 1, q, hq => by
    have hz := joinT_size a b
    have hg := gap_right a b q hq
    have hg1 : (gapA (joinT a b) (a.size + 1 + q)).1 = a.size + 1 + (gapA b q).1 := by rw [hg]
    have hg2 : (gapA (joinT a b) (a.size + 1 + q)).2 = (gapA b q).2 := by rw [hg]
    have hle := gapA_le b q hq
    cases h1 : (gapA b q).2
    · rw [cutP_bad h1, cutP_bad (by rw [hg2]; exact h1)]; rfl
    · by_cases he : (gapA b q).1 = b.size
      · rw [cutP_end h1 he, cutP_end (by rw [hg2]; exact h1) (by rw [hg1]; omega)]; rfl
      · have hr := joinT_rst a b (gapA b q).1 hle.2
        cases h2 : (wordV (rst b (gapA b q).1)).ok
        · rw [cutP_no h1 he h2, cutP_no (by rw [hg2]; exact h1) (by rw [hg1]; omega) (by rw [hg1, hr]; exact h2)]; rfl
        · have hw := word_at b (gapA b q).1 (by omega) h2
          rw [cutP_go h1 he h2, cutP_go (by rw [hg2]; exact h1) (by rw [hg1]; omega) (by rw [hg1, hr]; exact h2), hg1, hr, Nat.add_assoc (a.size + 1), cutP_right a b f _ hw.2.1]
          cases cutP b f ((gapA b q).1 + (wordV (rst b (gapA b q).1)).n) <;> rfl
theorem pos_join {a b : ByteArray} {ps qs : List Nat} (ha : posV a = some ps) (hb : posV b = some qs) : posV (joinT a b) = some (ps ++ qs.map (a.size + 1 + ·)) := by
  have hz := joinT_size a b
  have h1 := cutP_left a b (a.size + 1) 0 ps (Nat.zero_le _) ha (b.size + 1) (by omega)
  have h2 := cutP_right a b (b.size + 1) 0 (Nat.zero_le _)
  rw [Nat.add_zero] at h2
  unfold posV
  rw [cutP_fuel (joinT a b) _ (a.size + 1 + (b.size + 1)) 0 (Nat.zero_le _) (by omega) (by omega), h1, h2, show cutP b (b.size + 1) 0 = some qs from hb]
  rfl
theorem lcR_shift (L : Nat) : ∀ (zs : List Int) (x c : Nat), lcR (x + L, c) zs = ((lcR (x, c) zs).1 + L, (lcR (x, c) zs).2)
  | [], x, c => rfl
  | z :: zs, x, c => by
    rw [lcR_cons, lcR_cons]
    by_cases h : z = 10
    · rw [if_pos h, if_pos h]
      show lcR (x + L + 1, 1) zs = _
      rw [show x + L + 1 = x + 1 + L by omega]
      exact lcR_shift L zs (x + 1) 1
    · rw [if_neg h, if_neg h]
      exact lcR_shift L zs x (c + 1)
theorem lc_right (a b : ByteArray) (q : Nat) (hq : q ≤ b.size) : lcAt (joinT a b) (a.size + 1 + q) = ((lcAt b q).1 + (lcAt a a.size).1, (lcAt b q).2) := by
  have hz := joinT_size a b
  have hb0 : bdB (joinT a b) a.size = true := bd_ascii _ _ (by rw [joinT_mid]; decide)
  have hw : wd (joinT a b) a.size = 1 := by
    rcases Nat.lt_or_ge (wd (joinT a b) a.size) 2 with h | h
    · have := wd_pos (joinT a b) a.size; omega
    · have := wd_lead (joinT a b) a.size h; rw [joinT_mid] at this; omega
  have hs := lcAt_step (joinT a b) a.size hb0 (by omega)
  rw [hw, if_pos (joinT_mid a b), joinT_lc a b a.size (Nat.le_refl _)] at hs
  have hb1 : bdB (joinT a b) (a.size + 1) = true := bd_next _ _ (by omega) (by rw [joinT_mid]; decide)
  have hon := lcR_on (joinT a b) (a.size + 1) (a.size + 1 + q) (1, 1) (by omega) (by omega) (bd_pre _ _ _ hb1 (by omega) (by omega))
  have hx : (joinT a b).extract (a.size + 1) (a.size + 1 + q) = b.extract 0 q := by
    refine ext_get _ _ (by rw [ByteArray.size_extract, ByteArray.size_extract]; omega) (fun j hj => ?_)
    rw [ByteArray.size_extract] at hj
    unfold bt
    rw [get_extract _ _ _ _ (by omega) (by omega), get_extract b 0 q j (by omega) hq, Nat.zero_add]
    exact joinT_right a b j
  show lcR (1, 1) (runesL ((joinT a b).extract 0 (a.size + 1 + q))) = _
  rw [hon, hx]
  show lcR (lcAt (joinT a b) (a.size + 1)) _ = _
  rw [hs, show ((lcAt a a.size).1 + 1, 1) = (1 + (lcAt a a.size).1, 1) by rw [Nat.add_comm]]
  exact lcR_shift _ _ 1 1
theorem mk_left {a b : ByteArray} {p : Nat} (hp : p < a.size) (ho : (wordV (rst a p)).ok = true) : mkW (joinT a b) p = mkW a p := by unfold mkW; rw [word_join a b p hp ho, joinT_lc a b p (by omega)]
theorem mk_right {a b : ByteArray} {q : Nat} (hq : q ≤ b.size) : mkW (joinT a b) (a.size + 1 + q) = ⟨(mkW b q).v, (mkW b q).b + a.size + 1, (mkW b q).l + (lcAt a a.size).1, (mkW b q).c, (mkW b q).e + a.size + 1⟩ := by
  unfold mkW
  rw [joinT_rst a b q hq, lc_right a b q hq]
  simp only [Wd.mk.injEq, true_and]
  omega
end Go.Proofs.YtjgfmobmilgapaaGreatDoor
