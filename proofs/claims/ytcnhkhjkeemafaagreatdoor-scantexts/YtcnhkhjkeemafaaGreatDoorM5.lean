/- Texts of this claim, one behind the other. -/
import Derived.Test.YtcnhkhjkeemafaaGreatDoorM4
import Derived.Test.YtcnhkhjkeemafaaGreatDoorM3
/- What stands ahead of a number's end: plain mathematics. -/
namespace Go.Proofs.YtcnhkhjkeemafaaGreatDoor
open Go.RowKit Go.Shelf
set_option linter.unusedVariables false
theorem numGo_prev (t : ByteArray) : ∀ f v k, t.size ≤ k + f → 1 ≤ k → digB (bt t (k - 1)) = true → digB (bt t ((numGo t v k).2 - 1)) = true
  | 0, v, k, h, h1, hd => by rw [numGo_stop (by omega)]; exact hd
  | f + 1, v, k, h, h1, hd => by
    by_cases hc : k < t.size ∧ digB (bt t k) = true ∧ 0 < v ∧ v * 10 + (bt t k - 48) ≤ 65535
    · rw [numGo_go hc.1 hc.2.1 hc.2.2.1 hc.2.2.2]
      exact numGo_prev t f _ (k + 1) (by omega) (by omega) hc.2.1
    · rw [numGo_stop hc]; exact hd
theorem numV_prev (t : ByteArray) (h : 0 < t.size) (hd : digB (bt t 0) = true) : digB (bt t ((numV t).2 - 1)) = true := numGo_prev t t.size _ 1 (by omega) (by omega) hd
theorem numdGo_prev (t : ByteArray) : ∀ f v k, t.size ≤ k + f → 1 ≤ k → (3 ≤ k → hxB (bt t (k - 1)) = true) → 3 ≤ (numdGo t v k).2 → hxB (bt t ((numdGo t v k).2 - 1)) = true
  | 0, v, k, h, h1, hd, h3 => by rw [numdGo_stop (by omega)] at h3 ⊢; exact hd h3
  | f + 1, v, k, h, h1, hd, h3 => by
    by_cases hc : k < t.size ∧ (k < 6 ∨ bt t 2 ≠ 48) ∧ 0 ≤ hexI (bt t k) ∧ v * 16 + (hexI (bt t k)).toNat ≤ 1114111
    · rw [numdGo_go hc] at h3 ⊢
      exact numdGo_prev t f _ (k + 1) (by omega) (by omega) (fun _ => hxB_hexI.2 hc.2.2.1) h3
    · rw [numdGo_stop hc] at h3 ⊢; exact hd h3
theorem nameLen_prev (t : ByteArray) : ∀ f k, min t.size 32 ≤ k + f → 1 ≤ k → k ≤ min t.size 32 → inNB (bt t (k - 1)) = true → inNB (bt t (scanTo (fun n => inNB (bt t n)) (min t.size 32) k - 1)) = true
  | 0, k, h, h1, hk, hd => by rw [scanTo_end (by omega)]; exact hd
  | f + 1, k, h, h1, hk, hd => by
    by_cases hl : k < min t.size 32
    · cases hp : inNB (bt t k) with
      | true => rw [scanTo_go (p := fun n => inNB (bt t n)) hl hp]; exact nameLen_prev t f (k + 1) (by omega) (by omega) (by omega) hp
      | false => rw [scanTo_no (p := fun n => inNB (bt t n)) hp]; exact hd
    · rw [scanTo_end hl]; exact hd
theorem stk_dig {c : Nat} (h : digB c = true) : stkB c = true := by unfold stkB inNB; rw [h]; simp
theorem stk_hex {c : Nat} (h : hxB c = true) : stkB c = true := by
  have h1 := of_decide_eq_true h
  rcases h1 with h1 | h1
  · exact stk_dig (decide_eq_true h1)
  · unfold stkB
    rw [decide_eq_true (show 65 ≤ c ∧ c ≤ 90 by omega)]
    simp
theorem stk_inN {c : Nat} (h : inNB c = true) : stkB c = true := by unfold stkB; rw [h]; simp
end Go.Proofs.YtcnhkhjkeemafaaGreatDoor
/- Where words stand: plain mathematics. -/
namespace Go.Proofs.YtcnhkhjkeemafaaGreatDoor
open Go.RowKit Go.Shelf
set_option linter.unusedVariables false
theorem small_lt {c : Nat} (h : smallB c = true) : c < 128 := by have := smallB_iff.1 h; omega
theorem dig_lt {c : Nat} (h : digB c = true) : c < 128 := by have := digB_iff.1 h; omega
theorem stk_lt {c : Nat} (h : stkB c = true) : c < 128 := by
  unfold stkB inNB smallB digB at h
  simp at h
  omega
theorem tl1_bt (t : ByteArray) (k : Nat) (h : 1 ≤ t.size) : bt (tl1 t) k = bt t (1 + k) := by unfold tl1 bt; rw [get_suffix t 1 k h]
theorem dots_bt (t : ByteArray) (h : dotsB t = true) : bt t 1 = 46 := by
  have h2 : [46, 46] <+: t.data.toList := List.isPrefixOf_iff_prefix.1 h
  obtain ⟨r, hr⟩ := h2
  have hz := dotsB_iff t h
  have : t.data.toList[1]? = some 46 := by rw [← hr]; rfl
  have h1 : 1 < t.size := by omega
  unfold bt
  rw [get_lt t 1 h1]
  rw [Array.getElem?_toList, Array.getElem?_eq_getElem h1] at this
  have e : t.data[1] = 46 := Option.some.inj this
  show (t.data[1]).toNat = 46
  rw [e]
  rfl
theorem word_last (t : ByteArray) (h : 0 < t.size) (ho : (wordV t).ok = true) : bt t ((wordV t).n - 1) < 128 := by
  unfold wordV at ho ⊢
  split at ho
  · rename_i hs
    rw [if_pos hs]
    refine stk_lt (stk_inN ?_)
    have hn : nameLen t = scanTo (fun n => inNB (bt t n)) (min t.size 32) 1 := by unfold nameLen; rw [if_neg (fun q => q.elim (by omega) (fun q => by rw [hs] at q; cases q))]
    show inNB (bt t (nameLen t - 1)) = true
    rw [hn]
    exact nameLen_prev t (min t.size 32) 1 (by omega) (by omega) (by omega) (by show inNB (bt t 0) = true; unfold inNB; rw [hs]; rfl)
  · rename_i hs
    rw [if_neg hs]
    split at ho
    · rename_i hd
      rw [if_pos hd]
      exact dig_lt (numV_prev t h hd)
    · rename_i hd
      rw [if_neg hd]
      split at ho
      · rename_i hu
        rw [if_pos hu]
        have ho2 : (numdV t).2.2 = true := ((Bool.and_eq_true _ _).mp ho).1
        show bt t ((numdV t).2.1 - 1) < 128
        unfold numdV at ho2 ⊢
        split at ho2
        · cases ho2
        · rename_i h1
          rw [if_neg h1]
          split at ho2
          · cases ho2
          · rename_i h6
            rw [if_neg h6]
            exact stk_lt (stk_hex (numdGo_prev t t.size 0 2 (by omega) (by omega) (fun q => by omega) (by omega)))
      · rename_i hu
        rw [if_neg hu]
        split at ho
        · rename_i hq
          rw [if_pos hq]
          have ho2 : (quoV t).2.2 = true := ho
          show bt t ((quoV t).2.1 - 1) < 128
          unfold quoV at ho2 ⊢
          repeat' split at ho2
          all_goals first | (cases ho2; done) | skip
          rename_i h1 h2 h3 h4 h5
          rw [if_neg h1, if_neg h2, if_neg h3, if_neg h4, if_pos h5]
          have := (rn_39 (tl1 t) (wd (tl1 t) 0)).1 h5
          rw [tl1_bt t _ h] at this
          show bt t (wd (tl1 t) 0 + 2 - 1) < 128
          rw [show wd (tl1 t) 0 + 2 - 1 = 1 + wd (tl1 t) 0 by omega, this]
          decide
        · rename_i hq
          rw [if_neg hq]
          have ho2 : (sgnV t).2.2 = true := ho
          show bt t ((sgnV t).2.1 - 1) < 128
          unfold sgnV at ho2 ⊢
          repeat' split
          all_goals first
            | (show bt t 0 < 128; omega)
            | skip
          all_goals first
            | (rename_i hdt; show bt t 1 < 128; rw [dots_bt t hdt]; decide)
            | (exfalso; simp_all; done)
theorem word_first (t : ByteArray) (ho : (wordV t).ok = true) : bt t 0 < 128 := by
  by_cases hs : smallB (bt t 0) = true
  · exact small_lt hs
  · by_cases hd : digB (bt t 0) = true
    · exact dig_lt hd
    · unfold wordV at ho
      rw [if_neg hs, if_neg hd] at ho
      split at ho
      · omega
      · split at ho
        · omega
        · have ho2 : (sgnV t).2.2 = true := ho
          unfold sgnV at ho2
          repeat' split at ho2
          all_goals first | omega | cases ho2
theorem bd_ascii (s : ByteArray) (i : Nat) (h : bt s i < 128) : bdB s i = true := bd_lead s i (by omega)
theorem bd_next (s : ByteArray) (i : Nat) (hi : i < s.size) (h : bt s i < 128) : bdB s (i + 1) = true := by
  have hw : wd s i = 1 := by
    rcases Nat.lt_or_ge (wd s i) 2 with q | q
    · have := wd_pos s i; omega
    · have := wd_lead s _ q; omega
  have := bd_step s i (bd_ascii s i h) hi
  rwa [hw] at this
/-- Lines and columns behind n bytes more. -/
theorem lcB_at (s : ByteArray) (b n : Nat) (hb : b + n ≤ s.size) (hd : bdB s b = true) : lcB (rst s b) (lcAt s b) n = lcAt s (b + n) := by
  unfold lcB lcAt
  have e : (rst s b).extract 0 n = s.extract b (b + n) := by
    unfold rst
    rw [ByteArray.extract_extract, Nat.add_zero, Nat.min_eq_left (by omega)]
  rw [e, lcF_all, ← lcR_on s b (b + n) (1, 1) (by omega) hb (bd_pre s b (b + n) hd (by omega) hb)]
/-- What is known of a word's place. -/
structure WdAt (s : ByteArray) (x : Wd) : Prop where
  lc : (x.l, x.c) = whL s x.b
  lt : x.b < s.size
  e : x.e = x.b + x.v.n
  v : x.v = wordV (rst s x.b)
  le : x.e ≤ s.size
theorem wdAt_mk {s : ByteArray} {b : Nat} {x : Nat × Nat} (h1 : x = whL s b) (h2 : b < s.size) (h3 : b + (wordV (rst s b)).n ≤ s.size) : WdAt s ⟨wordV (rst s b), b, x.1, x.2, b + (wordV (rst s b)).n⟩ := by
  obtain ⟨x1, x2⟩ := x
  generalize hw : whL s b = y at h1
  subst h1
  generalize hv : wordV (rst s b) = v at h3
  exact { lc := hw.symm, lt := h2, e := rfl, v := hv.symm, le := h3 }
theorem cut_places (s : ByteArray) : ∀ f b x ws, b ≤ s.size → bdB s b = true → x = lcAt s b → (∀ y ∈ ws, WdAt s y) → (∀ y ∈ (cutGo s f b x ws).ws, WdAt s y) ∧ (cutGo s f b x ws).b ≤ s.size
  | 0, b, x, ws, hb, _, _, h => ⟨h, hb⟩
  | f + 1, b, x, ws, hb, hd, hx, h => by
    have hg := gB_le s b hb
    unfold cutGo
    split
    · exact ⟨h, hg.2⟩
    · split
      · exact ⟨h, hg.2⟩
      · rename_i hz
        rw [rst_size] at hz
        have hp : 0 < (rst s (gB s b)).size := by rw [rst_size]; omega
        have hle := wordV_le (rst s (gB s b)) hp
        rw [rst_size] at hle
        split
        · exact ⟨h, by show gB s b + _ ≤ _; omega⟩
        · rename_i ho
          have ho2 : (wordV (rst s (gB s b))).ok = true := Bool.eq_false_or_eq_true _ |>.resolve_right ho
          have hn := hle.2 ho2
          have e0 : bt (rst s (gB s b)) 0 = bt s (gB s b) := rst_at s (gB s b) 0 hg.2
          have hf := word_first _ ho2
          rw [e0] at hf
          have hl := word_last _ hp ho2
          rw [rst_at s (gB s b) _ hg.2] at hl
          have hbg : bdB s (gB s b) = true := bd_ascii s _ hf
          have hgl : gLC s b x = lcAt s (gB s b) := by
            unfold gLC
            rw [hx, lcB_at s b _ (by have := hg.2; unfold gB at this; exact this) hd]
            rfl
          have hnx : bdB s (gB s b + (wordV (rst s (gB s b))).n) = true := by
            have := bd_next s (gB s b + ((wordV (rst s (gB s b))).n - 1)) (by omega) hl
            rwa [show gB s b + ((wordV (rst s (gB s b))).n - 1) + 1 = gB s b + (wordV (rst s (gB s b))).n by omega] at this
          refine cut_places s f _ _ _ (by omega) hnx (by rw [hgl, lcB_at s _ _ (by omega) hbg]) (fun y hy => ?_)
          rcases List.mem_append.1 hy with hy | hy
          · exact h y hy
          · obtain rfl := List.mem_singleton.1 hy
            exact wdAt_mk (hgl.trans (whL_bd s _ hbg).symm) (by omega) (by omega)
theorem words_places (s : ByteArray) : (∀ y ∈ (wordsV s).ws, WdAt s y) ∧ (wordsV s).b ≤ s.size := cut_places s _ 0 (1, 1) [] (Nat.zero_le _) (bd_zero s) (lcAt_zero s).symm (fun _ h => by cases h)
end Go.Proofs.YtcnhkhjkeemafaaGreatDoor
/- A rune as it is written is one word: plain mathematics. -/
namespace Go.Proofs.YtcnhkhjkeemafaaGreatDoor
open Go.RowKit Go.Shelf
set_option linter.unusedVariables false
def upD (d : Nat) : UInt8 := if d < 10 then (48 + d).toUInt8 else (55 + d).toUInt8
theorem upD_of : ∀ d, d < 16 → Lib.toUpperA [digC d] = [upD d] := by decide +kernel
theorem hexI_upD : ∀ d, d < 16 → hexI (upD d).toNat = d := by decide +kernel
theorem upD_zero : upD 0 = 48 := by decide
theorem upD_ne : ∀ d, d < 16 → d ≠ 0 → (upD d).toNat ≠ 48 := by decide +kernel
theorem toUpperA_app (a b : List UInt8) : Lib.toUpperA (a ++ b) = Lib.toUpperA a ++ Lib.toUpperA b := by simp [Lib.toUpperA]
theorem upL_small {n : Nat} (h : n < 16) : Lib.toUpperA (hexL n) = [upD n] := by rw [hexL_small h, upD_of n h]
theorem upL_step {n : Nat} (h : 16 ≤ n) : Lib.toUpperA (hexL n) = Lib.toUpperA (hexL (n / 16)) ++ [upD (n % 16)] := by rw [hexL_step h, toUpperA_app, upD_of _ (Nat.mod_lt _ (by decide))]
theorem hex4 (n : Nat) (h : n < 65536) : (⟨#[85, 43]⟩ : ByteArray) ++ ⟨(Lib.repeatL [48] (4 - (upS n).size)).toArray⟩ ++ upS n = ⟨#[85, 43, upD (n / 4096), upD (n / 256 % 16), upD (n / 16 % 16), upD (n % 16)]⟩ := by
  by_cases h1 : n < 16
  · have e : upS n = ⟨#[upD n]⟩ := by unfold upS; rw [upL_small h1]
    rw [e, show n / 4096 = 0 by omega, show n / 256 % 16 = 0 by omega, show n / 16 % 16 = 0 by omega, show n % 16 = n by omega, upD_zero]
    rfl
  by_cases h2 : n < 256
  · have e : upS n = ⟨#[upD (n / 16), upD (n % 16)]⟩ := by unfold upS; rw [upL_step (by omega), upL_small (by omega)]; rfl
    rw [e, show n / 4096 = 0 by omega, show n / 256 % 16 = 0 by omega, show n / 16 % 16 = n / 16 by omega, upD_zero]
    rfl
  by_cases h3 : n < 4096
  · have e : upS n = ⟨#[upD (n / 256), upD (n / 16 % 16), upD (n % 16)]⟩ := by unfold upS; rw [upL_step (by omega), upL_step (by omega), upL_small (by omega), show n / 16 / 16 = n / 256 by omega]; rfl
    rw [e, show n / 4096 = 0 by omega, show n / 256 % 16 = n / 256 by omega, upD_zero]
    rfl
  · have e : upS n = ⟨#[upD (n / 4096), upD (n / 256 % 16), upD (n / 16 % 16), upD (n % 16)]⟩ := by unfold upS; rw [upL_step (by omega), upL_step (by omega), upL_step (by omega), upL_small (by omega), show n / 16 / 16 / 16 = n / 4096 by omega, show n / 16 / 16 = n / 256 by omega]; rfl
    rw [e]
    rfl
theorem hex5 (n : Nat) (h0 : 65536 ≤ n) (h : n < 1048576) : (⟨#[85, 43]⟩ : ByteArray) ++ ⟨(Lib.repeatL [48] (4 - (upS n).size)).toArray⟩ ++ upS n = ⟨#[85, 43, upD (n / 65536), upD (n / 4096 % 16), upD (n / 256 % 16), upD (n / 16 % 16), upD (n % 16)]⟩ := by
  have e : upS n = ⟨#[upD (n / 65536), upD (n / 4096 % 16), upD (n / 256 % 16), upD (n / 16 % 16), upD (n % 16)]⟩ := by
    unfold upS
    rw [upL_step (by omega), upL_step (by omega), upL_step (by omega), upL_step (by omega), upL_small (by omega), show n / 16 / 16 / 16 / 16 = n / 65536 by omega, show n / 16 / 16 / 16 = n / 4096 by omega, show n / 16 / 16 = n / 256 by omega]
    rfl
  rw [e]
  rfl
theorem hex6 (n : Nat) (h0 : 1048576 ≤ n) (h : n ≤ 1114111) : (⟨#[85, 43]⟩ : ByteArray) ++ ⟨(Lib.repeatL [48] (4 - (upS n).size)).toArray⟩ ++ upS n = ⟨#[85, 43, upD (n / 1048576), upD (n / 65536 % 16), upD (n / 4096 % 16), upD (n / 256 % 16), upD (n / 16 % 16), upD (n % 16)]⟩ := by
  have e : upS n = ⟨#[upD (n / 1048576), upD (n / 65536 % 16), upD (n / 4096 % 16), upD (n / 256 % 16), upD (n / 16 % 16), upD (n % 16)]⟩ := by
    unfold upS
    rw [upL_step (by omega), upL_step (by omega), upL_step (by omega), upL_step (by omega), upL_step (by omega), upL_small (by omega), show n / 16 / 16 / 16 / 16 / 16 = n / 1048576 by omega, show n / 16 / 16 / 16 / 16 = n / 65536 by omega, show n / 16 / 16 / 16 = n / 4096 by omega, show n / 16 / 16 = n / 256 by omega]
    rfl
  rw [e]
  rfl
theorem numdGo_dig {t : ByteArray} {v n d : Nat} (hn : n < t.size) (h6 : n < 6 ∨ bt t 2 ≠ 48) (hd : d < 16) (hb : bt t n = (upD d).toNat) (hv : v * 16 + d ≤ 1114111) : numdGo t v n = numdGo t (v * 16 + d) (n + 1) := by
  have e := hexI_upD d hd
  have hx : hexI (bt t n) = d := by rw [hb]; exact e
  have := numdGo_go (t := t) (v := v) (n := n) ⟨hn, h6, by omega, by omega⟩
  rw [this, hx]
  rfl
theorem numdV_mk {t : ByteArray} {n : Nat} (h1 : bt t 1 = 43) (hs : 6 ≤ t.size) (hg : numdGo t 0 2 = (n, t.size)) (hw : widthOf (n : Int) ≠ 0) : numdV t = (n, t.size, true) := by
  unfold numdV
  rw [if_neg (by omega), hg, if_neg (fun q => q.elim (fun q => absurd q (by show ¬ t.size < 6; omega)) (fun q => hw q))]
theorem numdV_4 (n : Nat) (h : n < 65536) (hw : widthOf (n : Int) ≠ 0) : numdV ⟨#[85, 43, upD (n / 4096), upD (n / 256 % 16), upD (n / 16 % 16), upD (n % 16)]⟩ = (n, 6, true) := by
  refine numdV_mk (by rfl) (by show 6 ≤ 6; decide) ?_ hw
  rw [numdGo_dig (d := n / 4096) (by show 2 < 6; decide) (.inl (by decide)) (by omega) rfl (by omega), numdGo_dig (d := n / 256 % 16) (by show 3 < 6; decide) (.inl (by decide)) (by omega) rfl (by omega), numdGo_dig (d := n / 16 % 16) (by show 4 < 6; decide) (.inl (by decide)) (by omega) rfl (by omega), numdGo_dig (d := n % 16) (by show 5 < 6; decide) (.inl (by decide)) (by omega) rfl (by omega), numdGo_stop (by intro q; exact absurd q.1 (by show ¬ 6 < 6; decide))]
  rw [Prod.mk.injEq]
  exact ⟨by omega, rfl⟩
theorem numdV_5 (n : Nat) (h0 : 65536 ≤ n) (h : n < 1048576) (hw : widthOf (n : Int) ≠ 0) : numdV ⟨#[85, 43, upD (n / 65536), upD (n / 4096 % 16), upD (n / 256 % 16), upD (n / 16 % 16), upD (n % 16)]⟩ = (n, 7, true) := by
  refine numdV_mk (by rfl) (by show 6 ≤ 7; decide) ?_ hw
  have hz : bt ⟨#[85, 43, upD (n / 65536), upD (n / 4096 % 16), upD (n / 256 % 16), upD (n / 16 % 16), upD (n % 16)]⟩ 2 ≠ 48 := upD_ne (n / 65536) (by omega) (by omega)
  rw [numdGo_dig (d := n / 65536) (by show 2 < 7; decide) (.inl (by decide)) (by omega) rfl (by omega), numdGo_dig (d := n / 4096 % 16) (by show 3 < 7; decide) (.inl (by decide)) (by omega) rfl (by omega), numdGo_dig (d := n / 256 % 16) (by show 4 < 7; decide) (.inl (by decide)) (by omega) rfl (by omega), numdGo_dig (d := n / 16 % 16) (by show 5 < 7; decide) (.inl (by decide)) (by omega) rfl (by omega), numdGo_dig (d := n % 16) (by show 6 < 7; decide) (.inr hz) (by omega) rfl (by omega), numdGo_stop (by intro q; exact absurd q.1 (by show ¬ 7 < 7; decide))]
  rw [Prod.mk.injEq]
  exact ⟨by omega, rfl⟩
theorem numdV_6 (n : Nat) (h0 : 1048576 ≤ n) (h : n ≤ 1114111) (hw : widthOf (n : Int) ≠ 0) : numdV ⟨#[85, 43, upD (n / 1048576), upD (n / 65536 % 16), upD (n / 4096 % 16), upD (n / 256 % 16), upD (n / 16 % 16), upD (n % 16)]⟩ = (n, 8, true) := by
  refine numdV_mk (by rfl) (by show 6 ≤ 8; decide) ?_ hw
  have hz : bt ⟨#[85, 43, upD (n / 1048576), upD (n / 65536 % 16), upD (n / 4096 % 16), upD (n / 256 % 16), upD (n / 16 % 16), upD (n % 16)]⟩ 2 ≠ 48 := upD_ne (n / 1048576) (by omega) (by omega)
  rw [numdGo_dig (d := n / 1048576) (by show 2 < 8; decide) (.inl (by decide)) (by omega) rfl (by omega), numdGo_dig (d := n / 65536 % 16) (by show 3 < 8; decide) (.inl (by decide)) (by omega) rfl (by omega), numdGo_dig (d := n / 4096 % 16) (by show 4 < 8; decide) (.inl (by decide)) (by omega) rfl (by omega), numdGo_dig (d := n / 256 % 16) (by show 5 < 8; decide) (.inl (by decide)) (by omega) rfl (by omega), numdGo_dig (d := n / 16 % 16) (by show 6 < 8; decide) (.inr hz) (by omega) rfl (by omega), numdGo_dig (d := n % 16) (by show 7 < 8; decide) (.inr hz) (by omega) rfl (by omega), numdGo_stop (by intro q; exact absurd q.1 (by show ¬ 8 < 8; decide))]
  rw [Prod.mk.injEq]
  exact ⟨by omega, rfl⟩
/-- What a text says that is one word. -/
structure OneRune (s : ByteArray) (n : Nat) : Prop where
  pos : 0 < s.size
  small : s.size ≤ 262144
  ok : (wordsV s).ok = true
  ws : (wordsV s).ws = [⟨⟨3, ByteArray.empty, n, 0, s.size, true⟩, 0, 1, 1, s.size⟩]
theorem rst_zero (s : ByteArray) : rst s 0 = s := ByteArray.extract_zero_size
theorem rst_end (s : ByteArray) : rst s s.size = ByteArray.empty := by
  have : (rst s s.size).size = 0 := by rw [rst_size]; omega
  exact toList_nil _ this
theorem gapV_none {t : ByteArray} (h : 0 < t.size) (hb : blankB (bt t 0) = false) (hr : bt t 0 ≠ 35) : gapV t = (0, true) := by
  unfold gapV
  obtain ⟨k, hk⟩ : ∃ k, t.size = k + 1 := ⟨t.size - 1, by omega⟩
  rw [hk]
  unfold gapGo
  rw [if_pos (by omega), if_neg (by rw [hb]; decide), if_neg hr]
theorem gapV_empty : gapV ByteArray.empty = (0, true) := rfl
theorem lcB_zero (t : ByteArray) (x : Nat × Nat) : lcB t x 0 = x := by
  unfold lcB
  have : t.extract 0 0 = ByteArray.empty := toList_nil _ (by rw [ByteArray.size_extract]; omega)
  rw [this]
  rfl
theorem words_one {s : ByteArray} {v : WV} (h : 0 < s.size) (hb : blankB (bt s 0) = false) (hr : bt s 0 ≠ 35) (hv : wordV s = v) (hok : v.ok = true) (hn : v.n = s.size) : (wordsV s).ok = true ∧ (wordsV s).ws = [⟨v, 0, 1, 1, s.size⟩] := by
  have hg := gapV_none h hb hr
  obtain ⟨k, hk⟩ : ∃ k, s.size = k + 1 := ⟨s.size - 1, by omega⟩
  have e1 : gB s 0 = 0 := by unfold gB; rw [rst_zero, hg]; rfl
  have e2 : gLC s 0 (1, 1) = (1, 1) := by unfold gLC; rw [rst_zero, hg, lcB_zero]
  have e3 : gapV (rst s s.size) = (0, true) := by rw [rst_end]; rfl
  have e4 : gB s s.size = s.size := by unfold gB; rw [e3]; rfl
  have hw : wordsV s = cutGo s s.size s.size (lcB s (1, 1) s.size) [⟨v, 0, 1, 1, s.size⟩] := by
    unfold wordsV
    rw [cutGo.eq_2, if_neg (by rw [rst_zero, hg]; decide), e1, rst_zero, if_neg (by omega), hv, if_neg (by rw [hok]; decide), e2, hn, Nat.zero_add]
    rfl
  rw [hw]
  have hz : (rst s s.size).size = 0 := by rw [rst_size]; omega
  generalize lcB s (1, 1) s.size = L
  have : cutGo s s.size s.size L [⟨v, 0, 1, 1, s.size⟩] = ⟨true, gB s s.size, gLC s s.size L, [⟨v, 0, 1, 1, s.size⟩]⟩ := by
    have hf : ∀ f, f = k + 1 → cutGo s f s.size L [⟨v, 0, 1, 1, s.size⟩] = ⟨true, gB s s.size, gLC s s.size L, [⟨v, 0, 1, 1, s.size⟩]⟩ := fun f hf => by
      subst hf
      rw [cutGo.eq_2, if_neg (by rw [e3]; decide), if_pos (by rw [e4]; exact hz)]
    exact hf _ hk
  rw [this]
  exact ⟨rfl, rfl⟩
theorem one_numbered {s : ByteArray} {n : Nat} (h0 : bt s 0 = 85) (hs : 0 < s.size) (hb : s.size ≤ 262144) (hv : numdV s = (n, s.size, true)) : OneRune s n := by
  have hw : wordV s = ⟨3, ByteArray.empty, n, 0, s.size, true⟩ := by
    unfold wordV
    rw [h0, if_neg (by decide), if_neg (by decide), if_pos rfl, hv]
    simp [edgeB]
  obtain ⟨a, b⟩ := words_one hs (by rw [h0]; decide) (by rw [h0]; decide) hw rfl rfl
  exact ⟨hs, hb, a, b⟩
/-- A rune between two quotes. -/
def quoS (r : Int) : ByteArray := ⟨#[39]⟩ ++ Utf8.encode r ++ ⟨#[39]⟩
theorem enc_size {r : Int} (h : widthOf r ≠ 0) : 1 ≤ (Utf8.encode r).size ∧ (Utf8.encode r).size ≤ 4 := by
  have := (decode_enc h).2
  unfold widthOf at this h
  repeat' split at this
  all_goals first | (exfalso; omega) | omega | simp_all
theorem quoS_size {r : Int} (h : widthOf r ≠ 0) : (quoS r).size = (Utf8.encode r).size + 2 := by
  unfold quoS
  rw [ByteArray.size_append, ByteArray.size_append]
  show 1 + _ + 1 = _
  omega
theorem one_quoted {r : Int} (h : widthOf r ≠ 0) (h32 : 32 ≤ r) (h39 : r ≠ 39) (h127 : r ≠ 127) : OneRune (quoS r) r.toNat := by
  have hz := quoS_size h
  have he := enc_size h
  obtain ⟨hd, hw⟩ := decode_enc h
  have ha : quoS r = ⟨#[39]⟩ ++ (Utf8.encode r ++ ⟨#[39]⟩) := by unfold quoS; rw [ByteArray.append_assoc]
  have h0 : bt (quoS r) 0 = 39 := by rw [ha, bt_left _ _ 0 (by decide)]; rfl
  have ht : tl1 (quoS r) = Utf8.encode r ++ ⟨#[39]⟩ := by
    unfold tl1
    refine ext_get _ _ ?_ ?_
    · rw [ByteArray.size_extract, hz, ByteArray.size_append]
      show min _ _ - 1 = _ + 1
      omega
    · intro j hj
      rw [ByteArray.size_extract] at hj
      unfold bt
      rw [get_suffix _ _ _ (by omega), ha]
      have := bt_right ⟨#[39]⟩ (Utf8.encode r ++ ⟨#[39]⟩) j
      unfold bt at this
      exact this
  have hb := (starts_enc h).2.1
  have hg : ¬ (rn (Utf8.encode r) 0 = 65533 ∧ wd (Utf8.encode r) 0 = 1) := by simpa [badB] using hb
  have hd0 : Utf8.decode (Utf8.encode r ++ ⟨#[39]⟩) 0 = (r.toNat, (Utf8.encode r).size) := by rw [decode_grow _ _ 0 (by omega) hg, hd]
  have hd1 : Utf8.decode (Utf8.encode r ++ ⟨#[39]⟩) (Utf8.encode r).size = (39, 1) := by have := decode_behind (Utf8.encode r) ⟨#[39]⟩ 0; rw [Nat.add_zero] at this; rw [this]; rfl
  have hsz : (Utf8.encode r ++ (⟨#[39]⟩ : ByteArray)).size = (Utf8.encode r).size + 1 := by rw [ByteArray.size_append]; rfl
  have hq : quoV (quoS r) = (r.toNat, (quoS r).size, true) := by
    unfold quoV
    rw [ht]
    simp only [rn, wd, hd0, hd1]
    have hwb : wholeB (Utf8.encode r ++ ⟨#[39]⟩) = true := by
      unfold wholeB badB
      simp only [rn, wd, hd0]
      rw [decide_eq_true (by omega), decide_eq_false (by simpa [rn, wd, hd] using hg)]
      rfl
    rw [if_neg (by omega), if_neg (by omega), if_neg (by rw [hwb]; decide), if_neg (by omega), if_pos (by trivial), hz]
  have hv : wordV (quoS r) = ⟨3, ByteArray.empty, r.toNat, 0, (quoS r).size, true⟩ := by
    unfold wordV
    rw [h0, if_neg (by decide), if_neg (by decide), if_neg (by decide), if_pos rfl, hq]
  obtain ⟨a, b⟩ := words_one (by omega) (by rw [h0]; decide) (by rw [h0]; decide) hv rfl rfl
  exact ⟨by omega, by omega, a, b⟩
/-- A rune as it is written. -/
theorem one_text {r : Int} (h : widthOf r ≠ 0) : OneRune (textV r).1 r.toNat ∧ (textV r).2 = 0 := by
  have hb := width_bound r h
  by_cases hq : 33 ≤ r ∧ r ≤ 126 ∧ r ≠ 39
  · have e : textV r = (quoS r, 0) := by unfold textV quoS; rw [if_neg h, if_pos hq]
    rw [e]
    exact ⟨one_quoted h (by omega) hq.2.2 (by omega), rfl⟩
  · obtain ⟨n, rfl⟩ : ∃ n : Nat, r = n := ⟨r.toNat, by omega⟩
    have e : textV (n : Int) = (⟨#[85, 43]⟩ ++ ⟨(Lib.repeatL [48] (4 - (upS n).size)).toArray⟩ ++ upS n, 0) := by unfold textV; rw [if_neg h, if_neg hq, Int.toNat_natCast]
    rw [e, Int.toNat_natCast]
    refine ⟨?_, rfl⟩
    by_cases h4 : n < 65536
    · show OneRune (⟨#[85, 43]⟩ ++ ⟨(Lib.repeatL [48] (4 - (upS n).size)).toArray⟩ ++ upS n) n
      rw [hex4 n h4]
      exact one_numbered rfl (by show 0 < 6; decide) (by show 6 ≤ 262144; decide) (numdV_4 n h4 h)
    · by_cases h5 : n < 1048576
      · show OneRune (⟨#[85, 43]⟩ ++ ⟨(Lib.repeatL [48] (4 - (upS n).size)).toArray⟩ ++ upS n) n
        rw [hex5 n (by omega) h5]
        exact one_numbered rfl (by show 0 < 7; decide) (by show 7 ≤ 262144; decide) (numdV_5 n (by omega) h5 h)
      · show OneRune (⟨#[85, 43]⟩ ++ ⟨(Lib.repeatL [48] (4 - (upS n).size)).toArray⟩ ++ upS n) n
        rw [hex6 n (by omega) (by omega)]
        exact one_numbered rfl (by show 0 < 8; decide) (by show 8 ≤ 262144; decide) (numdV_6 n (by omega) (by omega) h)
end Go.Proofs.YtcnhkhjkeemafaaGreatDoor
/- Names and written runes, as the reference reads them: plain mathematics. -/
namespace Go.Proofs.YtcnhkhjkeemafaaGreatDoor
open Go.RowKit Go.Shelf
set_option linter.unusedVariables false
theorem small_first {c : Nat} (h : smallB c = true) : blankB c = false ∧ c ≠ 35 := by
  have := smallB_iff.1 h
  refine ⟨?_, by omega⟩
  unfold blankB
  exact decide_eq_false (by omega)
theorem wordV_small {t : ByteArray} (h : smallB (bt t 0) = true) : wordV t = ⟨1, t.extract 0 (nameLen t), 0, 0, nameLen t, edgeB t (nameLen t)⟩ := by unfold wordV; rw [if_pos h]
theorem sgn_kind (t : ByteArray) : (sgnV t).1 ≠ 1 := by
  unfold sgnV
  repeat' split
  all_goals (show (_ : Nat) ≠ 1; decide)
theorem wordV_one {t : ByteArray} (h : (wordV t).kind = 1) : smallB (bt t 0) = true := by
  cases hs : smallB (bt t 0)
  · exfalso
    unfold wordV at h
    rw [hs, if_neg (by decide)] at h
    split at h
    · cases h
    · split at h
      · cases h
      · split at h
        · cases h
        · exact sgn_kind t h
  · rfl
/-- A name is a text whose only word it is. -/
def legR (s : ByteArray) : Prop := (wordsV s).ok = true ∧ ∃ x, (wordsV s).ws = [x] ∧ x.v.kind = 1 ∧ x.b = 0 ∧ x.e = s.size
theorem legal_words (s : ByteArray) : legalB s = true ↔ legR s := by
  unfold legalB
  rw [decide_eq_true_iff]
  constructor
  · rintro ⟨h0, hn⟩
    have hs : smallB (bt s 0) = true := by
      cases q : smallB (bt s 0)
      · unfold nameLen at hn; rw [if_pos (.inr q)] at hn; omega
      · rfl
    have hf := small_first hs
    have hv := wordV_small hs
    have hok : edgeB s (nameLen s) = true := by unfold edgeB; rw [decide_eq_true hn]; rfl
    obtain ⟨h1, h2⟩ := words_one h0 hf.1 hf.2 hv hok hn
    exact ⟨h1, _, h2, rfl, rfl, rfl⟩
  · rintro ⟨ho, x, hx, hk, hb, he⟩
    have hp := (words_places s).1 x (by rw [hx]; exact List.mem_singleton.2 rfl)
    have hv := hp.v
    rw [hb, rst_zero] at hv
    have hs := wordV_one (t := s) (by rw [← hv]; exact hk)
    have h1 := hp.e
    rw [hv, wordV_small hs, hb, he] at h1
    have h2 := hp.lt
    refine ⟨by omega, ?_⟩
    have : s.size = 0 + nameLen s := h1
    omega
/-- The last j digits of a number. -/
def digs (n : Nat) : Nat → List UInt8
  | 0 => []
  | j + 1 => upD (n / 16 ^ j % 16) :: digs n j
theorem digs_length (n : Nat) : ∀ j, (digs n j).length = j
  | 0 => rfl
  | j + 1 => by show (digs n j).length + 1 = _; rw [digs_length n j]
def digB8 (n j : Nat) : ByteArray := ⟨(digs n j).toArray⟩
theorem digB8_size (n j : Nat) : (digB8 n j).size = j := by show (digs n j).toArray.size = j; rw [List.size_toArray, digs_length]
theorem digB8_step (n j : Nat) : (⟨#[upD (n / 16 ^ j % 16)]⟩ : ByteArray) ++ digB8 n j = digB8 n (j + 1) := by
  apply ByteArray.ext
  rw [ByteArray.data_append]
  show #[_] ++ (digs n j).toArray = (upD (n / 16 ^ j % 16) :: digs n j).toArray
  simp
/-- How a rune is written, by its digits. -/
theorem text_digs (n j : Nat) (hn : n ≤ 1114111) (h4 : 4 ≤ j) (hj : n / 16 ^ j = 0) (hl : j = 4 ∨ n / 16 ^ (j - 1) ≠ 0) : (⟨#[85, 43]⟩ : ByteArray) ++ digB8 n j = (⟨#[85, 43]⟩ : ByteArray) ++ ⟨(Lib.repeatL [48] (4 - (upS n).size)).toArray⟩ ++ upS n := by
  have hj6 : j ≤ 6 := by
    rcases hl with h | h
    · omega
    · rcases Nat.lt_or_ge j 7 with q | q
      · omega
      · exfalso
        apply h
        apply Nat.div_eq_of_lt
        have : 16 ^ 6 ≤ 16 ^ (j - 1) := Nat.pow_le_pow_right (by decide) (by omega)
        omega
  have hc : j = 4 ∨ j = 5 ∨ j = 6 := by omega
  have lt_of : ∀ m, 0 < m → n / m = 0 → n < m := fun m hm h => by
    rcases Nat.lt_or_ge n m with q | q
    · exact q
    · have := Nat.div_pos q hm; omega
  rcases hc with rfl | rfl | rfl
  · have h1 := lt_of 65536 (by decide) hj
    rw [hex4 n h1]
    apply ByteArray.ext
    rw [ByteArray.data_append]
    show #[85, 43] ++ (digs n 4).toArray = _
    simp only [digs, Nat.pow_zero, Nat.div_one, Nat.reducePow]
    rw [Nat.mod_eq_of_lt (a := n / 4096) (by omega)]
    rfl
  · have h1 := lt_of 1048576 (by decide) hj
    have h0 : 65536 ≤ n := by
      rcases hl with h | h
      · omega
      · rcases Nat.lt_or_ge n 65536 with q | q
        · exact absurd (Nat.div_eq_of_lt q) h
        · exact q
    rw [hex5 n h0 h1]
    apply ByteArray.ext
    rw [ByteArray.data_append]
    show #[85, 43] ++ (digs n 5).toArray = _
    simp only [digs, Nat.pow_zero, Nat.div_one, Nat.reducePow]
    rw [Nat.mod_eq_of_lt (a := n / 65536) (by omega)]
    rfl
  · have h0 : 1048576 ≤ n := by
      rcases hl with h | h
      · omega
      · rcases Nat.lt_or_ge n 1048576 with q | q
        · exact absurd (Nat.div_eq_of_lt q) h
        · exact q
    rw [hex6 n h0 hn]
    apply ByteArray.ext
    rw [ByteArray.data_append]
    show #[85, 43] ++ (digs n 6).toArray = _
    simp only [digs, Nat.pow_zero, Nat.div_one, Nat.reducePow]
    rw [Nat.mod_eq_of_lt (a := n / 1048576) (by omega)]
    rfl
def hexS : ByteArray := ⟨#[48, 49, 50, 51, 52, 53, 54, 55, 56, 57, 65, 66, 67, 68, 69, 70]⟩
theorem hexS_one : ∀ d, d < 16 → hexS.extract d (d + 1) = ⟨#[upD d]⟩ := by decide +kernel
end Go.Proofs.YtcnhkhjkeemafaaGreatDoor
/- The reference's need and sequence. -/
namespace Go.Proofs.YtcnhkhjkeemafaaGreatDoor
open Go.RowKit Go.Shelf
set_option linter.unusedVariables false
/-- How a sequence goes on behind its first byte. -/
def needV (c : Nat) : Nat × Nat × Nat × Bool := if c < 128 then (0, 0, 0, true) else if (secOf c).1 = 0 then (0, 0, 0, false) else (szOf c - 1, (secOf c).1, (secOf c).2, true)
set_option maxRecDepth 100000 in
set_option maxHeartbeats 4000000 in
theorem need_any (c : Nat) (hc : c < 256) (w : World) : Calls Tryz.prog 58 #[.int .u8 c] w fun e w' => e = .returned (.tuple #[.int .i64 (needV c).1, .int .u8 (needV c).2.1, .int .u8 (needV c).2.2.1, .bool (needV c).2.2.2]) ∧ w' = w := by
  have hc : (c < 128 ∧ needV c = (0, 0, 0, true)) ∨ (128 ≤ c ∧ c < 194 ∧ needV c = (0, 0, 0, false)) ∨ (194 ≤ c ∧ c ≤ 223 ∧ needV c = (1, 128, 191, true)) ∨ (c = 224 ∧ needV c = (2, 160, 191, true)) ∨ (225 ≤ c ∧ c ≤ 236 ∧ needV c = (2, 128, 191, true)) ∨ (c = 237 ∧ needV c = (2, 128, 159, true)) ∨ (c = 238 ∧ needV c = (2, 128, 191, true)) ∨ (c = 239 ∧ needV c = (2, 128, 191, true)) ∨
      (c = 240 ∧ needV c = (3, 144, 191, true)) ∨ (241 ≤ c ∧ c ≤ 243 ∧ needV c = (3, 128, 191, true)) ∨ (c = 244 ∧ needV c = (3, 128, 143, true)) ∨ (245 ≤ c ∧ needV c = (0, 0, 0, false)) := by
    unfold needV secOf szOf
    repeat' split
    all_goals simp_all
    all_goals omega
  rcases hc with ⟨h, e⟩ | ⟨h, h', e⟩ | ⟨h, h', e⟩ | ⟨rfl, e⟩ | ⟨h, h', e⟩ | ⟨rfl, e⟩ | ⟨rfl, e⟩ | ⟨rfl, e⟩ | ⟨rfl, e⟩ | ⟨h, h', e⟩ | ⟨rfl, e⟩ | ⟨h, e⟩
  all_goals
    rw [e]; clear e
    go_enter Tryz.func58, Tryz.ntmps58
    go_wp2
    exact bodyPost_ret (v := .tuple #[_, _, _, _]) (by simp [results, Tryz.results58, go_sem]; first | done | exact ⟨rfl, rfl, rfl, rfl⟩) rfl ⟨rfl, rfl⟩
theorem and31 : ∀ b : Nat, b < 256 → bits BinOp.and IntKind.i32 (b : Int) 31 = ((b % 32 : Nat) : Int) := by decide +kernel
theorem and15c : ∀ b : Nat, b < 256 → bits BinOp.and IntKind.i32 (b : Int) 15 = ((b % 16 : Nat) : Int) := by decide +kernel
theorem and7c : ∀ b : Nat, b < 256 → bits BinOp.and IntKind.i32 (b : Int) 7 = ((b % 8 : Nat) : Int) := by decide +kernel
theorem and63 : ∀ b : Nat, b < 256 → bits BinOp.and IntKind.u8 (b : Int) 63 = ((b % 64 : Nat) : Int) := by decide +kernel
theorem step_add (A c : Nat) (hA : A < 33554432) (hc : c < 256) : wrap32 (wrap32 ((A : Int) * 64) + wrap32 (bits BinOp.and IntKind.u8 (c : Int) 63)) = ((A * 64 + c % 64 : Nat) : Int) := by
  rw [and63 c hc]
  unfold wrap32
  omega
abbrev seqR4 (a : Nat) (x : Nat × Nat × Bool) : Value := .tuple #[.int .i32 x.1, .int .i64 ((a + x.2.1 : Nat) : Int), .bool x.2.2]
theorem rst_bt (s : ByteArray) (a k : Nat) (h : a ≤ s.size) : bt (rst s a) k = bt s (a + k) := by unfold bt; rw [get_suffix s a k h]
set_option maxRecDepth 100000 in
set_option maxHeartbeats 4000000 in
theorem sequence_small (s : ByteArray) (hs : s.size ≤ 1099511627776) (a : Nat) (ha : a ≤ 1099511627776) (h : s.size ≤ a ∨ (a < s.size ∧ (bt s a < 128 ∨ (128 ≤ bt s a ∧ (secOf (bt s a)).1 = 0)))) (w : World) : Calls Tryz.prog 26 #[.string s, .int .i64 a] w fun e w' => e = .returned (seqR4 a (seq4V (rst s a))) ∧ w' = w := by
  rcases h with h | ⟨h, hx⟩
  · have HV := hide (seq4_end (t := rst s a) (by rw [rst_size]; omega))
    have h' : (s.size : Int) ≤ (a : Int) := by omega
    clear h
    go_enter Tryz.func26, Tryz.ntmps26
    go_wp2
    go_ret3
    exact ⟨by rw [unhide HV]; rfl, rfl⟩
  · have h' : ¬ (s.size : Int) ≤ (a : Int) := by omega
    have hl : (a : Int) < (s.size : Int) := by omega
    have hgb := bt_get s a h
    have hb0 : bt (rst s a) 0 = bt s a := rst_bt s a 0 (by omega)
    have hpos : 0 < (rst s a).size := by rw [rst_size]; omega
    have hlt := bt_lt s a
    obtain ⟨b, eb⟩ : ∃ b, (s[a]'h).toNat = b := ⟨_, rfl⟩
    rw [hgb, eb] at hx hb0 hlt
    have HC := hide (need_any b hlt)
    rcases hx with hx | ⟨hx, hs0⟩
    · have HV := hide (seq4_ascii hpos (by rw [hb0]; exact hx))
      rw [hb0] at HV
      have hn : needV b = (0, 0, 0, true) := by unfold needV; rw [if_pos hx]
      rw [hn] at HC
      clear hn hb0 hpos hgb
      go_enter Tryz.func26, Tryz.ntmps26
      go_wp2_with fail
      refine (unhide HC _).mono ?_
      rintro e w1 ⟨rfl, rfl⟩
      go_wp2_with fail
      refine wp_loop_rounds 1 ?_
      rw [rounds_succ]
      go_wp2_with fail
      go_ret3
      exact ⟨by rw [unhide HV]; rfl, rfl⟩
    · have HV := hide (seq4_none hpos (by rw [hb0]; exact hx) (by rw [hb0]; exact hs0))
      have hn : needV b = (0, 0, 0, false) := by unfold needV; rw [if_neg (by omega), if_pos hs0]
      rw [hn] at HC
      clear hn hb0 hpos hgb
      go_enter Tryz.func26, Tryz.ntmps26
      go_wp2_with fail
      refine (unhide HC _).mono ?_
      rintro e w1 ⟨rfl, rfl⟩
      go_wp2_with fail
      go_ret3
      exact ⟨by rw [unhide HV]; rfl, rfl⟩
set_option maxRecDepth 100000 in
set_option maxHeartbeats 8000000 in
theorem sequence_long (s : ByteArray) (hs : s.size ≤ 1099511627776) (a : Nat) (ha : a < s.size) (hx : (secOf (bt s a)).1 ≠ 0) (w : World) : Calls Tryz.prog 26 #[.string s, .int .i64 a] w fun e w' => e = .returned (seqR4 a (seq4V (rst s a))) ∧ w' = w := by
  have hb0 : bt (rst s a) 0 = bt s a := rst_bt s a 0 (by omega)
  have hpos : 0 < (rst s a).size := by rw [rst_size]; omega
  have hq := secOf_lo _ hx
  have hGG := seq4_good hpos (by rw [hb0]; exact hx)
  have hBB := fun k h1 h2 h3 h4 => seq4_bad hpos (by rw [hb0]; exact hx) k h1 h2 h3 h4
  have hgo : ∀ k, 1 ≤ k → good4 (rst s a) k = decide (a + k < s.size ∧ (if k = 1 then (secOf (bt s a)).1 else 128) ≤ bt s (a + k) ∧ bt s (a + k) ≤ (if k = 1 then (secOf (bt s a)).2 else 191)) := fun k hk => by
    unfold good4
    rw [hb0, rst_bt s a k (by omega)]
    congr 1
    rw [rst_size]
    apply propext
    constructor <;> intro h <;> exact ⟨by omega, h.2⟩
  have hac : ∀ k, 1 ≤ k → accOf (rst s a) (k + 1) = accOf (rst s a) k * 64 + bt s (a + k) % 64 := fun k hk => by rw [acc_step _ k hk, rst_bt s a k (by omega)]
  have ha1 : accOf (rst s a) 1 = leadOf (bt s a) := by show leadOf (bt (rst s a) 0) = _; rw [hb0]
  rw [hb0] at hGG hBB
  have hgb := bt_get s a ha
  have hlt := bt_lt s a
  have hsz : (szOf (bt s a) = 1 + 1 ∧ leadOf (bt s a) = bt s a % 32) ∨ (szOf (bt s a) = 2 + 1 ∧ leadOf (bt s a) = bt s a % 16) ∨ (szOf (bt s a) = 3 + 1 ∧ leadOf (bt s a) = bt s a % 8) := by
    unfold szOf leadOf; repeat' split
    all_goals simp
  have hnv : needV (bt s a) = (szOf (bt s a) - 1, (secOf (bt s a)).1, (secOf (bt s a)).2, true) := by unfold needV; rw [if_neg (by omega), if_neg hx]
  have HC := hide (need_any (bt s a) hlt)
  rw [hnv] at HC
  obtain ⟨lo, hlo⟩ : ∃ lo, (secOf (bt s a)).1 = lo := ⟨_, rfl⟩
  obtain ⟨hi, hhi⟩ : ∃ hi, (secOf (bt s a)).2 = hi := ⟨_, rfl⟩
  obtain ⟨z, hz⟩ : ∃ z, szOf (bt s a) = z := ⟨_, rfl⟩
  rw [hlo, hhi] at hgo hq HC
  rw [hz] at hsz HC hGG hBB
  clear hnv hb0 hpos hx hlo hhi hz
  obtain ⟨b, eb⟩ : ∃ b, (s[a]'ha).toNat = b := ⟨_, rfl⟩
  rw [hgb, eb] at hlt HC ha1 hsz
  have h' : ¬ (s.size : Int) ≤ (a : Int) := by omega
  have hl : (a : Int) < (s.size : Int) := by omega
  have HGG := hide hGG
  have HBB := hide hBB
  have HGO := hide hgo
  have HAC := hide hac
  clear hGG hBB hgo hac hgb
  have hlo2 : 128 ≤ lo ∧ lo ≤ 191 ∧ 128 ≤ hi ∧ hi ≤ 191 := by omega
  clear hq
  obtain ⟨N, rfl⟩ : ∃ N, z = N + 1 := ⟨z - 1, by omega⟩
  have hN : 1 ≤ N ∧ N ≤ 3 := by omega
  have HINI : Hz (accOf (rst s a) 1 < 32) := hide (by omega)
  simp only [Nat.add_sub_cancel] at HC
  rcases hsz with ⟨hz, hl1⟩ | ⟨hz, hl1⟩ | ⟨hz, hl1⟩
  all_goals
    rw [hl1] at ha1
    have n1 : ((N : Int) == 1) = decide (N = 1) := by cases hd : decide (N = 1) <;> simp at hd ⊢ <;> omega
    have n2 : ((N : Int) == 2) = decide (N = 2) := by cases hd : decide (N = 2) <;> simp at hd ⊢ <;> omega
    have n3 : ((N : Int) == 3) = decide (N = 3) := by cases hd : decide (N = 3) <;> simp at hd ⊢ <;> omega
    first | rw [decide_eq_true (by omega)] at n1 | rw [decide_eq_false (by omega)] at n1
    first | rw [decide_eq_true (by omega)] at n2 | rw [decide_eq_false (by omega)] at n2
    first | rw [decide_eq_true (by omega)] at n3 | rw [decide_eq_false (by omega)] at n3
    have HA1 := hide ha1
    clear hl1 ha1 hz
    go_enter Tryz.func26, Tryz.ntmps26
    go_wp2_with fail
    refine (unhide HC _).mono ?_
    rintro e w1 ⟨rfl, rfl⟩
    go_wp2_with fail
    first | rw [and31 b hlt] | rw [and15c b hlt] | rw [and7c b hlt]
    rw [← unhide HA1]
    clear HA1 HC n1 n2 n3 hlo2 eb hlt hl h'
    go_loop [8, 9, 11, 12] (fun l h r i => ∃ K L H : Nat, 1 ≤ K ∧ K ≤ N + 1 ∧ i = .int .i64 K ∧ r = .int .i32 (accOf (rst s a) K) ∧ l = .int .u8 L ∧ h = .int .u8 H ∧ Hz (L = if K = 1 then lo else 128) ∧ Hz (H = if K = 1 then hi else 191) ∧ Hz (∀ j, 1 ≤ j → j < K → good4 (rst s a) j = true) ∧ Hz (accOf (rst s a) K < bndOf K)) (fun _ _ _ i => N + 1 - (intOf i).toNat)
    case atStart => exact ⟨1, lo, hi, by omega, by omega, rfl, rfl, rfl, rfl, hide rfl, hide rfl, hide (fun j h1 h2 => by omega), HINI⟩
    case round =>
      obtain ⟨K, L, H, hK1, hK2, rfl, rfl, rfl, rfl, HL, HH, HGo, HA⟩ := hrel
      have hgK := unhide HGO K hK1
      rw [← unhide HL, ← unhide HH] at hgK
      by_cases hkn : K ≤ N
      · have hkn' : (K : Int) ≤ (N : Int) := by omega
        by_cases hks : a + K < s.size
        · have hks' : ¬ (s.size : Int) ≤ (a : Int) + (K : Int) := by omega
          have hks2 : (a : Int) + (K : Int) < (s.size : Int) := by omega
          have hgc := bt_get s (a + K) hks
          obtain ⟨c, ec⟩ : ∃ c, (s[a + K]'hks).toNat = c := ⟨_, rfl⟩
          rw [hgc, ec] at hgK
          by_cases hc1 : c < L
          · have hc1' : decide (c < L) = true := decide_eq_true hc1
            have HV := hide (unhide HBB K hK1 (by omega) (unhide HGo) (by rw [hgK]; exact decide_eq_false (by omega)))
            clear hgK hgc
            go_wp2_with fail
            go_ret3
            exact ⟨by rw [unhide HV]; rfl, rfl⟩
          · have hc1' : ¬ c < L := hc1
            by_cases hc2 : H < c
            · have hc2' : decide (H < c) = true := decide_eq_true hc2
              have HV := hide (unhide HBB K hK1 (by omega) (unhide HGo) (by rw [hgK]; exact decide_eq_false (by omega)))
              clear hgK hgc
              go_wp2_with fail
              go_ret3
              exact ⟨by rw [unhide HV]; rfl, rfl⟩
            · have hst := unhide HAC K hK1
              have hcl := bt_lt s (a + K)
              rw [hgc, ec] at hst hcl
              have hA := unhide HA
              have hgd : good4 (rst s a) K = true := by rw [hgK]; exact decide_eq_true (by omega)
              have HGD := hide hgd
              generalize accOf (rst s a) K = A at hst hA
              have HST := hide hst
              have hbs := bnd_step K A c hK1 (by omega) hA
              have HBS := hide hbs
              have hcl' : Hz (c < 256) := hide hcl
              clear hgK hgc hst HA hA hgd hbs hcl hN
              go_wp2_with fail
              go_round
              case rel =>
                refine ⟨K + 1, 128, 191, by omega, by omega, by go_num, ?_, rfl, rfl, hide (by rw [if_neg (by omega)]), hide (by rw [if_neg (by omega)]), hide (fun j h1 h2 => ?_), hide ?_⟩
                · rw [unhide HST, step_add A c (unhide HBS).1 (unhide hcl')]
                · by_cases e : j = K
                  · subst e; exact unhide HGD
                  · exact unhide HGo j h1 (by omega)
                · rw [unhide HST]; exact (unhide HBS).2
              case measure => simp [intOf]; omega
        · have hks' : (s.size : Int) ≤ (a : Int) + (K : Int) := by omega
          have HV := hide (unhide HBB K hK1 (by omega) (unhide HGo) (by rw [hgK]; exact decide_eq_false (by omega)))
          clear hgK
          go_wp2_with fail
          go_ret3
          exact ⟨by rw [unhide HV]; rfl, rfl⟩
      · have hkn' : ¬ (K : Int) ≤ (N : Int) := by omega
        have hKN : K = N + 1 := by omega
        have HV : Hz (seq4V (rst s a) = (accOf (rst s a) K, N + 1, true)) := hide (by rw [hKN]; exact unhide HGG (fun j h1 h2 => unhide HGo j h1 (by omega)))
        clear hgK hKN
        go_wp2_with fail
        go_ret3
        exact ⟨by rw [unhide HV]; rfl, rfl⟩
end Go.Proofs.YtcnhkhjkeemafaaGreatDoor
/- The reference's Where. -/
namespace Go.Proofs.YtcnhkhjkeemafaaGreatDoor
open Go.RowKit Go.Shelf
set_option linter.unusedVariables false
theorem sequence_any (s : ByteArray) (hs : s.size ≤ 1099511627776) (a : Nat) (ha : a ≤ 1099511627776) (w : World) : Calls Tryz.prog 26 #[.string s, .int .i64 a] w fun e w' => e = .returned (seqR4 a (seq4V (rst s a))) ∧ w' = w := by
  by_cases h : a < s.size
  · by_cases h0 : (secOf (bt s a)).1 = 0
    · exact sequence_small s hs a ha (.inr ⟨h, by omega⟩) w
    · exact sequence_long s hs a h h0 w
  · exact sequence_small s hs a ha (.inl (by omega)) w
/-- How the reference's Where lies in memory. -/
structure WhSt (s : ByteArray) (w W : World) (k i : Nat) : Prop where
  res : Blk W w.heap.size #[.int .i64 0, .int .i64 0, .int .i64 0] 35
  cur : Blk W (w.heap.size + 1) #[.int .i64 k, .int .i64 (lcAt s i).1, .int .i64 (lcAt s i).2] 35
  bel : Below w.heap.size w W
  bd : bdB s i = true
theorem lcR_le : ∀ (zs : List Int) (x : Nat × Nat), (lcR x zs).1 ≤ x.1 + zs.length ∧ (lcR x zs).2 ≤ max x.2 1 + zs.length
  | [], x => ⟨Nat.le_refl _, by rw [lcR_nil]; simp; omega⟩
  | z :: zs, x => by
    rw [lcR_cons, List.length_cons]
    have := lcR_le zs (if z = 10 then (x.1 + 1, 1) else (x.1, x.2 + 1))
    split at this <;> (rename_i h; simp only [h, if_true, if_false] at this ⊢; omega)
theorem lcAt_le (s : ByteArray) (i : Nat) : (lcAt s i).1 ≤ 1 + min i s.size ∧ (lcAt s i).2 ≤ 1 + min i s.size := by
  have h := lcR_le (runesL (s.extract 0 i)) (1, 1)
  have h2 := starts_length (s.extract 0 i)
  rw [runesL_length] at h
  have hz : (s.extract 0 i).size = min i s.size := by rw [ByteArray.size_extract]; omega
  unfold lcAt
  simp only [] at h
  omega
set_option maxRecDepth 100000 in
set_option maxHeartbeats 4000000 in
theorem refWhere_in (s : ByteArray) (hs : s.size ≤ 1099511627776) (k : Nat) (hk : k ≤ s.size) (z : Int) (hz : (z < 0 ∧ k = 0) ∨ (¬ z < 0 ∧ (s.size : Int) < z ∧ k = s.size) ∨ (¬ z < 0 ∧ ¬ (s.size : Int) < z ∧ z = k)) (w : World) : Calls Tryz.prog 15 #[.string s, .int .i64 z] w fun e w' => e = .returned (.agg (atA k (whL s k))) ∧ Below w.heap.size w w' := by
  have HWD := hide (fun i hi => seq4_wd s i hi)
  have HST := hide (fun i h hi => lcAt_step s i h hi)
  rcases hz with ⟨h1, rfl⟩ | ⟨h1, h2, rfl⟩ | ⟨h1, h2, rfl⟩
  · clear hk
    have hw1 : whL s 0 = (1, 1) := whL_zero s
    go_enter Tryz.func15, Tryz.ntmps15
    go_wp2_with fail
    have bR : Blk ((w.alloc (.cells #[.int .i64 0, .int .i64 0, .int .i64 0] 35)).alloc (.cells #[.int .i64 0, .int .i64 1, .int .i64 1] 35)) w.heap.size #[.int .i64 0, .int .i64 0, .int .i64 0] 35 := (Blk.new w _ _).alloc _
    have bW : Blk ((w.alloc (.cells #[.int .i64 0, .int .i64 0, .int .i64 0] 35)).alloc (.cells #[.int .i64 0, .int .i64 1, .int .i64 1] 35)) (w.heap.size + 1) #[.int .i64 0, .int .i64 1, .int .i64 1] 35 := by
      have := Blk.new (w.alloc (.cells #[.int .i64 0, .int .i64 0, .int .i64 0] 35)) #[.int .i64 0, .int .i64 1, .int .i64 1] 35
      rwa [World.size_alloc] at this
    have hbl : Below w.heap.size w ((w.alloc (.cells #[.int .i64 0, .int .i64 0, .int .i64 0] 35)).alloc (.cells #[.int .i64 0, .int .i64 1, .int .i64 1] 35)) := ((Below.refl _ w).alloc (Nat.le_refl _) _).alloc (by simp) _
    generalize ((w.alloc (.cells #[.int .i64 0, .int .i64 0, .int .i64 0] 35)).alloc (.cells #[.int .i64 0, .int .i64 1, .int .i64 1] 35)) = w0 at *
    have r0 := bR.cell 0
    have r1 := bR.cell 1
    have r2 := bR.cell 2
    have rf0 := bR.frozen 0
    have rf1 := bR.frozen 1
    have rf2 := bR.frozen 2
    have c0 := bW.cell 0
    have c1 := bW.cell 1
    have c2 := bW.cell 2
    have hE := (bR.set 0 (.int .i64 0)).set 1 (.int .i64 1) |>.set 2 (.int .i64 1)
    have hBE := ((hbl.setCell (p := ⟨w.heap.size, 0, none⟩) (Nat.le_refl _) (.int .i64 0)).setCell (p := ⟨w.heap.size, 1, none⟩) (Nat.le_refl _) (.int .i64 1)).setCell (p := ⟨w.heap.size, 2, none⟩) (Nat.le_refl _) (.int .i64 1)
    have e0 := hE.cell 0
    have e1 := hE.cell 1
    have e2 := hE.cell 2
    have HBE := hide hBE
    clear hE hBE bR bW hbl
    refine wp_loop_rounds 1 ?_
    rw [rounds_succ]
    go_wp2_with fail
    exact bodyPost_ret (v := .agg #[.int .i64 0, .int .i64 1, .int .i64 1]) (by simp [results, Tryz.results15, go_sem, e0, e1, e2]) rfl ⟨by rw [hw1]; rfl, unhide HBE⟩
  · clear hk
    go_enter Tryz.func15, Tryz.ntmps15
    go_wp2_with fail
    have bR : Blk ((w.alloc (.cells #[.int .i64 0, .int .i64 0, .int .i64 0] 35)).alloc (.cells #[.int .i64 (s.size : Nat), .int .i64 1, .int .i64 1] 35)) w.heap.size #[.int .i64 0, .int .i64 0, .int .i64 0] 35 := (Blk.new w _ _).alloc _
    have bW : Blk ((w.alloc (.cells #[.int .i64 0, .int .i64 0, .int .i64 0] 35)).alloc (.cells #[.int .i64 (s.size : Nat), .int .i64 1, .int .i64 1] 35)) (w.heap.size + 1) #[.int .i64 (s.size : Nat), .int .i64 1, .int .i64 1] 35 := by
      have := Blk.new (w.alloc (.cells #[.int .i64 0, .int .i64 0, .int .i64 0] 35)) #[.int .i64 (s.size : Nat), .int .i64 1, .int .i64 1] 35
      rwa [World.size_alloc] at this
    have hbl : Below w.heap.size w ((w.alloc (.cells #[.int .i64 0, .int .i64 0, .int .i64 0] 35)).alloc (.cells #[.int .i64 (s.size : Nat), .int .i64 1, .int .i64 1] 35)) := ((Below.refl _ w).alloc (Nat.le_refl _) _).alloc (by simp) _
    generalize ((w.alloc (.cells #[.int .i64 0, .int .i64 0, .int .i64 0] 35)).alloc (.cells #[.int .i64 (s.size : Nat), .int .i64 1, .int .i64 1] 35)) = w0 at *
    have HI : Hz (WhSt s w w0 s.size 0) := hide ⟨bR, by rw [lcAt_zero]; exact bW, hbl, bd_zero s⟩
    clear bR bW hbl
    go_loopw [6, 7, 8, 9] (fun i _ _ _ wr => ∃ I : Nat, I ≤ s.size ∧ i = .int .i64 I ∧ Hz (WhSt s w wr s.size I)) (fun i _ _ _ _ => s.size - (intOf i).toNat)
    case atStart => exact ⟨0, by omega, rfl, HI⟩
    case round =>
      obtain ⟨I, hI, rfl, HS⟩ := hrel
      obtain ⟨w2, rfl⟩ : ∃ w2, w2 = wr := ⟨_, rfl⟩
      have hbR := (unhide HS).res
      have hbW := (unhide HS).cur
      have r0 := hbR.cell 0
      have r1 := hbR.cell 1
      have r2 := hbR.cell 2
      have rf0 := hbR.frozen 0
      have rf1 := hbR.frozen 1
      have rf2 := hbR.frozen 2
      by_cases hik : I < s.size
      · have hik' : (I : Int) < (s.size : Int) := by omega
        have his : (I : Int) < (s.size : Int) := by omega
        have hIs : I < s.size := by omega
        have hwd := unhide HWD I hIs
        have hst := unhide HST I (unhide HS).bd hIs
        have hsq := sequence_any s hs I (by omega)
        have hgb := bt_get s I hIs
        obtain ⟨b, eb⟩ : ∃ b, (s[I]'hIs).toNat = b := ⟨_, rfl⟩
        rw [hgb, eb] at hst
        have hwp := wd_pos s I
        have hnx := fun h => bd_step s I (unhide HS).bd h
        have hcu := fun h => cutAt_in s I s.size (unhide HS).bd (by omega) h
        obtain ⟨r, n, o, hv⟩ : ∃ r n o, seq4V (rst s I) = (r, n, o) := ⟨_, _, _, rfl⟩
        rw [hv] at hwd hsq
        obtain ⟨d, hd⟩ : ∃ d, d = wd s I := ⟨_, rfl⟩
        rw [← hd] at hwd hst hwp hnx hcu
        have hroom := wd_room s I hIs
        rw [← hd] at hroom
        obtain ⟨l, c, hlc⟩ : ∃ l c, lcAt s I = (l, c) := ⟨_, _, rfl⟩
        rw [hlc] at hbW hst
        have hb2 : (I : Int) + (d : Int) ≤ (s.size : Int) := by omega
        have hll := lcAt_le s I
        rw [hlc] at hll
        have hl2 : l ≤ s.size + 1 ∧ c ≤ s.size + 1 := by
          have : min I s.size ≤ s.size := by omega
          omega
        have HST2 := hide hst
        have HNX := hide (hnx hIs)
        have HCU := hide hcu
        have HLC := hide hlc
        have HSQ := hide hsq
        clear hgb hv hd hst hnx hcu hlc hsq hll
        have c0 := hbW.cell 0
        have c1 := hbW.cell 1
        have c2 := hbW.cell 2
        have f1 := hbW.frozen 1
        have f2 := hbW.frozen 2
        have HBW := hide hbW
        have HBR := hide hbR
        clear hbW hbR
        by_cases hend : s.size < I + d
        · exfalso; omega
        · have hend' : ¬ (s.size : Int) < (I : Int) + (d : Int) := by omega
          clear r0 r1 r2 rf0 rf1 rf2
          by_cases hb10 : b = 10
          · have hb10' : ((b : Int) == 10) = true := by rw [beq_iff_eq]; omega
            have hnew : lcAt s (I + d) = (l + 1, 1) := by rw [unhide HST2, if_pos hb10]
            have p2 := (unhide HBW).set 2 (.int .i64 ((c : Int) + 1))
            have p21 := p2.cell 1
            have p2f := p2.frozen 1
            have p3 := p2.set 1 (.int .i64 ((l : Int) + 1))
            have p3f := p3.frozen 2
            have p4 := p3.set 2 (.int .i64 1)
            have HNEW : Hz (WhSt s w (((w2.setCell ⟨w.heap.size + 1, 2, none⟩ (.int .i64 ((c : Int) + 1))).setCell ⟨w.heap.size + 1, 1, none⟩ (.int .i64 ((l : Int) + 1))).setCell ⟨w.heap.size + 1, 2, none⟩ (.int .i64 1)) s.size (I + d)) := hide ⟨(((unhide HBR).other (by omega) _).other (by omega) _).other (by omega) _, by rw [hnew]; exact p4, (((unhide HS).bel.setCell (p := ⟨w.heap.size + 1, 2, none⟩) (by simp) _).setCell (p := ⟨w.heap.size + 1, 1, none⟩) (by simp) _).setCell (p := ⟨w.heap.size + 1, 2, none⟩) (by simp) _, unhide HNX⟩
            clear hnew p2 p3 p4 HST2 HNX HCU HLC hb10
            cases o
            · have hd1 : d = 1 := by have q : I + 1 = I + d := hwd; omega
              subst hd1
              clear hwd
              go_wp2_with fail
              refine (unhide HSQ _).mono ?_
              rintro e w3 ⟨rfl, rfl⟩
              go_wp2_with fail
              go_roundw
              case rel => exact ⟨_, by omega, by go_num, HNEW⟩
              case measure => simp [intOf]; omega
            · have hd1 : d = n := by have q : I + n = I + d := hwd; omega
              subst hd1
              clear hwd
              go_wp2_with fail
              refine (unhide HSQ _).mono ?_
              rintro e w3 ⟨rfl, rfl⟩
              go_wp2_with fail
              go_roundw
              case rel => exact ⟨_, by omega, by go_num, HNEW⟩
              case measure => simp [intOf]; omega
          · have hb10' : ((b : Int) == 10) = false := by rw [beq_eq_false_iff_ne]; omega
            have hnew : lcAt s (I + d) = (l, c + 1) := by rw [unhide HST2, if_neg hb10]
            have p2 := (unhide HBW).set 2 (.int .i64 ((c : Int) + 1))
            have HNEW : Hz (WhSt s w (w2.setCell ⟨w.heap.size + 1, 2, none⟩ (.int .i64 ((c : Int) + 1))) s.size (I + d)) := hide ⟨(unhide HBR).other (by omega) _, by rw [hnew]; exact p2, (unhide HS).bel.setCell (p := ⟨w.heap.size + 1, 2, none⟩) (by simp) _, unhide HNX⟩
            clear hnew p2 HST2 HNX HCU HLC hb10
            cases o
            · have hd1 : d = 1 := by have q : I + 1 = I + d := hwd; omega
              subst hd1
              clear hwd
              go_wp2_with fail
              refine (unhide HSQ _).mono ?_
              rintro e w3 ⟨rfl, rfl⟩
              go_wp2_with fail
              go_roundw
              case rel => exact ⟨_, by omega, by go_num, HNEW⟩
              case measure => simp [intOf]; omega
            · have hd1 : d = n := by have q : I + n = I + d := hwd; omega
              subst hd1
              clear hwd
              go_wp2_with fail
              refine (unhide HSQ _).mono ?_
              rintro e w3 ⟨rfl, rfl⟩
              go_wp2_with fail
              go_roundw
              case rel => exact ⟨_, by omega, by go_num, HNEW⟩
              case measure => simp [intOf]; omega
      · have hik' : ¬ (I : Int) < (s.size : Int) := by omega
        have hIk : I = s.size := by omega
        obtain ⟨l, c, hlc⟩ : ∃ l c, lcAt s I = (l, c) := ⟨_, _, rfl⟩
        have hw1 : whL s s.size = (l, c) := by rw [whL_bd s s.size (hIk ▸ (unhide HS).bd), ← hIk, hlc]
        rw [hlc] at hbW
        have HW1 := hide hw1
        have c0 := hbW.cell 0
        have c1 := hbW.cell 1
        have c2 := hbW.cell 2
        have hE := (hbR.set 0 (.int .i64 (s.size : Nat))).set 1 (.int .i64 l) |>.set 2 (.int .i64 c)
        have hBE := (((unhide HS).bel.setCell (p := ⟨w.heap.size, 0, none⟩) (Nat.le_refl _) (.int .i64 (s.size : Nat))).setCell (p := ⟨w.heap.size, 1, none⟩) (Nat.le_refl _) (.int .i64 l)).setCell (p := ⟨w.heap.size, 2, none⟩) (Nat.le_refl _) (.int .i64 c)
        have e0 := hE.cell 0
        have e1 := hE.cell 1
        have e2 := hE.cell 2
        have HBE := hide hBE
        clear hE hBE hw1 hlc hIk hbR hbW
        go_wp2_with fail
        exact bodyPost_ret (v := .agg #[.int .i64 (s.size : Nat), .int .i64 l, .int .i64 c]) (by simp [results, Tryz.results15, go_sem, e0, e1, e2]) rfl ⟨by rw [unhide HW1], unhide HBE⟩
  · skip
    go_enter Tryz.func15, Tryz.ntmps15
    go_wp2_with fail
    have bR : Blk ((w.alloc (.cells #[.int .i64 0, .int .i64 0, .int .i64 0] 35)).alloc (.cells #[.int .i64 (k : Nat), .int .i64 1, .int .i64 1] 35)) w.heap.size #[.int .i64 0, .int .i64 0, .int .i64 0] 35 := (Blk.new w _ _).alloc _
    have bW : Blk ((w.alloc (.cells #[.int .i64 0, .int .i64 0, .int .i64 0] 35)).alloc (.cells #[.int .i64 (k : Nat), .int .i64 1, .int .i64 1] 35)) (w.heap.size + 1) #[.int .i64 (k : Nat), .int .i64 1, .int .i64 1] 35 := by
      have := Blk.new (w.alloc (.cells #[.int .i64 0, .int .i64 0, .int .i64 0] 35)) #[.int .i64 (k : Nat), .int .i64 1, .int .i64 1] 35
      rwa [World.size_alloc] at this
    have hbl : Below w.heap.size w ((w.alloc (.cells #[.int .i64 0, .int .i64 0, .int .i64 0] 35)).alloc (.cells #[.int .i64 (k : Nat), .int .i64 1, .int .i64 1] 35)) := ((Below.refl _ w).alloc (Nat.le_refl _) _).alloc (by simp) _
    generalize ((w.alloc (.cells #[.int .i64 0, .int .i64 0, .int .i64 0] 35)).alloc (.cells #[.int .i64 (k : Nat), .int .i64 1, .int .i64 1] 35)) = w0 at *
    have HI : Hz (WhSt s w w0 k 0) := hide ⟨bR, by rw [lcAt_zero]; exact bW, hbl, bd_zero s⟩
    clear bR bW hbl
    go_loopw [6, 7, 8, 9] (fun i _ _ _ wr => ∃ I : Nat, I ≤ k ∧ i = .int .i64 I ∧ Hz (WhSt s w wr k I)) (fun i _ _ _ _ => k - (intOf i).toNat)
    case atStart => exact ⟨0, by omega, rfl, HI⟩
    case round =>
      obtain ⟨I, hI, rfl, HS⟩ := hrel
      obtain ⟨w2, rfl⟩ : ∃ w2, w2 = wr := ⟨_, rfl⟩
      have hbR := (unhide HS).res
      have hbW := (unhide HS).cur
      have r0 := hbR.cell 0
      have r1 := hbR.cell 1
      have r2 := hbR.cell 2
      have rf0 := hbR.frozen 0
      have rf1 := hbR.frozen 1
      have rf2 := hbR.frozen 2
      by_cases hik : I < k
      · have hik' : (I : Int) < (k : Int) := by omega
        have his : (I : Int) < (s.size : Int) := by omega
        have hIs : I < s.size := by omega
        have hwd := unhide HWD I hIs
        have hst := unhide HST I (unhide HS).bd hIs
        have hsq := sequence_any s hs I (by omega)
        have hgb := bt_get s I hIs
        obtain ⟨b, eb⟩ : ∃ b, (s[I]'hIs).toNat = b := ⟨_, rfl⟩
        rw [hgb, eb] at hst
        have hwp := wd_pos s I
        have hnx := fun h => bd_step s I (unhide HS).bd h
        have hcu := fun h => cutAt_in s I k (unhide HS).bd (by omega) h
        obtain ⟨r, n, o, hv⟩ : ∃ r n o, seq4V (rst s I) = (r, n, o) := ⟨_, _, _, rfl⟩
        rw [hv] at hwd hsq
        obtain ⟨d, hd⟩ : ∃ d, d = wd s I := ⟨_, rfl⟩
        rw [← hd] at hwd hst hwp hnx hcu
        have hroom := wd_room s I hIs
        rw [← hd] at hroom
        obtain ⟨l, c, hlc⟩ : ∃ l c, lcAt s I = (l, c) := ⟨_, _, rfl⟩
        rw [hlc] at hbW hst
        have hb2 : (I : Int) + (d : Int) ≤ (s.size : Int) := by omega
        have hll := lcAt_le s I
        rw [hlc] at hll
        have hl2 : l ≤ s.size + 1 ∧ c ≤ s.size + 1 := by
          have : min I s.size ≤ s.size := by omega
          omega
        have HST2 := hide hst
        have HNX := hide (hnx hIs)
        have HCU := hide hcu
        have HLC := hide hlc
        have HSQ := hide hsq
        clear hgb hv hd hst hnx hcu hlc hsq hll
        have c0 := hbW.cell 0
        have c1 := hbW.cell 1
        have c2 := hbW.cell 2
        have f1 := hbW.frozen 1
        have f2 := hbW.frozen 2
        have HBW := hide hbW
        have HBR := hide hbR
        clear hbW hbR
        by_cases hend : k < I + d
        · have hend' : (k : Int) < (I : Int) + (d : Int) := by omega
          have hw1 : whL s k = (l, c) := by rw [whL_at, unhide HCU hend, unhide HLC]
          have HW1 := hide hw1
          clear hw1 HST2 HNX
          have hE := ((unhide HBR).set 0 (.int .i64 (k : Nat))).set 1 (.int .i64 l) |>.set 2 (.int .i64 c)
          have hBE := (((unhide HS).bel.setCell (p := ⟨w.heap.size, 0, none⟩) (Nat.le_refl _) (.int .i64 (k : Nat))).setCell (p := ⟨w.heap.size, 1, none⟩) (Nat.le_refl _) (.int .i64 l)).setCell (p := ⟨w.heap.size, 2, none⟩) (Nat.le_refl _) (.int .i64 c)
          have e0 := hE.cell 0
          have e1 := hE.cell 1
          have e2 := hE.cell 2
          have HBE := hide hBE
          clear hE hBE
          cases o
          · exfalso
            have q : I + 1 = I + d := hwd
            omega
          · have hd1 : d = n := by have q : I + n = I + d := hwd; omega
            subst hd1
            clear hwd
            go_wp2_with fail
            refine (unhide HSQ _).mono ?_
            rintro e w3 ⟨rfl, rfl⟩
            go_wp2_with fail
            exact bodyPost_ret (v := .agg #[.int .i64 (k : Nat), .int .i64 l, .int .i64 c]) (by simp [results, Tryz.results15, go_sem, e0, e1, e2]) rfl ⟨by rw [unhide HW1], unhide HBE⟩
        · have hend' : ¬ (k : Int) < (I : Int) + (d : Int) := by omega
          clear r0 r1 r2 rf0 rf1 rf2
          by_cases hb10 : b = 10
          · have hb10' : ((b : Int) == 10) = true := by rw [beq_iff_eq]; omega
            have hnew : lcAt s (I + d) = (l + 1, 1) := by rw [unhide HST2, if_pos hb10]
            have p2 := (unhide HBW).set 2 (.int .i64 ((c : Int) + 1))
            have p21 := p2.cell 1
            have p2f := p2.frozen 1
            have p3 := p2.set 1 (.int .i64 ((l : Int) + 1))
            have p3f := p3.frozen 2
            have p4 := p3.set 2 (.int .i64 1)
            have HNEW : Hz (WhSt s w (((w2.setCell ⟨w.heap.size + 1, 2, none⟩ (.int .i64 ((c : Int) + 1))).setCell ⟨w.heap.size + 1, 1, none⟩ (.int .i64 ((l : Int) + 1))).setCell ⟨w.heap.size + 1, 2, none⟩ (.int .i64 1)) k (I + d)) := hide ⟨(((unhide HBR).other (by omega) _).other (by omega) _).other (by omega) _, by rw [hnew]; exact p4, (((unhide HS).bel.setCell (p := ⟨w.heap.size + 1, 2, none⟩) (by simp) _).setCell (p := ⟨w.heap.size + 1, 1, none⟩) (by simp) _).setCell (p := ⟨w.heap.size + 1, 2, none⟩) (by simp) _, unhide HNX⟩
            clear hnew p2 p3 p4 HST2 HNX HCU HLC hb10
            cases o
            · have hd1 : d = 1 := by have q : I + 1 = I + d := hwd; omega
              subst hd1
              clear hwd
              go_wp2_with fail
              refine (unhide HSQ _).mono ?_
              rintro e w3 ⟨rfl, rfl⟩
              go_wp2_with fail
              go_roundw
              case rel => exact ⟨_, by omega, by go_num, HNEW⟩
              case measure => simp [intOf]; omega
            · have hd1 : d = n := by have q : I + n = I + d := hwd; omega
              subst hd1
              clear hwd
              go_wp2_with fail
              refine (unhide HSQ _).mono ?_
              rintro e w3 ⟨rfl, rfl⟩
              go_wp2_with fail
              go_roundw
              case rel => exact ⟨_, by omega, by go_num, HNEW⟩
              case measure => simp [intOf]; omega
          · have hb10' : ((b : Int) == 10) = false := by rw [beq_eq_false_iff_ne]; omega
            have hnew : lcAt s (I + d) = (l, c + 1) := by rw [unhide HST2, if_neg hb10]
            have p2 := (unhide HBW).set 2 (.int .i64 ((c : Int) + 1))
            have HNEW : Hz (WhSt s w (w2.setCell ⟨w.heap.size + 1, 2, none⟩ (.int .i64 ((c : Int) + 1))) k (I + d)) := hide ⟨(unhide HBR).other (by omega) _, by rw [hnew]; exact p2, (unhide HS).bel.setCell (p := ⟨w.heap.size + 1, 2, none⟩) (by simp) _, unhide HNX⟩
            clear hnew p2 HST2 HNX HCU HLC hb10
            cases o
            · have hd1 : d = 1 := by have q : I + 1 = I + d := hwd; omega
              subst hd1
              clear hwd
              go_wp2_with fail
              refine (unhide HSQ _).mono ?_
              rintro e w3 ⟨rfl, rfl⟩
              go_wp2_with fail
              go_roundw
              case rel => exact ⟨_, by omega, by go_num, HNEW⟩
              case measure => simp [intOf]; omega
            · have hd1 : d = n := by have q : I + n = I + d := hwd; omega
              subst hd1
              clear hwd
              go_wp2_with fail
              refine (unhide HSQ _).mono ?_
              rintro e w3 ⟨rfl, rfl⟩
              go_wp2_with fail
              go_roundw
              case rel => exact ⟨_, by omega, by go_num, HNEW⟩
              case measure => simp [intOf]; omega
      · have hik' : ¬ (I : Int) < (k : Int) := by omega
        have hIk : I = k := by omega
        obtain ⟨l, c, hlc⟩ : ∃ l c, lcAt s I = (l, c) := ⟨_, _, rfl⟩
        have hw1 : whL s k = (l, c) := by rw [whL_bd s k (hIk ▸ (unhide HS).bd), ← hIk, hlc]
        rw [hlc] at hbW
        have HW1 := hide hw1
        have c0 := hbW.cell 0
        have c1 := hbW.cell 1
        have c2 := hbW.cell 2
        have hE := (hbR.set 0 (.int .i64 (k : Nat))).set 1 (.int .i64 l) |>.set 2 (.int .i64 c)
        have hBE := (((unhide HS).bel.setCell (p := ⟨w.heap.size, 0, none⟩) (Nat.le_refl _) (.int .i64 (k : Nat))).setCell (p := ⟨w.heap.size, 1, none⟩) (Nat.le_refl _) (.int .i64 l)).setCell (p := ⟨w.heap.size, 2, none⟩) (Nat.le_refl _) (.int .i64 c)
        have e0 := hE.cell 0
        have e1 := hE.cell 1
        have e2 := hE.cell 2
        have HBE := hide hBE
        clear hE hBE hw1 hlc hIk hbR hbW
        go_wp2_with fail
        exact bodyPost_ret (v := .agg #[.int .i64 (k : Nat), .int .i64 l, .int .i64 c]) (by simp [results, Tryz.results15, go_sem, e0, e1, e2]) rfl ⟨by rw [unhide HW1], unhide HBE⟩
end Go.Proofs.YtcnhkhjkeemafaaGreatDoor
/- The reference's blank. -/
namespace Go.Proofs.YtcnhkhjkeemafaaGreatDoor
open Go.RowKit Go.Shelf
set_option linter.unusedVariables false
/-- What is left of the blanks and remarks at a place. -/
def blA (s : ByteArray) (r : Bool) (p : Nat) : Nat × Bool := if r = true then remA s p else gapA s p
theorem blA_end (s : ByteArray) (r : Bool) (p : Nat) (h : p = s.size) : blA s r p = (p, true) := by
  unfold blA
  split
  · exact remA_end s p h
  · exact gapA_end s p (by omega) (by omega)
theorem seq4_cases (s : ByteArray) (p : Nat) (h : p < s.size) : (badB s p = true ∧ seq4V (rst s p) = (0, begLen (rst s p), false)) ∨ (badB s p = false ∧ seq4V (rst s p) = (rn s p, wd s p, true)) := by
  have hd : Utf8.decode (rst s p) 0 = Utf8.decode s p := decode_suffix s p 0 (by omega)
  have hb : badB (rst s p) 0 = badB s p := by unfold badB; simp only [rn, wd, hd]
  have hz := rst_size s p
  cases q : badB s p with
  | true => exact .inl ⟨rfl, by unfold seq4V; rw [if_neg (by omega), hb, q, if_pos rfl]⟩
  | false => exact .inr ⟨rfl, by unfold seq4V; rw [if_neg (by omega), hb, q, if_neg (by decide)]; simp only [rn, wd, hd]⟩
theorem blA_seq_bad (s : ByteArray) (p : Nat) (h : p < s.size) (r n : Nat) (hv : seq4V (rst s p) = (r, n, false)) : blA s true p = (p + n, false) := by
  rcases seq4_cases s p h with ⟨h1, h2⟩ | ⟨h1, h2⟩
  · rw [hv, Prod.mk.injEq, Prod.mk.injEq] at h2
    unfold blA
    rw [if_pos rfl, remA_bad s p h h1, h2.2.1]
  · rw [hv, Prod.mk.injEq, Prod.mk.injEq] at h2
    cases h2.2.2
theorem blA_seq_ok (s : ByteArray) (p : Nat) (h : p < s.size) (r n : Nat) (hv : seq4V (rst s p) = (r, n, true)) : 1 ≤ n ∧ p + n ≤ s.size ∧ blA s true p = blA s (!decide (bt s p = 10)) (p + n) := by
  rcases seq4_cases s p h with ⟨h1, h2⟩ | ⟨h1, h2⟩
  · rw [hv, Prod.mk.injEq, Prod.mk.injEq] at h2
    cases h2.2.2
  · rw [hv, Prod.mk.injEq, Prod.mk.injEq] at h2
    have hn : n = wd s p := h2.2.1
    have hr := wd_room s p h
    have hp := wd_pos s p
    refine ⟨by omega, by omega, ?_⟩
    unfold blA
    rw [if_pos rfl, hn]
    by_cases e : bt s p = 10
    · have hw : wd s p = 1 := by
        rcases Nat.lt_or_ge (wd s p) 2 with q | q
        · omega
        · have := wd_lead s p q; omega
      rw [decide_eq_true e, hw, if_neg (by decide)]
      exact remA_nl s p h e
    · rw [decide_eq_false e, if_pos (by decide)]
      exact remA_spot s p h e h1
set_option maxRecDepth 100000 in
set_option maxHeartbeats 8000000 in
theorem blank_any (s : ByteArray) (hs : s.size ≤ 1099511627776) (a : Nat) (ha : a ≤ s.size) (w : World) : Calls Tryz.prog 24 #[.string s, .int .i64 a] w fun e w' => e = .returned (.tuple #[.int .i64 (gapA s a).1, .bool (gapA s a).2]) ∧ w' = w := by
  obtain ⟨q, o, hq⟩ : ∃ q o, gapA s a = (q, o) := ⟨_, _, rfl⟩
  rw [hq]
  have HQ := hide hq
  clear hq
  go_enter Tryz.func24, Tryz.ntmps24
  go_wp2_with fail
  go_loop [1, 6, 7, 8, 9] (fun x r _ _ _ => ∃ (p : Nat) (b : Bool), p ≤ s.size ∧ x = .int .i64 p ∧ r = .bool b ∧ Hz (blA s b p = (q, o))) (fun x _ _ _ _ => s.size - (intOf x).toNat)
  case atStart => exact ⟨a, false, ha, rfl, rfl, hide (by unfold blA; rw [if_neg (by decide)]; exact unhide HQ)⟩
  case round =>
    obtain ⟨p, b, hp, rfl, rfl, HB⟩ := hrel
    by_cases hps : p < s.size
    · have hps' : (p : Int) < (s.size : Int) := by omega
      have hgb := bt_get s p hps
      obtain ⟨c, ec⟩ : ∃ c, (s[p]'hps).toNat = c := ⟨_, rfl⟩
      rw [ec] at hgb
      cases b
      · have hcase : (c = 9 ∨ c = 10 ∨ c = 13 ∨ c = 32) ∨ c = 35 ∨ (c ≠ 9 ∧ c ≠ 10 ∧ c ≠ 13 ∧ c ≠ 32 ∧ c ≠ 35) := by omega
        rcases hcase with hc | hc | hc
        · have HN : Hz (blA s false (p + 1) = (q, o)) := hide (by
            have := unhide HB
            unfold blA at this ⊢
            rw [if_neg (by decide)] at this ⊢
            rw [← gapA_blank s p hps (by rw [hgb]; unfold blankB; exact decide_eq_true hc)]
            exact this)
          clear hgb HB HQ
          rcases hc with rfl | rfl | rfl | rfl
          all_goals
            go_wp2_with fail
            go_round
            case rel => exact ⟨p + 1, false, by omega, by go_num, rfl, HN⟩
            case measure => simp [intOf]; omega
        · have HN : Hz (blA s true (p + 1) = (q, o)) := hide (by
            have := unhide HB
            unfold blA at this ⊢
            rw [if_neg (by decide)] at this
            rw [if_pos rfl, ← gapA_rem s p hps (by rw [hgb]; exact hc)]
            exact this)
          clear hgb HB HQ
          subst hc
          go_wp2_with fail
          go_round
          case rel => exact ⟨p + 1, true, by omega, by go_num, rfl, HN⟩
          case measure => simp [intOf]; omega
        · have hq : (p, true) = (q, o) := by
            have := unhide HB
            unfold blA at this
            rw [if_neg (by decide), gapA_stop s p hps (by rw [hgb]; unfold blankB; exact decide_eq_false (by omega)) (by rw [hgb]; exact hc.2.2.2.2)] at this
            exact this
          obtain ⟨rfl, rfl⟩ := Prod.mk.inj hq
          obtain ⟨c1, c2, c3, c4, c5⟩ := hc
          have d1 : ((c : Int) != 9) = true := by simp; omega
          have d2 : ((c : Int) != 10) = true := by simp; omega
          have d3 : ((c : Int) != 13) = true := by simp; omega
          have d4 : ((c : Int) != 32) = true := by simp; omega
          have d5 : ((c : Int) != 35) = true := by simp; omega
          clear hgb HB HQ hq c1 c2 c3 c4 c5
          go_wp2_with fail
          go_ret2
          exact ⟨rfl, rfl⟩
      · obtain ⟨r, n, ok, hv⟩ : ∃ r n ok, seq4V (rst s p) = (r, n, ok) := ⟨_, _, _, rfl⟩
        have HSQ := hide (sequence_any s hs p (by omega))
        rw [hv] at HSQ
        cases ok
        · have hq := blA_seq_bad s p hps r n hv
          rw [unhide HB] at hq
          obtain ⟨rfl, rfl⟩ := Prod.mk.inj hq
          clear hgb HB HQ hq hv
          go_wp2_with fail
          refine (unhide HSQ _).mono ?_
          rintro e w1 ⟨rfl, rfl⟩
          go_wp2_with fail
          go_ret2
          exact ⟨rfl, rfl⟩
        · obtain ⟨hn1, hn2, hn3⟩ := blA_seq_ok s p hps r n hv
          rw [unhide HB, hgb] at hn3
          have hnb : (p : Int) + (n : Int) ≤ (s.size : Int) := by omega
          by_cases h10 : c = 10
          · rw [decide_eq_true h10] at hn3
            have HN : Hz (blA s false (p + n) = (q, o)) := hide hn3.symm
            subst h10
            clear hgb HB HQ hn3 hv
            go_wp2_with fail
            refine (unhide HSQ _).mono ?_
            rintro e w1 ⟨rfl, rfl⟩
            go_wp2_with fail
            go_round
            case rel => exact ⟨p + n, false, by omega, by go_num, rfl, HN⟩
            case measure => simp [intOf]; omega
          · rw [decide_eq_false h10] at hn3
            have HN : Hz (blA s true (p + n) = (q, o)) := hide hn3.symm
            have d2 : ((c : Int) != 10) = true := by simp; omega
            clear hgb HB HQ hn3 hv h10
            go_wp2_with fail
            refine (unhide HSQ _).mono ?_
            rintro e w1 ⟨rfl, rfl⟩
            go_wp2_with fail
            go_round
            case rel => exact ⟨p + n, true, by omega, by go_num, rfl, HN⟩
            case measure => simp [intOf]; omega
    · have hps' : ¬ (p : Int) < (s.size : Int) := by omega
      have hq := blA_end s b p (by omega)
      rw [unhide HB] at hq
      obtain ⟨rfl, rfl⟩ := Prod.mk.inj hq
      clear HB HQ hq
      go_wp2_with fail
      go_ret2
      exact ⟨rfl, rfl⟩
end Go.Proofs.YtcnhkhjkeemafaaGreatDoor
/- The reference's small, digit, hex, close, scalar, number, quoted. -/
namespace Go.Proofs.YtcnhkhjkeemafaaGreatDoor
open Go.RowKit Go.Shelf
set_option linter.unusedVariables false
theorem small_ref (c : Nat) (hc : c < 256) (w : World) : Calls Tryz.prog 52 #[.int .u8 c] w fun e w' => e = .returned (.bool (smallB c)) ∧ w' = w := by
  by_cases h1 : 97 ≤ c
  · by_cases h2 : c ≤ 122
    · rw [show smallB c = true from decide_eq_true ⟨h1, h2⟩]
      go_enter Tryz.func52, Tryz.ntmps52
      go_wp2
      go_ret
      exact ⟨by first | rfl | (simp; omega), rfl⟩
    · rw [show smallB c = false from decide_eq_false (by omega)]
      go_enter Tryz.func52, Tryz.ntmps52
      go_wp2
      go_ret
      exact ⟨by first | rfl | (simp; omega), rfl⟩
  · rw [show smallB c = false from decide_eq_false (by omega)]
    go_enter Tryz.func52, Tryz.ntmps52
    go_wp2
    go_ret
    exact ⟨by first | rfl | (simp; omega), rfl⟩
theorem digit_ref (c : Nat) (hc : c < 256) (w : World) : Calls Tryz.prog 53 #[.int .u8 c] w fun e w' => e = .returned (.bool (digB c)) ∧ w' = w := by
  by_cases h1 : 48 ≤ c
  · by_cases h2 : c ≤ 57
    · rw [show digB c = true from decide_eq_true ⟨h1, h2⟩]
      go_enter Tryz.func53, Tryz.ntmps53
      go_wp2
      go_ret
      exact ⟨by first | rfl | (simp; omega), rfl⟩
    · rw [show digB c = false from decide_eq_false (by omega)]
      go_enter Tryz.func53, Tryz.ntmps53
      go_wp2
      go_ret
      exact ⟨by first | rfl | (simp; omega), rfl⟩
  · rw [show digB c = false from decide_eq_false (by omega)]
    go_enter Tryz.func53, Tryz.ntmps53
    go_wp2
    go_ret
    exact ⟨by first | rfl | (simp; omega), rfl⟩
def hexB (c : Nat) : Bool := digB c || decide (65 ≤ c ∧ c ≤ 70)
theorem hexB_iff (c : Nat) : hexB c = true ↔ 0 ≤ hexI c := by
  unfold hexB digB hexI
  simp only [Bool.or_eq_true, decide_eq_true_eq]
  constructor
  · intro h; split <;> (try split) <;> omega
  · intro h; split at h <;> (try split at h) <;> omega
theorem hex_ref (c : Nat) (hc : c < 256) (w : World) : Calls Tryz.prog 83 #[.int .u8 c] w fun e w' => e = .returned (.bool (hexB c)) ∧ w' = w := by
  have HD := hide (digit_ref c hc)
  unfold hexB
  cases hd : digB c
  · rw [hd] at HD
    by_cases h1 : 65 ≤ c
    · by_cases h2 : c ≤ 70
      · rw [decide_eq_true ⟨h1, h2⟩]
        go_enter Tryz.func83, Tryz.ntmps83
        go_wp2_with fail
        refine (unhide HD _).mono ?_
        rintro e w1 ⟨rfl, rfl⟩
        go_wp2
        go_ret
        exact ⟨by first | rfl | (simp; omega), rfl⟩
      · rw [decide_eq_false (by omega)]
        go_enter Tryz.func83, Tryz.ntmps83
        go_wp2_with fail
        refine (unhide HD _).mono ?_
        rintro e w1 ⟨rfl, rfl⟩
        go_wp2
        go_ret
        exact ⟨by first | rfl | (simp; omega), rfl⟩
    · rw [decide_eq_false (by omega)]
      go_enter Tryz.func83, Tryz.ntmps83
      go_wp2_with fail
      refine (unhide HD _).mono ?_
      rintro e w1 ⟨rfl, rfl⟩
      go_wp2
      go_ret
      exact ⟨by first | rfl | (simp; omega), rfl⟩
  · rw [hd] at HD
    go_enter Tryz.func83, Tryz.ntmps83
    go_wp2_with fail
    refine (unhide HD _).mono ?_
    rintro e w1 ⟨rfl, rfl⟩
    go_wp2
    go_ret
    exact ⟨by first | rfl | (simp; omega), rfl⟩
set_option maxRecDepth 100000 in
set_option maxHeartbeats 4000000 in
theorem close_ref (c : Nat) (hc : c < 256) (w : World) : Calls Tryz.prog 57 #[.int .u8 c] w fun e w' => e = .returned (.bool (stkB c)) ∧ w' = w := by
  have HS := hide (small_ref c hc)
  have HD := hide (digit_ref c hc)
  have hv : stkB c = (smallB c || (digB c || decide ((65 ≤ c ∧ c ≤ 90) ∨ c = 45 ∨ c = 95))) := by
    unfold stkB inNB
    cases smallB c <;> cases digB c <;> simp <;> (try omega)
    by_cases a : c = 45 <;> by_cases b : 65 ≤ c ∧ c ≤ 90 <;> by_cases d : c = 95 <;> simp_all
  rw [hv]
  clear hv
  cases hs : smallB c
  · rw [hs] at HS
    cases hd : digB c
    · rw [hd] at HD
      have hcase : (65 ≤ c ∧ c ≤ 90) ∨ (¬ 65 ≤ c ∧ c = 45) ∨ (65 ≤ c ∧ ¬ c ≤ 90 ∧ c = 95) ∨ (¬ 65 ≤ c ∧ c ≠ 45) ∨ (65 ≤ c ∧ ¬ c ≤ 90 ∧ c ≠ 95) := by omega
      have hR : ∀ b : Bool, decide ((65 ≤ c ∧ c ≤ 90) ∨ c = 45 ∨ c = 95) = b → (false || (false || decide ((65 ≤ c ∧ c ≤ 90) ∨ c = 45 ∨ c = 95))) = b := fun b h => by simpa using h
      rcases hcase with ⟨h1, h2⟩ | ⟨h1, rfl⟩ | ⟨h1, h2, rfl⟩ | ⟨h1, h2⟩ | ⟨h1, h2, h3⟩
      · rw [hR true (decide_eq_true (.inl ⟨h1, h2⟩))]
        clear hR
        go_enter Tryz.func57, Tryz.ntmps57
        go_wp2_with fail
        refine (unhide HS _).mono ?_
        rintro e w1 ⟨rfl, rfl⟩
        go_wp2_with fail
        refine (unhide HD _).mono ?_
        rintro e w1 ⟨rfl, rfl⟩
        go_wp2
        go_ret
        exact ⟨by first | rfl | (simp; omega), rfl⟩
      · rw [hR true (by decide)]
        clear hR
        go_enter Tryz.func57, Tryz.ntmps57
        go_wp2_with fail
        refine (unhide HS _).mono ?_
        rintro e w1 ⟨rfl, rfl⟩
        go_wp2_with fail
        refine (unhide HD _).mono ?_
        rintro e w1 ⟨rfl, rfl⟩
        go_wp2
        go_ret
        exact ⟨by first | rfl | (simp; omega), rfl⟩
      · rw [hR true (by decide)]
        clear hR
        go_enter Tryz.func57, Tryz.ntmps57
        go_wp2_with fail
        refine (unhide HS _).mono ?_
        rintro e w1 ⟨rfl, rfl⟩
        go_wp2_with fail
        refine (unhide HD _).mono ?_
        rintro e w1 ⟨rfl, rfl⟩
        go_wp2
        go_ret
        exact ⟨by first | rfl | (simp; omega), rfl⟩
      · rw [hR false (decide_eq_false (by omega))]
        have d1 : ((c : Int) == 45) = false := by simp; omega
        have d2 : ((c : Int) == 95) = false := by simp; omega
        clear hR h2
        go_enter Tryz.func57, Tryz.ntmps57
        go_wp2_with fail
        refine (unhide HS _).mono ?_
        rintro e w1 ⟨rfl, rfl⟩
        go_wp2_with fail
        refine (unhide HD _).mono ?_
        rintro e w1 ⟨rfl, rfl⟩
        go_wp2
        go_ret
        exact ⟨by first | rfl | (simp; omega), rfl⟩
      · rw [hR false (decide_eq_false (by omega))]
        have d1 : ((c : Int) == 45) = false := by simp; omega
        have d2 : ((c : Int) == 95) = false := by simp; omega
        clear hR h3
        go_enter Tryz.func57, Tryz.ntmps57
        go_wp2_with fail
        refine (unhide HS _).mono ?_
        rintro e w1 ⟨rfl, rfl⟩
        go_wp2_with fail
        refine (unhide HD _).mono ?_
        rintro e w1 ⟨rfl, rfl⟩
        go_wp2
        go_ret
        exact ⟨by first | rfl | (simp; omega), rfl⟩
    · rw [hd] at HD
      go_enter Tryz.func57, Tryz.ntmps57
      go_wp2_with fail
      refine (unhide HS _).mono ?_
      rintro e w1 ⟨rfl, rfl⟩
      go_wp2_with fail
      refine (unhide HD _).mono ?_
      rintro e w1 ⟨rfl, rfl⟩
      go_wp2
      go_ret
      exact ⟨by first | rfl | (simp; omega), rfl⟩
  · rw [hs] at HS
    go_enter Tryz.func57, Tryz.ntmps57
    go_wp2_with fail
    refine (unhide HS _).mono ?_
    rintro e w1 ⟨rfl, rfl⟩
    go_wp2
    go_ret
    exact ⟨by first | rfl | (simp; omega), rfl⟩
end Go.Proofs.YtcnhkhjkeemafaaGreatDoor
/- The reference's number and quoted. -/
namespace Go.Proofs.YtcnhkhjkeemafaaGreatDoor
open Go.RowKit Go.Shelf
set_option linter.unusedVariables false
/-- May what ends here end? No digit goes on. -/
def noDig (s : ByteArray) (p : Nat) : Bool := !(decide (p < s.size) && digB (bt s p))
/-- Where a number's reading stands. -/
def NumSt (t : ByteArray) (v k : Nat) : Prop := (k = 0 ∧ v = 0) ∨ (1 ≤ k ∧ numV t = numGo t v k)
set_option maxRecDepth 100000 in
set_option maxHeartbeats 8000000 in
theorem number_ref (s : ByteArray) (hs : s.size ≤ 1099511627776) (a : Nat) (ha : a < s.size) (hd : digB (bt s a) = true) (w : World) : Calls Tryz.prog 54 #[.string s, .int .i64 a] w fun e w' => e = .returned (.tuple #[.int .i64 (if noDig s (a + (numV (rst s a)).2) = true then (numV (rst s a)).1 else 0 : Nat), .int .i64 ((a + (numV (rst s a)).2 : Nat) : Int), .bool (noDig s (a + (numV (rst s a)).2))]) ∧ w' = w := by
  have hrb : ∀ k, bt (rst s a) k = bt s (a + k) := fun k => rst_at s a k (by omega)
  have hz := rst_size s a
  obtain ⟨V, N, hV⟩ : ∃ V N, numV (rst s a) = (V, N) := ⟨_, _, rfl⟩
  have hini : numV (rst s a) = numGo (rst s a) (bt s a - 48) 1 := by unfold numV; rw [hrb 0]; rfl
  have hend : ∀ v k, 1 ≤ k → numV (rst s a) = numGo (rst s a) v k → ¬ (a + k < s.size ∧ digB (bt s (a + k)) = true ∧ 0 < v ∧ v * 10 + (bt s (a + k) - 48) ≤ 65535) → V = v ∧ N = k := fun v k h1 h2 h3 => by
    rw [hV, numGo_stop (by rw [hrb]; intro q; exact h3 ⟨by omega, q.2⟩), Prod.mk.injEq] at h2
    exact h2
  have hstep : ∀ v k, 1 ≤ k → numV (rst s a) = numGo (rst s a) v k → (a + k < s.size ∧ digB (bt s (a + k)) = true ∧ 0 < v ∧ v * 10 + (bt s (a + k) - 48) ≤ 65535) → numV (rst s a) = numGo (rst s a) (v * 10 + (bt s (a + k) - 48)) (k + 1) := fun v k h1 h2 h3 => by
    rw [h2, numGo_go (by omega) (by rw [hrb]; exact h3.2.1) h3.2.2.1 (by rw [hrb]; exact h3.2.2.2), hrb]
  rw [hV]
  obtain ⟨R, hR⟩ : ∃ R, R = Value.tuple #[.int .i64 (if noDig s (a + N) = true then V else 0 : Nat), .int .i64 ((a + N : Nat) : Int), .bool (noDig s (a + N))] := ⟨_, rfl⟩
  show Calls Tryz.prog 54 #[.string s, .int .i64 a] w fun e w' => e = .returned (Value.tuple #[.int .i64 (if noDig s (a + N) = true then V else 0 : Nat), .int .i64 ((a + N : Nat) : Int), .bool (noDig s (a + N))]) ∧ w' = w
  rw [← hR]
  have hok : ∀ v k, V = v ∧ N = k → noDig s (a + k) = true → R = .tuple #[.int .i64 v, .int .i64 ((a + k : Nat) : Int), .bool true] := fun v k ⟨h1, h2⟩ h3 => by rw [hR, h1, h2, h3, if_pos rfl]
  have hno : ∀ v k, V = v ∧ N = k → noDig s (a + k) = false → R = .tuple #[.int .i64 0, .int .i64 ((a + k : Nat) : Int), .bool false] := fun v k ⟨h1, h2⟩ h3 => by rw [hR, h2, h3, if_neg (by decide)]; rfl
  have HOK := hide hok
  have HNO := hide hno
  have HV := hide hV
  have HINI := hide hini
  have HEND := hide hend
  have HSTEP := hide hstep
  have HD0 := hide hd
  clear hV hini hend hstep hrb hz hd hR hok hno
  go_enter Tryz.func54, Tryz.ntmps54
  go_wp2_with fail
  go_loop [1, 7] (fun x n => ∃ p v k : Nat, p ≤ s.size ∧ a ≤ p ∧ v ≤ 65535 ∧ x = .int .i64 p ∧ n = .int .i64 v ∧ Hz (p = a + k) ∧ Hz (NumSt (rst s a) v k)) (fun x _ => s.size - (intOf x).toNat)
  case atStart => exact ⟨a, 0, 0, by omega, by omega, by omega, rfl, rfl, hide rfl, hide (.inl ⟨rfl, rfl⟩)⟩
  case round =>
    obtain ⟨p, v, k, hp, hap, hv, rfl, rfl, HPK, HS⟩ := hrel
    by_cases hps : p < s.size
    · have hps' : (p : Int) < (s.size : Int) := by omega
      have hgb := bt_get s p hps
      have hcl := bt_lt s p
      obtain ⟨c, ec⟩ : ∃ c, (s[p]'hps).toNat = c := ⟨_, rfl⟩
      rw [hgb, ec] at hcl
      rw [ec] at hgb
      have HDG := hide (digit_ref c hcl)
      cases hdc : digB c
      · rw [hdc] at HDG
        have hk1 : 1 ≤ k ∧ numV (rst s a) = numGo (rst s a) v k := by
          rcases unhide HS with h | h
          · exfalso
            have := unhide HD0
            have e := unhide HPK
            rw [h.1, Nat.add_zero] at e
            rw [← e, hgb, hdc] at this
            cases this
          · exact h
        have hq := unhide HEND v k hk1.1 hk1.2 (by rw [← unhide HPK, hgb, hdc]; exact fun q => by cases q.2.1)
        have HF := hide (unhide HOK v k hq (by rw [← unhide HPK]; unfold noDig; rw [hgb, hdc]; simp))
        rw [← unhide HPK] at HF
        clear hgb hk1 hq hdc
        go_wp2_with fail
        refine (unhide HDG _).mono ?_
        rintro e w1 ⟨rfl, rfl⟩
        go_wp2_with fail
        go_ret3
        exact ⟨by rw [unhide HF]; rfl, rfl⟩
      · rw [hdc] at HDG
        have hc2 := digB_iff.1 hdc
        have hnd : noDig s p = false := by unfold noDig; rw [hgb, hdc, decide_eq_true hps]; rfl
        by_cases hk0 : k = 0
        · have hv0 : v = 0 := by
            rcases unhide HS with h | h
            · exact h.2
            · omega
          have hpa : p = a := by have := unhide HPK; omega
          subst hv0
          subst hpa
          have HN : Hz (NumSt (rst s p) (c - 48) 1) := hide (.inr ⟨by omega, by rw [unhide HINI, hgb]⟩)
          have hc3 : ((c - 48 : Nat) : Int) = (c : Int) - 48 := by omega
          have hc4 : ¬ (65535 : Int) < (c : Int) - 48 := by omega
          clear hgb hnd HS hdc
          go_wp2_with fail
          refine (unhide HDG _).mono ?_
          rintro e w1 ⟨rfl, rfl⟩
          go_wp2_with fail
          go_round
          case rel => exact ⟨p + 1, c - 48, 1, by omega, by omega, by omega, by go_num, by rw [hc3], hide rfl, HN⟩
          case measure => simp [intOf]; omega
        · have hk1 : 1 ≤ k ∧ numV (rst s a) = numGo (rst s a) v k := by
            rcases unhide HS with h | h
            · omega
            · exact h
          have hap' : (a : Int) < (p : Int) := by have := unhide HPK; omega
          have hc3 : ((c - 48 : Nat) : Int) = (c : Int) - 48 := by omega
          by_cases hv0 : v = 0
          · subst hv0
            have hq := unhide HEND 0 k hk1.1 hk1.2 (by omega)
            have HF := hide (unhide HNO 0 k hq (by rw [← unhide HPK]; exact hnd))
            rw [← unhide HPK] at HF
            clear hgb hnd HS hdc hk1 hq
            go_wp2_with fail
            refine (unhide HDG _).mono ?_
            rintro e w1 ⟨rfl, rfl⟩
            go_wp2_with fail
            go_ret3
            exact ⟨by rw [unhide HF]; rfl, rfl⟩
          · have hv0' : ((v : Int) == 0) = false := by simp; omega
            by_cases hbig : 65535 < v * 10 + (c - 48)
            · have hbig' : (65535 : Int) < (v : Int) * 10 + ((c : Int) - 48) := by omega
              have hq := unhide HEND v k hk1.1 hk1.2 (by rw [← unhide HPK, hgb]; omega)
              have HF := hide (unhide HNO v k hq (by rw [← unhide HPK]; exact hnd))
              rw [← unhide HPK] at HF
              clear hgb hnd HS hdc hk1 hq hbig hv0
              go_wp2_with fail
              refine (unhide HDG _).mono ?_
              rintro e w1 ⟨rfl, rfl⟩
              go_wp2_with fail
              go_ret3
              exact ⟨by rw [unhide HF]; rfl, rfl⟩
            · have hbig' : ¬ (65535 : Int) < (v : Int) * 10 + ((c : Int) - 48) := by omega
              have hq := unhide HSTEP v k hk1.1 hk1.2 (by rw [← unhide HPK, hgb]; exact ⟨hps, hdc, by omega, by omega⟩)
              rw [← unhide HPK, hgb] at hq
              have HN : Hz (NumSt (rst s a) (v * 10 + (c - 48)) (k + 1)) := hide (.inr ⟨by omega, hq⟩)
              have HPK2 : Hz (p + 1 = a + (k + 1)) := hide (by have := unhide HPK; omega)
              have hc5 : ((v * 10 + (c - 48) : Nat) : Int) = (v : Int) * 10 + ((c : Int) - 48) := by omega
              have HC5 := hide hc5
              have hbd : v * 10 + (c - 48) ≤ 65535 := by omega
              have HBD := hide hbd
              clear hgb hnd HS hdc hk1 hq hbig hv0 hc5 hbd hc3
              go_wp2_with fail
              refine (unhide HDG _).mono ?_
              rintro e w1 ⟨rfl, rfl⟩
              go_wp2_with fail
              go_round
              case rel => exact ⟨p + 1, v * 10 + (c - 48), k + 1, by omega, by omega, unhide HBD, by go_num, by rw [unhide HC5], HPK2, HN⟩
              case measure => simp [intOf]; omega
    · have hps' : ¬ (p : Int) < (s.size : Int) := by omega
      have hk1 : 1 ≤ k ∧ numV (rst s a) = numGo (rst s a) v k := by
        rcases unhide HS with h | h
        · have e := unhide HPK; omega
        · exact h
      have hq := unhide HEND v k hk1.1 hk1.2 (by rw [← unhide HPK]; omega)
      have HF := hide (unhide HOK v k hq (by rw [← unhide HPK]; unfold noDig; rw [decide_eq_false hps]; rfl))
      rw [← unhide HPK] at HF
      clear hk1 hq
      go_wp2_with fail
      go_ret3
      exact ⟨by rw [unhide HF]; rfl, rfl⟩
end Go.Proofs.YtcnhkhjkeemafaaGreatDoor
/- The reference's quoted. -/
namespace Go.Proofs.YtcnhkhjkeemafaaGreatDoor
open Go.RowKit Go.Shelf
set_option linter.unusedVariables false
set_option maxRecDepth 100000 in
set_option maxHeartbeats 8000000 in
theorem quoted_ref (s : ByteArray) (hs : s.size ≤ 1099511627776) (a : Nat) (ha : a < s.size) (w : World) : Calls Tryz.prog 56 #[.string s, .int .i64 a] w fun e w' => e = .returned (seqR4 a (quoV (rst s a))) ∧ w' = w := by
  have hsq := sequence_any s hs (a + 1) (by omega)
  have hcast : ((a + 1 : Nat) : Int) = (a : Int) + 1 := by omega
  rw [hcast] at hsq
  rcases quo_cases s a ha with ⟨n, hv, hq⟩ | ⟨r, n, hv, hn, hns, hr, hq⟩
  · rw [hv] at hsq
    have hc2 : ((a + 1 + n : Nat) : Int) = (a : Int) + (1 + n : Nat) := by omega
    have HSQ := hide hsq
    have HQ := hide hq
    have HC := hide hc2
    clear hsq hq hcast hv hc2
    go_enter Tryz.func56, Tryz.ntmps56
    go_wp2_with fail
    refine (unhide HSQ _).mono ?_
    rintro e w1 ⟨rfl, rfl⟩
    go_wp2_with fail
    go_ret3
    exact ⟨by rw [unhide HQ]; show Ending.returned (Value.tuple #[_, Value.int .i64 ((a + 1 + n : Nat) : Int), _]) = _; rw [unhide HC]; rfl, rfl⟩
  · rw [hv] at hsq
    have HSQ := hide hsq
    have hcase : (r < 32) ∨ (¬ r < 32 ∧ r = 39) ∨ (¬ r < 32 ∧ r ≠ 39 ∧ r = 127) ∨ (¬ r < 32 ∧ r ≠ 39 ∧ r ≠ 127) := by omega
    have hrb : (r : Int) ≤ 1114111 := by omega
    have hnb : (a : Int) + 1 + (n : Int) ≤ (s.size : Int) := by omega
    clear hsq hcast hv hr
    rcases hcase with h1 | ⟨h1, h2⟩ | ⟨h1, h2, h3⟩ | ⟨h1, h2, h3⟩
    · rw [if_pos (.inl h1)] at hq
      have HQ := hide hq
      have h1' : (r : Int) < 32 := by omega
      clear hq h1
      go_enter Tryz.func56, Tryz.ntmps56
      go_wp2_with fail
      refine (unhide HSQ _).mono ?_
      rintro e w1 ⟨rfl, rfl⟩
      go_wp2_with fail
      go_ret3
      exact ⟨by rw [unhide HQ]; rfl, rfl⟩
    · rw [if_pos (.inr (.inl h2))] at hq
      have HQ := hide hq
      have h1' : ¬ (r : Int) < 32 := by omega
      have h2' : ((r : Int) == 39) = true := by simp; omega
      clear hq h1 h2
      go_enter Tryz.func56, Tryz.ntmps56
      go_wp2_with fail
      refine (unhide HSQ _).mono ?_
      rintro e w1 ⟨rfl, rfl⟩
      go_wp2_with fail
      go_ret3
      exact ⟨by rw [unhide HQ]; rfl, rfl⟩
    · rw [if_pos (.inr (.inr h3))] at hq
      have HQ := hide hq
      have h1' : ¬ (r : Int) < 32 := by omega
      have h2' : ((r : Int) == 39) = false := by simp; omega
      have h3' : ((r : Int) == 127) = true := by simp; omega
      clear hq h1 h2 h3
      go_enter Tryz.func56, Tryz.ntmps56
      go_wp2_with fail
      refine (unhide HSQ _).mono ?_
      rintro e w1 ⟨rfl, rfl⟩
      go_wp2_with fail
      go_ret3
      exact ⟨by rw [unhide HQ]; rfl, rfl⟩
    · rw [if_neg (by omega)] at hq
      have h1' : ¬ (r : Int) < 32 := by omega
      have h2' : ((r : Int) == 39) = false := by simp; omega
      have h3' : ((r : Int) == 127) = false := by simp; omega
      obtain ⟨p, hp⟩ : ∃ p, p = a + 1 + n := ⟨_, rfl⟩
      have hpi : ((a + 1 + n : Nat) : Int) = (p : Int) := by omega
      have HPI := hide (show (p : Int) = (a : Int) + (1 + n : Nat) by omega)
      have hpb : p ≤ s.size := by omega
      have hHSQ := unhide HSQ
      have HSQ2 : Hz (∀ w, Calls Tryz.prog 26 #[.string s, .int .i64 ((a : Int) + 1)] w fun e w' => e = .returned (.tuple #[.int .i32 r, .int .i64 (p : Int), .bool true]) ∧ w' = w) := hide (fun w => by rw [← hpi]; exact hHSQ w)
      rw [← hp] at hq
      clear hHSQ HSQ h1 h2 h3 hns hnb hpi
      by_cases hl : p < s.size
      · have hl' : ¬ (s.size : Int) ≤ (p : Int) := by omega
        have hl2 : (p : Int) < (s.size : Int) := by omega
        have hgb := bt_get s p hl
        obtain ⟨c, ec⟩ : ∃ c, (s[p]'hl).toNat = c := ⟨_, rfl⟩
        rw [ec] at hgb
        rw [hgb] at hq
        by_cases h39 : c = 39
        · rw [if_pos ⟨hl, h39⟩] at hq
          have HQ := hide hq
          have hc' : ((c : Int) != 39) = false := by simp; omega
          have HP1 := hide (show (p : Int) + 1 = ((a + (n + 2) : Nat) : Int) by have := unhide HPI; omega)
          clear hq hgb h39 hp
          go_enter Tryz.func56, Tryz.ntmps56
          go_wp2_with fail
          refine (unhide HSQ2 _).mono ?_
          rintro e w1 ⟨rfl, rfl⟩
          go_wp2_with fail
          go_ret3
          exact ⟨by rw [unhide HQ]; show Ending.returned (Value.tuple #[_, Value.int .i64 ((p : Int) + 1), _]) = _; rw [unhide HP1]; rfl, rfl⟩
        · rw [if_neg (fun q => h39 q.2)] at hq
          have HQ := hide hq
          have hc' : ((c : Int) != 39) = true := by simp; omega
          clear hq hgb h39 hp
          go_enter Tryz.func56, Tryz.ntmps56
          go_wp2_with fail
          refine (unhide HSQ2 _).mono ?_
          rintro e w1 ⟨rfl, rfl⟩
          go_wp2_with fail
          go_ret3
          exact ⟨by rw [unhide HQ]; show Ending.returned (Value.tuple #[_, Value.int .i64 (p : Int), _]) = _; rw [unhide HPI]; rfl, rfl⟩
      · rw [if_neg (fun q => hl q.1)] at hq
        have HQ := hide hq
        have hl' : (s.size : Int) ≤ (p : Int) := by omega
        clear hq hp hl
        go_enter Tryz.func56, Tryz.ntmps56
        go_wp2_with fail
        refine (unhide HSQ2 _).mono ?_
        rintro e w1 ⟨rfl, rfl⟩
        go_wp2_with fail
        go_ret3
        exact ⟨by rw [unhide HQ]; show Ending.returned (Value.tuple #[_, Value.int .i64 (p : Int), _]) = _; rw [unhide HPI]; rfl, rfl⟩
end Go.Proofs.YtcnhkhjkeemafaaGreatDoor
