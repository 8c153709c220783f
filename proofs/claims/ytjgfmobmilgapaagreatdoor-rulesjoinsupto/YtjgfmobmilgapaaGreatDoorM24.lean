/- Texts of this claim, one behind the other. -/
import Derived.Test.YtjgfmobmilgapaaGreatDoorM23
import Derived.Test.YtjgfmobmilgapaaGreatDoorM8
import Derived.Deep.AppendLies
import Derived.Test.YtjgfmobmilgapaaGreatDoorM17
import Derived.Test.YtjgfmobmilgapaaGreatDoorM19
import Derived.Deep.MidRow
import Derived.Test.YtjgfmobmilgapaaGreatDoorRmC
import Derived.Test.YtjgfmobmilgapaaGreatDoorM20
import Derived.Deep.RegionHeld3
/- Blanks and remarks, place by place: plain mathematics. -/
namespace Go.Proofs.YtjgfmobmilgapaaGreatDoor
open Go.RowKit Go.Shelf
set_option linter.unusedVariables false
theorem rst_rst (s : ByteArray) (a k : Nat) (h : a ≤ s.size) : (rst s a).extract k (rst s a).size = rst s (a + k) := by
  unfold rst
  rw [ByteArray.size_extract, ByteArray.extract_extract, Nat.min_self]
  congr 1
  omega
theorem rst_at (s : ByteArray) (a k : Nat) (h : a ≤ s.size) : bt (rst s a) k = bt s (a + k) := by unfold bt; rw [get_suffix s a k h]
theorem gap_shift (t : ByteArray) (a : Nat) (ha : a ≤ t.size) : ∀ f k, gapGo t f (a + k) = (a + (gapGo (rst t a) f k).1, (gapGo (rst t a) f k).2)
  | 0, k => by
    unfold gapGo
    rw [rst_size, Prod.mk.injEq]
    exact ⟨by show t.size = a + (t.size - a); omega, rfl⟩
  | f + 1, k => by
    unfold gapGo
    rw [rst_at t a k ha, rst_rst t a k ha, rst_size]
    by_cases h : a + k < t.size
    · rw [if_pos h, if_pos (show k < t.size - a by omega)]
      by_cases hb : blankB (bt t (a + k)) = true
      · rw [if_pos hb, if_pos hb]
        exact gap_shift t a ha f (k + 1)
      · rw [if_neg hb, if_neg hb]
        by_cases hr : bt t (a + k) = 35
        · rw [if_pos hr, if_pos hr]
          show (if (remV (rst t (a + k))).2 = true then _ else _) = _
          by_cases ho : (remV (rst t (a + k))).2 = true
          · rw [if_pos ho, if_pos ho, Nat.add_assoc]
            exact gap_shift t a ha f _
          · rw [if_neg ho, if_neg ho, Nat.add_assoc]
        · rw [if_neg hr, if_neg hr]
    · rw [if_neg h, if_neg (show ¬ k < t.size - a by omega), Prod.mk.injEq]
      exact ⟨by show t.size = a + (t.size - a); omega, rfl⟩
theorem nlAt_pos (t : ByteArray) (h : 0 < t.size) (hb : bt t 0 ≠ 10) : 1 ≤ nlAt t := by
  unfold nlAt
  rw [scanTo_go h (by simp [hb])]
  exact (scanTo_le _ (by omega)).1
theorem remV_pos2 (t : ByteArray) (h : 0 < t.size) (hb : bt t 0 ≠ 10) (ho : (remV t).2 = true) : 1 ≤ (remV t).1 ∧ (remV t).1 ≤ t.size := by
  have h1 := nlAt_pos t h hb
  have h2 := nlAt_le t
  unfold remV at ho ⊢
  split at ho
  · rename_i e
    show 1 ≤ (t.extract 0 (nlAt t)).size ∧ (t.extract 0 (nlAt t)).size ≤ _
    rw [ByteArray.size_extract]
    omega
  · cases ho
theorem gap_fuel (t : ByteArray) : ∀ f g n, t.size ≤ n + f → t.size ≤ n + g → n ≤ t.size → gapGo t f n = gapGo t g n
  | 0, 0, n, _, _, _ => rfl
  | 0, g + 1, n, h, _, _ => by unfold gapGo; rw [if_neg (by omega)]
  | f + 1, 0, n, _, h, _ => by unfold gapGo; rw [if_neg (by omega)]
  | f + 1, g + 1, n, h1, h2, hn => by
    unfold gapGo
    by_cases h : n < t.size
    · rw [if_pos h, if_pos h]
      by_cases hb : blankB (bt t n) = true
      · rw [if_pos hb, if_pos hb]
        exact gap_fuel t f g (n + 1) (by omega) (by omega) (by omega)
      · rw [if_neg hb, if_neg hb]
        by_cases hr : bt t n = 35
        · rw [if_pos hr, if_pos hr]
          by_cases ho : (remV (t.extract n t.size)).2 = true
          · rw [if_pos ho, if_pos ho]
            have hz : 0 < (rst t n).size := by rw [rst_size]; omega
            have h0 : bt (rst t n) 0 = 35 := by rw [rst_at t n 0 (by omega)]; exact hr
            have hp := remV_pos2 (rst t n) hz (by rw [h0]; decide) ho
            rw [rst_size] at hp
            show gapGo t f (n + (remV (rst t n)).1) = gapGo t g (n + (remV (rst t n)).1)
            exact gap_fuel t f g _ (by omega) (by omega) (by omega)
          · rw [if_neg ho, if_neg ho]
        · rw [if_neg hr, if_neg hr]
    · rw [if_neg h, if_neg h]
def gapA (s : ByteArray) (p : Nat) : Nat × Bool := (p + (gapV (rst s p)).1, (gapV (rst s p)).2)
theorem gapA_from (s : ByteArray) (p k f : Nat) (hp : p + k ≤ s.size) (hf : s.size ≤ p + k + f) : (p + (gapGo (rst s p) f k).1, (gapGo (rst s p) f k).2) = gapA s (p + k) := by
  unfold gapA gapV
  have h := gap_shift (rst s p) k (by rw [rst_size]; omega) f 0
  rw [Nat.add_zero] at h
  have e : rst (rst s p) k = rst s (p + k) := rst_rst s p k (by omega)
  rw [e] at h
  rw [h, gap_fuel (rst s (p + k)) f (rst s (p + k)).size 0 (by rw [rst_size]; omega) (by omega) (by omega), Prod.mk.injEq]
  exact ⟨by show p + (k + _) = _; omega, rfl⟩
theorem gapA_blank (s : ByteArray) (p : Nat) (h : p < s.size) (hb : blankB (bt s p) = true) : gapA s p = gapA s (p + 1) := by
  rw [← gapA_from s p 1 (s.size - p - 1) (by omega) (by omega)]
  unfold gapA gapV
  have hz := rst_size s p
  obtain ⟨f, hf⟩ : ∃ f, s.size - p = f + 1 := ⟨s.size - p - 1, by omega⟩
  have e : gapGo (rst s p) (rst s p).size 0 = gapGo (rst s p) (s.size - p - 1) 1 := by
    rw [hz, show s.size - p - 1 = f by omega, hf]
    conv => lhs; unfold gapGo
    rw [if_pos (by omega), rst_at s p 0 (by omega), Nat.add_zero, if_pos hb]
  rw [e]
theorem gapA_stop (s : ByteArray) (p : Nat) (h : p < s.size) (hb : blankB (bt s p) = false) (hr : bt s p ≠ 35) : gapA s p = (p, true) := by
  unfold gapA
  have hg : gapV (rst s p) = (0, true) := by
    have hz := rst_size s p
    unfold gapV
    obtain ⟨f, hf⟩ : ∃ f, s.size - p = f + 1 := ⟨s.size - p - 1, by omega⟩
    rw [hz, hf]
    unfold gapGo
    rw [if_pos (by omega), rst_at s p 0 (by omega), Nat.add_zero, if_neg (by rw [hb]; decide), if_neg hr]
  rw [hg]
  rfl
theorem gapA_sharp (s : ByteArray) (p : Nat) (h : p < s.size) (hr : bt s p = 35) : gapA s p = if (remV (rst s p)).2 = true then gapA s (p + (remV (rst s p)).1) else (p + (remV (rst s p)).1, false) := by
  have hz := rst_size s p
  obtain ⟨f, hf⟩ : ∃ f, s.size - p = f + 1 := ⟨s.size - p - 1, by omega⟩
  have h0 : bt (rst s p) 0 = 35 := by rw [rst_at s p 0 (by omega)]; exact hr
  have e : gapGo (rst s p) (rst s p).size 0 = if (remV (rst s p)).2 = true then gapGo (rst s p) f ((remV (rst s p)).1) else ((remV (rst s p)).1, false) := by
    rw [hz, hf]
    conv => lhs; unfold gapGo
    have hx : (rst s p).extract 0 (rst s p).size = rst s p := ByteArray.extract_zero_size
    rw [if_pos (by omega), h0, if_neg (by decide), if_pos rfl, hx, Nat.zero_add]
  by_cases ho : (remV (rst s p)).2 = true
  · have hp := remV_pos2 (rst s p) (by omega) (by rw [h0]; decide) ho
    rw [if_pos ho] at e ⊢
    rw [← gapA_from s p _ f (by omega) (by omega)]
    show (p + (gapGo (rst s p) (rst s p).size 0).1, (gapGo (rst s p) (rst s p).size 0).2) = _
    rw [e]
  · rw [if_neg ho] at e ⊢
    show (p + (gapGo (rst s p) (rst s p).size 0).1, (gapGo (rst s p) (rst s p).size 0).2) = _
    rw [e]
theorem rn_39 (s : ByteArray) (i : Nat) : rn s i = 39 ↔ bt s i = 39 := by
  have t := at_told s i
  constructor
  · intro h
    have hg : ¬ (rn s i = 65533 ∧ wd s i = 1) := by omega
    rcases t.width hg with h1 | h1 | h1 | h1
    · rcases t.one h1.1 with h2 | h2 <;> (simp only [rn] at h; omega)
    all_goals (simp only [rn] at h; omega)
  · intro h
    rcases Nat.lt_or_ge (wd s i) 2 with h1 | h1
    · have : wd s i = 1 := by have := wd_pos s i; omega
      rcases t.one this with h2 | h2 <;> (simp only [rn]; omega)
    · have := wd_lead s i h1; omega
def hxB (c : Nat) : Bool := decide ((48 ≤ c ∧ c ≤ 57) ∨ (65 ≤ c ∧ c ≤ 70))
theorem hxB_hexI {c : Nat} : hxB c = true ↔ 0 ≤ hexI c := by
  unfold hxB hexI
  rw [decide_eq_true_iff]
  constructor
  · intro h; split <;> (try split) <;> omega
  · intro h; split at h <;> (try split at h) <;> omega
theorem numGo_prev (t : ByteArray) : ∀ f v k, t.size ≤ k + f → 1 ≤ k → digB (bt t (k - 1)) = true → digB (bt t ((numGo t v k).2 - 1)) = true
  | 0, v, k, h, h1, hd => by rw [numGo_stop (by omega)]; exact hd
  | f + 1, v, k, h, h1, hd => by
    by_cases hc : k < t.size ∧ digB (bt t k) = true ∧ 0 < v ∧ v * 10 + (bt t k - 48) ≤ 65535
    · rw [numGo_go hc.1 hc.2.1 hc.2.2.1 hc.2.2.2]
      exact numGo_prev t f _ (k + 1) (by omega) (by omega) hc.2.1
    · rw [numGo_stop hc]; exact hd
theorem numV_prev (t : ByteArray) (h : 0 < t.size) (hd : digB (bt t 0) = true) : digB (bt t ((numV t).2 - 1)) = true := numGo_prev t t.size _ 1 (by omega) (by omega) hd
theorem numdGo_prev (t : ByteArray) : ∀ f v k, t.size ≤ k + f → 1 ≤ k → (3 ≤ k → hxB (bt t (k - 1)) = true) → 3 ≤ (numdGo t v k).2 → hxB (bt t ((numdGo t v k).2 - 1)) = true
  | 0, v, k, h, h1, hd, h3 => by rw [numdGo_stop (by omega)] at h3 ⊢; exact hd h3
  | f + 1, v, k, h, h1, hd, h3 => by
    by_cases hc : k < t.size ∧ (k < 6 ∨ bt t 2 ≠ 48) ∧ 0 ≤ hexI (bt t k) ∧ v * 16 + (hexI (bt t k)).toNat ≤ 1114111
    · rw [numdGo_go hc] at h3 ⊢
      exact numdGo_prev t f _ (k + 1) (by omega) (by omega) (fun _ => hxB_hexI.2 hc.2.2.1) h3
    · rw [numdGo_stop hc] at h3 ⊢; exact hd h3
theorem nameLen_prev (t : ByteArray) : ∀ f k, min t.size 32 ≤ k + f → 1 ≤ k → k ≤ min t.size 32 → inNB (bt t (k - 1)) = true → inNB (bt t (scanTo (fun n => inNB (bt t n)) (min t.size 32) k - 1)) = true
  | 0, k, h, h1, hk, hd => by rw [scanTo_end (by omega)]; exact hd
  | f + 1, k, h, h1, hk, hd => by
    by_cases hl : k < min t.size 32
    · cases hp : inNB (bt t k) with
      | true => rw [scanTo_go (p := fun n => inNB (bt t n)) hl hp]; exact nameLen_prev t f (k + 1) (by omega) (by omega) (by omega) hp
      | false => rw [scanTo_no (p := fun n => inNB (bt t n)) hp]; exact hd
    · rw [scanTo_end hl]; exact hd
theorem stk_dig {c : Nat} (h : digB c = true) : stkB c = true := by unfold stkB inNB; rw [h]; simp
theorem stk_hex {c : Nat} (h : hxB c = true) : stkB c = true := by
  have h1 := of_decide_eq_true h
  rcases h1 with h1 | h1
  · exact stk_dig (decide_eq_true h1)
  · unfold stkB
    rw [decide_eq_true (show 65 ≤ c ∧ c ≤ 90 by omega)]
    simp
theorem stk_inN {c : Nat} (h : inNB c = true) : stkB c = true := by unfold stkB; rw [h]; simp
theorem small_lt {c : Nat} (h : smallB c = true) : c < 128 := by have := smallB_iff.1 h; omega
theorem dig_lt {c : Nat} (h : digB c = true) : c < 128 := by have := digB_iff.1 h; omega
theorem stk_lt {c : Nat} (h : stkB c = true) : c < 128 := by
  unfold stkB inNB smallB digB at h
  simp at h
  omega
theorem tl1_bt (t : ByteArray) (k : Nat) (h : 1 ≤ t.size) : bt (tl1 t) k = bt t (1 + k) := by unfold tl1 bt; rw [get_suffix t 1 k h]
theorem dots_bt (t : ByteArray) (h : dotsB t = true) : bt t 1 = 46 := by
  have h2 : [46, 46] <+: t.data.toList := List.isPrefixOf_iff_prefix.1 h
  obtain ⟨r, hr⟩ := h2
  have hz := dotsB_iff t h
  have : t.data.toList[1]? = some 46 := by rw [← hr]; rfl
  have h1 : 1 < t.size := by omega
  unfold bt
  rw [get_lt t 1 h1]
  rw [Array.getElem?_toList, Array.getElem?_eq_getElem h1] at this
  have e : t.data[1] = 46 := Option.some.inj this
  show (t.data[1]).toNat = 46
  rw [e]
  rfl
theorem word_last (t : ByteArray) (h : 0 < t.size) (ho : (wordV t).ok = true) : bt t ((wordV t).n - 1) < 128 := by
  unfold wordV at ho ⊢
  split at ho
  · rename_i hs
    rw [if_pos hs]
    refine stk_lt (stk_inN ?_)
    have hn : nameLen t = scanTo (fun n => inNB (bt t n)) (min t.size 32) 1 := by unfold nameLen; rw [if_neg (fun q => q.elim (by omega) (fun q => by rw [hs] at q; cases q))]
    show inNB (bt t (nameLen t - 1)) = true
    rw [hn]
    exact nameLen_prev t (min t.size 32) 1 (by omega) (by omega) (by omega) (by show inNB (bt t 0) = true; unfold inNB; rw [hs]; rfl)
  · rename_i hs
    rw [if_neg hs]
    split at ho
    · rename_i hd
      rw [if_pos hd]
      exact dig_lt (numV_prev t h hd)
    · rename_i hd
      rw [if_neg hd]
      split at ho
      · rename_i hu
        rw [if_pos hu]
        have ho2 : (numdV t).2.2 = true := ((Bool.and_eq_true _ _).mp ho).1
        show bt t ((numdV t).2.1 - 1) < 128
        unfold numdV at ho2 ⊢
        split at ho2
        · cases ho2
        · rename_i h1
          rw [if_neg h1]
          split at ho2
          · cases ho2
          · rename_i h6
            rw [if_neg h6]
            exact stk_lt (stk_hex (numdGo_prev t t.size 0 2 (by omega) (by omega) (fun q => by omega) (by omega)))
      · rename_i hu
        rw [if_neg hu]
        split at ho
        · rename_i hq
          rw [if_pos hq]
          have ho2 : (quoV t).2.2 = true := ho
          show bt t ((quoV t).2.1 - 1) < 128
          unfold quoV at ho2 ⊢
          repeat' split at ho2
          all_goals first | (cases ho2; done) | skip
          rename_i h1 h2 h3 h4 h5
          rw [if_neg h1, if_neg h2, if_neg h3, if_neg h4, if_pos h5]
          have := (rn_39 (tl1 t) (wd (tl1 t) 0)).1 h5
          rw [tl1_bt t _ h] at this
          show bt t (wd (tl1 t) 0 + 2 - 1) < 128
          rw [show wd (tl1 t) 0 + 2 - 1 = 1 + wd (tl1 t) 0 by omega, this]
          decide
        · rename_i hq
          rw [if_neg hq]
          have ho2 : (sgnV t).2.2 = true := ho
          show bt t ((sgnV t).2.1 - 1) < 128
          unfold sgnV at ho2 ⊢
          repeat' split
          all_goals first
            | (show bt t 0 < 128; omega)
            | skip
          all_goals first
            | (rename_i hdt; show bt t 1 < 128; rw [dots_bt t hdt]; decide)
            | (exfalso; simp_all; done)
theorem word_first (t : ByteArray) (ho : (wordV t).ok = true) : bt t 0 < 128 := by
  by_cases hs : smallB (bt t 0) = true
  · exact small_lt hs
  · by_cases hd : digB (bt t 0) = true
    · exact dig_lt hd
    · unfold wordV at ho
      rw [if_neg hs, if_neg hd] at ho
      split at ho
      · omega
      · split at ho
        · omega
        · have ho2 : (sgnV t).2.2 = true := ho
          unfold sgnV at ho2
          repeat' split at ho2
          all_goals first | omega | cases ho2
theorem bd_ascii (s : ByteArray) (i : Nat) (h : bt s i < 128) : bdB s i = true := bd_lead s i (by omega)
theorem bd_next (s : ByteArray) (i : Nat) (hi : i < s.size) (h : bt s i < 128) : bdB s (i + 1) = true := by
  have hw : wd s i = 1 := by
    rcases Nat.lt_or_ge (wd s i) 2 with q | q
    · have := wd_pos s i; omega
    · have := wd_lead s _ q; omega
  have := bd_step s i (bd_ascii s i h) hi
  rwa [hw] at this
theorem lcB_at (s : ByteArray) (b n : Nat) (hb : b + n ≤ s.size) (hd : bdB s b = true) : lcB (rst s b) (lcAt s b) n = lcAt s (b + n) := by
  unfold lcB lcAt
  have e : (rst s b).extract 0 n = s.extract b (b + n) := by
    unfold rst
    rw [ByteArray.extract_extract, Nat.add_zero, Nat.min_eq_left (by omega)]
  rw [e, lcF_all, ← lcR_on s b (b + n) (1, 1) (by omega) hb (bd_pre s b (b + n) hd (by omega) hb)]
structure WdAt (s : ByteArray) (x : Wd) : Prop where
  lc : (x.l, x.c) = whL s x.b
  lt : x.b < s.size
  e : x.e = x.b + x.v.n
  v : x.v = wordV (rst s x.b)
  le : x.e ≤ s.size
theorem wdAt_mk {s : ByteArray} {b : Nat} {x : Nat × Nat} (h1 : x = whL s b) (h2 : b < s.size) (h3 : b + (wordV (rst s b)).n ≤ s.size) : WdAt s ⟨wordV (rst s b), b, x.1, x.2, b + (wordV (rst s b)).n⟩ := by
  obtain ⟨x1, x2⟩ := x
  generalize hw : whL s b = y at h1
  subst h1
  generalize hv : wordV (rst s b) = v at h3
  exact { lc := hw.symm, lt := h2, e := rfl, v := hv.symm, le := h3 }
theorem cut_places (s : ByteArray) : ∀ f b x ws, b ≤ s.size → bdB s b = true → x = lcAt s b → (∀ y ∈ ws, WdAt s y) → (∀ y ∈ (cutGo s f b x ws).ws, WdAt s y) ∧ (cutGo s f b x ws).b ≤ s.size
  | 0, b, x, ws, hb, _, _, h => ⟨h, hb⟩
  | f + 1, b, x, ws, hb, hd, hx, h => by
    have hg := gB_le s b hb
    unfold cutGo
    split
    · exact ⟨h, hg.2⟩
    · split
      · exact ⟨h, hg.2⟩
      · rename_i hz
        rw [rst_size] at hz
        have hp : 0 < (rst s (gB s b)).size := by rw [rst_size]; omega
        have hle := wordV_le (rst s (gB s b)) hp
        rw [rst_size] at hle
        split
        · exact ⟨h, by show gB s b + _ ≤ _; omega⟩
        · rename_i ho
          have ho2 : (wordV (rst s (gB s b))).ok = true := Bool.eq_false_or_eq_true _ |>.resolve_right ho
          have hn := hle.2 ho2
          have e0 : bt (rst s (gB s b)) 0 = bt s (gB s b) := rst_at s (gB s b) 0 hg.2
          have hf := word_first _ ho2
          rw [e0] at hf
          have hl := word_last _ hp ho2
          rw [rst_at s (gB s b) _ hg.2] at hl
          have hbg : bdB s (gB s b) = true := bd_ascii s _ hf
          have hgl : gLC s b x = lcAt s (gB s b) := by
            unfold gLC
            rw [hx, lcB_at s b _ (by have := hg.2; unfold gB at this; exact this) hd]
            rfl
          have hnx : bdB s (gB s b + (wordV (rst s (gB s b))).n) = true := by
            have := bd_next s (gB s b + ((wordV (rst s (gB s b))).n - 1)) (by omega) hl
            rwa [show gB s b + ((wordV (rst s (gB s b))).n - 1) + 1 = gB s b + (wordV (rst s (gB s b))).n by omega] at this
          refine cut_places s f _ _ _ (by omega) hnx (by rw [hgl, lcB_at s _ _ (by omega) hbg]) (fun y hy => ?_)
          rcases List.mem_append.1 hy with hy | hy
          · exact h y hy
          · obtain rfl := List.mem_singleton.1 hy
            exact wdAt_mk (hgl.trans (whL_bd s _ hbg).symm) (by omega) (by omega)
theorem words_places (s : ByteArray) : (∀ y ∈ (wordsV s).ws, WdAt s y) ∧ (wordsV s).b ≤ s.size := cut_places s _ 0 (1, 1) [] (Nat.zero_le _) (bd_zero s) (lcAt_zero s).symm (fun _ h => by cases h)
theorem grown_refl (w : World) (row : Option Nat) : w.grownBy w row := ⟨rfl, rfl, rfl, Nat.le_refl _, fun _ _ _ => rfl⟩
theorem setCells_grown (N : Nat) : ∀ (vs : List Value) (o : Nat) (w : World), w.grownBy (w.setCells N o vs) (some N)
  | [], _, w => grown_refl w _
  | v :: r, o, w => grown_trans' (grown_set' w N o v) (setCells_grown N r (o + 1) _)
theorem setCells_blk {N : Nat} {ty : TypeId} : ∀ (vs pre rest : List Value) (w : World), rest.length = vs.length → Blk w N (pre ++ rest).toArray ty → Blk (w.setCells N pre.length vs) N (pre ++ vs).toArray ty
  | [], pre, rest, w, hl, h => by
    obtain rfl := List.length_eq_zero_iff.1 hl
    exact h
  | v :: r, pre, rest, w, hl, h => by
    obtain _ | ⟨x, rest⟩ := rest
    · simp at hl
    have h2 := h.set pre.length v
    have e : ((pre ++ x :: rest).toArray).setIfInBounds pre.length v = ((pre ++ [v]) ++ rest).toArray := by
      simp
    rw [e] at h2
    have h3 := setCells_blk r (pre ++ [v]) rest _ (by simpa using hl) h2
    rw [List.length_append, List.append_assoc] at h3
    exact h3
theorem setCells_all {w : World} {N : Nat} {cs : Array Value} {ty : TypeId} (h : Blk w N cs ty) (vs : List Value) (hl : cs.size = vs.length) : Blk (w.setCells N 0 vs) N vs.toArray ty := by
  have := setCells_blk vs [] cs.toList w (by simpa using hl) (by simpa using h)
  simpa using this
theorem blk_there {w : World} {N : Nat} {cs : Array Value} {ty : TypeId} (h : Blk w N cs ty) (n : Nat) (hn : n ≤ cs.size) : w.there N 0 n := fun j hj => by
  rw [Nat.zero_add]
  refine ⟨?_, h.frozen j⟩
  rw [h.cell j, Array.getElem?_eq_getElem (by omega)]
  rfl
theorem row_ne {w : World} {lo lo2 E E2 sz sz2 n n2 g c : Nat} {v : Value} {xs ys : List Value} (h : w.ownsRow lo E sz (.slice (some ⟨g, 0, none⟩) n c) n xs) (h2 : w.ownsRow lo2 E2 sz2 v n2 ys) (hE : E2 ≠ E) : some g ≠ v.ownBlock := by
  rcases h.2 with ⟨e, _⟩ | ⟨g', c', cur, e, _, hg, _⟩
  · cases e
  · injection e with e1
    injection e1 with e1
    injection e1 with e1
    subst e1
    exact blk_row (show Blk w g cur E from hg) h2 hE
theorem EnvR.lo {W w : World} {lo : Nat} (h : EnvR W) (h4 : 4 ≤ lo) (hb : Below lo W w) (hw : lo ≤ w.heap.size) : EnvR w :=
  ⟨(hb.cell (p := ⟨_, 0, none⟩) (Nat.lt_of_lt_of_le (by decide) h4)).trans h.m0, (hb.cell (p := ⟨_, 1, none⟩) (Nat.lt_of_lt_of_le (by decide) h4)).trans h.m1, (hb.cell (p := ⟨_, 0, none⟩) (Nat.lt_of_lt_of_le (by decide) h4)).trans h.m2, (hb.cell (p := ⟨_, 1, none⟩) (Nat.lt_of_lt_of_le (by decide) h4)).trans h.m3, (hb.cell (p := ⟨_, 0, none⟩) (Nat.lt_of_lt_of_le (by decide) h4)).trans h.m4, (hb.cell (p := ⟨_, 1, none⟩) (Nat.lt_of_lt_of_le (by decide) h4)).trans h.m5, (hb.cell (p := ⟨_, 2, none⟩) (Nat.lt_of_lt_of_le (by decide) h4)).trans h.m6, (hb.cell (p := ⟨_, 0, none⟩) (Nat.lt_of_lt_of_le (by decide) h4)).trans h.m7, (hb.cell (p := ⟨_, 1, none⟩) (Nat.lt_of_lt_of_le (by decide) h4)).trans h.m8, by omega⟩
theorem own_short {w : World} {lo E sz n N C g : Nat} {xs ys : List Value} (h : w.ownsRow lo E sz (.slice (some ⟨g, 0, none⟩) N C) N (xs ++ ys)) (hx : xs.length = n * sz) (hn : n ≤ N) : w.ownsRow lo E sz (.slice (some ⟨g, 0, none⟩) n C) n xs := by
  refine ⟨hx, ?_⟩
  rcases h.2 with ⟨e, _⟩ | ⟨g', cap', cur, e, hb, hg, hc, hm, hcs, ht⟩
  · cases e
  · injection e with e1 e2 e3
    injection e1 with e1
    injection e1 with e1
    subst e1
    subst e3
    refine .inr ⟨g, C, cur, rfl, hb, hg, by omega, hm, hcs, ?_⟩
    have h1 := congrArg (List.take (n * sz)) ht
    rw [List.take_take, Nat.min_eq_left (Nat.mul_le_mul_right _ hn), ← hx, List.take_left] at h1
    rw [← hx]
    exact h1
theorem Lst.put {w w' : World} {lo i : Nat} {vs : List Value} {ls : List Ln} {v v' : Value} {l l' : Ln} (h : Lst w lo vs ls) (hv : vs[i]? = some v) (hl : ls[i]? = some l) (hg : w.grownBy w' v.ownBlock) (ho : w'.ownsRow lo l'.E l'.sz v' l'.n l'.xs) (hf : v'.ownBlock = v.ownBlock ∨ v'.ownBlock = some w.heap.size) : Lst w' lo (vs.set i v') (ls.set i l') := by
  have hi := (List.getElem?_eq_some_iff.1 hv).1
  have key : ∀ (j : Nat) (u : Value), j ≠ i → vs[j]? = some u → u.ownBlock = none ∨ u.ownBlock ≠ v'.ownBlock := fun j u hj hu => by
    rcases hf with e | e
    · rw [e]; exact h.apart j i u v hj hu hv
    · rw [e]
      obtain ⟨m, hm⟩ : ∃ m, ls[j]? = some m := ⟨_, List.getElem?_eq_getElem (by rw [h.ll]; exact (List.getElem?_eq_some_iff.1 hu).1)⟩
      exact .inr (fun e2 => by have := ((h.own j u m hu hm).lt _ e2).2; omega)
  refine ⟨by rw [List.length_set, List.length_set]; exact h.ll, ?_, ?_⟩
  · intro j u m hu hm
    by_cases hj : j = i
    · subst hj
      rw [List.getElem?_set_self hi] at hu
      rw [List.getElem?_set_self (by rw [h.ll]; exact hi)] at hm
      obtain rfl := Option.some.inj hu
      obtain rfl := Option.some.inj hm
      exact ho
    · rw [List.getElem?_set_ne (Ne.symm hj)] at hu hm
      exact (h.own j u m hu hm).kept hg (h.apart j i u v hj hu hv)
  · intro j k u x hjk hu hx
    by_cases hj : j = i
    · subst hj
      rw [List.getElem?_set_self hi] at hu
      rw [List.getElem?_set_ne hjk] at hx
      obtain rfl := Option.some.inj hu
      exact apart_symm (key k x (Ne.symm hjk) hx)
    · rw [List.getElem?_set_ne (Ne.symm hj)] at hu
      by_cases hk : k = i
      · subst hk
        rw [List.getElem?_set_self hi] at hx
        obtain rfl := Option.some.inj hx
        exact key j u hj hu
      · rw [List.getElem?_set_ne (Ne.symm hk)] at hx
        exact h.apart j k u x hjk hu hx
theorem append_any {w : World} {ops : Array Oper} {rest : List Oper} {o : Oper} {a : Act} {Q : Exit → Act → World → Prop} (hgd : o.guard = none) (s x : Operand) (T : TypeId)
    (ho : o.op = .call { callee := .builtin .append, args := #[s, x], argTypes := #[T, T] }) (base : Nat) (E : TypeId) (i : TypeInfo) (z : Value) (sz bytes : Nat) (hT : Tryz.prog.underlying T = some (.slice E)) (hi : Tryz.prog.info? E = some i ∧ i.zero = some z ∧ i.size = sz ∧ i.bytes = bytes) (hzs : z.cells.size = sz) (hs0 : 0 < sz) (hb8 : bytes ≤ 64)
    (g n C : Nat) (xs : List Value) (hs : a.eval s = .slice (some ⟨g, 0, none⟩) n C) (hown : w.ownsRow base E sz (.slice (some ⟨g, 0, none⟩) n C) n xs) (b : Option Addr) (m cap hi' : Nat) (ys : List Value) (hx : a.eval x = .slice b m cap) (hl : ys.length = m * sz) (hr : RowC w hi' b ys) (h1 : ∀ u ∈ ys, u.oneCell' = true) (hn : n + m ≤ 2000000) (hbase : base ≤ w.heap.size)
    (h : ∀ g' c' w', w'.ownsRow base E sz (.slice (some ⟨g', 0, none⟩) (n + m) c') (n + m) (xs ++ ys) → w.grownBy w' (some g) → (g' = g ∨ g' = w.heap.size) → wpList Tryz.prog ops Q rest (a.put o.dst (.slice (some ⟨g', 0, none⟩) (n + m) c')) w') : wpList Tryz.prog ops Q (o :: rest) a w := by
  rcases Nat.eq_zero_or_pos m with rfl | hm
  · obtain rfl : ys = [] := List.length_eq_zero_iff.1 (by rw [hl]; omega)
    have hrun : (Builtin.append_ #[T, T] o.type #[.slice (some ⟨g, 0, none⟩) n C, .slice b 0 cap]).run Tryz.prog w = .ok (.slice (some ⟨g, 0, none⟩) n C) w := by
      have hnC : n ≤ C := by
        rcases hown.2 with ⟨e, _⟩ | ⟨g', cap', cur, e, _, _, hc, _⟩
        · cases e
        · injection e with _ _ e3
          subst e3
          exact hc
      cases b with
      | none => exact run_none_cap (P := Tryz.prog) (w := w) base T o.type E i sz cap hT hi.1 _ n xs hown
      | some ad =>
        have hld : (loadCells ad 0).run Tryz.prog w = .ok #[] w := rfl
        simp [Builtin.append_, run_underlying hT, sizeOf, typeInfo, hi.1, Builtin.lenOf, Builtin.firstCells, hnC, storeCells, hld]
    refine wpList_plain hgd fun K hK' => ?_
    unfold Oper.wp
    simp [execOp, ho, resolve, invoke, builtin, hs, hx, hrun, Result.andThen]
    exact hK' _ _ (h g C w (by rw [Nat.add_zero, List.append_nil]; exact hown) ⟨rfl, rfl, rfl, Nat.le_refl _, fun _ _ _ => rfl⟩ (.inl rfl))
  · obtain ⟨g2, o2, rfl, _, hc⟩ := hr (by rw [hl]; exact Nat.mul_pos hm hs0)
    refine wpList_append_lies _ hgd s x T ho base E i z sz bytes hT hi.1 hi.2.1 hi.2.2.1 hi.2.2.2 hzs hs0 _ n xs hs hown ⟨g2, o2, none⟩ m cap ys hx hl (fun j u hj => ?_) h1 hm (by unfold maxLen; omega) (Nat.le_trans (Nat.mul_le_mul_left _ hb8) (by omega)) hbase w.heap.size rfl (fun g' c' w' h4 h5 h6 _ => h g' c' w' h4 h5 (by rcases h6 with e | e; exact .inl (Option.some.inj e).symm; exact .inr e))
    rw [Addr.add_mid]
    exact hc j u hj
theorem encSc_append : ∀ (s t : List (ByteArray × List (Int × Int))) (us vs : List Value), us.length = s.length → encSc (s ++ t) (us ++ vs) = encSc s us ++ encSc t vs
  | [], t, us, vs, h => by
    obtain rfl := List.length_eq_zero_iff.1 h
    rfl
  | x :: s, t, us, vs, h => by
    obtain _ | ⟨u, us⟩ := us
    · cases h
    · show Value.string x.1 :: u :: encSc (s ++ t) (us ++ vs) = Value.string x.1 :: u :: (encSc s us ++ encSc t vs)
      rw [encSc_append s t us vs (by simpa using h)]
theorem WhAt.gne {w : World} {lo : Nat} {T : TV} {g : Nat → Nat} {us : List Value} (h : WhAt w lo T g us) (p q : Nat) (hp : p < 8) (hq : q < 8) (hpq : p ≠ q) : g p ≠ g q := by
  have h0 : ∀ q, 1 ≤ q → q ≤ 7 → g 0 ≠ g q := fun q h1 h7 e => by
    rcases (by omega : q = 1 ∨ q = 2 ∨ q = 3 ∨ q = 4 ∨ q = 5 ∨ q = 6 ∨ q = 7) with rfl | rfl | rfl | rfl | rfl | rfl | rfl
    · exact row_ne h.r0 h.l.r1 (by decide) (congrArg some e)
    · exact row_ne h.r0 h.l.r2 (by decide) (congrArg some e)
    · exact row_ne h.r0 h.l.r3 (by decide) (congrArg some e)
    · exact row_ne h.r0 h.l.r4 (by decide) (congrArg some e)
    · exact row_ne h.r0 h.l.r5 (by decide) (congrArg some e)
    · exact row_ne h.r0 h.l.r6 (by decide) (congrArg some e)
    · exact row_ne h.r0 h.l.r7 (by decide) (congrArg some e)
  rcases Nat.eq_zero_or_pos p with rfl | h1
  · exact h0 q (by omega) (by omega)
  · rcases Nat.eq_zero_or_pos q with rfl | h2
    · exact fun e => h0 p h1 (by omega) e.symm
    · exact h.l.ap p q h1 (by omega) h2 (by omega) hpq
theorem WhAt.lst {w : World} {lo : Nat} {T : TV} {g : Nat → Nat} {us : List Value} (h : WhAt w lo T g us) : Lst w lo ([.slice (some ⟨g 0, 0, none⟩) T.sc.length (T.sc.length + 8), .slice (some ⟨g 1, 0, none⟩) T.co.length (T.co.length + 8), .slice (some ⟨g 2, 0, none⟩) T.ma.length (T.ma.length + 8), .slice (some ⟨g 3, 0, none⟩) T.pr.length (T.pr.length + 8), .slice (some ⟨g 4, 0, none⟩) T.fo.length (T.fo.length + 8), .slice (some ⟨g 5, 0, none⟩) T.lk.length (T.lk.length + 8), .slice (some ⟨g 6, 0, none⟩) T.dr.length (T.dr.length + 8), .slice (some ⟨g 7, 0, none⟩) T.al.length (T.al.length + 8)] ++ us) ([Ln.mk 64 2 T.sc.length (encSc T.sc us), Ln.mk 68 2 T.co.length (encS2 T.co), Ln.mk 71 2 T.ma.length (encM2 T.ma), Ln.mk 74 3 T.pr.length (encP3 T.pr), Ln.mk 77 2 T.fo.length (encF2 T.fo), Ln.mk 77 2 T.lk.length (encF2 T.lk), Ln.mk 68 2 T.dr.length (encS2 T.dr), Ln.mk 68 2 T.al.length (encS2 T.al)] ++ T.sc.map (fun s => Ln.mk 68 2 s.2.length (encS2 s.2))) := by
  have hb : ∀ (i : Nat) (v : Value), i < 8 → ([.slice (some ⟨g 0, 0, none⟩) T.sc.length (T.sc.length + 8), .slice (some ⟨g 1, 0, none⟩) T.co.length (T.co.length + 8), .slice (some ⟨g 2, 0, none⟩) T.ma.length (T.ma.length + 8), .slice (some ⟨g 3, 0, none⟩) T.pr.length (T.pr.length + 8), .slice (some ⟨g 4, 0, none⟩) T.fo.length (T.fo.length + 8), .slice (some ⟨g 5, 0, none⟩) T.lk.length (T.lk.length + 8), .slice (some ⟨g 6, 0, none⟩) T.dr.length (T.dr.length + 8), .slice (some ⟨g 7, 0, none⟩) T.al.length (T.al.length + 8)] ++ us)[i]? = some v → v.ownBlock = some (g i) := fun i v hi hv => by
    rcases (by omega : i = 0 ∨ i = 1 ∨ i = 2 ∨ i = 3 ∨ i = 4 ∨ i = 5 ∨ i = 6 ∨ i = 7) with rfl | rfl | rfl | rfl | rfl | rfl | rfl | rfl <;> (obtain rfl := Option.some.inj hv; rfl)
  have hu : ∀ (i : Nat) (v : Value), 8 ≤ i → ([.slice (some ⟨g 0, 0, none⟩) T.sc.length (T.sc.length + 8), .slice (some ⟨g 1, 0, none⟩) T.co.length (T.co.length + 8), .slice (some ⟨g 2, 0, none⟩) T.ma.length (T.ma.length + 8), .slice (some ⟨g 3, 0, none⟩) T.pr.length (T.pr.length + 8), .slice (some ⟨g 4, 0, none⟩) T.fo.length (T.fo.length + 8), .slice (some ⟨g 5, 0, none⟩) T.lk.length (T.lk.length + 8), .slice (some ⟨g 6, 0, none⟩) T.dr.length (T.dr.length + 8), .slice (some ⟨g 7, 0, none⟩) T.al.length (T.al.length + 8)] ++ us)[i]? = some v → us[i - 8]? = some v := fun i v hi hv => by
    rw [List.getElem?_append_right (by exact hi)] at hv
    exact hv
  have hug : ∀ (j : Nat) (x : Value) (p : Nat), us[j]? = some x → p < 8 → x.ownBlock ≠ some (g p) := fun j x p hx hp => by
    rcases Nat.eq_zero_or_pos p with rfl | h1
    · obtain ⟨s, hs⟩ : ∃ s, T.sc[j]? = some s := ⟨_, List.getElem?_eq_getElem (by have := (List.getElem?_eq_some_iff.1 hx).1; have := h.lu; omega)⟩
      obtain ⟨b, rfl, ho⟩ := h.rs j x s hx hs
      exact fun e => row_ne h.r0 ho (by decide) e.symm
    · exact h.ag j x p hx h1 (by omega)
  refine ⟨by simp [h.lu], ?_, ?_⟩
  · intro i v l hv hl
    by_cases hi : i < 8
    · rcases (by omega : i = 0 ∨ i = 1 ∨ i = 2 ∨ i = 3 ∨ i = 4 ∨ i = 5 ∨ i = 6 ∨ i = 7) with rfl | rfl | rfl | rfl | rfl | rfl | rfl | rfl
      · obtain rfl := Option.some.inj hv
        obtain rfl := Option.some.inj hl
        exact own_short h.r0 (encSc_length T.sc us h.lu) (by omega)
      · obtain rfl := Option.some.inj hv
        obtain rfl := Option.some.inj hl
        exact own_short h.l.r1 (encS2_length T.co) (by omega)
      · obtain rfl := Option.some.inj hv
        obtain rfl := Option.some.inj hl
        exact own_short h.l.r2 (encM2_length T.ma) (by omega)
      · obtain rfl := Option.some.inj hv
        obtain rfl := Option.some.inj hl
        exact own_short h.l.r3 (encP3_length T.pr) (by omega)
      · obtain rfl := Option.some.inj hv
        obtain rfl := Option.some.inj hl
        exact own_short h.l.r4 (encF2_length T.fo) (by omega)
      · obtain rfl := Option.some.inj hv
        obtain rfl := Option.some.inj hl
        exact own_short h.l.r5 (encF2_length T.lk) (by omega)
      · obtain rfl := Option.some.inj hv
        obtain rfl := Option.some.inj hl
        exact own_short h.l.r6 (encS2_length T.dr) (by omega)
      · obtain rfl := Option.some.inj hv
        obtain rfl := Option.some.inj hl
        exact own_short h.l.r7 (encS2_length T.al) (by omega)
    · have hv2 := hu i v (by omega) hv
      rw [List.getElem?_append_right (by show 8 ≤ i; omega)] at hl
      rw [List.getElem?_map] at hl
      obtain ⟨s, hs, rfl⟩ := Option.map_eq_some_iff.1 hl
      obtain ⟨b, rfl, ho⟩ := h.rs (i - 8) v s hv2 hs
      exact own_short ho (encS2_length s.2) (by omega)
  · intro i j v u hij hv hj
    by_cases hi : i < 8
    · rw [hb i v hi hv]
      by_cases hj8 : j < 8
      · rw [hb j u hj8 hj]
        exact .inr (fun e => h.gne i j hi hj8 hij (Option.some.inj e))
      · exact .inr (fun e => hug (j - 8) u i (hu j u (by omega) hj) hi e.symm)
    · have hv2 := hu i v (by omega) hv
      by_cases hj8 : j < 8
      · rw [hb j u hj8 hj]
        exact .inr (hug (i - 8) v j hv2 hj8)
      · exact .inr (h.ap (i - 8) (j - 8) v u (by omega) hv2 (hu j u (by omega) hj))
end Go.Proofs.YtjgfmobmilgapaaGreatDoor
