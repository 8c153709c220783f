/- Texts of this claim, one behind the other. -/
import Derived.Test.YtgchlilpjkndlaaGreatDoorM25
import Derived.Test.YtgchlilpjkndlaaGreatDoorM10
import Derived.Test.YtgchlilpjkndlaaGreatDoorM8
import Derived.Test.YtgchlilpjkndlaaGreatDoorM24
import Derived.Test.YtgchlilpjkndlaaGreatDoorM17
/- A rune with U+, as the reference reads it: plain mathematics. -/
namespace Go.Proofs.YtgchlilpjkndlaaGreatDoor
open Go.RowKit Go.Shelf
set_option linter.unusedVariables false
def hxB (c : Nat) : Bool := decide ((48 ≤ c ∧ c ≤ 57) ∨ (65 ≤ c ∧ c ≤ 70))
theorem hxB_hexI {c : Nat} : hxB c = true ↔ 0 ≤ hexI c := by
  unfold hxB hexI
  rw [decide_eq_true_iff]
  constructor
  · intro h; split <;> (try split) <;> omega
  · intro h; split at h <;> (try split at h) <;> omega
theorem hexI_nat {c : Nat} (h : hxB c = true) : (hexI c).toNat ≤ 15 ∧ ((hexI c).toNat : Int) = hexI c ∧ ((hexI c).toNat = 0 ↔ c = 48) ∧ ((hexI c).toNat = 1 ↔ c = 49) := by
  have h1 := of_decide_eq_true h
  unfold hexI
  split
  · omega
  · split
    · omega
    · omega
def hxV (d : ByteArray) : Nat → Nat
  | 0 => 0
  | k + 1 => hxV d k * 16 + (hexI (bt d k)).toNat
theorem hxV_lt (d : ByteArray) : ∀ k, (∀ i, i < k → hxB (bt d i) = true) → hxV d k < 16 ^ k
  | 0, _ => by show 0 < 1; decide
  | k + 1, h => by
    have h1 := hxV_lt d k (fun i hi => h i (by omega))
    have h2 := (hexI_nat (h k (by omega))).1
    show hxV d k * 16 + _ < _
    rw [Nat.pow_succ]
    omega
structure PlSt (s : ByteArray) (a j : Nat) : Prop where
  room : a + 2 + j ≤ s.size
  hex : ∀ i, i < j → hxB (bt (rst s (a + 2)) i) = true
  go : numdGo (rst s a) 0 2 = numdGo (rst s a) (hxV (rst s (a + 2)) j) (2 + j)
  five : 5 ≤ j → bt (rst s (a + 2)) 0 ≠ 48
  six : 6 ≤ j → bt (rst s (a + 2)) 0 = 49 ∧ bt (rst s (a + 2)) 1 = 48
  max : j ≤ 6
theorem pl_bt (s : ByteArray) (a k : Nat) (h : a + 2 ≤ s.size) : bt (rst s a) (2 + k) = bt (rst s (a + 2)) k := by
  rw [rst_at s a (2 + k) (by omega), rst_at s (a + 2) k h]
  congr 1
  rw [Nat.add_assoc]
theorem hxV_five (d : ByteArray) : hxV d 5 = ((((hexI (bt d 0)).toNat * 16 + (hexI (bt d 1)).toNat) * 16 + (hexI (bt d 2)).toNat) * 16 + (hexI (bt d 3)).toNat) * 16 + (hexI (bt d 4)).toNat := by simp [hxV]
theorem five_iff {d0 d1 d2 d3 d4 d5 : Nat} (h1 : d1 ≤ 15) (h2 : d2 ≤ 15) (h3 : d3 ≤ 15) (h4 : d4 ≤ 15) (h5 : d5 ≤ 15) (h0 : d0 ≠ 0) : ((((d0 * 16 + d1) * 16 + d2) * 16 + d3) * 16 + d4) * 16 + d5 ≤ 1114111 ↔ d0 = 1 ∧ d1 = 0 := by omega
theorem six_no {d0 d1 d2 d3 d4 d5 d6 : Nat} (h0 : d0 = 1) : ¬ (((((d0 * 16 + d1) * 16 + d2) * 16 + d3) * 16 + d4) * 16 + d5) * 16 + d6 ≤ 1114111 := by omega
def plGo (d : ByteArray) (j : Nat) : Prop := j < 4 ∨ (j = 4 ∧ bt d 0 ≠ 48) ∨ (j = 5 ∧ bt d 0 = 49 ∧ bt d 1 = 48)
theorem pl_iff {s : ByteArray} {a j : Nat} (st : PlSt s a j) (hj : a + 2 + j < s.size) (hx : hxB (bt (rst s (a + 2)) j) = true) : plGo (rst s (a + 2)) j ↔ (2 + j < (rst s a).size ∧ (2 + j < 6 ∨ bt (rst s a) 2 ≠ 48) ∧ 0 ≤ hexI (bt (rst s a) (2 + j)) ∧ hxV (rst s (a + 2)) j * 16 + (hexI (bt (rst s a) (2 + j))).toNat ≤ 1114111) := by
  have hz := rst_size s a
  have hb := pl_bt s a j (by omega)
  have hb0 : bt (rst s a) 2 = bt (rst s (a + 2)) 0 := pl_bt s a 0 (by omega)
  have hh := hxB_hexI.1 hx
  have hd := (hexI_nat hx).1
  rw [hb, hb0]
  have hlt := hxV_lt (rst s (a + 2)) j st.hex
  have hmx := st.max
  have hc : j = 0 ∨ j = 1 ∨ j = 2 ∨ j = 3 ∨ j = 4 ∨ j = 5 ∨ j = 6 := by omega
  unfold plGo
  rcases hc with rfl | rfl | rfl | rfl | rfl | rfl | rfl
  iterate 4
    · refine ⟨fun _ => ⟨by omega, .inl (by omega), hh, ?_⟩, fun _ => .inl (by omega)⟩
      generalize (hexI (bt (rst s (a + 2)) _)).toNat = x at hd ⊢
      generalize hxV (rst s (a + 2)) _ = y at hlt ⊢
      omega
  · constructor
    · intro h
      refine ⟨by omega, .inr (by omega), hh, ?_⟩
      generalize (hexI (bt (rst s (a + 2)) _)).toNat = x at hd ⊢
      generalize hxV (rst s (a + 2)) _ = y at hlt ⊢
      omega
    · intro h
      exact .inr (.inl ⟨rfl, by rcases h.2.1 with q | q; · omega
                                · exact q⟩)
  · have h5 := st.five (by omega)
    have g0 := hexI_nat (st.hex 0 (by omega))
    have g1 := hexI_nat (st.hex 1 (by omega))
    have g2 := hexI_nat (st.hex 2 (by omega))
    have g3 := hexI_nat (st.hex 3 (by omega))
    have g4 := hexI_nat (st.hex 4 (by omega))
    have k0 : (hexI (bt (rst s (a + 2)) 0)).toNat ≠ 0 := fun q => h5 (g0.2.2.1.1 q)
    have key := five_iff g1.1 g2.1 g3.1 g4.1 hd k0
    rw [← hxV_five (rst s (a + 2))] at key
    constructor
    · intro h
      have h1 : bt (rst s (a + 2)) 0 = 49 ∧ bt (rst s (a + 2)) 1 = 48 := by
        rcases h with q | q | q
        · omega
        · omega
        · exact q.2
      exact ⟨by omega, .inr h5, hh, key.2 ⟨g0.2.2.2.2 h1.1, g1.2.2.1.2 h1.2⟩⟩
    · intro h
      have q := key.1 h.2.2.2
      exact .inr (.inr ⟨rfl, g0.2.2.2.1 q.1, g1.2.2.1.1 q.2⟩)
  · have h6 := st.six (by omega)
    have g0 := hexI_nat (st.hex 0 (by omega))
    have key := @six_no _ (hexI (bt (rst s (a + 2)) 1)).toNat (hexI (bt (rst s (a + 2)) 2)).toNat (hexI (bt (rst s (a + 2)) 3)).toNat (hexI (bt (rst s (a + 2)) 4)).toNat (hexI (bt (rst s (a + 2)) 5)).toNat (hexI (bt (rst s (a + 2)) 6)).toNat (g0.2.2.2.2 h6.1)
    rw [← hxV_five (rst s (a + 2))] at key
    constructor
    · intro h
      exfalso
      rcases h with q | q | q <;> omega
    · intro h
      exact absurd h.2.2.2 key
theorem pl_step {s : ByteArray} {a j : Nat} (st : PlSt s a j) (hj : a + 2 + j < s.size) (hx : hxB (bt (rst s (a + 2)) j) = true) (hg : plGo (rst s (a + 2)) j) : PlSt s a (j + 1) := by
  have hn := (pl_iff st hj hx).1 hg
  have hb := pl_bt s a j (by omega)
  refine ⟨by omega, fun i hi => ?_, ?_, fun h => ?_, fun h => ?_, ?_⟩
  · by_cases e : i = j
    · rw [e]; exact hx
    · exact st.hex i (by omega)
  · rw [st.go, numdGo_go hn, hb]
    rfl
  · unfold plGo at hg
    by_cases e : j = 4
    · omega
    · exact st.five (by omega)
  · unfold plGo at hg
    by_cases e : j = 5
    · omega
    · have := st.max; omega
  · unfold plGo at hg
    omega
theorem pl_stop {s : ByteArray} {a j : Nat} (st : PlSt s a j) (h : ¬ (a + 2 + j < s.size ∧ hxB (bt (rst s (a + 2)) j) = true ∧ plGo (rst s (a + 2)) j)) : numdGo (rst s a) 0 2 = (hxV (rst s (a + 2)) j, 2 + j) := by
  have hr := st.room
  rw [st.go]
  refine numdGo_stop (fun q => h ?_)
  have hz := rst_size s a
  have hb := pl_bt s a j (by omega)
  have hj : a + 2 + j < s.size := by omega
  have hx : hxB (bt (rst s (a + 2)) j) = true := hxB_hexI.2 (by rw [← hb]; exact q.2.2.1)
  exact ⟨hj, hx, (pl_iff st hj hx).2 q⟩
theorem pl_zero {s : ByteArray} {a : Nat} (h : a + 2 ≤ s.size) : PlSt s a 0 := ⟨h, fun i hi => by omega, rfl, fun h => by omega, fun h => by omega, by omega⟩
theorem numGo_prev (t : ByteArray) : ∀ f v k, t.size ≤ k + f → 1 ≤ k → digB (bt t (k - 1)) = true → digB (bt t ((numGo t v k).2 - 1)) = true
  | 0, v, k, h, h1, hd => by rw [numGo_stop (by omega)]; exact hd
  | f + 1, v, k, h, h1, hd => by
    by_cases hc : k < t.size ∧ digB (bt t k) = true ∧ 0 < v ∧ v * 10 + (bt t k - 48) ≤ 65535
    · rw [numGo_go hc.1 hc.2.1 hc.2.2.1 hc.2.2.2]
      exact numGo_prev t f _ (k + 1) (by omega) (by omega) hc.2.1
    · rw [numGo_stop hc]; exact hd
theorem numV_prev (t : ByteArray) (h : 0 < t.size) (hd : digB (bt t 0) = true) : digB (bt t ((numV t).2 - 1)) = true := numGo_prev t t.size _ 1 (by omega) (by omega) hd
theorem numdGo_prev (t : ByteArray) : ∀ f v k, t.size ≤ k + f → 1 ≤ k → (3 ≤ k → hxB (bt t (k - 1)) = true) → 3 ≤ (numdGo t v k).2 → hxB (bt t ((numdGo t v k).2 - 1)) = true
  | 0, v, k, h, h1, hd, h3 => by rw [numdGo_stop (by omega)] at h3 ⊢; exact hd h3
  | f + 1, v, k, h, h1, hd, h3 => by
    by_cases hc : k < t.size ∧ (k < 6 ∨ bt t 2 ≠ 48) ∧ 0 ≤ hexI (bt t k) ∧ v * 16 + (hexI (bt t k)).toNat ≤ 1114111
    · rw [numdGo_go hc] at h3 ⊢
      exact numdGo_prev t f _ (k + 1) (by omega) (by omega) (fun _ => hxB_hexI.2 hc.2.2.1) h3
    · rw [numdGo_stop hc] at h3 ⊢; exact hd h3
theorem nameLen_prev (t : ByteArray) : ∀ f k, min t.size 32 ≤ k + f → 1 ≤ k → k ≤ min t.size 32 → inNB (bt t (k - 1)) = true → inNB (bt t (scanTo (fun n => inNB (bt t n)) (min t.size 32) k - 1)) = true
  | 0, k, h, h1, hk, hd => by rw [scanTo_end (by omega)]; exact hd
  | f + 1, k, h, h1, hk, hd => by
    by_cases hl : k < min t.size 32
    · cases hp : inNB (bt t k) with
      | true => rw [scanTo_go (p := fun n => inNB (bt t n)) hl hp]; exact nameLen_prev t f (k + 1) (by omega) (by omega) (by omega) hp
      | false => rw [scanTo_no (p := fun n => inNB (bt t n)) hp]; exact hd
    · rw [scanTo_end hl]; exact hd
theorem stk_dig {c : Nat} (h : digB c = true) : stkB c = true := by unfold stkB inNB; rw [h]; simp
theorem stk_hex {c : Nat} (h : hxB c = true) : stkB c = true := by
  have h1 := of_decide_eq_true h
  rcases h1 with h1 | h1
  · exact stk_dig (decide_eq_true h1)
  · unfold stkB
    rw [decide_eq_true (show 65 ≤ c ∧ c ≤ 90 by omega)]
    simp
theorem stk_inN {c : Nat} (h : inNB c = true) : stkB c = true := by unfold stkB; rw [h]; simp
theorem small_lt {c : Nat} (h : smallB c = true) : c < 128 := by have := smallB_iff.1 h; omega
theorem dig_lt {c : Nat} (h : digB c = true) : c < 128 := by have := digB_iff.1 h; omega
theorem stk_lt {c : Nat} (h : stkB c = true) : c < 128 := by
  unfold stkB inNB smallB digB at h
  simp at h
  omega
theorem tl1_bt (t : ByteArray) (k : Nat) (h : 1 ≤ t.size) : bt (tl1 t) k = bt t (1 + k) := by unfold tl1 bt; rw [get_suffix t 1 k h]
theorem dots_bt (t : ByteArray) (h : dotsB t = true) : bt t 1 = 46 := by
  have h2 : [46, 46] <+: t.data.toList := List.isPrefixOf_iff_prefix.1 h
  obtain ⟨r, hr⟩ := h2
  have hz := dotsB_iff t h
  have : t.data.toList[1]? = some 46 := by rw [← hr]; rfl
  have h1 : 1 < t.size := by omega
  unfold bt
  rw [get_lt t 1 h1]
  rw [Array.getElem?_toList, Array.getElem?_eq_getElem h1] at this
  have e : t.data[1] = 46 := Option.some.inj this
  show (t.data[1]).toNat = 46
  rw [e]
  rfl
theorem word_last (t : ByteArray) (h : 0 < t.size) (ho : (wordV t).ok = true) : bt t ((wordV t).n - 1) < 128 := by
  unfold wordV at ho ⊢
  split at ho
  · rename_i hs
    rw [if_pos hs]
    refine stk_lt (stk_inN ?_)
    have hn : nameLen t = scanTo (fun n => inNB (bt t n)) (min t.size 32) 1 := by unfold nameLen; rw [if_neg (fun q => q.elim (by omega) (fun q => by rw [hs] at q; cases q))]
    show inNB (bt t (nameLen t - 1)) = true
    rw [hn]
    exact nameLen_prev t (min t.size 32) 1 (by omega) (by omega) (by omega) (by show inNB (bt t 0) = true; unfold inNB; rw [hs]; rfl)
  · rename_i hs
    rw [if_neg hs]
    split at ho
    · rename_i hd
      rw [if_pos hd]
      exact dig_lt (numV_prev t h hd)
    · rename_i hd
      rw [if_neg hd]
      split at ho
      · rename_i hu
        rw [if_pos hu]
        have ho2 : (numdV t).2.2 = true := ((Bool.and_eq_true _ _).mp ho).1
        show bt t ((numdV t).2.1 - 1) < 128
        unfold numdV at ho2 ⊢
        split at ho2
        · cases ho2
        · rename_i h1
          rw [if_neg h1]
          split at ho2
          · cases ho2
          · rename_i h6
            rw [if_neg h6]
            exact stk_lt (stk_hex (numdGo_prev t t.size 0 2 (by omega) (by omega) (fun q => by omega) (by omega)))
      · rename_i hu
        rw [if_neg hu]
        split at ho
        · rename_i hq
          rw [if_pos hq]
          have ho2 : (quoV t).2.2 = true := ho
          show bt t ((quoV t).2.1 - 1) < 128
          unfold quoV at ho2 ⊢
          repeat' split at ho2
          all_goals first | (cases ho2; done) | skip
          rename_i h1 h2 h3 h4 h5
          rw [if_neg h1, if_neg h2, if_neg h3, if_neg h4, if_pos h5]
          have := (rn_39 (tl1 t) (wd (tl1 t) 0)).1 h5
          rw [tl1_bt t _ h] at this
          show bt t (wd (tl1 t) 0 + 2 - 1) < 128
          rw [show wd (tl1 t) 0 + 2 - 1 = 1 + wd (tl1 t) 0 by omega, this]
          decide
        · rename_i hq
          rw [if_neg hq]
          have ho2 : (sgnV t).2.2 = true := ho
          show bt t ((sgnV t).2.1 - 1) < 128
          unfold sgnV at ho2 ⊢
          repeat' split
          all_goals first
            | (show bt t 0 < 128; omega)
            | skip
          all_goals first
            | (rename_i hdt; show bt t 1 < 128; rw [dots_bt t hdt]; decide)
            | (exfalso; simp_all; done)
theorem word_first (t : ByteArray) (ho : (wordV t).ok = true) : bt t 0 < 128 := by
  by_cases hs : smallB (bt t 0) = true
  · exact small_lt hs
  · by_cases hd : digB (bt t 0) = true
    · exact dig_lt hd
    · unfold wordV at ho
      rw [if_neg hs, if_neg hd] at ho
      split at ho
      · omega
      · split at ho
        · omega
        · have ho2 : (sgnV t).2.2 = true := ho
          unfold sgnV at ho2
          repeat' split at ho2
          all_goals first | omega | cases ho2
theorem bd_ascii (s : ByteArray) (i : Nat) (h : bt s i < 128) : bdB s i = true := bd_lead s i (by omega)
theorem bd_next (s : ByteArray) (i : Nat) (hi : i < s.size) (h : bt s i < 128) : bdB s (i + 1) = true := by
  have hw : wd s i = 1 := by
    rcases Nat.lt_or_ge (wd s i) 2 with q | q
    · have := wd_pos s i; omega
    · have := wd_lead s _ q; omega
  have := bd_step s i (bd_ascii s i h) hi
  rwa [hw] at this
theorem lcB_at (s : ByteArray) (b n : Nat) (hb : b + n ≤ s.size) (hd : bdB s b = true) : lcB (rst s b) (lcAt s b) n = lcAt s (b + n) := by
  unfold lcB lcAt
  have e : (rst s b).extract 0 n = s.extract b (b + n) := by
    unfold rst
    rw [ByteArray.extract_extract, Nat.add_zero, Nat.min_eq_left (by omega)]
  rw [e, lcF_all, ← lcR_on s b (b + n) (1, 1) (by omega) hb (bd_pre s b (b + n) hd (by omega) hb)]
structure WdAt (s : ByteArray) (x : Wd) : Prop where
  lc : (x.l, x.c) = whL s x.b
  lt : x.b < s.size
  e : x.e = x.b + x.v.n
  v : x.v = wordV (rst s x.b)
  le : x.e ≤ s.size
theorem wdAt_mk {s : ByteArray} {b : Nat} {x : Nat × Nat} (h1 : x = whL s b) (h2 : b < s.size) (h3 : b + (wordV (rst s b)).n ≤ s.size) : WdAt s ⟨wordV (rst s b), b, x.1, x.2, b + (wordV (rst s b)).n⟩ := by
  obtain ⟨x1, x2⟩ := x
  generalize hw : whL s b = y at h1
  subst h1
  generalize hv : wordV (rst s b) = v at h3
  exact { lc := hw.symm, lt := h2, e := rfl, v := hv.symm, le := h3 }
theorem cut_places (s : ByteArray) : ∀ f b x ws, b ≤ s.size → bdB s b = true → x = lcAt s b → (∀ y ∈ ws, WdAt s y) → (∀ y ∈ (cutGo s f b x ws).ws, WdAt s y) ∧ (cutGo s f b x ws).b ≤ s.size
  | 0, b, x, ws, hb, _, _, h => ⟨h, hb⟩
  | f + 1, b, x, ws, hb, hd, hx, h => by
    have hg := gB_le s b hb
    unfold cutGo
    split
    · exact ⟨h, hg.2⟩
    · split
      · exact ⟨h, hg.2⟩
      · rename_i hz
        rw [rst_size] at hz
        have hp : 0 < (rst s (gB s b)).size := by rw [rst_size]; omega
        have hle := wordV_le (rst s (gB s b)) hp
        rw [rst_size] at hle
        split
        · exact ⟨h, by show gB s b + _ ≤ _; omega⟩
        · rename_i ho
          have ho2 : (wordV (rst s (gB s b))).ok = true := Bool.eq_false_or_eq_true _ |>.resolve_right ho
          have hn := hle.2 ho2
          have e0 : bt (rst s (gB s b)) 0 = bt s (gB s b) := rst_at s (gB s b) 0 hg.2
          have hf := word_first _ ho2
          rw [e0] at hf
          have hl := word_last _ hp ho2
          rw [rst_at s (gB s b) _ hg.2] at hl
          have hbg : bdB s (gB s b) = true := bd_ascii s _ hf
          have hgl : gLC s b x = lcAt s (gB s b) := by
            unfold gLC
            rw [hx, lcB_at s b _ (by have := hg.2; unfold gB at this; exact this) hd]
            rfl
          have hnx : bdB s (gB s b + (wordV (rst s (gB s b))).n) = true := by
            have := bd_next s (gB s b + ((wordV (rst s (gB s b))).n - 1)) (by omega) hl
            rwa [show gB s b + ((wordV (rst s (gB s b))).n - 1) + 1 = gB s b + (wordV (rst s (gB s b))).n by omega] at this
          refine cut_places s f _ _ _ (by omega) hnx (by rw [hgl, lcB_at s _ _ (by omega) hbg]) (fun y hy => ?_)
          rcases List.mem_append.1 hy with hy | hy
          · exact h y hy
          · obtain rfl := List.mem_singleton.1 hy
            exact wdAt_mk (hgl.trans (whL_bd s _ hbg).symm) (by omega) (by omega)
theorem words_places (s : ByteArray) : (∀ y ∈ (wordsV s).ws, WdAt s y) ∧ (wordsV s).b ≤ s.size := cut_places s _ 0 (1, 1) [] (Nat.zero_le _) (bd_zero s) (lcAt_zero s).symm (fun _ h => by cases h)
def upD (d : Nat) : UInt8 := if d < 10 then (48 + d).toUInt8 else (55 + d).toUInt8
theorem upD_of : ∀ d, d < 16 → Lib.toUpperA [digC d] = [upD d] := by decide +kernel
theorem upD_zero : upD 0 = 48 := by decide
theorem toUpperA_app (a b : List UInt8) : Lib.toUpperA (a ++ b) = Lib.toUpperA a ++ Lib.toUpperA b := by simp [Lib.toUpperA]
theorem upL_small {n : Nat} (h : n < 16) : Lib.toUpperA (hexL n) = [upD n] := by rw [hexL_small h, upD_of n h]
theorem upL_step {n : Nat} (h : 16 ≤ n) : Lib.toUpperA (hexL n) = Lib.toUpperA (hexL (n / 16)) ++ [upD (n % 16)] := by rw [hexL_step h, toUpperA_app, upD_of _ (Nat.mod_lt _ (by decide))]
theorem hex4 (n : Nat) (h : n < 65536) : (⟨#[85, 43]⟩ : ByteArray) ++ ⟨(Lib.repeatL [48] (4 - (upS n).size)).toArray⟩ ++ upS n = ⟨#[85, 43, upD (n / 4096), upD (n / 256 % 16), upD (n / 16 % 16), upD (n % 16)]⟩ := by
  by_cases h1 : n < 16
  · have e : upS n = ⟨#[upD n]⟩ := by unfold upS; rw [upL_small h1]
    rw [e, show n / 4096 = 0 by omega, show n / 256 % 16 = 0 by omega, show n / 16 % 16 = 0 by omega, show n % 16 = n by omega, upD_zero]
    rfl
  by_cases h2 : n < 256
  · have e : upS n = ⟨#[upD (n / 16), upD (n % 16)]⟩ := by unfold upS; rw [upL_step (by omega), upL_small (by omega)]; rfl
    rw [e, show n / 4096 = 0 by omega, show n / 256 % 16 = 0 by omega, show n / 16 % 16 = n / 16 by omega, upD_zero]
    rfl
  by_cases h3 : n < 4096
  · have e : upS n = ⟨#[upD (n / 256), upD (n / 16 % 16), upD (n % 16)]⟩ := by unfold upS; rw [upL_step (by omega), upL_step (by omega), upL_small (by omega), show n / 16 / 16 = n / 256 by omega]; rfl
    rw [e, show n / 4096 = 0 by omega, show n / 256 % 16 = n / 256 by omega, upD_zero]
    rfl
  · have e : upS n = ⟨#[upD (n / 4096), upD (n / 256 % 16), upD (n / 16 % 16), upD (n % 16)]⟩ := by unfold upS; rw [upL_step (by omega), upL_step (by omega), upL_step (by omega), upL_small (by omega), show n / 16 / 16 / 16 = n / 4096 by omega, show n / 16 / 16 = n / 256 by omega]; rfl
    rw [e]
    rfl
theorem hex5 (n : Nat) (h0 : 65536 ≤ n) (h : n < 1048576) : (⟨#[85, 43]⟩ : ByteArray) ++ ⟨(Lib.repeatL [48] (4 - (upS n).size)).toArray⟩ ++ upS n = ⟨#[85, 43, upD (n / 65536), upD (n / 4096 % 16), upD (n / 256 % 16), upD (n / 16 % 16), upD (n % 16)]⟩ := by
  have e : upS n = ⟨#[upD (n / 65536), upD (n / 4096 % 16), upD (n / 256 % 16), upD (n / 16 % 16), upD (n % 16)]⟩ := by
    unfold upS
    rw [upL_step (by omega), upL_step (by omega), upL_step (by omega), upL_step (by omega), upL_small (by omega), show n / 16 / 16 / 16 / 16 = n / 65536 by omega, show n / 16 / 16 / 16 = n / 4096 by omega, show n / 16 / 16 = n / 256 by omega]
    rfl
  rw [e]
  rfl
theorem hex6 (n : Nat) (h0 : 1048576 ≤ n) (h : n ≤ 1114111) : (⟨#[85, 43]⟩ : ByteArray) ++ ⟨(Lib.repeatL [48] (4 - (upS n).size)).toArray⟩ ++ upS n = ⟨#[85, 43, upD (n / 1048576), upD (n / 65536 % 16), upD (n / 4096 % 16), upD (n / 256 % 16), upD (n / 16 % 16), upD (n % 16)]⟩ := by
  have e : upS n = ⟨#[upD (n / 1048576), upD (n / 65536 % 16), upD (n / 4096 % 16), upD (n / 256 % 16), upD (n / 16 % 16), upD (n % 16)]⟩ := by
    unfold upS
    rw [upL_step (by omega), upL_step (by omega), upL_step (by omega), upL_step (by omega), upL_step (by omega), upL_small (by omega), show n / 16 / 16 / 16 / 16 / 16 = n / 1048576 by omega, show n / 16 / 16 / 16 / 16 = n / 65536 by omega, show n / 16 / 16 / 16 = n / 4096 by omega, show n / 16 / 16 = n / 256 by omega]
    rfl
  rw [e]
  rfl
theorem rst_zero (s : ByteArray) : rst s 0 = s := ByteArray.extract_zero_size
theorem rst_end (s : ByteArray) : rst s s.size = ByteArray.empty := by
  have : (rst s s.size).size = 0 := by rw [rst_size]; omega
  exact toList_nil _ this
theorem gapV_none {t : ByteArray} (h : 0 < t.size) (hb : blankB (bt t 0) = false) (hr : bt t 0 ≠ 35) : gapV t = (0, true) := by
  unfold gapV
  obtain ⟨k, hk⟩ : ∃ k, t.size = k + 1 := ⟨t.size - 1, by omega⟩
  rw [hk]
  unfold gapGo
  rw [if_pos (by omega), if_neg (by rw [hb]; decide), if_neg hr]
theorem lcB_zero (t : ByteArray) (x : Nat × Nat) : lcB t x 0 = x := by
  unfold lcB
  have : t.extract 0 0 = ByteArray.empty := toList_nil _ (by rw [ByteArray.size_extract]; omega)
  rw [this]
  rfl
theorem words_one {s : ByteArray} {v : WV} (h : 0 < s.size) (hb : blankB (bt s 0) = false) (hr : bt s 0 ≠ 35) (hv : wordV s = v) (hok : v.ok = true) (hn : v.n = s.size) : (wordsV s).ok = true ∧ (wordsV s).ws = [⟨v, 0, 1, 1, s.size⟩] := by
  have hg := gapV_none h hb hr
  obtain ⟨k, hk⟩ : ∃ k, s.size = k + 1 := ⟨s.size - 1, by omega⟩
  have e1 : gB s 0 = 0 := by unfold gB; rw [rst_zero, hg]; rfl
  have e2 : gLC s 0 (1, 1) = (1, 1) := by unfold gLC; rw [rst_zero, hg, lcB_zero]
  have e3 : gapV (rst s s.size) = (0, true) := by rw [rst_end]; rfl
  have e4 : gB s s.size = s.size := by unfold gB; rw [e3]; rfl
  have hw : wordsV s = cutGo s s.size s.size (lcB s (1, 1) s.size) [⟨v, 0, 1, 1, s.size⟩] := by
    unfold wordsV
    rw [cutGo.eq_2, if_neg (by rw [rst_zero, hg]; decide), e1, rst_zero, if_neg (by omega), hv, if_neg (by rw [hok]; decide), e2, hn, Nat.zero_add]
    rfl
  rw [hw]
  have hz : (rst s s.size).size = 0 := by rw [rst_size]; omega
  generalize lcB s (1, 1) s.size = L
  have : cutGo s s.size s.size L [⟨v, 0, 1, 1, s.size⟩] = ⟨true, gB s s.size, gLC s s.size L, [⟨v, 0, 1, 1, s.size⟩]⟩ := by
    have hf : ∀ f, f = k + 1 → cutGo s f s.size L [⟨v, 0, 1, 1, s.size⟩] = ⟨true, gB s s.size, gLC s s.size L, [⟨v, 0, 1, 1, s.size⟩]⟩ := fun f hf => by
      subst hf
      rw [cutGo.eq_2, if_neg (by rw [e3]; decide), if_pos (by rw [e4]; exact hz)]
    exact hf _ hk
  rw [this]
  exact ⟨rfl, rfl⟩
theorem small_first {c : Nat} (h : smallB c = true) : blankB c = false ∧ c ≠ 35 := by
  have := smallB_iff.1 h
  refine ⟨?_, by omega⟩
  unfold blankB
  exact decide_eq_false (by omega)
theorem wordV_small {t : ByteArray} (h : smallB (bt t 0) = true) : wordV t = ⟨1, t.extract 0 (nameLen t), 0, 0, nameLen t, edgeB t (nameLen t)⟩ := by unfold wordV; rw [if_pos h]
theorem sgn_kind (t : ByteArray) : (sgnV t).1 ≠ 1 := by
  unfold sgnV
  repeat' split
  all_goals (show (_ : Nat) ≠ 1; decide)
theorem wordV_one {t : ByteArray} (h : (wordV t).kind = 1) : smallB (bt t 0) = true := by
  cases hs : smallB (bt t 0)
  · exfalso
    unfold wordV at h
    rw [hs, if_neg (by decide)] at h
    split at h
    · cases h
    · split at h
      · cases h
      · split at h
        · cases h
        · exact sgn_kind t h
  · rfl
def legR (s : ByteArray) : Prop := (wordsV s).ok = true ∧ ∃ x, (wordsV s).ws = [x] ∧ x.v.kind = 1 ∧ x.b = 0 ∧ x.e = s.size
theorem legal_words (s : ByteArray) : legalB s = true ↔ legR s := by
  unfold legalB
  rw [decide_eq_true_iff]
  constructor
  · rintro ⟨h0, hn⟩
    have hs : smallB (bt s 0) = true := by
      cases q : smallB (bt s 0)
      · unfold nameLen at hn; rw [if_pos (.inr q)] at hn; omega
      · rfl
    have hf := small_first hs
    have hv := wordV_small hs
    have hok : edgeB s (nameLen s) = true := by unfold edgeB; rw [decide_eq_true hn]; rfl
    obtain ⟨h1, h2⟩ := words_one h0 hf.1 hf.2 hv hok hn
    exact ⟨h1, _, h2, rfl, rfl, rfl⟩
  · rintro ⟨ho, x, hx, hk, hb, he⟩
    have hp := (words_places s).1 x (by rw [hx]; exact List.mem_singleton.2 rfl)
    have hv := hp.v
    rw [hb, rst_zero] at hv
    have hs := wordV_one (t := s) (by rw [← hv]; exact hk)
    have h1 := hp.e
    rw [hv, wordV_small hs, hb, he] at h1
    have h2 := hp.lt
    refine ⟨by omega, ?_⟩
    have : s.size = 0 + nameLen s := h1
    omega
def digs (n : Nat) : Nat → List UInt8
  | 0 => []
  | j + 1 => upD (n / 16 ^ j % 16) :: digs n j
theorem digs_length (n : Nat) : ∀ j, (digs n j).length = j
  | 0 => rfl
  | j + 1 => by show (digs n j).length + 1 = _; rw [digs_length n j]
def digB8 (n j : Nat) : ByteArray := ⟨(digs n j).toArray⟩
theorem digB8_size (n j : Nat) : (digB8 n j).size = j := by show (digs n j).toArray.size = j; rw [List.size_toArray, digs_length]
theorem digB8_step (n j : Nat) : (⟨#[upD (n / 16 ^ j % 16)]⟩ : ByteArray) ++ digB8 n j = digB8 n (j + 1) := by
  apply ByteArray.ext
  rw [ByteArray.data_append]
  show #[_] ++ (digs n j).toArray = (upD (n / 16 ^ j % 16) :: digs n j).toArray
  simp
theorem text_digs (n j : Nat) (hn : n ≤ 1114111) (h4 : 4 ≤ j) (hj : n / 16 ^ j = 0) (hl : j = 4 ∨ n / 16 ^ (j - 1) ≠ 0) : (⟨#[85, 43]⟩ : ByteArray) ++ digB8 n j = (⟨#[85, 43]⟩ : ByteArray) ++ ⟨(Lib.repeatL [48] (4 - (upS n).size)).toArray⟩ ++ upS n := by
  have hj6 : j ≤ 6 := by
    rcases hl with h | h
    · omega
    · rcases Nat.lt_or_ge j 7 with q | q
      · omega
      · exfalso
        apply h
        apply Nat.div_eq_of_lt
        have : 16 ^ 6 ≤ 16 ^ (j - 1) := Nat.pow_le_pow_right (by decide) (by omega)
        omega
  have hc : j = 4 ∨ j = 5 ∨ j = 6 := by omega
  have lt_of : ∀ m, 0 < m → n / m = 0 → n < m := fun m hm h => by
    rcases Nat.lt_or_ge n m with q | q
    · exact q
    · have := Nat.div_pos q hm; omega
  rcases hc with rfl | rfl | rfl
  · have h1 := lt_of 65536 (by decide) hj
    rw [hex4 n h1]
    apply ByteArray.ext
    rw [ByteArray.data_append]
    show #[85, 43] ++ (digs n 4).toArray = _
    simp only [digs, Nat.pow_zero, Nat.div_one, Nat.reducePow]
    rw [Nat.mod_eq_of_lt (a := n / 4096) (by omega)]
    rfl
  · have h1 := lt_of 1048576 (by decide) hj
    have h0 : 65536 ≤ n := by
      rcases hl with h | h
      · omega
      · rcases Nat.lt_or_ge n 65536 with q | q
        · exact absurd (Nat.div_eq_of_lt q) h
        · exact q
    rw [hex5 n h0 h1]
    apply ByteArray.ext
    rw [ByteArray.data_append]
    show #[85, 43] ++ (digs n 5).toArray = _
    simp only [digs, Nat.pow_zero, Nat.div_one, Nat.reducePow]
    rw [Nat.mod_eq_of_lt (a := n / 65536) (by omega)]
    rfl
  · have h0 : 1048576 ≤ n := by
      rcases hl with h | h
      · omega
      · rcases Nat.lt_or_ge n 1048576 with q | q
        · exact absurd (Nat.div_eq_of_lt q) h
        · exact q
    rw [hex6 n h0 hn]
    apply ByteArray.ext
    rw [ByteArray.data_append]
    show #[85, 43] ++ (digs n 6).toArray = _
    simp only [digs, Nat.pow_zero, Nat.div_one, Nat.reducePow]
    rw [Nat.mod_eq_of_lt (a := n / 1048576) (by omega)]
    rfl
def hexS : ByteArray := ⟨#[48, 49, 50, 51, 52, 53, 54, 55, 56, 57, 65, 66, 67, 68, 69, 70]⟩
theorem hexS_one : ∀ d, d < 16 → hexS.extract d (d + 1) = ⟨#[upD d]⟩ := by decide +kernel
def need4V (c : Nat) : Nat × Nat × Nat × Bool := if c < 128 then (0, 0, 0, true) else if (secOf c).1 = 0 then (0, 0, 0, false) else (szOf c - 1, (secOf c).1, (secOf c).2, true)
set_option maxRecDepth 100000 in
set_option maxHeartbeats 4000000 in
theorem need_any (c : Nat) (hc : c < 256) (w : World) : Calls Tryz.prog 146 #[.int .u8 c] w fun e w' => e = .returned (.tuple #[.int .i64 (need4V c).1, .int .u8 (need4V c).2.1, .int .u8 (need4V c).2.2.1, .bool (need4V c).2.2.2]) ∧ w' = w := by
  have hc : (c < 128 ∧ need4V c = (0, 0, 0, true)) ∨ (128 ≤ c ∧ c < 194 ∧ need4V c = (0, 0, 0, false)) ∨ (194 ≤ c ∧ c ≤ 223 ∧ need4V c = (1, 128, 191, true)) ∨ (c = 224 ∧ need4V c = (2, 160, 191, true)) ∨ (225 ≤ c ∧ c ≤ 236 ∧ need4V c = (2, 128, 191, true)) ∨ (c = 237 ∧ need4V c = (2, 128, 159, true)) ∨ (c = 238 ∧ need4V c = (2, 128, 191, true)) ∨ (c = 239 ∧ need4V c = (2, 128, 191, true)) ∨
      (c = 240 ∧ need4V c = (3, 144, 191, true)) ∨ (241 ≤ c ∧ c ≤ 243 ∧ need4V c = (3, 128, 191, true)) ∨ (c = 244 ∧ need4V c = (3, 128, 143, true)) ∨ (245 ≤ c ∧ need4V c = (0, 0, 0, false)) := by
    unfold need4V secOf szOf
    repeat' split
    all_goals simp_all
    all_goals omega
  rcases hc with ⟨h, e⟩ | ⟨h, h', e⟩ | ⟨h, h', e⟩ | ⟨rfl, e⟩ | ⟨h, h', e⟩ | ⟨rfl, e⟩ | ⟨rfl, e⟩ | ⟨rfl, e⟩ | ⟨rfl, e⟩ | ⟨h, h', e⟩ | ⟨rfl, e⟩ | ⟨h, e⟩
  all_goals
    rw [e]; clear e
    go_enter Tryz.func146, Tryz.ntmps146
    go_wp2
    exact bodyPost_ret (v := .tuple #[_, _, _, _]) (by simp [results, Tryz.results146, go_sem]; first | done | exact ⟨rfl, rfl, rfl, rfl⟩) rfl ⟨rfl, rfl⟩
theorem and31 : ∀ b : Nat, b < 256 → bits BinOp.and IntKind.i32 (b : Int) 31 = ((b % 32 : Nat) : Int) := by decide +kernel
theorem and15c : ∀ b : Nat, b < 256 → bits BinOp.and IntKind.i32 (b : Int) 15 = ((b % 16 : Nat) : Int) := by decide +kernel
theorem and7c : ∀ b : Nat, b < 256 → bits BinOp.and IntKind.i32 (b : Int) 7 = ((b % 8 : Nat) : Int) := by decide +kernel
theorem and63 : ∀ b : Nat, b < 256 → bits BinOp.and IntKind.u8 (b : Int) 63 = ((b % 64 : Nat) : Int) := by decide +kernel
theorem step_add (A c : Nat) (hA : A < 33554432) (hc : c < 256) : wrap32 (wrap32 ((A : Int) * 64) + wrap32 (bits BinOp.and IntKind.u8 (c : Int) 63)) = ((A * 64 + c % 64 : Nat) : Int) := by
  rw [and63 c hc]
  unfold wrap32
  omega
abbrev seqR4 (a : Nat) (x : Nat × Nat × Bool) : Value := .tuple #[.int .i32 x.1, .int .i64 ((a + x.2.1 : Nat) : Int), .bool x.2.2]
theorem rst_bt (s : ByteArray) (a k : Nat) (h : a ≤ s.size) : bt (rst s a) k = bt s (a + k) := by unfold bt; rw [get_suffix s a k h]
set_option maxRecDepth 100000 in
set_option maxHeartbeats 4000000 in
theorem sequence_small (s : ByteArray) (hs : s.size ≤ 1099511627776) (a : Nat) (ha : a ≤ 1099511627776) (h : s.size ≤ a ∨ (a < s.size ∧ (bt s a < 128 ∨ (128 ≤ bt s a ∧ (secOf (bt s a)).1 = 0)))) (w : World) : Calls Tryz.prog 95 #[.string s, .int .i64 a] w fun e w' => e = .returned (seqR4 a (seq4V (rst s a))) ∧ w' = w := by
  rcases h with h | ⟨h, hx⟩
  · have HV := hide (seq4_end (t := rst s a) (by rw [rst_size]; omega))
    have h' : (s.size : Int) ≤ (a : Int) := by omega
    clear h
    go_enter Tryz.func95, Tryz.ntmps95
    go_wp2
    go_ret3
    exact ⟨by rw [unhide HV]; rfl, rfl⟩
  · have h' : ¬ (s.size : Int) ≤ (a : Int) := by omega
    have hl : (a : Int) < (s.size : Int) := by omega
    have hgb := bt_get s a h
    have hb0 : bt (rst s a) 0 = bt s a := rst_bt s a 0 (by omega)
    have hpos : 0 < (rst s a).size := by rw [rst_size]; omega
    have hlt := bt_lt s a
    obtain ⟨b, eb⟩ : ∃ b, (s[a]'h).toNat = b := ⟨_, rfl⟩
    rw [hgb, eb] at hx hb0 hlt
    have HC := hide (need_any b hlt)
    rcases hx with hx | ⟨hx, hs0⟩
    · have HV := hide (seq4_ascii hpos (by rw [hb0]; exact hx))
      rw [hb0] at HV
      have hn : need4V b = (0, 0, 0, true) := by unfold need4V; rw [if_pos hx]
      rw [hn] at HC
      clear hn hb0 hpos hgb
      go_enter Tryz.func95, Tryz.ntmps95
      go_wp2_with fail
      refine (unhide HC _).mono ?_
      rintro e w1 ⟨rfl, rfl⟩
      go_wp2_with fail
      refine wp_loop_rounds 1 ?_
      rw [rounds_succ]
      go_wp2_with fail
      go_ret3
      exact ⟨by rw [unhide HV]; rfl, rfl⟩
    · have HV := hide (seq4_none hpos (by rw [hb0]; exact hx) (by rw [hb0]; exact hs0))
      have hn : need4V b = (0, 0, 0, false) := by unfold need4V; rw [if_neg (by omega), if_pos hs0]
      rw [hn] at HC
      clear hn hb0 hpos hgb
      go_enter Tryz.func95, Tryz.ntmps95
      go_wp2_with fail
      refine (unhide HC _).mono ?_
      rintro e w1 ⟨rfl, rfl⟩
      go_wp2_with fail
      go_ret3
      exact ⟨by rw [unhide HV]; rfl, rfl⟩
set_option maxRecDepth 100000 in
set_option maxHeartbeats 8000000 in
theorem sequence_long (s : ByteArray) (hs : s.size ≤ 1099511627776) (a : Nat) (ha : a < s.size) (hx : (secOf (bt s a)).1 ≠ 0) (w : World) : Calls Tryz.prog 95 #[.string s, .int .i64 a] w fun e w' => e = .returned (seqR4 a (seq4V (rst s a))) ∧ w' = w := by
  have hb0 : bt (rst s a) 0 = bt s a := rst_bt s a 0 (by omega)
  have hpos : 0 < (rst s a).size := by rw [rst_size]; omega
  have hq := secOf_lo _ hx
  have hGG := seq4_good hpos (by rw [hb0]; exact hx)
  have hBB := fun k h1 h2 h3 h4 => seq4_bad hpos (by rw [hb0]; exact hx) k h1 h2 h3 h4
  have hgo : ∀ k, 1 ≤ k → good4 (rst s a) k = decide (a + k < s.size ∧ (if k = 1 then (secOf (bt s a)).1 else 128) ≤ bt s (a + k) ∧ bt s (a + k) ≤ (if k = 1 then (secOf (bt s a)).2 else 191)) := fun k hk => by
    unfold good4
    rw [hb0, rst_bt s a k (by omega)]
    congr 1
    rw [rst_size]
    apply propext
    constructor <;> intro h <;> exact ⟨by omega, h.2⟩
  have hac : ∀ k, 1 ≤ k → accOf (rst s a) (k + 1) = accOf (rst s a) k * 64 + bt s (a + k) % 64 := fun k hk => by rw [acc_step _ k hk, rst_bt s a k (by omega)]
  have ha1 : accOf (rst s a) 1 = leadOf (bt s a) := by show leadOf (bt (rst s a) 0) = _; rw [hb0]
  rw [hb0] at hGG hBB
  have hgb := bt_get s a ha
  have hlt := bt_lt s a
  have hsz : (szOf (bt s a) = 1 + 1 ∧ leadOf (bt s a) = bt s a % 32) ∨ (szOf (bt s a) = 2 + 1 ∧ leadOf (bt s a) = bt s a % 16) ∨ (szOf (bt s a) = 3 + 1 ∧ leadOf (bt s a) = bt s a % 8) := by
    unfold szOf leadOf; repeat' split
    all_goals simp
  have hnv : need4V (bt s a) = (szOf (bt s a) - 1, (secOf (bt s a)).1, (secOf (bt s a)).2, true) := by unfold need4V; rw [if_neg (by omega), if_neg hx]
  have HC := hide (need_any (bt s a) hlt)
  rw [hnv] at HC
  obtain ⟨lo, hlo⟩ : ∃ lo, (secOf (bt s a)).1 = lo := ⟨_, rfl⟩
  obtain ⟨hi, hhi⟩ : ∃ hi, (secOf (bt s a)).2 = hi := ⟨_, rfl⟩
  obtain ⟨z, hz⟩ : ∃ z, szOf (bt s a) = z := ⟨_, rfl⟩
  rw [hlo, hhi] at hgo hq HC
  rw [hz] at hsz HC hGG hBB
  clear hnv hb0 hpos hx hlo hhi hz
  obtain ⟨b, eb⟩ : ∃ b, (s[a]'ha).toNat = b := ⟨_, rfl⟩
  rw [hgb, eb] at hlt HC ha1 hsz
  have h' : ¬ (s.size : Int) ≤ (a : Int) := by omega
  have hl : (a : Int) < (s.size : Int) := by omega
  have HGG := hide hGG
  have HBB := hide hBB
  have HGO := hide hgo
  have HAC := hide hac
  clear hGG hBB hgo hac hgb
  have hlo2 : 128 ≤ lo ∧ lo ≤ 191 ∧ 128 ≤ hi ∧ hi ≤ 191 := by omega
  clear hq
  obtain ⟨N, rfl⟩ : ∃ N, z = N + 1 := ⟨z - 1, by omega⟩
  have hN : 1 ≤ N ∧ N ≤ 3 := by omega
  have HINI : Hz (accOf (rst s a) 1 < 32) := hide (by omega)
  simp only [Nat.add_sub_cancel] at HC
  rcases hsz with ⟨hz, hl1⟩ | ⟨hz, hl1⟩ | ⟨hz, hl1⟩
  all_goals
    rw [hl1] at ha1
    have n1 : ((N : Int) == 1) = decide (N = 1) := by cases hd : decide (N = 1) <;> simp at hd ⊢ <;> omega
    have n2 : ((N : Int) == 2) = decide (N = 2) := by cases hd : decide (N = 2) <;> simp at hd ⊢ <;> omega
    have n3 : ((N : Int) == 3) = decide (N = 3) := by cases hd : decide (N = 3) <;> simp at hd ⊢ <;> omega
    first | rw [decide_eq_true (by omega)] at n1 | rw [decide_eq_false (by omega)] at n1
    first | rw [decide_eq_true (by omega)] at n2 | rw [decide_eq_false (by omega)] at n2
    first | rw [decide_eq_true (by omega)] at n3 | rw [decide_eq_false (by omega)] at n3
    have HA1 := hide ha1
    clear hl1 ha1 hz
    go_enter Tryz.func95, Tryz.ntmps95
    go_wp2_with fail
    refine (unhide HC _).mono ?_
    rintro e w1 ⟨rfl, rfl⟩
    go_wp2_with fail
    first | rw [and31 b hlt] | rw [and15c b hlt] | rw [and7c b hlt]
    rw [← unhide HA1]
    clear HA1 HC n1 n2 n3 hlo2 eb hlt hl h'
    go_loop [8, 9, 11, 12] (fun l h r i => ∃ K L H : Nat, 1 ≤ K ∧ K ≤ N + 1 ∧ i = .int .i64 K ∧ r = .int .i32 (accOf (rst s a) K) ∧ l = .int .u8 L ∧ h = .int .u8 H ∧ Hz (L = if K = 1 then lo else 128) ∧ Hz (H = if K = 1 then hi else 191) ∧ Hz (∀ j, 1 ≤ j → j < K → good4 (rst s a) j = true) ∧ Hz (accOf (rst s a) K < bndOf K)) (fun _ _ _ i => N + 1 - (intOf i).toNat)
    case atStart => exact ⟨1, lo, hi, by omega, by omega, rfl, rfl, rfl, rfl, hide rfl, hide rfl, hide (fun j h1 h2 => by omega), HINI⟩
    case round =>
      obtain ⟨K, L, H, hK1, hK2, rfl, rfl, rfl, rfl, HL, HH, HGo, HA⟩ := hrel
      have hgK := unhide HGO K hK1
      rw [← unhide HL, ← unhide HH] at hgK
      by_cases hkn : K ≤ N
      · have hkn' : (K : Int) ≤ (N : Int) := by omega
        by_cases hks : a + K < s.size
        · have hks' : ¬ (s.size : Int) ≤ (a : Int) + (K : Int) := by omega
          have hks2 : (a : Int) + (K : Int) < (s.size : Int) := by omega
          have hgc := bt_get s (a + K) hks
          obtain ⟨c, ec⟩ : ∃ c, (s[a + K]'hks).toNat = c := ⟨_, rfl⟩
          rw [hgc, ec] at hgK
          by_cases hc1 : c < L
          · have hc1' : decide (c < L) = true := decide_eq_true hc1
            have HV := hide (unhide HBB K hK1 (by omega) (unhide HGo) (by rw [hgK]; exact decide_eq_false (by omega)))
            clear hgK hgc
            go_wp2_with fail
            go_ret3
            exact ⟨by rw [unhide HV]; rfl, rfl⟩
          · have hc1' : ¬ c < L := hc1
            by_cases hc2 : H < c
            · have hc2' : decide (H < c) = true := decide_eq_true hc2
              have HV := hide (unhide HBB K hK1 (by omega) (unhide HGo) (by rw [hgK]; exact decide_eq_false (by omega)))
              clear hgK hgc
              go_wp2_with fail
              go_ret3
              exact ⟨by rw [unhide HV]; rfl, rfl⟩
            · have hst := unhide HAC K hK1
              have hcl := bt_lt s (a + K)
              rw [hgc, ec] at hst hcl
              have hA := unhide HA
              have hgd : good4 (rst s a) K = true := by rw [hgK]; exact decide_eq_true (by omega)
              have HGD := hide hgd
              generalize accOf (rst s a) K = A at hst hA
              have HST := hide hst
              have hbs := bnd_step K A c hK1 (by omega) hA
              have HBS := hide hbs
              have hcl' : Hz (c < 256) := hide hcl
              clear hgK hgc hst HA hA hgd hbs hcl hN
              go_wp2_with fail
              go_round
              case rel =>
                refine ⟨K + 1, 128, 191, by omega, by omega, by go_num, ?_, rfl, rfl, hide (by rw [if_neg (by omega)]), hide (by rw [if_neg (by omega)]), hide (fun j h1 h2 => ?_), hide ?_⟩
                · rw [unhide HST, step_add A c (unhide HBS).1 (unhide hcl')]
                · by_cases e : j = K
                  · subst e; exact unhide HGD
                  · exact unhide HGo j h1 (by omega)
                · rw [unhide HST]; exact (unhide HBS).2
              case measure => simp [intOf]; omega
        · have hks' : (s.size : Int) ≤ (a : Int) + (K : Int) := by omega
          have HV := hide (unhide HBB K hK1 (by omega) (unhide HGo) (by rw [hgK]; exact decide_eq_false (by omega)))
          clear hgK
          go_wp2_with fail
          go_ret3
          exact ⟨by rw [unhide HV]; rfl, rfl⟩
      · have hkn' : ¬ (K : Int) ≤ (N : Int) := by omega
        have hKN : K = N + 1 := by omega
        have HV : Hz (seq4V (rst s a) = (accOf (rst s a) K, N + 1, true)) := hide (by rw [hKN]; exact unhide HGG (fun j h1 h2 => unhide HGo j h1 (by omega)))
        clear hgK hKN
        go_wp2_with fail
        go_ret3
        exact ⟨by rw [unhide HV]; rfl, rfl⟩
end Go.Proofs.YtgchlilpjkndlaaGreatDoor
