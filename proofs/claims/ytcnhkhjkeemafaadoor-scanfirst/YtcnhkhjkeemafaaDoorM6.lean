/- Texts of this claim, one behind the other. -/
import Derived.Test.YtcnhkhjkeemafaaDoorM5
import Derived.Test.YtcnhkhjkeemafaaDoorM1
import Derived.Test.YtcnhkhjkeemafaaDoorM2
import Derived.Test.YtcnhkhjkeemafaaDoorM3
import Derived.Laws.StructEq
import Derived.Deep.QuietTactic
import Derived.Test.YtcnhkhjkeemafaaDoorM4
/- What stands ahead of the first wrong byte can go on: runes by number, runes between quotes, all. Plain mathematics. -/
namespace Go.Proofs.YtcnhkhjkeemafaaDoor
open Go.RowKit Go.Shelf
set_option linter.unusedVariables false
theorem one_byte {t : ByteArray} (ht : 0 < t.size) (c : UInt8) (h : bt t 0 = c.toNat) : t.extract 0 1 = ⟨#[c]⟩ := by
  refine ext_get _ _ (by rw [ByteArray.size_extract]; show min 1 t.size - 0 = 1; omega) (fun j hj => ?_)
  rw [ByteArray.size_extract] at hj
  obtain rfl : j = 0 := by omega
  rw [bt_pre t 1 0 (by omega) (by omega), h]
  rfl
theorem width_ok {X : Nat} (h : X ≤ 1114111) (hs : ¬ (55296 ≤ X ∧ X ≤ 57343)) : widthOf (X : Int) ≠ 0 := by
  unfold widthOf
  rw [if_neg (by omega)]
  repeat' split
  all_goals decide
theorem width_no {X : Nat} (h : X ≤ 1114111) (hw : widthOf (X : Int) = 0) : 55296 ≤ X ∧ X ≤ 57343 := by
  by_cases hs : 55296 ≤ X ∧ X ≤ 57343
  · exact hs
  · exact absurd hw (width_ok h hs)
theorem numd_step {u : ByteArray} {v k : Nat} (c d : Nat) (hk : k < u.size) (h6 : k < 6 ∨ bt u 2 ≠ 48) (hb : bt u k = c) (hd : hexI c = (d : Int)) (hv : v * 16 + d ≤ 1114111) : numdGo u v k = numdGo u (v * 16 + d) (k + 1) := by
  rw [numdGo_go ⟨hk, h6, by rw [hb, hd]; omega, by rw [hb, hd, Int.toNat_natCast]; exact hv⟩, hb, hd, Int.toNat_natCast]
theorem numd_end {u : ByteArray} {X : Nat} (h0 : bt u 0 = 85) (h1 : bt u 1 = 43) (h6 : 6 ≤ u.size) (hg : numdGo u 0 2 = (X, u.size)) (hw : widthOf (X : Int) ≠ 0) : (wordV u).ok = true ∧ (wordV u).n = u.size := by
  have e : numdV u = (X, u.size, true) := by
    unfold numdV
    rw [hg, if_neg (fun q => q.elim (fun q => by omega) (fun q => q h1)), if_neg (fun q => q.elim (fun q => by have : u.size < 6 := q; omega) (fun q => hw q))]
  have ew : wordV u = ⟨3, ByteArray.empty, (numdV u).1, 0, (numdV u).2.1, (numdV u).2.2 && edgeB u (numdV u).2.1⟩ := by
    unfold wordV
    rw [h0, if_neg (by decide), if_neg (by decide), if_pos rfl]
  rw [ew, e]
  exact ⟨by show (true && edgeB u u.size) = true; rw [edge_yes (.inl rfl)]; rfl, rfl⟩
theorem numd_six (t : ByteArray) (h48 : bt t 2 = 48) : ∀ f v k, t.size ≤ k + f → k ≤ 6 → (numdGo t v k).2 ≤ 6
  | 0, v, k, h, hk => by rw [numdGo_stop (by omega)]; exact hk
  | f + 1, v, k, h, hk => by
    by_cases hc : k < t.size ∧ (k < 6 ∨ bt t 2 ≠ 48) ∧ 0 ≤ hexI (bt t k) ∧ v * 16 + (hexI (bt t k)).toNat ≤ 1114111
    · rw [numdGo_go hc]
      exact numd_six t h48 f _ (k + 1) (by omega) (by rcases hc.2.1 with q | q; · omega
                                                      · exact absurd h48 q)
    · rw [numdGo_stop hc]; exact hk
theorem numd_ge (t : ByteArray) : ∀ f v k j, t.size ≤ k + f → 16 ^ j ≤ v → 16 ^ (j + ((numdGo t v k).2 - k)) ≤ (numdGo t v k).1
  | 0, v, k, j, h, hv => by rw [numdGo_stop (by omega)]; simpa using hv
  | f + 1, v, k, j, h, hv => by
    by_cases hc : k < t.size ∧ (k < 6 ∨ bt t 2 ≠ 48) ∧ 0 ≤ hexI (bt t k) ∧ v * 16 + (hexI (bt t k)).toNat ≤ 1114111
    · rw [numdGo_go hc]
      have hle := (numdGo_le t t.size (v * 16 + (hexI (bt t k)).toNat) (k + 1) (by omega) (by omega)).1
      have := numd_ge t f (v * 16 + (hexI (bt t k)).toNat) (k + 1) (j + 1) (by omega) (by rw [Nat.pow_succ]; omega)
      rw [show j + ((numdGo t (v * 16 + (hexI (bt t k)).toNat) (k + 1)).2 - k) = j + 1 + ((numdGo t (v * 16 + (hexI (bt t k)).toNat) (k + 1)).2 - (k + 1)) by omega]
      exact this
    · rw [numdGo_stop hc]; simpa using hv
theorem hex0 : hexI 48 = ((0 : Nat) : Int) := by decide
theorem hex1 : hexI 49 = ((1 : Nat) : Int) := by decide
theorem hex4 : hexI 52 = ((4 : Nat) : Int) := by decide
/-- The bytes of a beginning and of an end. -/
theorem pre_app {t l : ByteArray} {n : Nat} (hn : n ≤ t.size) : (t.extract 0 n ++ l).size = n + l.size ∧ (∀ i, i < n → bt (t.extract 0 n ++ l) i = bt t i) ∧ (∀ i, i < l.size → bt (t.extract 0 n ++ l) (n + i) = bt l i) := by
  have hz := pre_size t n hn
  refine ⟨by rw [ByteArray.size_append, hz], fun i hi => by rw [apL _ _ i (by omega), bt_pre t n i hi hn], fun i hi => apR _ _ _ i (by omega)⟩
theorem go_numd {t : ByteArray} (ht : 0 < t.size) (hu : bt t 0 = 85) : Goes1 (t.extract 0 (numdV t).2.1) := by
  rcases numdV_cases t ht with ⟨h1, e⟩ | ⟨h1, h2, h3, e⟩ | ⟨h1, h2, h3, e⟩
  · rw [e]
    show Goes1 (t.extract 0 1)
    rw [one_byte ht 85 hu]
    exact ⟨⟨#[43, 48, 48, 52, 49]⟩, by simp [endsL], by kernel_rfl, by kernel_rfl⟩
  · rw [e]
    show Goes1 (t.extract 0 (numdGo t 0 2).2)
    have hle := numdGo_le t t.size 0 2 (by omega) h1
    have hlt := numd_lt t t.size 0 2 0 (by omega) (by decide)
    rw [Nat.zero_add] at hlt
    have h48 := fun q r => numd_nought h1 q r
    have hsix := fun q => numd_six t q t.size 0 2 (by omega) (by decide)
    have hV : (numdGo t 0 2).1 ≤ 1114111 := hle.2.2 (by decide)
    have hpre := fun (l : ByteArray) => numd_pre (V := (numdGo t 0 2).1) (n := (numdGo t 0 2).2) (u := t.extract 0 (numdGo t 0 2).2 ++ l) hle.1 ⟨hle.2.1, by rw [(pre_app hle.2.1).1]; omega, (pre_app hle.2.1).2.1⟩ t.size 0 2 (by omega) h1 (by omega) rfl
    have hge7 : 7 ≤ (numdGo t 0 2).2 → bt t 2 ≠ 48 → 65536 ≤ (numdGo t 0 2).1 := fun h7 hb2 => by
      have hc : 2 < t.size ∧ (2 < 6 ∨ bt t 2 ≠ 48) ∧ 0 ≤ hexI (bt t 2) ∧ 0 * 16 + (hexI (bt t 2)).toNat ≤ 1114111 := by
        by_cases q : 2 < t.size ∧ (2 < 6 ∨ bt t 2 ≠ 48) ∧ 0 ≤ hexI (bt t 2) ∧ 0 * 16 + (hexI (bt t 2)).toNat ≤ 1114111
        · exact q
        · rw [numdGo_stop q] at h7
          have : 7 ≤ 2 := h7
          omega
      have hx := hexI_nat (hxB_hexI.2 hc.2.2.1)
      have hne : (hexI (bt t 2)).toNat ≠ 0 := fun q => hb2 (hx.2.2.1.1 q)
      have := numd_ge t t.size (0 * 16 + (hexI (bt t 2)).toNat) 3 0 (by omega) (by rw [Nat.pow_zero]; omega)
      rw [← numdGo_go hc] at this
      have h4 : 16 ^ 4 ≤ 16 ^ (0 + ((numdGo t 0 2).2 - 3)) := Nat.pow_le_pow_right (by decide) (by omega)
      have h5 : (16 : Nat) ^ 4 = 65536 := by decide
      omega
    have hln := hle.2.1
    have hg2 := hle.1
    generalize (numdGo t 0 2).1 = V at *
    generalize (numdGo t 0 2).2 = N at *
    have hu0 : ∀ l : ByteArray, bt (t.extract 0 N ++ l) 0 = 85 := fun l => by rw [(pre_app hln).2.1 0 (by omega)]; exact hu
    have hu1 : ∀ l : ByteArray, bt (t.extract 0 N ++ l) 1 = 43 := fun l => by rw [(pre_app hln).2.1 1 (by omega)]; exact h2
    have hu2 : ∀ l : ByteArray, 3 ≤ N → bt (t.extract 0 N ++ l) 2 = bt t 2 := fun l h => (pre_app hln).2.1 2 (by omega)
    by_cases hN : N < 6
    · have hc : N = 2 ∨ N = 3 ∨ N = 4 ∨ N = 5 := by omega
      rcases hc with rfl | rfl | rfl | rfl
      · obtain ⟨z, _, c⟩ := pre_app (l := ⟨#[48, 48, 52, 49]⟩) hln
        have hz : (t.extract 0 2 ++ ⟨#[48, 48, 52, 49]⟩).size = 6 := z
        refine ⟨⟨#[48, 48, 52, 49]⟩, by simp [endsL], numd_end (X := 65) (hu0 _) (hu1 _) (by omega) ?_ (width_ok (by decide) (by decide))⟩
        have hV0 : V = 0 := by have : V < 1 := hlt; omega
        rw [hpre, hV0, numd_step 48 0 (by omega) (.inl (by decide)) (c 0 (by decide)) hex0 (by decide), numd_step 48 0 (by omega) (.inl (by decide)) (c 1 (by decide)) hex0 (by decide), numd_step 52 4 (by omega) (.inl (by decide)) (c 2 (by decide)) hex4 (by decide), numd_step 49 1 (by omega) (.inl (by decide)) (c 3 (by decide)) hex1 (by decide), numdGo_stop (by omega), hz]
      · obtain ⟨z, _, c⟩ := pre_app (l := ⟨#[48, 52, 49]⟩) hln
        have hz : (t.extract 0 3 ++ ⟨#[48, 52, 49]⟩).size = 6 := z
        have hV1 : V < 16 := hlt
        refine ⟨⟨#[48, 52, 49]⟩, by simp [endsL], numd_end (X := ((V * 16 + 0) * 16 + 4) * 16 + 1) (hu0 _) (hu1 _) (by omega) ?_ (width_ok (by omega) (by omega))⟩
        rw [hpre, numd_step 48 0 (by omega) (.inl (by decide)) (c 0 (by decide)) hex0 (by omega), numd_step 52 4 (by omega) (.inl (by decide)) (c 1 (by decide)) hex4 (by omega), numd_step 49 1 (by omega) (.inl (by decide)) (c 2 (by decide)) hex1 (by omega), numdGo_stop (by omega), hz]
      · have hV2 : V < 256 := hlt
        by_cases hs : 216 ≤ V ∧ V ≤ 223
        · have hb2 : bt t 2 ≠ 48 := fun q => by have : V < 16 := h48 q (by decide); omega
          obtain ⟨z, _, c⟩ := pre_app (l := ⟨#[48, 52, 49]⟩) hln
          have hz : (t.extract 0 4 ++ ⟨#[48, 52, 49]⟩).size = 7 := z
          refine ⟨⟨#[48, 52, 49]⟩, by simp [endsL], numd_end (X := ((V * 16 + 0) * 16 + 4) * 16 + 1) (hu0 _) (hu1 _) (by omega) ?_ (width_ok (by omega) (by omega))⟩
          rw [hpre, numd_step 48 0 (by omega) (.inl (by decide)) (c 0 (by decide)) hex0 (by omega), numd_step 52 4 (by omega) (.inl (by decide)) (c 1 (by decide)) hex4 (by omega), numd_step 49 1 (by omega) (.inr (by rw [hu2 _ (by decide)]; exact hb2)) (c 2 (by decide)) hex1 (by omega), numdGo_stop (by omega), hz]
        · obtain ⟨z, _, c⟩ := pre_app (l := ⟨#[52, 49]⟩) hln
          have hz : (t.extract 0 4 ++ ⟨#[52, 49]⟩).size = 6 := z
          refine ⟨⟨#[52, 49]⟩, by simp [endsL], numd_end (X := (V * 16 + 4) * 16 + 1) (hu0 _) (hu1 _) (by omega) ?_ (width_ok (by omega) (by omega))⟩
          rw [hpre, numd_step 52 4 (by omega) (.inl (by decide)) (c 0 (by decide)) hex4 (by omega), numd_step 49 1 (by omega) (.inl (by decide)) (c 1 (by decide)) hex1 (by omega), numdGo_stop (by omega), hz]
      · have hV3 : V < 4096 := hlt
        by_cases hs : 3456 ≤ V ∧ V ≤ 3583
        · have hb2 : bt t 2 ≠ 48 := fun q => by have : V < 256 := h48 q (by decide); omega
          obtain ⟨z, _, c⟩ := pre_app (l := ⟨#[52, 49]⟩) hln
          have hz : (t.extract 0 5 ++ ⟨#[52, 49]⟩).size = 7 := z
          refine ⟨⟨#[52, 49]⟩, by simp [endsL], numd_end (X := (V * 16 + 4) * 16 + 1) (hu0 _) (hu1 _) (by omega) ?_ (width_ok (by omega) (by omega))⟩
          rw [hpre, numd_step 52 4 (by omega) (.inl (by decide)) (c 0 (by decide)) hex4 (by omega), numd_step 49 1 (by omega) (.inr (by rw [hu2 _ (by decide)]; exact hb2)) (c 1 (by decide)) hex1 (by omega), numdGo_stop (by omega), hz]
        · obtain ⟨z, _, c⟩ := pre_app (l := ⟨#[49]⟩) hln
          have hz : (t.extract 0 5 ++ ⟨#[49]⟩).size = 6 := z
          refine ⟨⟨#[49]⟩, by simp [endsL], numd_end (X := V * 16 + 1) (hu0 _) (hu1 _) (by omega) ?_ (width_ok (by omega) (by omega))⟩
          rw [hpre, numd_step 49 1 (by omega) (.inl (by decide)) (c 0 (by decide)) hex1 (by omega), numdGo_stop (by omega), hz]
    · have hsur := width_no hV (h3.resolve_left hN)
      have hN6 : N = 6 := by
        by_cases h7 : 7 ≤ N
        · have hb2 : bt t 2 ≠ 48 := fun q => by have := hsix q; omega
          have := hge7 h7 hb2
          omega
        · omega
      subst hN6
      have hb2 : bt t 2 ≠ 48 := fun q => by have : V < 4096 := h48 q (by decide); omega
      obtain ⟨z, _, c⟩ := pre_app (l := ⟨#[48]⟩) hln
      have hz : (t.extract 0 6 ++ ⟨#[48]⟩).size = 7 := z
      refine ⟨⟨#[48]⟩, by simp [endsL], numd_end (X := V * 16 + 0) (hu0 _) (hu1 _) (by omega) ?_ (width_ok (by omega) (by omega))⟩
      rw [hpre, numd_step 48 0 (by omega) (.inr (by rw [hu2 _ (by decide)]; exact hb2)) (c 0 (by decide)) hex0 (by omega), numdGo_stop (by omega), hz]
  · rw [e]
    show Goes1 (t.extract 0 (numdGo t 0 2).2)
    have hle := numdGo_le t t.size 0 2 (by omega) h1
    have hz := pre_size t (numdGo t 0 2).2 hle.2.1
    have hb : ∀ i, i < (numdGo t 0 2).2 → bt (t.extract 0 (numdGo t 0 2).2) i = bt t i := fun i hi => bt_pre t _ i hi hle.2.1
    have h6 : 6 ≤ (numdGo t 0 2).2 := by omega
    have hpre := numd_pre (V := (numdGo t 0 2).1) (n := (numdGo t 0 2).2) (u := t.extract 0 (numdGo t 0 2).2) hle.1 ⟨hle.2.1, by omega, hb⟩ t.size 0 2 (by omega) h1 (by omega) rfl
    have hw : widthOf ((numdGo t 0 2).1 : Int) ≠ 0 := fun q => h3 (.inr q)
    rw [numdGo_stop (t := t.extract 0 (numdGo t 0 2).2) (v := (numdGo t 0 2).1) (by omega)] at hpre
    have := numd_end (u := t.extract 0 (numdGo t 0 2).2) (X := (numdGo t 0 2).1) (by rw [hb 0 (by omega)]; exact hu) (by rw [hb 1 (by omega)]; exact h2) (by omega) (by rw [hpre, hz]) hw
    exact goes_nil this.1 this.2
theorem quo_end {u : ByteArray} (h0 : bt u 0 = 39) (hb : badB (tl1 u) 0 = false) (hr : ¬ (rn (tl1 u) 0 < 32 ∨ rn (tl1 u) 0 = 39 ∨ rn (tl1 u) 0 = 127)) (hw : wd (tl1 u) 0 + 2 = u.size) (h39 : bt (tl1 u) (wd (tl1 u) 0) = 39) : (wordV u).ok = true ∧ (wordV u).n = u.size := by
  have hz := tl1_size u
  have hwu : ¬ wholeB (tl1 u) = false := by
    unfold wholeB
    rw [hb, decide_eq_true (by omega)]
    decide
  have e : quoV u = (rn (tl1 u) 0, wd (tl1 u) 0 + 2, true) := by unfold quoV; rw [if_neg (by omega), if_neg hr, if_neg hwu, if_neg (by omega), if_pos ((rn_39 _ _).2 h39)]
  have ew : wordV u = ⟨3, ByteArray.empty, (quoV u).1, 0, (quoV u).2.1, (quoV u).2.2⟩ := by
    unfold wordV
    rw [h0, if_neg (by decide), if_neg (by decide), if_neg (by decide), if_pos rfl]
  rw [ew, e]
  exact ⟨rfl, hw⟩
theorem tl1_app {t l : ByteArray} {m : Nat} (hm : 1 + m ≤ t.size) : tl1 (t.extract 0 (1 + m) ++ l) = (tl1 t).extract 0 m ++ l := by
  obtain ⟨z1, c1, c2⟩ := pre_app (l := l) hm
  have zt := tl1_size t
  obtain ⟨z2, d1, d2⟩ := pre_app (t := tl1 t) (l := l) (n := m) (by omega)
  have zu := tl1_size (t.extract 0 (1 + m) ++ l)
  refine ext_get _ _ (by omega) (fun j hj => ?_)
  rw [tl1_bt _ j (by omega)]
  by_cases h : j < m
  · rw [c1 _ (by omega), d1 j h, tl1_bt t j (by omega)]
  · have e1 := c2 (j - m) (by omega)
    have e2 := d2 (j - m) (by omega)
    rw [show 1 + m + (j - m) = 1 + j by omega] at e1
    rw [show m + (j - m) = j by omega] at e2
    rw [e1, e2]
theorem go_quo {t : ByteArray} (ht : 0 < t.size) (hq : bt t 0 = 39) (ho : (quoV t).2.2 = false) : Goes1 (t.extract 0 (quoV t).2.1) := by
  have zt := tl1_size t
  have first : Goes1 (t.extract 0 1) := by
    rw [one_byte ht 39 hq]
    exact ⟨⟨#[97, 39]⟩, by simp [endsL], by kernel_rfl, by kernel_rfl⟩
  by_cases h1 : (tl1 t).size = 0
  · have e : quoV t = (0, t.size, false) := by unfold quoV; rw [if_pos h1]
    rw [e]
    show Goes1 (t.extract 0 t.size)
    rw [show t.size = 1 by omega]
    exact first
  by_cases h2 : rn (tl1 t) 0 < 32 ∨ rn (tl1 t) 0 = 39 ∨ rn (tl1 t) 0 = 127
  · have e : quoV t = (0, 1, false) := by unfold quoV; rw [if_neg h1, if_pos h2]
    rw [e]
    exact first
  by_cases h3 : wholeB (tl1 t) = false
  · have e : quoV t = (0, 1 + begLen (tl1 t), false) := by unfold quoV; rw [if_neg h1, if_neg h2, if_pos h3]
    rw [e]
    show Goes1 (t.extract 0 (1 + begLen (tl1 t)))
    have hbl := begLen_le (tl1 t)
    have hbad := whole_bad (by omega) h3
    by_cases h0 : begLen (tl1 t) = 0
    · rw [h0]; exact first
    · obtain ⟨c, hc, hcx⟩ := cont_ok (by omega) hbad (by omega)
      obtain ⟨k1, k2, k3⟩ := hcx ⟨#[39]⟩
      have hta : tl1 (t.extract 0 (1 + begLen (tl1 t)) ++ (c ++ ⟨#[39]⟩)) = (tl1 t).extract 0 (begLen (tl1 t)) ++ c ++ ⟨#[39]⟩ := by rw [tl1_app (t := t) (l := c ++ ⟨#[39]⟩) (m := begLen (tl1 t)) (by omega), ByteArray.append_assoc]
      obtain ⟨z, d1, d2, d3⟩ := cont_at (t := tl1 t) (l := c) (x := ⟨#[39]⟩) (m := begLen (tl1 t)) (by omega)
      have hx : (⟨#[39]⟩ : ByteArray).size = 1 := rfl
      obtain ⟨zu, cu, _⟩ := pre_app (t := t) (l := c ++ ⟨#[39]⟩) (n := 1 + begLen (tl1 t)) (by omega)
      have hcz : (c ++ (⟨#[39]⟩ : ByteArray)).size = c.size + 1 := ByteArray.size_append
      refine ⟨c ++ ⟨#[39]⟩, (cont_ends c hc).2, quo_end (by rw [cu 0 (by omega)]; exact hq) (by rw [hta]; exact k1) (by rw [hta]; omega) (by rw [hta, k2, zu]; omega) ?_⟩
      rw [hta, k2]
      have := d3 0
      rw [Nat.add_zero] at this
      rw [this]
      rfl
  · have hpw := wd_pos (tl1 t) 0
    have hwr := wd_room (tl1 t) 0 (by omega)
    have hn : (quoV t).2.1 = 1 + wd (tl1 t) 0 := by
      by_cases h4 : ¬ wd (tl1 t) 0 < (tl1 t).size
      · have e : quoV t = (0, t.size, false) := by unfold quoV; rw [if_neg h1, if_neg h2, if_neg h3, if_pos h4]
        rw [e]
        show t.size = _
        omega
      · by_cases h5 : rn (tl1 t) (wd (tl1 t) 0) = 39
        · have e : quoV t = (rn (tl1 t) 0, wd (tl1 t) 0 + 2, true) := by unfold quoV; rw [if_neg h1, if_neg h2, if_neg h3, if_neg h4, if_pos h5]
          rw [e] at ho
          cases ho
        · have e : quoV t = (0, 1 + wd (tl1 t) 0, false) := by unfold quoV; rw [if_neg h1, if_neg h2, if_neg h3, if_neg h4, if_neg h5]
          rw [e]
    rw [hn]
    have hg := (whole_good h3).2
    have hng : ¬ (rn (tl1 t) 0 = 65533 ∧ wd (tl1 t) 0 = 1) := of_decide_eq_false hg
    obtain ⟨m, hm⟩ : ∃ m, wd (tl1 t) 0 = m := ⟨_, rfl⟩
    rw [hm] at hpw hwr ⊢
    have hta := tl1_app (t := t) (l := ⟨#[39]⟩) (m := m) (by omega)
    obtain ⟨z, d1, d2⟩ := pre_app (t := tl1 t) (l := ⟨#[39]⟩) (n := m) (by omega)
    obtain ⟨zu, cu, _⟩ := pre_app (t := t) (l := ⟨#[39]⟩) (n := 1 + m) (by omega)
    have h39 := d2 0 (by decide)
    generalize (tl1 t).extract 0 m ++ (⟨#[39]⟩ : ByteArray) = U at *
    have hx : (⟨#[39]⟩ : ByteArray).size = 1 := rfl
    have hd := decode_same (t := tl1 t) (u := U) (m := m) (Nat.le_of_eq hm) (by omega) (by omega) (by omega) d1 hng
    have r0 : rn U 0 = rn (tl1 t) 0 := by unfold rn; rw [hd]
    have w0 : wd U 0 = m := by rw [← hm]; unfold wd; rw [hd]
    refine ⟨⟨#[39]⟩, by simp [endsL], quo_end (by rw [cu 0 (by omega)]; exact hq) (by rw [hta]; unfold badB; rw [r0, w0, ← hm]; exact hg) (by rw [hta, r0]; exact h2) (by rw [hta, w0, zu]; omega) ?_⟩
    rw [hta, w0]
    rw [Nat.add_zero] at h39
    rw [h39]
    rfl
theorem word_go {t : ByteArray} (ht : 0 < t.size) (ho : (wordV t).ok = false) (hn : 1 ≤ (wordV t).n) : Goes1 (t.extract 0 (wordV t).n) := by
  rcases wordV_cases t with ⟨hs, e⟩ | ⟨hs, hd, e⟩ | ⟨hs, hd, hu, e⟩ | ⟨hs, hd, hu, hq, e⟩ | ⟨hs, hd, hu, hq, e⟩
  · rw [e]; exact go_name ht hs
  · rw [e]; exact go_num ht hs hd
  · rw [e]; exact go_numd ht hu
  · rw [e] at ho ⊢; exact go_quo ht hq ho
  · rw [e] at ho hn ⊢
    have ho' : (sgnV t).2.2 = false := ho
    have hn' : 1 ≤ (sgnV t).2.1 := hn
    show Goes1 (t.extract 0 (sgnV t).2.1)
    by_cases h46 : bt t 0 = 46
    · have hdt : dotsB t = false := by
        cases q : dotsB t
        · rfl
        · unfold sgnV at ho'
          rw [h46, q] at ho'
          cases ho'
      have ev : sgnV t = (0, 1, false) := by unfold sgnV; rw [h46, hdt]; rfl
      rw [ev]
      show Goes1 (t.extract 0 1)
      rw [one_byte ht 46 h46]
      exact ⟨⟨#[46]⟩, by simp [endsL], by kernel_rfl, by kernel_rfl⟩
    · exfalso
      unfold sgnV at ho' hn'
      repeat' split at ho'
      all_goals first
        | (cases ho'; done)
        | (exact absurd (by assumption) h46)
        | (simp_all; done)
/-- What stands ahead of the place where a text stops can go on. -/
theorem words_go {s : ByteArray} (h : (wordsV s).ok = false) : ∃ l ∈ endsL, (wordsV (s.extract 0 (wordsV s).b ++ l)).ok = true := by
  have hk := (words_places s).2
  obtain ⟨b, hr, hc⟩ := words_stop h
  generalize (wordsV s).b = k at *
  have hagr : ∀ l : ByteArray, Agr s (s.extract 0 k ++ l) k := fun l => ⟨hk, by rw [(pre_app hk).1]; omega, (pre_app hk).2.1⟩
  have hsz : ∀ l : ByteArray, (s.extract 0 k ++ l).size = k + l.size := fun l => (pre_app hk).1
  rcases hc with hg | ⟨q, hg, hq, ho, hk2⟩
  · obtain ⟨x, h1, h2, h3, h4, h6, h5⟩ := gap_off s s.size false b k (by omega) hr.le (by rw [gapM_f]; exact hg)
    have hlt := h6 rfl
    have hz := rst_size s x
    have hd : Utf8.decode (rst s x) 0 = Utf8.decode s x := decode_suffix s x 0 (by omega)
    have hb0 : badB (rst s x) 0 = true := by unfold badB rn wd; rw [hd]; exact h3
    have hreach : ∀ l : ByteArray, b < k → Reach (s.extract 0 k ++ l) b := fun l hbk => hr.on ((hagr l).mono (by omega)) (.inr (.inl ⟨by omega, by rw [hsz]; omega, (hagr l).bt b hbk⟩))
    have hgap : ∀ l : ByteArray, gapA (s.extract 0 k ++ l) b = remA (s.extract 0 k ++ l) x := fun l => by
      have := h5 _ ((hagr l).mono (show x ≤ k by omega))
      rwa [gapM_f] at this
    by_cases hm : begLen (rst s x) = 0
    · refine ⟨⟨#[]⟩, by simp [endsL], reach_ok (hreach _ (by omega)) ?_⟩
      have hs0 := hsz ⟨#[]⟩
      have hs1 : (s.extract 0 k ++ (⟨#[]⟩ : ByteArray)).size = x := by rw [hs0, h4, hm]; rfl
      rw [hgap, remA_end _ x hs1.symm, hs1]
    · obtain ⟨c, hc, hcx⟩ := cont_ok (by omega) hb0 (by omega)
      obtain ⟨k1, k2, k3⟩ := hcx ByteArray.empty
      have hs0 := hsz c
      have hrx : rst (s.extract 0 k ++ c) x = (rst s x).extract 0 (begLen (rst s x)) ++ c ++ ByteArray.empty := by
        obtain ⟨z, d1, d2, d3⟩ := cont_at (t := rst s x) (l := c) (x := ByteArray.empty) (m := begLen (rst s x)) (begLen_le _)
        have he : (ByteArray.empty : ByteArray).size = 0 := rfl
        refine ext_get _ _ (by rw [rst_size]; omega) (fun j hj => ?_)
        rw [rst_size] at hj
        rw [rst_at _ _ _ (by omega)]
        by_cases hjm : j < begLen (rst s x)
        · rw [(hagr c).bt _ (by omega), d1 j hjm, rst_at _ _ _ (by omega)]
        · have e1 := (pre_app (t := s) (l := c) hk).2.2 (x + j - k) (by omega)
          rw [show k + (x + j - k) = x + j by omega] at e1
          have e2 := d2 (j - begLen (rst s x)) (by omega)
          rw [show begLen (rst s x) + (j - begLen (rst s x)) = j by omega] at e2
          rw [e1, e2, show x + j - k = j - begLen (rst s x) by omega]
      rw [← hrx] at k1 k2
      have hdu : Utf8.decode (rst (s.extract 0 k ++ c) x) 0 = Utf8.decode (s.extract 0 k ++ c) x := decode_suffix _ x 0 (by omega)
      have hbu : badB (s.extract 0 k ++ c) x = false := by unfold badB rn wd at k1 ⊢; rw [hdu] at k1; exact k1
      have hwu : wd (s.extract 0 k ++ c) x = begLen (rst s x) + c.size := by unfold wd at k2 ⊢; rw [hdu] at k2; exact k2
      have hcs : 1 ≤ c.size := by
        simp only [contS, List.mem_cons, List.not_mem_nil, or_false] at hc
        rcases hc with rfl | rfl | rfl | rfl | rfl | rfl <;> decide
      have hlead := wd_lead (s.extract 0 k ++ c) x (by omega)
      refine ⟨c, (cont_ends c hc).1, reach_ok (hreach c (by omega)) ?_⟩
      rw [hgap, remA_spot _ x (by omega) (by omega) hbu, hwu, remA_end _ _ (by omega), Prod.mk.injEq]
      exact ⟨by omega, rfl⟩
  · have hbq : b ≤ q := by have := (gapA_le s b hr.le).1; rw [hg] at this; exact this
    have hstop : blankB (bt s q) = false ∧ bt s q ≠ 35 := gap_stopped s s.size false b q (by omega) hr.le (by rw [gapM_f]; exact hg) hq
    have hz := rst_size s q
    by_cases hn : (wordV (rst s q)).n = 0
    · have hs0 : (s.extract 0 k ++ (⟨#[]⟩ : ByteArray)).size = q := by rw [hsz, hk2, hn]; rfl
      refine ⟨⟨#[]⟩, by simp [endsL], reach_ok (b := b) (hr.on ((hagr _).mono (by omega)) ?_) ?_⟩
      · by_cases e : b = q
        · left; omega
        · right; left; exact ⟨by omega, by omega, (hagr _).bt b (by omega)⟩
      · have := gap_on ((hagr ⟨#[]⟩).mono (show q ≤ k by omega)) s.size false b q (by omega) hr.le (by rw [gapM_f]; exact hg) hq (Nat.le_refl _)
        rw [gapM_f] at this
        rw [this, gapA_end _ q (by omega) (by omega), hs0]
    · obtain ⟨l, hl, hw1, hw2⟩ := word_go (t := rst s q) (by omega) ho (by omega)
      have hle := (wordV_le (rst s q) (by omega)).1
      have hs0 := hsz l
      have hrq : rst (s.extract 0 k ++ l) q = (rst s q).extract 0 (wordV (rst s q)).n ++ l := by
        obtain ⟨z, d1, d2⟩ := pre_app (t := rst s q) (l := l) hle
        refine ext_get _ _ (by rw [rst_size]; omega) (fun j hj => ?_)
        rw [rst_size] at hj
        rw [rst_at _ _ _ (by omega)]
        by_cases hjm : j < (wordV (rst s q)).n
        · rw [(hagr l).bt _ (by omega), d1 j hjm, rst_at _ _ _ (by omega)]
        · have e1 := (pre_app (t := s) (l := l) hk).2.2 (q + j - k) (by omega)
          rw [show k + (q + j - k) = q + j by omega] at e1
          have e2 := d2 (j - (wordV (rst s q)).n) (by omega)
          rw [show (wordV (rst s q)).n + (j - (wordV (rst s q)).n) = j by omega] at e2
          rw [e1, e2, show q + j - k = j - (wordV (rst s q)).n by omega]
      rw [← hrq] at hw1 hw2
      rw [rst_size] at hw2
      have hru := hr.on ((hagr l).mono (show b ≤ k by omega)) (.inr (.inl ⟨by omega, by omega, (hagr l).bt b (by omega)⟩))
      have hgu := gap_at ((hagr l).mono (show q + 1 ≤ k by omega)) hr.le hg hq hstop
      have hnx := Reach.next hru hgu (by omega) hw1
      rw [hw2, show q + ((s.extract 0 k ++ l).size - q) = (s.extract 0 k ++ l).size by omega] at hnx
      exact ⟨l, hl, reach_ok hnx (gapA_end _ _ (Nat.le_refl _) (Nat.le_refl _))⟩
end Go.Proofs.YtcnhkhjkeemafaaDoor
/- How many words a text can have. -/
namespace Go.Proofs.YtcnhkhjkeemafaaDoor
open Go.RowKit Go.Shelf
set_option linter.unusedVariables false
theorem cut_count (s : ByteArray) : ∀ f b x ws, b ≤ s.size → ws.length ≤ b → (cutGo s f b x ws).ws.length ≤ s.size
  | 0, b, x, ws, hb, h => Nat.le_trans h hb
  | f + 1, b, x, ws, hb, h => by
    have hg := gB_le s b hb
    unfold cutGo
    split
    · exact Nat.le_trans h hb
    · split
      · exact Nat.le_trans h hb
      · rename_i hz
        rw [rst_size] at hz
        have hp : 0 < (rst s (gB s b)).size := by rw [rst_size]; omega
        have hle := wordV_le (rst s (gB s b)) hp
        rw [rst_size] at hle
        split
        · exact Nat.le_trans h hb
        · rename_i ho
          have ho2 : (wordV (rst s (gB s b))).ok = true := Bool.eq_false_or_eq_true _ |>.resolve_right ho
          have hn := hle.2 ho2
          exact cut_count s f _ _ _ (by omega) (by rw [List.length_append, List.length_singleton]; omega)
theorem words_count (s : ByteArray) : (wordsV s).ws.length ≤ s.size := cut_count s _ 0 (1, 1) [] (Nat.zero_le _) (Nat.le_refl _)
end Go.Proofs.YtcnhkhjkeemafaaDoor
/- A text, cut off. -/
namespace Go.Proofs.YtcnhkhjkeemafaaDoor
open Go.RowKit Go.Shelf
set_option linter.unusedVariables false
/-- A text, cut off. -/
def fewV (s : ByteArray) (n : Nat) : ByteArray := if n < s.size then s.extract 0 n else s
theorem fewV_size (s : ByteArray) (n : Nat) : (fewV s n).size ≤ n := by
  unfold fewV
  split
  · rw [ByteArray.size_extract]; omega
  · omega
set_option maxRecDepth 100000 in
theorem few_any (s : ByteArray) (hs : s.size ≤ maxLen) (n : Nat) (hn : n ≤ 1099511627776) (w : World) : Calls Tryd.prog 6 #[.string s, .int .i64 n] w fun e w' => e = .returned (.string (fewV s n)) ∧ w' = w := by
  unfold maxLen at hs
  unfold fewV
  by_cases h : n < s.size
  · rw [if_pos h]
    have h1 : (n : Int) < (s.size : Int) := by omega
    have h2 : (n : Int) ≤ (s.size : Int) := by omega
    go_enter Tryd.func6, Tryd.ntmps6
    go_wp2_with fail
    go_ret
    exact ⟨rfl, rfl⟩
  · rw [if_neg h]
    have h1 : ¬ (n : Int) < (s.size : Int) := by omega
    go_enter Tryd.func6, Tryd.ntmps6
    go_wp2_with fail
    go_ret
    exact ⟨rfl, rfl⟩
end Go.Proofs.YtcnhkhjkeemafaaDoor
/- Words as elements of lists; Same of the books at lists of words. -/
namespace Go.Proofs.YtcnhkhjkeemafaaDoor
open Go.RowKit Go.Shelf
set_option linter.unusedVariables false
/-- A word, with its eight parts. -/
structure W8 where
  k : Int
  S : ByteArray
  r : Int
  n : Int
  b : Int
  l : Int
  c : Int
  e : Int
def w8Cells (x : W8) : List Value := [.int .i64 x.k, .string x.S, .int .i32 x.r, .int .i64 x.n, .int .i64 x.b, .int .i64 x.l, .int .i64 x.c, .int .i64 x.e]
def encW (zs : List W8) : List Value := zs.flatMap w8Cells
theorem encW_cons (x : W8) (zs : List W8) : encW (x :: zs) = w8Cells x ++ encW zs := rfl
theorem encW_length (zs : List W8) : (encW zs).length = zs.length * 8 := by
  induction zs with
  | nil => rfl
  | cons x zs ih => rw [encW_cons, List.length_append, ih, List.length_cons]; show 8 + _ = _; omega
theorem encW_at (zs : List W8) (j : Nat) (x : W8) (h : zs[j]? = some x) : ∀ i u, (w8Cells x)[i]? = some u → (encW zs)[j * 8 + i]? = some u := by
  induction zs generalizing j with
  | nil => simp at h
  | cons y zs ih =>
    intro i u hu
    have hi : i < 8 := (List.getElem?_eq_some_iff.1 hu).1
    cases j with
    | zero =>
      obtain rfl : y = x := by simpa using h
      rw [encW_cons, Nat.zero_mul, Nat.zero_add, List.getElem?_append_left (by exact hi)]
      exact hu
    | succ j =>
      have h' : zs[j]? = some x := by simpa using h
      rw [encW_cons, List.getElem?_append_right (by show 8 ≤ _; omega), show (j + 1) * 8 + i - (w8Cells y).length = j * 8 + i by show (j + 1) * 8 + i - 8 = _; omega]
      exact ih j h' i u hu
theorem encW_one (zs : List W8) : ∀ u ∈ encW zs, u.oneCell' = true := by
  induction zs with
  | nil => intro u hu; cases hu
  | cons x zs ih =>
    intro u hu
    rw [encW_cons] at hu
    rcases List.mem_append.1 hu with hu | hu
    · simp only [w8Cells, List.mem_cons, List.not_mem_nil, or_false] at hu
      rcases hu with rfl | rfl | rfl | rfl | rfl | rfl | rfl | rfl <;> rfl
    · exact ih u hu
/-- The words that the cutter makes, as elements. -/
def w8 (x : Wd) : W8 := ⟨x.v.kind, x.v.S, x.v.R, x.v.N, x.b, x.l, x.c, x.e⟩
theorem encW_ws (ws : List Wd) : encW (ws.map w8) = encWs ws := by
  unfold encW encWs
  rw [List.flatMap_map]
  rfl
def RowW (W : World) (a : Option Addr) (zs : List W8) : Prop := 0 < zs.length → ∃ g, a = some ⟨g, 0, none⟩ ∧ g < W.heap.size ∧ ∀ j x, zs[j]? = some x → ∀ i u, (w8Cells x)[i]? = some u → W.cell? ⟨g, j * 8 + i, none⟩ = some u
theorem own_rowW {W : World} {base n : Nat} {v : Value} {zs : List W8} (h : W.ownsRow base 34 8 v n (encW zs)) : ∃ a c, v = .slice a zs.length c ∧ RowW W a zs ∧ n = zs.length ∧ zs.length ≤ c := by
  obtain ⟨hl, h⟩ := h
  rw [encW_length] at hl
  have hn : n = zs.length := by omega
  subst hn
  rcases h with ⟨rfl, h0⟩ | ⟨g, cap, cur, rfl, hb, hg, h1, h2, h3, h4⟩
  · exact ⟨none, 0, by rw [h0], fun h => by omega, rfl, by omega⟩
  · refine ⟨_, cap, rfl, fun h0 => ⟨g, rfl, (Array.getElem?_eq_some_iff.1 hg).1, fun j x hj i u hu => ?_⟩, rfl, h1⟩
    have hbk : Blk W g cur 34 := hg
    have e := encW_at zs j x hj i u hu
    rw [← h4] at e
    have hjl := (List.getElem?_eq_some_iff.1 hj).1
    have hil : i < 8 := (List.getElem?_eq_some_iff.1 hu).1
    rw [List.getElem?_take, if_pos (by omega)] at e
    rw [Blk.cell hbk]
    simpa using e
theorem below_drewNW {B : Nat} {a w : World} (h : Below B a w) (n : Nat) : Below B a (w.drewN n) := h.trans ⟨rfl, rfl, rfl, Nat.le_refl _, fun _ _ => rfl⟩
set_option maxRecDepth 100000 in
set_option maxHeartbeats 2000000 in
theorem sameW_row (a b : Option Addr) (ca cb : Nat) (zs : List W8) (hz : zs.length ≤ 9223372036854775807) (w : World) (ha : RowW w a zs) (hb : RowW w b zs) :
    Calls Tryd.prog 19 #[.slice a zs.length ca, .slice b zs.length cb] w fun e w' => e = .returned (.bool true) ∧ Below w.heap.size w w' := by
  have HA := hide ha
  have HB := hide hb
  clear ha hb
  have hne : (((zs.length : Nat) : Int) != ((zs.length : Nat) : Int)) = false := by simp
  go_enter Tryd.func19, Tryd.ntmps19
  go_wp2
  go_loopw [5] (fun i wr => ∃ k : Nat, k ≤ zs.length ∧ i = .int .i64 k ∧ ∃ q, wr = w.drewN q) (fun i _ => zs.length - (intOf i).toNat)
  case atStart => exact ⟨0, by omega, rfl, 0, rfl⟩
  case round =>
    obtain ⟨k, hk, rfl, q, rfl⟩ := hrel
    by_cases hkn : k < zs.length
    · obtain ⟨x, hx⟩ : ∃ x, zs[k]? = some x := ⟨_, List.getElem?_eq_getElem hkn⟩
      obtain ⟨g, rfl, _, hc⟩ := unhide HA (by omega)
      obtain ⟨h, rfl, _, hd⟩ := unhide HB (by omega)
      have hc' := hc k x hx
      have hd' := hd k x hx
      have hk1 : (k : Int) < (zs.length : Int) := by omega
      have hk2 : ((k : Nat) : Int).toNat = k := by omega
      obtain ⟨x0, x1, x2, x3, x4, x5, x6, x7⟩ := x
      have c0 := hc' 0 (.int .i64 x0) rfl
      have c1 := hc' 1 (.string x1) rfl
      have c2 := hc' 2 (.int .i32 x2) rfl
      have c3 := hc' 3 (.int .i64 x3) rfl
      have c4 := hc' 4 (.int .i64 x4) rfl
      have c5 := hc' 5 (.int .i64 x5) rfl
      have c6 := hc' 6 (.int .i64 x6) rfl
      have c7 := hc' 7 (.int .i64 x7) rfl
      have d0 := hd' 0 (.int .i64 x0) rfl
      have d1 := hd' 1 (.string x1) rfl
      have d2 := hd' 2 (.int .i32 x2) rfl
      have d3 := hd' 3 (.int .i64 x3) rfl
      have d4 := hd' 4 (.int .i64 x4) rfl
      have d5 := hd' 5 (.int .i64 x5) rfl
      have d6 := hd' 6 (.int .i64 x6) rfl
      have d7 := hd' 7 (.int .i64 x7) rfl
      rw [Nat.add_zero] at c0 d0
      have e0 : (x0 == x0) = true := by simp
      have e1 : (x1.toList == x1.toList) = true := by simp
      have e2 : (x2 == x2) = true := by simp
      have e3 : (x3 == x3) = true := by simp
      have e4 : (x4 == x4) = true := by simp
      have e5 : (x5 == x5) = true := by simp
      have e6 : (x6 == x6) = true := by simp
      have e7 : (x7 == x7) = true := by simp
      clear hc hd hx hc' hd'
      go_wp2
      go_quiet (fail)
      go_wp2
      go_roundw
      case rel => exact ⟨k + 1, by omega, by go_num, _, rfl⟩
      case measure => simp [intOf]; omega
    · have hk1 : ¬ (k : Int) < (zs.length : Int) := by omega
      go_wp2
      go_ret
      exact ⟨rfl, below_drewNW (Below.refl _ _) _⟩
end Go.Proofs.YtcnhkhjkeemafaaDoor
/- ScanFirst: what stands ahead of the first wrong byte can go on; with it nothing helps. -/
namespace Go.Proofs.YtcnhkhjkeemafaaDoor
open Go.RowKit Go.Shelf
set_option linter.unusedVariables false
/-- Words of any text: its number, and its place. -/
theorem words_c (t : ByteArray) (ht : t.size ≤ 262144) (m : Int) (w : World) (hE : Env m w) :
    Calls Tryd.prog 7 #[.string t] w fun e w' => ∃ (a : Option Addr) (n c : Nat) (x0 x1 x2 d : Int), e = .returned (.tuple #[.slice a n c, .agg #[.int .i64 x0, .int .i64 x1, .int .i64 x2], .int .i64 d]) ∧ ((wordsV t).ok = true → d = 0) ∧ ((wordsV t).ok = false → x0 = (wordsV t).b ∧ d = if (wordsV t).b < t.size then 20 else 21) ∧ Below w.heap.size w w' := by
  cases ho : (wordsV t).ok
  · refine (words_no t ht ho (words_places t).2 m w hE.max (cell_lt hE.max)).mono fun e w' ⟨he, hb⟩ => ?_
    exact ⟨none, 0, 0, _, _, _, _, he, (fun h => by cases h), fun _ => ⟨rfl, rfl⟩, hb⟩
  · refine (words_yes t ht ho m w hE.max (cell_lt hE.max)).mono fun e w' ⟨v, he, hown, hb⟩ => ?_
    have hown2 : w'.ownsRow w.heap.size 34 8 v (wordsV t).ws.length (encW ((wordsV t).ws.map w8)) := by rw [encW_ws]; exact hown
    obtain ⟨a, c, rfl, _⟩ := own_rowW hown2
    exact ⟨a, _, c, _, _, _, _, he, fun _ => rfl, (fun h => by cases h), hb⟩
def endsA : Array Value := (endsL.map Value.string).toArray
theorem endsA_eq : endsA = #[.string ⟨#[]⟩, .string ⟨#[39]⟩, .string ⟨#[97, 39]⟩, .string ⟨#[43, 48, 48, 52, 49]⟩, .string ⟨#[48, 48, 52, 49]⟩, .string ⟨#[48, 52, 49]⟩, .string ⟨#[52, 49]⟩, .string ⟨#[49]⟩, .string ⟨#[48]⟩, .string ⟨#[48, 48]⟩, .string ⟨#[48, 48, 48]⟩, .string ⟨#[46]⟩, .string ⟨#[128]⟩, .string ⟨#[128, 128]⟩, .string ⟨#[128, 128, 128]⟩, .string ⟨#[191]⟩, .string ⟨#[191, 128]⟩, .string ⟨#[191, 128, 128]⟩, .string ⟨#[128, 39]⟩, .string ⟨#[128, 128, 39]⟩, .string ⟨#[128, 128, 128, 39]⟩, .string ⟨#[191, 39]⟩, .string ⟨#[191, 128, 39]⟩, .string ⟨#[191, 128, 128, 39]⟩] := rfl
set_option maxRecDepth 100000 in
theorem ends_any (w : World) : Calls Tryd.prog 18 #[] w fun e w' => e = .returned (.slice (some ⟨w.heap.size, 0, none⟩) 24 24) ∧ Blk w' w.heap.size endsA 9 ∧ Below w.heap.size w w' := by
  go_enter Tryd.func18, Tryd.ntmps18
  go_wp2_with fail
  go_ret
  exact ⟨rfl, Blk.new w _ _, (Below.refl _ w).alloc (Nat.le_refl _) _⟩
theorem ends_len (k : Nat) (h : k < 24) : ∃ l, endsL[k]? = some l ∧ endsA[k]? = some (.string l) ∧ l.size ≤ 5 := by
  have hl : k < endsL.length := h
  have hb : ∀ l ∈ endsL, l.size ≤ 5 := by decide
  refine ⟨endsL[k], List.getElem?_eq_getElem hl, ?_, hb _ (List.getElem_mem hl)⟩
  unfold endsA
  simp [hl]
set_option maxRecDepth 100000 in
set_option maxHeartbeats 4000000 in
theorem goes_any (s : ByteArray) (hs : s.size ≤ 262000) (g : Bool) (hg : (g = true ∧ ∃ l ∈ endsL, (wordsV (s ++ l)).ok = true) ∨ (g = false ∧ ∀ l ∈ endsL, (wordsV (s ++ l)).ok = false)) (m : Int) (w : World) (hE : Env m w) : Calls Tryd.prog 9 #[.string s] w fun e w' => e = .returned (.bool g) ∧ Below w.heap.size w w' := by
  have HE := hide hE
  have HG := hide hg
  clear hE hg
  go_enter Tryd.func9, Tryd.ntmps9
  go_wp2_with fail
  refine (ends_any _).mono ?_
  rintro e w1 ⟨rfl, hk, hb⟩
  have HK := hide hk
  have HB := hide hb
  have HL := hide (show w.heap.size < w1.heap.size from hk.lt)
  clear hk hb
  go_wp2_with fail
  go_loopw [4, 5, 6, 7] (fun i _ _ _ wr => ∃ k : Nat, k ≤ 24 ∧ i = .int .i64 k ∧ Hz (∀ j l, j < k → endsL[j]? = some l → (wordsV (s ++ l)).ok = false) ∧ Hz (Below w1.heap.size w1 wr)) (fun i _ _ _ _ => 24 - (intOf i).toNat)
  case atStart => exact ⟨0, by omega, rfl, hide (fun j l h => by omega), hide (Below.refl _ _)⟩
  case round =>
    obtain ⟨k, hk, rfl, HN, HB1⟩ := hrel
    by_cases hk24 : k < 24
    · have hk1 : (k : Int) < 24 := by omega
      have hk2 : ((k : Nat) : Int).toNat = k := by omega
      obtain ⟨l, hl1, hl2, hl3⟩ := ends_len k hk24
      have c0 : wr.cell? ⟨w.heap.size, k, none⟩ = some (.string l) := ((unhide HB1).cell (p := ⟨w.heap.size, k, none⟩) (unhide HL)).trans (((unhide HK).cell k).trans hl2)
      have hBw := (unhide HB).trans ((unhide HB1).mono (unhide HB).size)
      have HW := hide (words_c (s ++ l) (by rw [ByteArray.size_append]; omega) m wr ((unhide HE).below hBw (Nat.le_refl _)))
      have HLL := hide hl1
      clear hl1 hl2 hBw
      go_wp2_with fail
      refine (unhide HW).mono ?_
      rintro e w2 ⟨a, n, c, x0, x1, x2, d, rfl, hd1, hd2, hb⟩
      have hb2 := hb.alloc hb.size (.cells #[.int .i64 x0, .int .i64 x1, .int .i64 x2] 25)
      have HB2 := hide ((unhide HB1).trans (hb2.mono (unhide HB1).size))
      cases ho : (wordsV (s ++ l)).ok
      · have hd0 : (d == 0) = false := by
          have := (hd2 ho).2
          rw [this]
          split <;> decide
        have HN2 : Hz (∀ j l, j < k + 1 → endsL[j]? = some l → (wordsV (s ++ l)).ok = false) := hide (fun j l' hj hjl => by
          by_cases e : j = k
          · subst e
            rw [unhide HLL] at hjl
            cases hjl
            exact ho
          · exact unhide HN j l' (by omega) hjl)
        clear hb hb2 hd1 hd2 ho HN HW c0
        go_wp2_with fail
        go_roundw
        case rel => exact ⟨k + 1, by omega, by go_num, HN2, HB2⟩
        case measure => simp [intOf]; omega
      · obtain rfl := hd1 ho
        have HGT : Hz (g = true) := hide (by
          rcases unhide HG with ⟨h, _⟩ | ⟨_, h⟩
          · exact h
          · have := h l (List.mem_of_getElem? (unhide HLL))
            rw [ho] at this
            cases this)
        have HB3 := hide ((unhide HB).trans ((unhide HB2).mono (unhide HB).size))
        clear hb hb2 hd1 hd2 ho HN HW c0
        go_wp2_with fail
        go_ret
        exact ⟨by rw [unhide HGT]; rfl, unhide HB3⟩
    · have hk1 : ¬ (k : Int) < 24 := by omega
      have HGF : Hz (g = false) := hide (by
        rcases unhide HG with ⟨_, l, hl, ho⟩ | ⟨h, _⟩
        · exfalso
          obtain ⟨i, hi, rfl⟩ := List.mem_iff_getElem.1 hl
          have hi24 : i < 24 := hi
          have := unhide HN i _ (by omega) (List.getElem?_eq_getElem hi)
          rw [ho] at this
          cases this
        · exact h)
      have HB3 := hide ((unhide HB).trans ((unhide HB1).mono (unhide HB).size))
      go_wp2_with fail
      go_ret
      exact ⟨by rw [unhide HGF]; rfl, unhide HB3⟩
theorem agr_pre (s l : ByteArray) (k : Nat) (h : k ≤ s.size) : Agr s (s.extract 0 k ++ l) k := ⟨h, by rw [(pre_app h).1]; omega, (pre_app h).2.1⟩
set_option maxRecDepth 100000 in
set_option maxHeartbeats 8000000 in
theorem law_scanfirst (src : ByteArray) (hs1 : src.size ≤ maxLen) (tail : ByteArray) (hs2 : tail.size ≤ maxLen) (m : Int) (w : World) (hE : Env m w) : Calls Tryd.prog 3 #[.string src, .string tail] w fun e w' => e = .returned (.bool true) ∧ Below w.heap.size w w' := by
  have hF1 := few_any src hs1 2000 (by decide) w
  have hF2 := few_any tail hs2 2000 (by decide) w
  have hz1 := fewV_size src 2000
  have hz2 := fewV_size tail 2000
  generalize fewV src 2000 = S at *
  generalize fewV tail 2000 = T at *
  have hW := words_c S (by omega) m w hE
  have H1 := hide hF1
  have H2 := hide hF2
  have HE := hide hE
  clear hF1 hF2 hE hs1 hs2
  cases ho : (wordsV S).ok
  · have hb := (words_places S).2
    have hgo := words_go ho
    have hoff := fun u hk ha => words_off (u := u) ho hk ha
    rw [ho] at hW
    generalize (wordsV S).b = b at *
    by_cases hlt : b < S.size
    · rw [if_pos hlt] at hW
      have HW := hide hW
      have hG1 := fun w hE => goes_any (S.extract 0 b) (by rw [ByteArray.size_extract]; omega) true (.inl ⟨rfl, hgo⟩) m w hE
      have hG2 := fun w hE => goes_any (S.extract 0 (b + 1)) (by rw [ByteArray.size_extract]; omega) false (.inr ⟨rfl, fun l _ => (hoff _ hlt (agr_pre S l (b + 1) (by omega))).1⟩) m w hE
      have hT := hoff (S.extract 0 (b + 1) ++ T) hlt (agr_pre S T (b + 1) (by omega))
      have hTs : (S.extract 0 (b + 1) ++ T).size = b + 1 + T.size := (pre_app (show b + 1 ≤ S.size by omega)).1
      have hW2 := fun w hE => words_c (S.extract 0 (b + 1) ++ T) (by omega) m w hE
      simp only [hT.1, hT.2, hTs] at hW2
      rw [if_pos (show b < b + 1 + T.size by omega)] at hW2
      have HG1 := hide hG1
      have HG2 := hide hG2
      have HW2 := hide hW2
      have hb0 : ¬ (b : Int) < 0 := by omega
      have hb1 : ¬ (S.size : Int) ≤ (b : Int) := by omega
      have hb2 : (b : Int) ≤ (S.size : Int) := by omega
      have hb3 : ((b : Nat) : Int).toNat = b := by omega
      obtain ⟨b9, hb9⟩ : ∃ b9, b9 = b + 1 := ⟨_, rfl⟩
      have hbi : (b : Int) + 1 = (b9 : Int) := by omega
      have hb4 : (b9 : Int) ≤ (S.size : Int) := by omega
      have hb5 : ((b9 : Nat) : Int).toNat = b9 := by omega
      have hb6 : ((b : Int) == (b : Int)) = true := by simp
      have hxt : (S.extract 0 b9).size ≤ 2000 := by rw [ByteArray.size_extract]; omega
      simp only [← hb9] at HG2 HW2
      clear hW hG1 hG2 hW2 hT hTs hoff hgo hb ho hlt hb9
      go_enter Tryd.func3, Tryd.ntmps3
      go_wp2_with fail
      refine (unhide H1).mono ?_
      rintro e w1 ⟨rfl, rfl⟩
      go_wp2_with fail
      refine (unhide H2).mono ?_
      rintro e w1 ⟨rfl, rfl⟩
      go_wp2_with fail
      refine (unhide HW).mono ?_
      rintro e w2 ⟨la, ln, lc, x0, x1, x2, d, rfl, _, hd, hb⟩
      obtain ⟨rfl, rfl⟩ := hd trivial
      have HB2 := hide (hb.alloc hb.size (.cells #[.int .i64 b, .int .i64 x1, .int .i64 x2] 25))
      have hbx := Blk.new w2 #[.int .i64 b, .int .i64 x1, .int .i64 x2] 25
      have v0 := hbx.cell 0
      clear hb hd hbx
      go_wp2_with fail
      refine (unhide HG1 _ ((unhide HE).below (unhide HB2) (Nat.le_refl _))).mono ?_
      rintro e w3 ⟨rfl, hb⟩
      have HB3 := hide ((unhide HB2).trans (hb.mono (unhide HB2).size))
      clear hb v0
      go_wp2_with fail
      refine (unhide HG2 _ ((unhide HE).below (unhide HB3) (Nat.le_refl _))).mono ?_
      rintro e w4 ⟨rfl, hb⟩
      have HB4 := hide ((unhide HB3).trans (hb.mono (unhide HB3).size))
      clear hb
      go_wp2_with fail
      refine (unhide HW2 _ ((unhide HE).below (unhide HB4) (Nat.le_refl _))).mono ?_
      rintro e w5 ⟨ma, mn, mc, y0, y1, y2, d, rfl, _, hd, hb⟩
      obtain ⟨rfl, rfl⟩ := hd trivial
      have hb2' := hb.alloc hb.size (.cells #[.int .i64 b, .int .i64 y1, .int .i64 y2] 25)
      have HB5 := hide ((unhide HB4).trans (hb2'.mono (unhide HB4).size))
      have hbx := Blk.new w5 #[.int .i64 b, .int .i64 y1, .int .i64 y2] 25
      have v0 := hbx.cell 0
      clear hb hd hbx hb2'
      go_wp2_with fail
      refine (known_any m _ ((unhide HE).below (unhide HB5) (Nat.le_refl _))).mono ?_
      rintro e w6 ⟨rfl, hb⟩
      have HB6 := hide ((unhide HB5).trans (hb.mono (unhide HB5).size))
      clear hb
      go_wp2_with fail
      go_ret
      exact ⟨rfl, unhide HB6⟩
    · rw [if_neg hlt] at hW
      obtain rfl : b = S.size := by omega
      have HW := hide hW
      have hx : S.extract 0 S.size = S := ByteArray.extract_zero_size
      rw [hx] at hgo
      have hG1 := fun w hE => goes_any S (by omega) true (.inl ⟨rfl, hgo⟩) m w hE
      have HG1 := hide hG1
      have hb6 : ((S.size : Int) == (S.size : Int)) = true := by simp
      clear hW hG1 hoff hgo hb ho hlt hx
      go_enter Tryd.func3, Tryd.ntmps3
      go_wp2_with fail
      refine (unhide H1).mono ?_
      rintro e w1 ⟨rfl, rfl⟩
      go_wp2_with fail
      refine (unhide H2).mono ?_
      rintro e w1 ⟨rfl, rfl⟩
      go_wp2_with fail
      refine (unhide HW).mono ?_
      rintro e w2 ⟨la, ln, lc, x0, x1, x2, d, rfl, _, hd, hb⟩
      obtain ⟨rfl, rfl⟩ := hd trivial
      have HB2 := hide (hb.alloc hb.size (.cells #[.int .i64 S.size, .int .i64 x1, .int .i64 x2] 25))
      have hbx := Blk.new w2 #[.int .i64 S.size, .int .i64 x1, .int .i64 x2] 25
      have v0 := hbx.cell 0
      clear hb hd hbx
      go_wp2_with fail
      refine (unhide HG1 _ ((unhide HE).below (unhide HB2) (Nat.le_refl _))).mono ?_
      rintro e w3 ⟨rfl, hb⟩
      have HB3 := hide ((unhide HB2).trans (hb.mono (unhide HB2).size))
      clear hb v0
      go_wp2_with fail
      refine (known_any m _ ((unhide HE).below (unhide HB3) (Nat.le_refl _))).mono ?_
      rintro e w6 ⟨rfl, hb⟩
      have HB6 := hide ((unhide HB3).trans (hb.mono (unhide HB3).size))
      clear hb
      go_wp2_with fail
      go_ret
      exact ⟨rfl, unhide HB6⟩
  · rw [ho] at hW
    have HW := hide hW
    clear hW ho
    go_enter Tryd.func3, Tryd.ntmps3
    go_wp2_with fail
    refine (unhide H1).mono ?_
    rintro e w1 ⟨rfl, rfl⟩
    go_wp2_with fail
    refine (unhide H2).mono ?_
    rintro e w1 ⟨rfl, rfl⟩
    go_wp2_with fail
    refine (unhide HW).mono ?_
    rintro e w2 ⟨la, ln, lc, x0, x1, x2, d, rfl, hd, _, hb⟩
    obtain rfl := hd trivial
    have HB2 := hide (hb.alloc hb.size (.cells #[.int .i64 x0, .int .i64 x1, .int .i64 x2] 25))
    clear hb hd
    go_wp2_with fail
    refine (known_any m _ ((unhide HE).below (unhide HB2) (Nat.le_refl _))).mono ?_
    rintro e w6 ⟨rfl, hb⟩
    have HB6 := hide ((unhide HB2).trans (hb.mono (unhide HB2).size))
    clear hb
    go_wp2_with fail
    go_ret
    exact ⟨rfl, unhide HB6⟩
end Go.Proofs.YtcnhkhjkeemafaaDoor
