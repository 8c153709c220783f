/- Plain facts on two texts one behind the other: they join just if the first one's end is a bound of the whole; then the spots of the whole are those of the parts. -/
import Derived.Test.YthjndkjbjflmfaaVals
namespace Go.Proofs.Ythjndkjbjflmfaa
open Go.RowKit Go.Shelf
open Go.Lib (decodeN decode_at)
set_option linter.unusedVariables false

/-- What is told with more room, and fits into less, is told with less. -/
theorem decodeN_less (n m b0 b1 b2 b3 : Nat) (hnm : n ≤ m) (hg : ¬ ((decodeN m b0 b1 b2 b3).1 = 65533 ∧ (decodeN m b0 b1 b2 b3).2 = 1)) (hw : (decodeN m b0 b1 b2 b3).2 ≤ n) : decodeN n b0 b1 b2 b3 = decodeN m b0 b1 b2 b3 := by
  by_cases h0 : b0 < 128
  · unfold decodeN; rw [if_pos h0, if_pos h0]
  by_cases h2 : b0 / 32 = 6 ∧ (1 < m ∧ b1 / 64 = 2)
  · by_cases hc : b0 % 32 * 64 + b1 % 64 ≥ 128
    · have e : decodeN m b0 b1 b2 b3 = (b0 % 32 * 64 + b1 % 64, 2) := by unfold decodeN; rw [if_neg h0, if_pos h2, if_pos hc]
      rw [e] at hw
      rw [e]
      simp only at hw
      unfold decodeN
      rw [if_neg h0, if_pos ⟨h2.1, by omega, h2.2.2⟩, if_pos hc]
    · have e : decodeN m b0 b1 b2 b3 = (65533, 1) := by unfold decodeN; rw [if_neg h0, if_pos h2, if_neg hc]
      rw [e] at hg
      exact absurd ⟨rfl, rfl⟩ hg
  by_cases h3 : b0 / 16 = 14 ∧ (1 < m ∧ b1 / 64 = 2) ∧ (2 < m ∧ b2 / 64 = 2)
  · by_cases hc : b0 % 16 * 4096 + b1 % 64 * 64 + b2 % 64 ≥ 2048 ∧ (b0 % 16 * 4096 + b1 % 64 * 64 + b2 % 64 < 55296 ∨ (57344 ≤ b0 % 16 * 4096 + b1 % 64 * 64 + b2 % 64 ∧ b0 % 16 * 4096 + b1 % 64 * 64 + b2 % 64 ≤ 1114111))
    · have e : decodeN m b0 b1 b2 b3 = (b0 % 16 * 4096 + b1 % 64 * 64 + b2 % 64, 3) := by unfold decodeN; rw [if_neg h0, if_neg h2, if_pos h3, if_pos hc]
      rw [e] at hw
      rw [e]
      simp only at hw
      unfold decodeN
      rw [if_neg h0, if_neg (by omega), if_pos ⟨h3.1, ⟨by omega, h3.2.1.2⟩, ⟨by omega, h3.2.2.2⟩⟩, if_pos hc]
    · have e : decodeN m b0 b1 b2 b3 = (65533, 1) := by unfold decodeN; rw [if_neg h0, if_neg h2, if_pos h3, if_neg hc]
      rw [e] at hg
      exact absurd ⟨rfl, rfl⟩ hg
  by_cases h4 : b0 / 8 = 30 ∧ (1 < m ∧ b1 / 64 = 2) ∧ (2 < m ∧ b2 / 64 = 2) ∧ (3 < m ∧ b3 / 64 = 2)
  · by_cases hc : b0 % 8 * 262144 + b1 % 64 * 4096 + b2 % 64 * 64 + b3 % 64 ≥ 65536 ∧ (b0 % 8 * 262144 + b1 % 64 * 4096 + b2 % 64 * 64 + b3 % 64 < 55296 ∨ (57344 ≤ b0 % 8 * 262144 + b1 % 64 * 4096 + b2 % 64 * 64 + b3 % 64 ∧ b0 % 8 * 262144 + b1 % 64 * 4096 + b2 % 64 * 64 + b3 % 64 ≤ 1114111))
    · have e : decodeN m b0 b1 b2 b3 = (b0 % 8 * 262144 + b1 % 64 * 4096 + b2 % 64 * 64 + b3 % 64, 4) := by unfold decodeN; rw [if_neg h0, if_neg h2, if_neg h3, if_pos h4, if_pos hc]
      rw [e] at hw
      rw [e]
      simp only at hw
      unfold decodeN
      rw [if_neg h0, if_neg (by omega), if_neg (by omega), if_pos ⟨h4.1, ⟨by omega, h4.2.1.2⟩, ⟨by omega, h4.2.2.1.2⟩, ⟨by omega, h4.2.2.2.2⟩⟩, if_pos hc]
    · have e : decodeN m b0 b1 b2 b3 = (65533, 1) := by unfold decodeN; rw [if_neg h0, if_neg h2, if_neg h3, if_pos h4, if_neg hc]
      rw [e] at hg
      exact absurd ⟨rfl, rfl⟩ hg
  · have e : decodeN m b0 b1 b2 b3 = (65533, 1) := by unfold decodeN; rw [if_neg h0, if_neg h2, if_neg h3, if_neg h4]
    rw [e] at hg
    exact absurd ⟨rfl, rfl⟩ hg
/-- What is told with less room is told with more. -/
theorem decodeN_more (n m b0 b1 b2 b3 : Nat) (hnm : n ≤ m) (hn : 1 ≤ n) (h1 : b1 < 256) (h2 : b2 < 256) (h3 : b3 < 256) (h0 : b0 < 256) (hg : ¬ ((decodeN n b0 b1 b2 b3).1 = 65533 ∧ (decodeN n b0 b1 b2 b3).2 = 1)) : decodeN m b0 b1 b2 b3 = decodeN n b0 b1 b2 b3 := by
  have t := told n b0 b1 b2 b3 h0 h1 h2 h3
  by_cases hm : 4 ≤ n
  · exact decodeN_room m n _ _ _ _ (.inr ⟨by omega, hm⟩)
  by_cases c0 : b0 < 128
  · unfold decodeN; rw [if_pos c0, if_pos c0]
  by_cases c2 : b0 / 32 = 6 ∧ (1 < n ∧ b1 / 64 = 2)
  · unfold decodeN
    rw [if_neg c0, if_neg c0, if_pos c2, if_pos ⟨c2.1, by omega, c2.2.2⟩]
  by_cases c3 : b0 / 16 = 14 ∧ (1 < n ∧ b1 / 64 = 2) ∧ (2 < n ∧ b2 / 64 = 2)
  · unfold decodeN
    rw [if_neg c0, if_neg c0, if_neg c2, if_neg (by omega), if_pos c3, if_pos ⟨c3.1, ⟨by omega, c3.2.1.2⟩, ⟨by omega, c3.2.2.2⟩⟩]
  · have e : decodeN n b0 b1 b2 b3 = (65533, 1) := by unfold decodeN; rw [if_neg c0, if_neg c2, if_neg c3, if_neg (by omega)]
    rw [e] at hg
    exact absurd ⟨rfl, rfl⟩ hg

theorem get_append (u v : ByteArray) (i : Nat) : (u ++ v).get! i = if i < u.size then u.get! i else v.get! (i - u.size) := by
  by_cases h : i < u.size
  · rw [if_pos h, get_lt _ _ (by rw [ByteArray.size_append]; omega), get_lt _ _ h]
    simp [Array.getElem_append_left, h]
  · rw [if_neg h]
    by_cases k : i < (u ++ v).size
    · rw [get_lt _ _ k, get_lt _ _ (by rw [ByteArray.size_append] at k; omega)]
      simp [Array.getElem_append_right, Nat.le_of_not_lt h]
    · rw [get_ge _ _ (by omega), get_ge _ _ (by rw [ByteArray.size_append] at k; omega)]
theorem bt_left (s t : ByteArray) (i : Nat) (h : i < s.size) : bt (s ++ t) i = bt s i := by unfold bt; rw [get_append, if_pos h]
theorem bt_right (s t : ByteArray) (j : Nat) : bt (s ++ t) (s.size + j) = bt t j := by unfold bt; rw [get_append, if_neg (by omega)]; congr 2; omega

theorem decode_left (s t : ByteArray) (i : Nat) (hi : i < s.size) : Utf8.decode s i = decodeN (s.size - i) (bt (s ++ t) i) (bt (s ++ t) (i + 1)) (bt (s ++ t) (i + 2)) (bt (s ++ t) (i + 3)) := by
  rw [decode_at, bt_left s t i hi]
  refine decodeN_cong _ _ _ _ _ _ _ _ (fun h => ?_) (fun h => ?_) (fun h => ?_)
  · exact (bt_left s t _ (by omega)).symm
  · exact (bt_left s t _ (by omega)).symm
  · exact (bt_left s t _ (by omega)).symm
/-- A sequence of the first text is one of the whole. -/
theorem decode_grow (s t : ByteArray) (i : Nat) (hi : i < s.size) (hg : ¬ (rn s i = 65533 ∧ wd s i = 1)) : Utf8.decode (s ++ t) i = Utf8.decode s i := by
  have e := decode_left s t i hi
  simp only [rn, wd] at hg
  rw [e] at hg ⊢
  rw [decode_at]
  exact decodeN_more _ _ _ _ _ _ (by rw [ByteArray.size_append]; omega) (by omega) (bt_lt _ _) (bt_lt _ _) (bt_lt _ _) (bt_lt _ _) hg
/-- What stands in the whole and ends within the first text stands there. -/
theorem decode_part (s t : ByteArray) (i : Nat) (hi : i < s.size) (hw : i + wd (s ++ t) i ≤ s.size) : Utf8.decode s i = Utf8.decode (s ++ t) i := by
  by_cases hg : rn s i = 65533 ∧ wd s i = 1
  · by_cases hk : rn (s ++ t) i = 65533 ∧ wd (s ++ t) i = 1
    · exact Prod.ext (hg.1.trans hk.1.symm) (hg.2.trans hk.2.symm)
    · have e := decode_left s t i hi
      have e2 : Utf8.decode (s ++ t) i = decodeN ((s ++ t).size - i) (bt (s ++ t) i) (bt (s ++ t) (i + 1)) (bt (s ++ t) (i + 2)) (bt (s ++ t) (i + 3)) := decode_at _ _
      rw [e, e2]
      simp only [rn, wd] at hk hw
      rw [e2] at hk hw
      exact decodeN_less _ _ _ _ _ _ (by rw [ByteArray.size_append]; omega) hk (by omega)
  · exact (decode_grow s t i hi hg).symm
theorem decode_behind (s t : ByteArray) (j : Nat) : Utf8.decode (s ++ t) (s.size + j) = Utf8.decode t j := by
  rw [decode_at, decode_at, ByteArray.size_append, show s.size + t.size - (s.size + j) = t.size - j by omega]
  have h := bt_right s t
  unfold bt at h
  rw [h j, show s.size + j + 1 = s.size + (j + 1) by omega, h, show s.size + j + 2 = s.size + (j + 2) by omega, h, show s.size + j + 3 = s.size + (j + 3) by omega, h]

theorem startsFrom_behind (s t : ByteArray) : ∀ f j, startsFrom (s ++ t) f (s.size + j) = (startsFrom t f j).map (s.size + ·)
  | 0, j => rfl
  | f + 1, j => by
    unfold startsFrom
    rw [ByteArray.size_append]
    by_cases h : j < t.size
    · rw [if_pos (by omega), if_pos h, List.map_cons]
      have e : wd (s ++ t) (s.size + j) = wd t j := by simp only [wd]; rw [decode_behind]
      rw [e, Nat.add_assoc, startsFrom_behind s t f]
    · rw [if_neg (by omega), if_neg h]; rfl
theorem startsFrom_fuel (s : ByteArray) : ∀ f g i, s.size ≤ i + f → s.size ≤ i + g → startsFrom s f i = startsFrom s g i
  | 0, g, i, hf, hg => by rw [startsFrom_end s g i (by omega)]; rfl
  | f + 1, 0, i, hf, hg => by rw [startsFrom_end s (f + 1) i (by omega)]; rfl
  | f + 1, g + 1, i, hf, hg => by
    unfold startsFrom
    by_cases h : i < s.size
    · have := wd_pos s i
      rw [if_pos h, if_pos h, startsFrom_fuel s f g _ (by omega) (by omega)]
    · rw [if_neg h, if_neg h]
theorem startsFrom_both (s t : ByteArray) (hb : bdB (s ++ t) s.size = true) : ∀ f i, s.size + t.size ≤ i + f → i ≤ s.size → bdB (s ++ t) i = true →
    startsFrom (s ++ t) f i = startsFrom s f i ++ (starts t).map (s.size + ·) ∧ ∀ p ∈ startsFrom s f i, Utf8.decode s p = Utf8.decode (s ++ t) p
  | 0, i, hf, hi, hbi => by
    have : s.size = 0 ∨ t.size = 0 := by omega
    have ht : t.size = 0 := by omega
    refine ⟨?_, fun p hp => by cases hp⟩
    rw [show starts t = [] from startsFrom_end t _ _ (by omega)]
    rfl
  | f + 1, i, hf, hi, hbi => by
    by_cases h : i < s.size
    · have hw := wd_pos (s ++ t) i
      have hr : i + wd (s ++ t) i ≤ s.size := by
        rcases Nat.lt_or_ge s.size (i + wd (s ++ t) i) with hx | hx
        · have h4 := wd_four (s ++ t) i
          have := (bd_iff (s ++ t) s.size).1 hb (s.size - i) (by omega) (by omega) (by omega)
          rw [show s.size - (s.size - i) = i by omega] at this
          omega
        · exact hx
      have e := decode_part s t i h hr
      have ew : wd s i = wd (s ++ t) i := by simp only [wd]; rw [e]
      obtain ⟨h1, h2⟩ := startsFrom_both s t hb f (i + wd (s ++ t) i) (by omega) hr (bd_step (s ++ t) i hbi (by rw [ByteArray.size_append]; omega))
      rw [startsFrom_cons (s ++ t) f i (by rw [ByteArray.size_append]; omega), startsFrom_cons s f i h, h1, ew]
      refine ⟨rfl, fun p hp => ?_⟩
      rcases List.mem_cons.1 hp with rfl | hp
      · exact e
      · exact h2 p hp
    · obtain rfl : i = s.size := by omega
      rw [startsFrom_end s _ _ h]
      refine ⟨?_, fun p hp => by cases hp⟩
      have := startsFrom_behind s t (f + 1) 0
      rw [List.nil_append, show starts t = startsFrom t (f + 1) 0 from startsFrom_fuel t _ _ _ (by omega) (by omega)]
      exact this
theorem starts_both (s t : ByteArray) (hb : bdB (s ++ t) s.size = true) : starts (s ++ t) = starts s ++ (starts t).map (s.size + ·) ∧ (∀ p ∈ starts s, Utf8.decode s p = Utf8.decode (s ++ t) p) := by
  obtain ⟨h1, h2⟩ := startsFrom_both s t hb (s.size + t.size) 0 (by omega) (by omega) (bd_zero _)
  have e : startsFrom s (s.size + t.size) 0 = starts s := startsFrom_fuel s _ _ _ (by omega) (by omega)
  rw [e] at h1 h2
  refine ⟨?_, h2⟩
  unfold starts
  rw [ByteArray.size_append]
  exact h1
theorem runesL_both (s t : ByteArray) (hb : bdB (s ++ t) s.size = true) : runesL (s ++ t) = runesL s ++ runesL t := by
  obtain ⟨h1, h2⟩ := starts_both s t hb
  unfold runesL
  rw [h1, List.map_append, List.map_map]
  congr 1
  · refine List.map_congr_left (fun p hp => ?_)
    simp only [rn]
    rw [h2 p hp]
  · refine List.map_congr_left (fun p hp => ?_)
    simp only [Function.comp, rn]
    rw [decode_behind]
theorem foldl_enc (l : List Int) : ∀ r : ByteArray, l.foldl (fun r n => r ++ Utf8.encode n) r = r ++ l.foldl (fun r n => r ++ Utf8.encode n) ByteArray.empty := by
  induction l with
  | nil => intro r; simp
  | cons a l ih =>
    intro r
    rw [List.foldl_cons, ih, List.foldl_cons, ih (ByteArray.empty ++ Utf8.encode a), ByteArray.append_assoc]
    simp
theorem runesBytes_both (a b : List Int) : runesBytes (a ++ b) = runesBytes a ++ runesBytes b := by
  unfold runesBytes
  rw [List.foldl_append, foldl_enc b]
theorem cleanV_both (s t : ByteArray) (hb : bdB (s ++ t) s.size = true) : cleanV (s ++ t) = cleanV s ++ cleanV t := by
  unfold cleanV
  rw [runesL_both s t hb, runesBytes_both]

/-- Cut at p, the two parts join just if p is a bound. -/
theorem joins_cut (s : ByteArray) (p : Nat) (h : p ≤ s.size) : joinsV (s.extract 0 p) (s.extract p s.size) = bdB s p := by
  unfold joinsV
  have e0 : (s.extract 0 p).size = p := by rw [ByteArray.size_extract]; omega
  have e1 : (s.extract p s.size).size = s.size - p := by rw [ByteArray.size_extract]; omega
  rw [e0, e1, ByteArray.extract_extract, ByteArray.extract_extract]
  symm
  refine bd_near s _ p _ h ?_ ?_ ?_ ?_
  · rw [ByteArray.size_append, ByteArray.size_extract, ByteArray.size_extract]; omega
  · omega
  · rw [ByteArray.size_append, ByteArray.size_extract, ByteArray.size_extract]; omega
  · intro i j hij hi hj h3 h4
    rw [ByteArray.size_append, ByteArray.size_extract, ByteArray.size_extract] at hj
    unfold bt
    rw [get_append, ByteArray.size_extract]
    split
    · rw [get_extract _ _ _ _ (by omega) (by omega)]
      congr 2; omega
    · rw [get_extract _ _ _ _ (by omega) (by omega)]
      congr 2; omega
/-- Two texts join just if the first one's end is a bound of the whole. -/
theorem joins_bd (s t : ByteArray) : joinsV s t = bdB (s ++ t) s.size := by
  have := joins_cut (s ++ t) s.size (by rw [ByteArray.size_append]; omega)
  rw [ByteArray.extract_append_eq_left rfl, ByteArray.extract_append_eq_right rfl (by rw [ByteArray.size_append])] at this
  exact this
/-- Three bytes at each side tell it. -/
theorem joins_near (s t : ByteArray) : joinsV (s.extract (s.size - 3) s.size) (t.extract 0 (min t.size 3)) = joinsV s t := by
  have e0 : (s.extract (s.size - 3) s.size).size = min s.size 3 := by rw [ByteArray.size_extract]; omega
  have e1 : (t.extract 0 (min t.size 3)).size = min t.size 3 := by rw [ByteArray.size_extract]; omega
  unfold joinsV
  rw [extract_all (s.extract (s.size - 3) s.size) _ (by rw [e0]; omega), extract_head (t.extract 0 (min t.size 3)) _ (by rw [e1]; omega), e0]
  congr 1
  omega

/-- A byte that goes on no sequence is at a bound. -/
theorem bd_lead (s : ByteArray) (i : Nat) (h : bt s i / 64 ≠ 2) : bdB s i = true := by
  rw [bd_iff]
  intro n h4 h1 hn
  rcases Nat.lt_or_ge n (wd s (i - n)) with hx | hx
  · have := wd_cont s (i - n) n (by omega) hx
    rw [show i - n + n = i by omega] at this
    exact absurd this h
  · exact hx
theorem startsFrom_mem (s : ByteArray) : ∀ f i, s.size ≤ i + f → bdB s i = true → ∀ p, i ≤ p → p < s.size → bdB s p = true → p ∈ startsFrom s f i
  | 0, i, hf, hb, p, h1, h2, hp => by omega
  | f + 1, i, hf, hb, p, h1, h2, hp => by
    have hi : i < s.size := by omega
    have hw := wd_pos s i
    have h4 := wd_four s i
    rw [startsFrom_cons s f i hi, List.mem_cons]
    by_cases e : p = i
    · exact .inl e
    · refine .inr ?_
      rcases Nat.lt_or_ge p (i + wd s i) with hlt | hge
      · have := (bd_iff s p).1 hp (p - i) (by omega) (by omega) (by omega)
        rw [show p - (p - i) = i by omega] at this
        omega
      · exact startsFrom_mem s f (i + wd s i) (by omega) (bd_step s i hb hi) p hge h2 hp
theorem starts_mem (s : ByteArray) (p : Nat) (h : p < s.size) (hb : bdB s p = true) : p ∈ starts s := startsFrom_mem s s.size 0 (by omega) (bd_zero s) p (Nat.zero_le _) h hb

/-- A text without bad spots joins with any behind it, and any ahead of it. -/
theorem joins_valid_left (s t : ByteArray) (hv : ∀ i ∈ starts s, badB s i = false) : joinsV s t = true := by
  rw [joins_bd, bd_iff]
  intro n h4 h1 hn
  rcases Nat.lt_or_ge n (wd (s ++ t) (s.size - n)) with hx | hx
  · exfalso
    have hi : s.size - n < s.size := by omega
    have hl := wd_lead (s ++ t) (s.size - n) (by omega)
    rw [bt_left s t _ hi] at hl
    have hb := hv _ (starts_mem s _ hi (bd_lead s _ (by have := bt_lt s (s.size - n); omega)))
    unfold badB at hb
    have hg := of_decide_eq_false hb
    have e := decode_grow s t (s.size - n) hi hg
    have hr := wd_room s (s.size - n) hi
    simp only [wd] at hx hr
    rw [e] at hx
    omega
  · exact hx
theorem joins_valid_right (s t : ByteArray) (hv : ∀ i ∈ starts t, badB t i = false) : joinsV s t = true := by
  rw [joins_bd, bd_iff]
  intro n h4 h1 hn
  rcases Nat.lt_or_ge n (wd (s ++ t) (s.size - n)) with hx | hx
  · exfalso
    have hr := wd_room (s ++ t) (s.size - n) (by rw [ByteArray.size_append]; omega)
    rw [ByteArray.size_append] at hr
    have hc := wd_cont (s ++ t) (s.size - n) n (by omega) hx
    rw [show s.size - n + n = s.size + 0 by omega, bt_right] at hc
    have ht : 0 < t.size := by omega
    obtain ⟨r, hr0⟩ := starts_head t ht
    have hb := hv 0 (by rw [hr0]; simp)
    unfold badB at hb
    have hg := of_decide_eq_false hb
    have tl := at_told t 0
    rcases Nat.lt_or_ge (wd t 0) 2 with h2 | h2
    · have := tl.one (by have := wd_pos t 0; simp only [wd] at h2 this; omega)
      rcases this with ⟨a, _⟩ | ⟨_, a⟩
      · exact hg ⟨a, by have := wd_pos t 0; omega⟩
      · have : bt t 0 < 128 := a
        omega
    · have := wd_lead t 0 h2
      omega
  · exact hx
theorem validV_cases (s : ByteArray) : (∃ x y, validV s = .tuple #[.agg #[.int .i64 x, .int .i64 y], .bool false]) ∨ (validV s = .tuple #[.agg #[.int .i64 0, .int .i64 0], .bool true] ∧ ∀ i ∈ starts s, badB s i = false) := by
  have key : ∀ (l : List Nat) (n : Nat), (∃ x y, validFrom s l n = .tuple #[.agg #[.int .i64 x, .int .i64 y], .bool false]) ∨ (validFrom s l n = .tuple #[.agg #[.int .i64 0, .int .i64 0], .bool true] ∧ ∀ i ∈ l, badB s i = false) := by
    intro l
    induction l with
    | nil => intro n; exact .inr ⟨rfl, fun i hi => by cases hi⟩
    | cons a l ih =>
      intro n
      unfold validFrom
      cases hb : badB s a with
      | true => exact .inl ⟨_, _, by simp; exact ⟨rfl, rfl⟩⟩
      | false =>
        rcases ih (n + 1) with ⟨x, y, h⟩ | ⟨h, h2⟩
        · exact .inl ⟨x, y, by simp [h]⟩
        · refine .inr ⟨by simp [h], fun i hi => ?_⟩
          rcases List.mem_cons.1 hi with rfl | hi
          · exact hb
          · exact h2 i hi
  exact key _ _
end Go.Proofs.Ythjndkjbjflmfaa
