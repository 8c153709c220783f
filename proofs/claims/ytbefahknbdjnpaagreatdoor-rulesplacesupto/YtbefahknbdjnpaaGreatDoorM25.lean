/- Texts of this claim, one behind the other. -/
import Derived.Test.YtbefahknbdjnpaaGreatDoorM24
/- Blanks and remarks, place by place: plain mathematics. -/
namespace Go.Proofs.YtbefahknbdjnpaaGreatDoor
open Go.RowKit Go.Shelf
set_option linter.unusedVariables false
theorem rst_rst (s : ByteArray) (a k : Nat) (h : a ≤ s.size) : (rst s a).extract k (rst s a).size = rst s (a + k) := by
  unfold rst
  rw [ByteArray.size_extract, ByteArray.extract_extract, Nat.min_self]
  congr 1
  omega
theorem rst_at (s : ByteArray) (a k : Nat) (h : a ≤ s.size) : bt (rst s a) k = bt s (a + k) := by unfold bt; rw [get_suffix s a k h]
theorem gap_shift (t : ByteArray) (a : Nat) (ha : a ≤ t.size) : ∀ f k, gapGo t f (a + k) = (a + (gapGo (rst t a) f k).1, (gapGo (rst t a) f k).2)
  | 0, k => by
    unfold gapGo
    rw [rst_size, Prod.mk.injEq]
    exact ⟨by show t.size = a + (t.size - a); omega, rfl⟩
  | f + 1, k => by
    unfold gapGo
    rw [rst_at t a k ha, rst_rst t a k ha, rst_size]
    by_cases h : a + k < t.size
    · rw [if_pos h, if_pos (show k < t.size - a by omega)]
      by_cases hb : blankB (bt t (a + k)) = true
      · rw [if_pos hb, if_pos hb]
        exact gap_shift t a ha f (k + 1)
      · rw [if_neg hb, if_neg hb]
        by_cases hr : bt t (a + k) = 35
        · rw [if_pos hr, if_pos hr]
          show (if (remV (rst t (a + k))).2 = true then _ else _) = _
          by_cases ho : (remV (rst t (a + k))).2 = true
          · rw [if_pos ho, if_pos ho, Nat.add_assoc]
            exact gap_shift t a ha f _
          · rw [if_neg ho, if_neg ho, Nat.add_assoc]
        · rw [if_neg hr, if_neg hr]
    · rw [if_neg h, if_neg (show ¬ k < t.size - a by omega), Prod.mk.injEq]
      exact ⟨by show t.size = a + (t.size - a); omega, rfl⟩
theorem nlAt_pos (t : ByteArray) (h : 0 < t.size) (hb : bt t 0 ≠ 10) : 1 ≤ nlAt t := by
  unfold nlAt
  rw [scanTo_go h (by simp [hb])]
  exact (scanTo_le _ (by omega)).1
theorem remV_pos2 (t : ByteArray) (h : 0 < t.size) (hb : bt t 0 ≠ 10) (ho : (remV t).2 = true) : 1 ≤ (remV t).1 ∧ (remV t).1 ≤ t.size := by
  have h1 := nlAt_pos t h hb
  have h2 := nlAt_le t
  unfold remV at ho ⊢
  split at ho
  · rename_i e
    show 1 ≤ (t.extract 0 (nlAt t)).size ∧ (t.extract 0 (nlAt t)).size ≤ _
    rw [ByteArray.size_extract]
    omega
  · cases ho
theorem gap_fuel (t : ByteArray) : ∀ f g n, t.size ≤ n + f → t.size ≤ n + g → n ≤ t.size → gapGo t f n = gapGo t g n
  | 0, 0, n, _, _, _ => rfl
  | 0, g + 1, n, h, _, _ => by unfold gapGo; rw [if_neg (by omega)]
  | f + 1, 0, n, _, h, _ => by unfold gapGo; rw [if_neg (by omega)]
  | f + 1, g + 1, n, h1, h2, hn => by
    unfold gapGo
    by_cases h : n < t.size
    · rw [if_pos h, if_pos h]
      by_cases hb : blankB (bt t n) = true
      · rw [if_pos hb, if_pos hb]
        exact gap_fuel t f g (n + 1) (by omega) (by omega) (by omega)
      · rw [if_neg hb, if_neg hb]
        by_cases hr : bt t n = 35
        · rw [if_pos hr, if_pos hr]
          by_cases ho : (remV (t.extract n t.size)).2 = true
          · rw [if_pos ho, if_pos ho]
            have hz : 0 < (rst t n).size := by rw [rst_size]; omega
            have h0 : bt (rst t n) 0 = 35 := by rw [rst_at t n 0 (by omega)]; exact hr
            have hp := remV_pos2 (rst t n) hz (by rw [h0]; decide) ho
            rw [rst_size] at hp
            show gapGo t f (n + (remV (rst t n)).1) = gapGo t g (n + (remV (rst t n)).1)
            exact gap_fuel t f g _ (by omega) (by omega) (by omega)
          · rw [if_neg ho, if_neg ho]
        · rw [if_neg hr, if_neg hr]
    · rw [if_neg h, if_neg h]
/-- Behind blanks and remarks, from a place on. -/
def gapA (s : ByteArray) (p : Nat) : Nat × Bool := (p + (gapV (rst s p)).1, (gapV (rst s p)).2)
theorem gapA_from (s : ByteArray) (p k f : Nat) (hp : p + k ≤ s.size) (hf : s.size ≤ p + k + f) : (p + (gapGo (rst s p) f k).1, (gapGo (rst s p) f k).2) = gapA s (p + k) := by
  unfold gapA gapV
  have h := gap_shift (rst s p) k (by rw [rst_size]; omega) f 0
  rw [Nat.add_zero] at h
  have e : rst (rst s p) k = rst s (p + k) := rst_rst s p k (by omega)
  rw [e] at h
  rw [h, gap_fuel (rst s (p + k)) f (rst s (p + k)).size 0 (by rw [rst_size]; omega) (by omega) (by omega), Prod.mk.injEq]
  exact ⟨by show p + (k + _) = _; omega, rfl⟩
theorem gapA_end (s : ByteArray) (p : Nat) (h : s.size ≤ p) (h2 : p ≤ s.size) : gapA s p = (p, true) := by
  obtain rfl : p = s.size := by omega
  unfold gapA
  have e : rst s s.size = ByteArray.empty := toList_nil _ (by rw [rst_size]; omega)
  rw [e]
  rfl
theorem gapA_blank (s : ByteArray) (p : Nat) (h : p < s.size) (hb : blankB (bt s p) = true) : gapA s p = gapA s (p + 1) := by
  rw [← gapA_from s p 1 (s.size - p - 1) (by omega) (by omega)]
  unfold gapA gapV
  have hz := rst_size s p
  obtain ⟨f, hf⟩ : ∃ f, s.size - p = f + 1 := ⟨s.size - p - 1, by omega⟩
  have e : gapGo (rst s p) (rst s p).size 0 = gapGo (rst s p) (s.size - p - 1) 1 := by
    rw [hz, show s.size - p - 1 = f by omega, hf]
    conv => lhs; unfold gapGo
    rw [if_pos (by omega), rst_at s p 0 (by omega), Nat.add_zero, if_pos hb]
  rw [e]
theorem gapA_stop (s : ByteArray) (p : Nat) (h : p < s.size) (hb : blankB (bt s p) = false) (hr : bt s p ≠ 35) : gapA s p = (p, true) := by
  unfold gapA
  have hg : gapV (rst s p) = (0, true) := by
    have hz := rst_size s p
    unfold gapV
    obtain ⟨f, hf⟩ : ∃ f, s.size - p = f + 1 := ⟨s.size - p - 1, by omega⟩
    rw [hz, hf]
    unfold gapGo
    rw [if_pos (by omega), rst_at s p 0 (by omega), Nat.add_zero, if_neg (by rw [hb]; decide), if_neg hr]
  rw [hg]
  rfl
theorem gapA_sharp (s : ByteArray) (p : Nat) (h : p < s.size) (hr : bt s p = 35) : gapA s p = if (remV (rst s p)).2 = true then gapA s (p + (remV (rst s p)).1) else (p + (remV (rst s p)).1, false) := by
  have hz := rst_size s p
  obtain ⟨f, hf⟩ : ∃ f, s.size - p = f + 1 := ⟨s.size - p - 1, by omega⟩
  have h0 : bt (rst s p) 0 = 35 := by rw [rst_at s p 0 (by omega)]; exact hr
  have e : gapGo (rst s p) (rst s p).size 0 = if (remV (rst s p)).2 = true then gapGo (rst s p) f ((remV (rst s p)).1) else ((remV (rst s p)).1, false) := by
    rw [hz, hf]
    conv => lhs; unfold gapGo
    have hx : (rst s p).extract 0 (rst s p).size = rst s p := ByteArray.extract_zero_size
    rw [if_pos (by omega), h0, if_neg (by decide), if_pos rfl, hx, Nat.zero_add]
  by_cases ho : (remV (rst s p)).2 = true
  · have hp := remV_pos2 (rst s p) (by omega) (by rw [h0]; decide) ho
    rw [if_pos ho] at e ⊢
    rw [← gapA_from s p _ f (by omega) (by omega)]
    show (p + (gapGo (rst s p) (rst s p).size 0).1, (gapGo (rst s p) (rst s p).size 0).2) = _
    rw [e]
  · rw [if_neg ho] at e ⊢
    show (p + (gapGo (rst s p) (rst s p).size 0).1, (gapGo (rst s p) (rst s p).size 0).2) = _
    rw [e]
/-- Where the line ends. -/
def lnEnd (s : ByteArray) (p : Nat) : Nat := p + nlAt (rst s p)
/-- In a remark, from a place on. -/
def remA (s : ByteArray) (p : Nat) : Nat × Bool := match badOf (s.extract p (lnEnd s p)) with
  | none => gapA s (lnEnd s p)
  | some x => (p + x + begLen ((s.extract p (lnEnd s p)).extract x (s.extract p (lnEnd s p)).size), false)
theorem lnEnd_le (s : ByteArray) (p : Nat) (h : p ≤ s.size) : p ≤ lnEnd s p ∧ lnEnd s p ≤ s.size := by
  have := nlAt_le (rst s p)
  rw [rst_size] at this
  unfold lnEnd
  omega
theorem scanTo_shift (q : Nat → Bool) (hi a : Nat) : ∀ k n, hi ≤ n + k → scanTo q (a + hi) (a + n) = a + scanTo (fun j => q (a + j)) hi n
  | 0, n, h => by rw [scanTo_end (by omega), scanTo_end (by omega)]
  | k + 1, n, h => by
    by_cases hn : n < hi
    · cases hp : q (a + n) with
      | true => rw [scanTo_go (by omega) hp, scanTo_go (p := fun j => q (a + j)) hn hp]; exact scanTo_shift q hi a k (n + 1) (by omega)
      | false => rw [scanTo_no hp, scanTo_no (p := fun j => q (a + j)) hp]
    · rw [scanTo_end (by omega), scanTo_end hn]
theorem lnEnd_eq (s : ByteArray) (p : Nat) (h : p ≤ s.size) : lnEnd s p = scanTo (fun n => !decide (bt s n = 10)) s.size p := by
  unfold lnEnd nlAt
  rw [rst_size]
  have := scanTo_shift (fun n => !decide (bt s n = 10)) (s.size - p) p (s.size - p) 0 (by omega)
  rw [Nat.add_zero, show p + (s.size - p) = s.size by omega] at this
  have hf : (fun n => !decide (bt (rst s p) n = 10)) = (fun j => !decide (bt s (p + j) = 10)) := by funext j; rw [rst_at s p j h]
  rw [this, hf]
theorem scanTo_stop (q : Nat → Bool) (hi : Nat) : ∀ k n, hi ≤ n + k → scanTo q hi n < hi → q (scanTo q hi n) = false
  | 0, n, h, hl => by rw [scanTo_end (by omega)] at hl; omega
  | k + 1, n, h, hl => by
    by_cases hn : n < hi
    · cases hp : q n with
      | true => rw [scanTo_go hn hp] at hl ⊢; exact scanTo_stop q hi k (n + 1) (by omega) hl
      | false => rw [scanTo_no hp]; exact hp
    · rw [scanTo_end hn] at hl; omega
theorem lnEnd_on (s : ByteArray) (p d : Nat) (h : p + d ≤ s.size) (hn : ∀ j, p ≤ j → j < p + d → bt s j ≠ 10) : lnEnd s p = lnEnd s (p + d) := by
  rw [lnEnd_eq s p (by omega), lnEnd_eq s (p + d) h]
  exact scanTo_all (p := fun n => !decide (bt s n = 10)) d p rfl h (fun j h1 h2 => by simp [hn j h1 h2])
theorem remA_end (s : ByteArray) (p : Nat) (h : p = s.size) : remA s p = (p, true) := by
  subst h
  have e := lnEnd_le s s.size (Nat.le_refl _)
  have e1 : lnEnd s s.size = s.size := by omega
  unfold remA
  have e2 : s.extract s.size (lnEnd s s.size) = ByteArray.empty := toList_nil _ (by rw [ByteArray.size_extract]; omega)
  rw [e2, e1]
  exact gapA_end s s.size (Nat.le_refl _) (Nat.le_refl _)
theorem remA_nl (s : ByteArray) (p : Nat) (h : p < s.size) (hb : bt s p = 10) : remA s p = gapA s (p + 1) := by
  have e1 : lnEnd s p = p := by rw [lnEnd_eq s p (by omega)]; exact scanTo_no (by simp [hb])
  unfold remA
  have e2 : s.extract p (lnEnd s p) = ByteArray.empty := toList_nil _ (by rw [ByteArray.size_extract]; omega)
  rw [e2, e1]
  exact gapA_blank s p h (by rw [hb]; decide)
theorem find_map {α β : Type} (f : α → β) (q : β → Bool) : ∀ l : List α, (l.map f).find? q = (l.find? (fun a => q (f a))).map f
  | [] => rfl
  | a :: l => by
    rw [List.map_cons]
    by_cases h : q (f a) = true
    · rw [List.find?_cons_of_pos h, List.find?_cons_of_pos (p := fun a => q (f a)) h]; rfl
    · rw [List.find?_cons_of_neg h, List.find?_cons_of_neg (p := fun a => q (f a)) h]; exact find_map f q l
/-- A text that begins with a right spot: its first bad place is that of what is behind. -/
theorem badOf_behind (v u : ByteArray) (hb : bdB (v ++ u) v.size = true) (hv : ∀ i ∈ starts v, badB v i = false) : badOf (v ++ u) = (badOf u).map (v.size + ·) := by
  obtain ⟨e, hd⟩ := starts_both v u hb
  unfold badOf
  rw [e, List.find?_append]
  have h1 : (starts v).find? (badB (v ++ u)) = none := by
    rw [List.find?_eq_none]
    intro i hi
    have e2 : badB (v ++ u) i = badB v i := by unfold badB; simp only [rn, wd, hd i hi]
    rw [e2, hv i hi]
    decide
  rw [h1, Option.none_or, find_map]
  congr 2
  funext j
  unfold badB
  simp only [rn, wd, decode_behind]
theorem remA_behind (s : ByteArray) (p d : Nat) (hd : p + d ≤ s.size) (hn : ∀ j, p ≤ j → j < p + d → bt s j ≠ 10) (hv : ∀ i ∈ starts (s.extract p (p + d)), badB (s.extract p (p + d)) i = false) : remA s p = remA s (p + d) := by
  have e0 := lnEnd_on s p d hd hn
  have hl := lnEnd_le s (p + d) hd
  have hcat : s.extract p (p + d) ++ s.extract (p + d) (lnEnd s (p + d)) = s.extract p (lnEnd s (p + d)) := by
    rw [ByteArray.extract_append_extract]
    congr 1 <;> omega
  have hz : (s.extract p (p + d)).size = d := by rw [ByteArray.size_extract]; omega
  have hj := joins_valid_left (s.extract p (p + d)) (s.extract (p + d) (lnEnd s (p + d))) hv
  rw [joins_bd] at hj
  have hbo := badOf_behind _ _ hj hv
  rw [hcat, hz] at hbo
  unfold remA
  rw [e0, hbo]
  cases hq : badOf (s.extract (p + d) (lnEnd s (p + d))) with
  | none => rfl
  | some x =>
    show (p + (d + x) + begLen _, false) = (p + d + x + begLen _, false)
    have e1 : (s.extract p (lnEnd s (p + d))).extract (d + x) (s.extract p (lnEnd s (p + d))).size = (s.extract (p + d) (lnEnd s (p + d))).extract x (s.extract (p + d) (lnEnd s (p + d))).size := by
      rw [ByteArray.size_extract, ByteArray.size_extract, ByteArray.extract_extract, ByteArray.extract_extract]
      congr 1 <;> omega
    rw [e1, Nat.add_assoc p d x]
theorem remA_spot (s : ByteArray) (p : Nat) (h : p < s.size) (hb : bt s p ≠ 10) (hg : badB s p = false) : remA s p = remA s (p + wd s p) := by
  have hr := wd_room s p h
  have hz : (s.extract p (p + wd s p)).size = wd s p := by rw [ByteArray.size_extract]; have := wd_pos s p; omega
  refine remA_behind s p (wd s p) hr (fun j h1 h2 => ?_) ?_
  · by_cases e : j = p
    · rw [e]; exact hb
    · have := wd_cont s p (j - p) (by omega) (by omega)
      rw [show p + (j - p) = j by omega] at this
      omega
  · have hcat : s.extract p (p + wd s p) ++ s.extract (p + wd s p) s.size = rst s p := by
      rw [ByteArray.extract_append_extract]
      congr 1 <;> omega
    have hd : Utf8.decode (rst s p) 0 = Utf8.decode s p := decode_suffix s p 0 (by omega)
    have hp := wd_pos s p
    have e := decode_part (s.extract p (p + wd s p)) (s.extract (p + wd s p) s.size) 0 (by omega) (by rw [hcat, hz]; unfold wd; rw [hd]; omega)
    rw [hcat, hd] at e
    have hs : starts (s.extract p (p + wd s p)) = [0] := by
      unfold starts
      obtain ⟨m, hm⟩ : ∃ m, (s.extract p (p + wd s p)).size = m + 1 := ⟨wd s p - 1, by omega⟩
      rw [hm, startsFrom_cons _ m 0 (by omega), startsFrom_end _ _ _ (by show ¬ 0 + (Utf8.decode _ 0).2 < _; rw [e]; show ¬ 0 + wd s p < _; omega)]
    intro i hi
    rw [hs] at hi
    obtain rfl : i = 0 := by simpa using hi
    unfold badB rn wd at hg ⊢
    rw [e]
    exact hg
theorem badB_ascii' (s : ByteArray) (i : Nat) (h : bt s i < 128) : badB s i = false := by
  have t := at_told s i
  unfold badB
  refine decide_eq_false ?_
  rintro ⟨a, b⟩
  rcases t.one b with q | q
  · omega
  · simp only [rn] at a; omega
theorem gapA_rem (s : ByteArray) (p : Nat) (h : p < s.size) (hr : bt s p = 35) : gapA s p = remA s (p + 1) := by
  have hb : badB s p = false := badB_ascii' s p (by omega)
  have hw : wd s p = 1 := by
    rcases Nat.lt_or_ge (wd s p) 2 with q | q
    · have := wd_pos s p; omega
    · have := wd_lead s p q; omega
  rw [← hw, ← remA_spot s p h (by omega) hb, gapA_sharp s p h hr]
  have hl := lnEnd_le s p (by omega)
  have e1 : (rst s p).extract 0 (nlAt (rst s p)) = s.extract p (lnEnd s p) := by
    unfold lnEnd rst
    rw [ByteArray.extract_extract, Nat.add_zero]
    congr 1
    have := nlAt_le (rst s p)
    rw [rst_size] at this
    unfold rst at this
    omega
  have hz : (s.extract p (lnEnd s p)).size = lnEnd s p - p := by rw [ByteArray.size_extract]; omega
  have e2 : remV (rst s p) = match badOf (s.extract p (lnEnd s p)) with
    | none => (lnEnd s p - p, true)
    | some x => (x + begLen ((s.extract p (lnEnd s p)).extract x (s.extract p (lnEnd s p)).size), false) := by
    unfold remV
    rw [e1]
    cases badOf (s.extract p (lnEnd s p)) with
    | none => show (_, true) = (_, true); rw [hz]
    | some x => rfl
  unfold remA
  cases hq : badOf (s.extract p (lnEnd s p)) with
  | none =>
    rw [hq] at e2
    rw [e2]
    show (if true = true then gapA s (p + (lnEnd s p - p)) else _) = _
    rw [if_pos rfl, show p + (lnEnd s p - p) = lnEnd s p by omega]
  | some x =>
    rw [hq] at e2
    rw [e2]
    show (if false = true then _ else (p + (x + begLen _), false)) = (p + x + begLen _, false)
    rw [if_neg (by decide), Nat.add_assoc]
theorem first_bad (t : ByteArray) (h : 0 < t.size) (hs : (secOf (bt t 0)).1 ≠ 0) (hb : badB t 0 = true) : ∃ k, 1 ≤ k ∧ k < szOf (bt t 0) ∧ (∀ j, 1 ≤ j → j < k → good4 t j = true) ∧ good4 t k = false := by
  have hne : ¬ ∀ j, 1 ≤ j → j < szOf (bt t 0) → good4 t j = true := fun q => by
    have e := seq4_good h hs q
    unfold seq4V at e
    rw [if_neg (by omega), if_pos hb] at e
    exact absurd (congrArg (fun x => x.2.2) e) (by simp)
  have hsz := szOf_cases (bt t 0)
  cases g1 : good4 t 1 with
  | false => exact ⟨1, by omega, by omega, fun j a b => by omega, g1⟩
  | true =>
    by_cases h3 : szOf (bt t 0) = 2
    · exact absurd (fun j a b => by obtain rfl : j = 1 := by omega
                                    exact g1) hne
    · cases g2 : good4 t 2 with
      | false => exact ⟨2, by omega, by omega, fun j a b => by obtain rfl : j = 1 := by omega
                                                               exact g1, g2⟩
      | true =>
        by_cases h4 : szOf (bt t 0) = 3
        · refine absurd (fun j a b => ?_) hne
          have : j = 1 ∨ j = 2 := by omega
          rcases this with rfl | rfl
          · exact g1
          · exact g2
        · cases g3 : good4 t 3 with
          | false =>
            refine ⟨3, by omega, by omega, fun j a b => ?_, g3⟩
            have : j = 1 ∨ j = 2 := by omega
            rcases this with rfl | rfl
            · exact g1
            · exact g2
          | true =>
            refine absurd (fun j a b => ?_) hne
            have : j = 1 ∨ j = 2 ∨ j = 3 := by omega
            rcases this with rfl | rfl | rfl
            · exact g1
            · exact g2
            · exact g3
theorem begLen_line (t : ByteArray) (m : Nat) (h1 : 1 ≤ m) (hm : m ≤ t.size) (he : m = t.size ∨ bt t m = 10) (hb : badB t 0 = true) : begLen (t.extract 0 m) = begLen t := by
  have hz : (t.extract 0 m).size = m := by rw [ByteArray.size_extract]; omega
  have h0 : bt (t.extract 0 m) 0 = bt t 0 := bt_pre t m 0 (by omega) hm
  by_cases hs : (secOf (bt t 0)).1 = 0
  · rw [begLen_none t (by omega) hs, begLen_none _ (by omega) (by rw [h0]; exact hs)]
  · obtain ⟨k, k1, k2, k3, k4⟩ := first_bad t (by omega) hs hb
    have hq := secOf_lo _ hs
    have hkm : k ≤ m := by
      rcases Nat.lt_or_ge m k with q | q
      · have g := good4_iff.1 (k3 m h1 q)
        rcases he with e | e
        · omega
        · rw [e] at g
          split at g <;> omega
      · exact q
    rw [begLen_some t hs k k1 k2 k3 k4 (by omega)]
    refine begLen_some _ (by rw [h0]; exact hs) k k1 (by rw [h0]; exact k2) (fun j a b => ?_) ?_ (by omega)
    · have g := good4_iff.1 (k3 j a b)
      refine good4_iff.2 ⟨by omega, ?_⟩
      rw [h0, bt_pre t m j (by omega) hm]
      exact g.2
    · rw [Bool.eq_false_iff]
      intro g
      have g := good4_iff.1 g
      rw [h0, bt_pre t m k (by omega) hm] at g
      rw [good4_iff.2 ⟨by omega, g.2⟩] at k4
      cases k4
theorem bad_line (s : ByteArray) (p L : Nat) (hln : p < L) (hl : L ≤ s.size) (hend : L = s.size ∨ bt s L = 10) (hb : badB s p = true) : badOf (s.extract p L) = some 0 ∧ begLen (s.extract p L) = begLen (rst s p) := by
  have hz : (s.extract p L).size = L - p := by rw [ByteArray.size_extract]; omega
  have e1 : (rst s p).extract 0 (L - p) = s.extract p L := by
    unfold rst
    rw [ByteArray.extract_extract, Nat.add_zero, show min (p + (L - p)) s.size = L by omega]
  have hd : Utf8.decode (rst s p) 0 = Utf8.decode s p := decode_suffix s p 0 (by omega)
  have hbt : badB (rst s p) 0 = true := by unfold badB rn wd at hb ⊢; rw [hd]; exact hb
  have hbu : badB (s.extract p L) 0 = true := by
    cases q : badB (s.extract p L) 0 with
    | true => rfl
    | false =>
      have hg : ¬ (rn (s.extract p L) 0 = 65533 ∧ wd (s.extract p L) 0 = 1) := by simpa [badB] using q
      have hcat : s.extract p L ++ s.extract L s.size = rst s p := by rw [ByteArray.extract_append_extract, Nat.min_eq_left (by omega), Nat.max_eq_right hl]
      have := decode_grow (s.extract p L) (s.extract L s.size) 0 (by omega) hg
      rw [hcat] at this
      have e : badB (rst s p) 0 = badB (s.extract p L) 0 := by unfold badB; simp only [rn, wd, this]
      rw [e, q] at hbt
      exact hbt
  refine ⟨?_, ?_⟩
  · unfold badOf
    obtain ⟨r, hr⟩ := starts_head (s.extract p L) (by omega)
    rw [hr, List.find?_cons_of_pos hbu]
  · have := begLen_line (rst s p) (L - p) (by omega) (by rw [rst_size]; omega) (by
      rcases hend with e | e
      · left; rw [rst_size, e]
      · right; rw [rst_at s p _ (by omega), show p + (L - p) = L by omega]; exact e) hbt
    rwa [e1] at this
theorem remA_bad (s : ByteArray) (p : Nat) (h : p < s.size) (hb : badB s p = true) : remA s p = (p + begLen (rst s p), false) := by
  have hb10 : bt s p ≠ 10 := fun e => by rw [badB_ascii' s p (by omega)] at hb; cases hb
  have hln : p < lnEnd s p := by
    have := nlAt_pos (rst s p) (by rw [rst_size]; omega) (by rw [rst_at s p 0 (by omega)]; exact hb10)
    unfold lnEnd
    omega
  have hl := lnEnd_le s p (by omega)
  have hend : lnEnd s p = s.size ∨ bt s (lnEnd s p) = 10 := by
    by_cases q : lnEnd s p < s.size
    · right
      have := scanTo_stop (fun n => !decide (bt s n = 10)) s.size (s.size - p) p (by omega)
      rw [← lnEnd_eq s p (by omega)] at this
      simpa using this q
    · left; omega
  unfold remA
  generalize lnEnd s p = L at *
  obtain ⟨e1, e2⟩ := bad_line s p L hln hl.2 hend hb
  rw [e1]
  show (p + 0 + begLen ((s.extract p L).extract 0 (s.extract p L).size), false) = _
  rw [ByteArray.extract_zero_size, e2, Nat.add_zero]
end Go.Proofs.YtbefahknbdjnpaaGreatDoor
/- A rune between two quotes, as the reference reads it: plain mathematics. -/
namespace Go.Proofs.YtbefahknbdjnpaaGreatDoor
open Go.RowKit Go.Shelf
set_option linter.unusedVariables false
theorem rn_39 (s : ByteArray) (i : Nat) : rn s i = 39 ↔ bt s i = 39 := by
  have t := at_told s i
  constructor
  · intro h
    have hg : ¬ (rn s i = 65533 ∧ wd s i = 1) := by omega
    rcases t.width hg with h1 | h1 | h1 | h1
    · rcases t.one h1.1 with h2 | h2 <;> (simp only [rn] at h; omega)
    all_goals (simp only [rn] at h; omega)
  · intro h
    rcases Nat.lt_or_ge (wd s i) 2 with h1 | h1
    · have : wd s i = 1 := by have := wd_pos s i; omega
      rcases t.one this with h2 | h2 <;> (simp only [rn]; omega)
    · have := wd_lead s i h1; omega
/-- What quoted makes, by what stands behind the quote. -/
theorem quo_cases (s : ByteArray) (a : Nat) (h : a < s.size) : (∃ n, seq4V (rst s (a + 1)) = (0, n, false) ∧ quoV (rst s a) = (0, 1 + n, false)) ∨
    (∃ r n, seq4V (rst s (a + 1)) = (r, n, true) ∧ 1 ≤ n ∧ a + 1 + n ≤ s.size ∧ r ≤ 1114111 ∧ quoV (rst s a) = if r < 32 ∨ r = 39 ∨ r = 127 then (0, 1, false) else if a + 1 + n < s.size ∧ bt s (a + 1 + n) = 39 then (r, n + 2, true) else (0, 1 + n, false)) := by
  have ht : tl1 (rst s a) = rst s (a + 1) := rst_rst s a 1 (by omega)
  have hz := rst_size s a
  have hz1 := rst_size s (a + 1)
  obtain ⟨u, hu⟩ : ∃ u, u = rst s (a + 1) := ⟨_, rfl⟩
  have hq : quoV (rst s a) = if u.size = 0 then (0, (rst s a).size, false) else if rn u 0 < 32 ∨ rn u 0 = 39 ∨ rn u 0 = 127 then (0, 1, false) else if wholeB u = false then (0, 1 + begLen u, false) else if ¬ wd u 0 < u.size then (0, (rst s a).size, false) else if rn u (wd u 0) = 39 then (rn u 0, wd u 0 + 2, true) else (0, 1 + wd u 0, false) := by unfold quoV; rw [ht, hu]
  rw [← hu] at hz1 ⊢
  by_cases h0 : u.size = 0
  · left
    refine ⟨0, by unfold seq4V; rw [if_pos h0], ?_⟩
    rw [hq, if_pos h0, show (rst s a).size = 1 + 0 by omega]
  · rw [if_neg h0] at hq
    cases hb : badB u 0 with
    | true =>
      left
      have hr := of_decide_eq_true hb
      refine ⟨begLen u, by unfold seq4V; rw [if_neg h0, hb, if_pos rfl], ?_⟩
      rw [hq, if_neg (by omega), if_pos (by unfold wholeB; rw [hb]; simp)]
    | false =>
      right
      have hr := wd_room u 0 (by omega)
      have hp := wd_pos u 0
      have hs := (at_told u 0).small
      refine ⟨rn u 0, wd u 0, by unfold seq4V; rw [if_neg h0, hb, if_neg (by decide)], hp, by omega, hs, ?_⟩
      rw [hq]
      by_cases hl : rn u 0 < 32 ∨ rn u 0 = 39 ∨ rn u 0 = 127
      · rw [if_pos hl, if_pos hl]
      · rw [if_neg hl, if_neg hl, if_neg (by unfold wholeB; rw [hb, decide_eq_true (by omega)]; decide)]
        have hbt : bt u (wd u 0) = bt s (a + 1 + wd u 0) := by rw [hu]; exact rst_at s (a + 1) _ (by omega)
        by_cases hw : wd u 0 < u.size
        · rw [if_neg (fun q => q hw)]
          by_cases h39 : rn u (wd u 0) = 39
          · rw [if_pos h39, if_pos ⟨by omega, by rw [← hbt]; exact (rn_39 u _).1 h39⟩]
          · rw [if_neg h39, if_neg (fun q => h39 ((rn_39 u _).2 (by rw [hbt]; exact q.2)))]
        · rw [if_pos hw, if_neg (by omega), show (rst s a).size = 1 + wd u 0 by omega]
end Go.Proofs.YtbefahknbdjnpaaGreatDoor
/- A rune with U+, as the reference reads it: plain mathematics. -/
namespace Go.Proofs.YtbefahknbdjnpaaGreatDoor
open Go.RowKit Go.Shelf
set_option linter.unusedVariables false
def hxB (c : Nat) : Bool := decide ((48 ≤ c ∧ c ≤ 57) ∨ (65 ≤ c ∧ c ≤ 70))
theorem hxB_hexI {c : Nat} : hxB c = true ↔ 0 ≤ hexI c := by
  unfold hxB hexI
  rw [decide_eq_true_iff]
  constructor
  · intro h; split <;> (try split) <;> omega
  · intro h; split at h <;> (try split at h) <;> omega
theorem hexI_nat {c : Nat} (h : hxB c = true) : (hexI c).toNat ≤ 15 ∧ ((hexI c).toNat : Int) = hexI c ∧ ((hexI c).toNat = 0 ↔ c = 48) ∧ ((hexI c).toNat = 1 ↔ c = 49) := by
  have h1 := of_decide_eq_true h
  unfold hexI
  split
  · omega
  · split
    · omega
    · omega
/-- The number of the first k hexadecimal digits. -/
def hxV (d : ByteArray) : Nat → Nat
  | 0 => 0
  | k + 1 => hxV d k * 16 + (hexI (bt d k)).toNat
theorem hxV_lt (d : ByteArray) : ∀ k, (∀ i, i < k → hxB (bt d i) = true) → hxV d k < 16 ^ k
  | 0, _ => by show 0 < 1; decide
  | k + 1, h => by
    have h1 := hxV_lt d k (fun i hi => h i (by omega))
    have h2 := (hexI_nat (h k (by omega))).1
    show hxV d k * 16 + _ < _
    rw [Nat.pow_succ]
    omega
/-- Where the reading of a rune with U+ stands: behind j digits. -/
structure PlSt (s : ByteArray) (a j : Nat) : Prop where
  room : a + 2 + j ≤ s.size
  hex : ∀ i, i < j → hxB (bt (rst s (a + 2)) i) = true
  go : numdGo (rst s a) 0 2 = numdGo (rst s a) (hxV (rst s (a + 2)) j) (2 + j)
  five : 5 ≤ j → bt (rst s (a + 2)) 0 ≠ 48
  six : 6 ≤ j → bt (rst s (a + 2)) 0 = 49 ∧ bt (rst s (a + 2)) 1 = 48
  max : j ≤ 6
theorem pl_bt (s : ByteArray) (a k : Nat) (h : a + 2 ≤ s.size) : bt (rst s a) (2 + k) = bt (rst s (a + 2)) k := by
  rw [rst_at s a (2 + k) (by omega), rst_at s (a + 2) k h]
  congr 1
  rw [Nat.add_assoc]
theorem hxV_five (d : ByteArray) : hxV d 5 = ((((hexI (bt d 0)).toNat * 16 + (hexI (bt d 1)).toNat) * 16 + (hexI (bt d 2)).toNat) * 16 + (hexI (bt d 3)).toNat) * 16 + (hexI (bt d 4)).toNat := by simp [hxV]
theorem five_iff {d0 d1 d2 d3 d4 d5 : Nat} (h1 : d1 ≤ 15) (h2 : d2 ≤ 15) (h3 : d3 ≤ 15) (h4 : d4 ≤ 15) (h5 : d5 ≤ 15) (h0 : d0 ≠ 0) : ((((d0 * 16 + d1) * 16 + d2) * 16 + d3) * 16 + d4) * 16 + d5 ≤ 1114111 ↔ d0 = 1 ∧ d1 = 0 := by omega
theorem six_no {d0 d1 d2 d3 d4 d5 d6 : Nat} (h0 : d0 = 1) : ¬ (((((d0 * 16 + d1) * 16 + d2) * 16 + d3) * 16 + d4) * 16 + d5) * 16 + d6 ≤ 1114111 := by omega
/-- Does the reference go on? -/
def plGo (d : ByteArray) (j : Nat) : Prop := j < 4 ∨ (j = 4 ∧ bt d 0 ≠ 48) ∨ (j = 5 ∧ bt d 0 = 49 ∧ bt d 1 = 48)
theorem pl_iff {s : ByteArray} {a j : Nat} (st : PlSt s a j) (hj : a + 2 + j < s.size) (hx : hxB (bt (rst s (a + 2)) j) = true) : plGo (rst s (a + 2)) j ↔ (2 + j < (rst s a).size ∧ (2 + j < 6 ∨ bt (rst s a) 2 ≠ 48) ∧ 0 ≤ hexI (bt (rst s a) (2 + j)) ∧ hxV (rst s (a + 2)) j * 16 + (hexI (bt (rst s a) (2 + j))).toNat ≤ 1114111) := by
  have hz := rst_size s a
  have hb := pl_bt s a j (by omega)
  have hb0 : bt (rst s a) 2 = bt (rst s (a + 2)) 0 := pl_bt s a 0 (by omega)
  have hh := hxB_hexI.1 hx
  have hd := (hexI_nat hx).1
  rw [hb, hb0]
  have hlt := hxV_lt (rst s (a + 2)) j st.hex
  have hmx := st.max
  have hc : j = 0 ∨ j = 1 ∨ j = 2 ∨ j = 3 ∨ j = 4 ∨ j = 5 ∨ j = 6 := by omega
  unfold plGo
  rcases hc with rfl | rfl | rfl | rfl | rfl | rfl | rfl
  iterate 4
    · refine ⟨fun _ => ⟨by omega, .inl (by omega), hh, ?_⟩, fun _ => .inl (by omega)⟩
      generalize (hexI (bt (rst s (a + 2)) _)).toNat = x at hd ⊢
      generalize hxV (rst s (a + 2)) _ = y at hlt ⊢
      omega
  · constructor
    · intro h
      refine ⟨by omega, .inr (by omega), hh, ?_⟩
      generalize (hexI (bt (rst s (a + 2)) _)).toNat = x at hd ⊢
      generalize hxV (rst s (a + 2)) _ = y at hlt ⊢
      omega
    · intro h
      exact .inr (.inl ⟨rfl, by rcases h.2.1 with q | q; · omega
                                · exact q⟩)
  · have h5 := st.five (by omega)
    have g0 := hexI_nat (st.hex 0 (by omega))
    have g1 := hexI_nat (st.hex 1 (by omega))
    have g2 := hexI_nat (st.hex 2 (by omega))
    have g3 := hexI_nat (st.hex 3 (by omega))
    have g4 := hexI_nat (st.hex 4 (by omega))
    have k0 : (hexI (bt (rst s (a + 2)) 0)).toNat ≠ 0 := fun q => h5 (g0.2.2.1.1 q)
    have key := five_iff g1.1 g2.1 g3.1 g4.1 hd k0
    rw [← hxV_five (rst s (a + 2))] at key
    constructor
    · intro h
      have h1 : bt (rst s (a + 2)) 0 = 49 ∧ bt (rst s (a + 2)) 1 = 48 := by
        rcases h with q | q | q
        · omega
        · omega
        · exact q.2
      exact ⟨by omega, .inr h5, hh, key.2 ⟨g0.2.2.2.2 h1.1, g1.2.2.1.2 h1.2⟩⟩
    · intro h
      have q := key.1 h.2.2.2
      exact .inr (.inr ⟨rfl, g0.2.2.2.1 q.1, g1.2.2.1.1 q.2⟩)
  · have h6 := st.six (by omega)
    have g0 := hexI_nat (st.hex 0 (by omega))
    have key := @six_no _ (hexI (bt (rst s (a + 2)) 1)).toNat (hexI (bt (rst s (a + 2)) 2)).toNat (hexI (bt (rst s (a + 2)) 3)).toNat (hexI (bt (rst s (a + 2)) 4)).toNat (hexI (bt (rst s (a + 2)) 5)).toNat (hexI (bt (rst s (a + 2)) 6)).toNat (g0.2.2.2.2 h6.1)
    rw [← hxV_five (rst s (a + 2))] at key
    constructor
    · intro h
      exfalso
      rcases h with q | q | q <;> omega
    · intro h
      exact absurd h.2.2.2 key
theorem pl_step {s : ByteArray} {a j : Nat} (st : PlSt s a j) (hj : a + 2 + j < s.size) (hx : hxB (bt (rst s (a + 2)) j) = true) (hg : plGo (rst s (a + 2)) j) : PlSt s a (j + 1) := by
  have hn := (pl_iff st hj hx).1 hg
  have hb := pl_bt s a j (by omega)
  refine ⟨by omega, fun i hi => ?_, ?_, fun h => ?_, fun h => ?_, ?_⟩
  · by_cases e : i = j
    · rw [e]; exact hx
    · exact st.hex i (by omega)
  · rw [st.go, numdGo_go hn, hb]
    rfl
  · unfold plGo at hg
    by_cases e : j = 4
    · omega
    · exact st.five (by omega)
  · unfold plGo at hg
    by_cases e : j = 5
    · omega
    · have := st.max; omega
  · unfold plGo at hg
    omega
theorem pl_stop {s : ByteArray} {a j : Nat} (st : PlSt s a j) (h : ¬ (a + 2 + j < s.size ∧ hxB (bt (rst s (a + 2)) j) = true ∧ plGo (rst s (a + 2)) j)) : numdGo (rst s a) 0 2 = (hxV (rst s (a + 2)) j, 2 + j) := by
  have hr := st.room
  rw [st.go]
  refine numdGo_stop (fun q => h ?_)
  have hz := rst_size s a
  have hb := pl_bt s a j (by omega)
  have hj : a + 2 + j < s.size := by omega
  have hx : hxB (bt (rst s (a + 2)) j) = true := hxB_hexI.2 (by rw [← hb]; exact q.2.2.1)
  exact ⟨hj, hx, (pl_iff st hj hx).2 q⟩
theorem pl_zero {s : ByteArray} {a : Nat} (h : a + 2 ≤ s.size) : PlSt s a 0 := ⟨h, fun i hi => by omega, rfl, fun h => by omega, fun h => by omega, by omega⟩
end Go.Proofs.YtbefahknbdjnpaaGreatDoor
/- What stands ahead of a number's end: plain mathematics. -/
namespace Go.Proofs.YtbefahknbdjnpaaGreatDoor
open Go.RowKit Go.Shelf
set_option linter.unusedVariables false
theorem numGo_prev (t : ByteArray) : ∀ f v k, t.size ≤ k + f → 1 ≤ k → digB (bt t (k - 1)) = true → digB (bt t ((numGo t v k).2 - 1)) = true
  | 0, v, k, h, h1, hd => by rw [numGo_stop (by omega)]; exact hd
  | f + 1, v, k, h, h1, hd => by
    by_cases hc : k < t.size ∧ digB (bt t k) = true ∧ 0 < v ∧ v * 10 + (bt t k - 48) ≤ 65535
    · rw [numGo_go hc.1 hc.2.1 hc.2.2.1 hc.2.2.2]
      exact numGo_prev t f _ (k + 1) (by omega) (by omega) hc.2.1
    · rw [numGo_stop hc]; exact hd
theorem numV_prev (t : ByteArray) (h : 0 < t.size) (hd : digB (bt t 0) = true) : digB (bt t ((numV t).2 - 1)) = true := numGo_prev t t.size _ 1 (by omega) (by omega) hd
theorem numdGo_prev (t : ByteArray) : ∀ f v k, t.size ≤ k + f → 1 ≤ k → (3 ≤ k → hxB (bt t (k - 1)) = true) → 3 ≤ (numdGo t v k).2 → hxB (bt t ((numdGo t v k).2 - 1)) = true
  | 0, v, k, h, h1, hd, h3 => by rw [numdGo_stop (by omega)] at h3 ⊢; exact hd h3
  | f + 1, v, k, h, h1, hd, h3 => by
    by_cases hc : k < t.size ∧ (k < 6 ∨ bt t 2 ≠ 48) ∧ 0 ≤ hexI (bt t k) ∧ v * 16 + (hexI (bt t k)).toNat ≤ 1114111
    · rw [numdGo_go hc] at h3 ⊢
      exact numdGo_prev t f _ (k + 1) (by omega) (by omega) (fun _ => hxB_hexI.2 hc.2.2.1) h3
    · rw [numdGo_stop hc] at h3 ⊢; exact hd h3
theorem nameLen_prev (t : ByteArray) : ∀ f k, min t.size 32 ≤ k + f → 1 ≤ k → k ≤ min t.size 32 → inNB (bt t (k - 1)) = true → inNB (bt t (scanTo (fun n => inNB (bt t n)) (min t.size 32) k - 1)) = true
  | 0, k, h, h1, hk, hd => by rw [scanTo_end (by omega)]; exact hd
  | f + 1, k, h, h1, hk, hd => by
    by_cases hl : k < min t.size 32
    · cases hp : inNB (bt t k) with
      | true => rw [scanTo_go (p := fun n => inNB (bt t n)) hl hp]; exact nameLen_prev t f (k + 1) (by omega) (by omega) (by omega) hp
      | false => rw [scanTo_no (p := fun n => inNB (bt t n)) hp]; exact hd
    · rw [scanTo_end hl]; exact hd
theorem stk_dig {c : Nat} (h : digB c = true) : stkB c = true := by unfold stkB inNB; rw [h]; simp
theorem stk_hex {c : Nat} (h : hxB c = true) : stkB c = true := by
  have h1 := of_decide_eq_true h
  rcases h1 with h1 | h1
  · exact stk_dig (decide_eq_true h1)
  · unfold stkB
    rw [decide_eq_true (show 65 ≤ c ∧ c ≤ 90 by omega)]
    simp
theorem stk_inN {c : Nat} (h : inNB c = true) : stkB c = true := by unfold stkB; rw [h]; simp
end Go.Proofs.YtbefahknbdjnpaaGreatDoor
