/- Texts of this claim, one behind the other. -/
import Derived.Test.YtbefahknbdjnpaaGreatDoorM26
import Derived.Test.YtbefahknbdjnpaaGreatDoorM12
import Derived.Test.YtbefahknbdjnpaaGreatDoorM10
import Derived.Test.YtbefahknbdjnpaaGreatDoorM23
import Derived.Test.YtbefahknbdjnpaaGreatDoorM19
/- Two texts behind one another; words with other blanks between them: plain mathematics. -/
namespace Go.Proofs.YtbefahknbdjnpaaGreatDoor
open Go.RowKit Go.Shelf
set_option linter.unusedVariables false
/-- Two texts, a line's end between them. -/
def joinT (a b : ByteArray) : ByteArray := a ++ ⟨#[10]⟩ ++ b
theorem joinT_size (a b : ByteArray) : (joinT a b).size = a.size + 1 + b.size := by unfold joinT; rw [ByteArray.size_append, ByteArray.size_append]; rfl
theorem joinT_left (a b : ByteArray) (i : Nat) (h : i < a.size) : bt (joinT a b) i = bt a i := by
  unfold joinT bt
  rw [get_append, if_pos (by rw [ByteArray.size_append]; omega), get_append, if_pos h]
theorem joinT_mid (a b : ByteArray) : bt (joinT a b) a.size = 10 := by
  unfold joinT bt
  rw [get_append, if_pos (by rw [ByteArray.size_append]; show a.size < a.size + 1; omega), get_append, if_neg (by omega), Nat.sub_self]
  rfl
theorem joinT_right (a b : ByteArray) (i : Nat) : bt (joinT a b) (a.size + 1 + i) = bt b i := by
  unfold joinT bt
  have hz : (a ++ (⟨#[10]⟩ : ByteArray)).size = a.size + 1 := by rw [ByteArray.size_append]; rfl
  rw [get_append, if_neg (by omega), hz, Nat.add_sub_cancel_left]
theorem joinT_rst (a b : ByteArray) (q : Nat) (hq : q ≤ b.size) : rst (joinT a b) (a.size + 1 + q) = rst b q := by
  have hz := joinT_size a b
  refine ext_get _ _ (by rw [rst_size, rst_size]; omega) (fun j hj => ?_)
  rw [rst_at _ _ _ (by omega), rst_at _ _ _ hq, Nat.add_assoc, joinT_right]
theorem joinT_pre (a b : ByteArray) (p : Nat) (hp : p ≤ a.size) : (joinT a b).extract 0 p = a.extract 0 p :=
  ext_pre_eq hp (by rw [joinT_size]; omega) (fun i hi => joinT_left a b i (by omega))
theorem joinT_lc (a b : ByteArray) (p : Nat) (hp : p ≤ a.size) : lcAt (joinT a b) p = lcAt a p := by unfold lcAt; rw [joinT_pre a b p hp]
theorem rem_join (a b : ByteArray) (p : Nat) (hp : p ≤ a.size) : remV (rst (joinT a b) p) = remV (rst a p) := by
  have hz := joinT_size a b
  refine rem_agree (m := a.size - p) (by rw [rst_size]; omega) (by rw [rst_size]; omega) (fun j hj => ?_) (.inl (by rw [rst_size])) (.inr ?_)
  · rw [rst_at _ _ _ (by omega), rst_at _ _ _ hp, joinT_left a b _ (by omega)]
  · rw [rst_at _ _ _ (by omega), show p + (a.size - p) = a.size by omega, joinT_mid]
theorem gap_mid (a b : ByteArray) : gapA (joinT a b) a.size = gapA (joinT a b) (a.size + 1) := gapA_blank _ _ (by rw [joinT_size]; omega) (by rw [joinT_mid]; rfl)
theorem gap_join (a b : ByteArray) : ∀ k p q, a.size ≤ p + k → p ≤ a.size → gapA a p = (q, true) → (q < a.size → gapA (joinT a b) p = (q, true)) ∧ (q = a.size → gapA (joinT a b) p = gapA (joinT a b) (a.size + 1))
  | 0, p, q, h, hp, hg => by
    obtain rfl : p = a.size := by omega
    have := (gapA_le a a.size (Nat.le_refl _)).1
    rw [hg] at this
    have h9 : a.size ≤ q := this
    exact ⟨fun h => by omega, fun _ => gap_mid a b⟩
  | k + 1, p, q, h, hp, hg => by
    by_cases he : p = a.size
    · subst he
      have := (gapA_le a a.size (Nat.le_refl _)).1
      rw [hg] at this
      have h9 : a.size ≤ q := this
      exact ⟨fun h => by omega, fun _ => gap_mid a b⟩
    · have hlt : p < a.size := by omega
      have hls : p < (joinT a b).size := by rw [joinT_size]; omega
      have hbt := joinT_left a b p hlt
      cases hb : blankB (bt a p)
      · by_cases hr : bt a p = 35
        · rw [gapA_sharp a p hlt hr] at hg
          rw [gapA_sharp (joinT a b) p hls (by rw [hbt]; exact hr), rem_join a b p hp]
          by_cases ho : (remV (rst a p)).2 = true
          · rw [if_pos ho] at hg ⊢
            have hz : 0 < (rst a p).size := by rw [rst_size]; omega
            have h0 : bt (rst a p) 0 = 35 := by rw [rst_at a p 0 hp]; exact hr
            have hm := remV_pos2 (rst a p) hz (by rw [h0]; decide) ho
            rw [rst_size] at hm
            exact gap_join a b k _ q (by omega) (by omega) hg
          · rw [if_neg ho, Prod.mk.injEq] at hg
            cases hg.2
        · rw [gapA_stop a p hlt hb hr, Prod.mk.injEq] at hg
          obtain ⟨rfl, _⟩ := hg
          exact ⟨fun _ => gapA_stop _ _ hls (by rw [hbt]; exact hb) (by rw [hbt]; exact hr), fun h => by omega⟩
      · rw [gapA_blank a p hlt hb] at hg
        rw [gapA_blank (joinT a b) p hls (by rw [hbt]; exact hb)]
        exact gap_join a b k (p + 1) q (by omega) (by omega) hg
theorem word_edge {t : ByteArray} (ho : (wordV t).ok = true) (hc : smallB (bt t 0) = true ∨ digB (bt t 0) = true ∨ bt t 0 = 85) : edgeB t (wordV t).n = true := by
  unfold wordV at ho ⊢
  split at ho
  · rename_i hs; rw [if_pos hs]; exact ho
  · rename_i hs
    rw [if_neg hs]
    split at ho
    · rename_i hd; rw [if_pos hd]; exact ho
    · rename_i hd
      rw [if_neg hd]
      split at ho
      · rename_i hu; rw [if_pos hu]; exact ((Bool.and_eq_true _ _).mp ho).2
      · rename_i hu
        rcases hc with h | h | h
        · exact absurd h hs
        · exact absurd h hd
        · exact absurd h hu
theorem word_join (a b : ByteArray) (p : Nat) (hp : p < a.size) (ho : (wordV (rst a p)).ok = true) : wordV (rst (joinT a b) p) = wordV (rst a p) := by
  have hz := joinT_size a b
  have hw := word_at a p hp ho
  refine word_local (by rw [rst_size]; omega) ho (by rw [rst_size]; omega) (fun i hi => ?_) (fun hc => ?_)
  · rw [rst_at _ _ _ (by omega), rst_at _ _ _ (by omega), joinT_left a b _ (by omega)]
  · right
    rw [rst_at _ _ _ (by omega)]
    have he := word_edge ho hc
    unfold edgeB at he
    rw [rst_size, rst_at _ _ _ (by omega)] at he
    by_cases e : p + (wordV (rst a p)).n = a.size
    · rw [e, joinT_mid]; rfl
    · rw [joinT_left a b _ (by omega)]
      rw [decide_eq_false (by omega), Bool.false_or] at he
      simpa using he
theorem cutP_same {s : ByteArray} {f b c : Nat} (h : gapA s b = gapA s c) : cutP s (f + 1) b = cutP s (f + 1) c := by rw [cutP, cutP, h]
theorem cutP_left (a b : ByteArray) : ∀ f p ps, p ≤ a.size → cutP a f p = some ps → ∀ g, (joinT a b).size < a.size + 1 + g → cutP (joinT a b) (f + g) p = (cutP (joinT a b) g (a.size + 1)).map (ps ++ ·)
  | 0, p, ps, hp, h, g, hg => by cases h
  | f + 1, p, ps, hp, h, g, hg => by
    have hz := joinT_size a b
    have hq := gapA_le a p hp
    cases h1 : (gapA a p).2
    · rw [cutP_bad h1] at h; cases h
    · have hj := gap_join a b a.size p (gapA a p).1 (by omega) hp (by rw [← h1])
      by_cases he : (gapA a p).1 = a.size
      · rw [cutP_end h1 he] at h
        cases h
        rw [show f + 1 + g = f + g + 1 by omega, cutP_same (hj.2 he), cutP_fuel (joinT a b) (f + g + 1) g _ (by omega) (by omega) hg]
        cases cutP (joinT a b) g (a.size + 1) <;> rfl
      · cases h2 : (wordV (rst a (gapA a p).1)).ok
        · rw [cutP_no h1 he h2] at h; cases h
        · rw [cutP_go h1 he h2] at h
          obtain ⟨qs, h3, rfl⟩ := Option.map_eq_some_iff.1 h
          have hlt : (gapA a p).1 < a.size := by omega
          have hw := word_at a _ hlt h2
          have hs := hj.1 hlt
          have hwj := word_join a b _ hlt h2
          have ih := cutP_left a b f _ qs hw.2.1 h3 g hg
          generalize (gapA a p).1 = q at *
          have hs1 : (gapA (joinT a b) p).1 = q := by rw [hs]
          have hs2 : (gapA (joinT a b) p).2 = true := by rw [hs]
          rw [show f + 1 + g = f + g + 1 by omega, cutP_go hs2 (by rw [hs1]; omega) (by rw [hs1, hwj]; exact h2), hs1, hwj, ih]
          cases cutP (joinT a b) g (a.size + 1) <;> rfl
theorem gap_right (a b : ByteArray) (q : Nat) (hq : q ≤ b.size) : gapA (joinT a b) (a.size + 1 + q) = (a.size + 1 + (gapA b q).1, (gapA b q).2) := by
  unfold gapA
  rw [joinT_rst a b q hq, Prod.mk.injEq]
  exact ⟨by show _ = a.size + 1 + (q + _); omega, rfl⟩
theorem cutP_right (a b : ByteArray) : ∀ f q, q ≤ b.size → cutP (joinT a b) f (a.size + 1 + q) = (cutP b f q).map (List.map (a.size + 1 + ·))
  | 0, q, hq => rfl
  | f + 1, q, hq => by
    have hz := joinT_size a b
    have hg := gap_right a b q hq
    have hg1 : (gapA (joinT a b) (a.size + 1 + q)).1 = a.size + 1 + (gapA b q).1 := by rw [hg]
    have hg2 : (gapA (joinT a b) (a.size + 1 + q)).2 = (gapA b q).2 := by rw [hg]
    have hle := gapA_le b q hq
    cases h1 : (gapA b q).2
    · rw [cutP_bad h1, cutP_bad (by rw [hg2]; exact h1)]; rfl
    · by_cases he : (gapA b q).1 = b.size
      · rw [cutP_end h1 he, cutP_end (by rw [hg2]; exact h1) (by rw [hg1]; omega)]; rfl
      · have hr := joinT_rst a b (gapA b q).1 hle.2
        cases h2 : (wordV (rst b (gapA b q).1)).ok
        · rw [cutP_no h1 he h2, cutP_no (by rw [hg2]; exact h1) (by rw [hg1]; omega) (by rw [hg1, hr]; exact h2)]; rfl
        · have hw := word_at b (gapA b q).1 (by omega) h2
          rw [cutP_go h1 he h2, cutP_go (by rw [hg2]; exact h1) (by rw [hg1]; omega) (by rw [hg1, hr]; exact h2), hg1, hr, Nat.add_assoc (a.size + 1), cutP_right a b f _ hw.2.1]
          cases cutP b f ((gapA b q).1 + (wordV (rst b (gapA b q).1)).n) <;> rfl
theorem pos_join {a b : ByteArray} {ps qs : List Nat} (ha : posV a = some ps) (hb : posV b = some qs) : posV (joinT a b) = some (ps ++ qs.map (a.size + 1 + ·)) := by
  have hz := joinT_size a b
  have h1 := cutP_left a b (a.size + 1) 0 ps (Nat.zero_le _) ha (b.size + 1) (by omega)
  have h2 := cutP_right a b (b.size + 1) 0 (Nat.zero_le _)
  rw [Nat.add_zero] at h2
  unfold posV
  rw [cutP_fuel (joinT a b) _ (a.size + 1 + (b.size + 1)) 0 (Nat.zero_le _) (by omega) (by omega), h1, h2, show cutP b (b.size + 1) 0 = some qs from hb]
  rfl
theorem lcR_shift (L : Nat) : ∀ (zs : List Int) (x c : Nat), lcR (x + L, c) zs = ((lcR (x, c) zs).1 + L, (lcR (x, c) zs).2)
  | [], x, c => rfl
  | z :: zs, x, c => by
    rw [lcR_cons, lcR_cons]
    by_cases h : z = 10
    · rw [if_pos h, if_pos h]
      show lcR (x + L + 1, 1) zs = _
      rw [show x + L + 1 = x + 1 + L by omega]
      exact lcR_shift L zs (x + 1) 1
    · rw [if_neg h, if_neg h]
      exact lcR_shift L zs x (c + 1)
theorem lc_right (a b : ByteArray) (q : Nat) (hq : q ≤ b.size) : lcAt (joinT a b) (a.size + 1 + q) = ((lcAt b q).1 + (lcAt a a.size).1, (lcAt b q).2) := by
  have hz := joinT_size a b
  have hb0 : bdB (joinT a b) a.size = true := bd_ascii _ _ (by rw [joinT_mid]; decide)
  have hw : wd (joinT a b) a.size = 1 := by
    rcases Nat.lt_or_ge (wd (joinT a b) a.size) 2 with h | h
    · have := wd_pos (joinT a b) a.size; omega
    · have := wd_lead (joinT a b) a.size h; rw [joinT_mid] at this; omega
  have hs := lcAt_step (joinT a b) a.size hb0 (by omega)
  rw [hw, if_pos (joinT_mid a b), joinT_lc a b a.size (Nat.le_refl _)] at hs
  have hb1 : bdB (joinT a b) (a.size + 1) = true := bd_next _ _ (by omega) (by rw [joinT_mid]; decide)
  have hon := lcR_on (joinT a b) (a.size + 1) (a.size + 1 + q) (1, 1) (by omega) (by omega) (bd_pre _ _ _ hb1 (by omega) (by omega))
  have hx : (joinT a b).extract (a.size + 1) (a.size + 1 + q) = b.extract 0 q := by
    refine ext_get _ _ (by rw [ByteArray.size_extract, ByteArray.size_extract]; omega) (fun j hj => ?_)
    rw [ByteArray.size_extract] at hj
    unfold bt
    rw [get_extract _ _ _ _ (by omega) (by omega), get_extract b 0 q j (by omega) hq, Nat.zero_add]
    exact joinT_right a b j
  show lcR (1, 1) (runesL ((joinT a b).extract 0 (a.size + 1 + q))) = _
  rw [hon, hx]
  show lcR (lcAt (joinT a b) (a.size + 1)) _ = _
  rw [hs, show ((lcAt a a.size).1 + 1, 1) = (1 + (lcAt a a.size).1, 1) by rw [Nat.add_comm]]
  exact lcR_shift _ _ 1 1
/-- A word of the first text, and one of the second. -/
theorem mk_left {a b : ByteArray} {p : Nat} (hp : p < a.size) (ho : (wordV (rst a p)).ok = true) : mkW (joinT a b) p = mkW a p := by unfold mkW; rw [word_join a b p hp ho, joinT_lc a b p (by omega)]
theorem mk_right {a b : ByteArray} {q : Nat} (hq : q ≤ b.size) : mkW (joinT a b) (a.size + 1 + q) = ⟨(mkW b q).v, (mkW b q).b + a.size + 1, (mkW b q).l + (lcAt a a.size).1, (mkW b q).c, (mkW b q).e + a.size + 1⟩ := by
  unfold mkW
  rw [joinT_rst a b q hq, lc_right a b q hq]
  simp only [Wd.mk.injEq, true_and]
  omega
end Go.Proofs.YtbefahknbdjnpaaGreatDoor
/- A rune as it is written is one word: plain mathematics. -/
namespace Go.Proofs.YtbefahknbdjnpaaGreatDoor
open Go.RowKit Go.Shelf
set_option linter.unusedVariables false
def upD (d : Nat) : UInt8 := if d < 10 then (48 + d).toUInt8 else (55 + d).toUInt8
theorem upD_of : ∀ d, d < 16 → Lib.toUpperA [digC d] = [upD d] := by decide +kernel
theorem hexI_upD : ∀ d, d < 16 → hexI (upD d).toNat = d := by decide +kernel
theorem upD_zero : upD 0 = 48 := by decide
theorem upD_ne : ∀ d, d < 16 → d ≠ 0 → (upD d).toNat ≠ 48 := by decide +kernel
theorem toUpperA_app (a b : List UInt8) : Lib.toUpperA (a ++ b) = Lib.toUpperA a ++ Lib.toUpperA b := by simp [Lib.toUpperA]
theorem upL_small {n : Nat} (h : n < 16) : Lib.toUpperA (hexL n) = [upD n] := by rw [hexL_small h, upD_of n h]
theorem upL_step {n : Nat} (h : 16 ≤ n) : Lib.toUpperA (hexL n) = Lib.toUpperA (hexL (n / 16)) ++ [upD (n % 16)] := by rw [hexL_step h, toUpperA_app, upD_of _ (Nat.mod_lt _ (by decide))]
theorem hex4 (n : Nat) (h : n < 65536) : (⟨#[85, 43]⟩ : ByteArray) ++ ⟨(Lib.repeatL [48] (4 - (upS n).size)).toArray⟩ ++ upS n = ⟨#[85, 43, upD (n / 4096), upD (n / 256 % 16), upD (n / 16 % 16), upD (n % 16)]⟩ := by
  by_cases h1 : n < 16
  · have e : upS n = ⟨#[upD n]⟩ := by unfold upS; rw [upL_small h1]
    rw [e, show n / 4096 = 0 by omega, show n / 256 % 16 = 0 by omega, show n / 16 % 16 = 0 by omega, show n % 16 = n by omega, upD_zero]
    rfl
  by_cases h2 : n < 256
  · have e : upS n = ⟨#[upD (n / 16), upD (n % 16)]⟩ := by unfold upS; rw [upL_step (by omega), upL_small (by omega)]; rfl
    rw [e, show n / 4096 = 0 by omega, show n / 256 % 16 = 0 by omega, show n / 16 % 16 = n / 16 by omega, upD_zero]
    rfl
  by_cases h3 : n < 4096
  · have e : upS n = ⟨#[upD (n / 256), upD (n / 16 % 16), upD (n % 16)]⟩ := by unfold upS; rw [upL_step (by omega), upL_step (by omega), upL_small (by omega), show n / 16 / 16 = n / 256 by omega]; rfl
    rw [e, show n / 4096 = 0 by omega, show n / 256 % 16 = n / 256 by omega, upD_zero]
    rfl
  · have e : upS n = ⟨#[upD (n / 4096), upD (n / 256 % 16), upD (n / 16 % 16), upD (n % 16)]⟩ := by unfold upS; rw [upL_step (by omega), upL_step (by omega), upL_step (by omega), upL_small (by omega), show n / 16 / 16 / 16 = n / 4096 by omega, show n / 16 / 16 = n / 256 by omega]; rfl
    rw [e]
    rfl
theorem hex5 (n : Nat) (h0 : 65536 ≤ n) (h : n < 1048576) : (⟨#[85, 43]⟩ : ByteArray) ++ ⟨(Lib.repeatL [48] (4 - (upS n).size)).toArray⟩ ++ upS n = ⟨#[85, 43, upD (n / 65536), upD (n / 4096 % 16), upD (n / 256 % 16), upD (n / 16 % 16), upD (n % 16)]⟩ := by
  have e : upS n = ⟨#[upD (n / 65536), upD (n / 4096 % 16), upD (n / 256 % 16), upD (n / 16 % 16), upD (n % 16)]⟩ := by
    unfold upS
    rw [upL_step (by omega), upL_step (by omega), upL_step (by omega), upL_step (by omega), upL_small (by omega), show n / 16 / 16 / 16 / 16 = n / 65536 by omega, show n / 16 / 16 / 16 = n / 4096 by omega, show n / 16 / 16 = n / 256 by omega]
    rfl
  rw [e]
  rfl
theorem hex6 (n : Nat) (h0 : 1048576 ≤ n) (h : n ≤ 1114111) : (⟨#[85, 43]⟩ : ByteArray) ++ ⟨(Lib.repeatL [48] (4 - (upS n).size)).toArray⟩ ++ upS n = ⟨#[85, 43, upD (n / 1048576), upD (n / 65536 % 16), upD (n / 4096 % 16), upD (n / 256 % 16), upD (n / 16 % 16), upD (n % 16)]⟩ := by
  have e : upS n = ⟨#[upD (n / 1048576), upD (n / 65536 % 16), upD (n / 4096 % 16), upD (n / 256 % 16), upD (n / 16 % 16), upD (n % 16)]⟩ := by
    unfold upS
    rw [upL_step (by omega), upL_step (by omega), upL_step (by omega), upL_step (by omega), upL_step (by omega), upL_small (by omega), show n / 16 / 16 / 16 / 16 / 16 = n / 1048576 by omega, show n / 16 / 16 / 16 / 16 = n / 65536 by omega, show n / 16 / 16 / 16 = n / 4096 by omega, show n / 16 / 16 = n / 256 by omega]
    rfl
  rw [e]
  rfl
theorem numdGo_dig {t : ByteArray} {v n d : Nat} (hn : n < t.size) (h6 : n < 6 ∨ bt t 2 ≠ 48) (hd : d < 16) (hb : bt t n = (upD d).toNat) (hv : v * 16 + d ≤ 1114111) : numdGo t v n = numdGo t (v * 16 + d) (n + 1) := by
  have e := hexI_upD d hd
  have hx : hexI (bt t n) = d := by rw [hb]; exact e
  have := numdGo_go (t := t) (v := v) (n := n) ⟨hn, h6, by omega, by omega⟩
  rw [this, hx]
  rfl
theorem numdV_mk {t : ByteArray} {n : Nat} (h1 : bt t 1 = 43) (hs : 6 ≤ t.size) (hg : numdGo t 0 2 = (n, t.size)) (hw : widthOf (n : Int) ≠ 0) : numdV t = (n, t.size, true) := by
  unfold numdV
  rw [if_neg (by omega), hg, if_neg (fun q => q.elim (fun q => absurd q (by show ¬ t.size < 6; omega)) (fun q => hw q))]
theorem numdV_4 (n : Nat) (h : n < 65536) (hw : widthOf (n : Int) ≠ 0) : numdV ⟨#[85, 43, upD (n / 4096), upD (n / 256 % 16), upD (n / 16 % 16), upD (n % 16)]⟩ = (n, 6, true) := by
  refine numdV_mk (by rfl) (by show 6 ≤ 6; decide) ?_ hw
  rw [numdGo_dig (d := n / 4096) (by show 2 < 6; decide) (.inl (by decide)) (by omega) rfl (by omega), numdGo_dig (d := n / 256 % 16) (by show 3 < 6; decide) (.inl (by decide)) (by omega) rfl (by omega), numdGo_dig (d := n / 16 % 16) (by show 4 < 6; decide) (.inl (by decide)) (by omega) rfl (by omega), numdGo_dig (d := n % 16) (by show 5 < 6; decide) (.inl (by decide)) (by omega) rfl (by omega), numdGo_stop (by intro q; exact absurd q.1 (by show ¬ 6 < 6; decide))]
  rw [Prod.mk.injEq]
  exact ⟨by omega, rfl⟩
theorem numdV_5 (n : Nat) (h0 : 65536 ≤ n) (h : n < 1048576) (hw : widthOf (n : Int) ≠ 0) : numdV ⟨#[85, 43, upD (n / 65536), upD (n / 4096 % 16), upD (n / 256 % 16), upD (n / 16 % 16), upD (n % 16)]⟩ = (n, 7, true) := by
  refine numdV_mk (by rfl) (by show 6 ≤ 7; decide) ?_ hw
  have hz : bt ⟨#[85, 43, upD (n / 65536), upD (n / 4096 % 16), upD (n / 256 % 16), upD (n / 16 % 16), upD (n % 16)]⟩ 2 ≠ 48 := upD_ne (n / 65536) (by omega) (by omega)
  rw [numdGo_dig (d := n / 65536) (by show 2 < 7; decide) (.inl (by decide)) (by omega) rfl (by omega), numdGo_dig (d := n / 4096 % 16) (by show 3 < 7; decide) (.inl (by decide)) (by omega) rfl (by omega), numdGo_dig (d := n / 256 % 16) (by show 4 < 7; decide) (.inl (by decide)) (by omega) rfl (by omega), numdGo_dig (d := n / 16 % 16) (by show 5 < 7; decide) (.inl (by decide)) (by omega) rfl (by omega), numdGo_dig (d := n % 16) (by show 6 < 7; decide) (.inr hz) (by omega) rfl (by omega), numdGo_stop (by intro q; exact absurd q.1 (by show ¬ 7 < 7; decide))]
  rw [Prod.mk.injEq]
  exact ⟨by omega, rfl⟩
theorem numdV_6 (n : Nat) (h0 : 1048576 ≤ n) (h : n ≤ 1114111) (hw : widthOf (n : Int) ≠ 0) : numdV ⟨#[85, 43, upD (n / 1048576), upD (n / 65536 % 16), upD (n / 4096 % 16), upD (n / 256 % 16), upD (n / 16 % 16), upD (n % 16)]⟩ = (n, 8, true) := by
  refine numdV_mk (by rfl) (by show 6 ≤ 8; decide) ?_ hw
  have hz : bt ⟨#[85, 43, upD (n / 1048576), upD (n / 65536 % 16), upD (n / 4096 % 16), upD (n / 256 % 16), upD (n / 16 % 16), upD (n % 16)]⟩ 2 ≠ 48 := upD_ne (n / 1048576) (by omega) (by omega)
  rw [numdGo_dig (d := n / 1048576) (by show 2 < 8; decide) (.inl (by decide)) (by omega) rfl (by omega), numdGo_dig (d := n / 65536 % 16) (by show 3 < 8; decide) (.inl (by decide)) (by omega) rfl (by omega), numdGo_dig (d := n / 4096 % 16) (by show 4 < 8; decide) (.inl (by decide)) (by omega) rfl (by omega), numdGo_dig (d := n / 256 % 16) (by show 5 < 8; decide) (.inl (by decide)) (by omega) rfl (by omega), numdGo_dig (d := n / 16 % 16) (by show 6 < 8; decide) (.inr hz) (by omega) rfl (by omega), numdGo_dig (d := n % 16) (by show 7 < 8; decide) (.inr hz) (by omega) rfl (by omega), numdGo_stop (by intro q; exact absurd q.1 (by show ¬ 8 < 8; decide))]
  rw [Prod.mk.injEq]
  exact ⟨by omega, rfl⟩
/-- What a text says that is one word. -/
structure OneRune (s : ByteArray) (n : Nat) : Prop where
  pos : 0 < s.size
  small : s.size ≤ 262144
  ok : (wordsV s).ok = true
  ws : (wordsV s).ws = [⟨⟨3, ByteArray.empty, n, 0, s.size, true⟩, 0, 1, 1, s.size⟩]
theorem rst_zero (s : ByteArray) : rst s 0 = s := ByteArray.extract_zero_size
theorem rst_end (s : ByteArray) : rst s s.size = ByteArray.empty := by
  have : (rst s s.size).size = 0 := by rw [rst_size]; omega
  exact toList_nil _ this
theorem gapV_none {t : ByteArray} (h : 0 < t.size) (hb : blankB (bt t 0) = false) (hr : bt t 0 ≠ 35) : gapV t = (0, true) := by
  unfold gapV
  obtain ⟨k, hk⟩ : ∃ k, t.size = k + 1 := ⟨t.size - 1, by omega⟩
  rw [hk]
  unfold gapGo
  rw [if_pos (by omega), if_neg (by rw [hb]; decide), if_neg hr]
theorem gapV_empty : gapV ByteArray.empty = (0, true) := rfl
theorem lcB_zero (t : ByteArray) (x : Nat × Nat) : lcB t x 0 = x := by
  unfold lcB
  have : t.extract 0 0 = ByteArray.empty := toList_nil _ (by rw [ByteArray.size_extract]; omega)
  rw [this]
  rfl
theorem words_one {s : ByteArray} {v : WV} (h : 0 < s.size) (hb : blankB (bt s 0) = false) (hr : bt s 0 ≠ 35) (hv : wordV s = v) (hok : v.ok = true) (hn : v.n = s.size) : (wordsV s).ok = true ∧ (wordsV s).ws = [⟨v, 0, 1, 1, s.size⟩] := by
  have hg := gapV_none h hb hr
  obtain ⟨k, hk⟩ : ∃ k, s.size = k + 1 := ⟨s.size - 1, by omega⟩
  have e1 : gB s 0 = 0 := by unfold gB; rw [rst_zero, hg]; rfl
  have e2 : gLC s 0 (1, 1) = (1, 1) := by unfold gLC; rw [rst_zero, hg, lcB_zero]
  have e3 : gapV (rst s s.size) = (0, true) := by rw [rst_end]; rfl
  have e4 : gB s s.size = s.size := by unfold gB; rw [e3]; rfl
  have hw : wordsV s = cutGo s s.size s.size (lcB s (1, 1) s.size) [⟨v, 0, 1, 1, s.size⟩] := by
    unfold wordsV
    rw [cutGo.eq_2, if_neg (by rw [rst_zero, hg]; decide), e1, rst_zero, if_neg (by omega), hv, if_neg (by rw [hok]; decide), e2, hn, Nat.zero_add]
    rfl
  rw [hw]
  have hz : (rst s s.size).size = 0 := by rw [rst_size]; omega
  generalize lcB s (1, 1) s.size = L
  have : cutGo s s.size s.size L [⟨v, 0, 1, 1, s.size⟩] = ⟨true, gB s s.size, gLC s s.size L, [⟨v, 0, 1, 1, s.size⟩]⟩ := by
    have hf : ∀ f, f = k + 1 → cutGo s f s.size L [⟨v, 0, 1, 1, s.size⟩] = ⟨true, gB s s.size, gLC s s.size L, [⟨v, 0, 1, 1, s.size⟩]⟩ := fun f hf => by
      subst hf
      rw [cutGo.eq_2, if_neg (by rw [e3]; decide), if_pos (by rw [e4]; exact hz)]
    exact hf _ hk
  rw [this]
  exact ⟨rfl, rfl⟩
theorem one_numbered {s : ByteArray} {n : Nat} (h0 : bt s 0 = 85) (hs : 0 < s.size) (hb : s.size ≤ 262144) (hv : numdV s = (n, s.size, true)) : OneRune s n := by
  have hw : wordV s = ⟨3, ByteArray.empty, n, 0, s.size, true⟩ := by
    unfold wordV
    rw [h0, if_neg (by decide), if_neg (by decide), if_pos rfl, hv]
    simp [edgeB]
  obtain ⟨a, b⟩ := words_one hs (by rw [h0]; decide) (by rw [h0]; decide) hw rfl rfl
  exact ⟨hs, hb, a, b⟩
/-- A rune between two quotes. -/
def quoS (r : Int) : ByteArray := ⟨#[39]⟩ ++ Utf8.encode r ++ ⟨#[39]⟩
theorem enc_size {r : Int} (h : widthOf r ≠ 0) : 1 ≤ (Utf8.encode r).size ∧ (Utf8.encode r).size ≤ 4 := by
  have := (decode_enc h).2
  unfold widthOf at this h
  repeat' split at this
  all_goals first | (exfalso; omega) | omega | simp_all
theorem quoS_size {r : Int} (h : widthOf r ≠ 0) : (quoS r).size = (Utf8.encode r).size + 2 := by
  unfold quoS
  rw [ByteArray.size_append, ByteArray.size_append]
  show 1 + _ + 1 = _
  omega
theorem one_quoted {r : Int} (h : widthOf r ≠ 0) (h32 : 32 ≤ r) (h39 : r ≠ 39) (h127 : r ≠ 127) : OneRune (quoS r) r.toNat := by
  have hz := quoS_size h
  have he := enc_size h
  obtain ⟨hd, hw⟩ := decode_enc h
  have ha : quoS r = ⟨#[39]⟩ ++ (Utf8.encode r ++ ⟨#[39]⟩) := by unfold quoS; rw [ByteArray.append_assoc]
  have h0 : bt (quoS r) 0 = 39 := by rw [ha, bt_left _ _ 0 (by decide)]; rfl
  have ht : tl1 (quoS r) = Utf8.encode r ++ ⟨#[39]⟩ := by
    unfold tl1
    refine ext_get _ _ ?_ ?_
    · rw [ByteArray.size_extract, hz, ByteArray.size_append]
      show min _ _ - 1 = _ + 1
      omega
    · intro j hj
      rw [ByteArray.size_extract] at hj
      unfold bt
      rw [get_suffix _ _ _ (by omega), ha]
      have := bt_right ⟨#[39]⟩ (Utf8.encode r ++ ⟨#[39]⟩) j
      unfold bt at this
      exact this
  have hb := (starts_enc h).2.1
  have hg : ¬ (rn (Utf8.encode r) 0 = 65533 ∧ wd (Utf8.encode r) 0 = 1) := by simpa [badB] using hb
  have hd0 : Utf8.decode (Utf8.encode r ++ ⟨#[39]⟩) 0 = (r.toNat, (Utf8.encode r).size) := by rw [decode_grow _ _ 0 (by omega) hg, hd]
  have hd1 : Utf8.decode (Utf8.encode r ++ ⟨#[39]⟩) (Utf8.encode r).size = (39, 1) := by have := decode_behind (Utf8.encode r) ⟨#[39]⟩ 0; rw [Nat.add_zero] at this; rw [this]; rfl
  have hsz : (Utf8.encode r ++ (⟨#[39]⟩ : ByteArray)).size = (Utf8.encode r).size + 1 := by rw [ByteArray.size_append]; rfl
  have hq : quoV (quoS r) = (r.toNat, (quoS r).size, true) := by
    unfold quoV
    rw [ht]
    simp only [rn, wd, hd0, hd1]
    have hwb : wholeB (Utf8.encode r ++ ⟨#[39]⟩) = true := by
      unfold wholeB badB
      simp only [rn, wd, hd0]
      rw [decide_eq_true (by omega), decide_eq_false (by simpa [rn, wd, hd] using hg)]
      rfl
    rw [if_neg (by omega), if_neg (by omega), if_neg (by rw [hwb]; decide), if_neg (by omega), if_pos (by trivial), hz]
  have hv : wordV (quoS r) = ⟨3, ByteArray.empty, r.toNat, 0, (quoS r).size, true⟩ := by
    unfold wordV
    rw [h0, if_neg (by decide), if_neg (by decide), if_neg (by decide), if_pos rfl, hq]
  obtain ⟨a, b⟩ := words_one (by omega) (by rw [h0]; decide) (by rw [h0]; decide) hv rfl rfl
  exact ⟨by omega, by omega, a, b⟩
/-- A rune as it is written. -/
theorem one_text {r : Int} (h : widthOf r ≠ 0) : OneRune (textV r).1 r.toNat ∧ (textV r).2 = 0 := by
  have hb := width_bound r h
  by_cases hq : 33 ≤ r ∧ r ≤ 126 ∧ r ≠ 39
  · have e : textV r = (quoS r, 0) := by unfold textV quoS; rw [if_neg h, if_pos hq]
    rw [e]
    exact ⟨one_quoted h (by omega) hq.2.2 (by omega), rfl⟩
  · obtain ⟨n, rfl⟩ : ∃ n : Nat, r = n := ⟨r.toNat, by omega⟩
    have e : textV (n : Int) = (⟨#[85, 43]⟩ ++ ⟨(Lib.repeatL [48] (4 - (upS n).size)).toArray⟩ ++ upS n, 0) := by unfold textV; rw [if_neg h, if_neg hq, Int.toNat_natCast]
    rw [e, Int.toNat_natCast]
    refine ⟨?_, rfl⟩
    by_cases h4 : n < 65536
    · show OneRune (⟨#[85, 43]⟩ ++ ⟨(Lib.repeatL [48] (4 - (upS n).size)).toArray⟩ ++ upS n) n
      rw [hex4 n h4]
      exact one_numbered rfl (by show 0 < 6; decide) (by show 6 ≤ 262144; decide) (numdV_4 n h4 h)
    · by_cases h5 : n < 1048576
      · show OneRune (⟨#[85, 43]⟩ ++ ⟨(Lib.repeatL [48] (4 - (upS n).size)).toArray⟩ ++ upS n) n
        rw [hex5 n (by omega) h5]
        exact one_numbered rfl (by show 0 < 7; decide) (by show 7 ≤ 262144; decide) (numdV_5 n (by omega) h5 h)
      · show OneRune (⟨#[85, 43]⟩ ++ ⟨(Lib.repeatL [48] (4 - (upS n).size)).toArray⟩ ++ upS n) n
        rw [hex6 n (by omega) (by omega)]
        exact one_numbered rfl (by show 0 < 8; decide) (by show 8 ≤ 262144; decide) (numdV_6 n (by omega) (by omega) h)
end Go.Proofs.YtbefahknbdjnpaaGreatDoor
/- Names and written runes, as the reference reads them: plain mathematics. -/
namespace Go.Proofs.YtbefahknbdjnpaaGreatDoor
open Go.RowKit Go.Shelf
set_option linter.unusedVariables false
theorem small_first {c : Nat} (h : smallB c = true) : blankB c = false ∧ c ≠ 35 := by
  have := smallB_iff.1 h
  refine ⟨?_, by omega⟩
  unfold blankB
  exact decide_eq_false (by omega)
theorem wordV_small {t : ByteArray} (h : smallB (bt t 0) = true) : wordV t = ⟨1, t.extract 0 (nameLen t), 0, 0, nameLen t, edgeB t (nameLen t)⟩ := by unfold wordV; rw [if_pos h]
theorem sgn_kind (t : ByteArray) : (sgnV t).1 ≠ 1 := by
  unfold sgnV
  repeat' split
  all_goals (show (_ : Nat) ≠ 1; decide)
theorem wordV_one {t : ByteArray} (h : (wordV t).kind = 1) : smallB (bt t 0) = true := by
  cases hs : smallB (bt t 0)
  · exfalso
    unfold wordV at h
    rw [hs, if_neg (by decide)] at h
    split at h
    · cases h
    · split at h
      · cases h
      · split at h
        · cases h
        · exact sgn_kind t h
  · rfl
/-- A name is a text whose only word it is. -/
def legR (s : ByteArray) : Prop := (wordsV s).ok = true ∧ ∃ x, (wordsV s).ws = [x] ∧ x.v.kind = 1 ∧ x.b = 0 ∧ x.e = s.size
theorem legal_words (s : ByteArray) : legalB s = true ↔ legR s := by
  unfold legalB
  rw [decide_eq_true_iff]
  constructor
  · rintro ⟨h0, hn⟩
    have hs : smallB (bt s 0) = true := by
      cases q : smallB (bt s 0)
      · unfold nameLen at hn; rw [if_pos (.inr q)] at hn; omega
      · rfl
    have hf := small_first hs
    have hv := wordV_small hs
    have hok : edgeB s (nameLen s) = true := by unfold edgeB; rw [decide_eq_true hn]; rfl
    obtain ⟨h1, h2⟩ := words_one h0 hf.1 hf.2 hv hok hn
    exact ⟨h1, _, h2, rfl, rfl, rfl⟩
  · rintro ⟨ho, x, hx, hk, hb, he⟩
    have hp := (words_places s).1 x (by rw [hx]; exact List.mem_singleton.2 rfl)
    have hv := hp.v
    rw [hb, rst_zero] at hv
    have hs := wordV_one (t := s) (by rw [← hv]; exact hk)
    have h1 := hp.e
    rw [hv, wordV_small hs, hb, he] at h1
    have h2 := hp.lt
    refine ⟨by omega, ?_⟩
    have : s.size = 0 + nameLen s := h1
    omega
/-- The last j digits of a number. -/
def digs (n : Nat) : Nat → List UInt8
  | 0 => []
  | j + 1 => upD (n / 16 ^ j % 16) :: digs n j
theorem digs_length (n : Nat) : ∀ j, (digs n j).length = j
  | 0 => rfl
  | j + 1 => by show (digs n j).length + 1 = _; rw [digs_length n j]
def digB8 (n j : Nat) : ByteArray := ⟨(digs n j).toArray⟩
theorem digB8_size (n j : Nat) : (digB8 n j).size = j := by show (digs n j).toArray.size = j; rw [List.size_toArray, digs_length]
theorem digB8_step (n j : Nat) : (⟨#[upD (n / 16 ^ j % 16)]⟩ : ByteArray) ++ digB8 n j = digB8 n (j + 1) := by
  apply ByteArray.ext
  rw [ByteArray.data_append]
  show #[_] ++ (digs n j).toArray = (upD (n / 16 ^ j % 16) :: digs n j).toArray
  simp
/-- How a rune is written, by its digits. -/
theorem text_digs (n j : Nat) (hn : n ≤ 1114111) (h4 : 4 ≤ j) (hj : n / 16 ^ j = 0) (hl : j = 4 ∨ n / 16 ^ (j - 1) ≠ 0) : (⟨#[85, 43]⟩ : ByteArray) ++ digB8 n j = (⟨#[85, 43]⟩ : ByteArray) ++ ⟨(Lib.repeatL [48] (4 - (upS n).size)).toArray⟩ ++ upS n := by
  have hj6 : j ≤ 6 := by
    rcases hl with h | h
    · omega
    · rcases Nat.lt_or_ge j 7 with q | q
      · omega
      · exfalso
        apply h
        apply Nat.div_eq_of_lt
        have : 16 ^ 6 ≤ 16 ^ (j - 1) := Nat.pow_le_pow_right (by decide) (by omega)
        omega
  have hc : j = 4 ∨ j = 5 ∨ j = 6 := by omega
  have lt_of : ∀ m, 0 < m → n / m = 0 → n < m := fun m hm h => by
    rcases Nat.lt_or_ge n m with q | q
    · exact q
    · have := Nat.div_pos q hm; omega
  rcases hc with rfl | rfl | rfl
  · have h1 := lt_of 65536 (by decide) hj
    rw [hex4 n h1]
    apply ByteArray.ext
    rw [ByteArray.data_append]
    show #[85, 43] ++ (digs n 4).toArray = _
    simp only [digs, Nat.pow_zero, Nat.div_one, Nat.reducePow]
    rw [Nat.mod_eq_of_lt (a := n / 4096) (by omega)]
    rfl
  · have h1 := lt_of 1048576 (by decide) hj
    have h0 : 65536 ≤ n := by
      rcases hl with h | h
      · omega
      · rcases Nat.lt_or_ge n 65536 with q | q
        · exact absurd (Nat.div_eq_of_lt q) h
        · exact q
    rw [hex5 n h0 h1]
    apply ByteArray.ext
    rw [ByteArray.data_append]
    show #[85, 43] ++ (digs n 5).toArray = _
    simp only [digs, Nat.pow_zero, Nat.div_one, Nat.reducePow]
    rw [Nat.mod_eq_of_lt (a := n / 65536) (by omega)]
    rfl
  · have h0 : 1048576 ≤ n := by
      rcases hl with h | h
      · omega
      · rcases Nat.lt_or_ge n 1048576 with q | q
        · exact absurd (Nat.div_eq_of_lt q) h
        · exact q
    rw [hex6 n h0 hn]
    apply ByteArray.ext
    rw [ByteArray.data_append]
    show #[85, 43] ++ (digs n 6).toArray = _
    simp only [digs, Nat.pow_zero, Nat.div_one, Nat.reducePow]
    rw [Nat.mod_eq_of_lt (a := n / 1048576) (by omega)]
    rfl
def hexS : ByteArray := ⟨#[48, 49, 50, 51, 52, 53, 54, 55, 56, 57, 65, 66, 67, 68, 69, 70]⟩
theorem hexS_one : ∀ d, d < 16 → hexS.extract d (d + 1) = ⟨#[upD d]⟩ := by decide +kernel
end Go.Proofs.YtbefahknbdjnpaaGreatDoor
/- Words that stand one behind the other, a blank behind each: plain mathematics. -/
namespace Go.Proofs.YtbefahknbdjnpaaGreatDoor
open Go.RowKit Go.Shelf
set_option linter.unusedVariables false
/-- A text that is one word. -/
structure One (w : ByteArray) (v : WV) : Prop where
  pos : 0 < w.size
  eq : wordV w = v
  ok : v.ok = true
  n : v.n = w.size
def sepB : List (ByteArray × UInt8) → ByteArray
  | [] => ByteArray.empty
  | x :: l => x.1 ++ ((⟨#[x.2]⟩ : ByteArray) ++ sepB l)
def places (b : Nat) : List (ByteArray × UInt8) → List Nat
  | [] => []
  | x :: l => b :: places (b + x.1.size + 1) l
def OnesL : List (ByteArray × UInt8) → List WV → Prop
  | [], [] => True
  | x :: l, v :: vs => One x.1 v ∧ blankB x.2.toNat = true ∧ OnesL l vs
  | _, _ => False
theorem onesL_app : ∀ {l1 : List (ByteArray × UInt8)} {v1 : List WV} {l2 : List (ByteArray × UInt8)} {v2 : List WV}, OnesL l1 v1 → OnesL l2 v2 → OnesL (l1 ++ l2) (v1 ++ v2)
  | [], [], l2, v2, _, h => h
  | x :: l1, v :: v1, l2, v2, h1, h => ⟨h1.1, h1.2.1, onesL_app h1.2.2 h⟩
  | [], v :: v1, l2, v2, h1, h => h1.elim
  | x :: l1, [], l2, v2, h1, h => h1.elim
theorem onesL_len : ∀ {l : List (ByteArray × UInt8)} {vs : List WV}, OnesL l vs → l.length = vs.length
  | [], [], _ => rfl
  | x :: l, v :: vs, h => by rw [List.length_cons, List.length_cons, onesL_len h.2.2]
  | [], v :: vs, h => h.elim
  | x :: l, [], h => h.elim
theorem places_len : ∀ (l : List (ByteArray × UInt8)) (b : Nat), (places b l).length = l.length
  | [], b => rfl
  | x :: l, b => by show _ + 1 = _ + 1; rw [places_len l]
theorem blank_stk {c : Nat} (h : blankB c = true) : stkB c = false := by
  have : c = 9 ∨ c = 10 ∨ c = 13 ∨ c = 32 := by unfold blankB at h; exact of_decide_eq_true h
  rcases this with rfl | rfl | rfl | rfl <;> rfl
theorem rst_app {s w R : ByteArray} {b : Nat} (hb : b ≤ s.size) (h : rst s b = w ++ R) : rst s (b + w.size) = R ∧ b + w.size + R.size = s.size := by
  have hz : (rst s b).size = w.size + R.size := by rw [h, ByteArray.size_append]
  rw [rst_size] at hz
  have hl : b + w.size ≤ s.size := by omega
  refine ⟨ext_get _ _ (by rw [rst_size]; omega) (fun j hj => ?_), by omega⟩
  rw [rst_at s _ j hl, Nat.add_assoc, ← rst_at s b _ hb, h, bt_right]
theorem cut_sep (s : ByteArray) : ∀ (l : List (ByteArray × UInt8)) (vs : List WV) (b : Nat), b ≤ s.size → rst s b = sepB l → OnesL l vs → ∀ f, l.length < f → cutP s f b = some (places b l) ∧ (places b l).map (fun q => wordV (rst s q)) = vs
  | [], [], b, hb, h, _, f, hf => by
    obtain ⟨g, rfl⟩ : ∃ g, f = g + 1 := ⟨f - 1, by have : ([] : List (ByteArray × UInt8)).length = 0 := rfl; omega⟩
    have hz : (rst s b).size = 0 := by rw [h]; rfl
    rw [rst_size] at hz
    have hg : gapA s b = (b, true) := by unfold gapA; rw [h]; rfl
    refine ⟨?_, rfl⟩
    rw [cutP_end (by rw [hg]) (by rw [hg]; show b = s.size; omega)]
    rfl
  | x :: l, v :: vs, b, hb, h, ho, f, hf => by
    obtain ⟨w, c⟩ := x
    obtain ⟨h1, h2, h3⟩ := ho
    have h2' : blankB c.toNat = true := h2
    have hlen : (List.length ((w, c) :: l)) = l.length + 1 := rfl
    obtain ⟨g, rfl⟩ : ∃ g, f = g + 2 := ⟨f - 2, by omega⟩
    have h' : rst s b = w ++ ((⟨#[c]⟩ : ByteArray) ++ sepB l) := h
    obtain ⟨hr1, hz1⟩ := rst_app hb h'
    have hb1 : b + w.size ≤ s.size := by omega
    obtain ⟨hr2, hz2⟩ := rst_app hb1 hr1
    have hc1 : (⟨#[c]⟩ : ByteArray).size = 1 := rfl
    rw [hc1] at hr2 hz2
    have hp := h1.pos
    have hn := h1.n
    have hok : (wordV w).ok = true := by rw [h1.eq]; exact h1.ok
    have hnw : (wordV w).n = w.size := by rw [h1.eq]; exact hn
    have hbl : bt s (b + w.size) = c.toNat := by
      have := rst_at s (b + w.size) 0 hb1
      rw [hr1] at this
      rw [← Nat.add_zero (b + w.size), ← this]
      rfl
    have hv : wordV (rst s b) = v := by
      rw [← h1.eq]
      refine word_local h1.pos hok (by rw [hnw, rst_size]; omega) (fun i hi => ?_) (fun _ => .inr ?_)
      · have hi2 : i < w.size := by rw [← hnw]; exact hi
        rw [h', bt_left _ _ _ hi2]
      · rw [hnw, rst_at s b _ hb, hbl]; exact blank_stk h2'
    have hvo : (wordV (rst s b)).ok = true := by rw [hv]; exact h1.ok
    have hwa := word_at s b (by omega) hvo
    have hg : gapA s b = (b, true) := gapA_stop s b (by omega) hwa.2.2.2.2.1 hwa.2.2.2.2.2
    have ih := cut_sep s l vs (b + w.size + 1) (by omega) hr2 h3 (g + 1) (by omega)
    have hstep : cutP s (g + 1) (b + w.size) = cutP s (g + 1) (b + w.size + 1) := cutP_same (gapA_blank s _ (by omega) (by rw [hbl]; exact h2'))
    refine ⟨?_, ?_⟩
    · rw [cutP_go (by rw [hg]) (by rw [hg]; show b ≠ s.size; omega) (by rw [hg]; exact hvo)]
      rw [hg]
      show Option.map (fun q => b :: q) (cutP s (g + 1) (b + (wordV (rst s b)).n)) = _
      rw [hv, hn, hstep, ih.1]
      rfl
    · show wordV (rst s b) :: (places (b + w.size + 1) l).map (fun q => wordV (rst s q)) = v :: vs
      rw [hv, ih.2]
  | [], v :: vs, b, hb, h, ho, f, hf => ho.elim
  | x :: l, [], b, hb, h, ho, f, hf => ho.elim
theorem words_sep {l : List (ByteArray × UInt8)} {vs : List WV} (h : OnesL l vs) : (wordsV (sepB l)).ok = true ∧ (wordsV (sepB l)).ws = (places 0 l).map (mkW (sepB l)) ∧ (places 0 l).map (fun q => wordV (rst (sepB l) q)) = vs := by
  have h1 := cut_sep (sepB l) l vs 0 (Nat.zero_le _) (rst_zero _) h ((sepB l).size + 1 + l.length) (by omega)
  have h2 : posV (sepB l) = some (places 0 l) := by
    unfold posV
    rw [cutP_fuel (sepB l) _ ((sepB l).size + 1 + l.length) 0 (Nat.zero_le _) (by omega) (by omega), h1.1]
  have h3 := words_pos h2
  exact ⟨h3.1, h3.2, h1.2⟩
theorem places_at {s : ByteArray} : ∀ (l : List (ByteArray × UInt8)) (b : Nat), b ≤ s.size → rst s b = sepB l → ∀ (i : Nat) (x : ByteArray × UInt8), l[i]? = some x → ∃ q, (places b l)[i]? = some q ∧ b ≤ q ∧ q + x.1.size + 1 ≤ s.size ∧ s.extract q (q + x.1.size) = x.1
  | [], b, hb, h, i, x, hx => by cases i <;> cases hx
  | y :: l, b, hb, h, i, x, hx => by
    have h' : rst s b = y.1 ++ ((⟨#[y.2]⟩ : ByteArray) ++ sepB l) := h
    obtain ⟨hr1, hz1⟩ := rst_app hb h'
    have hb1 : b + y.1.size ≤ s.size := by omega
    obtain ⟨hr2, hz2⟩ := rst_app hb1 hr1
    have hc1 : (⟨#[y.2]⟩ : ByteArray).size = 1 := rfl
    rw [hc1] at hr2 hz2
    cases i with
    | zero =>
      obtain rfl : y = x := by injection hx
      refine ⟨b, rfl, Nat.le_refl _, by omega, ext_get _ _ (by rw [ByteArray.size_extract]; omega) (fun j hj => ?_)⟩
      rw [ByteArray.size_extract] at hj
      have e1 : bt (s.extract b (b + y.1.size)) j = bt s (b + j) := by unfold bt; rw [get_extract _ _ _ _ (by omega) (by omega)]
      rw [e1, ← rst_at s b j hb, h', bt_left _ _ _ (by omega)]
    | succ i =>
      obtain ⟨q, h1, h2, h3, h4⟩ := places_at l (b + y.1.size + 1) (by omega) hr2 i x hx
      exact ⟨q, h1, by omega, h3, h4⟩
end Go.Proofs.YtbefahknbdjnpaaGreatDoor
