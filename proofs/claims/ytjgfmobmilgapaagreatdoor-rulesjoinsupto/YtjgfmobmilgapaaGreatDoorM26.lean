/- Texts of this claim, one behind the other. -/
import Derived.Test.YtjgfmobmilgapaaGreatDoorM10
import Derived.Test.YtjgfmobmilgapaaGreatDoorM8
import Derived.Test.YtjgfmobmilgapaaGreatDoorM23
import Derived.Test.YtjgfmobmilgapaaGreatDoorM24
import Derived.Test.YtjgfmobmilgapaaGreatDoorM17
import Derived.Test.YtjgfmobmilgapaaGreatDoorM25
/- A rune as it is written is one word: plain mathematics. -/
namespace Go.Proofs.YtjgfmobmilgapaaGreatDoor
open Go.RowKit Go.Shelf
set_option linter.unusedVariables false
def upD (d : Nat) : UInt8 := if d < 10 then (48 + d).toUInt8 else (55 + d).toUInt8
theorem upD_of : ∀ d, d < 16 → Lib.toUpperA [digC d] = [upD d] := by decide +kernel
theorem hexI_upD : ∀ d, d < 16 → hexI (upD d).toNat = d := by decide +kernel
theorem upD_zero : upD 0 = 48 := by decide
theorem upD_ne : ∀ d, d < 16 → d ≠ 0 → (upD d).toNat ≠ 48 := by decide +kernel
theorem toUpperA_app (a b : List UInt8) : Lib.toUpperA (a ++ b) = Lib.toUpperA a ++ Lib.toUpperA b := by simp [Lib.toUpperA]
theorem upL_small {n : Nat} (h : n < 16) : Lib.toUpperA (hexL n) = [upD n] := by rw [hexL_small h, upD_of n h]
theorem upL_step {n : Nat} (h : 16 ≤ n) : Lib.toUpperA (hexL n) = Lib.toUpperA (hexL (n / 16)) ++ [upD (n % 16)] := by rw [hexL_step h, toUpperA_app, upD_of _ (Nat.mod_lt _ (by decide))]
theorem hex4 (n : Nat) (h : n < 65536) : (⟨#[85, 43]⟩ : ByteArray) ++ ⟨(Lib.repeatL [48] (4 - (upS n).size)).toArray⟩ ++ upS n = ⟨#[85, 43, upD (n / 4096), upD (n / 256 % 16), upD (n / 16 % 16), upD (n % 16)]⟩ := by
  by_cases h1 : n < 16
  · have e : upS n = ⟨#[upD n]⟩ := by unfold upS; rw [upL_small h1]
    rw [e, show n / 4096 = 0 by omega, show n / 256 % 16 = 0 by omega, show n / 16 % 16 = 0 by omega, show n % 16 = n by omega, upD_zero]
    rfl
  by_cases h2 : n < 256
  · have e : upS n = ⟨#[upD (n / 16), upD (n % 16)]⟩ := by unfold upS; rw [upL_step (by omega), upL_small (by omega)]; rfl
    rw [e, show n / 4096 = 0 by omega, show n / 256 % 16 = 0 by omega, show n / 16 % 16 = n / 16 by omega, upD_zero]
    rfl
  by_cases h3 : n < 4096
  · have e : upS n = ⟨#[upD (n / 256), upD (n / 16 % 16), upD (n % 16)]⟩ := by unfold upS; rw [upL_step (by omega), upL_step (by omega), upL_small (by omega), show n / 16 / 16 = n / 256 by omega]; rfl
    rw [e, show n / 4096 = 0 by omega, show n / 256 % 16 = n / 256 by omega, upD_zero]
    rfl
  · have e : upS n = ⟨#[upD (n / 4096), upD (n / 256 % 16), upD (n / 16 % 16), upD (n % 16)]⟩ := by unfold upS; rw [upL_step (by omega), upL_step (by omega), upL_step (by omega), upL_small (by omega), show n / 16 / 16 / 16 = n / 4096 by omega, show n / 16 / 16 = n / 256 by omega]; rfl
    rw [e]
    rfl
theorem hex5 (n : Nat) (h0 : 65536 ≤ n) (h : n < 1048576) : (⟨#[85, 43]⟩ : ByteArray) ++ ⟨(Lib.repeatL [48] (4 - (upS n).size)).toArray⟩ ++ upS n = ⟨#[85, 43, upD (n / 65536), upD (n / 4096 % 16), upD (n / 256 % 16), upD (n / 16 % 16), upD (n % 16)]⟩ := by
  have e : upS n = ⟨#[upD (n / 65536), upD (n / 4096 % 16), upD (n / 256 % 16), upD (n / 16 % 16), upD (n % 16)]⟩ := by
    unfold upS
    rw [upL_step (by omega), upL_step (by omega), upL_step (by omega), upL_step (by omega), upL_small (by omega), show n / 16 / 16 / 16 / 16 = n / 65536 by omega, show n / 16 / 16 / 16 = n / 4096 by omega, show n / 16 / 16 = n / 256 by omega]
    rfl
  rw [e]
  rfl
theorem hex6 (n : Nat) (h0 : 1048576 ≤ n) (h : n ≤ 1114111) : (⟨#[85, 43]⟩ : ByteArray) ++ ⟨(Lib.repeatL [48] (4 - (upS n).size)).toArray⟩ ++ upS n = ⟨#[85, 43, upD (n / 1048576), upD (n / 65536 % 16), upD (n / 4096 % 16), upD (n / 256 % 16), upD (n / 16 % 16), upD (n % 16)]⟩ := by
  have e : upS n = ⟨#[upD (n / 1048576), upD (n / 65536 % 16), upD (n / 4096 % 16), upD (n / 256 % 16), upD (n / 16 % 16), upD (n % 16)]⟩ := by
    unfold upS
    rw [upL_step (by omega), upL_step (by omega), upL_step (by omega), upL_step (by omega), upL_step (by omega), upL_small (by omega), show n / 16 / 16 / 16 / 16 / 16 = n / 1048576 by omega, show n / 16 / 16 / 16 / 16 = n / 65536 by omega, show n / 16 / 16 / 16 = n / 4096 by omega, show n / 16 / 16 = n / 256 by omega]
    rfl
  rw [e]
  rfl
theorem numdGo_dig {t : ByteArray} {v n d : Nat} (hn : n < t.size) (h6 : n < 6 ∨ bt t 2 ≠ 48) (hd : d < 16) (hb : bt t n = (upD d).toNat) (hv : v * 16 + d ≤ 1114111) : numdGo t v n = numdGo t (v * 16 + d) (n + 1) := by
  have e := hexI_upD d hd
  have hx : hexI (bt t n) = d := by rw [hb]; exact e
  have := numdGo_go (t := t) (v := v) (n := n) ⟨hn, h6, by omega, by omega⟩
  rw [this, hx]
  rfl
theorem numdV_mk {t : ByteArray} {n : Nat} (h1 : bt t 1 = 43) (hs : 6 ≤ t.size) (hg : numdGo t 0 2 = (n, t.size)) (hw : widthOf (n : Int) ≠ 0) : numdV t = (n, t.size, true) := by
  unfold numdV
  rw [if_neg (by omega), hg, if_neg (fun q => q.elim (fun q => absurd q (by show ¬ t.size < 6; omega)) (fun q => hw q))]
theorem numdV_4 (n : Nat) (h : n < 65536) (hw : widthOf (n : Int) ≠ 0) : numdV ⟨#[85, 43, upD (n / 4096), upD (n / 256 % 16), upD (n / 16 % 16), upD (n % 16)]⟩ = (n, 6, true) := by
  refine numdV_mk (by rfl) (by show 6 ≤ 6; decide) ?_ hw
  rw [numdGo_dig (d := n / 4096) (by show 2 < 6; decide) (.inl (by decide)) (by omega) rfl (by omega), numdGo_dig (d := n / 256 % 16) (by show 3 < 6; decide) (.inl (by decide)) (by omega) rfl (by omega), numdGo_dig (d := n / 16 % 16) (by show 4 < 6; decide) (.inl (by decide)) (by omega) rfl (by omega), numdGo_dig (d := n % 16) (by show 5 < 6; decide) (.inl (by decide)) (by omega) rfl (by omega), numdGo_stop (by intro q; exact absurd q.1 (by show ¬ 6 < 6; decide))]
  rw [Prod.mk.injEq]
  exact ⟨by omega, rfl⟩
theorem numdV_5 (n : Nat) (h0 : 65536 ≤ n) (h : n < 1048576) (hw : widthOf (n : Int) ≠ 0) : numdV ⟨#[85, 43, upD (n / 65536), upD (n / 4096 % 16), upD (n / 256 % 16), upD (n / 16 % 16), upD (n % 16)]⟩ = (n, 7, true) := by
  refine numdV_mk (by rfl) (by show 6 ≤ 7; decide) ?_ hw
  have hz : bt ⟨#[85, 43, upD (n / 65536), upD (n / 4096 % 16), upD (n / 256 % 16), upD (n / 16 % 16), upD (n % 16)]⟩ 2 ≠ 48 := upD_ne (n / 65536) (by omega) (by omega)
  rw [numdGo_dig (d := n / 65536) (by show 2 < 7; decide) (.inl (by decide)) (by omega) rfl (by omega), numdGo_dig (d := n / 4096 % 16) (by show 3 < 7; decide) (.inl (by decide)) (by omega) rfl (by omega), numdGo_dig (d := n / 256 % 16) (by show 4 < 7; decide) (.inl (by decide)) (by omega) rfl (by omega), numdGo_dig (d := n / 16 % 16) (by show 5 < 7; decide) (.inl (by decide)) (by omega) rfl (by omega), numdGo_dig (d := n % 16) (by show 6 < 7; decide) (.inr hz) (by omega) rfl (by omega), numdGo_stop (by intro q; exact absurd q.1 (by show ¬ 7 < 7; decide))]
  rw [Prod.mk.injEq]
  exact ⟨by omega, rfl⟩
theorem numdV_6 (n : Nat) (h0 : 1048576 ≤ n) (h : n ≤ 1114111) (hw : widthOf (n : Int) ≠ 0) : numdV ⟨#[85, 43, upD (n / 1048576), upD (n / 65536 % 16), upD (n / 4096 % 16), upD (n / 256 % 16), upD (n / 16 % 16), upD (n % 16)]⟩ = (n, 8, true) := by
  refine numdV_mk (by rfl) (by show 6 ≤ 8; decide) ?_ hw
  have hz : bt ⟨#[85, 43, upD (n / 1048576), upD (n / 65536 % 16), upD (n / 4096 % 16), upD (n / 256 % 16), upD (n / 16 % 16), upD (n % 16)]⟩ 2 ≠ 48 := upD_ne (n / 1048576) (by omega) (by omega)
  rw [numdGo_dig (d := n / 1048576) (by show 2 < 8; decide) (.inl (by decide)) (by omega) rfl (by omega), numdGo_dig (d := n / 65536 % 16) (by show 3 < 8; decide) (.inl (by decide)) (by omega) rfl (by omega), numdGo_dig (d := n / 4096 % 16) (by show 4 < 8; decide) (.inl (by decide)) (by omega) rfl (by omega), numdGo_dig (d := n / 256 % 16) (by show 5 < 8; decide) (.inl (by decide)) (by omega) rfl (by omega), numdGo_dig (d := n / 16 % 16) (by show 6 < 8; decide) (.inr hz) (by omega) rfl (by omega), numdGo_dig (d := n % 16) (by show 7 < 8; decide) (.inr hz) (by omega) rfl (by omega), numdGo_stop (by intro q; exact absurd q.1 (by show ¬ 8 < 8; decide))]
  rw [Prod.mk.injEq]
  exact ⟨by omega, rfl⟩
structure OneRune (s : ByteArray) (n : Nat) : Prop where
  pos : 0 < s.size
  small : s.size ≤ 262144
  ok : (wordsV s).ok = true
  ws : (wordsV s).ws = [⟨⟨3, ByteArray.empty, n, 0, s.size, true⟩, 0, 1, 1, s.size⟩]
theorem rst_zero (s : ByteArray) : rst s 0 = s := ByteArray.extract_zero_size
theorem rst_end (s : ByteArray) : rst s s.size = ByteArray.empty := by
  have : (rst s s.size).size = 0 := by rw [rst_size]; omega
  exact toList_nil _ this
theorem gapV_none {t : ByteArray} (h : 0 < t.size) (hb : blankB (bt t 0) = false) (hr : bt t 0 ≠ 35) : gapV t = (0, true) := by
  unfold gapV
  obtain ⟨k, hk⟩ : ∃ k, t.size = k + 1 := ⟨t.size - 1, by omega⟩
  rw [hk]
  unfold gapGo
  rw [if_pos (by omega), if_neg (by rw [hb]; decide), if_neg hr]
theorem lcB_zero (t : ByteArray) (x : Nat × Nat) : lcB t x 0 = x := by
  unfold lcB
  have : t.extract 0 0 = ByteArray.empty := toList_nil _ (by rw [ByteArray.size_extract]; omega)
  rw [this]
  rfl
theorem words_one {s : ByteArray} {v : WV} (h : 0 < s.size) (hb : blankB (bt s 0) = false) (hr : bt s 0 ≠ 35) (hv : wordV s = v) (hok : v.ok = true) (hn : v.n = s.size) : (wordsV s).ok = true ∧ (wordsV s).ws = [⟨v, 0, 1, 1, s.size⟩] := by
  have hg := gapV_none h hb hr
  obtain ⟨k, hk⟩ : ∃ k, s.size = k + 1 := ⟨s.size - 1, by omega⟩
  have e1 : gB s 0 = 0 := by unfold gB; rw [rst_zero, hg]; rfl
  have e2 : gLC s 0 (1, 1) = (1, 1) := by unfold gLC; rw [rst_zero, hg, lcB_zero]
  have e3 : gapV (rst s s.size) = (0, true) := by rw [rst_end]; rfl
  have e4 : gB s s.size = s.size := by unfold gB; rw [e3]; rfl
  have hw : wordsV s = cutGo s s.size s.size (lcB s (1, 1) s.size) [⟨v, 0, 1, 1, s.size⟩] := by
    unfold wordsV
    rw [cutGo.eq_2, if_neg (by rw [rst_zero, hg]; decide), e1, rst_zero, if_neg (by omega), hv, if_neg (by rw [hok]; decide), e2, hn, Nat.zero_add]
    rfl
  rw [hw]
  have hz : (rst s s.size).size = 0 := by rw [rst_size]; omega
  generalize lcB s (1, 1) s.size = L
  have : cutGo s s.size s.size L [⟨v, 0, 1, 1, s.size⟩] = ⟨true, gB s s.size, gLC s s.size L, [⟨v, 0, 1, 1, s.size⟩]⟩ := by
    have hf : ∀ f, f = k + 1 → cutGo s f s.size L [⟨v, 0, 1, 1, s.size⟩] = ⟨true, gB s s.size, gLC s s.size L, [⟨v, 0, 1, 1, s.size⟩]⟩ := fun f hf => by
      subst hf
      rw [cutGo.eq_2, if_neg (by rw [e3]; decide), if_pos (by rw [e4]; exact hz)]
    exact hf _ hk
  rw [this]
  exact ⟨rfl, rfl⟩
theorem one_numbered {s : ByteArray} {n : Nat} (h0 : bt s 0 = 85) (hs : 0 < s.size) (hb : s.size ≤ 262144) (hv : numdV s = (n, s.size, true)) : OneRune s n := by
  have hw : wordV s = ⟨3, ByteArray.empty, n, 0, s.size, true⟩ := by
    unfold wordV
    rw [h0, if_neg (by decide), if_neg (by decide), if_pos rfl, hv]
    simp [edgeB]
  obtain ⟨a, b⟩ := words_one hs (by rw [h0]; decide) (by rw [h0]; decide) hw rfl rfl
  exact ⟨hs, hb, a, b⟩
def quoS (r : Int) : ByteArray := ⟨#[39]⟩ ++ Utf8.encode r ++ ⟨#[39]⟩
theorem enc_size {r : Int} (h : widthOf r ≠ 0) : 1 ≤ (Utf8.encode r).size ∧ (Utf8.encode r).size ≤ 4 := by
  have := (decode_enc h).2
  unfold widthOf at this h
  repeat' split at this
  all_goals first | (exfalso; omega) | omega | simp_all
theorem quoS_size {r : Int} (h : widthOf r ≠ 0) : (quoS r).size = (Utf8.encode r).size + 2 := by
  unfold quoS
  rw [ByteArray.size_append, ByteArray.size_append]
  show 1 + _ + 1 = _
  omega
theorem one_quoted {r : Int} (h : widthOf r ≠ 0) (h32 : 32 ≤ r) (h39 : r ≠ 39) (h127 : r ≠ 127) : OneRune (quoS r) r.toNat := by
  have hz := quoS_size h
  have he := enc_size h
  obtain ⟨hd, hw⟩ := decode_enc h
  have ha : quoS r = ⟨#[39]⟩ ++ (Utf8.encode r ++ ⟨#[39]⟩) := by unfold quoS; rw [ByteArray.append_assoc]
  have h0 : bt (quoS r) 0 = 39 := by rw [ha, bt_left _ _ 0 (by decide)]; rfl
  have ht : tl1 (quoS r) = Utf8.encode r ++ ⟨#[39]⟩ := by
    unfold tl1
    refine ext_get _ _ ?_ ?_
    · rw [ByteArray.size_extract, hz, ByteArray.size_append]
      show min _ _ - 1 = _ + 1
      omega
    · intro j hj
      rw [ByteArray.size_extract] at hj
      unfold bt
      rw [get_suffix _ _ _ (by omega), ha]
      have := bt_right ⟨#[39]⟩ (Utf8.encode r ++ ⟨#[39]⟩) j
      unfold bt at this
      exact this
  have hb := (starts_enc h).2.1
  have hg : ¬ (rn (Utf8.encode r) 0 = 65533 ∧ wd (Utf8.encode r) 0 = 1) := by simpa [badB] using hb
  have hd0 : Utf8.decode (Utf8.encode r ++ ⟨#[39]⟩) 0 = (r.toNat, (Utf8.encode r).size) := by rw [decode_grow _ _ 0 (by omega) hg, hd]
  have hd1 : Utf8.decode (Utf8.encode r ++ ⟨#[39]⟩) (Utf8.encode r).size = (39, 1) := by have := decode_behind (Utf8.encode r) ⟨#[39]⟩ 0; rw [Nat.add_zero] at this; rw [this]; rfl
  have hsz : (Utf8.encode r ++ (⟨#[39]⟩ : ByteArray)).size = (Utf8.encode r).size + 1 := by rw [ByteArray.size_append]; rfl
  have hq : quoV (quoS r) = (r.toNat, (quoS r).size, true) := by
    unfold quoV
    rw [ht]
    simp only [rn, wd, hd0, hd1]
    have hwb : wholeB (Utf8.encode r ++ ⟨#[39]⟩) = true := by
      unfold wholeB badB
      simp only [rn, wd, hd0]
      rw [decide_eq_true (by omega), decide_eq_false (by simpa [rn, wd, hd] using hg)]
      rfl
    rw [if_neg (by omega), if_neg (by omega), if_neg (by rw [hwb]; decide), if_neg (by omega), if_pos (by trivial), hz]
  have hv : wordV (quoS r) = ⟨3, ByteArray.empty, r.toNat, 0, (quoS r).size, true⟩ := by
    unfold wordV
    rw [h0, if_neg (by decide), if_neg (by decide), if_neg (by decide), if_pos rfl, hq]
  obtain ⟨a, b⟩ := words_one (by omega) (by rw [h0]; decide) (by rw [h0]; decide) hv rfl rfl
  exact ⟨by omega, by omega, a, b⟩
theorem one_text {r : Int} (h : widthOf r ≠ 0) : OneRune (textV r).1 r.toNat ∧ (textV r).2 = 0 := by
  have hb := width_bound r h
  by_cases hq : 33 ≤ r ∧ r ≤ 126 ∧ r ≠ 39
  · have e : textV r = (quoS r, 0) := by unfold textV quoS; rw [if_neg h, if_pos hq]
    rw [e]
    exact ⟨one_quoted h (by omega) hq.2.2 (by omega), rfl⟩
  · obtain ⟨n, rfl⟩ : ∃ n : Nat, r = n := ⟨r.toNat, by omega⟩
    have e : textV (n : Int) = (⟨#[85, 43]⟩ ++ ⟨(Lib.repeatL [48] (4 - (upS n).size)).toArray⟩ ++ upS n, 0) := by unfold textV; rw [if_neg h, if_neg hq, Int.toNat_natCast]
    rw [e, Int.toNat_natCast]
    refine ⟨?_, rfl⟩
    by_cases h4 : n < 65536
    · show OneRune (⟨#[85, 43]⟩ ++ ⟨(Lib.repeatL [48] (4 - (upS n).size)).toArray⟩ ++ upS n) n
      rw [hex4 n h4]
      exact one_numbered rfl (by show 0 < 6; decide) (by show 6 ≤ 262144; decide) (numdV_4 n h4 h)
    · by_cases h5 : n < 1048576
      · show OneRune (⟨#[85, 43]⟩ ++ ⟨(Lib.repeatL [48] (4 - (upS n).size)).toArray⟩ ++ upS n) n
        rw [hex5 n (by omega) h5]
        exact one_numbered rfl (by show 0 < 7; decide) (by show 7 ≤ 262144; decide) (numdV_5 n (by omega) h5 h)
      · show OneRune (⟨#[85, 43]⟩ ++ ⟨(Lib.repeatL [48] (4 - (upS n).size)).toArray⟩ ++ upS n) n
        rw [hex6 n (by omega) (by omega)]
        exact one_numbered rfl (by show 0 < 8; decide) (by show 8 ≤ 262144; decide) (numdV_6 n (by omega) (by omega) h)
theorem wordV_small {t : ByteArray} (h : smallB (bt t 0) = true) : wordV t = ⟨1, t.extract 0 (nameLen t), 0, 0, nameLen t, edgeB t (nameLen t)⟩ := by unfold wordV; rw [if_pos h]
theorem sgn_kind (t : ByteArray) : (sgnV t).1 ≠ 1 := by
  unfold sgnV
  repeat' split
  all_goals (show (_ : Nat) ≠ 1; decide)
theorem wordV_one {t : ByteArray} (h : (wordV t).kind = 1) : smallB (bt t 0) = true := by
  cases hs : smallB (bt t 0)
  · exfalso
    unfold wordV at h
    rw [hs, if_neg (by decide)] at h
    split at h
    · cases h
    · split at h
      · cases h
      · split at h
        · cases h
        · exact sgn_kind t h
  · rfl
structure One (w : ByteArray) (v : WV) : Prop where
  pos : 0 < w.size
  eq : wordV w = v
  ok : v.ok = true
  n : v.n = w.size
def sepB : List (ByteArray × UInt8) → ByteArray
  | [] => ByteArray.empty
  | x :: l => x.1 ++ ((⟨#[x.2]⟩ : ByteArray) ++ sepB l)
def places (b : Nat) : List (ByteArray × UInt8) → List Nat
  | [] => []
  | x :: l => b :: places (b + x.1.size + 1) l
def OnesL : List (ByteArray × UInt8) → List WV → Prop
  | [], [] => True
  | x :: l, v :: vs => One x.1 v ∧ blankB x.2.toNat = true ∧ OnesL l vs
  | _, _ => False
theorem onesL_app : ∀ {l1 : List (ByteArray × UInt8)} {v1 : List WV} {l2 : List (ByteArray × UInt8)} {v2 : List WV}, OnesL l1 v1 → OnesL l2 v2 → OnesL (l1 ++ l2) (v1 ++ v2)
  | [], [], l2, v2, _, h => h
  | x :: l1, v :: v1, l2, v2, h1, h => ⟨h1.1, h1.2.1, onesL_app h1.2.2 h⟩
  | [], v :: v1, l2, v2, h1, h => h1.elim
  | x :: l1, [], l2, v2, h1, h => h1.elim
theorem blank_stk {c : Nat} (h : blankB c = true) : stkB c = false := by
  have : c = 9 ∨ c = 10 ∨ c = 13 ∨ c = 32 := by unfold blankB at h; exact of_decide_eq_true h
  rcases this with rfl | rfl | rfl | rfl <;> rfl
theorem rst_app {s w R : ByteArray} {b : Nat} (hb : b ≤ s.size) (h : rst s b = w ++ R) : rst s (b + w.size) = R ∧ b + w.size + R.size = s.size := by
  have hz : (rst s b).size = w.size + R.size := by rw [h, ByteArray.size_append]
  rw [rst_size] at hz
  have hl : b + w.size ≤ s.size := by omega
  refine ⟨ext_get _ _ (by rw [rst_size]; omega) (fun j hj => ?_), by omega⟩
  rw [rst_at s _ j hl, Nat.add_assoc, ← rst_at s b _ hb, h, bt_right]
theorem cut_sep (s : ByteArray) : ∀ (l : List (ByteArray × UInt8)) (vs : List WV) (b : Nat), b ≤ s.size → rst s b = sepB l → OnesL l vs → ∀ f, l.length < f → cutP s f b = some (places b l) ∧ (places b l).map (fun q => wordV (rst s q)) = vs
  | [], [], b, hb, h, _, f, hf => by
    obtain ⟨g, rfl⟩ : ∃ g, f = g + 1 := ⟨f - 1, by have : ([] : List (ByteArray × UInt8)).length = 0 := rfl; omega⟩
    have hz : (rst s b).size = 0 := by rw [h]; rfl
    rw [rst_size] at hz
    have hg : gapA s b = (b, true) := by unfold gapA; rw [h]; rfl
    refine ⟨?_, rfl⟩
    rw [cutP_end (by rw [hg]) (by rw [hg]; show b = s.size; omega)]
    rfl
  | x :: l, v :: vs, b, hb, h, ho, f, hf => by
    obtain ⟨w, c⟩ := x
    obtain ⟨h1, h2, h3⟩ := ho
    have h2' : blankB c.toNat = true := h2
    have hlen : (List.length ((w, c) :: l)) = l.length + 1 := rfl
    obtain ⟨g, rfl⟩ : ∃ g, f = g + 2 := ⟨f - 2, by omega⟩
    have h' : rst s b = w ++ ((⟨#[c]⟩ : ByteArray) ++ sepB l) := h
    obtain ⟨hr1, hz1⟩ := rst_app hb h'
    have hb1 : b + w.size ≤ s.size := by omega
    obtain ⟨hr2, hz2⟩ := rst_app hb1 hr1
    have hc1 : (⟨#[c]⟩ : ByteArray).size = 1 := rfl
    rw [hc1] at hr2 hz2
    have hp := h1.pos
    have hn := h1.n
    have hok : (wordV w).ok = true := by rw [h1.eq]; exact h1.ok
    have hnw : (wordV w).n = w.size := by rw [h1.eq]; exact hn
    have hbl : bt s (b + w.size) = c.toNat := by
      have := rst_at s (b + w.size) 0 hb1
      rw [hr1] at this
      rw [← Nat.add_zero (b + w.size), ← this]
      rfl
    have hv : wordV (rst s b) = v := by
      rw [← h1.eq]
      refine word_local h1.pos hok (by rw [hnw, rst_size]; omega) (fun i hi => ?_) (fun _ => .inr ?_)
      · have hi2 : i < w.size := by rw [← hnw]; exact hi
        rw [h', bt_left _ _ _ hi2]
      · rw [hnw, rst_at s b _ hb, hbl]; exact blank_stk h2'
    have hvo : (wordV (rst s b)).ok = true := by rw [hv]; exact h1.ok
    have hwa := word_at s b (by omega) hvo
    have hg : gapA s b = (b, true) := gapA_stop s b (by omega) hwa.2.2.2.2.1 hwa.2.2.2.2.2
    have ih := cut_sep s l vs (b + w.size + 1) (by omega) hr2 h3 (g + 1) (by omega)
    have hstep : cutP s (g + 1) (b + w.size) = cutP s (g + 1) (b + w.size + 1) := cutP_same (gapA_blank s _ (by omega) (by rw [hbl]; exact h2'))
    refine ⟨?_, ?_⟩
    · rw [cutP_go (by rw [hg]) (by rw [hg]; show b ≠ s.size; omega) (by rw [hg]; exact hvo)]
      rw [hg]
      show Option.map (fun q => b :: q) (cutP s (g + 1) (b + (wordV (rst s b)).n)) = _
      rw [hv, hn, hstep, ih.1]
      rfl
    · show wordV (rst s b) :: (places (b + w.size + 1) l).map (fun q => wordV (rst s q)) = v :: vs
      rw [hv, ih.2]
  | [], v :: vs, b, hb, h, ho, f, hf => ho.elim
  | x :: l, [], b, hb, h, ho, f, hf => ho.elim
theorem words_sep {l : List (ByteArray × UInt8)} {vs : List WV} (h : OnesL l vs) : (wordsV (sepB l)).ok = true ∧ (wordsV (sepB l)).ws = (places 0 l).map (mkW (sepB l)) ∧ (places 0 l).map (fun q => wordV (rst (sepB l) q)) = vs := by
  have h1 := cut_sep (sepB l) l vs 0 (Nat.zero_le _) (rst_zero _) h ((sepB l).size + 1 + l.length) (by omega)
  have h2 : posV (sepB l) = some (places 0 l) := by
    unfold posV
    rw [cutP_fuel (sepB l) _ ((sepB l).size + 1 + l.length) 0 (Nat.zero_le _) (by omega) (by omega), h1.1]
  have h3 := words_pos h2
  exact ⟨h3.1, h3.2, h1.2⟩
structure Tq where
  k : Int
  S : ByteArray
  r : Int
  n : Int
def stripW (x : W8) : Tq := ⟨x.k, x.S, x.r, x.n⟩
def Has (ws : List W8) : Nat → List Tq → Prop
  | _, [] => True
  | k, v :: l => (∃ x, ws[k]? = some x ∧ stripW x = v) ∧ Has ws (k + 1) l
theorem has_app {ws : List W8} : ∀ {a b : List Tq} {k : Nat}, Has ws k (a ++ b) ↔ Has ws k a ∧ Has ws (k + a.length) b
  | [], b, k => by
    constructor
    · intro h; exact ⟨trivial, h⟩
    · intro h; exact h.2
  | v :: a, b, k => by
    show ((∃ x, ws[k]? = some x ∧ stripW x = v) ∧ Has ws (k + 1) (a ++ b)) ↔ ((∃ x, ws[k]? = some x ∧ stripW x = v) ∧ Has ws (k + 1) a) ∧ Has ws (k + (a.length + 1)) b
    rw [has_app (a := a), show k + (a.length + 1) = k + 1 + a.length by omega, and_assoc]
theorem has_le {ws : List W8} : ∀ {l : List Tq} {k : Nat}, Has ws k l → k ≤ ws.length → k + l.length ≤ ws.length
  | [], k, _, hk => hk
  | v :: l, k, h, hk => by
    obtain ⟨⟨x, hx, _⟩, h2⟩ := h
    have := (List.getElem?_eq_some_iff.1 hx).1
    have := has_le h2 (by omega)
    rw [List.length_cons]
    omega
theorem take_tok {ws : List W8} {k : Nat} {x : W8} {kind : Int} (eb el ec : Int) (hx : ws[k]? = some x) (hk : x.k = kind) : takeV ws k none eb el ec kind = ⟨x, k + 1, none⟩ := by
  have : seesB ws k none kind = true := by unfold seesB; rw [hx]; simpa using hk
  unfold takeV
  rw [this, hx]
theorem sees_yes {ws : List W8} {k : Nat} {x : W8} {kind : Int} (hx : ws[k]? = some x) (hk : x.k = kind) : seesB ws k none kind = true := by unfold seesB; rw [hx]; simpa using hk
theorem sees_no {ws : List W8} {k : Nat} {x : W8} {kind : Int} (hx : ws[k]? = some x) (hk : x.k ≠ kind) : ¬ seesB ws k none kind = true := by unfold seesB; rw [hx]; simpa using hk
def tqR (r : Int) : Tq := ⟨3, ByteArray.empty, r, 0⟩
def tqN (S : ByteArray) : Tq := ⟨1, S, 0, 0⟩
def tqC (n : Int) : Tq := ⟨2, ByteArray.empty, 0, n⟩
def tqS (k : Int) : Tq := ⟨k, ByteArray.empty, 0, 0⟩
theorem strip_k {x : W8} {v : Tq} (h : stripW x = v) : x.k = v.k := by rw [← h]; rfl
theorem strip_S {x : W8} {v : Tq} (h : stripW x = v) : x.S = v.S := by rw [← h]; rfl
theorem strip_r {x : W8} {v : Tq} (h : stripW x = v) : x.r = v.r := by rw [← h]; rfl
theorem strip_n {x : W8} {v : Tq} (h : stripW x = v) : x.n = v.n := by rw [← h]; rfl
def spanQ (s : Int × Int) : List Tq := if s.2 = s.1 then [tqR s.1] else [tqR s.1, tqS 9, tqR s.2]
def spansQ (l : List (Int × Int)) : List Tq := tqS 4 :: (l.flatMap spanQ ++ [tqS 5])
theorem markV_tok {ws : List W8} {k : Nat} {a c : Int} (eb el ec : Int) (h : Has ws k [tqR a, tqC c, tqS 6]) : markV ws k none eb el ec = ⟨a, c, k + 3, none⟩ := by
  obtain ⟨⟨x, hx, ex⟩, ⟨y, hy, ey⟩, ⟨z, hz, ez⟩, _⟩ := h
  unfold markV
  rw [take_tok (kind := 3) eb el ec hx (strip_k ex)]
  dsimp only
  rw [take_tok (kind := 2) eb el ec hy (strip_k ey)]
  dsimp only
  rw [take_tok (kind := 6) eb el ec hz (strip_k ez)]
  dsimp only
  rw [strip_r ex, strip_n ey]
  rfl
theorem pairV_tok {ws : List W8} {k : Nat} {a b c : Int} (eb el ec : Int) (h : Has ws k [tqR a, tqS 7, tqR b, tqS 8, tqR c, tqS 6]) : pairV ws k none eb el ec = ⟨a, b, c, k + 6, none⟩ := by
  obtain ⟨⟨x, hx, ex⟩, ⟨y, hy, ey⟩, ⟨z, hz, ez⟩, ⟨p, hp, ep⟩, ⟨q, hq, eq⟩, ⟨r, hr, er⟩, _⟩ := h
  unfold pairV
  rw [take_tok (kind := 3) eb el ec hx (strip_k ex)]
  dsimp only
  rw [take_tok (kind := 7) eb el ec hy (strip_k ey)]
  dsimp only
  rw [take_tok (kind := 3) eb el ec hz (strip_k ez)]
  dsimp only
  rw [take_tok (kind := 8) eb el ec hp (strip_k ep)]
  dsimp only
  rw [take_tok (kind := 3) eb el ec hq (strip_k eq)]
  dsimp only
  rw [take_tok (kind := 6) eb el ec hr (strip_k er)]
  dsimp only
  rw [strip_r ex, strip_r ez, strip_r eq]
  rfl
theorem mapGo_tok {ws : List W8} (eb el ec : Int) : ∀ (l : List Int) (k f : Nat), Has ws k (l.map tqR ++ [tqS 6]) → l.length < f → mapGo ws eb el ec f k none = ⟨l, k + l.length, none⟩
  | [], k, 0, h, hf => by omega
  | [], k, f + 1, h, hf => by
    obtain ⟨⟨x, hx, ex⟩, _⟩ := h
    unfold mapGo
    rw [if_neg (sees_no (kind := 3) hx (by rw [strip_k ex]; show (6 : Int) ≠ 3; decide))]
    rfl
  | r :: l, k, 0, h, hf => by omega
  | r :: l, k, f + 1, h, hf => by
    obtain ⟨⟨x, hx, ex⟩, h2⟩ := h
    have hl : (r :: l).length = l.length + 1 := rfl
    unfold mapGo
    rw [if_pos (sees_yes (kind := 3) hx (strip_k ex)), take_tok (kind := 3) eb el ec hx (strip_k ex)]
    dsimp only
    rw [mapGo_tok eb el ec l (k + 1) f h2 (by omega), strip_r ex, hl, show k + (l.length + 1) = k + 1 + l.length by omega]
    rfl
def mapQ (a : Int) (l : List Int) : List Tq := tqR a :: tqS 7 :: (l.map tqR ++ [tqS 6])
theorem mapQ_len (a : Int) (l : List Int) : (mapQ a l).length = l.length + 3 := by show (l.map tqR ++ [tqS 6]).length + 1 + 1 = _; rw [List.length_append, List.length_map]; rfl
theorem mapV_tok {ws : List W8} {k : Nat} {a r : Int} {l : List Int} (eb el ec : Int) (h : Has ws k (mapQ a (r :: l))) (hk : k ≤ ws.length) : mapV ws k none eb el ec = ⟨a, r :: l, k + (mapQ a (r :: l)).length, none⟩ := by
  have hle := has_le h hk
  have hl := mapQ_len a (r :: l)
  rw [List.length_cons] at hl
  obtain ⟨⟨x, hx, ex⟩, ⟨y, hy, ey⟩, ⟨z, hz, ez⟩, h2⟩ := h
  have h3 := has_app.1 h2
  rw [List.length_map] at h3
  obtain ⟨p, hp, ep⟩ := h3.2.1
  unfold mapV
  rw [take_tok (kind := 3) eb el ec hx (strip_k ex)]
  dsimp only
  rw [take_tok (kind := 7) eb el ec hy (strip_k ey)]
  dsimp only
  rw [take_tok (kind := 3) eb el ec hz (strip_k ez)]
  dsimp only
  rw [mapGo_tok eb el ec l _ _ h2 (by omega)]
  dsimp only
  rw [take_tok (kind := 6) eb el ec hp (strip_k ep)]
  dsimp only
  rw [strip_r ex, strip_r ez, hl]
  show Mp.mk a (r :: l) _ none = _
  congr 1
  omega
def scQ (x : ByteArray × List (Int × Int)) : List Tq := tqN ⟨#[115, 99, 114, 105, 112, 116]⟩ :: tqN x.1 :: spansQ x.2
def maQ (x : Int × Int) : List Tq := [tqN ⟨#[109, 97, 114, 107]⟩, tqR x.1, tqC x.2, tqS 6]
def prQ (x : Int × Int × Int) : List Tq := [tqN ⟨#[112, 97, 105, 114]⟩, tqR x.1, tqS 7, tqR x.2.1, tqS 8, tqR x.2.2, tqS 6]
def foQ (x : Int × List Int) : List Tq := tqN ⟨#[102, 111, 108, 100]⟩ :: mapQ x.1 x.2
def lkQ (x : Int × List Int) : List Tq := tqN ⟨#[108, 111, 111, 107]⟩ :: mapQ x.1 x.2
def coQ (l : List (Int × Int)) : List Tq := tqN ⟨#[99, 111, 109, 109, 111, 110]⟩ :: spansQ l
def drQ (l : List (Int × Int)) : List Tq := tqN ⟨#[100, 114, 111, 112]⟩ :: spansQ l
def alQ (l : List (Int × Int)) : List Tq := tqN ⟨#[97, 108, 108, 111, 119]⟩ :: spansQ l
theorem rule_go {ws : List W8} {eb el ec : Int} {k : Nat} {x : W8} {S : ByteArray} {T : TV} {n : Nat} (ex : stripW x = tqN S) (hn : ruleNo S = n) : ruleV ws eb el ec k x T = ruleAt ws eb el ec k x T n := by
  unfold ruleV
  rw [strip_S ex]
  show ruleAt ws eb el ec k x T (ruleNo S) = _
  rw [hn]
end Go.Proofs.YtjgfmobmilgapaaGreatDoor
