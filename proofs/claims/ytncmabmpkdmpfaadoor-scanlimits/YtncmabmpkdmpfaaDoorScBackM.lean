/- A rune as it is written is one word: plain mathematics. -/
import Derived.Test.YtncmabmpkdmpfaaDoorScWords
import Derived.Test.YtncmabmpkdmpfaaDoorScText
import Derived.Test.YtncmabmpkdmpfaaDoorEnc
namespace Go.Proofs.YtncmabmpkdmpfaaDoor
open Go.RowKit Go.Shelf
set_option linter.unusedVariables false
def upD (d : Nat) : UInt8 := if d < 10 then (48 + d).toUInt8 else (55 + d).toUInt8
theorem upD_of : ∀ d, d < 16 → Lib.toUpperA [digC d] = [upD d] := by decide +kernel
theorem hexI_upD : ∀ d, d < 16 → hexI (upD d).toNat = d := by decide +kernel
theorem upD_zero : upD 0 = 48 := by decide
theorem upD_ne : ∀ d, d < 16 → d ≠ 0 → (upD d).toNat ≠ 48 := by decide +kernel
theorem toUpperA_app (a b : List UInt8) : Lib.toUpperA (a ++ b) = Lib.toUpperA a ++ Lib.toUpperA b := by simp [Lib.toUpperA]
theorem upL_small {n : Nat} (h : n < 16) : Lib.toUpperA (hexL n) = [upD n] := by rw [hexL_small h, upD_of n h]
theorem upL_step {n : Nat} (h : 16 ≤ n) : Lib.toUpperA (hexL n) = Lib.toUpperA (hexL (n / 16)) ++ [upD (n % 16)] := by rw [hexL_step h, toUpperA_app, upD_of _ (Nat.mod_lt _ (by decide))]
theorem hex4 (n : Nat) (h : n < 65536) : (⟨#[85, 43]⟩ : ByteArray) ++ ⟨(Lib.repeatL [48] (4 - (upS n).size)).toArray⟩ ++ upS n = ⟨#[85, 43, upD (n / 4096), upD (n / 256 % 16), upD (n / 16 % 16), upD (n % 16)]⟩ := by
  by_cases h1 : n < 16
  · have e : upS n = ⟨#[upD n]⟩ := by unfold upS; rw [upL_small h1]
    rw [e, show n / 4096 = 0 by omega, show n / 256 % 16 = 0 by omega, show n / 16 % 16 = 0 by omega, show n % 16 = n by omega, upD_zero]
    rfl
  by_cases h2 : n < 256
  · have e : upS n = ⟨#[upD (n / 16), upD (n % 16)]⟩ := by unfold upS; rw [upL_step (by omega), upL_small (by omega)]; rfl
    rw [e, show n / 4096 = 0 by omega, show n / 256 % 16 = 0 by omega, show n / 16 % 16 = n / 16 by omega, upD_zero]
    rfl
  by_cases h3 : n < 4096
  · have e : upS n = ⟨#[upD (n / 256), upD (n / 16 % 16), upD (n % 16)]⟩ := by unfold upS; rw [upL_step (by omega), upL_step (by omega), upL_small (by omega), show n / 16 / 16 = n / 256 by omega]; rfl
    rw [e, show n / 4096 = 0 by omega, show n / 256 % 16 = n / 256 by omega, upD_zero]
    rfl
  · have e : upS n = ⟨#[upD (n / 4096), upD (n / 256 % 16), upD (n / 16 % 16), upD (n % 16)]⟩ := by unfold upS; rw [upL_step (by omega), upL_step (by omega), upL_step (by omega), upL_small (by omega), show n / 16 / 16 / 16 = n / 4096 by omega, show n / 16 / 16 = n / 256 by omega]; rfl
    rw [e]
    rfl
theorem hex5 (n : Nat) (h0 : 65536 ≤ n) (h : n < 1048576) : (⟨#[85, 43]⟩ : ByteArray) ++ ⟨(Lib.repeatL [48] (4 - (upS n).size)).toArray⟩ ++ upS n = ⟨#[85, 43, upD (n / 65536), upD (n / 4096 % 16), upD (n / 256 % 16), upD (n / 16 % 16), upD (n % 16)]⟩ := by
  have e : upS n = ⟨#[upD (n / 65536), upD (n / 4096 % 16), upD (n / 256 % 16), upD (n / 16 % 16), upD (n % 16)]⟩ := by
    unfold upS
    rw [upL_step (by omega), upL_step (by omega), upL_step (by omega), upL_step (by omega), upL_small (by omega), show n / 16 / 16 / 16 / 16 = n / 65536 by omega, show n / 16 / 16 / 16 = n / 4096 by omega, show n / 16 / 16 = n / 256 by omega]
    rfl
  rw [e]
  rfl
theorem hex6 (n : Nat) (h0 : 1048576 ≤ n) (h : n ≤ 1114111) : (⟨#[85, 43]⟩ : ByteArray) ++ ⟨(Lib.repeatL [48] (4 - (upS n).size)).toArray⟩ ++ upS n = ⟨#[85, 43, upD (n / 1048576), upD (n / 65536 % 16), upD (n / 4096 % 16), upD (n / 256 % 16), upD (n / 16 % 16), upD (n % 16)]⟩ := by
  have e : upS n = ⟨#[upD (n / 1048576), upD (n / 65536 % 16), upD (n / 4096 % 16), upD (n / 256 % 16), upD (n / 16 % 16), upD (n % 16)]⟩ := by
    unfold upS
    rw [upL_step (by omega), upL_step (by omega), upL_step (by omega), upL_step (by omega), upL_step (by omega), upL_small (by omega), show n / 16 / 16 / 16 / 16 / 16 = n / 1048576 by omega, show n / 16 / 16 / 16 / 16 = n / 65536 by omega, show n / 16 / 16 / 16 = n / 4096 by omega, show n / 16 / 16 = n / 256 by omega]
    rfl
  rw [e]
  rfl
theorem numdGo_dig {t : ByteArray} {v n d : Nat} (hn : n < t.size) (h6 : n < 6 ∨ bt t 2 ≠ 48) (hd : d < 16) (hb : bt t n = (upD d).toNat) (hv : v * 16 + d ≤ 1114111) : numdGo t v n = numdGo t (v * 16 + d) (n + 1) := by
  have e := hexI_upD d hd
  have hx : hexI (bt t n) = d := by rw [hb]; exact e
  have := numdGo_go (t := t) (v := v) (n := n) ⟨hn, h6, by omega, by omega⟩
  rw [this, hx]
  rfl
theorem numdV_mk {t : ByteArray} {n : Nat} (h1 : bt t 1 = 43) (hs : 6 ≤ t.size) (hg : numdGo t 0 2 = (n, t.size)) (hw : widthOf (n : Int) ≠ 0) : numdV t = (n, t.size, true) := by
  unfold numdV
  rw [if_neg (by omega), hg, if_neg (fun q => q.elim (fun q => absurd q (by show ¬ t.size < 6; omega)) (fun q => hw q))]
theorem numdV_4 (n : Nat) (h : n < 65536) (hw : widthOf (n : Int) ≠ 0) : numdV ⟨#[85, 43, upD (n / 4096), upD (n / 256 % 16), upD (n / 16 % 16), upD (n % 16)]⟩ = (n, 6, true) := by
  refine numdV_mk (by rfl) (by show 6 ≤ 6; decide) ?_ hw
  rw [numdGo_dig (d := n / 4096) (by show 2 < 6; decide) (.inl (by decide)) (by omega) rfl (by omega), numdGo_dig (d := n / 256 % 16) (by show 3 < 6; decide) (.inl (by decide)) (by omega) rfl (by omega), numdGo_dig (d := n / 16 % 16) (by show 4 < 6; decide) (.inl (by decide)) (by omega) rfl (by omega), numdGo_dig (d := n % 16) (by show 5 < 6; decide) (.inl (by decide)) (by omega) rfl (by omega), numdGo_stop (by intro q; exact absurd q.1 (by show ¬ 6 < 6; decide))]
  rw [Prod.mk.injEq]
  exact ⟨by omega, rfl⟩
theorem numdV_5 (n : Nat) (h0 : 65536 ≤ n) (h : n < 1048576) (hw : widthOf (n : Int) ≠ 0) : numdV ⟨#[85, 43, upD (n / 65536), upD (n / 4096 % 16), upD (n / 256 % 16), upD (n / 16 % 16), upD (n % 16)]⟩ = (n, 7, true) := by
  refine numdV_mk (by rfl) (by show 6 ≤ 7; decide) ?_ hw
  have hz : bt ⟨#[85, 43, upD (n / 65536), upD (n / 4096 % 16), upD (n / 256 % 16), upD (n / 16 % 16), upD (n % 16)]⟩ 2 ≠ 48 := upD_ne (n / 65536) (by omega) (by omega)
  rw [numdGo_dig (d := n / 65536) (by show 2 < 7; decide) (.inl (by decide)) (by omega) rfl (by omega), numdGo_dig (d := n / 4096 % 16) (by show 3 < 7; decide) (.inl (by decide)) (by omega) rfl (by omega), numdGo_dig (d := n / 256 % 16) (by show 4 < 7; decide) (.inl (by decide)) (by omega) rfl (by omega), numdGo_dig (d := n / 16 % 16) (by show 5 < 7; decide) (.inl (by decide)) (by omega) rfl (by omega), numdGo_dig (d := n % 16) (by show 6 < 7; decide) (.inr hz) (by omega) rfl (by omega), numdGo_stop (by intro q; exact absurd q.1 (by show ¬ 7 < 7; decide))]
  rw [Prod.mk.injEq]
  exact ⟨by omega, rfl⟩
theorem numdV_6 (n : Nat) (h0 : 1048576 ≤ n) (h : n ≤ 1114111) (hw : widthOf (n : Int) ≠ 0) : numdV ⟨#[85, 43, upD (n / 1048576), upD (n / 65536 % 16), upD (n / 4096 % 16), upD (n / 256 % 16), upD (n / 16 % 16), upD (n % 16)]⟩ = (n, 8, true) := by
  refine numdV_mk (by rfl) (by show 6 ≤ 8; decide) ?_ hw
  have hz : bt ⟨#[85, 43, upD (n / 1048576), upD (n / 65536 % 16), upD (n / 4096 % 16), upD (n / 256 % 16), upD (n / 16 % 16), upD (n % 16)]⟩ 2 ≠ 48 := upD_ne (n / 1048576) (by omega) (by omega)
  rw [numdGo_dig (d := n / 1048576) (by show 2 < 8; decide) (.inl (by decide)) (by omega) rfl (by omega), numdGo_dig (d := n / 65536 % 16) (by show 3 < 8; decide) (.inl (by decide)) (by omega) rfl (by omega), numdGo_dig (d := n / 4096 % 16) (by show 4 < 8; decide) (.inl (by decide)) (by omega) rfl (by omega), numdGo_dig (d := n / 256 % 16) (by show 5 < 8; decide) (.inl (by decide)) (by omega) rfl (by omega), numdGo_dig (d := n / 16 % 16) (by show 6 < 8; decide) (.inr hz) (by omega) rfl (by omega), numdGo_dig (d := n % 16) (by show 7 < 8; decide) (.inr hz) (by omega) rfl (by omega), numdGo_stop (by intro q; exact absurd q.1 (by show ¬ 8 < 8; decide))]
  rw [Prod.mk.injEq]
  exact ⟨by omega, rfl⟩
/-- What a text says that is one word. -/
structure OneRune (s : ByteArray) (n : Nat) : Prop where
  pos : 0 < s.size
  small : s.size ≤ 262144
  ok : (wordsV s).ok = true
  ws : (wordsV s).ws = [⟨⟨3, ByteArray.empty, n, 0, s.size, true⟩, 0, 1, 1, s.size⟩]
theorem rst_zero (s : ByteArray) : rst s 0 = s := ByteArray.extract_zero_size
theorem rst_end (s : ByteArray) : rst s s.size = ByteArray.empty := by
  have : (rst s s.size).size = 0 := by rw [rst_size]; omega
  exact toList_nil _ this
theorem gapV_none {t : ByteArray} (h : 0 < t.size) (hb : blankB (bt t 0) = false) (hr : bt t 0 ≠ 35) : gapV t = (0, true) := by
  unfold gapV
  obtain ⟨k, hk⟩ : ∃ k, t.size = k + 1 := ⟨t.size - 1, by omega⟩
  rw [hk]
  unfold gapGo
  rw [if_pos (by omega), if_neg (by rw [hb]; decide), if_neg hr]
theorem gapV_empty : gapV ByteArray.empty = (0, true) := rfl
theorem lcB_zero (t : ByteArray) (x : Nat × Nat) : lcB t x 0 = x := by
  unfold lcB
  have : t.extract 0 0 = ByteArray.empty := toList_nil _ (by rw [ByteArray.size_extract]; omega)
  rw [this]
  rfl
theorem words_one {s : ByteArray} {v : WV} (h : 0 < s.size) (hb : blankB (bt s 0) = false) (hr : bt s 0 ≠ 35) (hv : wordV s = v) (hok : v.ok = true) (hn : v.n = s.size) : (wordsV s).ok = true ∧ (wordsV s).ws = [⟨v, 0, 1, 1, s.size⟩] := by
  have hg := gapV_none h hb hr
  obtain ⟨k, hk⟩ : ∃ k, s.size = k + 1 := ⟨s.size - 1, by omega⟩
  have e1 : gB s 0 = 0 := by unfold gB; rw [rst_zero, hg]; rfl
  have e2 : gLC s 0 (1, 1) = (1, 1) := by unfold gLC; rw [rst_zero, hg, lcB_zero]
  have e3 : gapV (rst s s.size) = (0, true) := by rw [rst_end]; rfl
  have e4 : gB s s.size = s.size := by unfold gB; rw [e3]; rfl
  have hw : wordsV s = cutGo s s.size s.size (lcB s (1, 1) s.size) [⟨v, 0, 1, 1, s.size⟩] := by
    unfold wordsV
    rw [cutGo.eq_2, if_neg (by rw [rst_zero, hg]; decide), e1, rst_zero, if_neg (by omega), hv, if_neg (by rw [hok]; decide), e2, hn, Nat.zero_add]
    rfl
  rw [hw]
  have hz : (rst s s.size).size = 0 := by rw [rst_size]; omega
  generalize lcB s (1, 1) s.size = L
  have : cutGo s s.size s.size L [⟨v, 0, 1, 1, s.size⟩] = ⟨true, gB s s.size, gLC s s.size L, [⟨v, 0, 1, 1, s.size⟩]⟩ := by
    have hf : ∀ f, f = k + 1 → cutGo s f s.size L [⟨v, 0, 1, 1, s.size⟩] = ⟨true, gB s s.size, gLC s s.size L, [⟨v, 0, 1, 1, s.size⟩]⟩ := fun f hf => by
      subst hf
      rw [cutGo.eq_2, if_neg (by rw [e3]; decide), if_pos (by rw [e4]; exact hz)]
    exact hf _ hk
  rw [this]
  exact ⟨rfl, rfl⟩
theorem one_numbered {s : ByteArray} {n : Nat} (h0 : bt s 0 = 85) (hs : 0 < s.size) (hb : s.size ≤ 262144) (hv : numdV s = (n, s.size, true)) : OneRune s n := by
  have hw : wordV s = ⟨3, ByteArray.empty, n, 0, s.size, true⟩ := by
    unfold wordV
    rw [h0, if_neg (by decide), if_neg (by decide), if_pos rfl, hv]
    simp [edgeB]
  obtain ⟨a, b⟩ := words_one hs (by rw [h0]; decide) (by rw [h0]; decide) hw rfl rfl
  exact ⟨hs, hb, a, b⟩
/-- A rune between two quotes. -/
def quoS (r : Int) : ByteArray := ⟨#[39]⟩ ++ Utf8.encode r ++ ⟨#[39]⟩
theorem enc_size {r : Int} (h : widthOf r ≠ 0) : 1 ≤ (Utf8.encode r).size ∧ (Utf8.encode r).size ≤ 4 := by
  have := (decode_enc h).2
  unfold widthOf at this h
  repeat' split at this
  all_goals first | (exfalso; omega) | omega | simp_all
theorem quoS_size {r : Int} (h : widthOf r ≠ 0) : (quoS r).size = (Utf8.encode r).size + 2 := by
  unfold quoS
  rw [ByteArray.size_append, ByteArray.size_append]
  show 1 + _ + 1 = _
  omega
theorem one_quoted {r : Int} (h : widthOf r ≠ 0) (h32 : 32 ≤ r) (h39 : r ≠ 39) (h127 : r ≠ 127) : OneRune (quoS r) r.toNat := by
  have hz := quoS_size h
  have he := enc_size h
  obtain ⟨hd, hw⟩ := decode_enc h
  have ha : quoS r = ⟨#[39]⟩ ++ (Utf8.encode r ++ ⟨#[39]⟩) := by unfold quoS; rw [ByteArray.append_assoc]
  have h0 : bt (quoS r) 0 = 39 := by rw [ha, bt_left _ _ 0 (by decide)]; rfl
  have ht : tl1 (quoS r) = Utf8.encode r ++ ⟨#[39]⟩ := by
    unfold tl1
    refine ext_get _ _ ?_ ?_
    · rw [ByteArray.size_extract, hz, ByteArray.size_append]
      show min _ _ - 1 = _ + 1
      omega
    · intro j hj
      rw [ByteArray.size_extract] at hj
      unfold bt
      rw [get_suffix _ _ _ (by omega), ha]
      have := bt_right ⟨#[39]⟩ (Utf8.encode r ++ ⟨#[39]⟩) j
      unfold bt at this
      exact this
  have hb := (starts_enc h).2.1
  have hg : ¬ (rn (Utf8.encode r) 0 = 65533 ∧ wd (Utf8.encode r) 0 = 1) := by simpa [badB] using hb
  have hd0 : Utf8.decode (Utf8.encode r ++ ⟨#[39]⟩) 0 = (r.toNat, (Utf8.encode r).size) := by rw [decode_grow _ _ 0 (by omega) hg, hd]
  have hd1 : Utf8.decode (Utf8.encode r ++ ⟨#[39]⟩) (Utf8.encode r).size = (39, 1) := by have := decode_behind (Utf8.encode r) ⟨#[39]⟩ 0; rw [Nat.add_zero] at this; rw [this]; rfl
  have hsz : (Utf8.encode r ++ (⟨#[39]⟩ : ByteArray)).size = (Utf8.encode r).size + 1 := by rw [ByteArray.size_append]; rfl
  have hq : quoV (quoS r) = (r.toNat, (quoS r).size, true) := by
    unfold quoV
    rw [ht]
    simp only [rn, wd, hd0, hd1]
    have hwb : wholeB (Utf8.encode r ++ ⟨#[39]⟩) = true := by
      unfold wholeB badB
      simp only [rn, wd, hd0]
      rw [decide_eq_true (by omega), decide_eq_false (by simpa [rn, wd, hd] using hg)]
      rfl
    rw [if_neg (by omega), if_neg (by omega), if_neg (by rw [hwb]; decide), if_neg (by omega), if_pos (by trivial), hz]
  have hv : wordV (quoS r) = ⟨3, ByteArray.empty, r.toNat, 0, (quoS r).size, true⟩ := by
    unfold wordV
    rw [h0, if_neg (by decide), if_neg (by decide), if_neg (by decide), if_pos rfl, hq]
  obtain ⟨a, b⟩ := words_one (by omega) (by rw [h0]; decide) (by rw [h0]; decide) hv rfl rfl
  exact ⟨by omega, by omega, a, b⟩
/-- A rune as it is written. -/
theorem one_text {r : Int} (h : widthOf r ≠ 0) : OneRune (textV r).1 r.toNat ∧ (textV r).2 = 0 := by
  have hb := width_bound r h
  by_cases hq : 33 ≤ r ∧ r ≤ 126 ∧ r ≠ 39
  · have e : textV r = (quoS r, 0) := by unfold textV quoS; rw [if_neg h, if_pos hq]
    rw [e]
    exact ⟨one_quoted h (by omega) hq.2.2 (by omega), rfl⟩
  · obtain ⟨n, rfl⟩ : ∃ n : Nat, r = n := ⟨r.toNat, by omega⟩
    have e : textV (n : Int) = (⟨#[85, 43]⟩ ++ ⟨(Lib.repeatL [48] (4 - (upS n).size)).toArray⟩ ++ upS n, 0) := by unfold textV; rw [if_neg h, if_neg hq, Int.toNat_natCast]
    rw [e, Int.toNat_natCast]
    refine ⟨?_, rfl⟩
    by_cases h4 : n < 65536
    · show OneRune (⟨#[85, 43]⟩ ++ ⟨(Lib.repeatL [48] (4 - (upS n).size)).toArray⟩ ++ upS n) n
      rw [hex4 n h4]
      exact one_numbered rfl (by show 0 < 6; decide) (by show 6 ≤ 262144; decide) (numdV_4 n h4 h)
    · by_cases h5 : n < 1048576
      · show OneRune (⟨#[85, 43]⟩ ++ ⟨(Lib.repeatL [48] (4 - (upS n).size)).toArray⟩ ++ upS n) n
        rw [hex5 n (by omega) h5]
        exact one_numbered rfl (by show 0 < 7; decide) (by show 7 ≤ 262144; decide) (numdV_5 n (by omega) h5 h)
      · show OneRune (⟨#[85, 43]⟩ ++ ⟨(Lib.repeatL [48] (4 - (upS n).size)).toArray⟩ ++ upS n) n
        rw [hex6 n (by omega) (by omega)]
        exact one_numbered rfl (by show 0 < 8; decide) (by show 8 ≤ 262144; decide) (numdV_6 n (by omega) (by omega) h)
end Go.Proofs.YtncmabmpkdmpfaaDoor
