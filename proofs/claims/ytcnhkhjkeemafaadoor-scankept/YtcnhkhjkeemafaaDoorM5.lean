/- Texts of this claim, one behind the other. -/
import Derived.Test.YtcnhkhjkeemafaaDoorM1
import Derived.Test.YtcnhkhjkeemafaaDoorM3
/- Plain facts on the bytes of runes: what is written of a rune is read as that rune; a text without bad spots is what its runes are written as. -/
namespace Go.Proofs.YtcnhkhjkeemafaaDoor
open Go.RowKit Go.Shelf
open Go.Lib (decodeN decode_at)
set_option linter.unusedVariables false

theorem valid_of_width {z : Int} (h : widthOf z ≠ 0) : Utf8.valid z = true ∧ 0 ≤ z ∧ z ≤ 1114111 ∧ ¬ (55296 ≤ z ∧ z ≤ 57343) := by
  unfold widthOf at h
  split at h
  · exact absurd rfl h
  · rename_i hh
    refine ⟨?_, by omega, by omega, by omega⟩
    simp only [Utf8.valid, Bool.or_eq_true, Bool.and_eq_true, decide_eq_true_eq]
    omega

theorem enc1 {z : Int} (h : widthOf z ≠ 0) (h1 : z < 128) : Utf8.encode z = ⟨#[UInt8.ofNat z.toNat]⟩ := by
  obtain ⟨hv, h0, _, _⟩ := valid_of_width h
  unfold Utf8.encode
  simp only [hv, if_true]
  rw [if_pos (by omega)]
theorem enc2 {z : Int} (h : widthOf z ≠ 0) (h1 : 128 ≤ z) (h2 : z < 2048) : Utf8.encode z = ⟨#[UInt8.ofNat (0xC0 + z.toNat / 64), UInt8.ofNat (0x80 + z.toNat % 64)]⟩ := by
  obtain ⟨hv, h0, _, _⟩ := valid_of_width h
  unfold Utf8.encode
  simp only [hv, if_true]
  rw [if_neg (by omega), if_pos (by omega)]
theorem enc3 {z : Int} (h : widthOf z ≠ 0) (h1 : 2048 ≤ z) (h2 : z < 65536) : Utf8.encode z = ⟨#[UInt8.ofNat (0xE0 + z.toNat / 4096), UInt8.ofNat (0x80 + z.toNat / 64 % 64), UInt8.ofNat (0x80 + z.toNat % 64)]⟩ := by
  obtain ⟨hv, h0, _, _⟩ := valid_of_width h
  unfold Utf8.encode
  simp only [hv, if_true]
  rw [if_neg (by omega), if_neg (by omega), if_pos (by omega)]
theorem enc4 {z : Int} (h : widthOf z ≠ 0) (h1 : 65536 ≤ z) : Utf8.encode z = ⟨#[UInt8.ofNat (0xF0 + z.toNat / 262144), UInt8.ofNat (0x80 + z.toNat / 4096 % 64), UInt8.ofNat (0x80 + z.toNat / 64 % 64), UInt8.ofNat (0x80 + z.toNat % 64)]⟩ := by
  obtain ⟨hv, h0, _, _⟩ := valid_of_width h
  unfold Utf8.encode
  simp only [hv, if_true]
  rw [if_neg (by omega), if_neg (by omega), if_neg (by omega)]
theorem u8n (n : Nat) (h : n < 256) : (UInt8.ofNat n).toNat = n := by rw [UInt8.toNat_ofNat']; omega

/-- What is written of a rune is read as that rune, of its width. -/
theorem decode_enc {z : Int} (h : widthOf z ≠ 0) : Utf8.decode (Utf8.encode z) 0 = (z.toNat, (Utf8.encode z).size) ∧ ((Utf8.encode z).size : Int) = widthOf z := by
  obtain ⟨hv, h0, h1, h2⟩ := valid_of_width h
  by_cases c1 : z < 128
  · rw [enc1 h c1]
    refine ⟨?_, ?_⟩
    · rw [decode_at]
      have e0 : ((⟨#[UInt8.ofNat z.toNat]⟩ : ByteArray).get! 0).toNat = z.toNat := by show (UInt8.ofNat z.toNat).toNat = _; exact u8n _ (by omega)
      rw [e0]
      unfold decodeN
      rw [if_pos (by omega)]
      rfl
    · unfold widthOf; rw [if_neg (by omega), if_pos (by omega)]; rfl
  by_cases c2 : z < 2048
  · rw [enc2 h (by omega) c2]
    refine ⟨?_, ?_⟩
    · rw [decode_at]
      have e0 : ((⟨#[UInt8.ofNat (0xC0 + z.toNat / 64), UInt8.ofNat (0x80 + z.toNat % 64)]⟩ : ByteArray).get! 0).toNat = 192 + z.toNat / 64 := by show (UInt8.ofNat (0xC0 + z.toNat / 64)).toNat = _; exact u8n _ (by omega)
      have e1 : ((⟨#[UInt8.ofNat (0xC0 + z.toNat / 64), UInt8.ofNat (0x80 + z.toNat % 64)]⟩ : ByteArray).get! (0 + 1)).toNat = 128 + z.toNat % 64 := by show (UInt8.ofNat (0x80 + z.toNat % 64)).toNat = _; exact u8n _ (by omega)
      rw [e0, e1]
      show decodeN 2 _ _ _ _ = (_, 2)
      unfold decodeN
      rw [if_neg (by omega), if_pos (by omega), if_pos (by omega)]
      rw [Prod.mk.injEq]
      exact ⟨by omega, rfl⟩
    · unfold widthOf; rw [if_neg (by omega), if_neg (by omega), if_pos (by omega)]; rfl
  by_cases c3 : z < 65536
  · rw [enc3 h (by omega) c3]
    refine ⟨?_, ?_⟩
    · rw [decode_at]
      have e0 : ((⟨#[UInt8.ofNat (0xE0 + z.toNat / 4096), UInt8.ofNat (0x80 + z.toNat / 64 % 64), UInt8.ofNat (0x80 + z.toNat % 64)]⟩ : ByteArray).get! 0).toNat = 224 + z.toNat / 4096 := by show (UInt8.ofNat (0xE0 + z.toNat / 4096)).toNat = _; exact u8n _ (by omega)
      have e1 : ((⟨#[UInt8.ofNat (0xE0 + z.toNat / 4096), UInt8.ofNat (0x80 + z.toNat / 64 % 64), UInt8.ofNat (0x80 + z.toNat % 64)]⟩ : ByteArray).get! (0 + 1)).toNat = 128 + z.toNat / 64 % 64 := by show (UInt8.ofNat (0x80 + z.toNat / 64 % 64)).toNat = _; exact u8n _ (by omega)
      have e2 : ((⟨#[UInt8.ofNat (0xE0 + z.toNat / 4096), UInt8.ofNat (0x80 + z.toNat / 64 % 64), UInt8.ofNat (0x80 + z.toNat % 64)]⟩ : ByteArray).get! (0 + 2)).toNat = 128 + z.toNat % 64 := by show (UInt8.ofNat (0x80 + z.toNat % 64)).toNat = _; exact u8n _ (by omega)
      rw [e0, e1, e2]
      show decodeN 3 _ _ _ _ = (_, 3)
      unfold decodeN
      rw [if_neg (by omega), if_neg (by omega), if_pos (by omega), if_pos (by omega)]
      rw [Prod.mk.injEq]
      exact ⟨by omega, rfl⟩
    · unfold widthOf; rw [if_neg (by omega), if_neg (by omega), if_neg (by omega), if_pos (by omega)]; rfl
  · rw [enc4 h (by omega)]
    refine ⟨?_, ?_⟩
    · rw [decode_at]
      have e0 : ((⟨#[UInt8.ofNat (0xF0 + z.toNat / 262144), UInt8.ofNat (0x80 + z.toNat / 4096 % 64), UInt8.ofNat (0x80 + z.toNat / 64 % 64), UInt8.ofNat (0x80 + z.toNat % 64)]⟩ : ByteArray).get! 0).toNat = 240 + z.toNat / 262144 := by show (UInt8.ofNat (0xF0 + z.toNat / 262144)).toNat = _; exact u8n _ (by omega)
      have e1 : ((⟨#[UInt8.ofNat (0xF0 + z.toNat / 262144), UInt8.ofNat (0x80 + z.toNat / 4096 % 64), UInt8.ofNat (0x80 + z.toNat / 64 % 64), UInt8.ofNat (0x80 + z.toNat % 64)]⟩ : ByteArray).get! (0 + 1)).toNat = 128 + z.toNat / 4096 % 64 := by show (UInt8.ofNat (0x80 + z.toNat / 4096 % 64)).toNat = _; exact u8n _ (by omega)
      have e2 : ((⟨#[UInt8.ofNat (0xF0 + z.toNat / 262144), UInt8.ofNat (0x80 + z.toNat / 4096 % 64), UInt8.ofNat (0x80 + z.toNat / 64 % 64), UInt8.ofNat (0x80 + z.toNat % 64)]⟩ : ByteArray).get! (0 + 2)).toNat = 128 + z.toNat / 64 % 64 := by show (UInt8.ofNat (0x80 + z.toNat / 64 % 64)).toNat = _; exact u8n _ (by omega)
      have e3 : ((⟨#[UInt8.ofNat (0xF0 + z.toNat / 262144), UInt8.ofNat (0x80 + z.toNat / 4096 % 64), UInt8.ofNat (0x80 + z.toNat / 64 % 64), UInt8.ofNat (0x80 + z.toNat % 64)]⟩ : ByteArray).get! (0 + 3)).toNat = 128 + z.toNat % 64 := by show (UInt8.ofNat (0x80 + z.toNat % 64)).toNat = _; exact u8n _ (by omega)
      rw [e0, e1, e2, e3]
      show decodeN 4 _ _ _ _ = (_, 4)
      unfold decodeN
      rw [if_neg (by omega), if_neg (by omega), if_neg (by omega), if_pos (by omega), if_pos (by omega)]
      rw [Prod.mk.injEq]
      exact ⟨by omega, rfl⟩
    · unfold widthOf; rw [if_neg (by omega), if_neg (by omega), if_neg (by omega), if_neg (by omega)]; rfl

theorem starts_enc {z : Int} (h : widthOf z ≠ 0) : starts (Utf8.encode z) = [0] ∧ badB (Utf8.encode z) 0 = false ∧ runesL (Utf8.encode z) = [z] := by
  obtain ⟨hd, hw⟩ := decode_enc h
  obtain ⟨hv, h0, h1, h2⟩ := valid_of_width h
  have hsz : 1 ≤ (Utf8.encode z).size := by
    have : (0 : Int) ≤ widthOf z := by
      unfold widthOf
      repeat' split
      all_goals omega
    omega
  have hs : starts (Utf8.encode z) = [0] := by
    unfold starts
    obtain ⟨m, hm⟩ : ∃ m, (Utf8.encode z).size = m + 1 := ⟨(Utf8.encode z).size - 1, by omega⟩
    have hwd : wd (Utf8.encode z) 0 = (Utf8.encode z).size := by simp only [wd]; rw [hd]
    rw [hm, startsFrom_cons _ m 0 (by omega), hwd, startsFrom_end _ _ _ (by omega)]
  refine ⟨hs, ?_, ?_⟩
  · unfold badB
    refine decide_eq_false ?_
    simp only [rn, wd, hd]
    rintro ⟨a, b⟩
    unfold widthOf at hw
    rw [b] at hw
    repeat' split at hw
    all_goals omega
  · unfold runesL
    rw [hs]
    simp only [List.map_cons, List.map_nil, rn, hd]
    rw [Int.toNat_of_nonneg h0]

theorem runesBytes_cons (z : Int) (zs : List Int) : runesBytes (z :: zs) = Utf8.encode z ++ runesBytes zs := by
  have := runesBytes_both [z] zs
  rw [List.singleton_append] at this
  rw [this, show runesBytes [z] = Utf8.encode z by unfold runesBytes; simp]
theorem badB_both (s t : ByteArray) (hb : bdB (s ++ t) s.size = true) (h1 : ∀ i ∈ starts s, badB s i = false) (h2 : ∀ i ∈ starts t, badB t i = false) : ∀ i ∈ starts (s ++ t), badB (s ++ t) i = false := by
  obtain ⟨e, hd⟩ := starts_both s t hb
  rw [e]
  intro i hi
  rcases List.mem_append.1 hi with hi | hi
  · rw [← h1 i hi]
    unfold badB
    simp only [rn, wd, hd i hi]
  · obtain ⟨j, hj, rfl⟩ := List.mem_map.1 hi
    rw [← h2 j hj]
    unfold badB
    simp only [rn, wd, decode_behind]
/-- Runes that are written are read back; nothing in what is written is bad. -/
theorem runes_back : ∀ zs : List Int, (∀ z ∈ zs, widthOf z ≠ 0) → runesL (runesBytes zs) = zs ∧ ∀ i ∈ starts (runesBytes zs), badB (runesBytes zs) i = false
  | [], _ => by
    have e : starts (runesBytes []) = [] := by decide
    exact ⟨by unfold runesL; rw [e]; rfl, by rw [e]; intro i hi; cases hi⟩
  | z :: zs, h => by
    obtain ⟨h1, h2⟩ := runes_back zs (fun y hy => h y (by simp [hy]))
    obtain ⟨e1, e2, e3⟩ := starts_enc (h z (by simp))
    have hv : ∀ i ∈ starts (Utf8.encode z), badB (Utf8.encode z) i = false := by rw [e1]; intro i hi; simp at hi; rw [hi]; exact e2
    have hj := joins_valid_left (Utf8.encode z) (runesBytes zs) hv
    rw [joins_bd] at hj
    rw [runesBytes_cons]
    exact ⟨by rw [runesL_both _ _ hj, h1, e3]; rfl, badB_both _ _ hj hv h2⟩

theorem rn_rune (s : ByteArray) (i : Nat) : widthOf ((rn s i : Nat) : Int) ≠ 0 := by
  have t := at_told s i
  have h1 := t.small
  have h2 := t.nosur
  unfold widthOf
  simp only [rn]
  rw [if_neg (by omega)]
  repeat' split
  all_goals decide
theorem runesL_runes (s : ByteArray) : ∀ z ∈ runesL s, widthOf z ≠ 0 := by
  intro z hz
  unfold runesL at hz
  obtain ⟨i, _, rfl⟩ := List.mem_map.1 hz
  exact rn_rune s i

/-- How the bytes of a sequence hang together with its rune. -/
theorem decodeN_bytes (n b0 b1 b2 b3 : Nat) (h0 : b0 < 256) (h1 : b1 < 256) (h2 : b2 < 256) (h3 : b3 < 256) (hg : ¬ ((decodeN n b0 b1 b2 b3).1 = 65533 ∧ (decodeN n b0 b1 b2 b3).2 = 1)) :
    ((decodeN n b0 b1 b2 b3).2 = 1 ∧ (decodeN n b0 b1 b2 b3).1 = b0 ∧ b0 < 128) ∨
    ((decodeN n b0 b1 b2 b3).2 = 2 ∧ b0 = 192 + (decodeN n b0 b1 b2 b3).1 / 64 ∧ b1 = 128 + (decodeN n b0 b1 b2 b3).1 % 64) ∨
    ((decodeN n b0 b1 b2 b3).2 = 3 ∧ b0 = 224 + (decodeN n b0 b1 b2 b3).1 / 4096 ∧ b1 = 128 + (decodeN n b0 b1 b2 b3).1 / 64 % 64 ∧ b2 = 128 + (decodeN n b0 b1 b2 b3).1 % 64) ∨
    ((decodeN n b0 b1 b2 b3).2 = 4 ∧ b0 = 240 + (decodeN n b0 b1 b2 b3).1 / 262144 ∧ b1 = 128 + (decodeN n b0 b1 b2 b3).1 / 4096 % 64 ∧ b2 = 128 + (decodeN n b0 b1 b2 b3).1 / 64 % 64 ∧ b3 = 128 + (decodeN n b0 b1 b2 b3).1 % 64) := by
  by_cases c0 : b0 < 128
  · have e : decodeN n b0 b1 b2 b3 = (b0, 1) := by unfold decodeN; rw [if_pos c0]
    rw [e]; exact .inl ⟨rfl, rfl, c0⟩
  by_cases c2 : b0 / 32 = 6 ∧ (1 < n ∧ b1 / 64 = 2)
  · by_cases hc : b0 % 32 * 64 + b1 % 64 ≥ 128
    · have e : decodeN n b0 b1 b2 b3 = (b0 % 32 * 64 + b1 % 64, 2) := by unfold decodeN; rw [if_neg c0, if_pos c2, if_pos hc]
      rw [e]; refine .inr (.inl ⟨rfl, ?_, ?_⟩) <;> simp only <;> omega
    · have e : decodeN n b0 b1 b2 b3 = (65533, 1) := by unfold decodeN; rw [if_neg c0, if_pos c2, if_neg hc]
      rw [e] at hg; exact absurd ⟨rfl, rfl⟩ hg
  by_cases c3 : b0 / 16 = 14 ∧ (1 < n ∧ b1 / 64 = 2) ∧ (2 < n ∧ b2 / 64 = 2)
  · by_cases hc : b0 % 16 * 4096 + b1 % 64 * 64 + b2 % 64 ≥ 2048 ∧ (b0 % 16 * 4096 + b1 % 64 * 64 + b2 % 64 < 55296 ∨ (57344 ≤ b0 % 16 * 4096 + b1 % 64 * 64 + b2 % 64 ∧ b0 % 16 * 4096 + b1 % 64 * 64 + b2 % 64 ≤ 1114111))
    · have e : decodeN n b0 b1 b2 b3 = (b0 % 16 * 4096 + b1 % 64 * 64 + b2 % 64, 3) := by unfold decodeN; rw [if_neg c0, if_neg c2, if_pos c3, if_pos hc]
      rw [e]; refine .inr (.inr (.inl ⟨rfl, ?_, ?_, ?_⟩)) <;> simp only <;> omega
    · have e : decodeN n b0 b1 b2 b3 = (65533, 1) := by unfold decodeN; rw [if_neg c0, if_neg c2, if_pos c3, if_neg hc]
      rw [e] at hg; exact absurd ⟨rfl, rfl⟩ hg
  by_cases c4 : b0 / 8 = 30 ∧ (1 < n ∧ b1 / 64 = 2) ∧ (2 < n ∧ b2 / 64 = 2) ∧ (3 < n ∧ b3 / 64 = 2)
  · by_cases hc : b0 % 8 * 262144 + b1 % 64 * 4096 + b2 % 64 * 64 + b3 % 64 ≥ 65536 ∧ (b0 % 8 * 262144 + b1 % 64 * 4096 + b2 % 64 * 64 + b3 % 64 < 55296 ∨ (57344 ≤ b0 % 8 * 262144 + b1 % 64 * 4096 + b2 % 64 * 64 + b3 % 64 ∧ b0 % 8 * 262144 + b1 % 64 * 4096 + b2 % 64 * 64 + b3 % 64 ≤ 1114111))
    · have e : decodeN n b0 b1 b2 b3 = (b0 % 8 * 262144 + b1 % 64 * 4096 + b2 % 64 * 64 + b3 % 64, 4) := by unfold decodeN; rw [if_neg c0, if_neg c2, if_neg c3, if_pos c4, if_pos hc]
      rw [e]; refine .inr (.inr (.inr ⟨rfl, ?_, ?_, ?_, ?_⟩)) <;> simp only <;> omega
    · have e : decodeN n b0 b1 b2 b3 = (65533, 1) := by unfold decodeN; rw [if_neg c0, if_neg c2, if_neg c3, if_pos c4, if_neg hc]
      rw [e] at hg; exact absurd ⟨rfl, rfl⟩ hg
  · have e : decodeN n b0 b1 b2 b3 = (65533, 1) := by unfold decodeN; rw [if_neg c0, if_neg c2, if_neg c3, if_neg c4]
    rw [e] at hg; exact absurd ⟨rfl, rfl⟩ hg

theorem ext_get (u v : ByteArray) (hs : u.size = v.size) (h : ∀ j, j < u.size → bt u j = bt v j) : u = v := by
  apply ByteArray.ext
  apply Array.ext
  · exact hs
  · intro j h1 h2
    have := h j h1
    unfold bt at this
    rw [get_lt u j h1, get_lt v j h2] at this
    exact UInt8.toNat_inj.1 this
/-- A good spot's bytes are what its rune is written as. -/
theorem enc_dec (s : ByteArray) (i : Nat) (hi : i < s.size) (hg : badB s i = false) : Utf8.encode ((rn s i : Nat) : Int) = s.extract i (i + wd s i) := by
  have hg' : ¬ (rn s i = 65533 ∧ wd s i = 1) := of_decide_eq_false hg
  have hr := wd_room s i hi
  have hw := rn_rune s i
  have hwn := widthOf_rn s i hg'
  have key := decodeN_bytes (s.size - i) (bt s i) (bt s (i + 1)) (bt s (i + 2)) (bt s (i + 3)) (bt_lt _ _) (bt_lt _ _) (bt_lt _ _) (bt_lt _ _)
  have e : decodeN (s.size - i) (bt s i) (bt s (i + 1)) (bt s (i + 2)) (bt s (i + 3)) = Utf8.decode s i := (decode_at s i).symm
  rw [e] at key
  have key := key hg'
  change (wd s i = 1 ∧ rn s i = bt s i ∧ _) ∨ (wd s i = 2 ∧ bt s i = 192 + rn s i / 64 ∧ bt s (i + 1) = 128 + rn s i % 64) ∨ (wd s i = 3 ∧ bt s i = 224 + rn s i / 4096 ∧ bt s (i + 1) = 128 + rn s i / 64 % 64 ∧ bt s (i + 2) = 128 + rn s i % 64) ∨ (wd s i = 4 ∧ bt s i = 240 + rn s i / 262144 ∧ bt s (i + 1) = 128 + rn s i / 4096 % 64 ∧ bt s (i + 2) = 128 + rn s i / 64 % 64 ∧ bt s (i + 3) = 128 + rn s i % 64) at key
  have hx : ∀ j, j < wd s i → bt (s.extract i (i + wd s i)) j = bt s (i + j) := fun j hj => by unfold bt; rw [get_extract _ _ _ _ (by omega) hr]
  have hsz : (s.extract i (i + wd s i)).size = wd s i := by rw [ByteArray.size_extract]; omega
  have b0 := bt_lt s i
  have b1 := bt_lt s (i + 1)
  have b2 := bt_lt s (i + 2)
  have b3 := bt_lt s (i + 3)
  generalize rn s i = r at *
  rcases key with ⟨k1, k2, k3⟩ | ⟨k1, k2, k3⟩ | ⟨k1, k2, k3, k4⟩ | ⟨k1, k2, k3, k4, k5⟩
  · rw [enc1 hw (by omega)]
    refine ext_get _ _ (by rw [hsz, k1]; rfl) (fun j hj => ?_)
    obtain rfl : j = 0 := by have : j < 1 := hj; omega
    rw [hx 0 (by omega), Nat.add_zero]
    show (UInt8.ofNat ((r : Int).toNat)).toNat = _
    rw [u8n _ (by omega)]; omega
  · have hlo : 128 ≤ (r : Int) ∧ (r : Int) < 2048 := by
      rw [k1] at hwn
      unfold widthOf at hwn
      repeat' split at hwn
      all_goals omega
    rw [enc2 hw hlo.1 hlo.2]
    refine ext_get _ _ (by rw [hsz, k1]; rfl) (fun j hj => ?_)
    have : j < 2 := hj
    have : j = 0 ∨ j = 1 := by omega
    rcases this with rfl | rfl
    · rw [hx 0 (by omega), Nat.add_zero]
      show (UInt8.ofNat (0xC0 + (r : Int).toNat / 64)).toNat = _
      rw [u8n _ (by omega)]; omega
    · rw [hx 1 (by omega)]
      show (UInt8.ofNat (0x80 + (r : Int).toNat % 64)).toNat = _
      rw [u8n _ (by omega)]; omega
  · have hlo : 2048 ≤ (r : Int) ∧ (r : Int) < 65536 := by
      rw [k1] at hwn
      unfold widthOf at hwn
      repeat' split at hwn
      all_goals omega
    rw [enc3 hw hlo.1 hlo.2]
    refine ext_get _ _ (by rw [hsz, k1]; rfl) (fun j hj => ?_)
    have : j < 3 := hj
    have : j = 0 ∨ j = 1 ∨ j = 2 := by omega
    rcases this with rfl | rfl | rfl
    · rw [hx 0 (by omega), Nat.add_zero]
      show (UInt8.ofNat (0xE0 + (r : Int).toNat / 4096)).toNat = _
      rw [u8n _ (by omega)]; omega
    · rw [hx 1 (by omega)]
      show (UInt8.ofNat (0x80 + (r : Int).toNat / 64 % 64)).toNat = _
      rw [u8n _ (by omega)]; omega
    · rw [hx 2 (by omega)]
      show (UInt8.ofNat (0x80 + (r : Int).toNat % 64)).toNat = _
      rw [u8n _ (by omega)]; omega
  · have hlo : 65536 ≤ (r : Int) := by
      rw [k1] at hwn
      unfold widthOf at hwn
      repeat' split at hwn
      all_goals omega
    rw [enc4 hw hlo]
    refine ext_get _ _ (by rw [hsz, k1]; rfl) (fun j hj => ?_)
    have : j < 4 := hj
    have : j = 0 ∨ j = 1 ∨ j = 2 ∨ j = 3 := by omega
    rcases this with rfl | rfl | rfl | rfl
    · rw [hx 0 (by omega), Nat.add_zero]
      show (UInt8.ofNat (0xF0 + (r : Int).toNat / 262144)).toNat = _
      rw [u8n _ (by omega)]; omega
    · rw [hx 1 (by omega)]
      show (UInt8.ofNat (0x80 + (r : Int).toNat / 4096 % 64)).toNat = _
      rw [u8n _ (by omega)]; omega
    · rw [hx 2 (by omega)]
      show (UInt8.ofNat (0x80 + (r : Int).toNat / 64 % 64)).toNat = _
      rw [u8n _ (by omega)]; omega
    · rw [hx 3 (by omega)]
      show (UInt8.ofNat (0x80 + (r : Int).toNat % 64)).toNat = _
      rw [u8n _ (by omega)]; omega

theorem clean_from (s : ByteArray) : ∀ f i, s.size ≤ i + f → i ≤ s.size → (∀ p ∈ startsFrom s f i, badB s p = false) → runesBytes ((startsFrom s f i).map (fun p => ((rn s p : Nat) : Int))) = s.extract i s.size
  | 0, i, hf, hi, h => by
    rw [show i = s.size by omega]
    simp only [startsFrom, List.map_nil]
    rw [show s.extract s.size s.size = ByteArray.empty from by apply ByteArray.ext; simp]
    rfl
  | f + 1, i, hf, hi, h => by
    by_cases hlt : i < s.size
    · have hw := wd_pos s i
      have hr := wd_room s i hlt
      rw [startsFrom_cons s f i hlt] at h ⊢
      rw [List.map_cons, runesBytes_cons, enc_dec s i hlt (h i (by simp)), clean_from s f (i + wd s i) (by omega) hr (fun p hp => h p (by simp [hp]))]
      rw [ByteArray.extract_append_extract]
      congr 1 <;> omega
    · rw [startsFrom_end s _ _ hlt, show i = s.size by omega, show s.extract s.size s.size = ByteArray.empty from by apply ByteArray.ext; simp]
      rfl
/-- A text without bad spots is its own clean text. -/
theorem clean_valid (s : ByteArray) (h : ∀ i ∈ starts s, badB s i = false) : cleanV s = s := by
  have := clean_from s s.size 0 (by omega) (by omega) h
  unfold cleanV runesL starts
  rw [this]
  exact ByteArray.extract_zero_size
theorem clean_facts (s : ByteArray) : runesL (cleanV s) = runesL s ∧ (∀ i ∈ starts (cleanV s), badB (cleanV s) i = false) ∧ cleanV (cleanV s) = cleanV s ∧ (starts (cleanV s)).length = (starts s).length := by
  obtain ⟨h1, h2⟩ := runes_back (runesL s) (runesL_runes s)
  refine ⟨h1, h2, clean_valid _ h2, ?_⟩
  rw [← runesL_length, ← runesL_length]
  exact congrArg List.length h1
end Go.Proofs.YtcnhkhjkeemafaaDoor
/- Lines and columns by runes: plain mathematics. -/
namespace Go.Proofs.YtcnhkhjkeemafaaDoor
open Go.RowKit Go.Shelf
set_option linter.unusedVariables false
/-- Line and column behind some runes. -/
def lcR (x : Nat × Nat) (zs : List Int) : Nat × Nat := zs.foldl (fun x z => if z = 10 then (x.1 + 1, 1) else (x.1, x.2 + 1)) x
theorem lcR_app (x : Nat × Nat) (a b : List Int) : lcR x (a ++ b) = lcR (lcR x a) b := by simp [lcR]
theorem lcR_cons (x : Nat × Nat) (z : Int) (b : List Int) : lcR x (z :: b) = lcR (if z = 10 then (x.1 + 1, 1) else (x.1, x.2 + 1)) b := rfl
theorem lcR_nil (x : Nat × Nat) : lcR x [] = x := rfl
theorem lcF_runes (t : ByteArray) : ∀ (ps : List Nat) (x : Nat × Nat), lcF t x ps = lcR x (ps.map (fun i => ((rn t i : Nat) : Int)))
  | [], x => rfl
  | p :: ps, x => by
    show lcF t (lcStep t x p) ps = _
    rw [lcF_runes t ps, List.map_cons, lcR_cons]
    unfold lcStep
    by_cases h : rn t p = 10
    · rw [if_pos h, if_pos (by omega)]
    · rw [if_neg h, if_neg (by omega)]
theorem lcF_all (t : ByteArray) (x : Nat × Nat) : lcF t x (starts t) = lcR x (runesL t) := lcF_runes t _ x
theorem lcR_line : ∀ (zs : List Int) (x : Nat × Nat), (lcR x zs).1 = x.1 + zs.count 10
  | [], x => rfl
  | z :: zs, x => by
    rw [lcR_cons, lcR_line zs]
    by_cases h : z = 10
    · rw [if_pos h, h, List.count_cons_self]; show x.1 + 1 + _ = _; omega
    · rw [if_neg h, List.count_cons_of_ne h]
theorem lcR_none : ∀ (zs : List Int) (x : Nat × Nat), (10 : Int) ∉ zs → lcR x zs = (x.1, x.2 + zs.length)
  | [], x, _ => rfl
  | z :: zs, x, h => by
    rw [List.mem_cons, not_or] at h
    rw [lcR_cons, if_neg (fun e => h.1 e.symm), lcR_none zs _ h.2, List.length_cons, Prod.mk.injEq]
    exact ⟨rfl, by show x.2 + 1 + _ = _; omega⟩
/-- What a spot's rune says of its bytes. -/
theorem rn_ten (s : ByteArray) (i : Nat) : rn s i = 10 ↔ bt s i = 10 := by
  have t := at_told s i
  constructor
  · intro h
    have hg : ¬ (rn s i = 65533 ∧ wd s i = 1) := by omega
    rcases t.width hg with h1 | h1 | h1 | h1
    · rcases t.one h1.1 with h2 | h2 <;> (simp only [rn] at h; omega)
    all_goals (simp only [rn] at h; omega)
  · intro h
    rcases Nat.lt_or_ge (wd s i) 2 with h1 | h1
    · have : wd s i = 1 := by have := wd_pos s i; omega
      rcases t.one this with h2 | h2 <;> (simp only [rn]; omega)
    · have := wd_lead s i h1; omega
theorem drop_bt (s : ByteArray) (i : Nat) (h : i < s.size) : s.data.toList.drop i = s.get! i :: s.data.toList.drop (i + 1) := by
  rw [← List.getElem_cons_drop (h := by rw [Array.length_toList]; exact h)]
  congr 1
  rw [get_lt s i h]
  simp
theorem count_step (s : ByteArray) (i : Nat) (h : i < s.size) (hn : bt s i ≠ 10) : (s.data.toList.drop i).count 10 = (s.data.toList.drop (i + 1)).count 10 := by
  rw [drop_bt s i h, List.count_cons_of_ne (fun e => hn (by unfold bt; rw [e]; rfl))]
theorem count_cont (s : ByteArray) (i : Nat) : ∀ k, (∀ j, i ≤ j → j < i + k → j < s.size ∧ bt s j ≠ 10) → (s.data.toList.drop i).count 10 = (s.data.toList.drop (i + k)).count 10
  | 0, _ => rfl
  | k + 1, h => by
    rw [count_cont s i k (fun j h1 h2 => h j h1 (by omega)), count_step s (i + k) (h _ (by omega) (by omega)).1 (h _ (by omega) (by omega)).2]
    rfl
theorem count_from (s : ByteArray) : ∀ f i, s.size ≤ i + f → (s.data.toList.drop i).count 10 = ((startsFrom s f i).map (fun i => ((rn s i : Nat) : Int))).count 10
  | 0, i, h => by
    rw [List.drop_eq_nil_of_le (by rw [Array.length_toList]; show s.size ≤ i; omega)]
    rfl
  | f + 1, i, h => by
    by_cases hi : i < s.size
    · have hp := wd_pos s i
      have hr := wd_room s i hi
      rw [startsFrom_cons s f i hi, List.map_cons]
      by_cases ht : bt s i = 10
      · have h1 : wd s i = 1 := by
          rcases Nat.lt_or_ge (wd s i) 2 with h1 | h1
          · omega
          · have := wd_lead s i h1; omega
        have e : s.get! i = 10 := by rw [← UInt8.toNat_inj]; exact ht
        rw [drop_bt s i hi, e, (rn_ten s i).2 ht, h1, List.count_cons_self, count_from s f (i + 1) (by omega)]
        exact (List.count_cons_self ..).symm
      · have hz : (10 : Int) ≠ ((rn s i : Nat) : Int) := fun e => ht ((rn_ten s i).1 (by omega))
        rw [List.count_cons_of_ne (Ne.symm hz), ← count_from s f (i + wd s i) (by omega)]
        refine count_cont s i (wd s i) (fun j h1 h2 => ⟨by omega, ?_⟩)
        by_cases hj : j = i
        · rw [hj]; exact ht
        · have := wd_cont s i (j - i) (by omega) (by omega)
          rw [show i + (j - i) = j by omega] at this
          omega
    · rw [startsFrom_end s _ _ hi, List.drop_eq_nil_of_le (by rw [Array.length_toList]; show s.size ≤ i; omega)]
      rfl
theorem count_runes (s : ByteArray) : Lib.countByte s.data.toList 10 = (runesL s).count 10 := by
  have := count_from s s.size 0 (by omega)
  rw [List.drop_zero] at this
  exact this
theorem cat_split (t : ByteArray) (p : Nat) (h : p ≤ t.size) : t.extract 0 p ++ t.extract p t.size = t := by
  rw [ByteArray.extract_append_extract, Nat.zero_min, Nat.max_eq_right h, ByteArray.extract_zero_size]
theorem runesL_split (t : ByteArray) (p : Nat) (h : p ≤ t.size) (hb : bdB t p = true) : runesL t = runesL (t.extract 0 p) ++ runesL (t.extract p t.size) := by
  have hz : (t.extract 0 p).size = p := by rw [ByteArray.size_extract]; omega
  have := runesL_both (t.extract 0 p) (t.extract p t.size) (by rw [cat_split t p h, hz]; exact hb)
  rwa [cat_split t p h] at this
theorem ext_pre (s : ByteArray) (b a : Nat) (h : a ≤ b) : (s.extract 0 b).extract 0 a = s.extract 0 a := by rw [ByteArray.extract_extract, Nat.zero_add, Nat.zero_add, Nat.min_eq_left h]
theorem ext_mid (s : ByteArray) (b a : Nat) : (s.extract 0 b).extract a b = s.extract a b := by rw [ByteArray.extract_extract, Nat.zero_add, Nat.zero_add, Nat.min_self]
theorem no_ten (t : ByteArray) (h : ∀ j, j < t.size → bt t j ≠ 10) : (10 : Int) ∉ runesL t := by
  intro hm
  unfold runesL at hm
  obtain ⟨p, hp, e⟩ := List.mem_map.1 hm
  have h1 := (startsFrom_ge t t.size 0 p hp).2
  exact h p h1 ((rn_ten t p).1 (by omega))
theorem lastNl_spec (t : ByteArray) : (lastL t = 0 ∧ ∀ j, j < t.size → bt t j ≠ 10) ∨ (1 ≤ lastL t ∧ lastL t ≤ t.size ∧ bt t (lastL t - 1) = 10 ∧ ∀ j, lastL t ≤ j → j < t.size → bt t j ≠ 10) := by
  have hget : ∀ j, ((t.data[j]!).toNat : Int) = (bt t j : Int) := fun j => rfl
  unfold lastL
  rcases Lib.lastIndexByte_spec t 10 with ⟨h, h2⟩ | ⟨i, hi, h, h2, h3⟩
  · rw [h]; exact .inl ⟨rfl, fun j hj e => h2 j hj (by rw [hget, e]; rfl)⟩
  · rw [h]
    rw [hget] at h2
    refine .inr ⟨by omega, by omega, ?_, fun j h4 hj e => h3 j (by omega) hj (by rw [hget, e]; rfl)⟩
    rw [show ((i : Int) + 1).toNat - 1 = i by omega]
    omega
theorem runes_one_ten : runesL ⟨#[10]⟩ = [10] := by decide
/-- Line and column of a text's end, counted as the program counts them. -/
theorem lc_text (t : ByteArray) : (1 + Lib.countByte t.data.toList 10, 1 + (starts (t.extract (lastL t) t.size)).length) = lcR (1, 1) (runesL t) := by
  rw [count_runes]
  rcases lastNl_spec t with ⟨h0, hn⟩ | ⟨h1, h2, h3, h4⟩
  · have hno := no_ten t hn
    rw [h0, ByteArray.extract_zero_size, lcR_none _ _ hno, List.count_eq_zero_of_not_mem hno, runesL_length]
  · have hb : bdB t (lastL t) = true := by
      have hb0 : bdB t (lastL t - 1) = true := bd_lead t _ (by omega)
      have hw : wd t (lastL t - 1) = 1 := by
        rcases Nat.lt_or_ge (wd t (lastL t - 1)) 2 with q | q
        · have := wd_pos t (lastL t - 1); omega
        · have := wd_lead t _ q; omega
      have := bd_step t (lastL t - 1) hb0 (by omega)
      rwa [hw, show lastL t - 1 + 1 = lastL t by omega] at this
    have hno : (10 : Int) ∉ runesL (t.extract (lastL t) t.size) := no_ten _ (fun j hj => by
      rw [ByteArray.size_extract] at hj
      unfold bt
      rw [get_suffix t (lastL t) j h2]
      exact h4 (lastL t + j) (by omega) (by omega))
    have e1 := runesL_split t (lastL t) h2 hb
    -- the first part ends with the byte 10
    have hb0 : bdB t (lastL t - 1) = true := bd_lead t _ (by omega)
    have e2 : runesL (t.extract 0 (lastL t)) = runesL (t.extract 0 (lastL t - 1)) ++ [10] := by
      have hz : (t.extract 0 (lastL t)).size = lastL t := by rw [ByteArray.size_extract]; omega
      have hbt : bt (t.extract 0 (lastL t)) (lastL t - 1) = 10 := by
        unfold bt
        rw [get_extract t 0 (lastL t) (lastL t - 1) (by omega) h2, Nat.zero_add]
        exact h3
      have := runesL_split (t.extract 0 (lastL t)) (lastL t - 1) (by omega) (bd_lead _ _ (by rw [hbt]; decide))
      rw [this, ext_pre t _ _ (by omega)]
      have e3 : (t.extract 0 (lastL t)).extract (lastL t - 1) (t.extract 0 (lastL t)).size = ⟨#[10]⟩ := by
        refine ext_get _ _ ?_ ?_
        · rw [ByteArray.size_extract, hz]; show _ = 1; omega
        · intro j hj
          rw [ByteArray.size_extract, hz] at hj
          unfold bt
          rw [get_suffix _ _ _ (by omega)]
          obtain rfl : j = 0 := by omega
          exact hbt
      rw [e3, runes_one_ten]
    rw [e1, List.count_append, List.count_eq_zero_of_not_mem hno, lcR_app, lcR_none _ _ hno, e2, lcR_app]
    generalize runesL (t.extract 0 (lastL t - 1)) = A
    rw [runesL_length, Prod.mk.injEq]
    refine ⟨?_, rfl⟩
    show 1 + _ = (lcR (1, 1) A).1 + 1
    rw [lcR_line, List.count_append]
    show 1 + (_ + 1 + 0) = _
    omega
/-- Line and column of a place. -/
theorem whL_runes (s : ByteArray) (k : Nat) : whL s k = lcR (1, 1) (runesL (s.extract 0 (cutAt s k))) := lc_text (aheadV s k)
/-- From a bound on. -/
theorem lcR_on (s : ByteArray) (a b : Nat) (x : Nat × Nat) (hab : a ≤ b) (hb : b ≤ s.size) (ha : bdB (s.extract 0 b) a = true) : lcR x (runesL (s.extract 0 b)) = lcR (lcR x (runesL (s.extract 0 a))) (runesL (s.extract a b)) := by
  have hz : (s.extract 0 b).size = b := by rw [ByteArray.size_extract]; omega
  rw [runesL_split (s.extract 0 b) a (by omega) ha, lcR_app, ext_pre s b a hab, hz, ext_mid s b a]
end Go.Proofs.YtcnhkhjkeemafaaDoor
/- A sequence's first wrong byte: plain mathematics. -/
namespace Go.Proofs.YtcnhkhjkeemafaaDoor
open Go.RowKit Go.Shelf
open Go.Lib (decode_at)
set_option linter.unusedVariables false
/-- Does the byte number k go on what the first one begins? -/
def good4 (t : ByteArray) (k : Nat) : Bool := decide (k < t.size ∧ (if k = 1 then (secOf (bt t 0)).1 else 128) ≤ bt t k ∧ bt t k ≤ (if k = 1 then (secOf (bt t 0)).2 else 191))
theorem good4_iff {t : ByteArray} {k : Nat} : good4 t k = true ↔ k < t.size ∧ (if k = 1 then (secOf (bt t 0)).1 else 128) ≤ bt t k ∧ bt t k ≤ (if k = 1 then (secOf (bt t 0)).2 else 191) := by simp [good4]
/-- What the reference reads at a text's beginning: the rune, the bytes; or how many bytes stand ahead of the first wrong one. -/
def seq4V (t : ByteArray) : Nat × Nat × Bool := if t.size = 0 then (0, 0, false) else if badB t 0 = true then (0, begLen t, false) else (rn t 0, wd t 0, true)
theorem secOf_lo (c : Nat) (hs : (secOf c).1 ≠ 0) : 128 ≤ (secOf c).1 ∧ (secOf c).2 ≤ 191 ∧ (secOf c).1 ≤ (secOf c).2 ∧ 194 ≤ c ∧ c < 245 ∧ (((secOf c).1 ≤ 128 ∧ 128 ≤ (secOf c).2) ∨ ((secOf c).1 ≤ 160 ∧ 160 ≤ (secOf c).2)) := by
  rcases secOf_cases _ hs with ⟨a, b, e⟩ | ⟨a, e⟩ | ⟨a, e⟩ | ⟨a, e⟩ | ⟨a, e⟩ | ⟨a, b, e⟩ | ⟨a, e⟩ <;> rw [e] <;> simp only [] <;> omega
theorem wdN (n b0 b1 b2 b3 : Nat) (hn : 4 ≤ n) (h1 : b1 < 256) (h2 : b2 < 256) (h3 : b3 < 256) (hs : (secOf b0).1 ≠ 0) : (Lib.decodeN n b0 b1 b2 b3).2 = if (secOf b0).1 ≤ b1 ∧ b1 ≤ (secOf b0).2 ∧ (3 ≤ szOf b0 → 128 ≤ b2 ∧ b2 ≤ 191) ∧ (4 ≤ szOf b0 → 128 ≤ b3 ∧ b3 ≤ 191) then szOf b0 else 1 := by
  rw [decodeN_slow n b0 b1 b2 b3 (by omega) h1 h2 h3 hs]
  have hz := szOf_cases b0
  generalize (secOf b0).1 = lo at *
  generalize (secOf b0).2 = hi at *
  generalize szOf b0 = z at *
  unfold Lib.slowN
  repeat' split
  all_goals first | rfl | (exfalso; omega) | (dsimp only; omega)
theorem decode_tail (u x : ByteArray) (hu : 1 ≤ u.size) (hx : x.size = 3) : wd (u ++ x) 0 = (Lib.decodeN (u.size + 3) (bt u 0) (if 1 < u.size then bt u 1 else bt x (1 - u.size)) (if 2 < u.size then bt u 2 else bt x (2 - u.size)) (if 3 < u.size then bt u 3 else bt x (3 - u.size))).2 := by
  unfold wd
  rw [decode_at]
  have hz : (u ++ x).size - 0 = u.size + 3 := by rw [ByteArray.size_append, hx]; rfl
  have hb : ∀ i, bt (u ++ x) i = if i < u.size then bt u i else bt x (i - u.size) := fun i => by
    unfold bt
    rw [get_append]
    split <;> rfl
  rw [hz]
  show (Lib.decodeN (u.size + 3) (bt (u ++ x) 0) (bt (u ++ x) (0 + 1)) (bt (u ++ x) (0 + 2)) (bt (u ++ x) (0 + 3))).2 = _
  rw [hb, hb, hb, hb, if_pos (by omega)]
theorem bt_pre (t : ByteArray) (m i : Nat) (h : i < m) (hm : m ≤ t.size) : bt (t.extract 0 m) i = bt t i := by
  unfold bt
  rw [get_extract t 0 m i (by omega) hm, Nat.zero_add]
theorem tailA_bt : ∀ i, i < 3 → bt tailA i = 128 := by decide
theorem tailB_bt : ∀ i, i < 3 → bt tailB i = if i = 0 then 160 else 128 := by decide
/-- Which beginnings can go on to a rune. -/
theorem begB_none (t : ByteArray) (m : Nat) (h1 : 1 ≤ m) (hm : m ≤ t.size) (hs : (secOf (bt t 0)).1 = 0) : begB (t.extract 0 m) = false := by
  have hz : (t.extract 0 m).size = m := by rw [ByteArray.size_extract]; omega
  have hw : ∀ x : ByteArray, x.size = 3 → wd (t.extract 0 m ++ x) 0 = 1 := fun x hx => by
    rw [decode_tail _ x (by omega) hx, bt_pre t m 0 (by omega) hm]
    by_cases hb : bt t 0 < 128
    · unfold Lib.decodeN; rw [if_pos hb]
    · rw [decodeN_none _ _ _ _ _ (by omega) (bt_lt t 0) hs]
  unfold begB
  rw [hw tailA rfl, hw tailB rfl, hz, decide_eq_false (by omega)]
  rfl
theorem wd_one (t x : ByteArray) (h : 1 ≤ t.size) (hx : x.size = 3) : wd (t.extract 0 1 ++ x) 0 = (Lib.decodeN 4 (bt t 0) (bt x 0) (bt x 1) (bt x 2)).2 := by
  have hz : (t.extract 0 1).size = 1 := by rw [ByteArray.size_extract]; omega
  rw [decode_tail _ x (by omega) hx, hz, bt_pre t 1 0 (by omega) h]
  rfl
theorem wd_two (t x : ByteArray) (h : 2 ≤ t.size) (hx : x.size = 3) : wd (t.extract 0 2 ++ x) 0 = (Lib.decodeN 5 (bt t 0) (bt t 1) (bt x 0) (bt x 1)).2 := by
  have hz : (t.extract 0 2).size = 2 := by rw [ByteArray.size_extract]; omega
  rw [decode_tail _ x (by omega) hx, hz, bt_pre t 2 0 (by omega) h, if_pos (by decide), bt_pre t 2 1 (by omega) h]
  rfl
theorem wd_three (t x : ByteArray) (h : 3 ≤ t.size) (hx : x.size = 3) : wd (t.extract 0 3 ++ x) 0 = (Lib.decodeN 6 (bt t 0) (bt t 1) (bt t 2) (bt x 0)).2 := by
  have hz : (t.extract 0 3).size = 3 := by rw [ByteArray.size_extract]; omega
  rw [decode_tail _ x (by omega) hx, hz, bt_pre t 3 0 (by omega) h, if_pos (by decide), bt_pre t 3 1 (by omega) h, if_pos (by decide), bt_pre t 3 2 (by omega) h]
  rfl
theorem begB_iff (u : ByteArray) : begB u = true ↔ u.size < wd (u ++ tailA) 0 ∨ u.size < wd (u ++ tailB) 0 := by unfold begB; simp
theorem beg_1 {lo hi z : Nat} (hz : z = 2 ∨ z = 3 ∨ z = 4) (hq : (lo ≤ 128 ∧ 128 ≤ hi) ∨ (lo ≤ 160 ∧ 160 ≤ hi)) : (1 < (if lo ≤ 128 ∧ 128 ≤ hi ∧ (3 ≤ z → 128 ≤ 128 ∧ 128 ≤ 191) ∧ (4 ≤ z → 128 ≤ 128 ∧ 128 ≤ 191) then z else 1) ∨ 1 < (if lo ≤ 160 ∧ 160 ≤ hi ∧ (3 ≤ z → 128 ≤ 128 ∧ 128 ≤ 191) ∧ (4 ≤ z → 128 ≤ 128 ∧ 128 ≤ 191) then z else 1)) := by
  rcases hq with q | q
  · left; rw [if_pos ⟨q.1, q.2, fun _ => by decide, fun _ => by decide⟩]; omega
  · right; rw [if_pos ⟨q.1, q.2, fun _ => by decide, fun _ => by decide⟩]; omega
theorem beg_2 {lo hi z b1 : Nat} (hz : z = 2 ∨ z = 3 ∨ z = 4) : (2 < (if lo ≤ b1 ∧ b1 ≤ hi ∧ (3 ≤ z → 128 ≤ 128 ∧ 128 ≤ 191) ∧ (4 ≤ z → 128 ≤ 128 ∧ 128 ≤ 191) then z else 1) ∨ 2 < (if lo ≤ b1 ∧ b1 ≤ hi ∧ (3 ≤ z → 128 ≤ 160 ∧ 160 ≤ 191) ∧ (4 ≤ z → 128 ≤ 128 ∧ 128 ≤ 191) then z else 1)) ↔ 2 < z ∧ lo ≤ b1 ∧ b1 ≤ hi := by
  constructor
  · intro h
    rcases h with h | h <;> (split at h <;> omega)
  · intro h
    left; rw [if_pos ⟨h.2.1, h.2.2, fun _ => by decide, fun _ => by decide⟩]; exact h.1
theorem beg_3 {lo hi z b1 b2 : Nat} (hz : z = 2 ∨ z = 3 ∨ z = 4) : (3 < (if lo ≤ b1 ∧ b1 ≤ hi ∧ (3 ≤ z → 128 ≤ b2 ∧ b2 ≤ 191) ∧ (4 ≤ z → 128 ≤ 128 ∧ 128 ≤ 191) then z else 1) ∨ 3 < (if lo ≤ b1 ∧ b1 ≤ hi ∧ (3 ≤ z → 128 ≤ b2 ∧ b2 ≤ 191) ∧ (4 ≤ z → 128 ≤ 160 ∧ 160 ≤ 191) then z else 1)) ↔ 3 < z ∧ (lo ≤ b1 ∧ b1 ≤ hi) ∧ 128 ≤ b2 ∧ b2 ≤ 191 := by
  constructor
  · intro h
    rcases h with h | h <;> (split at h <;> omega)
  · intro h
    left; rw [if_pos ⟨h.2.1.1, h.2.1.2, fun _ => h.2.2, fun _ => by decide⟩]; exact h.1
theorem good_1 (t : ByteArray) : good4 t 1 = true ↔ 1 < t.size ∧ (secOf (bt t 0)).1 ≤ bt t 1 ∧ bt t 1 ≤ (secOf (bt t 0)).2 := by rw [good4_iff, if_pos rfl, if_pos rfl]
theorem good_2 (t : ByteArray) : good4 t 2 = true ↔ 2 < t.size ∧ 128 ≤ bt t 2 ∧ bt t 2 ≤ 191 := by rw [good4_iff, if_neg (by decide), if_neg (by decide)]
theorem begB_one (t : ByteArray) (hm : 1 ≤ t.size) (hs : (secOf (bt t 0)).1 ≠ 0) : begB (t.extract 0 1) = true := by
  have hz : (t.extract 0 1).size = 1 := by rw [ByteArray.size_extract]; omega
  rw [begB_iff, hz, wd_one t tailA hm rfl, wd_one t tailB hm rfl, wdN 4 _ _ _ _ (by decide) (by decide) (by decide) (by decide) hs, wdN 4 _ _ _ _ (by decide) (by decide) (by decide) (by decide) hs]
  exact beg_1 (szOf_cases _) (secOf_lo _ hs).2.2.2.2.2
theorem begB_two (t : ByteArray) (hm : 2 ≤ t.size) (hs : (secOf (bt t 0)).1 ≠ 0) : begB (t.extract 0 2) = true ↔ 2 < szOf (bt t 0) ∧ (secOf (bt t 0)).1 ≤ bt t 1 ∧ bt t 1 ≤ (secOf (bt t 0)).2 := by
  have hz : (t.extract 0 2).size = 2 := by rw [ByteArray.size_extract]; omega
  rw [begB_iff, hz, wd_two t tailA hm rfl, wd_two t tailB hm rfl, wdN 5 _ _ _ _ (by decide) (bt_lt t 1) (by decide) (by decide) hs, wdN 5 _ _ _ _ (by decide) (bt_lt t 1) (by decide) (by decide) hs]
  exact beg_2 (szOf_cases _)
theorem begB_three (t : ByteArray) (hm : 3 ≤ t.size) (hs : (secOf (bt t 0)).1 ≠ 0) : begB (t.extract 0 3) = true ↔ 3 < szOf (bt t 0) ∧ ((secOf (bt t 0)).1 ≤ bt t 1 ∧ bt t 1 ≤ (secOf (bt t 0)).2) ∧ 128 ≤ bt t 2 ∧ bt t 2 ≤ 191 := by
  have hz : (t.extract 0 3).size = 3 := by rw [ByteArray.size_extract]; omega
  rw [begB_iff, hz, wd_three t tailA hm rfl, wd_three t tailB hm rfl, wdN 6 _ _ _ _ (by decide) (bt_lt t 1) (bt_lt t 2) (by decide) hs, wdN 6 _ _ _ _ (by decide) (bt_lt t 1) (bt_lt t 2) (by decide) hs]
  exact beg_3 (szOf_cases _)
theorem begB_some (t : ByteArray) (m : Nat) (h1 : 1 ≤ m) (hm : m ≤ t.size) (hs : (secOf (bt t 0)).1 ≠ 0) : begB (t.extract 0 m) = true ↔ m < szOf (bt t 0) ∧ ∀ j, 1 ≤ j → j < m → good4 t j = true := by
  have hsz := szOf_cases (bt t 0)
  rcases Nat.lt_or_ge m 4 with hm4 | hm4
  · have hm3 : m = 1 ∨ m = 2 ∨ m = 3 := by omega
    rcases hm3 with rfl | rfl | rfl
    · exact ⟨fun _ => ⟨by omega, fun j h1 h2 => by omega⟩, fun _ => begB_one t hm hs⟩
    · rw [begB_two t hm hs]
      constructor
      · intro h
        refine ⟨h.1, fun j h1 h2 => ?_⟩
        obtain rfl : j = 1 := by omega
        exact (good_1 t).2 ⟨by omega, h.2⟩
      · intro h
        exact ⟨h.1, ((good_1 t).1 (h.2 1 (by omega) (by omega))).2⟩
    · rw [begB_three t hm hs]
      constructor
      · intro h
        refine ⟨h.1, fun j h1 h2 => ?_⟩
        have : j = 1 ∨ j = 2 := by omega
        rcases this with rfl | rfl
        · exact (good_1 t).2 ⟨by omega, h.2.1⟩
        · exact (good_2 t).2 ⟨by omega, h.2.2⟩
      · intro h
        exact ⟨h.1, ((good_1 t).1 (h.2 1 (by omega) (by omega))).2, ((good_2 t).1 (h.2 2 (by omega) (by omega))).2⟩
  · have hz : (t.extract 0 m).size = m := by rw [ByteArray.size_extract]; omega
    constructor
    · intro h
      rw [begB_iff, hz] at h
      have a := wd_four (t.extract 0 m ++ tailA) 0
      have b := wd_four (t.extract 0 m ++ tailB) 0
      omega
    · intro h
      omega
theorem begLen_none (t : ByteArray) (h : 0 < t.size) (hs : (secOf (bt t 0)).1 = 0) : begLen t = 0 := by
  unfold begLen
  exact scanTo_no (begB_none t 1 (by omega) (by omega) hs)
theorem begLen_some (t : ByteArray) (hs : (secOf (bt t 0)).1 ≠ 0) (k : Nat) (h1 : 1 ≤ k) (hk : k < szOf (bt t 0)) (hg : ∀ j, 1 ≤ j → j < k → good4 t j = true) (hb : good4 t k = false) (h0 : 0 < t.size) : begLen t = k := by
  unfold begLen
  have hkt : k ≤ t.size := by
    rcases Nat.lt_or_ge 1 k with q | q
    · have := (good4_iff.1 (hg (k - 1) (by omega) (by omega))).1; omega
    · omega
  rw [scanTo_all (p := fun n => begB (t.extract 0 (n + 1))) (hi := t.size) (m := k) k 0 (by omega) hkt (fun j _ hj => (begB_some t (j + 1) (by omega) (by omega) hs).2 ⟨by omega, fun i h1 h2 => hg i h1 (by omega)⟩)]
  by_cases hlt : k < t.size
  · refine scanTo_no ?_
    rw [Bool.eq_false_iff]
    intro q
    have := (begB_some t (k + 1) (by omega) (by omega) hs).1 q
    have := this.2 k h1 (by omega)
    rw [hb] at this
    cases this
  · exact scanTo_end hlt
theorem seqV_zero {t : ByteArray} (h : 0 < t.size) (e : seqV t = (0, 0)) : badB t 0 = true := by
  unfold seqV at e
  by_cases q : rn t 0 = 65533 ∧ wd t 0 = 1
  · unfold badB; exact decide_eq_true q
  · rw [if_neg (by omega), Prod.mk.injEq] at e
    have := wd_pos t 0
    omega
theorem seqV_some {t : ByteArray} {a b : Nat} (h : 0 < t.size) (ha : a ≠ 0) (e : seqV t = ((a : Int), (b : Int))) : badB t 0 = false ∧ wd t 0 = a ∧ rn t 0 = b := by
  unfold seqV at e
  by_cases q : rn t 0 = 65533 ∧ wd t 0 = 1
  · rw [if_pos (.inr q), Prod.mk.injEq] at e
    omega
  · rw [if_neg (by omega), Prod.mk.injEq] at e
    exact ⟨by unfold badB; exact decide_eq_false q, by omega, by omega⟩
theorem seq4_end {t : ByteArray} (h : ¬ 0 < t.size) : seq4V t = (0, 0, false) := by unfold seq4V; rw [if_pos (by omega)]
theorem seq4_ascii {t : ByteArray} (h : 0 < t.size) (hb : bt t 0 < 128) : seq4V t = (bt t 0, 1, true) := by
  obtain ⟨h1, h2, h3⟩ := seqV_some (a := 1) h (by decide) (seqV_ascii t h hb)
  unfold seq4V
  rw [if_neg (by omega), if_neg (by rw [h1]; decide), h2, h3]
theorem seq4_none {t : ByteArray} (h : 0 < t.size) (hb : 128 ≤ bt t 0) (hs : (secOf (bt t 0)).1 = 0) : seq4V t = (0, 0, false) := by
  have h1 := seqV_zero h (seqV_none t h hb hs)
  unfold seq4V
  rw [if_neg (by omega), if_pos h1, begLen_none t h hs]
theorem seq4_bad {t : ByteArray} (h : 0 < t.size) (hs : (secOf (bt t 0)).1 ≠ 0) (k : Nat) (h1 : 1 ≤ k) (hk : k < szOf (bt t 0)) (hg : ∀ j, 1 ≤ j → j < k → good4 t j = true) (hb : good4 t k = false) : seq4V t = (0, k, false) := by
  have hq := secOf_lo _ hs
  have hx : t.size < 2 ∨ bt t 1 < (secOf (bt t 0)).1 ∨ (secOf (bt t 0)).2 < bt t 1 ∨ ∃ k, 1 ≤ k ∧ k < szOf (bt t 0) ∧ (t.size ≤ k ∨ bt t k < 128 ∨ 191 < bt t k) := by
    have hn : ¬ (k < t.size ∧ (if k = 1 then (secOf (bt t 0)).1 else 128) ≤ bt t k ∧ bt t k ≤ (if k = 1 then (secOf (bt t 0)).2 else 191)) := fun q => by rw [good4_iff.2 q] at hb; cases hb
    by_cases e : k = 1
    · subst e
      rw [if_pos rfl, if_pos rfl] at hn
      omega
    · rw [if_neg e, if_neg e] at hn
      exact .inr (.inr (.inr ⟨k, h1, hk, by omega⟩))
  have hz := seqV_zero h (seqV_bad t h (by omega) hs hx)
  unfold seq4V
  rw [if_neg (by omega), if_pos hz, begLen_some t hs k h1 hk hg hb h]
theorem seq4_good {t : ByteArray} (h : 0 < t.size) (hs : (secOf (bt t 0)).1 ≠ 0) (hg : ∀ j, 1 ≤ j → j < szOf (bt t 0) → good4 t j = true) : seq4V t = (accOf t (szOf (bt t 0)), szOf (bt t 0), true) := by
  have hq := secOf_lo _ hs
  have hsz := szOf_cases (bt t 0)
  have g1 := good4_iff.1 (hg 1 (by omega) (by omega))
  rw [if_pos rfl, if_pos rfl] at g1
  have hgo : Goes t (szOf (bt t 0)) := fun j h1 h2 => by
    have := good4_iff.1 (hg j h1 h2)
    by_cases e : j = 1
    · subst e; omega
    · rw [if_neg e, if_neg e] at this; exact this
  obtain ⟨q1, q2, q3⟩ := seqV_some h (by omega) (seqV_good t h (by omega) hs g1.2.1 g1.2.2 hgo)
  unfold seq4V
  rw [if_neg (by omega), if_neg (by rw [q1]; decide), q2, q3]
end Go.Proofs.YtcnhkhjkeemafaaDoor
/- Lines and columns, spot by spot: plain mathematics. -/
namespace Go.Proofs.YtcnhkhjkeemafaaDoor
open Go.RowKit Go.Shelf
set_option linter.unusedVariables false
theorem bd_pre (s : ByteArray) (i e : Nat) (h : bdB s i = true) (hi : i ≤ e) (he : e ≤ s.size) : bdB (s.extract 0 e) i = true := by
  rw [bd_iff] at h ⊢
  intro n h4 h1 hn
  have hz : (s.extract 0 e).size = e := by rw [ByteArray.size_extract]; omega
  by_cases hb : rn (s.extract 0 e) (i - n) = 65533 ∧ wd (s.extract 0 e) (i - n) = 1
  · omega
  · have := decode_grow (s.extract 0 e) (s.extract e s.size) (i - n) (by omega) hb
    rw [cat_split s e he] at this
    unfold wd
    rw [← this]
    exact h n h4 h1 hn
theorem runes_spot (s : ByteArray) (i : Nat) (hi : i < s.size) : runesL (s.extract i (i + wd s i)) = [((rn s i : Nat) : Int)] := by
  have hr := wd_room s i hi
  have hp := wd_pos s i
  have hz : (s.extract i (i + wd s i)).size = wd s i := by rw [ByteArray.size_extract]; omega
  have hcat : s.extract i (i + wd s i) ++ s.extract (i + wd s i) s.size = rst s i := by
    rw [ByteArray.extract_append_extract]
    congr 1 <;> omega
  have hd : Utf8.decode (rst s i) 0 = Utf8.decode s i := decode_suffix s i 0 (by omega)
  have h1 : wd (rst s i) 0 = wd s i := by unfold wd; rw [hd]
  have e := decode_part (s.extract i (i + wd s i)) (s.extract (i + wd s i) s.size) 0 (by omega) (by rw [hcat, h1, hz]; omega)
  rw [hcat, hd] at e
  have hw : wd (s.extract i (i + wd s i)) 0 = wd s i := by show (Utf8.decode _ 0).2 = _; rw [e]
  have hs : starts (s.extract i (i + wd s i)) = [0] := by
    unfold starts
    obtain ⟨m, hm⟩ : ∃ m, (s.extract i (i + wd s i)).size = m + 1 := ⟨wd s i - 1, by omega⟩
    rw [hm, startsFrom_cons _ m 0 (by omega), hw, startsFrom_end _ _ _ (by omega)]
  unfold runesL
  rw [hs]
  simp only [List.map_cons, List.map_nil]
  show [(((Utf8.decode (s.extract i (i + wd s i)) 0).1 : Nat) : Int)] = _
  rw [e]
theorem runes_snoc (s : ByteArray) (i : Nat) (h : bdB s i = true) (hi : i < s.size) : runesL (s.extract 0 (i + wd s i)) = runesL (s.extract 0 i) ++ [((rn s i : Nat) : Int)] := by
  have hr := wd_room s i hi
  have hz : (s.extract 0 (i + wd s i)).size = i + wd s i := by rw [ByteArray.size_extract]; omega
  rw [runesL_split (s.extract 0 (i + wd s i)) i (by omega) (bd_pre s i _ h (by omega) hr), hz, ext_pre s _ _ (by omega), ext_mid, runes_spot s i hi]
theorem cutAt_in (s : ByteArray) (i k : Nat) (h : bdB s i = true) (h1 : i ≤ k) (h2 : k < i + wd s i) : cutAt s k = i := by
  have a := cutAt_max s k i h1 h
  have b := cutAt_le s k
  have c := cutAt_bd s k
  by_cases e : cutAt s k = i
  · exact e
  · rw [bd_within s i (cutAt s k) (by omega) (by omega)] at c
    cases c
/-- Line and column of a place, as the reference counts them. -/
def lcAt (s : ByteArray) (i : Nat) : Nat × Nat := lcR (1, 1) (runesL (s.extract 0 i))
theorem lcAt_zero (s : ByteArray) : lcAt s 0 = (1, 1) := by
  have : s.extract 0 0 = ByteArray.empty := toList_nil _ (by rw [ByteArray.size_extract]; omega)
  unfold lcAt
  rw [this]
  rfl
theorem lcAt_step (s : ByteArray) (i : Nat) (h : bdB s i = true) (hi : i < s.size) : lcAt s (i + wd s i) = if bt s i = 10 then ((lcAt s i).1 + 1, 1) else ((lcAt s i).1, (lcAt s i).2 + 1) := by
  unfold lcAt
  rw [runes_snoc s i h hi, lcR_app, lcR_cons, lcR_nil]
  by_cases e : bt s i = 10
  · rw [if_pos e, if_pos (by have := (rn_ten s i).2 e; omega)]
  · rw [if_neg e, if_neg (fun q => e ((rn_ten s i).1 (by omega)))]
theorem whL_at (s : ByteArray) (k : Nat) : whL s k = lcAt s (cutAt s k) := whL_runes s k
theorem whL_bd (s : ByteArray) (k : Nat) (h : bdB s k = true) : whL s k = lcAt s k := by rw [whL_at, cutAt_self s k h]
/-- How far a spot reaches, by what the reference reads there. -/
theorem seq4_wd (s : ByteArray) (i : Nat) (hi : i < s.size) : (if (seq4V (rst s i)).2.2 = true then i + (seq4V (rst s i)).2.1 else i + 1) = i + wd s i := by
  have hd : Utf8.decode (rst s i) 0 = Utf8.decode s i := decode_suffix s i 0 (by omega)
  have hz := rst_size s i
  by_cases hb : badB (rst s i) 0 = true
  · have e : seq4V (rst s i) = (0, begLen (rst s i), false) := by unfold seq4V; rw [if_neg (by omega), if_pos hb]
    rw [e, if_neg (fun q => by cases q)]
    unfold badB rn wd at hb
    rw [hd] at hb
    have := of_decide_eq_true hb
    show i + 1 = i + (Utf8.decode s i).2
    omega
  · have e : seq4V (rst s i) = (rn (rst s i) 0, wd (rst s i) 0, true) := by unfold seq4V; rw [if_neg (by omega), if_neg hb]
    rw [e, if_pos rfl]
    show i + (Utf8.decode (rst s i) 0).2 = _
    rw [hd]
end Go.Proofs.YtcnhkhjkeemafaaDoor
/- Blanks and remarks, place by place: plain mathematics. -/
namespace Go.Proofs.YtcnhkhjkeemafaaDoor
open Go.RowKit Go.Shelf
set_option linter.unusedVariables false
theorem rst_rst (s : ByteArray) (a k : Nat) (h : a ≤ s.size) : (rst s a).extract k (rst s a).size = rst s (a + k) := by
  unfold rst
  rw [ByteArray.size_extract, ByteArray.extract_extract, Nat.min_self]
  congr 1
  omega
theorem rst_at (s : ByteArray) (a k : Nat) (h : a ≤ s.size) : bt (rst s a) k = bt s (a + k) := by unfold bt; rw [get_suffix s a k h]
theorem gap_shift (t : ByteArray) (a : Nat) (ha : a ≤ t.size) : ∀ f k, gapGo t f (a + k) = (a + (gapGo (rst t a) f k).1, (gapGo (rst t a) f k).2)
  | 0, k => by
    unfold gapGo
    rw [rst_size, Prod.mk.injEq]
    exact ⟨by show t.size = a + (t.size - a); omega, rfl⟩
  | f + 1, k => by
    unfold gapGo
    rw [rst_at t a k ha, rst_rst t a k ha, rst_size]
    by_cases h : a + k < t.size
    · rw [if_pos h, if_pos (show k < t.size - a by omega)]
      by_cases hb : blankB (bt t (a + k)) = true
      · rw [if_pos hb, if_pos hb]
        exact gap_shift t a ha f (k + 1)
      · rw [if_neg hb, if_neg hb]
        by_cases hr : bt t (a + k) = 35
        · rw [if_pos hr, if_pos hr]
          show (if (remV (rst t (a + k))).2 = true then _ else _) = _
          by_cases ho : (remV (rst t (a + k))).2 = true
          · rw [if_pos ho, if_pos ho, Nat.add_assoc]
            exact gap_shift t a ha f _
          · rw [if_neg ho, if_neg ho, Nat.add_assoc]
        · rw [if_neg hr, if_neg hr]
    · rw [if_neg h, if_neg (show ¬ k < t.size - a by omega), Prod.mk.injEq]
      exact ⟨by show t.size = a + (t.size - a); omega, rfl⟩
theorem nlAt_pos (t : ByteArray) (h : 0 < t.size) (hb : bt t 0 ≠ 10) : 1 ≤ nlAt t := by
  unfold nlAt
  rw [scanTo_go h (by simp [hb])]
  exact (scanTo_le _ (by omega)).1
theorem remV_pos2 (t : ByteArray) (h : 0 < t.size) (hb : bt t 0 ≠ 10) (ho : (remV t).2 = true) : 1 ≤ (remV t).1 ∧ (remV t).1 ≤ t.size := by
  have h1 := nlAt_pos t h hb
  have h2 := nlAt_le t
  unfold remV at ho ⊢
  split at ho
  · rename_i e
    show 1 ≤ (t.extract 0 (nlAt t)).size ∧ (t.extract 0 (nlAt t)).size ≤ _
    rw [ByteArray.size_extract]
    omega
  · cases ho
theorem gap_fuel (t : ByteArray) : ∀ f g n, t.size ≤ n + f → t.size ≤ n + g → n ≤ t.size → gapGo t f n = gapGo t g n
  | 0, 0, n, _, _, _ => rfl
  | 0, g + 1, n, h, _, _ => by unfold gapGo; rw [if_neg (by omega)]
  | f + 1, 0, n, _, h, _ => by unfold gapGo; rw [if_neg (by omega)]
  | f + 1, g + 1, n, h1, h2, hn => by
    unfold gapGo
    by_cases h : n < t.size
    · rw [if_pos h, if_pos h]
      by_cases hb : blankB (bt t n) = true
      · rw [if_pos hb, if_pos hb]
        exact gap_fuel t f g (n + 1) (by omega) (by omega) (by omega)
      · rw [if_neg hb, if_neg hb]
        by_cases hr : bt t n = 35
        · rw [if_pos hr, if_pos hr]
          by_cases ho : (remV (t.extract n t.size)).2 = true
          · rw [if_pos ho, if_pos ho]
            have hz : 0 < (rst t n).size := by rw [rst_size]; omega
            have h0 : bt (rst t n) 0 = 35 := by rw [rst_at t n 0 (by omega)]; exact hr
            have hp := remV_pos2 (rst t n) hz (by rw [h0]; decide) ho
            rw [rst_size] at hp
            show gapGo t f (n + (remV (rst t n)).1) = gapGo t g (n + (remV (rst t n)).1)
            exact gap_fuel t f g _ (by omega) (by omega) (by omega)
          · rw [if_neg ho, if_neg ho]
        · rw [if_neg hr, if_neg hr]
    · rw [if_neg h, if_neg h]
/-- Behind blanks and remarks, from a place on. -/
def gapA (s : ByteArray) (p : Nat) : Nat × Bool := (p + (gapV (rst s p)).1, (gapV (rst s p)).2)
theorem gapA_from (s : ByteArray) (p k f : Nat) (hp : p + k ≤ s.size) (hf : s.size ≤ p + k + f) : (p + (gapGo (rst s p) f k).1, (gapGo (rst s p) f k).2) = gapA s (p + k) := by
  unfold gapA gapV
  have h := gap_shift (rst s p) k (by rw [rst_size]; omega) f 0
  rw [Nat.add_zero] at h
  have e : rst (rst s p) k = rst s (p + k) := rst_rst s p k (by omega)
  rw [e] at h
  rw [h, gap_fuel (rst s (p + k)) f (rst s (p + k)).size 0 (by rw [rst_size]; omega) (by omega) (by omega), Prod.mk.injEq]
  exact ⟨by show p + (k + _) = _; omega, rfl⟩
theorem gapA_end (s : ByteArray) (p : Nat) (h : s.size ≤ p) (h2 : p ≤ s.size) : gapA s p = (p, true) := by
  obtain rfl : p = s.size := by omega
  unfold gapA
  have e : rst s s.size = ByteArray.empty := toList_nil _ (by rw [rst_size]; omega)
  rw [e]
  rfl
theorem gapA_blank (s : ByteArray) (p : Nat) (h : p < s.size) (hb : blankB (bt s p) = true) : gapA s p = gapA s (p + 1) := by
  rw [← gapA_from s p 1 (s.size - p - 1) (by omega) (by omega)]
  unfold gapA gapV
  have hz := rst_size s p
  obtain ⟨f, hf⟩ : ∃ f, s.size - p = f + 1 := ⟨s.size - p - 1, by omega⟩
  have e : gapGo (rst s p) (rst s p).size 0 = gapGo (rst s p) (s.size - p - 1) 1 := by
    rw [hz, show s.size - p - 1 = f by omega, hf]
    conv => lhs; unfold gapGo
    rw [if_pos (by omega), rst_at s p 0 (by omega), Nat.add_zero, if_pos hb]
  rw [e]
theorem gapA_stop (s : ByteArray) (p : Nat) (h : p < s.size) (hb : blankB (bt s p) = false) (hr : bt s p ≠ 35) : gapA s p = (p, true) := by
  unfold gapA
  have hg : gapV (rst s p) = (0, true) := by
    have hz := rst_size s p
    unfold gapV
    obtain ⟨f, hf⟩ : ∃ f, s.size - p = f + 1 := ⟨s.size - p - 1, by omega⟩
    rw [hz, hf]
    unfold gapGo
    rw [if_pos (by omega), rst_at s p 0 (by omega), Nat.add_zero, if_neg (by rw [hb]; decide), if_neg hr]
  rw [hg]
  rfl
theorem gapA_sharp (s : ByteArray) (p : Nat) (h : p < s.size) (hr : bt s p = 35) : gapA s p = if (remV (rst s p)).2 = true then gapA s (p + (remV (rst s p)).1) else (p + (remV (rst s p)).1, false) := by
  have hz := rst_size s p
  obtain ⟨f, hf⟩ : ∃ f, s.size - p = f + 1 := ⟨s.size - p - 1, by omega⟩
  have h0 : bt (rst s p) 0 = 35 := by rw [rst_at s p 0 (by omega)]; exact hr
  have e : gapGo (rst s p) (rst s p).size 0 = if (remV (rst s p)).2 = true then gapGo (rst s p) f ((remV (rst s p)).1) else ((remV (rst s p)).1, false) := by
    rw [hz, hf]
    conv => lhs; unfold gapGo
    have hx : (rst s p).extract 0 (rst s p).size = rst s p := ByteArray.extract_zero_size
    rw [if_pos (by omega), h0, if_neg (by decide), if_pos rfl, hx, Nat.zero_add]
  by_cases ho : (remV (rst s p)).2 = true
  · have hp := remV_pos2 (rst s p) (by omega) (by rw [h0]; decide) ho
    rw [if_pos ho] at e ⊢
    rw [← gapA_from s p _ f (by omega) (by omega)]
    show (p + (gapGo (rst s p) (rst s p).size 0).1, (gapGo (rst s p) (rst s p).size 0).2) = _
    rw [e]
  · rw [if_neg ho] at e ⊢
    show (p + (gapGo (rst s p) (rst s p).size 0).1, (gapGo (rst s p) (rst s p).size 0).2) = _
    rw [e]
/-- Where the line ends. -/
def lnEnd (s : ByteArray) (p : Nat) : Nat := p + nlAt (rst s p)
/-- In a remark, from a place on. -/
def remA (s : ByteArray) (p : Nat) : Nat × Bool := match badOf (s.extract p (lnEnd s p)) with
  | none => gapA s (lnEnd s p)
  | some x => (p + x + begLen ((s.extract p (lnEnd s p)).extract x (s.extract p (lnEnd s p)).size), false)
theorem lnEnd_le (s : ByteArray) (p : Nat) (h : p ≤ s.size) : p ≤ lnEnd s p ∧ lnEnd s p ≤ s.size := by
  have := nlAt_le (rst s p)
  rw [rst_size] at this
  unfold lnEnd
  omega
theorem scanTo_shift (q : Nat → Bool) (hi a : Nat) : ∀ k n, hi ≤ n + k → scanTo q (a + hi) (a + n) = a + scanTo (fun j => q (a + j)) hi n
  | 0, n, h => by rw [scanTo_end (by omega), scanTo_end (by omega)]
  | k + 1, n, h => by
    by_cases hn : n < hi
    · cases hp : q (a + n) with
      | true => rw [scanTo_go (by omega) hp, scanTo_go (p := fun j => q (a + j)) hn hp]; exact scanTo_shift q hi a k (n + 1) (by omega)
      | false => rw [scanTo_no hp, scanTo_no (p := fun j => q (a + j)) hp]
    · rw [scanTo_end (by omega), scanTo_end hn]
theorem lnEnd_eq (s : ByteArray) (p : Nat) (h : p ≤ s.size) : lnEnd s p = scanTo (fun n => !decide (bt s n = 10)) s.size p := by
  unfold lnEnd nlAt
  rw [rst_size]
  have := scanTo_shift (fun n => !decide (bt s n = 10)) (s.size - p) p (s.size - p) 0 (by omega)
  rw [Nat.add_zero, show p + (s.size - p) = s.size by omega] at this
  have hf : (fun n => !decide (bt (rst s p) n = 10)) = (fun j => !decide (bt s (p + j) = 10)) := by funext j; rw [rst_at s p j h]
  rw [this, hf]
theorem scanTo_stop (q : Nat → Bool) (hi : Nat) : ∀ k n, hi ≤ n + k → scanTo q hi n < hi → q (scanTo q hi n) = false
  | 0, n, h, hl => by rw [scanTo_end (by omega)] at hl; omega
  | k + 1, n, h, hl => by
    by_cases hn : n < hi
    · cases hp : q n with
      | true => rw [scanTo_go hn hp] at hl ⊢; exact scanTo_stop q hi k (n + 1) (by omega) hl
      | false => rw [scanTo_no hp]; exact hp
    · rw [scanTo_end hn] at hl; omega
theorem lnEnd_on (s : ByteArray) (p d : Nat) (h : p + d ≤ s.size) (hn : ∀ j, p ≤ j → j < p + d → bt s j ≠ 10) : lnEnd s p = lnEnd s (p + d) := by
  rw [lnEnd_eq s p (by omega), lnEnd_eq s (p + d) h]
  exact scanTo_all (p := fun n => !decide (bt s n = 10)) d p rfl h (fun j h1 h2 => by simp [hn j h1 h2])
theorem remA_end (s : ByteArray) (p : Nat) (h : p = s.size) : remA s p = (p, true) := by
  subst h
  have e := lnEnd_le s s.size (Nat.le_refl _)
  have e1 : lnEnd s s.size = s.size := by omega
  unfold remA
  have e2 : s.extract s.size (lnEnd s s.size) = ByteArray.empty := toList_nil _ (by rw [ByteArray.size_extract]; omega)
  rw [e2, e1]
  exact gapA_end s s.size (Nat.le_refl _) (Nat.le_refl _)
theorem remA_nl (s : ByteArray) (p : Nat) (h : p < s.size) (hb : bt s p = 10) : remA s p = gapA s (p + 1) := by
  have e1 : lnEnd s p = p := by rw [lnEnd_eq s p (by omega)]; exact scanTo_no (by simp [hb])
  unfold remA
  have e2 : s.extract p (lnEnd s p) = ByteArray.empty := toList_nil _ (by rw [ByteArray.size_extract]; omega)
  rw [e2, e1]
  exact gapA_blank s p h (by rw [hb]; decide)
theorem find_map {α β : Type} (f : α → β) (q : β → Bool) : ∀ l : List α, (l.map f).find? q = (l.find? (fun a => q (f a))).map f
  | [] => rfl
  | a :: l => by
    rw [List.map_cons]
    by_cases h : q (f a) = true
    · rw [List.find?_cons_of_pos h, List.find?_cons_of_pos (p := fun a => q (f a)) h]; rfl
    · rw [List.find?_cons_of_neg h, List.find?_cons_of_neg (p := fun a => q (f a)) h]; exact find_map f q l
/-- A text that begins with a right spot: its first bad place is that of what is behind. -/
theorem badOf_behind (v u : ByteArray) (hb : bdB (v ++ u) v.size = true) (hv : ∀ i ∈ starts v, badB v i = false) : badOf (v ++ u) = (badOf u).map (v.size + ·) := by
  obtain ⟨e, hd⟩ := starts_both v u hb
  unfold badOf
  rw [e, List.find?_append]
  have h1 : (starts v).find? (badB (v ++ u)) = none := by
    rw [List.find?_eq_none]
    intro i hi
    have e2 : badB (v ++ u) i = badB v i := by unfold badB; simp only [rn, wd, hd i hi]
    rw [e2, hv i hi]
    decide
  rw [h1, Option.none_or, find_map]
  congr 2
  funext j
  unfold badB
  simp only [rn, wd, decode_behind]
theorem remA_behind (s : ByteArray) (p d : Nat) (hd : p + d ≤ s.size) (hn : ∀ j, p ≤ j → j < p + d → bt s j ≠ 10) (hv : ∀ i ∈ starts (s.extract p (p + d)), badB (s.extract p (p + d)) i = false) : remA s p = remA s (p + d) := by
  have e0 := lnEnd_on s p d hd hn
  have hl := lnEnd_le s (p + d) hd
  have hcat : s.extract p (p + d) ++ s.extract (p + d) (lnEnd s (p + d)) = s.extract p (lnEnd s (p + d)) := by
    rw [ByteArray.extract_append_extract]
    congr 1 <;> omega
  have hz : (s.extract p (p + d)).size = d := by rw [ByteArray.size_extract]; omega
  have hj := joins_valid_left (s.extract p (p + d)) (s.extract (p + d) (lnEnd s (p + d))) hv
  rw [joins_bd] at hj
  have hbo := badOf_behind _ _ hj hv
  rw [hcat, hz] at hbo
  unfold remA
  rw [e0, hbo]
  cases hq : badOf (s.extract (p + d) (lnEnd s (p + d))) with
  | none => rfl
  | some x =>
    show (p + (d + x) + begLen _, false) = (p + d + x + begLen _, false)
    have e1 : (s.extract p (lnEnd s (p + d))).extract (d + x) (s.extract p (lnEnd s (p + d))).size = (s.extract (p + d) (lnEnd s (p + d))).extract x (s.extract (p + d) (lnEnd s (p + d))).size := by
      rw [ByteArray.size_extract, ByteArray.size_extract, ByteArray.extract_extract, ByteArray.extract_extract]
      congr 1 <;> omega
    rw [e1, Nat.add_assoc p d x]
theorem remA_spot (s : ByteArray) (p : Nat) (h : p < s.size) (hb : bt s p ≠ 10) (hg : badB s p = false) : remA s p = remA s (p + wd s p) := by
  have hr := wd_room s p h
  have hz : (s.extract p (p + wd s p)).size = wd s p := by rw [ByteArray.size_extract]; have := wd_pos s p; omega
  refine remA_behind s p (wd s p) hr (fun j h1 h2 => ?_) ?_
  · by_cases e : j = p
    · rw [e]; exact hb
    · have := wd_cont s p (j - p) (by omega) (by omega)
      rw [show p + (j - p) = j by omega] at this
      omega
  · have hcat : s.extract p (p + wd s p) ++ s.extract (p + wd s p) s.size = rst s p := by
      rw [ByteArray.extract_append_extract]
      congr 1 <;> omega
    have hd : Utf8.decode (rst s p) 0 = Utf8.decode s p := decode_suffix s p 0 (by omega)
    have hp := wd_pos s p
    have e := decode_part (s.extract p (p + wd s p)) (s.extract (p + wd s p) s.size) 0 (by omega) (by rw [hcat, hz]; unfold wd; rw [hd]; omega)
    rw [hcat, hd] at e
    have hs : starts (s.extract p (p + wd s p)) = [0] := by
      unfold starts
      obtain ⟨m, hm⟩ : ∃ m, (s.extract p (p + wd s p)).size = m + 1 := ⟨wd s p - 1, by omega⟩
      rw [hm, startsFrom_cons _ m 0 (by omega), startsFrom_end _ _ _ (by show ¬ 0 + (Utf8.decode _ 0).2 < _; rw [e]; show ¬ 0 + wd s p < _; omega)]
    intro i hi
    rw [hs] at hi
    obtain rfl : i = 0 := by simpa using hi
    unfold badB rn wd at hg ⊢
    rw [e]
    exact hg
theorem badB_ascii' (s : ByteArray) (i : Nat) (h : bt s i < 128) : badB s i = false := by
  have t := at_told s i
  unfold badB
  refine decide_eq_false ?_
  rintro ⟨a, b⟩
  rcases t.one b with q | q
  · omega
  · simp only [rn] at a; omega
theorem gapA_rem (s : ByteArray) (p : Nat) (h : p < s.size) (hr : bt s p = 35) : gapA s p = remA s (p + 1) := by
  have hb : badB s p = false := badB_ascii' s p (by omega)
  have hw : wd s p = 1 := by
    rcases Nat.lt_or_ge (wd s p) 2 with q | q
    · have := wd_pos s p; omega
    · have := wd_lead s p q; omega
  rw [← hw, ← remA_spot s p h (by omega) hb, gapA_sharp s p h hr]
  have hl := lnEnd_le s p (by omega)
  have e1 : (rst s p).extract 0 (nlAt (rst s p)) = s.extract p (lnEnd s p) := by
    unfold lnEnd rst
    rw [ByteArray.extract_extract, Nat.add_zero]
    congr 1
    have := nlAt_le (rst s p)
    rw [rst_size] at this
    unfold rst at this
    omega
  have hz : (s.extract p (lnEnd s p)).size = lnEnd s p - p := by rw [ByteArray.size_extract]; omega
  have e2 : remV (rst s p) = match badOf (s.extract p (lnEnd s p)) with
    | none => (lnEnd s p - p, true)
    | some x => (x + begLen ((s.extract p (lnEnd s p)).extract x (s.extract p (lnEnd s p)).size), false) := by
    unfold remV
    rw [e1]
    cases badOf (s.extract p (lnEnd s p)) with
    | none => show (_, true) = (_, true); rw [hz]
    | some x => rfl
  unfold remA
  cases hq : badOf (s.extract p (lnEnd s p)) with
  | none =>
    rw [hq] at e2
    rw [e2]
    show (if true = true then gapA s (p + (lnEnd s p - p)) else _) = _
    rw [if_pos rfl, show p + (lnEnd s p - p) = lnEnd s p by omega]
  | some x =>
    rw [hq] at e2
    rw [e2]
    show (if false = true then _ else (p + (x + begLen _), false)) = (p + x + begLen _, false)
    rw [if_neg (by decide), Nat.add_assoc]
theorem first_bad (t : ByteArray) (h : 0 < t.size) (hs : (secOf (bt t 0)).1 ≠ 0) (hb : badB t 0 = true) : ∃ k, 1 ≤ k ∧ k < szOf (bt t 0) ∧ (∀ j, 1 ≤ j → j < k → good4 t j = true) ∧ good4 t k = false := by
  have hne : ¬ ∀ j, 1 ≤ j → j < szOf (bt t 0) → good4 t j = true := fun q => by
    have e := seq4_good h hs q
    unfold seq4V at e
    rw [if_neg (by omega), if_pos hb] at e
    exact absurd (congrArg (fun x => x.2.2) e) (by simp)
  have hsz := szOf_cases (bt t 0)
  cases g1 : good4 t 1 with
  | false => exact ⟨1, by omega, by omega, fun j a b => by omega, g1⟩
  | true =>
    by_cases h3 : szOf (bt t 0) = 2
    · exact absurd (fun j a b => by obtain rfl : j = 1 := by omega
                                    exact g1) hne
    · cases g2 : good4 t 2 with
      | false => exact ⟨2, by omega, by omega, fun j a b => by obtain rfl : j = 1 := by omega
                                                               exact g1, g2⟩
      | true =>
        by_cases h4 : szOf (bt t 0) = 3
        · refine absurd (fun j a b => ?_) hne
          have : j = 1 ∨ j = 2 := by omega
          rcases this with rfl | rfl
          · exact g1
          · exact g2
        · cases g3 : good4 t 3 with
          | false =>
            refine ⟨3, by omega, by omega, fun j a b => ?_, g3⟩
            have : j = 1 ∨ j = 2 := by omega
            rcases this with rfl | rfl
            · exact g1
            · exact g2
          | true =>
            refine absurd (fun j a b => ?_) hne
            have : j = 1 ∨ j = 2 ∨ j = 3 := by omega
            rcases this with rfl | rfl | rfl
            · exact g1
            · exact g2
            · exact g3
theorem begLen_line (t : ByteArray) (m : Nat) (h1 : 1 ≤ m) (hm : m ≤ t.size) (he : m = t.size ∨ bt t m = 10) (hb : badB t 0 = true) : begLen (t.extract 0 m) = begLen t := by
  have hz : (t.extract 0 m).size = m := by rw [ByteArray.size_extract]; omega
  have h0 : bt (t.extract 0 m) 0 = bt t 0 := bt_pre t m 0 (by omega) hm
  by_cases hs : (secOf (bt t 0)).1 = 0
  · rw [begLen_none t (by omega) hs, begLen_none _ (by omega) (by rw [h0]; exact hs)]
  · obtain ⟨k, k1, k2, k3, k4⟩ := first_bad t (by omega) hs hb
    have hq := secOf_lo _ hs
    have hkm : k ≤ m := by
      rcases Nat.lt_or_ge m k with q | q
      · have g := good4_iff.1 (k3 m h1 q)
        rcases he with e | e
        · omega
        · rw [e] at g
          split at g <;> omega
      · exact q
    rw [begLen_some t hs k k1 k2 k3 k4 (by omega)]
    refine begLen_some _ (by rw [h0]; exact hs) k k1 (by rw [h0]; exact k2) (fun j a b => ?_) ?_ (by omega)
    · have g := good4_iff.1 (k3 j a b)
      refine good4_iff.2 ⟨by omega, ?_⟩
      rw [h0, bt_pre t m j (by omega) hm]
      exact g.2
    · rw [Bool.eq_false_iff]
      intro g
      have g := good4_iff.1 g
      rw [h0, bt_pre t m k (by omega) hm] at g
      rw [good4_iff.2 ⟨by omega, g.2⟩] at k4
      cases k4
theorem bad_line (s : ByteArray) (p L : Nat) (hln : p < L) (hl : L ≤ s.size) (hend : L = s.size ∨ bt s L = 10) (hb : badB s p = true) : badOf (s.extract p L) = some 0 ∧ begLen (s.extract p L) = begLen (rst s p) := by
  have hz : (s.extract p L).size = L - p := by rw [ByteArray.size_extract]; omega
  have e1 : (rst s p).extract 0 (L - p) = s.extract p L := by
    unfold rst
    rw [ByteArray.extract_extract, Nat.add_zero, show min (p + (L - p)) s.size = L by omega]
  have hd : Utf8.decode (rst s p) 0 = Utf8.decode s p := decode_suffix s p 0 (by omega)
  have hbt : badB (rst s p) 0 = true := by unfold badB rn wd at hb ⊢; rw [hd]; exact hb
  have hbu : badB (s.extract p L) 0 = true := by
    cases q : badB (s.extract p L) 0 with
    | true => rfl
    | false =>
      have hg : ¬ (rn (s.extract p L) 0 = 65533 ∧ wd (s.extract p L) 0 = 1) := by simpa [badB] using q
      have hcat : s.extract p L ++ s.extract L s.size = rst s p := by rw [ByteArray.extract_append_extract, Nat.min_eq_left (by omega), Nat.max_eq_right hl]
      have := decode_grow (s.extract p L) (s.extract L s.size) 0 (by omega) hg
      rw [hcat] at this
      have e : badB (rst s p) 0 = badB (s.extract p L) 0 := by unfold badB; simp only [rn, wd, this]
      rw [e, q] at hbt
      exact hbt
  refine ⟨?_, ?_⟩
  · unfold badOf
    obtain ⟨r, hr⟩ := starts_head (s.extract p L) (by omega)
    rw [hr, List.find?_cons_of_pos hbu]
  · have := begLen_line (rst s p) (L - p) (by omega) (by rw [rst_size]; omega) (by
      rcases hend with e | e
      · left; rw [rst_size, e]
      · right; rw [rst_at s p _ (by omega), show p + (L - p) = L by omega]; exact e) hbt
    rwa [e1] at this
theorem remA_bad (s : ByteArray) (p : Nat) (h : p < s.size) (hb : badB s p = true) : remA s p = (p + begLen (rst s p), false) := by
  have hb10 : bt s p ≠ 10 := fun e => by rw [badB_ascii' s p (by omega)] at hb; cases hb
  have hln : p < lnEnd s p := by
    have := nlAt_pos (rst s p) (by rw [rst_size]; omega) (by rw [rst_at s p 0 (by omega)]; exact hb10)
    unfold lnEnd
    omega
  have hl := lnEnd_le s p (by omega)
  have hend : lnEnd s p = s.size ∨ bt s (lnEnd s p) = 10 := by
    by_cases q : lnEnd s p < s.size
    · right
      have := scanTo_stop (fun n => !decide (bt s n = 10)) s.size (s.size - p) p (by omega)
      rw [← lnEnd_eq s p (by omega)] at this
      simpa using this q
    · left; omega
  unfold remA
  generalize lnEnd s p = L at *
  obtain ⟨e1, e2⟩ := bad_line s p L hln hl.2 hend hb
  rw [e1]
  show (p + 0 + begLen ((s.extract p L).extract 0 (s.extract p L).size), false) = _
  rw [ByteArray.extract_zero_size, e2, Nat.add_zero]
end Go.Proofs.YtcnhkhjkeemafaaDoor
/- A rune between two quotes, as the reference reads it: plain mathematics. -/
namespace Go.Proofs.YtcnhkhjkeemafaaDoor
open Go.RowKit Go.Shelf
set_option linter.unusedVariables false
theorem rn_39 (s : ByteArray) (i : Nat) : rn s i = 39 ↔ bt s i = 39 := by
  have t := at_told s i
  constructor
  · intro h
    have hg : ¬ (rn s i = 65533 ∧ wd s i = 1) := by omega
    rcases t.width hg with h1 | h1 | h1 | h1
    · rcases t.one h1.1 with h2 | h2 <;> (simp only [rn] at h; omega)
    all_goals (simp only [rn] at h; omega)
  · intro h
    rcases Nat.lt_or_ge (wd s i) 2 with h1 | h1
    · have : wd s i = 1 := by have := wd_pos s i; omega
      rcases t.one this with h2 | h2 <;> (simp only [rn]; omega)
    · have := wd_lead s i h1; omega
/-- What quoted makes, by what stands behind the quote. -/
theorem quo_cases (s : ByteArray) (a : Nat) (h : a < s.size) : (∃ n, seq4V (rst s (a + 1)) = (0, n, false) ∧ quoV (rst s a) = (0, 1 + n, false)) ∨
    (∃ r n, seq4V (rst s (a + 1)) = (r, n, true) ∧ 1 ≤ n ∧ a + 1 + n ≤ s.size ∧ r ≤ 1114111 ∧ quoV (rst s a) = if r < 32 ∨ r = 39 ∨ r = 127 then (0, 1, false) else if a + 1 + n < s.size ∧ bt s (a + 1 + n) = 39 then (r, n + 2, true) else (0, 1 + n, false)) := by
  have ht : tl1 (rst s a) = rst s (a + 1) := rst_rst s a 1 (by omega)
  have hz := rst_size s a
  have hz1 := rst_size s (a + 1)
  obtain ⟨u, hu⟩ : ∃ u, u = rst s (a + 1) := ⟨_, rfl⟩
  have hq : quoV (rst s a) = if u.size = 0 then (0, (rst s a).size, false) else if rn u 0 < 32 ∨ rn u 0 = 39 ∨ rn u 0 = 127 then (0, 1, false) else if wholeB u = false then (0, 1 + begLen u, false) else if ¬ wd u 0 < u.size then (0, (rst s a).size, false) else if rn u (wd u 0) = 39 then (rn u 0, wd u 0 + 2, true) else (0, 1 + wd u 0, false) := by unfold quoV; rw [ht, hu]
  rw [← hu] at hz1 ⊢
  by_cases h0 : u.size = 0
  · left
    refine ⟨0, by unfold seq4V; rw [if_pos h0], ?_⟩
    rw [hq, if_pos h0, show (rst s a).size = 1 + 0 by omega]
  · rw [if_neg h0] at hq
    cases hb : badB u 0 with
    | true =>
      left
      have hr := of_decide_eq_true hb
      refine ⟨begLen u, by unfold seq4V; rw [if_neg h0, hb, if_pos rfl], ?_⟩
      rw [hq, if_neg (by omega), if_pos (by unfold wholeB; rw [hb]; simp)]
    | false =>
      right
      have hr := wd_room u 0 (by omega)
      have hp := wd_pos u 0
      have hs := (at_told u 0).small
      refine ⟨rn u 0, wd u 0, by unfold seq4V; rw [if_neg h0, hb, if_neg (by decide)], hp, by omega, hs, ?_⟩
      rw [hq]
      by_cases hl : rn u 0 < 32 ∨ rn u 0 = 39 ∨ rn u 0 = 127
      · rw [if_pos hl, if_pos hl]
      · rw [if_neg hl, if_neg hl, if_neg (by unfold wholeB; rw [hb, decide_eq_true (by omega)]; decide)]
        have hbt : bt u (wd u 0) = bt s (a + 1 + wd u 0) := by rw [hu]; exact rst_at s (a + 1) _ (by omega)
        by_cases hw : wd u 0 < u.size
        · rw [if_neg (fun q => q hw)]
          by_cases h39 : rn u (wd u 0) = 39
          · rw [if_pos h39, if_pos ⟨by omega, by rw [← hbt]; exact (rn_39 u _).1 h39⟩]
          · rw [if_neg h39, if_neg (fun q => h39 ((rn_39 u _).2 (by rw [hbt]; exact q.2)))]
        · rw [if_pos hw, if_neg (by omega), show (rst s a).size = 1 + wd u 0 by omega]
end Go.Proofs.YtcnhkhjkeemafaaDoor
/- A rune with U+, as the reference reads it: plain mathematics. -/
namespace Go.Proofs.YtcnhkhjkeemafaaDoor
open Go.RowKit Go.Shelf
set_option linter.unusedVariables false
def hxB (c : Nat) : Bool := decide ((48 ≤ c ∧ c ≤ 57) ∨ (65 ≤ c ∧ c ≤ 70))
theorem hxB_hexI {c : Nat} : hxB c = true ↔ 0 ≤ hexI c := by
  unfold hxB hexI
  rw [decide_eq_true_iff]
  constructor
  · intro h; split <;> (try split) <;> omega
  · intro h; split at h <;> (try split at h) <;> omega
theorem hexI_nat {c : Nat} (h : hxB c = true) : (hexI c).toNat ≤ 15 ∧ ((hexI c).toNat : Int) = hexI c ∧ ((hexI c).toNat = 0 ↔ c = 48) ∧ ((hexI c).toNat = 1 ↔ c = 49) := by
  have h1 := of_decide_eq_true h
  unfold hexI
  split
  · omega
  · split
    · omega
    · omega
/-- The number of the first k hexadecimal digits. -/
def hxV (d : ByteArray) : Nat → Nat
  | 0 => 0
  | k + 1 => hxV d k * 16 + (hexI (bt d k)).toNat
theorem hxV_lt (d : ByteArray) : ∀ k, (∀ i, i < k → hxB (bt d i) = true) → hxV d k < 16 ^ k
  | 0, _ => by show 0 < 1; decide
  | k + 1, h => by
    have h1 := hxV_lt d k (fun i hi => h i (by omega))
    have h2 := (hexI_nat (h k (by omega))).1
    show hxV d k * 16 + _ < _
    rw [Nat.pow_succ]
    omega
/-- Where the reading of a rune with U+ stands: behind j digits. -/
structure PlSt (s : ByteArray) (a j : Nat) : Prop where
  room : a + 2 + j ≤ s.size
  hex : ∀ i, i < j → hxB (bt (rst s (a + 2)) i) = true
  go : numdGo (rst s a) 0 2 = numdGo (rst s a) (hxV (rst s (a + 2)) j) (2 + j)
  five : 5 ≤ j → bt (rst s (a + 2)) 0 ≠ 48
  six : 6 ≤ j → bt (rst s (a + 2)) 0 = 49 ∧ bt (rst s (a + 2)) 1 = 48
  max : j ≤ 6
theorem pl_bt (s : ByteArray) (a k : Nat) (h : a + 2 ≤ s.size) : bt (rst s a) (2 + k) = bt (rst s (a + 2)) k := by
  rw [rst_at s a (2 + k) (by omega), rst_at s (a + 2) k h]
  congr 1
  rw [Nat.add_assoc]
theorem hxV_five (d : ByteArray) : hxV d 5 = ((((hexI (bt d 0)).toNat * 16 + (hexI (bt d 1)).toNat) * 16 + (hexI (bt d 2)).toNat) * 16 + (hexI (bt d 3)).toNat) * 16 + (hexI (bt d 4)).toNat := by simp [hxV]
theorem five_iff {d0 d1 d2 d3 d4 d5 : Nat} (h1 : d1 ≤ 15) (h2 : d2 ≤ 15) (h3 : d3 ≤ 15) (h4 : d4 ≤ 15) (h5 : d5 ≤ 15) (h0 : d0 ≠ 0) : ((((d0 * 16 + d1) * 16 + d2) * 16 + d3) * 16 + d4) * 16 + d5 ≤ 1114111 ↔ d0 = 1 ∧ d1 = 0 := by omega
theorem six_no {d0 d1 d2 d3 d4 d5 d6 : Nat} (h0 : d0 = 1) : ¬ (((((d0 * 16 + d1) * 16 + d2) * 16 + d3) * 16 + d4) * 16 + d5) * 16 + d6 ≤ 1114111 := by omega
/-- Does the reference go on? -/
def plGo (d : ByteArray) (j : Nat) : Prop := j < 4 ∨ (j = 4 ∧ bt d 0 ≠ 48) ∨ (j = 5 ∧ bt d 0 = 49 ∧ bt d 1 = 48)
theorem pl_iff {s : ByteArray} {a j : Nat} (st : PlSt s a j) (hj : a + 2 + j < s.size) (hx : hxB (bt (rst s (a + 2)) j) = true) : plGo (rst s (a + 2)) j ↔ (2 + j < (rst s a).size ∧ (2 + j < 6 ∨ bt (rst s a) 2 ≠ 48) ∧ 0 ≤ hexI (bt (rst s a) (2 + j)) ∧ hxV (rst s (a + 2)) j * 16 + (hexI (bt (rst s a) (2 + j))).toNat ≤ 1114111) := by
  have hz := rst_size s a
  have hb := pl_bt s a j (by omega)
  have hb0 : bt (rst s a) 2 = bt (rst s (a + 2)) 0 := pl_bt s a 0 (by omega)
  have hh := hxB_hexI.1 hx
  have hd := (hexI_nat hx).1
  rw [hb, hb0]
  have hlt := hxV_lt (rst s (a + 2)) j st.hex
  have hmx := st.max
  have hc : j = 0 ∨ j = 1 ∨ j = 2 ∨ j = 3 ∨ j = 4 ∨ j = 5 ∨ j = 6 := by omega
  unfold plGo
  rcases hc with rfl | rfl | rfl | rfl | rfl | rfl | rfl
  iterate 4
    · refine ⟨fun _ => ⟨by omega, .inl (by omega), hh, ?_⟩, fun _ => .inl (by omega)⟩
      generalize (hexI (bt (rst s (a + 2)) _)).toNat = x at hd ⊢
      generalize hxV (rst s (a + 2)) _ = y at hlt ⊢
      omega
  · constructor
    · intro h
      refine ⟨by omega, .inr (by omega), hh, ?_⟩
      generalize (hexI (bt (rst s (a + 2)) _)).toNat = x at hd ⊢
      generalize hxV (rst s (a + 2)) _ = y at hlt ⊢
      omega
    · intro h
      exact .inr (.inl ⟨rfl, by rcases h.2.1 with q | q; · omega
                                · exact q⟩)
  · have h5 := st.five (by omega)
    have g0 := hexI_nat (st.hex 0 (by omega))
    have g1 := hexI_nat (st.hex 1 (by omega))
    have g2 := hexI_nat (st.hex 2 (by omega))
    have g3 := hexI_nat (st.hex 3 (by omega))
    have g4 := hexI_nat (st.hex 4 (by omega))
    have k0 : (hexI (bt (rst s (a + 2)) 0)).toNat ≠ 0 := fun q => h5 (g0.2.2.1.1 q)
    have key := five_iff g1.1 g2.1 g3.1 g4.1 hd k0
    rw [← hxV_five (rst s (a + 2))] at key
    constructor
    · intro h
      have h1 : bt (rst s (a + 2)) 0 = 49 ∧ bt (rst s (a + 2)) 1 = 48 := by
        rcases h with q | q | q
        · omega
        · omega
        · exact q.2
      exact ⟨by omega, .inr h5, hh, key.2 ⟨g0.2.2.2.2 h1.1, g1.2.2.1.2 h1.2⟩⟩
    · intro h
      have q := key.1 h.2.2.2
      exact .inr (.inr ⟨rfl, g0.2.2.2.1 q.1, g1.2.2.1.1 q.2⟩)
  · have h6 := st.six (by omega)
    have g0 := hexI_nat (st.hex 0 (by omega))
    have key := @six_no _ (hexI (bt (rst s (a + 2)) 1)).toNat (hexI (bt (rst s (a + 2)) 2)).toNat (hexI (bt (rst s (a + 2)) 3)).toNat (hexI (bt (rst s (a + 2)) 4)).toNat (hexI (bt (rst s (a + 2)) 5)).toNat (hexI (bt (rst s (a + 2)) 6)).toNat (g0.2.2.2.2 h6.1)
    rw [← hxV_five (rst s (a + 2))] at key
    constructor
    · intro h
      exfalso
      rcases h with q | q | q <;> omega
    · intro h
      exact absurd h.2.2.2 key
theorem pl_step {s : ByteArray} {a j : Nat} (st : PlSt s a j) (hj : a + 2 + j < s.size) (hx : hxB (bt (rst s (a + 2)) j) = true) (hg : plGo (rst s (a + 2)) j) : PlSt s a (j + 1) := by
  have hn := (pl_iff st hj hx).1 hg
  have hb := pl_bt s a j (by omega)
  refine ⟨by omega, fun i hi => ?_, ?_, fun h => ?_, fun h => ?_, ?_⟩
  · by_cases e : i = j
    · rw [e]; exact hx
    · exact st.hex i (by omega)
  · rw [st.go, numdGo_go hn, hb]
    rfl
  · unfold plGo at hg
    by_cases e : j = 4
    · omega
    · exact st.five (by omega)
  · unfold plGo at hg
    by_cases e : j = 5
    · omega
    · have := st.max; omega
  · unfold plGo at hg
    omega
theorem pl_stop {s : ByteArray} {a j : Nat} (st : PlSt s a j) (h : ¬ (a + 2 + j < s.size ∧ hxB (bt (rst s (a + 2)) j) = true ∧ plGo (rst s (a + 2)) j)) : numdGo (rst s a) 0 2 = (hxV (rst s (a + 2)) j, 2 + j) := by
  have hr := st.room
  rw [st.go]
  refine numdGo_stop (fun q => h ?_)
  have hz := rst_size s a
  have hb := pl_bt s a j (by omega)
  have hj : a + 2 + j < s.size := by omega
  have hx : hxB (bt (rst s (a + 2)) j) = true := hxB_hexI.2 (by rw [← hb]; exact q.2.2.1)
  exact ⟨hj, hx, (pl_iff st hj hx).2 q⟩
theorem pl_zero {s : ByteArray} {a : Nat} (h : a + 2 ≤ s.size) : PlSt s a 0 := ⟨h, fun i hi => by omega, rfl, fun h => by omega, fun h => by omega, by omega⟩
end Go.Proofs.YtcnhkhjkeemafaaDoor
/- What stands ahead of a number's end: plain mathematics. -/
namespace Go.Proofs.YtcnhkhjkeemafaaDoor
open Go.RowKit Go.Shelf
set_option linter.unusedVariables false
theorem numGo_prev (t : ByteArray) : ∀ f v k, t.size ≤ k + f → 1 ≤ k → digB (bt t (k - 1)) = true → digB (bt t ((numGo t v k).2 - 1)) = true
  | 0, v, k, h, h1, hd => by rw [numGo_stop (by omega)]; exact hd
  | f + 1, v, k, h, h1, hd => by
    by_cases hc : k < t.size ∧ digB (bt t k) = true ∧ 0 < v ∧ v * 10 + (bt t k - 48) ≤ 65535
    · rw [numGo_go hc.1 hc.2.1 hc.2.2.1 hc.2.2.2]
      exact numGo_prev t f _ (k + 1) (by omega) (by omega) hc.2.1
    · rw [numGo_stop hc]; exact hd
theorem numV_prev (t : ByteArray) (h : 0 < t.size) (hd : digB (bt t 0) = true) : digB (bt t ((numV t).2 - 1)) = true := numGo_prev t t.size _ 1 (by omega) (by omega) hd
theorem numdGo_prev (t : ByteArray) : ∀ f v k, t.size ≤ k + f → 1 ≤ k → (3 ≤ k → hxB (bt t (k - 1)) = true) → 3 ≤ (numdGo t v k).2 → hxB (bt t ((numdGo t v k).2 - 1)) = true
  | 0, v, k, h, h1, hd, h3 => by rw [numdGo_stop (by omega)] at h3 ⊢; exact hd h3
  | f + 1, v, k, h, h1, hd, h3 => by
    by_cases hc : k < t.size ∧ (k < 6 ∨ bt t 2 ≠ 48) ∧ 0 ≤ hexI (bt t k) ∧ v * 16 + (hexI (bt t k)).toNat ≤ 1114111
    · rw [numdGo_go hc] at h3 ⊢
      exact numdGo_prev t f _ (k + 1) (by omega) (by omega) (fun _ => hxB_hexI.2 hc.2.2.1) h3
    · rw [numdGo_stop hc] at h3 ⊢; exact hd h3
theorem nameLen_prev (t : ByteArray) : ∀ f k, min t.size 32 ≤ k + f → 1 ≤ k → k ≤ min t.size 32 → inNB (bt t (k - 1)) = true → inNB (bt t (scanTo (fun n => inNB (bt t n)) (min t.size 32) k - 1)) = true
  | 0, k, h, h1, hk, hd => by rw [scanTo_end (by omega)]; exact hd
  | f + 1, k, h, h1, hk, hd => by
    by_cases hl : k < min t.size 32
    · cases hp : inNB (bt t k) with
      | true => rw [scanTo_go (p := fun n => inNB (bt t n)) hl hp]; exact nameLen_prev t f (k + 1) (by omega) (by omega) (by omega) hp
      | false => rw [scanTo_no (p := fun n => inNB (bt t n)) hp]; exact hd
    · rw [scanTo_end hl]; exact hd
theorem stk_dig {c : Nat} (h : digB c = true) : stkB c = true := by unfold stkB inNB; rw [h]; simp
theorem stk_hex {c : Nat} (h : hxB c = true) : stkB c = true := by
  have h1 := of_decide_eq_true h
  rcases h1 with h1 | h1
  · exact stk_dig (decide_eq_true h1)
  · unfold stkB
    rw [decide_eq_true (show 65 ≤ c ∧ c ≤ 90 by omega)]
    simp
theorem stk_inN {c : Nat} (h : inNB c = true) : stkB c = true := by unfold stkB; rw [h]; simp
end Go.Proofs.YtcnhkhjkeemafaaDoor
/- Where words stand: plain mathematics. -/
namespace Go.Proofs.YtcnhkhjkeemafaaDoor
open Go.RowKit Go.Shelf
set_option linter.unusedVariables false
theorem small_lt {c : Nat} (h : smallB c = true) : c < 128 := by have := smallB_iff.1 h; omega
theorem dig_lt {c : Nat} (h : digB c = true) : c < 128 := by have := digB_iff.1 h; omega
theorem stk_lt {c : Nat} (h : stkB c = true) : c < 128 := by
  unfold stkB inNB smallB digB at h
  simp at h
  omega
theorem tl1_bt (t : ByteArray) (k : Nat) (h : 1 ≤ t.size) : bt (tl1 t) k = bt t (1 + k) := by unfold tl1 bt; rw [get_suffix t 1 k h]
theorem dots_bt (t : ByteArray) (h : dotsB t = true) : bt t 1 = 46 := by
  have h2 : [46, 46] <+: t.data.toList := List.isPrefixOf_iff_prefix.1 h
  obtain ⟨r, hr⟩ := h2
  have hz := dotsB_iff t h
  have : t.data.toList[1]? = some 46 := by rw [← hr]; rfl
  have h1 : 1 < t.size := by omega
  unfold bt
  rw [get_lt t 1 h1]
  rw [Array.getElem?_toList, Array.getElem?_eq_getElem h1] at this
  have e : t.data[1] = 46 := Option.some.inj this
  show (t.data[1]).toNat = 46
  rw [e]
  rfl
theorem word_last (t : ByteArray) (h : 0 < t.size) (ho : (wordV t).ok = true) : bt t ((wordV t).n - 1) < 128 := by
  unfold wordV at ho ⊢
  split at ho
  · rename_i hs
    rw [if_pos hs]
    refine stk_lt (stk_inN ?_)
    have hn : nameLen t = scanTo (fun n => inNB (bt t n)) (min t.size 32) 1 := by unfold nameLen; rw [if_neg (fun q => q.elim (by omega) (fun q => by rw [hs] at q; cases q))]
    show inNB (bt t (nameLen t - 1)) = true
    rw [hn]
    exact nameLen_prev t (min t.size 32) 1 (by omega) (by omega) (by omega) (by show inNB (bt t 0) = true; unfold inNB; rw [hs]; rfl)
  · rename_i hs
    rw [if_neg hs]
    split at ho
    · rename_i hd
      rw [if_pos hd]
      exact dig_lt (numV_prev t h hd)
    · rename_i hd
      rw [if_neg hd]
      split at ho
      · rename_i hu
        rw [if_pos hu]
        have ho2 : (numdV t).2.2 = true := ((Bool.and_eq_true _ _).mp ho).1
        show bt t ((numdV t).2.1 - 1) < 128
        unfold numdV at ho2 ⊢
        split at ho2
        · cases ho2
        · rename_i h1
          rw [if_neg h1]
          split at ho2
          · cases ho2
          · rename_i h6
            rw [if_neg h6]
            exact stk_lt (stk_hex (numdGo_prev t t.size 0 2 (by omega) (by omega) (fun q => by omega) (by omega)))
      · rename_i hu
        rw [if_neg hu]
        split at ho
        · rename_i hq
          rw [if_pos hq]
          have ho2 : (quoV t).2.2 = true := ho
          show bt t ((quoV t).2.1 - 1) < 128
          unfold quoV at ho2 ⊢
          repeat' split at ho2
          all_goals first | (cases ho2; done) | skip
          rename_i h1 h2 h3 h4 h5
          rw [if_neg h1, if_neg h2, if_neg h3, if_neg h4, if_pos h5]
          have := (rn_39 (tl1 t) (wd (tl1 t) 0)).1 h5
          rw [tl1_bt t _ h] at this
          show bt t (wd (tl1 t) 0 + 2 - 1) < 128
          rw [show wd (tl1 t) 0 + 2 - 1 = 1 + wd (tl1 t) 0 by omega, this]
          decide
        · rename_i hq
          rw [if_neg hq]
          have ho2 : (sgnV t).2.2 = true := ho
          show bt t ((sgnV t).2.1 - 1) < 128
          unfold sgnV at ho2 ⊢
          repeat' split
          all_goals first
            | (show bt t 0 < 128; omega)
            | skip
          all_goals first
            | (rename_i hdt; show bt t 1 < 128; rw [dots_bt t hdt]; decide)
            | (exfalso; simp_all; done)
theorem word_first (t : ByteArray) (ho : (wordV t).ok = true) : bt t 0 < 128 := by
  by_cases hs : smallB (bt t 0) = true
  · exact small_lt hs
  · by_cases hd : digB (bt t 0) = true
    · exact dig_lt hd
    · unfold wordV at ho
      rw [if_neg hs, if_neg hd] at ho
      split at ho
      · omega
      · split at ho
        · omega
        · have ho2 : (sgnV t).2.2 = true := ho
          unfold sgnV at ho2
          repeat' split at ho2
          all_goals first | omega | cases ho2
theorem bd_ascii (s : ByteArray) (i : Nat) (h : bt s i < 128) : bdB s i = true := bd_lead s i (by omega)
theorem bd_next (s : ByteArray) (i : Nat) (hi : i < s.size) (h : bt s i < 128) : bdB s (i + 1) = true := by
  have hw : wd s i = 1 := by
    rcases Nat.lt_or_ge (wd s i) 2 with q | q
    · have := wd_pos s i; omega
    · have := wd_lead s _ q; omega
  have := bd_step s i (bd_ascii s i h) hi
  rwa [hw] at this
/-- Lines and columns behind n bytes more. -/
theorem lcB_at (s : ByteArray) (b n : Nat) (hb : b + n ≤ s.size) (hd : bdB s b = true) : lcB (rst s b) (lcAt s b) n = lcAt s (b + n) := by
  unfold lcB lcAt
  have e : (rst s b).extract 0 n = s.extract b (b + n) := by
    unfold rst
    rw [ByteArray.extract_extract, Nat.add_zero, Nat.min_eq_left (by omega)]
  rw [e, lcF_all, ← lcR_on s b (b + n) (1, 1) (by omega) hb (bd_pre s b (b + n) hd (by omega) hb)]
/-- What is known of a word's place. -/
structure WdAt (s : ByteArray) (x : Wd) : Prop where
  lc : (x.l, x.c) = whL s x.b
  lt : x.b < s.size
  e : x.e = x.b + x.v.n
  v : x.v = wordV (rst s x.b)
  le : x.e ≤ s.size
theorem wdAt_mk {s : ByteArray} {b : Nat} {x : Nat × Nat} (h1 : x = whL s b) (h2 : b < s.size) (h3 : b + (wordV (rst s b)).n ≤ s.size) : WdAt s ⟨wordV (rst s b), b, x.1, x.2, b + (wordV (rst s b)).n⟩ := by
  obtain ⟨x1, x2⟩ := x
  generalize hw : whL s b = y at h1
  subst h1
  generalize hv : wordV (rst s b) = v at h3
  exact { lc := hw.symm, lt := h2, e := rfl, v := hv.symm, le := h3 }
theorem cut_places (s : ByteArray) : ∀ f b x ws, b ≤ s.size → bdB s b = true → x = lcAt s b → (∀ y ∈ ws, WdAt s y) → (∀ y ∈ (cutGo s f b x ws).ws, WdAt s y) ∧ (cutGo s f b x ws).b ≤ s.size
  | 0, b, x, ws, hb, _, _, h => ⟨h, hb⟩
  | f + 1, b, x, ws, hb, hd, hx, h => by
    have hg := gB_le s b hb
    unfold cutGo
    split
    · exact ⟨h, hg.2⟩
    · split
      · exact ⟨h, hg.2⟩
      · rename_i hz
        rw [rst_size] at hz
        have hp : 0 < (rst s (gB s b)).size := by rw [rst_size]; omega
        have hle := wordV_le (rst s (gB s b)) hp
        rw [rst_size] at hle
        split
        · exact ⟨h, by show gB s b + _ ≤ _; omega⟩
        · rename_i ho
          have ho2 : (wordV (rst s (gB s b))).ok = true := Bool.eq_false_or_eq_true _ |>.resolve_right ho
          have hn := hle.2 ho2
          have e0 : bt (rst s (gB s b)) 0 = bt s (gB s b) := rst_at s (gB s b) 0 hg.2
          have hf := word_first _ ho2
          rw [e0] at hf
          have hl := word_last _ hp ho2
          rw [rst_at s (gB s b) _ hg.2] at hl
          have hbg : bdB s (gB s b) = true := bd_ascii s _ hf
          have hgl : gLC s b x = lcAt s (gB s b) := by
            unfold gLC
            rw [hx, lcB_at s b _ (by have := hg.2; unfold gB at this; exact this) hd]
            rfl
          have hnx : bdB s (gB s b + (wordV (rst s (gB s b))).n) = true := by
            have := bd_next s (gB s b + ((wordV (rst s (gB s b))).n - 1)) (by omega) hl
            rwa [show gB s b + ((wordV (rst s (gB s b))).n - 1) + 1 = gB s b + (wordV (rst s (gB s b))).n by omega] at this
          refine cut_places s f _ _ _ (by omega) hnx (by rw [hgl, lcB_at s _ _ (by omega) hbg]) (fun y hy => ?_)
          rcases List.mem_append.1 hy with hy | hy
          · exact h y hy
          · obtain rfl := List.mem_singleton.1 hy
            exact wdAt_mk (hgl.trans (whL_bd s _ hbg).symm) (by omega) (by omega)
theorem words_places (s : ByteArray) : (∀ y ∈ (wordsV s).ws, WdAt s y) ∧ (wordsV s).b ≤ s.size := cut_places s _ 0 (1, 1) [] (Nat.zero_le _) (bd_zero s) (lcAt_zero s).symm (fun _ h => by cases h)
end Go.Proofs.YtcnhkhjkeemafaaDoor
/- How many words a text can have. -/
namespace Go.Proofs.YtcnhkhjkeemafaaDoor
open Go.RowKit Go.Shelf
set_option linter.unusedVariables false
theorem cut_count (s : ByteArray) : ∀ f b x ws, b ≤ s.size → ws.length ≤ b → (cutGo s f b x ws).ws.length ≤ s.size
  | 0, b, x, ws, hb, h => Nat.le_trans h hb
  | f + 1, b, x, ws, hb, h => by
    have hg := gB_le s b hb
    unfold cutGo
    split
    · exact Nat.le_trans h hb
    · split
      · exact Nat.le_trans h hb
      · rename_i hz
        rw [rst_size] at hz
        have hp : 0 < (rst s (gB s b)).size := by rw [rst_size]; omega
        have hle := wordV_le (rst s (gB s b)) hp
        rw [rst_size] at hle
        split
        · exact Nat.le_trans h hb
        · rename_i ho
          have ho2 : (wordV (rst s (gB s b))).ok = true := Bool.eq_false_or_eq_true _ |>.resolve_right ho
          have hn := hle.2 ho2
          exact cut_count s f _ _ _ (by omega) (by rw [List.length_append, List.length_singleton]; omega)
theorem words_count (s : ByteArray) : (wordsV s).ws.length ≤ s.size := cut_count s _ 0 (1, 1) [] (Nat.zero_le _) (Nat.le_refl _)
end Go.Proofs.YtcnhkhjkeemafaaDoor
/- A text, cut off. -/
namespace Go.Proofs.YtcnhkhjkeemafaaDoor
open Go.RowKit Go.Shelf
set_option linter.unusedVariables false
/-- A text, cut off. -/
def fewV (s : ByteArray) (n : Nat) : ByteArray := if n < s.size then s.extract 0 n else s
theorem fewV_size (s : ByteArray) (n : Nat) : (fewV s n).size ≤ n := by
  unfold fewV
  split
  · rw [ByteArray.size_extract]; omega
  · omega
set_option maxRecDepth 100000 in
theorem few_any (s : ByteArray) (hs : s.size ≤ maxLen) (n : Nat) (hn : n ≤ 1099511627776) (w : World) : Calls Tryd.prog 6 #[.string s, .int .i64 n] w fun e w' => e = .returned (.string (fewV s n)) ∧ w' = w := by
  unfold maxLen at hs
  unfold fewV
  by_cases h : n < s.size
  · rw [if_pos h]
    have h1 : (n : Int) < (s.size : Int) := by omega
    have h2 : (n : Int) ≤ (s.size : Int) := by omega
    go_enter Tryd.func6, Tryd.ntmps6
    go_wp2_with fail
    go_ret
    exact ⟨rfl, rfl⟩
  · rw [if_neg h]
    have h1 : ¬ (n : Int) < (s.size : Int) := by omega
    go_enter Tryd.func6, Tryd.ntmps6
    go_wp2_with fail
    go_ret
    exact ⟨rfl, rfl⟩
end Go.Proofs.YtcnhkhjkeemafaaDoor
