/- Plain facts on the bytes of runes: what is written of a rune is read as that rune; a text without bad spots is what its runes are written as. -/
import Derived.Test.YthjndkjbjflmfaaJoin
namespace Go.Proofs.Ythjndkjbjflmfaa
open Go.RowKit Go.Shelf
open Go.Lib (decodeN decode_at)
set_option linter.unusedVariables false

theorem valid_of_width {z : Int} (h : widthOf z ≠ 0) : Utf8.valid z = true ∧ 0 ≤ z ∧ z ≤ 1114111 ∧ ¬ (55296 ≤ z ∧ z ≤ 57343) := by
  unfold widthOf at h
  split at h
  · exact absurd rfl h
  · rename_i hh
    refine ⟨?_, by omega, by omega, by omega⟩
    simp only [Utf8.valid, Bool.or_eq_true, Bool.and_eq_true, decide_eq_true_eq]
    omega

theorem enc1 {z : Int} (h : widthOf z ≠ 0) (h1 : z < 128) : Utf8.encode z = ⟨#[UInt8.ofNat z.toNat]⟩ := by
  obtain ⟨hv, h0, _, _⟩ := valid_of_width h
  unfold Utf8.encode
  simp only [hv, if_true]
  rw [if_pos (by omega)]
theorem enc2 {z : Int} (h : widthOf z ≠ 0) (h1 : 128 ≤ z) (h2 : z < 2048) : Utf8.encode z = ⟨#[UInt8.ofNat (0xC0 + z.toNat / 64), UInt8.ofNat (0x80 + z.toNat % 64)]⟩ := by
  obtain ⟨hv, h0, _, _⟩ := valid_of_width h
  unfold Utf8.encode
  simp only [hv, if_true]
  rw [if_neg (by omega), if_pos (by omega)]
theorem enc3 {z : Int} (h : widthOf z ≠ 0) (h1 : 2048 ≤ z) (h2 : z < 65536) : Utf8.encode z = ⟨#[UInt8.ofNat (0xE0 + z.toNat / 4096), UInt8.ofNat (0x80 + z.toNat / 64 % 64), UInt8.ofNat (0x80 + z.toNat % 64)]⟩ := by
  obtain ⟨hv, h0, _, _⟩ := valid_of_width h
  unfold Utf8.encode
  simp only [hv, if_true]
  rw [if_neg (by omega), if_neg (by omega), if_pos (by omega)]
theorem enc4 {z : Int} (h : widthOf z ≠ 0) (h1 : 65536 ≤ z) : Utf8.encode z = ⟨#[UInt8.ofNat (0xF0 + z.toNat / 262144), UInt8.ofNat (0x80 + z.toNat / 4096 % 64), UInt8.ofNat (0x80 + z.toNat / 64 % 64), UInt8.ofNat (0x80 + z.toNat % 64)]⟩ := by
  obtain ⟨hv, h0, _, _⟩ := valid_of_width h
  unfold Utf8.encode
  simp only [hv, if_true]
  rw [if_neg (by omega), if_neg (by omega), if_neg (by omega)]
theorem u8n (n : Nat) (h : n < 256) : (UInt8.ofNat n).toNat = n := by rw [UInt8.toNat_ofNat']; omega

/-- What is written of a rune is read as that rune, of its width. -/
theorem decode_enc {z : Int} (h : widthOf z ≠ 0) : Utf8.decode (Utf8.encode z) 0 = (z.toNat, (Utf8.encode z).size) ∧ ((Utf8.encode z).size : Int) = widthOf z := by
  obtain ⟨hv, h0, h1, h2⟩ := valid_of_width h
  by_cases c1 : z < 128
  · rw [enc1 h c1]
    refine ⟨?_, ?_⟩
    · rw [decode_at]
      have e0 : ((⟨#[UInt8.ofNat z.toNat]⟩ : ByteArray).get! 0).toNat = z.toNat := by show (UInt8.ofNat z.toNat).toNat = _; exact u8n _ (by omega)
      rw [e0]
      unfold decodeN
      rw [if_pos (by omega)]
      rfl
    · unfold widthOf; rw [if_neg (by omega), if_pos (by omega)]; rfl
  by_cases c2 : z < 2048
  · rw [enc2 h (by omega) c2]
    refine ⟨?_, ?_⟩
    · rw [decode_at]
      have e0 : ((⟨#[UInt8.ofNat (0xC0 + z.toNat / 64), UInt8.ofNat (0x80 + z.toNat % 64)]⟩ : ByteArray).get! 0).toNat = 192 + z.toNat / 64 := by show (UInt8.ofNat (0xC0 + z.toNat / 64)).toNat = _; exact u8n _ (by omega)
      have e1 : ((⟨#[UInt8.ofNat (0xC0 + z.toNat / 64), UInt8.ofNat (0x80 + z.toNat % 64)]⟩ : ByteArray).get! (0 + 1)).toNat = 128 + z.toNat % 64 := by show (UInt8.ofNat (0x80 + z.toNat % 64)).toNat = _; exact u8n _ (by omega)
      rw [e0, e1]
      show decodeN 2 _ _ _ _ = (_, 2)
      unfold decodeN
      rw [if_neg (by omega), if_pos (by omega), if_pos (by omega)]
      rw [Prod.mk.injEq]
      exact ⟨by omega, rfl⟩
    · unfold widthOf; rw [if_neg (by omega), if_neg (by omega), if_pos (by omega)]; rfl
  by_cases c3 : z < 65536
  · rw [enc3 h (by omega) c3]
    refine ⟨?_, ?_⟩
    · rw [decode_at]
      have e0 : ((⟨#[UInt8.ofNat (0xE0 + z.toNat / 4096), UInt8.ofNat (0x80 + z.toNat / 64 % 64), UInt8.ofNat (0x80 + z.toNat % 64)]⟩ : ByteArray).get! 0).toNat = 224 + z.toNat / 4096 := by show (UInt8.ofNat (0xE0 + z.toNat / 4096)).toNat = _; exact u8n _ (by omega)
      have e1 : ((⟨#[UInt8.ofNat (0xE0 + z.toNat / 4096), UInt8.ofNat (0x80 + z.toNat / 64 % 64), UInt8.ofNat (0x80 + z.toNat % 64)]⟩ : ByteArray).get! (0 + 1)).toNat = 128 + z.toNat / 64 % 64 := by show (UInt8.ofNat (0x80 + z.toNat / 64 % 64)).toNat = _; exact u8n _ (by omega)
      have e2 : ((⟨#[UInt8.ofNat (0xE0 + z.toNat / 4096), UInt8.ofNat (0x80 + z.toNat / 64 % 64), UInt8.ofNat (0x80 + z.toNat % 64)]⟩ : ByteArray).get! (0 + 2)).toNat = 128 + z.toNat % 64 := by show (UInt8.ofNat (0x80 + z.toNat % 64)).toNat = _; exact u8n _ (by omega)
      rw [e0, e1, e2]
      show decodeN 3 _ _ _ _ = (_, 3)
      unfold decodeN
      rw [if_neg (by omega), if_neg (by omega), if_pos (by omega), if_pos (by omega)]
      rw [Prod.mk.injEq]
      exact ⟨by omega, rfl⟩
    · unfold widthOf; rw [if_neg (by omega), if_neg (by omega), if_neg (by omega), if_pos (by omega)]; rfl
  · rw [enc4 h (by omega)]
    refine ⟨?_, ?_⟩
    · rw [decode_at]
      have e0 : ((⟨#[UInt8.ofNat (0xF0 + z.toNat / 262144), UInt8.ofNat (0x80 + z.toNat / 4096 % 64), UInt8.ofNat (0x80 + z.toNat / 64 % 64), UInt8.ofNat (0x80 + z.toNat % 64)]⟩ : ByteArray).get! 0).toNat = 240 + z.toNat / 262144 := by show (UInt8.ofNat (0xF0 + z.toNat / 262144)).toNat = _; exact u8n _ (by omega)
      have e1 : ((⟨#[UInt8.ofNat (0xF0 + z.toNat / 262144), UInt8.ofNat (0x80 + z.toNat / 4096 % 64), UInt8.ofNat (0x80 + z.toNat / 64 % 64), UInt8.ofNat (0x80 + z.toNat % 64)]⟩ : ByteArray).get! (0 + 1)).toNat = 128 + z.toNat / 4096 % 64 := by show (UInt8.ofNat (0x80 + z.toNat / 4096 % 64)).toNat = _; exact u8n _ (by omega)
      have e2 : ((⟨#[UInt8.ofNat (0xF0 + z.toNat / 262144), UInt8.ofNat (0x80 + z.toNat / 4096 % 64), UInt8.ofNat (0x80 + z.toNat / 64 % 64), UInt8.ofNat (0x80 + z.toNat % 64)]⟩ : ByteArray).get! (0 + 2)).toNat = 128 + z.toNat / 64 % 64 := by show (UInt8.ofNat (0x80 + z.toNat / 64 % 64)).toNat = _; exact u8n _ (by omega)
      have e3 : ((⟨#[UInt8.ofNat (0xF0 + z.toNat / 262144), UInt8.ofNat (0x80 + z.toNat / 4096 % 64), UInt8.ofNat (0x80 + z.toNat / 64 % 64), UInt8.ofNat (0x80 + z.toNat % 64)]⟩ : ByteArray).get! (0 + 3)).toNat = 128 + z.toNat % 64 := by show (UInt8.ofNat (0x80 + z.toNat % 64)).toNat = _; exact u8n _ (by omega)
      rw [e0, e1, e2, e3]
      show decodeN 4 _ _ _ _ = (_, 4)
      unfold decodeN
      rw [if_neg (by omega), if_neg (by omega), if_neg (by omega), if_pos (by omega), if_pos (by omega)]
      rw [Prod.mk.injEq]
      exact ⟨by omega, rfl⟩
    · unfold widthOf; rw [if_neg (by omega), if_neg (by omega), if_neg (by omega), if_neg (by omega)]; rfl

theorem starts_enc {z : Int} (h : widthOf z ≠ 0) : starts (Utf8.encode z) = [0] ∧ badB (Utf8.encode z) 0 = false ∧ runesL (Utf8.encode z) = [z] := by
  obtain ⟨hd, hw⟩ := decode_enc h
  obtain ⟨hv, h0, h1, h2⟩ := valid_of_width h
  have hsz : 1 ≤ (Utf8.encode z).size := by
    have : (0 : Int) ≤ widthOf z := by
      unfold widthOf
      repeat' split
      all_goals omega
    omega
  have hs : starts (Utf8.encode z) = [0] := by
    unfold starts
    obtain ⟨m, hm⟩ : ∃ m, (Utf8.encode z).size = m + 1 := ⟨(Utf8.encode z).size - 1, by omega⟩
    have hwd : wd (Utf8.encode z) 0 = (Utf8.encode z).size := by simp only [wd]; rw [hd]
    rw [hm, startsFrom_cons _ m 0 (by omega), hwd, startsFrom_end _ _ _ (by omega)]
  refine ⟨hs, ?_, ?_⟩
  · unfold badB
    refine decide_eq_false ?_
    simp only [rn, wd, hd]
    rintro ⟨a, b⟩
    unfold widthOf at hw
    rw [b] at hw
    repeat' split at hw
    all_goals omega
  · unfold runesL
    rw [hs]
    simp only [List.map_cons, List.map_nil, rn, hd]
    rw [Int.toNat_of_nonneg h0]

theorem runesBytes_cons (z : Int) (zs : List Int) : runesBytes (z :: zs) = Utf8.encode z ++ runesBytes zs := by
  have := runesBytes_both [z] zs
  rw [List.singleton_append] at this
  rw [this, show runesBytes [z] = Utf8.encode z by unfold runesBytes; simp]
theorem badB_both (s t : ByteArray) (hb : bdB (s ++ t) s.size = true) (h1 : ∀ i ∈ starts s, badB s i = false) (h2 : ∀ i ∈ starts t, badB t i = false) : ∀ i ∈ starts (s ++ t), badB (s ++ t) i = false := by
  obtain ⟨e, hd⟩ := starts_both s t hb
  rw [e]
  intro i hi
  rcases List.mem_append.1 hi with hi | hi
  · rw [← h1 i hi]
    unfold badB
    simp only [rn, wd, hd i hi]
  · obtain ⟨j, hj, rfl⟩ := List.mem_map.1 hi
    rw [← h2 j hj]
    unfold badB
    simp only [rn, wd, decode_behind]
/-- Runes that are written are read back; nothing in what is written is bad. -/
theorem runes_back : ∀ zs : List Int, (∀ z ∈ zs, widthOf z ≠ 0) → runesL (runesBytes zs) = zs ∧ ∀ i ∈ starts (runesBytes zs), badB (runesBytes zs) i = false
  | [], _ => by
    have e : starts (runesBytes []) = [] := by decide
    exact ⟨by unfold runesL; rw [e]; rfl, by rw [e]; intro i hi; cases hi⟩
  | z :: zs, h => by
    obtain ⟨h1, h2⟩ := runes_back zs (fun y hy => h y (by simp [hy]))
    obtain ⟨e1, e2, e3⟩ := starts_enc (h z (by simp))
    have hv : ∀ i ∈ starts (Utf8.encode z), badB (Utf8.encode z) i = false := by rw [e1]; intro i hi; simp at hi; rw [hi]; exact e2
    have hj := joins_valid_left (Utf8.encode z) (runesBytes zs) hv
    rw [joins_bd] at hj
    rw [runesBytes_cons]
    exact ⟨by rw [runesL_both _ _ hj, h1, e3]; rfl, badB_both _ _ hj hv h2⟩

theorem rn_rune (s : ByteArray) (i : Nat) : widthOf ((rn s i : Nat) : Int) ≠ 0 := by
  have t := at_told s i
  have h1 := t.small
  have h2 := t.nosur
  unfold widthOf
  simp only [rn]
  rw [if_neg (by omega)]
  repeat' split
  all_goals decide
theorem runesL_runes (s : ByteArray) : ∀ z ∈ runesL s, widthOf z ≠ 0 := by
  intro z hz
  unfold runesL at hz
  obtain ⟨i, _, rfl⟩ := List.mem_map.1 hz
  exact rn_rune s i

/-- How the bytes of a sequence hang together with its rune. -/
theorem decodeN_bytes (n b0 b1 b2 b3 : Nat) (h0 : b0 < 256) (h1 : b1 < 256) (h2 : b2 < 256) (h3 : b3 < 256) (hg : ¬ ((decodeN n b0 b1 b2 b3).1 = 65533 ∧ (decodeN n b0 b1 b2 b3).2 = 1)) :
    ((decodeN n b0 b1 b2 b3).2 = 1 ∧ (decodeN n b0 b1 b2 b3).1 = b0 ∧ b0 < 128) ∨
    ((decodeN n b0 b1 b2 b3).2 = 2 ∧ b0 = 192 + (decodeN n b0 b1 b2 b3).1 / 64 ∧ b1 = 128 + (decodeN n b0 b1 b2 b3).1 % 64) ∨
    ((decodeN n b0 b1 b2 b3).2 = 3 ∧ b0 = 224 + (decodeN n b0 b1 b2 b3).1 / 4096 ∧ b1 = 128 + (decodeN n b0 b1 b2 b3).1 / 64 % 64 ∧ b2 = 128 + (decodeN n b0 b1 b2 b3).1 % 64) ∨
    ((decodeN n b0 b1 b2 b3).2 = 4 ∧ b0 = 240 + (decodeN n b0 b1 b2 b3).1 / 262144 ∧ b1 = 128 + (decodeN n b0 b1 b2 b3).1 / 4096 % 64 ∧ b2 = 128 + (decodeN n b0 b1 b2 b3).1 / 64 % 64 ∧ b3 = 128 + (decodeN n b0 b1 b2 b3).1 % 64) := by
  by_cases c0 : b0 < 128
  · have e : decodeN n b0 b1 b2 b3 = (b0, 1) := by unfold decodeN; rw [if_pos c0]
    rw [e]; exact .inl ⟨rfl, rfl, c0⟩
  by_cases c2 : b0 / 32 = 6 ∧ (1 < n ∧ b1 / 64 = 2)
  · by_cases hc : b0 % 32 * 64 + b1 % 64 ≥ 128
    · have e : decodeN n b0 b1 b2 b3 = (b0 % 32 * 64 + b1 % 64, 2) := by unfold decodeN; rw [if_neg c0, if_pos c2, if_pos hc]
      rw [e]; refine .inr (.inl ⟨rfl, ?_, ?_⟩) <;> simp only <;> omega
    · have e : decodeN n b0 b1 b2 b3 = (65533, 1) := by unfold decodeN; rw [if_neg c0, if_pos c2, if_neg hc]
      rw [e] at hg; exact absurd ⟨rfl, rfl⟩ hg
  by_cases c3 : b0 / 16 = 14 ∧ (1 < n ∧ b1 / 64 = 2) ∧ (2 < n ∧ b2 / 64 = 2)
  · by_cases hc : b0 % 16 * 4096 + b1 % 64 * 64 + b2 % 64 ≥ 2048 ∧ (b0 % 16 * 4096 + b1 % 64 * 64 + b2 % 64 < 55296 ∨ (57344 ≤ b0 % 16 * 4096 + b1 % 64 * 64 + b2 % 64 ∧ b0 % 16 * 4096 + b1 % 64 * 64 + b2 % 64 ≤ 1114111))
    · have e : decodeN n b0 b1 b2 b3 = (b0 % 16 * 4096 + b1 % 64 * 64 + b2 % 64, 3) := by unfold decodeN; rw [if_neg c0, if_neg c2, if_pos c3, if_pos hc]
      rw [e]; refine .inr (.inr (.inl ⟨rfl, ?_, ?_, ?_⟩)) <;> simp only <;> omega
    · have e : decodeN n b0 b1 b2 b3 = (65533, 1) := by unfold decodeN; rw [if_neg c0, if_neg c2, if_pos c3, if_neg hc]
      rw [e] at hg; exact absurd ⟨rfl, rfl⟩ hg
  by_cases c4 : b0 / 8 = 30 ∧ (1 < n ∧ b1 / 64 = 2) ∧ (2 < n ∧ b2 / 64 = 2) ∧ (3 < n ∧ b3 / 64 = 2)
  · by_cases hc : b0 % 8 * 262144 + b1 % 64 * 4096 + b2 % 64 * 64 + b3 % 64 ≥ 65536 ∧ (b0 % 8 * 262144 + b1 % 64 * 4096 + b2 % 64 * 64 + b3 % 64 < 55296 ∨ (57344 ≤ b0 % 8 * 262144 + b1 % 64 * 4096 + b2 % 64 * 64 + b3 % 64 ∧ b0 % 8 * 262144 + b1 % 64 * 4096 + b2 % 64 * 64 + b3 % 64 ≤ 1114111))
    · have e : decodeN n b0 b1 b2 b3 = (b0 % 8 * 262144 + b1 % 64 * 4096 + b2 % 64 * 64 + b3 % 64, 4) := by unfold decodeN; rw [if_neg c0, if_neg c2, if_neg c3, if_pos c4, if_pos hc]
      rw [e]; refine .inr (.inr (.inr ⟨rfl, ?_, ?_, ?_, ?_⟩)) <;> simp only <;> omega
    · have e : decodeN n b0 b1 b2 b3 = (65533, 1) := by unfold decodeN; rw [if_neg c0, if_neg c2, if_neg c3, if_pos c4, if_neg hc]
      rw [e] at hg; exact absurd ⟨rfl, rfl⟩ hg
  · have e : decodeN n b0 b1 b2 b3 = (65533, 1) := by unfold decodeN; rw [if_neg c0, if_neg c2, if_neg c3, if_neg c4]
    rw [e] at hg; exact absurd ⟨rfl, rfl⟩ hg

theorem ext_get (u v : ByteArray) (hs : u.size = v.size) (h : ∀ j, j < u.size → bt u j = bt v j) : u = v := by
  apply ByteArray.ext
  apply Array.ext
  · exact hs
  · intro j h1 h2
    have := h j h1
    unfold bt at this
    rw [get_lt u j h1, get_lt v j h2] at this
    exact UInt8.toNat_inj.1 this
/-- A good spot's bytes are what its rune is written as. -/
theorem enc_dec (s : ByteArray) (i : Nat) (hi : i < s.size) (hg : badB s i = false) : Utf8.encode ((rn s i : Nat) : Int) = s.extract i (i + wd s i) := by
  have hg' : ¬ (rn s i = 65533 ∧ wd s i = 1) := of_decide_eq_false hg
  have hr := wd_room s i hi
  have hw := rn_rune s i
  have hwn := widthOf_rn s i hg'
  have key := decodeN_bytes (s.size - i) (bt s i) (bt s (i + 1)) (bt s (i + 2)) (bt s (i + 3)) (bt_lt _ _) (bt_lt _ _) (bt_lt _ _) (bt_lt _ _)
  have e : decodeN (s.size - i) (bt s i) (bt s (i + 1)) (bt s (i + 2)) (bt s (i + 3)) = Utf8.decode s i := (decode_at s i).symm
  rw [e] at key
  have key := key hg'
  change (wd s i = 1 ∧ rn s i = bt s i ∧ _) ∨ (wd s i = 2 ∧ bt s i = 192 + rn s i / 64 ∧ bt s (i + 1) = 128 + rn s i % 64) ∨ (wd s i = 3 ∧ bt s i = 224 + rn s i / 4096 ∧ bt s (i + 1) = 128 + rn s i / 64 % 64 ∧ bt s (i + 2) = 128 + rn s i % 64) ∨ (wd s i = 4 ∧ bt s i = 240 + rn s i / 262144 ∧ bt s (i + 1) = 128 + rn s i / 4096 % 64 ∧ bt s (i + 2) = 128 + rn s i / 64 % 64 ∧ bt s (i + 3) = 128 + rn s i % 64) at key
  have hx : ∀ j, j < wd s i → bt (s.extract i (i + wd s i)) j = bt s (i + j) := fun j hj => by unfold bt; rw [get_extract _ _ _ _ (by omega) hr]
  have hsz : (s.extract i (i + wd s i)).size = wd s i := by rw [ByteArray.size_extract]; omega
  have b0 := bt_lt s i
  have b1 := bt_lt s (i + 1)
  have b2 := bt_lt s (i + 2)
  have b3 := bt_lt s (i + 3)
  generalize rn s i = r at *
  rcases key with ⟨k1, k2, k3⟩ | ⟨k1, k2, k3⟩ | ⟨k1, k2, k3, k4⟩ | ⟨k1, k2, k3, k4, k5⟩
  · rw [enc1 hw (by omega)]
    refine ext_get _ _ (by rw [hsz, k1]; rfl) (fun j hj => ?_)
    obtain rfl : j = 0 := by have : j < 1 := hj; omega
    rw [hx 0 (by omega), Nat.add_zero]
    show (UInt8.ofNat ((r : Int).toNat)).toNat = _
    rw [u8n _ (by omega)]; omega
  · have hlo : 128 ≤ (r : Int) ∧ (r : Int) < 2048 := by
      rw [k1] at hwn
      unfold widthOf at hwn
      repeat' split at hwn
      all_goals omega
    rw [enc2 hw hlo.1 hlo.2]
    refine ext_get _ _ (by rw [hsz, k1]; rfl) (fun j hj => ?_)
    have : j < 2 := hj
    have : j = 0 ∨ j = 1 := by omega
    rcases this with rfl | rfl
    · rw [hx 0 (by omega), Nat.add_zero]
      show (UInt8.ofNat (0xC0 + (r : Int).toNat / 64)).toNat = _
      rw [u8n _ (by omega)]; omega
    · rw [hx 1 (by omega)]
      show (UInt8.ofNat (0x80 + (r : Int).toNat % 64)).toNat = _
      rw [u8n _ (by omega)]; omega
  · have hlo : 2048 ≤ (r : Int) ∧ (r : Int) < 65536 := by
      rw [k1] at hwn
      unfold widthOf at hwn
      repeat' split at hwn
      all_goals omega
    rw [enc3 hw hlo.1 hlo.2]
    refine ext_get _ _ (by rw [hsz, k1]; rfl) (fun j hj => ?_)
    have : j < 3 := hj
    have : j = 0 ∨ j = 1 ∨ j = 2 := by omega
    rcases this with rfl | rfl | rfl
    · rw [hx 0 (by omega), Nat.add_zero]
      show (UInt8.ofNat (0xE0 + (r : Int).toNat / 4096)).toNat = _
      rw [u8n _ (by omega)]; omega
    · rw [hx 1 (by omega)]
      show (UInt8.ofNat (0x80 + (r : Int).toNat / 64 % 64)).toNat = _
      rw [u8n _ (by omega)]; omega
    · rw [hx 2 (by omega)]
      show (UInt8.ofNat (0x80 + (r : Int).toNat % 64)).toNat = _
      rw [u8n _ (by omega)]; omega
  · have hlo : 65536 ≤ (r : Int) := by
      rw [k1] at hwn
      unfold widthOf at hwn
      repeat' split at hwn
      all_goals omega
    rw [enc4 hw hlo]
    refine ext_get _ _ (by rw [hsz, k1]; rfl) (fun j hj => ?_)
    have : j < 4 := hj
    have : j = 0 ∨ j = 1 ∨ j = 2 ∨ j = 3 := by omega
    rcases this with rfl | rfl | rfl | rfl
    · rw [hx 0 (by omega), Nat.add_zero]
      show (UInt8.ofNat (0xF0 + (r : Int).toNat / 262144)).toNat = _
      rw [u8n _ (by omega)]; omega
    · rw [hx 1 (by omega)]
      show (UInt8.ofNat (0x80 + (r : Int).toNat / 4096 % 64)).toNat = _
      rw [u8n _ (by omega)]; omega
    · rw [hx 2 (by omega)]
      show (UInt8.ofNat (0x80 + (r : Int).toNat / 64 % 64)).toNat = _
      rw [u8n _ (by omega)]; omega
    · rw [hx 3 (by omega)]
      show (UInt8.ofNat (0x80 + (r : Int).toNat % 64)).toNat = _
      rw [u8n _ (by omega)]; omega

theorem clean_from (s : ByteArray) : ∀ f i, s.size ≤ i + f → i ≤ s.size → (∀ p ∈ startsFrom s f i, badB s p = false) → runesBytes ((startsFrom s f i).map (fun p => ((rn s p : Nat) : Int))) = s.extract i s.size
  | 0, i, hf, hi, h => by
    rw [show i = s.size by omega]
    simp only [startsFrom, List.map_nil]
    rw [show s.extract s.size s.size = ByteArray.empty from by apply ByteArray.ext; simp]
    rfl
  | f + 1, i, hf, hi, h => by
    by_cases hlt : i < s.size
    · have hw := wd_pos s i
      have hr := wd_room s i hlt
      rw [startsFrom_cons s f i hlt] at h ⊢
      rw [List.map_cons, runesBytes_cons, enc_dec s i hlt (h i (by simp)), clean_from s f (i + wd s i) (by omega) hr (fun p hp => h p (by simp [hp]))]
      rw [ByteArray.extract_append_extract]
      congr 1 <;> omega
    · rw [startsFrom_end s _ _ hlt, show i = s.size by omega, show s.extract s.size s.size = ByteArray.empty from by apply ByteArray.ext; simp]
      rfl
/-- A text without bad spots is its own clean text. -/
theorem clean_valid (s : ByteArray) (h : ∀ i ∈ starts s, badB s i = false) : cleanV s = s := by
  have := clean_from s s.size 0 (by omega) (by omega) h
  unfold cleanV runesL starts
  rw [this]
  exact ByteArray.extract_zero_size
theorem clean_facts (s : ByteArray) : runesL (cleanV s) = runesL s ∧ (∀ i ∈ starts (cleanV s), badB (cleanV s) i = false) ∧ cleanV (cleanV s) = cleanV s ∧ (starts (cleanV s)).length = (starts s).length := by
  obtain ⟨h1, h2⟩ := runes_back (runesL s) (runesL_runes s)
  refine ⟨h1, h2, clean_valid _ h2, ?_⟩
  rw [← runesL_length, ← runesL_length]
  exact congrArg List.length h1
end Go.Proofs.Ythjndkjbjflmfaa
