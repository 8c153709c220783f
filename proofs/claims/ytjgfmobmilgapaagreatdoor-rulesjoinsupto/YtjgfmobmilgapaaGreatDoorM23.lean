/- Texts of this claim, one behind the other. -/
import Derived.Test.YtjgfmobmilgapaaGreatDoorM6
import Derived.Lib.QuietBelow
import Derived.BigQuiet
import Derived.Deep.RegionHeld3
import Derived.Test.YtjgfmobmilgapaaGreatDoorM11
import Derived.Test.YtjgfmobmilgapaaGreatDoorM14
import Derived.Lib.AppendStr
import Derived.Laws.BytesArg
import Derived.Test.YtjgfmobmilgapaaGreatDoorM7
import Derived.Test.YtjgfmobmilgapaaGreatDoorM22
import Derived.Laws.AppendOwnNone
import Derived.Test.YtjgfmobmilgapaaGreatDoorM12
import Derived.Test.YtjgfmobmilgapaaGreatDoorM10
import Derived.Test.YtjgfmobmilgapaaGreatDoorM16
import Derived.Test.YtjgfmobmilgapaaGreatDoorM2
/- The reference's reader of rules: is, take. -/
namespace Go.Proofs.YtjgfmobmilgapaaGreatDoor
open Go.RowKit Go.Shelf
set_option linter.unusedVariables false
end Go.Proofs.YtjgfmobmilgapaaGreatDoor
namespace Go.Proofs.YtjgfmobmilgapaaGreatDoor
open Go.RowKit Go.Shelf
open Go.Lib (strCells strCells_length)
set_option linter.unusedVariables false
end Go.Proofs.YtjgfmobmilgapaaGreatDoor
namespace Go.Proofs.YtjgfmobmilgapaaGreatDoor
open Go.RowKit Go.Shelf
set_option linter.unusedVariables false
end Go.Proofs.YtjgfmobmilgapaaGreatDoor
namespace Go.Proofs.YtjgfmobmilgapaaGreatDoor
open Go.RowKit Go.Shelf
open Go.Lib (decodeN decode_at)
set_option linter.unusedVariables false

theorem valid_of_width {z : Int} (h : widthOf z ≠ 0) : Utf8.valid z = true ∧ 0 ≤ z ∧ z ≤ 1114111 ∧ ¬ (55296 ≤ z ∧ z ≤ 57343) := by
  unfold widthOf at h
  split at h
  · exact absurd rfl h
  · rename_i hh
    refine ⟨?_, by omega, by omega, by omega⟩
    simp only [Utf8.valid, Bool.or_eq_true, Bool.and_eq_true, decide_eq_true_eq]
    omega

theorem enc1 {z : Int} (h : widthOf z ≠ 0) (h1 : z < 128) : Utf8.encode z = ⟨#[UInt8.ofNat z.toNat]⟩ := by
  obtain ⟨hv, h0, _, _⟩ := valid_of_width h
  unfold Utf8.encode
  simp only [hv, if_true]
  rw [if_pos (by omega)]
theorem enc2 {z : Int} (h : widthOf z ≠ 0) (h1 : 128 ≤ z) (h2 : z < 2048) : Utf8.encode z = ⟨#[UInt8.ofNat (0xC0 + z.toNat / 64), UInt8.ofNat (0x80 + z.toNat % 64)]⟩ := by
  obtain ⟨hv, h0, _, _⟩ := valid_of_width h
  unfold Utf8.encode
  simp only [hv, if_true]
  rw [if_neg (by omega), if_pos (by omega)]
theorem enc3 {z : Int} (h : widthOf z ≠ 0) (h1 : 2048 ≤ z) (h2 : z < 65536) : Utf8.encode z = ⟨#[UInt8.ofNat (0xE0 + z.toNat / 4096), UInt8.ofNat (0x80 + z.toNat / 64 % 64), UInt8.ofNat (0x80 + z.toNat % 64)]⟩ := by
  obtain ⟨hv, h0, _, _⟩ := valid_of_width h
  unfold Utf8.encode
  simp only [hv, if_true]
  rw [if_neg (by omega), if_neg (by omega), if_pos (by omega)]
theorem enc4 {z : Int} (h : widthOf z ≠ 0) (h1 : 65536 ≤ z) : Utf8.encode z = ⟨#[UInt8.ofNat (0xF0 + z.toNat / 262144), UInt8.ofNat (0x80 + z.toNat / 4096 % 64), UInt8.ofNat (0x80 + z.toNat / 64 % 64), UInt8.ofNat (0x80 + z.toNat % 64)]⟩ := by
  obtain ⟨hv, h0, _, _⟩ := valid_of_width h
  unfold Utf8.encode
  simp only [hv, if_true]
  rw [if_neg (by omega), if_neg (by omega), if_neg (by omega)]
theorem u8n (n : Nat) (h : n < 256) : (UInt8.ofNat n).toNat = n := by rw [UInt8.toNat_ofNat']; omega

theorem decode_enc {z : Int} (h : widthOf z ≠ 0) : Utf8.decode (Utf8.encode z) 0 = (z.toNat, (Utf8.encode z).size) ∧ ((Utf8.encode z).size : Int) = widthOf z := by
  obtain ⟨hv, h0, h1, h2⟩ := valid_of_width h
  by_cases c1 : z < 128
  · rw [enc1 h c1]
    refine ⟨?_, ?_⟩
    · rw [decode_at]
      have e0 : ((⟨#[UInt8.ofNat z.toNat]⟩ : ByteArray).get! 0).toNat = z.toNat := by show (UInt8.ofNat z.toNat).toNat = _; exact u8n _ (by omega)
      rw [e0]
      unfold decodeN
      rw [if_pos (by omega)]
      rfl
    · unfold widthOf; rw [if_neg (by omega), if_pos (by omega)]; rfl
  by_cases c2 : z < 2048
  · rw [enc2 h (by omega) c2]
    refine ⟨?_, ?_⟩
    · rw [decode_at]
      have e0 : ((⟨#[UInt8.ofNat (0xC0 + z.toNat / 64), UInt8.ofNat (0x80 + z.toNat % 64)]⟩ : ByteArray).get! 0).toNat = 192 + z.toNat / 64 := by show (UInt8.ofNat (0xC0 + z.toNat / 64)).toNat = _; exact u8n _ (by omega)
      have e1 : ((⟨#[UInt8.ofNat (0xC0 + z.toNat / 64), UInt8.ofNat (0x80 + z.toNat % 64)]⟩ : ByteArray).get! (0 + 1)).toNat = 128 + z.toNat % 64 := by show (UInt8.ofNat (0x80 + z.toNat % 64)).toNat = _; exact u8n _ (by omega)
      rw [e0, e1]
      show decodeN 2 _ _ _ _ = (_, 2)
      unfold decodeN
      rw [if_neg (by omega), if_pos (by omega), if_pos (by omega)]
      rw [Prod.mk.injEq]
      exact ⟨by omega, rfl⟩
    · unfold widthOf; rw [if_neg (by omega), if_neg (by omega), if_pos (by omega)]; rfl
  by_cases c3 : z < 65536
  · rw [enc3 h (by omega) c3]
    refine ⟨?_, ?_⟩
    · rw [decode_at]
      have e0 : ((⟨#[UInt8.ofNat (0xE0 + z.toNat / 4096), UInt8.ofNat (0x80 + z.toNat / 64 % 64), UInt8.ofNat (0x80 + z.toNat % 64)]⟩ : ByteArray).get! 0).toNat = 224 + z.toNat / 4096 := by show (UInt8.ofNat (0xE0 + z.toNat / 4096)).toNat = _; exact u8n _ (by omega)
      have e1 : ((⟨#[UInt8.ofNat (0xE0 + z.toNat / 4096), UInt8.ofNat (0x80 + z.toNat / 64 % 64), UInt8.ofNat (0x80 + z.toNat % 64)]⟩ : ByteArray).get! (0 + 1)).toNat = 128 + z.toNat / 64 % 64 := by show (UInt8.ofNat (0x80 + z.toNat / 64 % 64)).toNat = _; exact u8n _ (by omega)
      have e2 : ((⟨#[UInt8.ofNat (0xE0 + z.toNat / 4096), UInt8.ofNat (0x80 + z.toNat / 64 % 64), UInt8.ofNat (0x80 + z.toNat % 64)]⟩ : ByteArray).get! (0 + 2)).toNat = 128 + z.toNat % 64 := by show (UInt8.ofNat (0x80 + z.toNat % 64)).toNat = _; exact u8n _ (by omega)
      rw [e0, e1, e2]
      show decodeN 3 _ _ _ _ = (_, 3)
      unfold decodeN
      rw [if_neg (by omega), if_neg (by omega), if_pos (by omega), if_pos (by omega)]
      rw [Prod.mk.injEq]
      exact ⟨by omega, rfl⟩
    · unfold widthOf; rw [if_neg (by omega), if_neg (by omega), if_neg (by omega), if_pos (by omega)]; rfl
  · rw [enc4 h (by omega)]
    refine ⟨?_, ?_⟩
    · rw [decode_at]
      have e0 : ((⟨#[UInt8.ofNat (0xF0 + z.toNat / 262144), UInt8.ofNat (0x80 + z.toNat / 4096 % 64), UInt8.ofNat (0x80 + z.toNat / 64 % 64), UInt8.ofNat (0x80 + z.toNat % 64)]⟩ : ByteArray).get! 0).toNat = 240 + z.toNat / 262144 := by show (UInt8.ofNat (0xF0 + z.toNat / 262144)).toNat = _; exact u8n _ (by omega)
      have e1 : ((⟨#[UInt8.ofNat (0xF0 + z.toNat / 262144), UInt8.ofNat (0x80 + z.toNat / 4096 % 64), UInt8.ofNat (0x80 + z.toNat / 64 % 64), UInt8.ofNat (0x80 + z.toNat % 64)]⟩ : ByteArray).get! (0 + 1)).toNat = 128 + z.toNat / 4096 % 64 := by show (UInt8.ofNat (0x80 + z.toNat / 4096 % 64)).toNat = _; exact u8n _ (by omega)
      have e2 : ((⟨#[UInt8.ofNat (0xF0 + z.toNat / 262144), UInt8.ofNat (0x80 + z.toNat / 4096 % 64), UInt8.ofNat (0x80 + z.toNat / 64 % 64), UInt8.ofNat (0x80 + z.toNat % 64)]⟩ : ByteArray).get! (0 + 2)).toNat = 128 + z.toNat / 64 % 64 := by show (UInt8.ofNat (0x80 + z.toNat / 64 % 64)).toNat = _; exact u8n _ (by omega)
      have e3 : ((⟨#[UInt8.ofNat (0xF0 + z.toNat / 262144), UInt8.ofNat (0x80 + z.toNat / 4096 % 64), UInt8.ofNat (0x80 + z.toNat / 64 % 64), UInt8.ofNat (0x80 + z.toNat % 64)]⟩ : ByteArray).get! (0 + 3)).toNat = 128 + z.toNat % 64 := by show (UInt8.ofNat (0x80 + z.toNat % 64)).toNat = _; exact u8n _ (by omega)
      rw [e0, e1, e2, e3]
      show decodeN 4 _ _ _ _ = (_, 4)
      unfold decodeN
      rw [if_neg (by omega), if_neg (by omega), if_neg (by omega), if_pos (by omega), if_pos (by omega)]
      rw [Prod.mk.injEq]
      exact ⟨by omega, rfl⟩
    · unfold widthOf; rw [if_neg (by omega), if_neg (by omega), if_neg (by omega), if_neg (by omega)]; rfl

theorem starts_enc {z : Int} (h : widthOf z ≠ 0) : starts (Utf8.encode z) = [0] ∧ badB (Utf8.encode z) 0 = false ∧ runesL (Utf8.encode z) = [z] := by
  obtain ⟨hd, hw⟩ := decode_enc h
  obtain ⟨hv, h0, h1, h2⟩ := valid_of_width h
  have hsz : 1 ≤ (Utf8.encode z).size := by
    have : (0 : Int) ≤ widthOf z := by
      unfold widthOf
      repeat' split
      all_goals omega
    omega
  have hs : starts (Utf8.encode z) = [0] := by
    unfold starts
    obtain ⟨m, hm⟩ : ∃ m, (Utf8.encode z).size = m + 1 := ⟨(Utf8.encode z).size - 1, by omega⟩
    have hwd : wd (Utf8.encode z) 0 = (Utf8.encode z).size := by simp only [wd]; rw [hd]
    rw [hm, startsFrom_cons _ m 0 (by omega), hwd, startsFrom_end _ _ _ (by omega)]
  refine ⟨hs, ?_, ?_⟩
  · unfold badB
    refine decide_eq_false ?_
    simp only [rn, wd, hd]
    rintro ⟨a, b⟩
    unfold widthOf at hw
    rw [b] at hw
    repeat' split at hw
    all_goals omega
  · unfold runesL
    rw [hs]
    simp only [List.map_cons, List.map_nil, rn, hd]
    rw [Int.toNat_of_nonneg h0]

theorem runesBytes_cons (z : Int) (zs : List Int) : runesBytes (z :: zs) = Utf8.encode z ++ runesBytes zs := by
  have := runesBytes_both [z] zs
  rw [List.singleton_append] at this
  rw [this, show runesBytes [z] = Utf8.encode z by unfold runesBytes; simp]
theorem badB_both (s t : ByteArray) (hb : bdB (s ++ t) s.size = true) (h1 : ∀ i ∈ starts s, badB s i = false) (h2 : ∀ i ∈ starts t, badB t i = false) : ∀ i ∈ starts (s ++ t), badB (s ++ t) i = false := by
  obtain ⟨e, hd⟩ := starts_both s t hb
  rw [e]
  intro i hi
  rcases List.mem_append.1 hi with hi | hi
  · rw [← h1 i hi]
    unfold badB
    simp only [rn, wd, hd i hi]
  · obtain ⟨j, hj, rfl⟩ := List.mem_map.1 hi
    rw [← h2 j hj]
    unfold badB
    simp only [rn, wd, decode_behind]
theorem runes_back : ∀ zs : List Int, (∀ z ∈ zs, widthOf z ≠ 0) → runesL (runesBytes zs) = zs ∧ ∀ i ∈ starts (runesBytes zs), badB (runesBytes zs) i = false
  | [], _ => by
    have e : starts (runesBytes []) = [] := by decide
    exact ⟨by unfold runesL; rw [e]; rfl, by rw [e]; intro i hi; cases hi⟩
  | z :: zs, h => by
    obtain ⟨h1, h2⟩ := runes_back zs (fun y hy => h y (by simp [hy]))
    obtain ⟨e1, e2, e3⟩ := starts_enc (h z (by simp))
    have hv : ∀ i ∈ starts (Utf8.encode z), badB (Utf8.encode z) i = false := by rw [e1]; intro i hi; simp at hi; rw [hi]; exact e2
    have hj := joins_valid_left (Utf8.encode z) (runesBytes zs) hv
    rw [joins_bd] at hj
    rw [runesBytes_cons]
    exact ⟨by rw [runesL_both _ _ hj, h1, e3]; rfl, badB_both _ _ hj hv h2⟩

theorem rn_rune (s : ByteArray) (i : Nat) : widthOf ((rn s i : Nat) : Int) ≠ 0 := by
  have t := at_told s i
  have h1 := t.small
  have h2 := t.nosur
  unfold widthOf
  simp only [rn]
  rw [if_neg (by omega)]
  repeat' split
  all_goals decide
theorem decodeN_bytes (n b0 b1 b2 b3 : Nat) (h0 : b0 < 256) (h1 : b1 < 256) (h2 : b2 < 256) (h3 : b3 < 256) (hg : ¬ ((decodeN n b0 b1 b2 b3).1 = 65533 ∧ (decodeN n b0 b1 b2 b3).2 = 1)) :
    ((decodeN n b0 b1 b2 b3).2 = 1 ∧ (decodeN n b0 b1 b2 b3).1 = b0 ∧ b0 < 128) ∨
    ((decodeN n b0 b1 b2 b3).2 = 2 ∧ b0 = 192 + (decodeN n b0 b1 b2 b3).1 / 64 ∧ b1 = 128 + (decodeN n b0 b1 b2 b3).1 % 64) ∨
    ((decodeN n b0 b1 b2 b3).2 = 3 ∧ b0 = 224 + (decodeN n b0 b1 b2 b3).1 / 4096 ∧ b1 = 128 + (decodeN n b0 b1 b2 b3).1 / 64 % 64 ∧ b2 = 128 + (decodeN n b0 b1 b2 b3).1 % 64) ∨
    ((decodeN n b0 b1 b2 b3).2 = 4 ∧ b0 = 240 + (decodeN n b0 b1 b2 b3).1 / 262144 ∧ b1 = 128 + (decodeN n b0 b1 b2 b3).1 / 4096 % 64 ∧ b2 = 128 + (decodeN n b0 b1 b2 b3).1 / 64 % 64 ∧ b3 = 128 + (decodeN n b0 b1 b2 b3).1 % 64) := by
  by_cases c0 : b0 < 128
  · have e : decodeN n b0 b1 b2 b3 = (b0, 1) := by unfold decodeN; rw [if_pos c0]
    rw [e]; exact .inl ⟨rfl, rfl, c0⟩
  by_cases c2 : b0 / 32 = 6 ∧ (1 < n ∧ b1 / 64 = 2)
  · by_cases hc : b0 % 32 * 64 + b1 % 64 ≥ 128
    · have e : decodeN n b0 b1 b2 b3 = (b0 % 32 * 64 + b1 % 64, 2) := by unfold decodeN; rw [if_neg c0, if_pos c2, if_pos hc]
      rw [e]; refine .inr (.inl ⟨rfl, ?_, ?_⟩) <;> simp only <;> omega
    · have e : decodeN n b0 b1 b2 b3 = (65533, 1) := by unfold decodeN; rw [if_neg c0, if_pos c2, if_neg hc]
      rw [e] at hg; exact absurd ⟨rfl, rfl⟩ hg
  by_cases c3 : b0 / 16 = 14 ∧ (1 < n ∧ b1 / 64 = 2) ∧ (2 < n ∧ b2 / 64 = 2)
  · by_cases hc : b0 % 16 * 4096 + b1 % 64 * 64 + b2 % 64 ≥ 2048 ∧ (b0 % 16 * 4096 + b1 % 64 * 64 + b2 % 64 < 55296 ∨ (57344 ≤ b0 % 16 * 4096 + b1 % 64 * 64 + b2 % 64 ∧ b0 % 16 * 4096 + b1 % 64 * 64 + b2 % 64 ≤ 1114111))
    · have e : decodeN n b0 b1 b2 b3 = (b0 % 16 * 4096 + b1 % 64 * 64 + b2 % 64, 3) := by unfold decodeN; rw [if_neg c0, if_neg c2, if_pos c3, if_pos hc]
      rw [e]; refine .inr (.inr (.inl ⟨rfl, ?_, ?_, ?_⟩)) <;> simp only <;> omega
    · have e : decodeN n b0 b1 b2 b3 = (65533, 1) := by unfold decodeN; rw [if_neg c0, if_neg c2, if_pos c3, if_neg hc]
      rw [e] at hg; exact absurd ⟨rfl, rfl⟩ hg
  by_cases c4 : b0 / 8 = 30 ∧ (1 < n ∧ b1 / 64 = 2) ∧ (2 < n ∧ b2 / 64 = 2) ∧ (3 < n ∧ b3 / 64 = 2)
  · by_cases hc : b0 % 8 * 262144 + b1 % 64 * 4096 + b2 % 64 * 64 + b3 % 64 ≥ 65536 ∧ (b0 % 8 * 262144 + b1 % 64 * 4096 + b2 % 64 * 64 + b3 % 64 < 55296 ∨ (57344 ≤ b0 % 8 * 262144 + b1 % 64 * 4096 + b2 % 64 * 64 + b3 % 64 ∧ b0 % 8 * 262144 + b1 % 64 * 4096 + b2 % 64 * 64 + b3 % 64 ≤ 1114111))
    · have e : decodeN n b0 b1 b2 b3 = (b0 % 8 * 262144 + b1 % 64 * 4096 + b2 % 64 * 64 + b3 % 64, 4) := by unfold decodeN; rw [if_neg c0, if_neg c2, if_neg c3, if_pos c4, if_pos hc]
      rw [e]; refine .inr (.inr (.inr ⟨rfl, ?_, ?_, ?_, ?_⟩)) <;> simp only <;> omega
    · have e : decodeN n b0 b1 b2 b3 = (65533, 1) := by unfold decodeN; rw [if_neg c0, if_neg c2, if_neg c3, if_pos c4, if_neg hc]
      rw [e] at hg; exact absurd ⟨rfl, rfl⟩ hg
  · have e : decodeN n b0 b1 b2 b3 = (65533, 1) := by unfold decodeN; rw [if_neg c0, if_neg c2, if_neg c3, if_neg c4]
    rw [e] at hg; exact absurd ⟨rfl, rfl⟩ hg

theorem ext_get (u v : ByteArray) (hs : u.size = v.size) (h : ∀ j, j < u.size → bt u j = bt v j) : u = v := by
  apply ByteArray.ext
  apply Array.ext
  · exact hs
  · intro j h1 h2
    have := h j h1
    unfold bt at this
    rw [get_lt u j h1, get_lt v j h2] at this
    exact UInt8.toNat_inj.1 this
theorem enc_dec (s : ByteArray) (i : Nat) (hi : i < s.size) (hg : badB s i = false) : Utf8.encode ((rn s i : Nat) : Int) = s.extract i (i + wd s i) := by
  have hg' : ¬ (rn s i = 65533 ∧ wd s i = 1) := of_decide_eq_false hg
  have hr := wd_room s i hi
  have hw := rn_rune s i
  have hwn := widthOf_rn s i hg'
  have key := decodeN_bytes (s.size - i) (bt s i) (bt s (i + 1)) (bt s (i + 2)) (bt s (i + 3)) (bt_lt _ _) (bt_lt _ _) (bt_lt _ _) (bt_lt _ _)
  have e : decodeN (s.size - i) (bt s i) (bt s (i + 1)) (bt s (i + 2)) (bt s (i + 3)) = Utf8.decode s i := (decode_at s i).symm
  rw [e] at key
  have key := key hg'
  change (wd s i = 1 ∧ rn s i = bt s i ∧ _) ∨ (wd s i = 2 ∧ bt s i = 192 + rn s i / 64 ∧ bt s (i + 1) = 128 + rn s i % 64) ∨ (wd s i = 3 ∧ bt s i = 224 + rn s i / 4096 ∧ bt s (i + 1) = 128 + rn s i / 64 % 64 ∧ bt s (i + 2) = 128 + rn s i % 64) ∨ (wd s i = 4 ∧ bt s i = 240 + rn s i / 262144 ∧ bt s (i + 1) = 128 + rn s i / 4096 % 64 ∧ bt s (i + 2) = 128 + rn s i / 64 % 64 ∧ bt s (i + 3) = 128 + rn s i % 64) at key
  have hx : ∀ j, j < wd s i → bt (s.extract i (i + wd s i)) j = bt s (i + j) := fun j hj => by unfold bt; rw [get_extract _ _ _ _ (by omega) hr]
  have hsz : (s.extract i (i + wd s i)).size = wd s i := by rw [ByteArray.size_extract]; omega
  have b0 := bt_lt s i
  have b1 := bt_lt s (i + 1)
  have b2 := bt_lt s (i + 2)
  have b3 := bt_lt s (i + 3)
  generalize rn s i = r at *
  rcases key with ⟨k1, k2, k3⟩ | ⟨k1, k2, k3⟩ | ⟨k1, k2, k3, k4⟩ | ⟨k1, k2, k3, k4, k5⟩
  · rw [enc1 hw (by omega)]
    refine ext_get _ _ (by rw [hsz, k1]; rfl) (fun j hj => ?_)
    obtain rfl : j = 0 := by have : j < 1 := hj; omega
    rw [hx 0 (by omega), Nat.add_zero]
    show (UInt8.ofNat ((r : Int).toNat)).toNat = _
    rw [u8n _ (by omega)]; omega
  · have hlo : 128 ≤ (r : Int) ∧ (r : Int) < 2048 := by
      rw [k1] at hwn
      unfold widthOf at hwn
      repeat' split at hwn
      all_goals omega
    rw [enc2 hw hlo.1 hlo.2]
    refine ext_get _ _ (by rw [hsz, k1]; rfl) (fun j hj => ?_)
    have : j < 2 := hj
    have : j = 0 ∨ j = 1 := by omega
    rcases this with rfl | rfl
    · rw [hx 0 (by omega), Nat.add_zero]
      show (UInt8.ofNat (0xC0 + (r : Int).toNat / 64)).toNat = _
      rw [u8n _ (by omega)]; omega
    · rw [hx 1 (by omega)]
      show (UInt8.ofNat (0x80 + (r : Int).toNat % 64)).toNat = _
      rw [u8n _ (by omega)]; omega
  · have hlo : 2048 ≤ (r : Int) ∧ (r : Int) < 65536 := by
      rw [k1] at hwn
      unfold widthOf at hwn
      repeat' split at hwn
      all_goals omega
    rw [enc3 hw hlo.1 hlo.2]
    refine ext_get _ _ (by rw [hsz, k1]; rfl) (fun j hj => ?_)
    have : j < 3 := hj
    have : j = 0 ∨ j = 1 ∨ j = 2 := by omega
    rcases this with rfl | rfl | rfl
    · rw [hx 0 (by omega), Nat.add_zero]
      show (UInt8.ofNat (0xE0 + (r : Int).toNat / 4096)).toNat = _
      rw [u8n _ (by omega)]; omega
    · rw [hx 1 (by omega)]
      show (UInt8.ofNat (0x80 + (r : Int).toNat / 64 % 64)).toNat = _
      rw [u8n _ (by omega)]; omega
    · rw [hx 2 (by omega)]
      show (UInt8.ofNat (0x80 + (r : Int).toNat % 64)).toNat = _
      rw [u8n _ (by omega)]; omega
  · have hlo : 65536 ≤ (r : Int) := by
      rw [k1] at hwn
      unfold widthOf at hwn
      repeat' split at hwn
      all_goals omega
    rw [enc4 hw hlo]
    refine ext_get _ _ (by rw [hsz, k1]; rfl) (fun j hj => ?_)
    have : j < 4 := hj
    have : j = 0 ∨ j = 1 ∨ j = 2 ∨ j = 3 := by omega
    rcases this with rfl | rfl | rfl | rfl
    · rw [hx 0 (by omega), Nat.add_zero]
      show (UInt8.ofNat (0xF0 + (r : Int).toNat / 262144)).toNat = _
      rw [u8n _ (by omega)]; omega
    · rw [hx 1 (by omega)]
      show (UInt8.ofNat (0x80 + (r : Int).toNat / 4096 % 64)).toNat = _
      rw [u8n _ (by omega)]; omega
    · rw [hx 2 (by omega)]
      show (UInt8.ofNat (0x80 + (r : Int).toNat / 64 % 64)).toNat = _
      rw [u8n _ (by omega)]; omega
    · rw [hx 3 (by omega)]
      show (UInt8.ofNat (0x80 + (r : Int).toNat % 64)).toNat = _
      rw [u8n _ (by omega)]; omega

theorem clean_from (s : ByteArray) : ∀ f i, s.size ≤ i + f → i ≤ s.size → (∀ p ∈ startsFrom s f i, badB s p = false) → runesBytes ((startsFrom s f i).map (fun p => ((rn s p : Nat) : Int))) = s.extract i s.size
  | 0, i, hf, hi, h => by
    rw [show i = s.size by omega]
    simp only [startsFrom, List.map_nil]
    rw [show s.extract s.size s.size = ByteArray.empty from by apply ByteArray.ext; simp]
    rfl
  | f + 1, i, hf, hi, h => by
    by_cases hlt : i < s.size
    · have hw := wd_pos s i
      have hr := wd_room s i hlt
      rw [startsFrom_cons s f i hlt] at h ⊢
      rw [List.map_cons, runesBytes_cons, enc_dec s i hlt (h i (by simp)), clean_from s f (i + wd s i) (by omega) hr (fun p hp => h p (by simp [hp]))]
      rw [ByteArray.extract_append_extract]
      congr 1 <;> omega
    · rw [startsFrom_end s _ _ hlt, show i = s.size by omega, show s.extract s.size s.size = ByteArray.empty from by apply ByteArray.ext; simp]
      rfl
theorem clean_valid (s : ByteArray) (h : ∀ i ∈ starts s, badB s i = false) : cleanV s = s := by
  have := clean_from s s.size 0 (by omega) (by omega) h
  unfold cleanV runesL starts
  rw [this]
  exact ByteArray.extract_zero_size
end Go.Proofs.YtjgfmobmilgapaaGreatDoor
namespace Go.Proofs.YtjgfmobmilgapaaGreatDoor
open Go.RowKit Go.Shelf
set_option linter.unusedVariables false
def lcR (x : Nat × Nat) (zs : List Int) : Nat × Nat := zs.foldl (fun x z => if z = 10 then (x.1 + 1, 1) else (x.1, x.2 + 1)) x
theorem lcR_app (x : Nat × Nat) (a b : List Int) : lcR x (a ++ b) = lcR (lcR x a) b := by simp [lcR]
theorem lcR_cons (x : Nat × Nat) (z : Int) (b : List Int) : lcR x (z :: b) = lcR (if z = 10 then (x.1 + 1, 1) else (x.1, x.2 + 1)) b := rfl
theorem lcR_nil (x : Nat × Nat) : lcR x [] = x := rfl
theorem lcF_runes (t : ByteArray) : ∀ (ps : List Nat) (x : Nat × Nat), lcF t x ps = lcR x (ps.map (fun i => ((rn t i : Nat) : Int)))
  | [], x => rfl
  | p :: ps, x => by
    show lcF t (lcStep t x p) ps = _
    rw [lcF_runes t ps, List.map_cons, lcR_cons]
    unfold lcStep
    by_cases h : rn t p = 10
    · rw [if_pos h, if_pos (by omega)]
    · rw [if_neg h, if_neg (by omega)]
theorem lcF_all (t : ByteArray) (x : Nat × Nat) : lcF t x (starts t) = lcR x (runesL t) := lcF_runes t _ x
theorem lcR_line : ∀ (zs : List Int) (x : Nat × Nat), (lcR x zs).1 = x.1 + zs.count 10
  | [], x => rfl
  | z :: zs, x => by
    rw [lcR_cons, lcR_line zs]
    by_cases h : z = 10
    · rw [if_pos h, h, List.count_cons_self]; show x.1 + 1 + _ = _; omega
    · rw [if_neg h, List.count_cons_of_ne h]
theorem lcR_none : ∀ (zs : List Int) (x : Nat × Nat), (10 : Int) ∉ zs → lcR x zs = (x.1, x.2 + zs.length)
  | [], x, _ => rfl
  | z :: zs, x, h => by
    rw [List.mem_cons, not_or] at h
    rw [lcR_cons, if_neg (fun e => h.1 e.symm), lcR_none zs _ h.2, List.length_cons, Prod.mk.injEq]
    exact ⟨rfl, by show x.2 + 1 + _ = _; omega⟩
theorem rn_ten (s : ByteArray) (i : Nat) : rn s i = 10 ↔ bt s i = 10 := by
  have t := at_told s i
  constructor
  · intro h
    have hg : ¬ (rn s i = 65533 ∧ wd s i = 1) := by omega
    rcases t.width hg with h1 | h1 | h1 | h1
    · rcases t.one h1.1 with h2 | h2 <;> (simp only [rn] at h; omega)
    all_goals (simp only [rn] at h; omega)
  · intro h
    rcases Nat.lt_or_ge (wd s i) 2 with h1 | h1
    · have : wd s i = 1 := by have := wd_pos s i; omega
      rcases t.one this with h2 | h2 <;> (simp only [rn]; omega)
    · have := wd_lead s i h1; omega
theorem drop_bt (s : ByteArray) (i : Nat) (h : i < s.size) : s.data.toList.drop i = s.get! i :: s.data.toList.drop (i + 1) := by
  rw [← List.getElem_cons_drop (h := by rw [Array.length_toList]; exact h)]
  congr 1
  rw [get_lt s i h]
  simp
theorem count_step (s : ByteArray) (i : Nat) (h : i < s.size) (hn : bt s i ≠ 10) : (s.data.toList.drop i).count 10 = (s.data.toList.drop (i + 1)).count 10 := by
  rw [drop_bt s i h, List.count_cons_of_ne (fun e => hn (by unfold bt; rw [e]; rfl))]
theorem count_cont (s : ByteArray) (i : Nat) : ∀ k, (∀ j, i ≤ j → j < i + k → j < s.size ∧ bt s j ≠ 10) → (s.data.toList.drop i).count 10 = (s.data.toList.drop (i + k)).count 10
  | 0, _ => rfl
  | k + 1, h => by
    rw [count_cont s i k (fun j h1 h2 => h j h1 (by omega)), count_step s (i + k) (h _ (by omega) (by omega)).1 (h _ (by omega) (by omega)).2]
    rfl
theorem count_from (s : ByteArray) : ∀ f i, s.size ≤ i + f → (s.data.toList.drop i).count 10 = ((startsFrom s f i).map (fun i => ((rn s i : Nat) : Int))).count 10
  | 0, i, h => by
    rw [List.drop_eq_nil_of_le (by rw [Array.length_toList]; show s.size ≤ i; omega)]
    rfl
  | f + 1, i, h => by
    by_cases hi : i < s.size
    · have hp := wd_pos s i
      have hr := wd_room s i hi
      rw [startsFrom_cons s f i hi, List.map_cons]
      by_cases ht : bt s i = 10
      · have h1 : wd s i = 1 := by
          rcases Nat.lt_or_ge (wd s i) 2 with h1 | h1
          · omega
          · have := wd_lead s i h1; omega
        have e : s.get! i = 10 := by rw [← UInt8.toNat_inj]; exact ht
        rw [drop_bt s i hi, e, (rn_ten s i).2 ht, h1, List.count_cons_self, count_from s f (i + 1) (by omega)]
        exact (List.count_cons_self ..).symm
      · have hz : (10 : Int) ≠ ((rn s i : Nat) : Int) := fun e => ht ((rn_ten s i).1 (by omega))
        rw [List.count_cons_of_ne (Ne.symm hz), ← count_from s f (i + wd s i) (by omega)]
        refine count_cont s i (wd s i) (fun j h1 h2 => ⟨by omega, ?_⟩)
        by_cases hj : j = i
        · rw [hj]; exact ht
        · have := wd_cont s i (j - i) (by omega) (by omega)
          rw [show i + (j - i) = j by omega] at this
          omega
    · rw [startsFrom_end s _ _ hi, List.drop_eq_nil_of_le (by rw [Array.length_toList]; show s.size ≤ i; omega)]
      rfl
theorem count_runes (s : ByteArray) : Lib.countByte s.data.toList 10 = (runesL s).count 10 := by
  have := count_from s s.size 0 (by omega)
  rw [List.drop_zero] at this
  exact this
theorem cat_split (t : ByteArray) (p : Nat) (h : p ≤ t.size) : t.extract 0 p ++ t.extract p t.size = t := by
  rw [ByteArray.extract_append_extract, Nat.zero_min, Nat.max_eq_right h, ByteArray.extract_zero_size]
theorem runesL_split (t : ByteArray) (p : Nat) (h : p ≤ t.size) (hb : bdB t p = true) : runesL t = runesL (t.extract 0 p) ++ runesL (t.extract p t.size) := by
  have hz : (t.extract 0 p).size = p := by rw [ByteArray.size_extract]; omega
  have := runesL_both (t.extract 0 p) (t.extract p t.size) (by rw [cat_split t p h, hz]; exact hb)
  rwa [cat_split t p h] at this
theorem ext_pre (s : ByteArray) (b a : Nat) (h : a ≤ b) : (s.extract 0 b).extract 0 a = s.extract 0 a := by rw [ByteArray.extract_extract, Nat.zero_add, Nat.zero_add, Nat.min_eq_left h]
theorem ext_mid (s : ByteArray) (b a : Nat) : (s.extract 0 b).extract a b = s.extract a b := by rw [ByteArray.extract_extract, Nat.zero_add, Nat.zero_add, Nat.min_self]
theorem no_ten (t : ByteArray) (h : ∀ j, j < t.size → bt t j ≠ 10) : (10 : Int) ∉ runesL t := by
  intro hm
  unfold runesL at hm
  obtain ⟨p, hp, e⟩ := List.mem_map.1 hm
  have h1 := (startsFrom_ge t t.size 0 p hp).2
  exact h p h1 ((rn_ten t p).1 (by omega))
theorem lastNl_spec (t : ByteArray) : (lastL t = 0 ∧ ∀ j, j < t.size → bt t j ≠ 10) ∨ (1 ≤ lastL t ∧ lastL t ≤ t.size ∧ bt t (lastL t - 1) = 10 ∧ ∀ j, lastL t ≤ j → j < t.size → bt t j ≠ 10) := by
  have hget : ∀ j, ((t.data[j]!).toNat : Int) = (bt t j : Int) := fun j => rfl
  unfold lastL
  rcases Lib.lastIndexByte_spec t 10 with ⟨h, h2⟩ | ⟨i, hi, h, h2, h3⟩
  · rw [h]; exact .inl ⟨rfl, fun j hj e => h2 j hj (by rw [hget, e]; rfl)⟩
  · rw [h]
    rw [hget] at h2
    refine .inr ⟨by omega, by omega, ?_, fun j h4 hj e => h3 j (by omega) hj (by rw [hget, e]; rfl)⟩
    rw [show ((i : Int) + 1).toNat - 1 = i by omega]
    omega
theorem runes_one_ten : runesL ⟨#[10]⟩ = [10] := by decide
theorem lc_text (t : ByteArray) : (1 + Lib.countByte t.data.toList 10, 1 + (starts (t.extract (lastL t) t.size)).length) = lcR (1, 1) (runesL t) := by
  rw [count_runes]
  rcases lastNl_spec t with ⟨h0, hn⟩ | ⟨h1, h2, h3, h4⟩
  · have hno := no_ten t hn
    rw [h0, ByteArray.extract_zero_size, lcR_none _ _ hno, List.count_eq_zero_of_not_mem hno, runesL_length]
  · have hb : bdB t (lastL t) = true := by
      have hb0 : bdB t (lastL t - 1) = true := bd_lead t _ (by omega)
      have hw : wd t (lastL t - 1) = 1 := by
        rcases Nat.lt_or_ge (wd t (lastL t - 1)) 2 with q | q
        · have := wd_pos t (lastL t - 1); omega
        · have := wd_lead t _ q; omega
      have := bd_step t (lastL t - 1) hb0 (by omega)
      rwa [hw, show lastL t - 1 + 1 = lastL t by omega] at this
    have hno : (10 : Int) ∉ runesL (t.extract (lastL t) t.size) := no_ten _ (fun j hj => by
      rw [ByteArray.size_extract] at hj
      unfold bt
      rw [get_suffix t (lastL t) j h2]
      exact h4 (lastL t + j) (by omega) (by omega))
    have e1 := runesL_split t (lastL t) h2 hb
    -- the first part ends with the byte 10
    have hb0 : bdB t (lastL t - 1) = true := bd_lead t _ (by omega)
    have e2 : runesL (t.extract 0 (lastL t)) = runesL (t.extract 0 (lastL t - 1)) ++ [10] := by
      have hz : (t.extract 0 (lastL t)).size = lastL t := by rw [ByteArray.size_extract]; omega
      have hbt : bt (t.extract 0 (lastL t)) (lastL t - 1) = 10 := by
        unfold bt
        rw [get_extract t 0 (lastL t) (lastL t - 1) (by omega) h2, Nat.zero_add]
        exact h3
      have := runesL_split (t.extract 0 (lastL t)) (lastL t - 1) (by omega) (bd_lead _ _ (by rw [hbt]; decide))
      rw [this, ext_pre t _ _ (by omega)]
      have e3 : (t.extract 0 (lastL t)).extract (lastL t - 1) (t.extract 0 (lastL t)).size = ⟨#[10]⟩ := by
        refine ext_get _ _ ?_ ?_
        · rw [ByteArray.size_extract, hz]; show _ = 1; omega
        · intro j hj
          rw [ByteArray.size_extract, hz] at hj
          unfold bt
          rw [get_suffix _ _ _ (by omega)]
          obtain rfl : j = 0 := by omega
          exact hbt
      rw [e3, runes_one_ten]
    rw [e1, List.count_append, List.count_eq_zero_of_not_mem hno, lcR_app, lcR_none _ _ hno, e2, lcR_app]
    generalize runesL (t.extract 0 (lastL t - 1)) = A
    rw [runesL_length, Prod.mk.injEq]
    refine ⟨?_, rfl⟩
    show 1 + _ = (lcR (1, 1) A).1 + 1
    rw [lcR_line, List.count_append]
    show 1 + (_ + 1 + 0) = _
    omega
theorem whL_runes (s : ByteArray) (k : Nat) : whL s k = lcR (1, 1) (runesL (s.extract 0 (cutAt s k))) := lc_text (aheadV s k)
theorem lcR_on (s : ByteArray) (a b : Nat) (x : Nat × Nat) (hab : a ≤ b) (hb : b ≤ s.size) (ha : bdB (s.extract 0 b) a = true) : lcR x (runesL (s.extract 0 b)) = lcR (lcR x (runesL (s.extract 0 a))) (runesL (s.extract a b)) := by
  have hz : (s.extract 0 b).size = b := by rw [ByteArray.size_extract]; omega
  rw [runesL_split (s.extract 0 b) a (by omega) ha, lcR_app, ext_pre s b a hab, hz, ext_mid s b a]
end Go.Proofs.YtjgfmobmilgapaaGreatDoor
namespace Go.Proofs.YtjgfmobmilgapaaGreatDoor
open Go.RowKit Go.Shelf
open Go.Lib (decode_at)
set_option linter.unusedVariables false
theorem bt_pre (t : ByteArray) (m i : Nat) (h : i < m) (hm : m ≤ t.size) : bt (t.extract 0 m) i = bt t i := by
  unfold bt
  rw [get_extract t 0 m i (by omega) hm, Nat.zero_add]
end Go.Proofs.YtjgfmobmilgapaaGreatDoor
namespace Go.Proofs.YtjgfmobmilgapaaGreatDoor
open Go.RowKit Go.Shelf
set_option linter.unusedVariables false
theorem bd_pre (s : ByteArray) (i e : Nat) (h : bdB s i = true) (hi : i ≤ e) (he : e ≤ s.size) : bdB (s.extract 0 e) i = true := by
  rw [bd_iff] at h ⊢
  intro n h4 h1 hn
  have hz : (s.extract 0 e).size = e := by rw [ByteArray.size_extract]; omega
  by_cases hb : rn (s.extract 0 e) (i - n) = 65533 ∧ wd (s.extract 0 e) (i - n) = 1
  · omega
  · have := decode_grow (s.extract 0 e) (s.extract e s.size) (i - n) (by omega) hb
    rw [cat_split s e he] at this
    unfold wd
    rw [← this]
    exact h n h4 h1 hn
theorem runes_spot (s : ByteArray) (i : Nat) (hi : i < s.size) : runesL (s.extract i (i + wd s i)) = [((rn s i : Nat) : Int)] := by
  have hr := wd_room s i hi
  have hp := wd_pos s i
  have hz : (s.extract i (i + wd s i)).size = wd s i := by rw [ByteArray.size_extract]; omega
  have hcat : s.extract i (i + wd s i) ++ s.extract (i + wd s i) s.size = rst s i := by
    rw [ByteArray.extract_append_extract]
    congr 1 <;> omega
  have hd : Utf8.decode (rst s i) 0 = Utf8.decode s i := decode_suffix s i 0 (by omega)
  have h1 : wd (rst s i) 0 = wd s i := by unfold wd; rw [hd]
  have e := decode_part (s.extract i (i + wd s i)) (s.extract (i + wd s i) s.size) 0 (by omega) (by rw [hcat, h1, hz]; omega)
  rw [hcat, hd] at e
  have hw : wd (s.extract i (i + wd s i)) 0 = wd s i := by show (Utf8.decode _ 0).2 = _; rw [e]
  have hs : starts (s.extract i (i + wd s i)) = [0] := by
    unfold starts
    obtain ⟨m, hm⟩ : ∃ m, (s.extract i (i + wd s i)).size = m + 1 := ⟨wd s i - 1, by omega⟩
    rw [hm, startsFrom_cons _ m 0 (by omega), hw, startsFrom_end _ _ _ (by omega)]
  unfold runesL
  rw [hs]
  simp only [List.map_cons, List.map_nil]
  show [(((Utf8.decode (s.extract i (i + wd s i)) 0).1 : Nat) : Int)] = _
  rw [e]
theorem runes_snoc (s : ByteArray) (i : Nat) (h : bdB s i = true) (hi : i < s.size) : runesL (s.extract 0 (i + wd s i)) = runesL (s.extract 0 i) ++ [((rn s i : Nat) : Int)] := by
  have hr := wd_room s i hi
  have hz : (s.extract 0 (i + wd s i)).size = i + wd s i := by rw [ByteArray.size_extract]; omega
  rw [runesL_split (s.extract 0 (i + wd s i)) i (by omega) (bd_pre s i _ h (by omega) hr), hz, ext_pre s _ _ (by omega), ext_mid, runes_spot s i hi]
def lcAt (s : ByteArray) (i : Nat) : Nat × Nat := lcR (1, 1) (runesL (s.extract 0 i))
theorem lcAt_zero (s : ByteArray) : lcAt s 0 = (1, 1) := by
  have : s.extract 0 0 = ByteArray.empty := toList_nil _ (by rw [ByteArray.size_extract]; omega)
  unfold lcAt
  rw [this]
  rfl
theorem lcAt_step (s : ByteArray) (i : Nat) (h : bdB s i = true) (hi : i < s.size) : lcAt s (i + wd s i) = if bt s i = 10 then ((lcAt s i).1 + 1, 1) else ((lcAt s i).1, (lcAt s i).2 + 1) := by
  unfold lcAt
  rw [runes_snoc s i h hi, lcR_app, lcR_cons, lcR_nil]
  by_cases e : bt s i = 10
  · rw [if_pos e, if_pos (by have := (rn_ten s i).2 e; omega)]
  · rw [if_neg e, if_neg (fun q => e ((rn_ten s i).1 (by omega)))]
theorem whL_at (s : ByteArray) (k : Nat) : whL s k = lcAt s (cutAt s k) := whL_runes s k
theorem whL_bd (s : ByteArray) (k : Nat) (h : bdB s k = true) : whL s k = lcAt s k := by rw [whL_at, cutAt_self s k h]
end Go.Proofs.YtjgfmobmilgapaaGreatDoor
