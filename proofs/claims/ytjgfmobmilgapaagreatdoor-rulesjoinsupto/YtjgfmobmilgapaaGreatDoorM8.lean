/- Texts of this claim, one behind the other. -/
import Derived.Test.YtjgfmobmilgapaaGreatDoorM7
import Derived.Test.YtjgfmobmilgapaaGreatDoorM2
import Derived.Test.YtjgfmobmilgapaaGreatDoorM1
import Derived.Laws.Bits64b
import Derived.Laws.IdiomStrings
import Derived.Test.YtjgfmobmilgapaaGreatDoorShB
/- FormatInt at 16: hexadecimal digits. -/
namespace Go.Proofs.YtjgfmobmilgapaaGreatDoor
open Go.RowKit Go.Shelf
set_option linter.unusedVariables false
def digC (d : Nat) : UInt8 := if d < 10 then (48 + d).toUInt8 else (87 + d).toUInt8
def hexF : Nat → Nat → List UInt8
  | 0, n => [digC n]
  | f + 1, n => if n < 16 then [digC n] else hexF f (n / 16) ++ [digC (n % 16)]
def hexL (n : Nat) : List UInt8 := hexF n n
theorem hexF_fuel : ∀ f g n, n ≤ f → n ≤ g → hexF f n = hexF g n
  | 0, 0, n, _, _ => rfl
  | 0, g + 1, n, h, _ => by
    obtain rfl : n = 0 := by omega
    rfl
  | f + 1, 0, n, _, h => by
    obtain rfl : n = 0 := by omega
    rfl
  | f + 1, g + 1, n, hf, hg => by
    rw [hexF, hexF]
    by_cases h : n < 16
    · rw [if_pos h, if_pos h]
    · rw [if_neg h, if_neg h, hexF_fuel f g (n / 16) (by omega) (by omega)]
abbrev digS : ByteArray := ⟨#[48, 49, 50, 51, 52, 53, 54, 55, 56, 57, 97, 98, 99, 100, 101, 102, 103, 104, 105, 106, 107, 108, 109, 110, 111, 112, 113, 114, 115, 116, 117, 118, 119, 120, 121, 122]⟩
theorem and15 (u : Nat) (h : u < 4294967296) : bits BinOp.and IntKind.u64 (u : Int) 15 = ((u % 16 : Nat) : Int) := by
  rw [show (15 : Int) = ((15 : Nat) : Int) from rfl, bits_and_u64_nat u 15 (by omega) (by decide), Nat.and_two_pow_sub_one_eq_mod u 4]
def DigAt (W : World) (B : Nat) (L : List UInt8) : Prop := ∃ cur : Array Value, Blk W B cur 240 ∧ cur.size = 65 ∧ L.length ≤ 65 ∧ ∀ k d, L[k]? = some d → cur[65 - L.length + k]? = some (.int .u8 (d.toNat : Int))
theorem DigAt.push {W : World} {B : Nat} {L : List UInt8} (h : DigAt W B L) (hl : L.length ≤ 64) (d : UInt8) : DigAt (W.setCell ⟨B, 64 - L.length, none⟩ (.int .u8 (d.toNat : Int))) B (d :: L) := by
  obtain ⟨cur, hb, hs, h1, h2⟩ := h
  refine ⟨_, hb.set (64 - L.length) _, by simpa using hs, by simp; omega, fun k e hk => ?_⟩
  rw [List.length_cons]
  cases k with
  | zero =>
    simp at hk
    subst hk
    rw [Array.getElem?_setIfInBounds, if_pos (by omega)]
    simp [hs]
    omega
  | succ k =>
    simp at hk
    rw [Array.getElem?_setIfInBounds, if_neg (by omega)]
    have := h2 k e hk
    rwa [show 65 - (L.length + 1) + (k + 1) = 65 - L.length + k by omega]
theorem zeros_at (w : World) : DigAt (w.alloc (.cells Tryz.zeroCells240 240)) w.heap.size [] := ⟨_, Blk.new w _ _, by decide +kernel, by simp, fun k d h => by simp at h⟩
theorem DigAt.frozen {W : World} {B : Nat} {L : List UInt8} (h : DigAt W B L) (i : Nat) : W.frozen? ⟨B, i, none⟩ = false := by
  obtain ⟨cur, hb, _⟩ := h
  exact hb.frozen i
theorem DigAt.has {W : World} {B : Nat} {L : List UInt8} (h : DigAt W B L) (i : Nat) (hi : i < 65) : ∃ v, W.cell? ⟨B, i, none⟩ = some v := by
  obtain ⟨cur, hb, hs, _⟩ := h
  exact ⟨cur[i]'(by omega), (hb.cell i).trans (by simp [hs, hi])⟩
theorem dig_get : ∀ d, d < 16 → (digS.get! d).toNat = (digC d).toNat := by decide +kernel
theorem dig_at (d : Nat) (h : d < digS.size) (h16 : d < 16) : (digS[d]'h).toNat = (digC d).toNat := by rw [← dig_get d h16, get_lt digS d h]; rfl
theorem hexL_small {n : Nat} (h : n < 16) : hexL n = [digC n] := by
  unfold hexL
  cases n with
  | zero => rfl
  | succ k => rw [hexF, if_pos h]
theorem hexL_step {n : Nat} (h : 16 ≤ n) : hexL n = hexL (n / 16) ++ [digC (n % 16)] := by
  unfold hexL
  obtain ⟨k, rfl⟩ : ∃ k, n = k + 1 := ⟨n - 1, by omega⟩
  rw [hexF, if_neg (by omega), hexF_fuel k ((k + 1) / 16) ((k + 1) / 16) (by omega) (Nat.le_refl _)]
set_option maxRecDepth 100000 in
set_option maxHeartbeats 4000000 in
theorem formatBits_any (n : Nat) (hn : n < 4294967296) (w : World) (hT : w.cell? ⟨11, 15, none⟩ = some (.int .u8 4)) : Calls Tryz.prog 142 #[.slice none 0 0, .int .u64 n, .int .i64 16, .bool false, .bool false] w fun e w' => e = .returned (.tuple #[.slice none 0 0, .string ⟨(hexL n).toArray⟩]) ∧ Below w.heap.size w w' := by
  go_enter Tryz.func142, Tryz.ntmps142
  have hA : (w.alloc (.cells Tryz.zeroCells240 240)).cell? ⟨11, 15, none⟩ = some (.int .u8 4) := (((Below.refl w.heap.size w).alloc (Nat.le_refl _) _).cell (p := ⟨11, 15, none⟩) (cell_lt hT)).trans hT
  have HA := hide hA
  clear hA
  go_wp2_with (go_at_call 159; refine (pow16_any _).mono ?_; rintro e w' ⟨rfl, rfl⟩)
  refine (tz_any _ (unhide HA)).mono ?_
  rintro e w1 ⟨rfl, rfl⟩
  go_wp2_with fail
  clear HA
  have HD0 := hide (zeros_at w)
  have HB0 := hide ((Below.refl w.heap.size w).alloc (Nat.le_refl _) (.cells Tryz.zeroCells240 240))
  generalize w.alloc (.cells Tryz.zeroCells240 240) = w0 at *
  go_loopw [1, 13] (fun x i wr => ∃ (u : Nat) (L : List UInt8), x = .int .u64 u ∧ i = .int .i64 ((65 - L.length : Nat) : Int) ∧ u * 16 ^ L.length ≤ n ∧ L.length ≤ 9 ∧ Hz (hexL n = hexL u ++ L) ∧ Hz (DigAt wr w.heap.size L) ∧ Hz (Below w.heap.size w wr)) (fun x _ _ => (intOf x).toNat)
  case atStart => exact ⟨n, [], rfl, rfl, by simp, by simp, hide (by simp), HD0, HB0⟩
  case round =>
    obtain ⟨u, L, rfl, rfl, hu, hl9, HL, HD, HB⟩ := hrel
    by_cases h16 : 16 ≤ u
    · have hl6 : L.length ≤ 6 := by
        by_cases h7 : L.length ≤ 6
        · exact h7
        · have h1 : 16 ^ 7 ≤ 16 ^ L.length := Nat.pow_le_pow_right (by decide) (by omega)
          have h2 : 16 * 16 ^ 7 ≤ u * 16 ^ L.length := Nat.mul_le_mul h16 h1
          omega
      have hub : u < 4294967296 := by
        have h1 : 1 ≤ 16 ^ L.length := Nat.one_le_pow _ _ (by decide)
        have := Nat.mul_le_mul_left u h1
        omega
      have hu1 : (16 : Int) ≤ (u : Int) := by omega
      have hand := and15 u hub
      have hd16 : u % 16 < 16 := Nat.mod_lt _ (by decide)
      obtain ⟨d, hd⟩ : ∃ d, d = u % 16 := ⟨_, rfl⟩
      rw [← hd] at hand hd16
      obtain ⟨i, hi⟩ : ∃ i, i = 64 - L.length := ⟨_, rfl⟩
      have hic : ((65 - L.length : Nat) : Int) - 1 = (i : Int) := by omega
      have hi65 : (i : Int) < 65 := by omega
      have hi0 : ((i : Nat) : Int).toNat = i := by omega
      obtain ⟨v0, hv0⟩ := (unhide HD).has i (by omega)
      have hf0 := (unhide HD).frozen i
      have hdi : (d : Int) < 36 := by omega
      have hd0 : ((d : Nat) : Int).toNat = d := by omega
      have hub2 : (u : Int) ≤ 4294967296 := by omega
      have hib : ((65 - L.length : Nat) : Int) ≤ 65 := by omega
      have hib0 : (0 : Int) ≤ ((65 - L.length : Nat) : Int) := by omega
      generalize ((65 - L.length : Nat) : Int) = ii at *
      have HI := hide hi
      have HHD := hide hd
      have hds : d < digS.size := by have : digS.size = 36 := rfl; omega
      have hP := (unhide HD).push (by omega) (digC d)
      rw [← hi, ← dig_at d hds hd16] at hP
      have HP := hide hP
      have HBE := hide ((unhide HB).setCell (p := ⟨w.heap.size, i, none⟩) (Nat.le_refl _) (.int .u8 (((digS[d]'hds).toNat : Nat) : Int)))
      have HN2 : Hz (hexL n = hexL (u / 16) ++ (digC d :: L)) := hide (by rw [unhide HL, hexL_step h16, ← hd]; simp)
      have HU : Hz (u / 16 * 16 ^ (digC d :: L).length ≤ n) := hide (by
        rw [List.length_cons, Nat.pow_succ, ← Nat.mul_assoc, Nat.mul_right_comm]
        exact Nat.le_trans (Nat.mul_le_mul_right _ (Nat.div_mul_le_self u 16)) hu)
      clear hi hd hP hu HL HD
      go_wp2_with fail
      go_roundw
      case rel => exact ⟨u / 16, digC d :: L, by go_num, by rw [List.length_cons]; have := unhide HI; go_num, unhide HU, by simp; omega, HN2, HP, HBE⟩
      case measure => simp [intOf]; omega
    · have hub : u < 16 := by omega
      have hu1 : ¬ (16 : Int) ≤ (u : Int) := by omega
      obtain ⟨i, hi⟩ : ∃ i, i = 64 - L.length := ⟨_, rfl⟩
      have hic : ((65 - L.length : Nat) : Int) - 1 = (i : Int) := by omega
      have hi65 : (i : Int) < 65 := by omega
      have hi65' : (i : Int) ≤ 65 := by omega
      have hi0 : ((i : Nat) : Int).toNat = i := by omega
      obtain ⟨v0, hv0⟩ := (unhide HD).has i (by omega)
      have hf0 := (unhide HD).frozen i
      have hdi : (u : Int) < 36 := by omega
      have hd0 : ((u : Nat) : Int).toNat = u := by omega
      have hib : ((65 - L.length : Nat) : Int) ≤ 65 := by omega
      have hib0 : (0 : Int) ≤ ((65 - L.length : Nat) : Int) := by omega
      generalize ((65 - L.length : Nat) : Int) = ii at *
      have HI := hide hi
      have hds : u < digS.size := by have : digS.size = 36 := rfl; omega
      have hP := (unhide HD).push (by omega) (digC u)
      rw [← hi, ← dig_at u hds hub] at hP
      have HP := hide hP
      have HBE := hide ((unhide HB).setCell (p := ⟨w.heap.size, i, none⟩) (Nat.le_refl _) (.int .u8 (((digS[u]'hds).toNat : Nat) : Int)))
      have HN2 : Hz (hexL n = digC u :: L) := hide (by rw [unhide HL, hexL_small hub]; rfl)
      have hlen : (digC u :: L).length = 65 - i := by rw [List.length_cons]; omega
      have hconv : (convert 91 9 (.slice (some ⟨w.heap.size, i, none⟩) (65 - i) (65 - i))).run Tryz.prog (wr.setCell ⟨w.heap.size, i, none⟩ (.int .u8 (((digS[u]'hds).toNat : Nat) : Int))) = .ok (.string ⟨(digC u :: L).toArray⟩) (wr.setCell ⟨w.heap.size, i, none⟩ (.int .u8 (((digS[u]'hds).toNat : Nat) : Int))) := by
        rw [← hlen]
        refine run_convert_bytes_back _ 91 9 5 ⟨w.heap.size, i, none⟩ _ (digC u :: L) Tryz.underlying91 Tryz.underlying5 Tryz.underlying9 (fun j hj => ?_)
        obtain ⟨cur, hb, hs5, h1, h2⟩ := hP
        rw [show (⟨w.heap.size, i, none⟩ : Addr).add j = ⟨w.heap.size, i + j, none⟩ by unfold Addr.add; split <;> simp_all]
        have h3 := h2 j _ (List.getElem?_eq_getElem hj)
        rw [hlen, show 65 - (65 - i) + j = i + j by omega] at h3
        exact (hb.cell (i + j)).trans h3
      clear hi hP hu HL HD hlen
      go_wp2_with fail
      go_ret2
      exact ⟨by rw [unhide HN2]; rfl, unhide HBE⟩
theorem ifmt16 (n : Nat) (hn : n < 2147483648) (w : World) (hT : w.cell? ⟨11, 15, none⟩ = some (.int .u8 4)) : Calls Tryz.prog 122 #[.int .i64 n, .int .i64 16] w fun e w' => e = .returned (.string ⟨(hexL n).toArray⟩) ∧ Below w.heap.size w w' := by
  have h0 : ¬ (n : Int) < 0 := by omega
  have h00 : (0 : Int) ≤ (n : Int) := by omega
  have hb : (n : Int) ≤ 2147483648 := by omega
  have HF := hide (formatBits_any n (by omega) w hT)
  go_enter Tryz.func122, Tryz.ntmps122
  go_wp2_with fail
  refine (unhide HF).mono ?_
  rintro e w1 ⟨rfl, hb1⟩
  have HB := hide hb1
  clear hb1
  go_wp2_with fail
  go_ret
  exact ⟨rfl, unhide HB⟩
theorem fmt16 (n : Nat) (hn : n < 2147483648) (w : World) (hT : w.cell? ⟨11, 15, none⟩ = some (.int .u8 4)) : Calls Tryz.prog 120 #[.int .i64 n, .int .i64 16] w fun e w' => e = .returned (.string ⟨(hexL n).toArray⟩) ∧ Below w.heap.size w w' := by
  have HF := hide (ifmt16 n hn w hT)
  go_enter Tryz.func120, Tryz.ntmps120
  go_wp2_with fail
  refine (unhide HF).mono ?_
  rintro e w1 ⟨rfl, hb1⟩
  have HB := hide hb1
  clear hb1
  go_wp2_with fail
  go_ret
  exact ⟨rfl, unhide HB⟩
theorem ex158 : Builder.Extra Tryz.prog lay158_ren := ⟨⟨by kernel_rfl, by kernel_rfl⟩, Tryz.underlying5, Tryz.isAgg5, Tryz.sizeOf5, Tryz.zeroValue5, by kernel_rfl, by kernel_rfl, by kernel_rfl, by decide⟩
theorem ex105 : Builder.Extra Tryz.prog lay105_ren := ⟨⟨by kernel_rfl, by kernel_rfl⟩, Tryz.underlying5, Tryz.isAgg5, Tryz.sizeOf5, Tryz.zeroValue5, by kernel_rfl, by kernel_rfl, by kernel_rfl, by decide⟩
theorem upper_sh (s : ByteArray) (w : World) (h : s.size ≤ 140737488355328) (ha : ∀ (j : Nat) (b : UInt8), s.data.toList[j]? = some b → b.toNat < 128) : Calls Tryz.prog 119 #[.string s] w fun e w' => e = .returned (.string ⟨(Lib.toUpperA s.data.toList).toArray⟩) ∧ Below w.heap.size w w' := Any.strings_ToUpper_ascii lay158 ex158 s w h ha
theorem repeat_sh (s : ByteArray) (c : Nat) (w : World) (hc : c ≤ 9223372036854775807) (h : s.size * c ≤ 140737488355328) : Calls Tryz.prog 121 #[.string s, .int .i64 c] w fun e w' => e = .returned (.string ⟨(Lib.repeatL s.data.toList c).toArray⟩) ∧ Below w.heap.size w w' := Any.strings_Repeat lay105 ex105 s c w hc h
theorem hexL_ascii : ∀ (n : Nat) (b : UInt8), b ∈ hexL n → b.toNat < 128 := by
  intro n
  induction n using Nat.strongRecOn with
  | _ n ih =>
    intro b hb
    have hd : ∀ d, d < 16 → (digC d).toNat < 128 := by decide
    by_cases h : n < 16
    · rw [hexL_small h] at hb
      rw [List.mem_singleton.1 hb]
      exact hd n h
    · rw [hexL_step (by omega)] at hb
      rcases List.mem_append.1 hb with hb | hb
      · exact ih (n / 16) (by omega) b hb
      · rw [List.mem_singleton.1 hb]
        exact hd _ (Nat.mod_lt _ (by decide))
theorem hexL_length : ∀ (k n : Nat), n < 16 ^ (k + 1) → 1 ≤ (hexL n).length ∧ (hexL n).length ≤ k + 1
  | 0, n, h => by rw [hexL_small (by simpa using h)]; simp
  | k + 1, n, h => by
    by_cases hs : n < 16
    · rw [hexL_small hs]; simp
    · rw [hexL_step (by omega), List.length_append]
      have := hexL_length k (n / 16) (by rw [Nat.div_lt_iff_lt_mul (by decide)]; rw [Nat.pow_succ] at h; exact h)
      simp
      omega
def upS (n : Nat) : ByteArray := ⟨(Lib.toUpperA (hexL n)).toArray⟩
theorem upS_size (n : Nat) (h : n < 4294967296) : 1 ≤ (upS n).size ∧ (upS n).size ≤ 8 := by
  have h1 := hexL_length 7 n (by omega)
  have e : (upS n).size = (hexL n).length := by
    show (Lib.toUpperA (hexL n)).toArray.size = _
    simp [Lib.toUpperA]
  omega
theorem enc_ascii : ∀ k : Nat, k < 128 → (Utf8.encode (k : Int)).size = 1 := by decide +kernel
theorem rep_size : ∀ c : Nat, c ≤ 4 → (⟨(Lib.repeatL [48] c).toArray⟩ : ByteArray).size = c := by decide +kernel
def textV (r : Int) : ByteArray × Int :=
  if widthOf r = 0 then (⟨#[]⟩, 12) else if 33 ≤ r ∧ r ≤ 126 ∧ r ≠ 39 then (⟨#[39]⟩ ++ Utf8.encode r ++ ⟨#[39]⟩, 0)
  else (⟨#[85, 43]⟩ ++ ⟨(Lib.repeatL [48] (4 - (upS r.toNat).size)).toArray⟩ ++ upS r.toNat, 0)
theorem width_bound (r : Int) (h : widthOf r ≠ 0) : 0 ≤ r ∧ r ≤ 1114111 := by
  unfold widthOf at h
  repeat' split at h
  all_goals first | omega | (exfalso; exact h rfl)
set_option maxRecDepth 100000 in
set_option maxHeartbeats 4000000 in
theorem text_scan (r : Int) (w : World) (hT : w.cell? ⟨11, 15, none⟩ = some (.int .u8 4)) : Calls Tryz.prog 99 #[.int .i32 r] w fun e w' => e = .returned (.tuple #[.string (textV r).1, .int .i64 (textV r).2]) ∧ Below w.heap.size w w' := by
  by_cases h0 : widthOf r = 0
  · have hv : textV r = (⟨#[]⟩, 12) := by unfold textV; rw [if_pos h0]
    rw [hv]
    have h0' : (widthOf r == 0) = true := by simpa using h0
    clear hv h0
    go_enter Tryz.func99, Tryz.ntmps99
    go_wp2_with fail
    refine (width_any r _).mono ?_
    rintro e w1 ⟨rfl, rfl⟩
    go_wp2_with fail
    go_ret2
    exact ⟨rfl, Below.refl _ _⟩
  · have hb := width_bound r h0
    have h0' : (widthOf r == 0) = false := by simpa using h0
    by_cases hq : 33 ≤ r ∧ r ≤ 126 ∧ r ≠ 39
    · have hv : textV r = (⟨#[39]⟩ ++ Utf8.encode r ++ ⟨#[39]⟩, 0) := by unfold textV; rw [if_neg h0, if_pos hq]
      obtain ⟨q1, q2, q3⟩ := hq
      have q3' : (r != 39) = true := by simpa using q3
      have HV := hide hv
      clear hv h0 q3
      go_enter Tryz.func99, Tryz.ntmps99
      go_wp2_with fail
      refine (width_any r _).mono ?_
      rintro e w1 ⟨rfl, rfl⟩
      have hes : (Utf8.encode r).size = 1 := by
        have := enc_ascii r.toNat (by omega)
        rwa [Int.toNat_of_nonneg hb.1] at this
      have hs1 : ((⟨#[39]⟩ : ByteArray) ++ Utf8.encode r).size = 2 := by rw [ByteArray.size_append, hes]; rfl
      go_wp2_with fail
      go_ret2
      exact ⟨by rw [unhide HV]; rfl, Below.refl _ _⟩
    · obtain ⟨n, rfl⟩ : ∃ n : Nat, r = n := ⟨r.toNat, by omega⟩
      have hn : n < 2147483648 := by omega
      have hv : textV (n : Int) = (⟨#[85, 43]⟩ ++ ⟨(Lib.repeatL [48] (4 - (upS n).size)).toArray⟩ ++ upS n, 0) := by unfold textV; rw [if_neg h0, if_neg hq, Int.toNat_natCast]
      have hz := upS_size n (by omega)
      have hHs : (⟨(hexL n).toArray⟩ : ByteArray).size ≤ 140737488355328 := by
        have h1 := hexL_length 7 n (by omega)
        show (hexL n).toArray.size ≤ _
        simp
        omega
      have hfm := fmt16 n hn w hT
      have hup := fun w' => upper_sh ⟨(hexL n).toArray⟩ w' hHs (fun j b hj => hexL_ascii n b (List.mem_of_getElem? (by simpa using hj)))
      obtain ⟨u, hu⟩ : ∃ u, u = upS n := ⟨_, rfl⟩
      have hup2 : ∀ w', Calls Tryz.prog 119 #[.string ⟨(hexL n).toArray⟩] w' fun e w2 => e = .returned (.string u) ∧ Below w'.heap.size w' w2 := fun w' => by rw [hu]; exact hup w'
      rw [← hu] at hv hz
      have hrp := fun w' => repeat_sh ⟨#[48]⟩ (4 - u.size) w' (by omega) (by show 1 * _ ≤ _; omega)
      have HV := hide hv
      have HF := hide hfm
      have HU := hide hup2
      have HP := hide hrp
      have hmx : max ((4 : Int) - (u.size : Int)) 0 = ((4 - u.size : Nat) : Int) := by omega
      have hub : (u.size : Int) ≤ 8 := by omega
      have hnb : (n : Int) ≤ 1114111 := by omega
      have hcase : (¬ (33 : Int) ≤ n) ∨ ((33 : Int) ≤ n ∧ ¬ (n : Int) ≤ 126) ∨ ((33 : Int) ≤ n ∧ (n : Int) ≤ 126 ∧ ((n : Int) != 39) = false) := by
        by_cases c1 : (33 : Int) ≤ n
        · by_cases c2 : (n : Int) ≤ 126
          · exact .inr (.inr ⟨c1, c2, by simpa using fun c3 => hq ⟨c1, c2, c3⟩⟩)
          · exact .inr (.inl ⟨c1, c2⟩)
        · exact .inl c1
      clear hv hfm hup hup2 hrp hu h0 hq hHs hb hT
      rcases hcase with c1 | ⟨c1, c2⟩ | ⟨c1, c2, c3⟩
      all_goals
        go_enter Tryz.func99, Tryz.ntmps99
        go_wp2_with fail
        refine (width_any n _).mono ?_
        rintro e w1 ⟨rfl, rfl⟩
        go_wp2_with fail
        refine (unhide HF).mono ?_
        rintro e w2 ⟨rfl, hb2⟩
        go_wp2_with fail
        refine (unhide HU _).mono ?_
        rintro e w3 ⟨rfl, hb3⟩
        have HB3 := hide (hb2.trans (hb3.mono hb2.size))
        clear hb2 hb3
        go_wp2_with fail
        try rw [hmx]
        refine (unhide HP _).mono ?_
        rintro e w4 ⟨rfl, hb4⟩
        have hrs := rep_size (4 - u.size) (by omega)
        have hs2 : ((⟨#[85, 43]⟩ : ByteArray) ++ ⟨(Lib.repeatL [48] (4 - u.size)).toArray⟩).size ≤ 6 := by rw [ByteArray.size_append, hrs]; show 2 + _ ≤ _; omega
        have hrs2 : (⟨(Lib.repeatL [48] (4 - u.size)).toArray⟩ : ByteArray).size ≤ 4 := by omega
        clear hrs
        generalize (⟨(Lib.repeatL [48] (4 - u.size)).toArray⟩ : ByteArray) = rp at *
        have HB4 := hide ((unhide HB3).trans (hb4.mono (unhide HB3).size))
        clear hb4
        go_wp2_with fail
        go_ret2
        exact ⟨by rw [unhide HV]; rfl, unhide HB4⟩
structure Pn where
  t : List UInt8
  bg : Bool
  wr : Bool
def PnAt (W : World) (lo N : Nat) (p : Pn) : Prop := PrAt W lo N p.t p.bg p.wr
def endedB (p : Pn) : Bool := p.wr || decide (262144 < p.t.length)
def put1 (p : Pn) (w : ByteArray) : Pn := if endedB p then p else ⟨(if p.bg then p.t ++ [32] else p.t) ++ w.data.toList, true, p.wr⟩
def putV (p : Pn) (ws : List ByteArray) : Pn := ws.foldl put1 p
def lineV (p : Pn) : Pn := ⟨if endedB p then p.t else p.t ++ [10], false, p.wr⟩
def needV (p : Pn) (ok : Bool) : Pn := ⟨p.t, p.bg, p.wr || !ok⟩
theorem put1_ended {p : Pn} (h : endedB p = true) (w : ByteArray) : put1 p w = p := if_pos h
theorem putV_ended {p : Pn} (h : endedB p = true) (ws : List ByteArray) : putV p ws = p := by
  induction ws with
  | nil => rfl
  | cons w ws ih => show putV (put1 p w) ws = p; rw [put1_ended h]; exact ih
theorem pn_tooLong (lo N : Nat) (p : Pn) (hl : p.t.length ≤ 1000000) (W : World) (h : PnAt W lo N p) :
    Calls Tryz.prog 36 #[.pointer (some ⟨N, 0, none⟩)] W fun e w' => e = .returned (.bool (decide (262144 < p.t.length))) ∧ w' = W := by
  have H := hide (pn_len lo N p.t p.bg p.wr W h)
  clear h
  go_enter Tryz.func36, Tryz.ntmps36
  go_wp2_with fail
  refine (unhide H).mono ?_
  rintro e w' ⟨rfl, rfl⟩
  go_wp2_with fail
  go_ret
  exact ⟨by congr 2; simp; omega, rfl⟩
theorem pn_ended (lo N : Nat) (p : Pn) (hl : p.t.length ≤ 1000000) (W : World) (h : PnAt W lo N p) :
    Calls Tryz.prog 96 #[.pointer (some ⟨N, 0, none⟩)] W fun e w' => e = .returned (.bool (endedB p)) ∧ w' = W := by
  have H := hide (pn_tooLong lo N p hl W h)
  obtain ⟨q, v, hb, hp, ho⟩ := h.blk
  have c3 := hb.cell 3
  have HE : Hz (endedB p = (p.wr || decide (262144 < p.t.length))) := hide rfl
  clear h hb hp ho
  generalize endedB p = E at *
  generalize decide (262144 < p.t.length) = D at *
  obtain ⟨t, bg, wr⟩ := p
  dsimp only at c3 HE
  go_enter Tryz.func96, Tryz.ntmps96
  cases wr with
  | true =>
    go_wp2_with fail
    go_ret
    exact ⟨by rw [unhide HE]; rfl, rfl⟩
  | false =>
    go_wp2_with fail
    refine (unhide H).mono ?_
    rintro e w' ⟨rfl, rfl⟩
    go_wp2_with fail
    go_ret
    exact ⟨by rw [unhide HE]; rfl, rfl⟩
theorem PrAt.begun {W : World} {lo N : Nat} {t : List UInt8} {bg wr : Bool} (h : PrAt W lo N t bg wr) (b : Bool) : PrAt (W.setCell ⟨N, 2, none⟩ (.bool b)) lo N t b wr ∧ PF lo N W (W.setCell ⟨N, 2, none⟩ (.bool b)) := by
  obtain ⟨p, v, hb, hp, ho⟩ := h.blk
  have q := grown_set' W N 2 (.bool b)
  exact ⟨⟨⟨p, v, hb.set 2 _, hp, rd_other ho q (.inr fun e => by have := rd_from ho N e; have := h.lt; omega)⟩, h.lt, by have := q.size; have := h.lw; omega⟩, PF.own h.lw q⟩
theorem PrAt.wrong {W : World} {lo N : Nat} {t : List UInt8} {bg wr : Bool} (h : PrAt W lo N t bg wr) (b : Bool) : PrAt (W.setCell ⟨N, 3, none⟩ (.bool b)) lo N t bg b ∧ PF lo N W (W.setCell ⟨N, 3, none⟩ (.bool b)) := by
  obtain ⟨p, v, hb, hp, ho⟩ := h.blk
  have q := grown_set' W N 3 (.bool b)
  exact ⟨⟨⟨p, v, hb.set 3 _, hp, rd_other ho q (.inr fun e => by have := rd_from ho N e; have := h.lt; omega)⟩, h.lt, by have := q.size; have := h.lw; omega⟩, PF.own h.lw q⟩
theorem pn_need (lo N : Nat) (p : Pn) (ok : Bool) (W : World) (h : PnAt W lo N p) :
    Calls Tryz.prog 55 #[.pointer (some ⟨N, 0, none⟩), .bool ok] W fun e w' => (∃ r, e = .returned r) ∧ PnAt w' lo N (needV p ok) ∧ PF lo N W w' := by
  obtain ⟨q, v, hb, hp, ho⟩ := h.blk
  have c3 := hb.cell 3
  have f3 := hb.frozen 3
  have hw := h.wrong true
  clear hb hp ho
  obtain ⟨t, bg, wr⟩ := p
  have H := hide h
  have HW := hide hw
  clear h hw
  go_enter Tryz.func55, Tryz.ntmps55
  cases ok with
  | true =>
    go_wp2_with fail
    go_end0
    exact ⟨⟨_, rfl⟩, by show PrAt W lo N t bg (wr || !true); rw [show (wr || !true) = wr by cases wr <;> rfl]; exact unhide H, PF.refl _ _ _⟩
  | false =>
    go_wp2_with fail
    go_end0
    exact ⟨⟨_, rfl⟩, by show PrAt _ lo N t bg (wr || !false); rw [show (wr || !false) = true by cases wr <;> rfl]; exact (unhide HW).1, (unhide HW).2⟩
theorem pn_line (lo N : Nat) (p : Pn) (hl : p.t.length ≤ 1000000) (W : World) (h : PnAt W lo N p) :
    Calls Tryz.prog 61 #[.pointer (some ⟨N, 0, none⟩)] W fun e w' => (∃ r, e = .returned r) ∧ PnAt w' lo N (lineV p) ∧ PF lo N W w' := by
  have HEn := hide (pn_ended lo N p hl W h)
  have HWB := hide (pn_byte lo N p.t p.bg p.wr 10 hl W h)
  have H := hide h
  go_enter Tryz.func61, Tryz.ntmps61
  cases hE : endedB p with
  | true =>
    rw [hE] at HEn
    obtain ⟨q, v, hb, hp, ho⟩ := h.blk
    have c2 := hb.cell 2
    have f2 := hb.frozen 2
    clear hb hp ho h
    go_wp2_with fail
    refine (unhide HEn).mono ?_
    rintro e w1 ⟨rfl, hw1⟩
    rw [hw1]
    clear hw1
    go_wp2_with fail
    go_end0
    have hf := (show PrAt W lo N p.t p.bg p.wr from unhide H).begun false
    exact ⟨⟨_, rfl⟩, by show PrAt _ lo N (if endedB p then p.t else p.t ++ [10]) false p.wr; rw [if_pos hE]; exact hf.1, hf.2⟩
  | false =>
    rw [hE] at HEn
    clear h
    go_wp2_with fail
    refine (unhide HEn).mono ?_
    rintro e w1 ⟨rfl, hw1⟩
    rw [hw1]
    clear hw1
    go_wp2_with fail
    refine (show Calls Tryz.prog 97 #[.pointer (some ⟨N, 0, none⟩), .int .u8 10] W _ from unhide HWB).mono ?_
    rintro e w2 ⟨⟨r, rfl⟩, hp2, hf2⟩
    obtain ⟨q, v, hb, hp, ho⟩ := hp2.blk
    have c2 := hb.cell 2
    have f2 := hb.frozen 2
    have HF := hide (And.intro (hp2.begun false) hf2)
    clear hb hp ho hp2 hf2
    go_wp2_with fail
    go_end0
    exact ⟨⟨_, rfl⟩, by show PrAt _ lo N (if endedB p then p.t else p.t ++ [10]) false p.wr; rw [if_neg (by rw [hE]; decide)]; exact (unhide HF).1.1, (unhide HF).2.trans (unhide HF).1.2⟩
end Go.Proofs.YtjgfmobmilgapaaGreatDoor
