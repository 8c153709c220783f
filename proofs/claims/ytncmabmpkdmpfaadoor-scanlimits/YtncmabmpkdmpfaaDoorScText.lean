/- Text: how a rune is written. -/
import Derived.Test.YtncmabmpkdmpfaaDoorScFmt
import Derived.Test.YtncmabmpkdmpfaaDoorShB
namespace Go.Proofs.YtncmabmpkdmpfaaDoor
open Go.RowKit Go.Shelf
set_option linter.unusedVariables false
theorem ex158 : Builder.Extra Tryd.prog lay158_ren := ⟨⟨by kernel_rfl, by kernel_rfl⟩, Tryd.underlying5, Tryd.isAgg5, Tryd.sizeOf5, Tryd.zeroValue5, by kernel_rfl, by kernel_rfl, by kernel_rfl, by decide⟩
theorem ex105 : Builder.Extra Tryd.prog lay105_ren := ⟨⟨by kernel_rfl, by kernel_rfl⟩, Tryd.underlying5, Tryd.isAgg5, Tryd.sizeOf5, Tryd.zeroValue5, by kernel_rfl, by kernel_rfl, by kernel_rfl, by decide⟩
theorem upper_sh (s : ByteArray) (w : World) (h : s.size ≤ 140737488355328) (ha : ∀ (j : Nat) (b : UInt8), s.data.toList[j]? = some b → b.toNat < 128) : Calls Tryd.prog 21 #[.string s] w fun e w' => e = .returned (.string ⟨(Lib.toUpperA s.data.toList).toArray⟩) ∧ Below w.heap.size w w' := Any.strings_ToUpper_ascii lay158 ex158 s w h ha
theorem repeat_sh (s : ByteArray) (c : Nat) (w : World) (hc : c ≤ 9223372036854775807) (h : s.size * c ≤ 140737488355328) : Calls Tryd.prog 23 #[.string s, .int .i64 c] w fun e w' => e = .returned (.string ⟨(Lib.repeatL s.data.toList c).toArray⟩) ∧ Below w.heap.size w w' := Any.strings_Repeat lay105 ex105 s c w hc h
theorem hexL_ascii : ∀ (n : Nat) (b : UInt8), b ∈ hexL n → b.toNat < 128 := by
  intro n
  induction n using Nat.strongRecOn with
  | _ n ih =>
    intro b hb
    have hd : ∀ d, d < 16 → (digC d).toNat < 128 := by decide
    by_cases h : n < 16
    · rw [hexL_small h] at hb
      rw [List.mem_singleton.1 hb]
      exact hd n h
    · rw [hexL_step (by omega)] at hb
      rcases List.mem_append.1 hb with hb | hb
      · exact ih (n / 16) (by omega) b hb
      · rw [List.mem_singleton.1 hb]
        exact hd _ (Nat.mod_lt _ (by decide))
theorem hexL_length : ∀ (k n : Nat), n < 16 ^ (k + 1) → 1 ≤ (hexL n).length ∧ (hexL n).length ≤ k + 1
  | 0, n, h => by rw [hexL_small (by simpa using h)]; simp
  | k + 1, n, h => by
    by_cases hs : n < 16
    · rw [hexL_small hs]; simp
    · rw [hexL_step (by omega), List.length_append]
      have := hexL_length k (n / 16) (by rw [Nat.div_lt_iff_lt_mul (by decide)]; rw [Nat.pow_succ] at h; exact h)
      simp
      omega
/-- The digits, upper case. -/
def upS (n : Nat) : ByteArray := ⟨(Lib.toUpperA (hexL n)).toArray⟩
theorem upS_size (n : Nat) (h : n < 4294967296) : 1 ≤ (upS n).size ∧ (upS n).size ≤ 8 := by
  have h1 := hexL_length 7 n (by omega)
  have e : (upS n).size = (hexL n).length := by
    show (Lib.toUpperA (hexL n)).toArray.size = _
    simp [Lib.toUpperA]
  omega
theorem enc_ascii : ∀ k : Nat, k < 128 → (Utf8.encode (k : Int)).size = 1 := by decide +kernel
theorem rep_size : ∀ c : Nat, c ≤ 4 → (⟨(Lib.repeatL [48] c).toArray⟩ : ByteArray).size = c := by decide +kernel
/-- How a rune is written. -/
def textV (r : Int) : ByteArray × Int :=
  if widthOf r = 0 then (⟨#[]⟩, 12) else if 33 ≤ r ∧ r ≤ 126 ∧ r ≠ 39 then (⟨#[39]⟩ ++ Utf8.encode r ++ ⟨#[39]⟩, 0)
  else (⟨#[85, 43]⟩ ++ ⟨(Lib.repeatL [48] (4 - (upS r.toNat).size)).toArray⟩ ++ upS r.toNat, 0)
theorem width_bound (r : Int) (h : widthOf r ≠ 0) : 0 ≤ r ∧ r ≤ 1114111 := by
  unfold widthOf at h
  repeat' split at h
  all_goals first | omega | (exfalso; exact h rfl)
set_option maxRecDepth 100000 in
set_option maxHeartbeats 4000000 in
theorem text_scan (r : Int) (w : World) (hT : w.cell? ⟨6, 15, none⟩ = some (.int .u8 4)) : Calls Tryd.prog 12 #[.int .i32 r] w fun e w' => e = .returned (.tuple #[.string (textV r).1, .int .i64 (textV r).2]) ∧ Below w.heap.size w w' := by
  by_cases h0 : widthOf r = 0
  · have hv : textV r = (⟨#[]⟩, 12) := by unfold textV; rw [if_pos h0]
    rw [hv]
    have h0' : (widthOf r == 0) = true := by simpa using h0
    clear hv h0
    go_enter Tryd.func12, Tryd.ntmps12
    go_wp2_with fail
    refine (width_any r _).mono ?_
    rintro e w1 ⟨rfl, rfl⟩
    go_wp2_with fail
    go_ret2
    exact ⟨rfl, Below.refl _ _⟩
  · have hb := width_bound r h0
    have h0' : (widthOf r == 0) = false := by simpa using h0
    by_cases hq : 33 ≤ r ∧ r ≤ 126 ∧ r ≠ 39
    · have hv : textV r = (⟨#[39]⟩ ++ Utf8.encode r ++ ⟨#[39]⟩, 0) := by unfold textV; rw [if_neg h0, if_pos hq]
      obtain ⟨q1, q2, q3⟩ := hq
      have q3' : (r != 39) = true := by simpa using q3
      have HV := hide hv
      clear hv h0 q3
      go_enter Tryd.func12, Tryd.ntmps12
      go_wp2_with fail
      refine (width_any r _).mono ?_
      rintro e w1 ⟨rfl, rfl⟩
      have hes : (Utf8.encode r).size = 1 := by
        have := enc_ascii r.toNat (by omega)
        rwa [Int.toNat_of_nonneg hb.1] at this
      have hs1 : ((⟨#[39]⟩ : ByteArray) ++ Utf8.encode r).size = 2 := by rw [ByteArray.size_append, hes]; rfl
      go_wp2_with fail
      go_ret2
      exact ⟨by rw [unhide HV]; rfl, Below.refl _ _⟩
    · obtain ⟨n, rfl⟩ : ∃ n : Nat, r = n := ⟨r.toNat, by omega⟩
      have hn : n < 2147483648 := by omega
      have hv : textV (n : Int) = (⟨#[85, 43]⟩ ++ ⟨(Lib.repeatL [48] (4 - (upS n).size)).toArray⟩ ++ upS n, 0) := by unfold textV; rw [if_neg h0, if_neg hq, Int.toNat_natCast]
      have hz := upS_size n (by omega)
      have hHs : (⟨(hexL n).toArray⟩ : ByteArray).size ≤ 140737488355328 := by
        have h1 := hexL_length 7 n (by omega)
        show (hexL n).toArray.size ≤ _
        simp
        omega
      have hfm := fmt16 n hn w hT
      have hup := fun w' => upper_sh ⟨(hexL n).toArray⟩ w' hHs (fun j b hj => hexL_ascii n b (List.mem_of_getElem? (by simpa using hj)))
      obtain ⟨u, hu⟩ : ∃ u, u = upS n := ⟨_, rfl⟩
      have hup2 : ∀ w', Calls Tryd.prog 21 #[.string ⟨(hexL n).toArray⟩] w' fun e w2 => e = .returned (.string u) ∧ Below w'.heap.size w' w2 := fun w' => by rw [hu]; exact hup w'
      rw [← hu] at hv hz
      have hrp := fun w' => repeat_sh ⟨#[48]⟩ (4 - u.size) w' (by omega) (by show 1 * _ ≤ _; omega)
      have HV := hide hv
      have HF := hide hfm
      have HU := hide hup2
      have HP := hide hrp
      have hmx : max ((4 : Int) - (u.size : Int)) 0 = ((4 - u.size : Nat) : Int) := by omega
      have hub : (u.size : Int) ≤ 8 := by omega
      have hnb : (n : Int) ≤ 1114111 := by omega
      have hcase : (¬ (33 : Int) ≤ n) ∨ ((33 : Int) ≤ n ∧ ¬ (n : Int) ≤ 126) ∨ ((33 : Int) ≤ n ∧ (n : Int) ≤ 126 ∧ ((n : Int) != 39) = false) := by
        by_cases c1 : (33 : Int) ≤ n
        · by_cases c2 : (n : Int) ≤ 126
          · exact .inr (.inr ⟨c1, c2, by simpa using fun c3 => hq ⟨c1, c2, c3⟩⟩)
          · exact .inr (.inl ⟨c1, c2⟩)
        · exact .inl c1
      clear hv hfm hup hup2 hrp hu h0 hq hHs hb hT
      rcases hcase with c1 | ⟨c1, c2⟩ | ⟨c1, c2, c3⟩
      all_goals
        go_enter Tryd.func12, Tryd.ntmps12
        go_wp2_with fail
        refine (width_any n _).mono ?_
        rintro e w1 ⟨rfl, rfl⟩
        go_wp2_with fail
        refine (unhide HF).mono ?_
        rintro e w2 ⟨rfl, hb2⟩
        go_wp2_with fail
        refine (unhide HU _).mono ?_
        rintro e w3 ⟨rfl, hb3⟩
        have HB3 := hide (hb2.trans (hb3.mono hb2.size))
        clear hb2 hb3
        go_wp2_with fail
        try rw [hmx]
        refine (unhide HP _).mono ?_
        rintro e w4 ⟨rfl, hb4⟩
        have hrs := rep_size (4 - u.size) (by omega)
        have hs2 : ((⟨#[85, 43]⟩ : ByteArray) ++ ⟨(Lib.repeatL [48] (4 - u.size)).toArray⟩).size ≤ 6 := by rw [ByteArray.size_append, hrs]; show 2 + _ ≤ _; omega
        have hrs2 : (⟨(Lib.repeatL [48] (4 - u.size)).toArray⟩ : ByteArray).size ≤ 4 := by omega
        clear hrs
        generalize (⟨(Lib.repeatL [48] (4 - u.size)).toArray⟩ : ByteArray) = rp at *
        have HB4 := hide ((unhide HB3).trans (hb4.mono (unhide HB3).size))
        clear hb4
        go_wp2_with fail
        go_ret2
        exact ⟨by rw [unhide HV]; rfl, unhide HB4⟩
end Go.Proofs.YtncmabmpkdmpfaaDoor
