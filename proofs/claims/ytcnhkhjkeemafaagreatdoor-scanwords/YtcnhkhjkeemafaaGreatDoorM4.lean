/- Texts of this claim, one behind the other. -/
import Derived.Test.YtcnhkhjkeemafaaGreatDoorM3
import Derived.Test.YtcnhkhjkeemafaaGreatDoorShB
import Derived.Test.YtcnhkhjkeemafaaGreatDoorM2
import Derived.Test.YtcnhkhjkeemafaaGreatDoorShM
import Derived.Test.YtcnhkhjkeemafaaGreatDoorRows
import Derived.LaidMore
import Derived.ProofKit
import Derived.Lib.LaidTab
import Derived.Stop.Joined
import Derived.Test.YtcnhkhjkeemafaaGreatDoorM1
/- Text: how a rune is written. -/
namespace Go.Proofs.YtcnhkhjkeemafaaGreatDoor
open Go.RowKit Go.Shelf
set_option linter.unusedVariables false
theorem ex158 : Builder.Extra Tryz.prog lay158_ren := ⟨⟨by kernel_rfl, by kernel_rfl⟩, Tryz.underlying5, Tryz.isAgg5, Tryz.sizeOf5, Tryz.zeroValue5, by kernel_rfl, by kernel_rfl, by kernel_rfl, by decide⟩
theorem ex105 : Builder.Extra Tryz.prog lay105_ren := ⟨⟨by kernel_rfl, by kernel_rfl⟩, Tryz.underlying5, Tryz.isAgg5, Tryz.sizeOf5, Tryz.zeroValue5, by kernel_rfl, by kernel_rfl, by kernel_rfl, by decide⟩
theorem upper_sh (s : ByteArray) (w : World) (h : s.size ≤ 140737488355328) (ha : ∀ (j : Nat) (b : UInt8), s.data.toList[j]? = some b → b.toNat < 128) : Calls Tryz.prog 18 #[.string s] w fun e w' => e = .returned (.string ⟨(Lib.toUpperA s.data.toList).toArray⟩) ∧ Below w.heap.size w w' := Any.strings_ToUpper_ascii lay158 ex158 s w h ha
theorem repeat_sh (s : ByteArray) (c : Nat) (w : World) (hc : c ≤ 9223372036854775807) (h : s.size * c ≤ 140737488355328) : Calls Tryz.prog 20 #[.string s, .int .i64 c] w fun e w' => e = .returned (.string ⟨(Lib.repeatL s.data.toList c).toArray⟩) ∧ Below w.heap.size w w' := Any.strings_Repeat lay105 ex105 s c w hc h
theorem hexL_ascii : ∀ (n : Nat) (b : UInt8), b ∈ hexL n → b.toNat < 128 := by
  intro n
  induction n using Nat.strongRecOn with
  | _ n ih =>
    intro b hb
    have hd : ∀ d, d < 16 → (digC d).toNat < 128 := by decide
    by_cases h : n < 16
    · rw [hexL_small h] at hb
      rw [List.mem_singleton.1 hb]
      exact hd n h
    · rw [hexL_step (by omega)] at hb
      rcases List.mem_append.1 hb with hb | hb
      · exact ih (n / 16) (by omega) b hb
      · rw [List.mem_singleton.1 hb]
        exact hd _ (Nat.mod_lt _ (by decide))
theorem hexL_length : ∀ (k n : Nat), n < 16 ^ (k + 1) → 1 ≤ (hexL n).length ∧ (hexL n).length ≤ k + 1
  | 0, n, h => by rw [hexL_small (by simpa using h)]; simp
  | k + 1, n, h => by
    by_cases hs : n < 16
    · rw [hexL_small hs]; simp
    · rw [hexL_step (by omega), List.length_append]
      have := hexL_length k (n / 16) (by rw [Nat.div_lt_iff_lt_mul (by decide)]; rw [Nat.pow_succ] at h; exact h)
      simp
      omega
/-- The digits, upper case. -/
def upS (n : Nat) : ByteArray := ⟨(Lib.toUpperA (hexL n)).toArray⟩
theorem upS_size (n : Nat) (h : n < 4294967296) : 1 ≤ (upS n).size ∧ (upS n).size ≤ 8 := by
  have h1 := hexL_length 7 n (by omega)
  have e : (upS n).size = (hexL n).length := by
    show (Lib.toUpperA (hexL n)).toArray.size = _
    simp [Lib.toUpperA]
  omega
theorem enc_ascii : ∀ k : Nat, k < 128 → (Utf8.encode (k : Int)).size = 1 := by decide +kernel
theorem rep_size : ∀ c : Nat, c ≤ 4 → (⟨(Lib.repeatL [48] c).toArray⟩ : ByteArray).size = c := by decide +kernel
/-- How a rune is written. -/
def textV (r : Int) : ByteArray × Int :=
  if widthOf r = 0 then (⟨#[]⟩, 12) else if 33 ≤ r ∧ r ≤ 126 ∧ r ≠ 39 then (⟨#[39]⟩ ++ Utf8.encode r ++ ⟨#[39]⟩, 0)
  else (⟨#[85, 43]⟩ ++ ⟨(Lib.repeatL [48] (4 - (upS r.toNat).size)).toArray⟩ ++ upS r.toNat, 0)
theorem width_bound (r : Int) (h : widthOf r ≠ 0) : 0 ≤ r ∧ r ≤ 1114111 := by
  unfold widthOf at h
  repeat' split at h
  all_goals first | omega | (exfalso; exact h rfl)
set_option maxRecDepth 100000 in
set_option maxHeartbeats 4000000 in
theorem text_scan (r : Int) (w : World) (hT : w.cell? ⟨6, 15, none⟩ = some (.int .u8 4)) : Calls Tryz.prog 9 #[.int .i32 r] w fun e w' => e = .returned (.tuple #[.string (textV r).1, .int .i64 (textV r).2]) ∧ Below w.heap.size w w' := by
  by_cases h0 : widthOf r = 0
  · have hv : textV r = (⟨#[]⟩, 12) := by unfold textV; rw [if_pos h0]
    rw [hv]
    have h0' : (widthOf r == 0) = true := by simpa using h0
    clear hv h0
    go_enter Tryz.func9, Tryz.ntmps9
    go_wp2_with fail
    refine (width_any r _).mono ?_
    rintro e w1 ⟨rfl, rfl⟩
    go_wp2_with fail
    go_ret2
    exact ⟨rfl, Below.refl _ _⟩
  · have hb := width_bound r h0
    have h0' : (widthOf r == 0) = false := by simpa using h0
    by_cases hq : 33 ≤ r ∧ r ≤ 126 ∧ r ≠ 39
    · have hv : textV r = (⟨#[39]⟩ ++ Utf8.encode r ++ ⟨#[39]⟩, 0) := by unfold textV; rw [if_neg h0, if_pos hq]
      obtain ⟨q1, q2, q3⟩ := hq
      have q3' : (r != 39) = true := by simpa using q3
      have HV := hide hv
      clear hv h0 q3
      go_enter Tryz.func9, Tryz.ntmps9
      go_wp2_with fail
      refine (width_any r _).mono ?_
      rintro e w1 ⟨rfl, rfl⟩
      have hes : (Utf8.encode r).size = 1 := by
        have := enc_ascii r.toNat (by omega)
        rwa [Int.toNat_of_nonneg hb.1] at this
      have hs1 : ((⟨#[39]⟩ : ByteArray) ++ Utf8.encode r).size = 2 := by rw [ByteArray.size_append, hes]; rfl
      go_wp2_with fail
      go_ret2
      exact ⟨by rw [unhide HV]; rfl, Below.refl _ _⟩
    · obtain ⟨n, rfl⟩ : ∃ n : Nat, r = n := ⟨r.toNat, by omega⟩
      have hn : n < 2147483648 := by omega
      have hv : textV (n : Int) = (⟨#[85, 43]⟩ ++ ⟨(Lib.repeatL [48] (4 - (upS n).size)).toArray⟩ ++ upS n, 0) := by unfold textV; rw [if_neg h0, if_neg hq, Int.toNat_natCast]
      have hz := upS_size n (by omega)
      have hHs : (⟨(hexL n).toArray⟩ : ByteArray).size ≤ 140737488355328 := by
        have h1 := hexL_length 7 n (by omega)
        show (hexL n).toArray.size ≤ _
        simp
        omega
      have hfm := fmt16 n hn w hT
      have hup := fun w' => upper_sh ⟨(hexL n).toArray⟩ w' hHs (fun j b hj => hexL_ascii n b (List.mem_of_getElem? (by simpa using hj)))
      obtain ⟨u, hu⟩ : ∃ u, u = upS n := ⟨_, rfl⟩
      have hup2 : ∀ w', Calls Tryz.prog 18 #[.string ⟨(hexL n).toArray⟩] w' fun e w2 => e = .returned (.string u) ∧ Below w'.heap.size w' w2 := fun w' => by rw [hu]; exact hup w'
      rw [← hu] at hv hz
      have hrp := fun w' => repeat_sh ⟨#[48]⟩ (4 - u.size) w' (by omega) (by show 1 * _ ≤ _; omega)
      have HV := hide hv
      have HF := hide hfm
      have HU := hide hup2
      have HP := hide hrp
      have hmx : max ((4 : Int) - (u.size : Int)) 0 = ((4 - u.size : Nat) : Int) := by omega
      have hub : (u.size : Int) ≤ 8 := by omega
      have hnb : (n : Int) ≤ 1114111 := by omega
      have hcase : (¬ (33 : Int) ≤ n) ∨ ((33 : Int) ≤ n ∧ ¬ (n : Int) ≤ 126) ∨ ((33 : Int) ≤ n ∧ (n : Int) ≤ 126 ∧ ((n : Int) != 39) = false) := by
        by_cases c1 : (33 : Int) ≤ n
        · by_cases c2 : (n : Int) ≤ 126
          · exact .inr (.inr ⟨c1, c2, by simpa using fun c3 => hq ⟨c1, c2, c3⟩⟩)
          · exact .inr (.inl ⟨c1, c2⟩)
        · exact .inl c1
      clear hv hfm hup hup2 hrp hu h0 hq hHs hb hT
      rcases hcase with c1 | ⟨c1, c2⟩ | ⟨c1, c2, c3⟩
      all_goals
        go_enter Tryz.func9, Tryz.ntmps9
        go_wp2_with fail
        refine (width_any n _).mono ?_
        rintro e w1 ⟨rfl, rfl⟩
        go_wp2_with fail
        refine (unhide HF).mono ?_
        rintro e w2 ⟨rfl, hb2⟩
        go_wp2_with fail
        refine (unhide HU _).mono ?_
        rintro e w3 ⟨rfl, hb3⟩
        have HB3 := hide (hb2.trans (hb3.mono hb2.size))
        clear hb2 hb3
        go_wp2_with fail
        try rw [hmx]
        refine (unhide HP _).mono ?_
        rintro e w4 ⟨rfl, hb4⟩
        have hrs := rep_size (4 - u.size) (by omega)
        have hs2 : ((⟨#[85, 43]⟩ : ByteArray) ++ ⟨(Lib.repeatL [48] (4 - u.size)).toArray⟩).size ≤ 6 := by rw [ByteArray.size_append, hrs]; show 2 + _ ≤ _; omega
        have hrs2 : (⟨(Lib.repeatL [48] (4 - u.size)).toArray⟩ : ByteArray).size ≤ 4 := by omega
        clear hrs
        generalize (⟨(Lib.repeatL [48] (4 - u.size)).toArray⟩ : ByteArray) = rp at *
        have HB4 := hide ((unhide HB3).trans (hb4.mono (unhide HB3).size))
        clear hb4
        go_wp2_with fail
        go_ret2
        exact ⟨by rw [unhide HV]; rfl, unhide HB4⟩
end Go.Proofs.YtcnhkhjkeemafaaGreatDoor
/- Legal: is a text a name? -/
namespace Go.Proofs.YtcnhkhjkeemafaaGreatDoor
open Go.RowKit Go.Shelf
set_option linter.unusedVariables false
def legalB (s : ByteArray) : Bool := decide (0 < s.size ∧ nameLen s = s.size)
theorem legal_any (s : ByteArray) (hs : s.size ≤ maxLen) (w : World) : Calls Tryz.prog 11 #[.string s] w fun e w' => e = .returned (.bool (legalB s)) ∧ w' = w := by
  by_cases h0 : 0 < s.size
  · have hne := toList_ne s h0
    have hne' : (s.toList != []) = true := by simpa using hne
    have hv : legalB s = ((nameLen s : Int) == (s.size : Int)) := by
      unfold legalB
      rw [Bool.eq_iff_iff]
      simp [h0]
      omega
    have HV := hide hv
    have HN := hide (named_any s hs)
    have hm : s.size ≤ 9223372036854775807 := by unfold maxLen at hs; exact hs
    clear hv
    go_enter Tryz.func11, Tryz.ntmps11
    go_wp2_with fail
    refine (unhide HN _).mono ?_
    rintro e w1 ⟨rfl, rfl⟩
    go_wp2_with fail
    go_ret
    refine ⟨?_, rfl⟩
    show Ending.returned (.bool (!s.toList.isEmpty && ((nameLen s : Int) == (s.size : Int)))) = _
    rw [unhide HV, show s.toList.isEmpty = false by simpa using hne]
    rfl
  · obtain rfl := toList_nil s (by omega)
    have hv : legalB ByteArray.empty = false := by unfold legalB; simp
    rw [hv]
    go_enter Tryz.func11, Tryz.ntmps11
    go_wp2_with fail
    go_ret
    exact ⟨rfl, rfl⟩
end Go.Proofs.YtcnhkhjkeemafaaGreatDoor
/- known: what the document says of some small texts. -/
namespace Go.Proofs.YtcnhkhjkeemafaaGreatDoor
open Go.RowKit Go.Shelf
set_option linter.unusedVariables false
abbrev knA : ByteArray := ⟨#[102, 111, 108, 100, 32, 39, 65, 39, 32, 61, 32, 85, 43, 48, 48, 54, 49, 59]⟩
abbrev knB : ByteArray := ⟨#[39, 195, 169]⟩
abbrev knC : ByteArray := ⟨#[39, 195, 169, 39]⟩
theorem knA_ok : (wordsV knA).ok = true := by kernel_rfl
theorem knA_len : (wordsV knA).ws.length = 5 := by kernel_rfl
theorem knA_10 : (encWs (wordsV knA).ws)[10]? = some (.int .i32 65) := by kernel_rfl
theorem knA_26 : (encWs (wordsV knA).ws)[26]? = some (.int .i32 97) := by kernel_rfl
theorem knA_28 : (encWs (wordsV knA).ws)[28]? = some (.int .i64 11) := by kernel_rfl
theorem knA_29 : (encWs (wordsV knA).ws)[29]? = some (.int .i64 1) := by kernel_rfl
theorem knA_30 : (encWs (wordsV knA).ws)[30]? = some (.int .i64 12) := by kernel_rfl
theorem knB_ok : (wordsV knB).ok = false := by kernel_rfl
theorem knB_b : (wordsV knB).b = 3 := by kernel_rfl
theorem knB_wh : whL knB 3 = (1, 3) := by kernel_rfl
theorem knC_wh : whL knC 2 = (1, 2) := by kernel_rfl
theorem tx97 : textV 97 = (⟨#[39, 97, 39]⟩, 0) := by kernel_rfl
theorem tx233 : textV 233 = (⟨#[85, 43, 48, 48, 69, 57]⟩, 0) := by kernel_rfl
theorem lg1 : legalB ⟨#[97, 45, 57]⟩ = true := by kernel_rfl
theorem lg2 : legalB ⟨#[65]⟩ = false := by kernel_rfl
/-- What the walks lean on: the length's bound, the table. -/
structure Env (m : Int) (w : World) : Prop where
  max : w.cell? ⟨0, 0, none⟩ = some (.int .i64 m)
  tab : w.cell? ⟨6, 15, none⟩ = some (.int .u8 4)
theorem Env.below {m : Int} {w w' : World} {B : Nat} (h : Env m w) (hb : Below B w w') (hB : w.heap.size ≤ B) : Env m w' :=
  ⟨(hb.cell (p := ⟨0, 0, none⟩) (Nat.lt_of_lt_of_le (cell_lt h.max) hB)).trans h.max, (hb.cell (p := ⟨6, 15, none⟩) (Nat.lt_of_lt_of_le (cell_lt h.tab) hB)).trans h.tab⟩
theorem own_words {W : World} {lo E sz n : Nat} {v : Value} {xs : List Value} (h : W.ownsRow lo E sz v n xs) (hn : 0 < n) : ∃ g cap, v = .slice (some ⟨g, 0, none⟩) n cap ∧ g < W.heap.size ∧ ∀ (k : Nat) (u : Value), xs[k]? = some u → W.cell? ⟨g, k, none⟩ = some u := by
  rcases h.2 with ⟨rfl, h0⟩ | ⟨g, cap, cur, rfl, _, hh, _⟩
  · omega
  · refine ⟨g, cap, rfl, (Array.getElem?_eq_some_iff.1 hh).1, fun k u hk => ?_⟩
    have := h.cells (g := g) rfl k u hk
    rwa [show (⟨g, 0, none⟩ : Addr).add k = ⟨g, k, none⟩ by unfold Addr.add; split <;> simp_all] at this
set_option maxRecDepth 100000 in
set_option maxHeartbeats 8000000 in
theorem known_any (m : Int) (w : World) (hE : Env m w) : Calls Tryz.prog 8 #[] w fun e w' => e = .returned (.bool true) ∧ Below w.heap.size w w' := by
  have HE := hide hE
  have hz := cell_lt hE.max
  clear hE
  go_enter Tryz.func8, Tryz.ntmps8
  go_wp2_with fail
  refine (words_yes knA (by decide) knA_ok m _ (unhide HE).max hz).mono ?_
  rintro e w1 ⟨v, rfl, hown, hb⟩
  rw [knA_len] at hown
  obtain ⟨g, cap, rfl, hg, hcell⟩ := own_words hown (by decide)
  have hal := (Below.refl w1.heap.size w1).alloc (Nat.le_refl _) (.cells #[.int .i64 0, .int .i64 0, .int .i64 0] 35)
  have HB1 := hide (hb.trans (hal.mono hb.size))
  have HA := hide (Blk.new w1 #[.int .i64 0, .int .i64 0, .int .i64 0] 35)
  have HC := hide (And.intro (hcell 10 _ knA_10) (And.intro (hcell 26 _ knA_26) (And.intro (hcell 28 _ knA_28) (And.intro (hcell 29 _ knA_29) (hcell 30 _ knA_30)))))
  have HE1 := hide ((unhide HE).below (unhide HB1) (Nat.le_refl _))
  have HG := hide hg
  have hz1 := cell_lt (unhide HE1).max
  clear hb hal hown hcell hg HE hz
  go_wp2_with fail
  refine (words_no knB (by decide) knB_ok (by rw [knB_b]; decide) m _ (unhide HE1).max hz1).mono ?_
  rintro e w2 ⟨rfl, hb⟩
  rw [knB_b, knB_wh, show (if 3 < knB.size then (20 : Int) else 21) = 21 from rfl]
  have hal := (Below.refl w2.heap.size w2).alloc (Nat.le_refl _) (.cells #[.int .i64 3, .int .i64 1, .int .i64 3] 35)
  have hbb := hb.trans (hal.mono hb.size)
  have HB2 := hide ((unhide HB1).trans (hbb.mono (unhide HB1).size))
  have HB := hide (Blk.new w2 #[.int .i64 3, .int .i64 1, .int .i64 3] 35)
  have HA2 := hide ((unhide HA).below hbb (unhide HA).lt)
  have HE2 := hide ((unhide HE1).below hbb (Nat.le_refl _))
  have hgc : ∀ k, (w2.alloc (.cells #[.int .i64 3, .int .i64 1, .int .i64 3] 35)).cell? ⟨g, k, none⟩ = w1.cell? ⟨g, k, none⟩ := fun k => (hbb.cell (p := ⟨g, k, none⟩) (by have := unhide HG; simp; omega)).trans (Below.cell (p := ⟨g, k, none⟩) ((Below.refl w1.heap.size w1).alloc (Nat.le_refl _) _) (unhide HG))
  have HC2 := hide (And.intro ((hgc 10).trans (unhide HC).1) (And.intro ((hgc 26).trans (unhide HC).2.1) (And.intro ((hgc 28).trans (unhide HC).2.2.1) (And.intro ((hgc 29).trans (unhide HC).2.2.2.1) ((hgc 30).trans (unhide HC).2.2.2.2)))))
  have hg2 : g < (w2.alloc (.cells #[.int .i64 3, .int .i64 1, .int .i64 3] 35)).heap.size := by have := unhide HG; have := hbb.size; simp at this ⊢; omega
  have HG2 := hide hg2
  clear hb hal hbb hgc hg2 HB1 HA HE1 HC HG hz1
  go_wp2_with fail
  refine (text_scan 97 _ (unhide HE2).tab).mono ?_
  rintro e w3 ⟨rfl, hb⟩
  rw [tx97]
  have HB3 := hide ((unhide HB2).trans (hb.mono (unhide HB2).size))
  have HBb := hide ((unhide HB).below hb (unhide HB).lt)
  have HA3 := hide ((unhide HA2).below hb (unhide HA2).lt)
  have HE3 := hide ((unhide HE2).below hb (Nat.le_refl _))
  have hgc : ∀ k, w3.cell? ⟨g, k, none⟩ = (w2.alloc (.cells #[.int .i64 3, .int .i64 1, .int .i64 3] 35)).cell? ⟨g, k, none⟩ := fun k => hb.cell (p := ⟨g, k, none⟩) (unhide HG2)
  have HC3 := hide (And.intro ((hgc 10).trans (unhide HC2).1) (And.intro ((hgc 26).trans (unhide HC2).2.1) (And.intro ((hgc 28).trans (unhide HC2).2.2.1) (And.intro ((hgc 29).trans (unhide HC2).2.2.2.1) ((hgc 30).trans (unhide HC2).2.2.2.2)))))
  have hg3 : g < w3.heap.size := by have := unhide HG2; have := hb.size; omega
  have HG3 := hide hg3
  clear hb hgc hg3 HB2 HB HA2 HE2 HC2 HG2
  go_wp2_with fail
  refine (text_scan 233 _ (unhide HE3).tab).mono ?_
  rintro e w4 ⟨rfl, hb⟩
  rw [tx233]
  have HB4 := hide ((unhide HB3).trans (hb.mono (unhide HB3).size))
  have HBc := hide ((unhide HBb).below hb (unhide HBb).lt)
  have HA4 := hide ((unhide HA3).below hb (unhide HA3).lt)
  have hgc : ∀ k, w4.cell? ⟨g, k, none⟩ = w3.cell? ⟨g, k, none⟩ := fun k => hb.cell (p := ⟨g, k, none⟩) (unhide HG3)
  have c10 := (hgc 10).trans (unhide HC3).1
  have c26 := (hgc 26).trans (unhide HC3).2.1
  have c28 := (hgc 28).trans (unhide HC3).2.2.1
  have c29 := (hgc 29).trans (unhide HC3).2.2.2.1
  have c30 := (hgc 30).trans (unhide HC3).2.2.2.2
  have a0 := (unhide HA4).cell 0
  have a1 := (unhide HA4).cell 1
  have a2 := (unhide HA4).cell 2
  have b0 := (unhide HBc).cell 0
  have b1 := (unhide HBc).cell 1
  have b2 := (unhide HBc).cell 2
  clear hb hgc HB3 HBb HA3 HC3 HG3
  go_wp2_with fail
  refine (legal_any ⟨#[97, 45, 57]⟩ (by decide) _).mono ?_
  rintro e w5 ⟨rfl, rfl⟩
  rw [lg1]
  go_wp2_with fail
  refine (legal_any ⟨#[65]⟩ (by decide) _).mono ?_
  rintro e w6 ⟨rfl, rfl⟩
  rw [lg2]
  go_wp2_with fail
  refine (show Calls Tryz.prog 16 #[.string knC, .int .i64 2] _ _ from where_in knC (by decide) 2 (by decide) _).mono ?_
  rintro e w7 ⟨rfl, hb⟩
  rw [knC_wh]
  have HB5 := hide ((unhide HB4).trans (hb.mono (unhide HB4).size))
  clear hb
  go_wp2_with fail
  go_ret
  exact ⟨rfl, unhide HB5⟩
end Go.Proofs.YtcnhkhjkeemafaaGreatDoor
/- What a row's first world gives the walks. -/
namespace Go.Proofs.YtcnhkhjkeemafaaGreatDoor
open Go.ChangeShapes Go.WideShapes Go.ChangeAt Go.RowKit
set_option linter.unusedVariables false
def tab64 : List Int := [0, 1, 56, 2, 57, 49, 28, 3, 61, 58, 42, 50, 38, 29, 17, 4, 62, 47, 59, 36, 45, 43, 51, 22, 53, 39, 33, 30, 24, 18, 12, 5, 63, 55, 48, 27, 60, 41, 37, 16, 46, 35, 44, 21, 52, 32, 23, 11, 54, 26, 40, 15, 34, 20, 31, 10, 25, 14, 19, 9, 13, 8, 7, 6]
theorem laid64 : (Rows.laid_math_bits_deBruijn64tab : DataW Unit) = Lib.tabData .u8 tab64 := by kernel_rfl
theorem gTab : Tryz.prog.globalNamed "math/bits.deBruijn64tab" = some 6 := by kernel_rfl
theorem gTabT : (Tryz.prog.globals[6]?).map (·.type) = some 151 := by kernel_rfl
theorem cellsT : Tryz.prog.cellsOf 151 = 64 := by kernel_rfl
theorem cells5 : Tryz.prog.cellsOf 5 = 1 := by kernel_rfl
theorem env_of {rest : List (String × DataW Unit)} {n0 : String} {d0 : DataW Unit} {W : World} (h : laidMet Tryz.prog ((n0, d0) :: ("math/bits.deBruijn64tab", Rows.laid_math_bits_deBruijn64tab) :: rest) W) (hS : World.ShapedOpen Tryz.prog W) : ∃ m, Env m W := by
  obtain ⟨m, hm⟩ := layM145.s1_3 W hS
  obtain ⟨ps, ⟨g0, t0, cs0, f0, p0, q0, hg0, ht0, hv0, hd0, ⟨g1, t1, cs1, f1, p1, q1, hg1, ht1, hv1, hd1, _⟩, _⟩, _⟩ := h
  obtain rfl := Option.some.inj (gTab.symm.trans hg1)
  obtain rfl := Option.some.inj (gTabT.symm.trans ht1)
  rw [laid64] at hd1
  have hc := Lib.cells_of_tab Tryz.underlying151 Tryz.underlying5 cells5 cellsT hd1
  refine ⟨m, hm, ?_⟩
  have := World.var?_cell hg1 hv1 15
  rw [this, ← Array.getElem?_toList, hc]
  rfl
end Go.Proofs.YtcnhkhjkeemafaaGreatDoor
/- Plain facts on the bytes of runes: what is written of a rune is read as that rune; a text without bad spots is what its runes are written as. -/
namespace Go.Proofs.YtcnhkhjkeemafaaGreatDoor
open Go.RowKit Go.Shelf
open Go.Lib (decodeN decode_at)
set_option linter.unusedVariables false

theorem valid_of_width {z : Int} (h : widthOf z ≠ 0) : Utf8.valid z = true ∧ 0 ≤ z ∧ z ≤ 1114111 ∧ ¬ (55296 ≤ z ∧ z ≤ 57343) := by
  unfold widthOf at h
  split at h
  · exact absurd rfl h
  · rename_i hh
    refine ⟨?_, by omega, by omega, by omega⟩
    simp only [Utf8.valid, Bool.or_eq_true, Bool.and_eq_true, decide_eq_true_eq]
    omega

theorem enc1 {z : Int} (h : widthOf z ≠ 0) (h1 : z < 128) : Utf8.encode z = ⟨#[UInt8.ofNat z.toNat]⟩ := by
  obtain ⟨hv, h0, _, _⟩ := valid_of_width h
  unfold Utf8.encode
  simp only [hv, if_true]
  rw [if_pos (by omega)]
theorem enc2 {z : Int} (h : widthOf z ≠ 0) (h1 : 128 ≤ z) (h2 : z < 2048) : Utf8.encode z = ⟨#[UInt8.ofNat (0xC0 + z.toNat / 64), UInt8.ofNat (0x80 + z.toNat % 64)]⟩ := by
  obtain ⟨hv, h0, _, _⟩ := valid_of_width h
  unfold Utf8.encode
  simp only [hv, if_true]
  rw [if_neg (by omega), if_pos (by omega)]
theorem enc3 {z : Int} (h : widthOf z ≠ 0) (h1 : 2048 ≤ z) (h2 : z < 65536) : Utf8.encode z = ⟨#[UInt8.ofNat (0xE0 + z.toNat / 4096), UInt8.ofNat (0x80 + z.toNat / 64 % 64), UInt8.ofNat (0x80 + z.toNat % 64)]⟩ := by
  obtain ⟨hv, h0, _, _⟩ := valid_of_width h
  unfold Utf8.encode
  simp only [hv, if_true]
  rw [if_neg (by omega), if_neg (by omega), if_pos (by omega)]
theorem enc4 {z : Int} (h : widthOf z ≠ 0) (h1 : 65536 ≤ z) : Utf8.encode z = ⟨#[UInt8.ofNat (0xF0 + z.toNat / 262144), UInt8.ofNat (0x80 + z.toNat / 4096 % 64), UInt8.ofNat (0x80 + z.toNat / 64 % 64), UInt8.ofNat (0x80 + z.toNat % 64)]⟩ := by
  obtain ⟨hv, h0, _, _⟩ := valid_of_width h
  unfold Utf8.encode
  simp only [hv, if_true]
  rw [if_neg (by omega), if_neg (by omega), if_neg (by omega)]
theorem u8n (n : Nat) (h : n < 256) : (UInt8.ofNat n).toNat = n := by rw [UInt8.toNat_ofNat']; omega

/-- What is written of a rune is read as that rune, of its width. -/
theorem decode_enc {z : Int} (h : widthOf z ≠ 0) : Utf8.decode (Utf8.encode z) 0 = (z.toNat, (Utf8.encode z).size) ∧ ((Utf8.encode z).size : Int) = widthOf z := by
  obtain ⟨hv, h0, h1, h2⟩ := valid_of_width h
  by_cases c1 : z < 128
  · rw [enc1 h c1]
    refine ⟨?_, ?_⟩
    · rw [decode_at]
      have e0 : ((⟨#[UInt8.ofNat z.toNat]⟩ : ByteArray).get! 0).toNat = z.toNat := by show (UInt8.ofNat z.toNat).toNat = _; exact u8n _ (by omega)
      rw [e0]
      unfold decodeN
      rw [if_pos (by omega)]
      rfl
    · unfold widthOf; rw [if_neg (by omega), if_pos (by omega)]; rfl
  by_cases c2 : z < 2048
  · rw [enc2 h (by omega) c2]
    refine ⟨?_, ?_⟩
    · rw [decode_at]
      have e0 : ((⟨#[UInt8.ofNat (0xC0 + z.toNat / 64), UInt8.ofNat (0x80 + z.toNat % 64)]⟩ : ByteArray).get! 0).toNat = 192 + z.toNat / 64 := by show (UInt8.ofNat (0xC0 + z.toNat / 64)).toNat = _; exact u8n _ (by omega)
      have e1 : ((⟨#[UInt8.ofNat (0xC0 + z.toNat / 64), UInt8.ofNat (0x80 + z.toNat % 64)]⟩ : ByteArray).get! (0 + 1)).toNat = 128 + z.toNat % 64 := by show (UInt8.ofNat (0x80 + z.toNat % 64)).toNat = _; exact u8n _ (by omega)
      rw [e0, e1]
      show decodeN 2 _ _ _ _ = (_, 2)
      unfold decodeN
      rw [if_neg (by omega), if_pos (by omega), if_pos (by omega)]
      rw [Prod.mk.injEq]
      exact ⟨by omega, rfl⟩
    · unfold widthOf; rw [if_neg (by omega), if_neg (by omega), if_pos (by omega)]; rfl
  by_cases c3 : z < 65536
  · rw [enc3 h (by omega) c3]
    refine ⟨?_, ?_⟩
    · rw [decode_at]
      have e0 : ((⟨#[UInt8.ofNat (0xE0 + z.toNat / 4096), UInt8.ofNat (0x80 + z.toNat / 64 % 64), UInt8.ofNat (0x80 + z.toNat % 64)]⟩ : ByteArray).get! 0).toNat = 224 + z.toNat / 4096 := by show (UInt8.ofNat (0xE0 + z.toNat / 4096)).toNat = _; exact u8n _ (by omega)
      have e1 : ((⟨#[UInt8.ofNat (0xE0 + z.toNat / 4096), UInt8.ofNat (0x80 + z.toNat / 64 % 64), UInt8.ofNat (0x80 + z.toNat % 64)]⟩ : ByteArray).get! (0 + 1)).toNat = 128 + z.toNat / 64 % 64 := by show (UInt8.ofNat (0x80 + z.toNat / 64 % 64)).toNat = _; exact u8n _ (by omega)
      have e2 : ((⟨#[UInt8.ofNat (0xE0 + z.toNat / 4096), UInt8.ofNat (0x80 + z.toNat / 64 % 64), UInt8.ofNat (0x80 + z.toNat % 64)]⟩ : ByteArray).get! (0 + 2)).toNat = 128 + z.toNat % 64 := by show (UInt8.ofNat (0x80 + z.toNat % 64)).toNat = _; exact u8n _ (by omega)
      rw [e0, e1, e2]
      show decodeN 3 _ _ _ _ = (_, 3)
      unfold decodeN
      rw [if_neg (by omega), if_neg (by omega), if_pos (by omega), if_pos (by omega)]
      rw [Prod.mk.injEq]
      exact ⟨by omega, rfl⟩
    · unfold widthOf; rw [if_neg (by omega), if_neg (by omega), if_neg (by omega), if_pos (by omega)]; rfl
  · rw [enc4 h (by omega)]
    refine ⟨?_, ?_⟩
    · rw [decode_at]
      have e0 : ((⟨#[UInt8.ofNat (0xF0 + z.toNat / 262144), UInt8.ofNat (0x80 + z.toNat / 4096 % 64), UInt8.ofNat (0x80 + z.toNat / 64 % 64), UInt8.ofNat (0x80 + z.toNat % 64)]⟩ : ByteArray).get! 0).toNat = 240 + z.toNat / 262144 := by show (UInt8.ofNat (0xF0 + z.toNat / 262144)).toNat = _; exact u8n _ (by omega)
      have e1 : ((⟨#[UInt8.ofNat (0xF0 + z.toNat / 262144), UInt8.ofNat (0x80 + z.toNat / 4096 % 64), UInt8.ofNat (0x80 + z.toNat / 64 % 64), UInt8.ofNat (0x80 + z.toNat % 64)]⟩ : ByteArray).get! (0 + 1)).toNat = 128 + z.toNat / 4096 % 64 := by show (UInt8.ofNat (0x80 + z.toNat / 4096 % 64)).toNat = _; exact u8n _ (by omega)
      have e2 : ((⟨#[UInt8.ofNat (0xF0 + z.toNat / 262144), UInt8.ofNat (0x80 + z.toNat / 4096 % 64), UInt8.ofNat (0x80 + z.toNat / 64 % 64), UInt8.ofNat (0x80 + z.toNat % 64)]⟩ : ByteArray).get! (0 + 2)).toNat = 128 + z.toNat / 64 % 64 := by show (UInt8.ofNat (0x80 + z.toNat / 64 % 64)).toNat = _; exact u8n _ (by omega)
      have e3 : ((⟨#[UInt8.ofNat (0xF0 + z.toNat / 262144), UInt8.ofNat (0x80 + z.toNat / 4096 % 64), UInt8.ofNat (0x80 + z.toNat / 64 % 64), UInt8.ofNat (0x80 + z.toNat % 64)]⟩ : ByteArray).get! (0 + 3)).toNat = 128 + z.toNat % 64 := by show (UInt8.ofNat (0x80 + z.toNat % 64)).toNat = _; exact u8n _ (by omega)
      rw [e0, e1, e2, e3]
      show decodeN 4 _ _ _ _ = (_, 4)
      unfold decodeN
      rw [if_neg (by omega), if_neg (by omega), if_neg (by omega), if_pos (by omega), if_pos (by omega)]
      rw [Prod.mk.injEq]
      exact ⟨by omega, rfl⟩
    · unfold widthOf; rw [if_neg (by omega), if_neg (by omega), if_neg (by omega), if_neg (by omega)]; rfl

theorem starts_enc {z : Int} (h : widthOf z ≠ 0) : starts (Utf8.encode z) = [0] ∧ badB (Utf8.encode z) 0 = false ∧ runesL (Utf8.encode z) = [z] := by
  obtain ⟨hd, hw⟩ := decode_enc h
  obtain ⟨hv, h0, h1, h2⟩ := valid_of_width h
  have hsz : 1 ≤ (Utf8.encode z).size := by
    have : (0 : Int) ≤ widthOf z := by
      unfold widthOf
      repeat' split
      all_goals omega
    omega
  have hs : starts (Utf8.encode z) = [0] := by
    unfold starts
    obtain ⟨m, hm⟩ : ∃ m, (Utf8.encode z).size = m + 1 := ⟨(Utf8.encode z).size - 1, by omega⟩
    have hwd : wd (Utf8.encode z) 0 = (Utf8.encode z).size := by simp only [wd]; rw [hd]
    rw [hm, startsFrom_cons _ m 0 (by omega), hwd, startsFrom_end _ _ _ (by omega)]
  refine ⟨hs, ?_, ?_⟩
  · unfold badB
    refine decide_eq_false ?_
    simp only [rn, wd, hd]
    rintro ⟨a, b⟩
    unfold widthOf at hw
    rw [b] at hw
    repeat' split at hw
    all_goals omega
  · unfold runesL
    rw [hs]
    simp only [List.map_cons, List.map_nil, rn, hd]
    rw [Int.toNat_of_nonneg h0]

theorem runesBytes_cons (z : Int) (zs : List Int) : runesBytes (z :: zs) = Utf8.encode z ++ runesBytes zs := by
  have := runesBytes_both [z] zs
  rw [List.singleton_append] at this
  rw [this, show runesBytes [z] = Utf8.encode z by unfold runesBytes; simp]
theorem badB_both (s t : ByteArray) (hb : bdB (s ++ t) s.size = true) (h1 : ∀ i ∈ starts s, badB s i = false) (h2 : ∀ i ∈ starts t, badB t i = false) : ∀ i ∈ starts (s ++ t), badB (s ++ t) i = false := by
  obtain ⟨e, hd⟩ := starts_both s t hb
  rw [e]
  intro i hi
  rcases List.mem_append.1 hi with hi | hi
  · rw [← h1 i hi]
    unfold badB
    simp only [rn, wd, hd i hi]
  · obtain ⟨j, hj, rfl⟩ := List.mem_map.1 hi
    rw [← h2 j hj]
    unfold badB
    simp only [rn, wd, decode_behind]
/-- Runes that are written are read back; nothing in what is written is bad. -/
theorem runes_back : ∀ zs : List Int, (∀ z ∈ zs, widthOf z ≠ 0) → runesL (runesBytes zs) = zs ∧ ∀ i ∈ starts (runesBytes zs), badB (runesBytes zs) i = false
  | [], _ => by
    have e : starts (runesBytes []) = [] := by decide
    exact ⟨by unfold runesL; rw [e]; rfl, by rw [e]; intro i hi; cases hi⟩
  | z :: zs, h => by
    obtain ⟨h1, h2⟩ := runes_back zs (fun y hy => h y (by simp [hy]))
    obtain ⟨e1, e2, e3⟩ := starts_enc (h z (by simp))
    have hv : ∀ i ∈ starts (Utf8.encode z), badB (Utf8.encode z) i = false := by rw [e1]; intro i hi; simp at hi; rw [hi]; exact e2
    have hj := joins_valid_left (Utf8.encode z) (runesBytes zs) hv
    rw [joins_bd] at hj
    rw [runesBytes_cons]
    exact ⟨by rw [runesL_both _ _ hj, h1, e3]; rfl, badB_both _ _ hj hv h2⟩

theorem rn_rune (s : ByteArray) (i : Nat) : widthOf ((rn s i : Nat) : Int) ≠ 0 := by
  have t := at_told s i
  have h1 := t.small
  have h2 := t.nosur
  unfold widthOf
  simp only [rn]
  rw [if_neg (by omega)]
  repeat' split
  all_goals decide
theorem runesL_runes (s : ByteArray) : ∀ z ∈ runesL s, widthOf z ≠ 0 := by
  intro z hz
  unfold runesL at hz
  obtain ⟨i, _, rfl⟩ := List.mem_map.1 hz
  exact rn_rune s i

/-- How the bytes of a sequence hang together with its rune. -/
theorem decodeN_bytes (n b0 b1 b2 b3 : Nat) (h0 : b0 < 256) (h1 : b1 < 256) (h2 : b2 < 256) (h3 : b3 < 256) (hg : ¬ ((decodeN n b0 b1 b2 b3).1 = 65533 ∧ (decodeN n b0 b1 b2 b3).2 = 1)) :
    ((decodeN n b0 b1 b2 b3).2 = 1 ∧ (decodeN n b0 b1 b2 b3).1 = b0 ∧ b0 < 128) ∨
    ((decodeN n b0 b1 b2 b3).2 = 2 ∧ b0 = 192 + (decodeN n b0 b1 b2 b3).1 / 64 ∧ b1 = 128 + (decodeN n b0 b1 b2 b3).1 % 64) ∨
    ((decodeN n b0 b1 b2 b3).2 = 3 ∧ b0 = 224 + (decodeN n b0 b1 b2 b3).1 / 4096 ∧ b1 = 128 + (decodeN n b0 b1 b2 b3).1 / 64 % 64 ∧ b2 = 128 + (decodeN n b0 b1 b2 b3).1 % 64) ∨
    ((decodeN n b0 b1 b2 b3).2 = 4 ∧ b0 = 240 + (decodeN n b0 b1 b2 b3).1 / 262144 ∧ b1 = 128 + (decodeN n b0 b1 b2 b3).1 / 4096 % 64 ∧ b2 = 128 + (decodeN n b0 b1 b2 b3).1 / 64 % 64 ∧ b3 = 128 + (decodeN n b0 b1 b2 b3).1 % 64) := by
  by_cases c0 : b0 < 128
  · have e : decodeN n b0 b1 b2 b3 = (b0, 1) := by unfold decodeN; rw [if_pos c0]
    rw [e]; exact .inl ⟨rfl, rfl, c0⟩
  by_cases c2 : b0 / 32 = 6 ∧ (1 < n ∧ b1 / 64 = 2)
  · by_cases hc : b0 % 32 * 64 + b1 % 64 ≥ 128
    · have e : decodeN n b0 b1 b2 b3 = (b0 % 32 * 64 + b1 % 64, 2) := by unfold decodeN; rw [if_neg c0, if_pos c2, if_pos hc]
      rw [e]; refine .inr (.inl ⟨rfl, ?_, ?_⟩) <;> simp only <;> omega
    · have e : decodeN n b0 b1 b2 b3 = (65533, 1) := by unfold decodeN; rw [if_neg c0, if_pos c2, if_neg hc]
      rw [e] at hg; exact absurd ⟨rfl, rfl⟩ hg
  by_cases c3 : b0 / 16 = 14 ∧ (1 < n ∧ b1 / 64 = 2) ∧ (2 < n ∧ b2 / 64 = 2)
  · by_cases hc : b0 % 16 * 4096 + b1 % 64 * 64 + b2 % 64 ≥ 2048 ∧ (b0 % 16 * 4096 + b1 % 64 * 64 + b2 % 64 < 55296 ∨ (57344 ≤ b0 % 16 * 4096 + b1 % 64 * 64 + b2 % 64 ∧ b0 % 16 * 4096 + b1 % 64 * 64 + b2 % 64 ≤ 1114111))
    · have e : decodeN n b0 b1 b2 b3 = (b0 % 16 * 4096 + b1 % 64 * 64 + b2 % 64, 3) := by unfold decodeN; rw [if_neg c0, if_neg c2, if_pos c3, if_pos hc]
      rw [e]; refine .inr (.inr (.inl ⟨rfl, ?_, ?_, ?_⟩)) <;> simp only <;> omega
    · have e : decodeN n b0 b1 b2 b3 = (65533, 1) := by unfold decodeN; rw [if_neg c0, if_neg c2, if_pos c3, if_neg hc]
      rw [e] at hg; exact absurd ⟨rfl, rfl⟩ hg
  by_cases c4 : b0 / 8 = 30 ∧ (1 < n ∧ b1 / 64 = 2) ∧ (2 < n ∧ b2 / 64 = 2) ∧ (3 < n ∧ b3 / 64 = 2)
  · by_cases hc : b0 % 8 * 262144 + b1 % 64 * 4096 + b2 % 64 * 64 + b3 % 64 ≥ 65536 ∧ (b0 % 8 * 262144 + b1 % 64 * 4096 + b2 % 64 * 64 + b3 % 64 < 55296 ∨ (57344 ≤ b0 % 8 * 262144 + b1 % 64 * 4096 + b2 % 64 * 64 + b3 % 64 ∧ b0 % 8 * 262144 + b1 % 64 * 4096 + b2 % 64 * 64 + b3 % 64 ≤ 1114111))
    · have e : decodeN n b0 b1 b2 b3 = (b0 % 8 * 262144 + b1 % 64 * 4096 + b2 % 64 * 64 + b3 % 64, 4) := by unfold decodeN; rw [if_neg c0, if_neg c2, if_neg c3, if_pos c4, if_pos hc]
      rw [e]; refine .inr (.inr (.inr ⟨rfl, ?_, ?_, ?_, ?_⟩)) <;> simp only <;> omega
    · have e : decodeN n b0 b1 b2 b3 = (65533, 1) := by unfold decodeN; rw [if_neg c0, if_neg c2, if_neg c3, if_pos c4, if_neg hc]
      rw [e] at hg; exact absurd ⟨rfl, rfl⟩ hg
  · have e : decodeN n b0 b1 b2 b3 = (65533, 1) := by unfold decodeN; rw [if_neg c0, if_neg c2, if_neg c3, if_neg c4]
    rw [e] at hg; exact absurd ⟨rfl, rfl⟩ hg

theorem ext_get (u v : ByteArray) (hs : u.size = v.size) (h : ∀ j, j < u.size → bt u j = bt v j) : u = v := by
  apply ByteArray.ext
  apply Array.ext
  · exact hs
  · intro j h1 h2
    have := h j h1
    unfold bt at this
    rw [get_lt u j h1, get_lt v j h2] at this
    exact UInt8.toNat_inj.1 this
/-- A good spot's bytes are what its rune is written as. -/
theorem enc_dec (s : ByteArray) (i : Nat) (hi : i < s.size) (hg : badB s i = false) : Utf8.encode ((rn s i : Nat) : Int) = s.extract i (i + wd s i) := by
  have hg' : ¬ (rn s i = 65533 ∧ wd s i = 1) := of_decide_eq_false hg
  have hr := wd_room s i hi
  have hw := rn_rune s i
  have hwn := widthOf_rn s i hg'
  have key := decodeN_bytes (s.size - i) (bt s i) (bt s (i + 1)) (bt s (i + 2)) (bt s (i + 3)) (bt_lt _ _) (bt_lt _ _) (bt_lt _ _) (bt_lt _ _)
  have e : decodeN (s.size - i) (bt s i) (bt s (i + 1)) (bt s (i + 2)) (bt s (i + 3)) = Utf8.decode s i := (decode_at s i).symm
  rw [e] at key
  have key := key hg'
  change (wd s i = 1 ∧ rn s i = bt s i ∧ _) ∨ (wd s i = 2 ∧ bt s i = 192 + rn s i / 64 ∧ bt s (i + 1) = 128 + rn s i % 64) ∨ (wd s i = 3 ∧ bt s i = 224 + rn s i / 4096 ∧ bt s (i + 1) = 128 + rn s i / 64 % 64 ∧ bt s (i + 2) = 128 + rn s i % 64) ∨ (wd s i = 4 ∧ bt s i = 240 + rn s i / 262144 ∧ bt s (i + 1) = 128 + rn s i / 4096 % 64 ∧ bt s (i + 2) = 128 + rn s i / 64 % 64 ∧ bt s (i + 3) = 128 + rn s i % 64) at key
  have hx : ∀ j, j < wd s i → bt (s.extract i (i + wd s i)) j = bt s (i + j) := fun j hj => by unfold bt; rw [get_extract _ _ _ _ (by omega) hr]
  have hsz : (s.extract i (i + wd s i)).size = wd s i := by rw [ByteArray.size_extract]; omega
  have b0 := bt_lt s i
  have b1 := bt_lt s (i + 1)
  have b2 := bt_lt s (i + 2)
  have b3 := bt_lt s (i + 3)
  generalize rn s i = r at *
  rcases key with ⟨k1, k2, k3⟩ | ⟨k1, k2, k3⟩ | ⟨k1, k2, k3, k4⟩ | ⟨k1, k2, k3, k4, k5⟩
  · rw [enc1 hw (by omega)]
    refine ext_get _ _ (by rw [hsz, k1]; rfl) (fun j hj => ?_)
    obtain rfl : j = 0 := by have : j < 1 := hj; omega
    rw [hx 0 (by omega), Nat.add_zero]
    show (UInt8.ofNat ((r : Int).toNat)).toNat = _
    rw [u8n _ (by omega)]; omega
  · have hlo : 128 ≤ (r : Int) ∧ (r : Int) < 2048 := by
      rw [k1] at hwn
      unfold widthOf at hwn
      repeat' split at hwn
      all_goals omega
    rw [enc2 hw hlo.1 hlo.2]
    refine ext_get _ _ (by rw [hsz, k1]; rfl) (fun j hj => ?_)
    have : j < 2 := hj
    have : j = 0 ∨ j = 1 := by omega
    rcases this with rfl | rfl
    · rw [hx 0 (by omega), Nat.add_zero]
      show (UInt8.ofNat (0xC0 + (r : Int).toNat / 64)).toNat = _
      rw [u8n _ (by omega)]; omega
    · rw [hx 1 (by omega)]
      show (UInt8.ofNat (0x80 + (r : Int).toNat % 64)).toNat = _
      rw [u8n _ (by omega)]; omega
  · have hlo : 2048 ≤ (r : Int) ∧ (r : Int) < 65536 := by
      rw [k1] at hwn
      unfold widthOf at hwn
      repeat' split at hwn
      all_goals omega
    rw [enc3 hw hlo.1 hlo.2]
    refine ext_get _ _ (by rw [hsz, k1]; rfl) (fun j hj => ?_)
    have : j < 3 := hj
    have : j = 0 ∨ j = 1 ∨ j = 2 := by omega
    rcases this with rfl | rfl | rfl
    · rw [hx 0 (by omega), Nat.add_zero]
      show (UInt8.ofNat (0xE0 + (r : Int).toNat / 4096)).toNat = _
      rw [u8n _ (by omega)]; omega
    · rw [hx 1 (by omega)]
      show (UInt8.ofNat (0x80 + (r : Int).toNat / 64 % 64)).toNat = _
      rw [u8n _ (by omega)]; omega
    · rw [hx 2 (by omega)]
      show (UInt8.ofNat (0x80 + (r : Int).toNat % 64)).toNat = _
      rw [u8n _ (by omega)]; omega
  · have hlo : 65536 ≤ (r : Int) := by
      rw [k1] at hwn
      unfold widthOf at hwn
      repeat' split at hwn
      all_goals omega
    rw [enc4 hw hlo]
    refine ext_get _ _ (by rw [hsz, k1]; rfl) (fun j hj => ?_)
    have : j < 4 := hj
    have : j = 0 ∨ j = 1 ∨ j = 2 ∨ j = 3 := by omega
    rcases this with rfl | rfl | rfl | rfl
    · rw [hx 0 (by omega), Nat.add_zero]
      show (UInt8.ofNat (0xF0 + (r : Int).toNat / 262144)).toNat = _
      rw [u8n _ (by omega)]; omega
    · rw [hx 1 (by omega)]
      show (UInt8.ofNat (0x80 + (r : Int).toNat / 4096 % 64)).toNat = _
      rw [u8n _ (by omega)]; omega
    · rw [hx 2 (by omega)]
      show (UInt8.ofNat (0x80 + (r : Int).toNat / 64 % 64)).toNat = _
      rw [u8n _ (by omega)]; omega
    · rw [hx 3 (by omega)]
      show (UInt8.ofNat (0x80 + (r : Int).toNat % 64)).toNat = _
      rw [u8n _ (by omega)]; omega

theorem clean_from (s : ByteArray) : ∀ f i, s.size ≤ i + f → i ≤ s.size → (∀ p ∈ startsFrom s f i, badB s p = false) → runesBytes ((startsFrom s f i).map (fun p => ((rn s p : Nat) : Int))) = s.extract i s.size
  | 0, i, hf, hi, h => by
    rw [show i = s.size by omega]
    simp only [startsFrom, List.map_nil]
    rw [show s.extract s.size s.size = ByteArray.empty from by apply ByteArray.ext; simp]
    rfl
  | f + 1, i, hf, hi, h => by
    by_cases hlt : i < s.size
    · have hw := wd_pos s i
      have hr := wd_room s i hlt
      rw [startsFrom_cons s f i hlt] at h ⊢
      rw [List.map_cons, runesBytes_cons, enc_dec s i hlt (h i (by simp)), clean_from s f (i + wd s i) (by omega) hr (fun p hp => h p (by simp [hp]))]
      rw [ByteArray.extract_append_extract]
      congr 1 <;> omega
    · rw [startsFrom_end s _ _ hlt, show i = s.size by omega, show s.extract s.size s.size = ByteArray.empty from by apply ByteArray.ext; simp]
      rfl
/-- A text without bad spots is its own clean text. -/
theorem clean_valid (s : ByteArray) (h : ∀ i ∈ starts s, badB s i = false) : cleanV s = s := by
  have := clean_from s s.size 0 (by omega) (by omega) h
  unfold cleanV runesL starts
  rw [this]
  exact ByteArray.extract_zero_size
theorem clean_facts (s : ByteArray) : runesL (cleanV s) = runesL s ∧ (∀ i ∈ starts (cleanV s), badB (cleanV s) i = false) ∧ cleanV (cleanV s) = cleanV s ∧ (starts (cleanV s)).length = (starts s).length := by
  obtain ⟨h1, h2⟩ := runes_back (runesL s) (runesL_runes s)
  refine ⟨h1, h2, clean_valid _ h2, ?_⟩
  rw [← runesL_length, ← runesL_length]
  exact congrArg List.length h1
end Go.Proofs.YtcnhkhjkeemafaaGreatDoor
/- Lines and columns by runes: plain mathematics. -/
namespace Go.Proofs.YtcnhkhjkeemafaaGreatDoor
open Go.RowKit Go.Shelf
set_option linter.unusedVariables false
/-- Line and column behind some runes. -/
def lcR (x : Nat × Nat) (zs : List Int) : Nat × Nat := zs.foldl (fun x z => if z = 10 then (x.1 + 1, 1) else (x.1, x.2 + 1)) x
theorem lcR_app (x : Nat × Nat) (a b : List Int) : lcR x (a ++ b) = lcR (lcR x a) b := by simp [lcR]
theorem lcR_cons (x : Nat × Nat) (z : Int) (b : List Int) : lcR x (z :: b) = lcR (if z = 10 then (x.1 + 1, 1) else (x.1, x.2 + 1)) b := rfl
theorem lcR_nil (x : Nat × Nat) : lcR x [] = x := rfl
theorem lcF_runes (t : ByteArray) : ∀ (ps : List Nat) (x : Nat × Nat), lcF t x ps = lcR x (ps.map (fun i => ((rn t i : Nat) : Int)))
  | [], x => rfl
  | p :: ps, x => by
    show lcF t (lcStep t x p) ps = _
    rw [lcF_runes t ps, List.map_cons, lcR_cons]
    unfold lcStep
    by_cases h : rn t p = 10
    · rw [if_pos h, if_pos (by omega)]
    · rw [if_neg h, if_neg (by omega)]
theorem lcF_all (t : ByteArray) (x : Nat × Nat) : lcF t x (starts t) = lcR x (runesL t) := lcF_runes t _ x
theorem lcR_line : ∀ (zs : List Int) (x : Nat × Nat), (lcR x zs).1 = x.1 + zs.count 10
  | [], x => rfl
  | z :: zs, x => by
    rw [lcR_cons, lcR_line zs]
    by_cases h : z = 10
    · rw [if_pos h, h, List.count_cons_self]; show x.1 + 1 + _ = _; omega
    · rw [if_neg h, List.count_cons_of_ne h]
theorem lcR_none : ∀ (zs : List Int) (x : Nat × Nat), (10 : Int) ∉ zs → lcR x zs = (x.1, x.2 + zs.length)
  | [], x, _ => rfl
  | z :: zs, x, h => by
    rw [List.mem_cons, not_or] at h
    rw [lcR_cons, if_neg (fun e => h.1 e.symm), lcR_none zs _ h.2, List.length_cons, Prod.mk.injEq]
    exact ⟨rfl, by show x.2 + 1 + _ = _; omega⟩
/-- What a spot's rune says of its bytes. -/
theorem rn_ten (s : ByteArray) (i : Nat) : rn s i = 10 ↔ bt s i = 10 := by
  have t := at_told s i
  constructor
  · intro h
    have hg : ¬ (rn s i = 65533 ∧ wd s i = 1) := by omega
    rcases t.width hg with h1 | h1 | h1 | h1
    · rcases t.one h1.1 with h2 | h2 <;> (simp only [rn] at h; omega)
    all_goals (simp only [rn] at h; omega)
  · intro h
    rcases Nat.lt_or_ge (wd s i) 2 with h1 | h1
    · have : wd s i = 1 := by have := wd_pos s i; omega
      rcases t.one this with h2 | h2 <;> (simp only [rn]; omega)
    · have := wd_lead s i h1; omega
theorem drop_bt (s : ByteArray) (i : Nat) (h : i < s.size) : s.data.toList.drop i = s.get! i :: s.data.toList.drop (i + 1) := by
  rw [← List.getElem_cons_drop (h := by rw [Array.length_toList]; exact h)]
  congr 1
  rw [get_lt s i h]
  simp
theorem count_step (s : ByteArray) (i : Nat) (h : i < s.size) (hn : bt s i ≠ 10) : (s.data.toList.drop i).count 10 = (s.data.toList.drop (i + 1)).count 10 := by
  rw [drop_bt s i h, List.count_cons_of_ne (fun e => hn (by unfold bt; rw [e]; rfl))]
theorem count_cont (s : ByteArray) (i : Nat) : ∀ k, (∀ j, i ≤ j → j < i + k → j < s.size ∧ bt s j ≠ 10) → (s.data.toList.drop i).count 10 = (s.data.toList.drop (i + k)).count 10
  | 0, _ => rfl
  | k + 1, h => by
    rw [count_cont s i k (fun j h1 h2 => h j h1 (by omega)), count_step s (i + k) (h _ (by omega) (by omega)).1 (h _ (by omega) (by omega)).2]
    rfl
theorem count_from (s : ByteArray) : ∀ f i, s.size ≤ i + f → (s.data.toList.drop i).count 10 = ((startsFrom s f i).map (fun i => ((rn s i : Nat) : Int))).count 10
  | 0, i, h => by
    rw [List.drop_eq_nil_of_le (by rw [Array.length_toList]; show s.size ≤ i; omega)]
    rfl
  | f + 1, i, h => by
    by_cases hi : i < s.size
    · have hp := wd_pos s i
      have hr := wd_room s i hi
      rw [startsFrom_cons s f i hi, List.map_cons]
      by_cases ht : bt s i = 10
      · have h1 : wd s i = 1 := by
          rcases Nat.lt_or_ge (wd s i) 2 with h1 | h1
          · omega
          · have := wd_lead s i h1; omega
        have e : s.get! i = 10 := by rw [← UInt8.toNat_inj]; exact ht
        rw [drop_bt s i hi, e, (rn_ten s i).2 ht, h1, List.count_cons_self, count_from s f (i + 1) (by omega)]
        exact (List.count_cons_self ..).symm
      · have hz : (10 : Int) ≠ ((rn s i : Nat) : Int) := fun e => ht ((rn_ten s i).1 (by omega))
        rw [List.count_cons_of_ne (Ne.symm hz), ← count_from s f (i + wd s i) (by omega)]
        refine count_cont s i (wd s i) (fun j h1 h2 => ⟨by omega, ?_⟩)
        by_cases hj : j = i
        · rw [hj]; exact ht
        · have := wd_cont s i (j - i) (by omega) (by omega)
          rw [show i + (j - i) = j by omega] at this
          omega
    · rw [startsFrom_end s _ _ hi, List.drop_eq_nil_of_le (by rw [Array.length_toList]; show s.size ≤ i; omega)]
      rfl
theorem count_runes (s : ByteArray) : Lib.countByte s.data.toList 10 = (runesL s).count 10 := by
  have := count_from s s.size 0 (by omega)
  rw [List.drop_zero] at this
  exact this
theorem cat_split (t : ByteArray) (p : Nat) (h : p ≤ t.size) : t.extract 0 p ++ t.extract p t.size = t := by
  rw [ByteArray.extract_append_extract, Nat.zero_min, Nat.max_eq_right h, ByteArray.extract_zero_size]
theorem runesL_split (t : ByteArray) (p : Nat) (h : p ≤ t.size) (hb : bdB t p = true) : runesL t = runesL (t.extract 0 p) ++ runesL (t.extract p t.size) := by
  have hz : (t.extract 0 p).size = p := by rw [ByteArray.size_extract]; omega
  have := runesL_both (t.extract 0 p) (t.extract p t.size) (by rw [cat_split t p h, hz]; exact hb)
  rwa [cat_split t p h] at this
theorem ext_pre (s : ByteArray) (b a : Nat) (h : a ≤ b) : (s.extract 0 b).extract 0 a = s.extract 0 a := by rw [ByteArray.extract_extract, Nat.zero_add, Nat.zero_add, Nat.min_eq_left h]
theorem ext_mid (s : ByteArray) (b a : Nat) : (s.extract 0 b).extract a b = s.extract a b := by rw [ByteArray.extract_extract, Nat.zero_add, Nat.zero_add, Nat.min_self]
theorem no_ten (t : ByteArray) (h : ∀ j, j < t.size → bt t j ≠ 10) : (10 : Int) ∉ runesL t := by
  intro hm
  unfold runesL at hm
  obtain ⟨p, hp, e⟩ := List.mem_map.1 hm
  have h1 := (startsFrom_ge t t.size 0 p hp).2
  exact h p h1 ((rn_ten t p).1 (by omega))
theorem lastNl_spec (t : ByteArray) : (lastL t = 0 ∧ ∀ j, j < t.size → bt t j ≠ 10) ∨ (1 ≤ lastL t ∧ lastL t ≤ t.size ∧ bt t (lastL t - 1) = 10 ∧ ∀ j, lastL t ≤ j → j < t.size → bt t j ≠ 10) := by
  have hget : ∀ j, ((t.data[j]!).toNat : Int) = (bt t j : Int) := fun j => rfl
  unfold lastL
  rcases Lib.lastIndexByte_spec t 10 with ⟨h, h2⟩ | ⟨i, hi, h, h2, h3⟩
  · rw [h]; exact .inl ⟨rfl, fun j hj e => h2 j hj (by rw [hget, e]; rfl)⟩
  · rw [h]
    rw [hget] at h2
    refine .inr ⟨by omega, by omega, ?_, fun j h4 hj e => h3 j (by omega) hj (by rw [hget, e]; rfl)⟩
    rw [show ((i : Int) + 1).toNat - 1 = i by omega]
    omega
theorem runes_one_ten : runesL ⟨#[10]⟩ = [10] := by decide
/-- Line and column of a text's end, counted as the program counts them. -/
theorem lc_text (t : ByteArray) : (1 + Lib.countByte t.data.toList 10, 1 + (starts (t.extract (lastL t) t.size)).length) = lcR (1, 1) (runesL t) := by
  rw [count_runes]
  rcases lastNl_spec t with ⟨h0, hn⟩ | ⟨h1, h2, h3, h4⟩
  · have hno := no_ten t hn
    rw [h0, ByteArray.extract_zero_size, lcR_none _ _ hno, List.count_eq_zero_of_not_mem hno, runesL_length]
  · have hb : bdB t (lastL t) = true := by
      have hb0 : bdB t (lastL t - 1) = true := bd_lead t _ (by omega)
      have hw : wd t (lastL t - 1) = 1 := by
        rcases Nat.lt_or_ge (wd t (lastL t - 1)) 2 with q | q
        · have := wd_pos t (lastL t - 1); omega
        · have := wd_lead t _ q; omega
      have := bd_step t (lastL t - 1) hb0 (by omega)
      rwa [hw, show lastL t - 1 + 1 = lastL t by omega] at this
    have hno : (10 : Int) ∉ runesL (t.extract (lastL t) t.size) := no_ten _ (fun j hj => by
      rw [ByteArray.size_extract] at hj
      unfold bt
      rw [get_suffix t (lastL t) j h2]
      exact h4 (lastL t + j) (by omega) (by omega))
    have e1 := runesL_split t (lastL t) h2 hb
    -- the first part ends with the byte 10
    have hb0 : bdB t (lastL t - 1) = true := bd_lead t _ (by omega)
    have e2 : runesL (t.extract 0 (lastL t)) = runesL (t.extract 0 (lastL t - 1)) ++ [10] := by
      have hz : (t.extract 0 (lastL t)).size = lastL t := by rw [ByteArray.size_extract]; omega
      have hbt : bt (t.extract 0 (lastL t)) (lastL t - 1) = 10 := by
        unfold bt
        rw [get_extract t 0 (lastL t) (lastL t - 1) (by omega) h2, Nat.zero_add]
        exact h3
      have := runesL_split (t.extract 0 (lastL t)) (lastL t - 1) (by omega) (bd_lead _ _ (by rw [hbt]; decide))
      rw [this, ext_pre t _ _ (by omega)]
      have e3 : (t.extract 0 (lastL t)).extract (lastL t - 1) (t.extract 0 (lastL t)).size = ⟨#[10]⟩ := by
        refine ext_get _ _ ?_ ?_
        · rw [ByteArray.size_extract, hz]; show _ = 1; omega
        · intro j hj
          rw [ByteArray.size_extract, hz] at hj
          unfold bt
          rw [get_suffix _ _ _ (by omega)]
          obtain rfl : j = 0 := by omega
          exact hbt
      rw [e3, runes_one_ten]
    rw [e1, List.count_append, List.count_eq_zero_of_not_mem hno, lcR_app, lcR_none _ _ hno, e2, lcR_app]
    generalize runesL (t.extract 0 (lastL t - 1)) = A
    rw [runesL_length, Prod.mk.injEq]
    refine ⟨?_, rfl⟩
    show 1 + _ = (lcR (1, 1) A).1 + 1
    rw [lcR_line, List.count_append]
    show 1 + (_ + 1 + 0) = _
    omega
/-- Line and column of a place. -/
theorem whL_runes (s : ByteArray) (k : Nat) : whL s k = lcR (1, 1) (runesL (s.extract 0 (cutAt s k))) := lc_text (aheadV s k)
/-- From a bound on. -/
theorem lcR_on (s : ByteArray) (a b : Nat) (x : Nat × Nat) (hab : a ≤ b) (hb : b ≤ s.size) (ha : bdB (s.extract 0 b) a = true) : lcR x (runesL (s.extract 0 b)) = lcR (lcR x (runesL (s.extract 0 a))) (runesL (s.extract a b)) := by
  have hz : (s.extract 0 b).size = b := by rw [ByteArray.size_extract]; omega
  rw [runesL_split (s.extract 0 b) a (by omega) ha, lcR_app, ext_pre s b a hab, hz, ext_mid s b a]
end Go.Proofs.YtcnhkhjkeemafaaGreatDoor
/- A sequence's first wrong byte: plain mathematics. -/
namespace Go.Proofs.YtcnhkhjkeemafaaGreatDoor
open Go.RowKit Go.Shelf
open Go.Lib (decode_at)
set_option linter.unusedVariables false
/-- Does the byte number k go on what the first one begins? -/
def good4 (t : ByteArray) (k : Nat) : Bool := decide (k < t.size ∧ (if k = 1 then (secOf (bt t 0)).1 else 128) ≤ bt t k ∧ bt t k ≤ (if k = 1 then (secOf (bt t 0)).2 else 191))
theorem good4_iff {t : ByteArray} {k : Nat} : good4 t k = true ↔ k < t.size ∧ (if k = 1 then (secOf (bt t 0)).1 else 128) ≤ bt t k ∧ bt t k ≤ (if k = 1 then (secOf (bt t 0)).2 else 191) := by simp [good4]
/-- What the reference reads at a text's beginning: the rune, the bytes; or how many bytes stand ahead of the first wrong one. -/
def seq4V (t : ByteArray) : Nat × Nat × Bool := if t.size = 0 then (0, 0, false) else if badB t 0 = true then (0, begLen t, false) else (rn t 0, wd t 0, true)
theorem secOf_lo (c : Nat) (hs : (secOf c).1 ≠ 0) : 128 ≤ (secOf c).1 ∧ (secOf c).2 ≤ 191 ∧ (secOf c).1 ≤ (secOf c).2 ∧ 194 ≤ c ∧ c < 245 ∧ (((secOf c).1 ≤ 128 ∧ 128 ≤ (secOf c).2) ∨ ((secOf c).1 ≤ 160 ∧ 160 ≤ (secOf c).2)) := by
  rcases secOf_cases _ hs with ⟨a, b, e⟩ | ⟨a, e⟩ | ⟨a, e⟩ | ⟨a, e⟩ | ⟨a, e⟩ | ⟨a, b, e⟩ | ⟨a, e⟩ <;> rw [e] <;> simp only [] <;> omega
theorem wdN (n b0 b1 b2 b3 : Nat) (hn : 4 ≤ n) (h1 : b1 < 256) (h2 : b2 < 256) (h3 : b3 < 256) (hs : (secOf b0).1 ≠ 0) : (Lib.decodeN n b0 b1 b2 b3).2 = if (secOf b0).1 ≤ b1 ∧ b1 ≤ (secOf b0).2 ∧ (3 ≤ szOf b0 → 128 ≤ b2 ∧ b2 ≤ 191) ∧ (4 ≤ szOf b0 → 128 ≤ b3 ∧ b3 ≤ 191) then szOf b0 else 1 := by
  rw [decodeN_slow n b0 b1 b2 b3 (by omega) h1 h2 h3 hs]
  have hz := szOf_cases b0
  generalize (secOf b0).1 = lo at *
  generalize (secOf b0).2 = hi at *
  generalize szOf b0 = z at *
  unfold Lib.slowN
  repeat' split
  all_goals first | rfl | (exfalso; omega) | (dsimp only; omega)
theorem decode_tail (u x : ByteArray) (hu : 1 ≤ u.size) (hx : x.size = 3) : wd (u ++ x) 0 = (Lib.decodeN (u.size + 3) (bt u 0) (if 1 < u.size then bt u 1 else bt x (1 - u.size)) (if 2 < u.size then bt u 2 else bt x (2 - u.size)) (if 3 < u.size then bt u 3 else bt x (3 - u.size))).2 := by
  unfold wd
  rw [decode_at]
  have hz : (u ++ x).size - 0 = u.size + 3 := by rw [ByteArray.size_append, hx]; rfl
  have hb : ∀ i, bt (u ++ x) i = if i < u.size then bt u i else bt x (i - u.size) := fun i => by
    unfold bt
    rw [get_append]
    split <;> rfl
  rw [hz]
  show (Lib.decodeN (u.size + 3) (bt (u ++ x) 0) (bt (u ++ x) (0 + 1)) (bt (u ++ x) (0 + 2)) (bt (u ++ x) (0 + 3))).2 = _
  rw [hb, hb, hb, hb, if_pos (by omega)]
theorem bt_pre (t : ByteArray) (m i : Nat) (h : i < m) (hm : m ≤ t.size) : bt (t.extract 0 m) i = bt t i := by
  unfold bt
  rw [get_extract t 0 m i (by omega) hm, Nat.zero_add]
theorem tailA_bt : ∀ i, i < 3 → bt tailA i = 128 := by decide
theorem tailB_bt : ∀ i, i < 3 → bt tailB i = if i = 0 then 160 else 128 := by decide
/-- Which beginnings can go on to a rune. -/
theorem begB_none (t : ByteArray) (m : Nat) (h1 : 1 ≤ m) (hm : m ≤ t.size) (hs : (secOf (bt t 0)).1 = 0) : begB (t.extract 0 m) = false := by
  have hz : (t.extract 0 m).size = m := by rw [ByteArray.size_extract]; omega
  have hw : ∀ x : ByteArray, x.size = 3 → wd (t.extract 0 m ++ x) 0 = 1 := fun x hx => by
    rw [decode_tail _ x (by omega) hx, bt_pre t m 0 (by omega) hm]
    by_cases hb : bt t 0 < 128
    · unfold Lib.decodeN; rw [if_pos hb]
    · rw [decodeN_none _ _ _ _ _ (by omega) (bt_lt t 0) hs]
  unfold begB
  rw [hw tailA rfl, hw tailB rfl, hz, decide_eq_false (by omega)]
  rfl
theorem wd_one (t x : ByteArray) (h : 1 ≤ t.size) (hx : x.size = 3) : wd (t.extract 0 1 ++ x) 0 = (Lib.decodeN 4 (bt t 0) (bt x 0) (bt x 1) (bt x 2)).2 := by
  have hz : (t.extract 0 1).size = 1 := by rw [ByteArray.size_extract]; omega
  rw [decode_tail _ x (by omega) hx, hz, bt_pre t 1 0 (by omega) h]
  rfl
theorem wd_two (t x : ByteArray) (h : 2 ≤ t.size) (hx : x.size = 3) : wd (t.extract 0 2 ++ x) 0 = (Lib.decodeN 5 (bt t 0) (bt t 1) (bt x 0) (bt x 1)).2 := by
  have hz : (t.extract 0 2).size = 2 := by rw [ByteArray.size_extract]; omega
  rw [decode_tail _ x (by omega) hx, hz, bt_pre t 2 0 (by omega) h, if_pos (by decide), bt_pre t 2 1 (by omega) h]
  rfl
theorem wd_three (t x : ByteArray) (h : 3 ≤ t.size) (hx : x.size = 3) : wd (t.extract 0 3 ++ x) 0 = (Lib.decodeN 6 (bt t 0) (bt t 1) (bt t 2) (bt x 0)).2 := by
  have hz : (t.extract 0 3).size = 3 := by rw [ByteArray.size_extract]; omega
  rw [decode_tail _ x (by omega) hx, hz, bt_pre t 3 0 (by omega) h, if_pos (by decide), bt_pre t 3 1 (by omega) h, if_pos (by decide), bt_pre t 3 2 (by omega) h]
  rfl
theorem begB_iff (u : ByteArray) : begB u = true ↔ u.size < wd (u ++ tailA) 0 ∨ u.size < wd (u ++ tailB) 0 := by unfold begB; simp
theorem beg_1 {lo hi z : Nat} (hz : z = 2 ∨ z = 3 ∨ z = 4) (hq : (lo ≤ 128 ∧ 128 ≤ hi) ∨ (lo ≤ 160 ∧ 160 ≤ hi)) : (1 < (if lo ≤ 128 ∧ 128 ≤ hi ∧ (3 ≤ z → 128 ≤ 128 ∧ 128 ≤ 191) ∧ (4 ≤ z → 128 ≤ 128 ∧ 128 ≤ 191) then z else 1) ∨ 1 < (if lo ≤ 160 ∧ 160 ≤ hi ∧ (3 ≤ z → 128 ≤ 128 ∧ 128 ≤ 191) ∧ (4 ≤ z → 128 ≤ 128 ∧ 128 ≤ 191) then z else 1)) := by
  rcases hq with q | q
  · left; rw [if_pos ⟨q.1, q.2, fun _ => by decide, fun _ => by decide⟩]; omega
  · right; rw [if_pos ⟨q.1, q.2, fun _ => by decide, fun _ => by decide⟩]; omega
theorem beg_2 {lo hi z b1 : Nat} (hz : z = 2 ∨ z = 3 ∨ z = 4) : (2 < (if lo ≤ b1 ∧ b1 ≤ hi ∧ (3 ≤ z → 128 ≤ 128 ∧ 128 ≤ 191) ∧ (4 ≤ z → 128 ≤ 128 ∧ 128 ≤ 191) then z else 1) ∨ 2 < (if lo ≤ b1 ∧ b1 ≤ hi ∧ (3 ≤ z → 128 ≤ 160 ∧ 160 ≤ 191) ∧ (4 ≤ z → 128 ≤ 128 ∧ 128 ≤ 191) then z else 1)) ↔ 2 < z ∧ lo ≤ b1 ∧ b1 ≤ hi := by
  constructor
  · intro h
    rcases h with h | h <;> (split at h <;> omega)
  · intro h
    left; rw [if_pos ⟨h.2.1, h.2.2, fun _ => by decide, fun _ => by decide⟩]; exact h.1
theorem beg_3 {lo hi z b1 b2 : Nat} (hz : z = 2 ∨ z = 3 ∨ z = 4) : (3 < (if lo ≤ b1 ∧ b1 ≤ hi ∧ (3 ≤ z → 128 ≤ b2 ∧ b2 ≤ 191) ∧ (4 ≤ z → 128 ≤ 128 ∧ 128 ≤ 191) then z else 1) ∨ 3 < (if lo ≤ b1 ∧ b1 ≤ hi ∧ (3 ≤ z → 128 ≤ b2 ∧ b2 ≤ 191) ∧ (4 ≤ z → 128 ≤ 160 ∧ 160 ≤ 191) then z else 1)) ↔ 3 < z ∧ (lo ≤ b1 ∧ b1 ≤ hi) ∧ 128 ≤ b2 ∧ b2 ≤ 191 := by
  constructor
  · intro h
    rcases h with h | h <;> (split at h <;> omega)
  · intro h
    left; rw [if_pos ⟨h.2.1.1, h.2.1.2, fun _ => h.2.2, fun _ => by decide⟩]; exact h.1
theorem good_1 (t : ByteArray) : good4 t 1 = true ↔ 1 < t.size ∧ (secOf (bt t 0)).1 ≤ bt t 1 ∧ bt t 1 ≤ (secOf (bt t 0)).2 := by rw [good4_iff, if_pos rfl, if_pos rfl]
theorem good_2 (t : ByteArray) : good4 t 2 = true ↔ 2 < t.size ∧ 128 ≤ bt t 2 ∧ bt t 2 ≤ 191 := by rw [good4_iff, if_neg (by decide), if_neg (by decide)]
theorem begB_one (t : ByteArray) (hm : 1 ≤ t.size) (hs : (secOf (bt t 0)).1 ≠ 0) : begB (t.extract 0 1) = true := by
  have hz : (t.extract 0 1).size = 1 := by rw [ByteArray.size_extract]; omega
  rw [begB_iff, hz, wd_one t tailA hm rfl, wd_one t tailB hm rfl, wdN 4 _ _ _ _ (by decide) (by decide) (by decide) (by decide) hs, wdN 4 _ _ _ _ (by decide) (by decide) (by decide) (by decide) hs]
  exact beg_1 (szOf_cases _) (secOf_lo _ hs).2.2.2.2.2
theorem begB_two (t : ByteArray) (hm : 2 ≤ t.size) (hs : (secOf (bt t 0)).1 ≠ 0) : begB (t.extract 0 2) = true ↔ 2 < szOf (bt t 0) ∧ (secOf (bt t 0)).1 ≤ bt t 1 ∧ bt t 1 ≤ (secOf (bt t 0)).2 := by
  have hz : (t.extract 0 2).size = 2 := by rw [ByteArray.size_extract]; omega
  rw [begB_iff, hz, wd_two t tailA hm rfl, wd_two t tailB hm rfl, wdN 5 _ _ _ _ (by decide) (bt_lt t 1) (by decide) (by decide) hs, wdN 5 _ _ _ _ (by decide) (bt_lt t 1) (by decide) (by decide) hs]
  exact beg_2 (szOf_cases _)
theorem begB_three (t : ByteArray) (hm : 3 ≤ t.size) (hs : (secOf (bt t 0)).1 ≠ 0) : begB (t.extract 0 3) = true ↔ 3 < szOf (bt t 0) ∧ ((secOf (bt t 0)).1 ≤ bt t 1 ∧ bt t 1 ≤ (secOf (bt t 0)).2) ∧ 128 ≤ bt t 2 ∧ bt t 2 ≤ 191 := by
  have hz : (t.extract 0 3).size = 3 := by rw [ByteArray.size_extract]; omega
  rw [begB_iff, hz, wd_three t tailA hm rfl, wd_three t tailB hm rfl, wdN 6 _ _ _ _ (by decide) (bt_lt t 1) (bt_lt t 2) (by decide) hs, wdN 6 _ _ _ _ (by decide) (bt_lt t 1) (bt_lt t 2) (by decide) hs]
  exact beg_3 (szOf_cases _)
theorem begB_some (t : ByteArray) (m : Nat) (h1 : 1 ≤ m) (hm : m ≤ t.size) (hs : (secOf (bt t 0)).1 ≠ 0) : begB (t.extract 0 m) = true ↔ m < szOf (bt t 0) ∧ ∀ j, 1 ≤ j → j < m → good4 t j = true := by
  have hsz := szOf_cases (bt t 0)
  rcases Nat.lt_or_ge m 4 with hm4 | hm4
  · have hm3 : m = 1 ∨ m = 2 ∨ m = 3 := by omega
    rcases hm3 with rfl | rfl | rfl
    · exact ⟨fun _ => ⟨by omega, fun j h1 h2 => by omega⟩, fun _ => begB_one t hm hs⟩
    · rw [begB_two t hm hs]
      constructor
      · intro h
        refine ⟨h.1, fun j h1 h2 => ?_⟩
        obtain rfl : j = 1 := by omega
        exact (good_1 t).2 ⟨by omega, h.2⟩
      · intro h
        exact ⟨h.1, ((good_1 t).1 (h.2 1 (by omega) (by omega))).2⟩
    · rw [begB_three t hm hs]
      constructor
      · intro h
        refine ⟨h.1, fun j h1 h2 => ?_⟩
        have : j = 1 ∨ j = 2 := by omega
        rcases this with rfl | rfl
        · exact (good_1 t).2 ⟨by omega, h.2.1⟩
        · exact (good_2 t).2 ⟨by omega, h.2.2⟩
      · intro h
        exact ⟨h.1, ((good_1 t).1 (h.2 1 (by omega) (by omega))).2, ((good_2 t).1 (h.2 2 (by omega) (by omega))).2⟩
  · have hz : (t.extract 0 m).size = m := by rw [ByteArray.size_extract]; omega
    constructor
    · intro h
      rw [begB_iff, hz] at h
      have a := wd_four (t.extract 0 m ++ tailA) 0
      have b := wd_four (t.extract 0 m ++ tailB) 0
      omega
    · intro h
      omega
theorem begLen_none (t : ByteArray) (h : 0 < t.size) (hs : (secOf (bt t 0)).1 = 0) : begLen t = 0 := by
  unfold begLen
  exact scanTo_no (begB_none t 1 (by omega) (by omega) hs)
theorem begLen_some (t : ByteArray) (hs : (secOf (bt t 0)).1 ≠ 0) (k : Nat) (h1 : 1 ≤ k) (hk : k < szOf (bt t 0)) (hg : ∀ j, 1 ≤ j → j < k → good4 t j = true) (hb : good4 t k = false) (h0 : 0 < t.size) : begLen t = k := by
  unfold begLen
  have hkt : k ≤ t.size := by
    rcases Nat.lt_or_ge 1 k with q | q
    · have := (good4_iff.1 (hg (k - 1) (by omega) (by omega))).1; omega
    · omega
  rw [scanTo_all (p := fun n => begB (t.extract 0 (n + 1))) (hi := t.size) (m := k) k 0 (by omega) hkt (fun j _ hj => (begB_some t (j + 1) (by omega) (by omega) hs).2 ⟨by omega, fun i h1 h2 => hg i h1 (by omega)⟩)]
  by_cases hlt : k < t.size
  · refine scanTo_no ?_
    rw [Bool.eq_false_iff]
    intro q
    have := (begB_some t (k + 1) (by omega) (by omega) hs).1 q
    have := this.2 k h1 (by omega)
    rw [hb] at this
    cases this
  · exact scanTo_end hlt
theorem seqV_zero {t : ByteArray} (h : 0 < t.size) (e : seqV t = (0, 0)) : badB t 0 = true := by
  unfold seqV at e
  by_cases q : rn t 0 = 65533 ∧ wd t 0 = 1
  · unfold badB; exact decide_eq_true q
  · rw [if_neg (by omega), Prod.mk.injEq] at e
    have := wd_pos t 0
    omega
theorem seqV_some {t : ByteArray} {a b : Nat} (h : 0 < t.size) (ha : a ≠ 0) (e : seqV t = ((a : Int), (b : Int))) : badB t 0 = false ∧ wd t 0 = a ∧ rn t 0 = b := by
  unfold seqV at e
  by_cases q : rn t 0 = 65533 ∧ wd t 0 = 1
  · rw [if_pos (.inr q), Prod.mk.injEq] at e
    omega
  · rw [if_neg (by omega), Prod.mk.injEq] at e
    exact ⟨by unfold badB; exact decide_eq_false q, by omega, by omega⟩
theorem seq4_end {t : ByteArray} (h : ¬ 0 < t.size) : seq4V t = (0, 0, false) := by unfold seq4V; rw [if_pos (by omega)]
theorem seq4_ascii {t : ByteArray} (h : 0 < t.size) (hb : bt t 0 < 128) : seq4V t = (bt t 0, 1, true) := by
  obtain ⟨h1, h2, h3⟩ := seqV_some (a := 1) h (by decide) (seqV_ascii t h hb)
  unfold seq4V
  rw [if_neg (by omega), if_neg (by rw [h1]; decide), h2, h3]
theorem seq4_none {t : ByteArray} (h : 0 < t.size) (hb : 128 ≤ bt t 0) (hs : (secOf (bt t 0)).1 = 0) : seq4V t = (0, 0, false) := by
  have h1 := seqV_zero h (seqV_none t h hb hs)
  unfold seq4V
  rw [if_neg (by omega), if_pos h1, begLen_none t h hs]
theorem seq4_bad {t : ByteArray} (h : 0 < t.size) (hs : (secOf (bt t 0)).1 ≠ 0) (k : Nat) (h1 : 1 ≤ k) (hk : k < szOf (bt t 0)) (hg : ∀ j, 1 ≤ j → j < k → good4 t j = true) (hb : good4 t k = false) : seq4V t = (0, k, false) := by
  have hq := secOf_lo _ hs
  have hx : t.size < 2 ∨ bt t 1 < (secOf (bt t 0)).1 ∨ (secOf (bt t 0)).2 < bt t 1 ∨ ∃ k, 1 ≤ k ∧ k < szOf (bt t 0) ∧ (t.size ≤ k ∨ bt t k < 128 ∨ 191 < bt t k) := by
    have hn : ¬ (k < t.size ∧ (if k = 1 then (secOf (bt t 0)).1 else 128) ≤ bt t k ∧ bt t k ≤ (if k = 1 then (secOf (bt t 0)).2 else 191)) := fun q => by rw [good4_iff.2 q] at hb; cases hb
    by_cases e : k = 1
    · subst e
      rw [if_pos rfl, if_pos rfl] at hn
      omega
    · rw [if_neg e, if_neg e] at hn
      exact .inr (.inr (.inr ⟨k, h1, hk, by omega⟩))
  have hz := seqV_zero h (seqV_bad t h (by omega) hs hx)
  unfold seq4V
  rw [if_neg (by omega), if_pos hz, begLen_some t hs k h1 hk hg hb h]
theorem seq4_good {t : ByteArray} (h : 0 < t.size) (hs : (secOf (bt t 0)).1 ≠ 0) (hg : ∀ j, 1 ≤ j → j < szOf (bt t 0) → good4 t j = true) : seq4V t = (accOf t (szOf (bt t 0)), szOf (bt t 0), true) := by
  have hq := secOf_lo _ hs
  have hsz := szOf_cases (bt t 0)
  have g1 := good4_iff.1 (hg 1 (by omega) (by omega))
  rw [if_pos rfl, if_pos rfl] at g1
  have hgo : Goes t (szOf (bt t 0)) := fun j h1 h2 => by
    have := good4_iff.1 (hg j h1 h2)
    by_cases e : j = 1
    · subst e; omega
    · rw [if_neg e, if_neg e] at this; exact this
  obtain ⟨q1, q2, q3⟩ := seqV_some h (by omega) (seqV_good t h (by omega) hs g1.2.1 g1.2.2 hgo)
  unfold seq4V
  rw [if_neg (by omega), if_neg (by rw [q1]; decide), q2, q3]
end Go.Proofs.YtcnhkhjkeemafaaGreatDoor
/- The reference's need and sequence. -/
namespace Go.Proofs.YtcnhkhjkeemafaaGreatDoor
open Go.RowKit Go.Shelf
set_option linter.unusedVariables false
/-- How a sequence goes on behind its first byte. -/
def needV (c : Nat) : Nat × Nat × Nat × Bool := if c < 128 then (0, 0, 0, true) else if (secOf c).1 = 0 then (0, 0, 0, false) else (szOf c - 1, (secOf c).1, (secOf c).2, true)
set_option maxRecDepth 100000 in
set_option maxHeartbeats 4000000 in
theorem need_any (c : Nat) (hc : c < 256) (w : World) : Calls Tryz.prog 58 #[.int .u8 c] w fun e w' => e = .returned (.tuple #[.int .i64 (needV c).1, .int .u8 (needV c).2.1, .int .u8 (needV c).2.2.1, .bool (needV c).2.2.2]) ∧ w' = w := by
  have hc : (c < 128 ∧ needV c = (0, 0, 0, true)) ∨ (128 ≤ c ∧ c < 194 ∧ needV c = (0, 0, 0, false)) ∨ (194 ≤ c ∧ c ≤ 223 ∧ needV c = (1, 128, 191, true)) ∨ (c = 224 ∧ needV c = (2, 160, 191, true)) ∨ (225 ≤ c ∧ c ≤ 236 ∧ needV c = (2, 128, 191, true)) ∨ (c = 237 ∧ needV c = (2, 128, 159, true)) ∨ (c = 238 ∧ needV c = (2, 128, 191, true)) ∨ (c = 239 ∧ needV c = (2, 128, 191, true)) ∨
      (c = 240 ∧ needV c = (3, 144, 191, true)) ∨ (241 ≤ c ∧ c ≤ 243 ∧ needV c = (3, 128, 191, true)) ∨ (c = 244 ∧ needV c = (3, 128, 143, true)) ∨ (245 ≤ c ∧ needV c = (0, 0, 0, false)) := by
    unfold needV secOf szOf
    repeat' split
    all_goals simp_all
    all_goals omega
  rcases hc with ⟨h, e⟩ | ⟨h, h', e⟩ | ⟨h, h', e⟩ | ⟨rfl, e⟩ | ⟨h, h', e⟩ | ⟨rfl, e⟩ | ⟨rfl, e⟩ | ⟨rfl, e⟩ | ⟨rfl, e⟩ | ⟨h, h', e⟩ | ⟨rfl, e⟩ | ⟨h, e⟩
  all_goals
    rw [e]; clear e
    go_enter Tryz.func58, Tryz.ntmps58
    go_wp2
    exact bodyPost_ret (v := .tuple #[_, _, _, _]) (by simp [results, Tryz.results58, go_sem]; first | done | exact ⟨rfl, rfl, rfl, rfl⟩) rfl ⟨rfl, rfl⟩
theorem and31 : ∀ b : Nat, b < 256 → bits BinOp.and IntKind.i32 (b : Int) 31 = ((b % 32 : Nat) : Int) := by decide +kernel
theorem and15c : ∀ b : Nat, b < 256 → bits BinOp.and IntKind.i32 (b : Int) 15 = ((b % 16 : Nat) : Int) := by decide +kernel
theorem and7c : ∀ b : Nat, b < 256 → bits BinOp.and IntKind.i32 (b : Int) 7 = ((b % 8 : Nat) : Int) := by decide +kernel
theorem and63 : ∀ b : Nat, b < 256 → bits BinOp.and IntKind.u8 (b : Int) 63 = ((b % 64 : Nat) : Int) := by decide +kernel
theorem step_add (A c : Nat) (hA : A < 33554432) (hc : c < 256) : wrap32 (wrap32 ((A : Int) * 64) + wrap32 (bits BinOp.and IntKind.u8 (c : Int) 63)) = ((A * 64 + c % 64 : Nat) : Int) := by
  rw [and63 c hc]
  unfold wrap32
  omega
abbrev seqR4 (a : Nat) (x : Nat × Nat × Bool) : Value := .tuple #[.int .i32 x.1, .int .i64 ((a + x.2.1 : Nat) : Int), .bool x.2.2]
theorem rst_bt (s : ByteArray) (a k : Nat) (h : a ≤ s.size) : bt (rst s a) k = bt s (a + k) := by unfold bt; rw [get_suffix s a k h]
set_option maxRecDepth 100000 in
set_option maxHeartbeats 4000000 in
theorem sequence_small (s : ByteArray) (hs : s.size ≤ 1099511627776) (a : Nat) (ha : a ≤ 1099511627776) (h : s.size ≤ a ∨ (a < s.size ∧ (bt s a < 128 ∨ (128 ≤ bt s a ∧ (secOf (bt s a)).1 = 0)))) (w : World) : Calls Tryz.prog 26 #[.string s, .int .i64 a] w fun e w' => e = .returned (seqR4 a (seq4V (rst s a))) ∧ w' = w := by
  rcases h with h | ⟨h, hx⟩
  · have HV := hide (seq4_end (t := rst s a) (by rw [rst_size]; omega))
    have h' : (s.size : Int) ≤ (a : Int) := by omega
    clear h
    go_enter Tryz.func26, Tryz.ntmps26
    go_wp2
    go_ret3
    exact ⟨by rw [unhide HV]; rfl, rfl⟩
  · have h' : ¬ (s.size : Int) ≤ (a : Int) := by omega
    have hl : (a : Int) < (s.size : Int) := by omega
    have hgb := bt_get s a h
    have hb0 : bt (rst s a) 0 = bt s a := rst_bt s a 0 (by omega)
    have hpos : 0 < (rst s a).size := by rw [rst_size]; omega
    have hlt := bt_lt s a
    obtain ⟨b, eb⟩ : ∃ b, (s[a]'h).toNat = b := ⟨_, rfl⟩
    rw [hgb, eb] at hx hb0 hlt
    have HC := hide (need_any b hlt)
    rcases hx with hx | ⟨hx, hs0⟩
    · have HV := hide (seq4_ascii hpos (by rw [hb0]; exact hx))
      rw [hb0] at HV
      have hn : needV b = (0, 0, 0, true) := by unfold needV; rw [if_pos hx]
      rw [hn] at HC
      clear hn hb0 hpos hgb
      go_enter Tryz.func26, Tryz.ntmps26
      go_wp2_with fail
      refine (unhide HC _).mono ?_
      rintro e w1 ⟨rfl, rfl⟩
      go_wp2_with fail
      refine wp_loop_rounds 1 ?_
      rw [rounds_succ]
      go_wp2_with fail
      go_ret3
      exact ⟨by rw [unhide HV]; rfl, rfl⟩
    · have HV := hide (seq4_none hpos (by rw [hb0]; exact hx) (by rw [hb0]; exact hs0))
      have hn : needV b = (0, 0, 0, false) := by unfold needV; rw [if_neg (by omega), if_pos hs0]
      rw [hn] at HC
      clear hn hb0 hpos hgb
      go_enter Tryz.func26, Tryz.ntmps26
      go_wp2_with fail
      refine (unhide HC _).mono ?_
      rintro e w1 ⟨rfl, rfl⟩
      go_wp2_with fail
      go_ret3
      exact ⟨by rw [unhide HV]; rfl, rfl⟩
set_option maxRecDepth 100000 in
set_option maxHeartbeats 8000000 in
theorem sequence_long (s : ByteArray) (hs : s.size ≤ 1099511627776) (a : Nat) (ha : a < s.size) (hx : (secOf (bt s a)).1 ≠ 0) (w : World) : Calls Tryz.prog 26 #[.string s, .int .i64 a] w fun e w' => e = .returned (seqR4 a (seq4V (rst s a))) ∧ w' = w := by
  have hb0 : bt (rst s a) 0 = bt s a := rst_bt s a 0 (by omega)
  have hpos : 0 < (rst s a).size := by rw [rst_size]; omega
  have hq := secOf_lo _ hx
  have hGG := seq4_good hpos (by rw [hb0]; exact hx)
  have hBB := fun k h1 h2 h3 h4 => seq4_bad hpos (by rw [hb0]; exact hx) k h1 h2 h3 h4
  have hgo : ∀ k, 1 ≤ k → good4 (rst s a) k = decide (a + k < s.size ∧ (if k = 1 then (secOf (bt s a)).1 else 128) ≤ bt s (a + k) ∧ bt s (a + k) ≤ (if k = 1 then (secOf (bt s a)).2 else 191)) := fun k hk => by
    unfold good4
    rw [hb0, rst_bt s a k (by omega)]
    congr 1
    rw [rst_size]
    apply propext
    constructor <;> intro h <;> exact ⟨by omega, h.2⟩
  have hac : ∀ k, 1 ≤ k → accOf (rst s a) (k + 1) = accOf (rst s a) k * 64 + bt s (a + k) % 64 := fun k hk => by rw [acc_step _ k hk, rst_bt s a k (by omega)]
  have ha1 : accOf (rst s a) 1 = leadOf (bt s a) := by show leadOf (bt (rst s a) 0) = _; rw [hb0]
  rw [hb0] at hGG hBB
  have hgb := bt_get s a ha
  have hlt := bt_lt s a
  have hsz : (szOf (bt s a) = 1 + 1 ∧ leadOf (bt s a) = bt s a % 32) ∨ (szOf (bt s a) = 2 + 1 ∧ leadOf (bt s a) = bt s a % 16) ∨ (szOf (bt s a) = 3 + 1 ∧ leadOf (bt s a) = bt s a % 8) := by
    unfold szOf leadOf; repeat' split
    all_goals simp
  have hnv : needV (bt s a) = (szOf (bt s a) - 1, (secOf (bt s a)).1, (secOf (bt s a)).2, true) := by unfold needV; rw [if_neg (by omega), if_neg hx]
  have HC := hide (need_any (bt s a) hlt)
  rw [hnv] at HC
  obtain ⟨lo, hlo⟩ : ∃ lo, (secOf (bt s a)).1 = lo := ⟨_, rfl⟩
  obtain ⟨hi, hhi⟩ : ∃ hi, (secOf (bt s a)).2 = hi := ⟨_, rfl⟩
  obtain ⟨z, hz⟩ : ∃ z, szOf (bt s a) = z := ⟨_, rfl⟩
  rw [hlo, hhi] at hgo hq HC
  rw [hz] at hsz HC hGG hBB
  clear hnv hb0 hpos hx hlo hhi hz
  obtain ⟨b, eb⟩ : ∃ b, (s[a]'ha).toNat = b := ⟨_, rfl⟩
  rw [hgb, eb] at hlt HC ha1 hsz
  have h' : ¬ (s.size : Int) ≤ (a : Int) := by omega
  have hl : (a : Int) < (s.size : Int) := by omega
  have HGG := hide hGG
  have HBB := hide hBB
  have HGO := hide hgo
  have HAC := hide hac
  clear hGG hBB hgo hac hgb
  have hlo2 : 128 ≤ lo ∧ lo ≤ 191 ∧ 128 ≤ hi ∧ hi ≤ 191 := by omega
  clear hq
  obtain ⟨N, rfl⟩ : ∃ N, z = N + 1 := ⟨z - 1, by omega⟩
  have hN : 1 ≤ N ∧ N ≤ 3 := by omega
  have HINI : Hz (accOf (rst s a) 1 < 32) := hide (by omega)
  simp only [Nat.add_sub_cancel] at HC
  rcases hsz with ⟨hz, hl1⟩ | ⟨hz, hl1⟩ | ⟨hz, hl1⟩
  all_goals
    rw [hl1] at ha1
    have n1 : ((N : Int) == 1) = decide (N = 1) := by cases hd : decide (N = 1) <;> simp at hd ⊢ <;> omega
    have n2 : ((N : Int) == 2) = decide (N = 2) := by cases hd : decide (N = 2) <;> simp at hd ⊢ <;> omega
    have n3 : ((N : Int) == 3) = decide (N = 3) := by cases hd : decide (N = 3) <;> simp at hd ⊢ <;> omega
    first | rw [decide_eq_true (by omega)] at n1 | rw [decide_eq_false (by omega)] at n1
    first | rw [decide_eq_true (by omega)] at n2 | rw [decide_eq_false (by omega)] at n2
    first | rw [decide_eq_true (by omega)] at n3 | rw [decide_eq_false (by omega)] at n3
    have HA1 := hide ha1
    clear hl1 ha1 hz
    go_enter Tryz.func26, Tryz.ntmps26
    go_wp2_with fail
    refine (unhide HC _).mono ?_
    rintro e w1 ⟨rfl, rfl⟩
    go_wp2_with fail
    first | rw [and31 b hlt] | rw [and15c b hlt] | rw [and7c b hlt]
    rw [← unhide HA1]
    clear HA1 HC n1 n2 n3 hlo2 eb hlt hl h'
    go_loop [8, 9, 11, 12] (fun l h r i => ∃ K L H : Nat, 1 ≤ K ∧ K ≤ N + 1 ∧ i = .int .i64 K ∧ r = .int .i32 (accOf (rst s a) K) ∧ l = .int .u8 L ∧ h = .int .u8 H ∧ Hz (L = if K = 1 then lo else 128) ∧ Hz (H = if K = 1 then hi else 191) ∧ Hz (∀ j, 1 ≤ j → j < K → good4 (rst s a) j = true) ∧ Hz (accOf (rst s a) K < bndOf K)) (fun _ _ _ i => N + 1 - (intOf i).toNat)
    case atStart => exact ⟨1, lo, hi, by omega, by omega, rfl, rfl, rfl, rfl, hide rfl, hide rfl, hide (fun j h1 h2 => by omega), HINI⟩
    case round =>
      obtain ⟨K, L, H, hK1, hK2, rfl, rfl, rfl, rfl, HL, HH, HGo, HA⟩ := hrel
      have hgK := unhide HGO K hK1
      rw [← unhide HL, ← unhide HH] at hgK
      by_cases hkn : K ≤ N
      · have hkn' : (K : Int) ≤ (N : Int) := by omega
        by_cases hks : a + K < s.size
        · have hks' : ¬ (s.size : Int) ≤ (a : Int) + (K : Int) := by omega
          have hks2 : (a : Int) + (K : Int) < (s.size : Int) := by omega
          have hgc := bt_get s (a + K) hks
          obtain ⟨c, ec⟩ : ∃ c, (s[a + K]'hks).toNat = c := ⟨_, rfl⟩
          rw [hgc, ec] at hgK
          by_cases hc1 : c < L
          · have hc1' : decide (c < L) = true := decide_eq_true hc1
            have HV := hide (unhide HBB K hK1 (by omega) (unhide HGo) (by rw [hgK]; exact decide_eq_false (by omega)))
            clear hgK hgc
            go_wp2_with fail
            go_ret3
            exact ⟨by rw [unhide HV]; rfl, rfl⟩
          · have hc1' : ¬ c < L := hc1
            by_cases hc2 : H < c
            · have hc2' : decide (H < c) = true := decide_eq_true hc2
              have HV := hide (unhide HBB K hK1 (by omega) (unhide HGo) (by rw [hgK]; exact decide_eq_false (by omega)))
              clear hgK hgc
              go_wp2_with fail
              go_ret3
              exact ⟨by rw [unhide HV]; rfl, rfl⟩
            · have hst := unhide HAC K hK1
              have hcl := bt_lt s (a + K)
              rw [hgc, ec] at hst hcl
              have hA := unhide HA
              have hgd : good4 (rst s a) K = true := by rw [hgK]; exact decide_eq_true (by omega)
              have HGD := hide hgd
              generalize accOf (rst s a) K = A at hst hA
              have HST := hide hst
              have hbs := bnd_step K A c hK1 (by omega) hA
              have HBS := hide hbs
              have hcl' : Hz (c < 256) := hide hcl
              clear hgK hgc hst HA hA hgd hbs hcl hN
              go_wp2_with fail
              go_round
              case rel =>
                refine ⟨K + 1, 128, 191, by omega, by omega, by go_num, ?_, rfl, rfl, hide (by rw [if_neg (by omega)]), hide (by rw [if_neg (by omega)]), hide (fun j h1 h2 => ?_), hide ?_⟩
                · rw [unhide HST, step_add A c (unhide HBS).1 (unhide hcl')]
                · by_cases e : j = K
                  · subst e; exact unhide HGD
                  · exact unhide HGo j h1 (by omega)
                · rw [unhide HST]; exact (unhide HBS).2
              case measure => simp [intOf]; omega
        · have hks' : (s.size : Int) ≤ (a : Int) + (K : Int) := by omega
          have HV := hide (unhide HBB K hK1 (by omega) (unhide HGo) (by rw [hgK]; exact decide_eq_false (by omega)))
          clear hgK
          go_wp2_with fail
          go_ret3
          exact ⟨by rw [unhide HV]; rfl, rfl⟩
      · have hkn' : ¬ (K : Int) ≤ (N : Int) := by omega
        have hKN : K = N + 1 := by omega
        have HV : Hz (seq4V (rst s a) = (accOf (rst s a) K, N + 1, true)) := hide (by rw [hKN]; exact unhide HGG (fun j h1 h2 => unhide HGo j h1 (by omega)))
        clear hgK hKN
        go_wp2_with fail
        go_ret3
        exact ⟨by rw [unhide HV]; rfl, rfl⟩
end Go.Proofs.YtcnhkhjkeemafaaGreatDoor
/- Lines and columns, spot by spot: plain mathematics. -/
namespace Go.Proofs.YtcnhkhjkeemafaaGreatDoor
open Go.RowKit Go.Shelf
set_option linter.unusedVariables false
theorem bd_pre (s : ByteArray) (i e : Nat) (h : bdB s i = true) (hi : i ≤ e) (he : e ≤ s.size) : bdB (s.extract 0 e) i = true := by
  rw [bd_iff] at h ⊢
  intro n h4 h1 hn
  have hz : (s.extract 0 e).size = e := by rw [ByteArray.size_extract]; omega
  by_cases hb : rn (s.extract 0 e) (i - n) = 65533 ∧ wd (s.extract 0 e) (i - n) = 1
  · omega
  · have := decode_grow (s.extract 0 e) (s.extract e s.size) (i - n) (by omega) hb
    rw [cat_split s e he] at this
    unfold wd
    rw [← this]
    exact h n h4 h1 hn
theorem runes_spot (s : ByteArray) (i : Nat) (hi : i < s.size) : runesL (s.extract i (i + wd s i)) = [((rn s i : Nat) : Int)] := by
  have hr := wd_room s i hi
  have hp := wd_pos s i
  have hz : (s.extract i (i + wd s i)).size = wd s i := by rw [ByteArray.size_extract]; omega
  have hcat : s.extract i (i + wd s i) ++ s.extract (i + wd s i) s.size = rst s i := by
    rw [ByteArray.extract_append_extract]
    congr 1 <;> omega
  have hd : Utf8.decode (rst s i) 0 = Utf8.decode s i := decode_suffix s i 0 (by omega)
  have h1 : wd (rst s i) 0 = wd s i := by unfold wd; rw [hd]
  have e := decode_part (s.extract i (i + wd s i)) (s.extract (i + wd s i) s.size) 0 (by omega) (by rw [hcat, h1, hz]; omega)
  rw [hcat, hd] at e
  have hw : wd (s.extract i (i + wd s i)) 0 = wd s i := by show (Utf8.decode _ 0).2 = _; rw [e]
  have hs : starts (s.extract i (i + wd s i)) = [0] := by
    unfold starts
    obtain ⟨m, hm⟩ : ∃ m, (s.extract i (i + wd s i)).size = m + 1 := ⟨wd s i - 1, by omega⟩
    rw [hm, startsFrom_cons _ m 0 (by omega), hw, startsFrom_end _ _ _ (by omega)]
  unfold runesL
  rw [hs]
  simp only [List.map_cons, List.map_nil]
  show [(((Utf8.decode (s.extract i (i + wd s i)) 0).1 : Nat) : Int)] = _
  rw [e]
theorem runes_snoc (s : ByteArray) (i : Nat) (h : bdB s i = true) (hi : i < s.size) : runesL (s.extract 0 (i + wd s i)) = runesL (s.extract 0 i) ++ [((rn s i : Nat) : Int)] := by
  have hr := wd_room s i hi
  have hz : (s.extract 0 (i + wd s i)).size = i + wd s i := by rw [ByteArray.size_extract]; omega
  rw [runesL_split (s.extract 0 (i + wd s i)) i (by omega) (bd_pre s i _ h (by omega) hr), hz, ext_pre s _ _ (by omega), ext_mid, runes_spot s i hi]
theorem cutAt_in (s : ByteArray) (i k : Nat) (h : bdB s i = true) (h1 : i ≤ k) (h2 : k < i + wd s i) : cutAt s k = i := by
  have a := cutAt_max s k i h1 h
  have b := cutAt_le s k
  have c := cutAt_bd s k
  by_cases e : cutAt s k = i
  · exact e
  · rw [bd_within s i (cutAt s k) (by omega) (by omega)] at c
    cases c
/-- Line and column of a place, as the reference counts them. -/
def lcAt (s : ByteArray) (i : Nat) : Nat × Nat := lcR (1, 1) (runesL (s.extract 0 i))
theorem lcAt_zero (s : ByteArray) : lcAt s 0 = (1, 1) := by
  have : s.extract 0 0 = ByteArray.empty := toList_nil _ (by rw [ByteArray.size_extract]; omega)
  unfold lcAt
  rw [this]
  rfl
theorem lcAt_step (s : ByteArray) (i : Nat) (h : bdB s i = true) (hi : i < s.size) : lcAt s (i + wd s i) = if bt s i = 10 then ((lcAt s i).1 + 1, 1) else ((lcAt s i).1, (lcAt s i).2 + 1) := by
  unfold lcAt
  rw [runes_snoc s i h hi, lcR_app, lcR_cons, lcR_nil]
  by_cases e : bt s i = 10
  · rw [if_pos e, if_pos (by have := (rn_ten s i).2 e; omega)]
  · rw [if_neg e, if_neg (fun q => e ((rn_ten s i).1 (by omega)))]
theorem whL_at (s : ByteArray) (k : Nat) : whL s k = lcAt s (cutAt s k) := whL_runes s k
theorem whL_bd (s : ByteArray) (k : Nat) (h : bdB s k = true) : whL s k = lcAt s k := by rw [whL_at, cutAt_self s k h]
/-- How far a spot reaches, by what the reference reads there. -/
theorem seq4_wd (s : ByteArray) (i : Nat) (hi : i < s.size) : (if (seq4V (rst s i)).2.2 = true then i + (seq4V (rst s i)).2.1 else i + 1) = i + wd s i := by
  have hd : Utf8.decode (rst s i) 0 = Utf8.decode s i := decode_suffix s i 0 (by omega)
  have hz := rst_size s i
  by_cases hb : badB (rst s i) 0 = true
  · have e : seq4V (rst s i) = (0, begLen (rst s i), false) := by unfold seq4V; rw [if_neg (by omega), if_pos hb]
    rw [e, if_neg (fun q => by cases q)]
    unfold badB rn wd at hb
    rw [hd] at hb
    have := of_decide_eq_true hb
    show i + 1 = i + (Utf8.decode s i).2
    omega
  · have e : seq4V (rst s i) = (rn (rst s i) 0, wd (rst s i) 0, true) := by unfold seq4V; rw [if_neg (by omega), if_neg hb]
    rw [e, if_pos rfl]
    show i + (Utf8.decode (rst s i) 0).2 = _
    rw [hd]
end Go.Proofs.YtcnhkhjkeemafaaGreatDoor
