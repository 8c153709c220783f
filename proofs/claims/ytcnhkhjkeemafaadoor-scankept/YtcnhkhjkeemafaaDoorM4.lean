/- Texts of this claim, one behind the other. -/
import Derived.Test.YtcnhkhjkeemafaaDoorM3
import Derived.Test.YtcnhkhjkeemafaaDoorShB
import Derived.Test.YtcnhkhjkeemafaaDoorM2
import Derived.Test.YtcnhkhjkeemafaaDoorShM
import Derived.Test.YtcnhkhjkeemafaaDoorRows
import Derived.LaidMore
import Derived.ProofKit
import Derived.Lib.LaidTab
import Derived.Stop.Joined
import Derived.Laws.StructEq
import Derived.Deep.QuietTactic
import Derived.Deep.AppendLies
import Derived.Deep.RegionHeld3
import Derived.Deep.RegionLaw
import Derived.Deep.RegionWith
/- Text: how a rune is written. -/
namespace Go.Proofs.YtcnhkhjkeemafaaDoor
open Go.RowKit Go.Shelf
set_option linter.unusedVariables false
theorem ex158 : Builder.Extra Tryd.prog lay158_ren := ⟨⟨by kernel_rfl, by kernel_rfl⟩, Tryd.underlying5, Tryd.isAgg5, Tryd.sizeOf5, Tryd.zeroValue5, by kernel_rfl, by kernel_rfl, by kernel_rfl, by decide⟩
theorem ex105 : Builder.Extra Tryd.prog lay105_ren := ⟨⟨by kernel_rfl, by kernel_rfl⟩, Tryd.underlying5, Tryd.isAgg5, Tryd.sizeOf5, Tryd.zeroValue5, by kernel_rfl, by kernel_rfl, by kernel_rfl, by decide⟩
theorem upper_sh (s : ByteArray) (w : World) (h : s.size ≤ 140737488355328) (ha : ∀ (j : Nat) (b : UInt8), s.data.toList[j]? = some b → b.toNat < 128) : Calls Tryd.prog 37 #[.string s] w fun e w' => e = .returned (.string ⟨(Lib.toUpperA s.data.toList).toArray⟩) ∧ Below w.heap.size w w' := Any.strings_ToUpper_ascii lay158 ex158 s w h ha
theorem repeat_sh (s : ByteArray) (c : Nat) (w : World) (hc : c ≤ 9223372036854775807) (h : s.size * c ≤ 140737488355328) : Calls Tryd.prog 39 #[.string s, .int .i64 c] w fun e w' => e = .returned (.string ⟨(Lib.repeatL s.data.toList c).toArray⟩) ∧ Below w.heap.size w w' := Any.strings_Repeat lay105 ex105 s c w hc h
theorem hexL_ascii : ∀ (n : Nat) (b : UInt8), b ∈ hexL n → b.toNat < 128 := by
  intro n
  induction n using Nat.strongRecOn with
  | _ n ih =>
    intro b hb
    have hd : ∀ d, d < 16 → (digC d).toNat < 128 := by decide
    by_cases h : n < 16
    · rw [hexL_small h] at hb
      rw [List.mem_singleton.1 hb]
      exact hd n h
    · rw [hexL_step (by omega)] at hb
      rcases List.mem_append.1 hb with hb | hb
      · exact ih (n / 16) (by omega) b hb
      · rw [List.mem_singleton.1 hb]
        exact hd _ (Nat.mod_lt _ (by decide))
theorem hexL_length : ∀ (k n : Nat), n < 16 ^ (k + 1) → 1 ≤ (hexL n).length ∧ (hexL n).length ≤ k + 1
  | 0, n, h => by rw [hexL_small (by simpa using h)]; simp
  | k + 1, n, h => by
    by_cases hs : n < 16
    · rw [hexL_small hs]; simp
    · rw [hexL_step (by omega), List.length_append]
      have := hexL_length k (n / 16) (by rw [Nat.div_lt_iff_lt_mul (by decide)]; rw [Nat.pow_succ] at h; exact h)
      simp
      omega
/-- The digits, upper case. -/
def upS (n : Nat) : ByteArray := ⟨(Lib.toUpperA (hexL n)).toArray⟩
theorem upS_size (n : Nat) (h : n < 4294967296) : 1 ≤ (upS n).size ∧ (upS n).size ≤ 8 := by
  have h1 := hexL_length 7 n (by omega)
  have e : (upS n).size = (hexL n).length := by
    show (Lib.toUpperA (hexL n)).toArray.size = _
    simp [Lib.toUpperA]
  omega
theorem enc_ascii : ∀ k : Nat, k < 128 → (Utf8.encode (k : Int)).size = 1 := by decide +kernel
theorem rep_size : ∀ c : Nat, c ≤ 4 → (⟨(Lib.repeatL [48] c).toArray⟩ : ByteArray).size = c := by decide +kernel
/-- How a rune is written. -/
def textV (r : Int) : ByteArray × Int :=
  if widthOf r = 0 then (⟨#[]⟩, 12) else if 33 ≤ r ∧ r ≤ 126 ∧ r ≠ 39 then (⟨#[39]⟩ ++ Utf8.encode r ++ ⟨#[39]⟩, 0)
  else (⟨#[85, 43]⟩ ++ ⟨(Lib.repeatL [48] (4 - (upS r.toNat).size)).toArray⟩ ++ upS r.toNat, 0)
theorem width_bound (r : Int) (h : widthOf r ≠ 0) : 0 ≤ r ∧ r ≤ 1114111 := by
  unfold widthOf at h
  repeat' split at h
  all_goals first | omega | (exfalso; exact h rfl)
set_option maxRecDepth 100000 in
set_option maxHeartbeats 4000000 in
theorem text_scan (r : Int) (w : World) (hT : w.cell? ⟨6, 15, none⟩ = some (.int .u8 4)) : Calls Tryd.prog 16 #[.int .i32 r] w fun e w' => e = .returned (.tuple #[.string (textV r).1, .int .i64 (textV r).2]) ∧ Below w.heap.size w w' := by
  by_cases h0 : widthOf r = 0
  · have hv : textV r = (⟨#[]⟩, 12) := by unfold textV; rw [if_pos h0]
    rw [hv]
    have h0' : (widthOf r == 0) = true := by simpa using h0
    clear hv h0
    go_enter Tryd.func16, Tryd.ntmps16
    go_wp2_with fail
    refine (width_any r _).mono ?_
    rintro e w1 ⟨rfl, rfl⟩
    go_wp2_with fail
    go_ret2
    exact ⟨rfl, Below.refl _ _⟩
  · have hb := width_bound r h0
    have h0' : (widthOf r == 0) = false := by simpa using h0
    by_cases hq : 33 ≤ r ∧ r ≤ 126 ∧ r ≠ 39
    · have hv : textV r = (⟨#[39]⟩ ++ Utf8.encode r ++ ⟨#[39]⟩, 0) := by unfold textV; rw [if_neg h0, if_pos hq]
      obtain ⟨q1, q2, q3⟩ := hq
      have q3' : (r != 39) = true := by simpa using q3
      have HV := hide hv
      clear hv h0 q3
      go_enter Tryd.func16, Tryd.ntmps16
      go_wp2_with fail
      refine (width_any r _).mono ?_
      rintro e w1 ⟨rfl, rfl⟩
      have hes : (Utf8.encode r).size = 1 := by
        have := enc_ascii r.toNat (by omega)
        rwa [Int.toNat_of_nonneg hb.1] at this
      have hs1 : ((⟨#[39]⟩ : ByteArray) ++ Utf8.encode r).size = 2 := by rw [ByteArray.size_append, hes]; rfl
      go_wp2_with fail
      go_ret2
      exact ⟨by rw [unhide HV]; rfl, Below.refl _ _⟩
    · obtain ⟨n, rfl⟩ : ∃ n : Nat, r = n := ⟨r.toNat, by omega⟩
      have hn : n < 2147483648 := by omega
      have hv : textV (n : Int) = (⟨#[85, 43]⟩ ++ ⟨(Lib.repeatL [48] (4 - (upS n).size)).toArray⟩ ++ upS n, 0) := by unfold textV; rw [if_neg h0, if_neg hq, Int.toNat_natCast]
      have hz := upS_size n (by omega)
      have hHs : (⟨(hexL n).toArray⟩ : ByteArray).size ≤ 140737488355328 := by
        have h1 := hexL_length 7 n (by omega)
        show (hexL n).toArray.size ≤ _
        simp
        omega
      have hfm := fmt16 n hn w hT
      have hup := fun w' => upper_sh ⟨(hexL n).toArray⟩ w' hHs (fun j b hj => hexL_ascii n b (List.mem_of_getElem? (by simpa using hj)))
      obtain ⟨u, hu⟩ : ∃ u, u = upS n := ⟨_, rfl⟩
      have hup2 : ∀ w', Calls Tryd.prog 37 #[.string ⟨(hexL n).toArray⟩] w' fun e w2 => e = .returned (.string u) ∧ Below w'.heap.size w' w2 := fun w' => by rw [hu]; exact hup w'
      rw [← hu] at hv hz
      have hrp := fun w' => repeat_sh ⟨#[48]⟩ (4 - u.size) w' (by omega) (by show 1 * _ ≤ _; omega)
      have HV := hide hv
      have HF := hide hfm
      have HU := hide hup2
      have HP := hide hrp
      have hmx : max ((4 : Int) - (u.size : Int)) 0 = ((4 - u.size : Nat) : Int) := by omega
      have hub : (u.size : Int) ≤ 8 := by omega
      have hnb : (n : Int) ≤ 1114111 := by omega
      have hcase : (¬ (33 : Int) ≤ n) ∨ ((33 : Int) ≤ n ∧ ¬ (n : Int) ≤ 126) ∨ ((33 : Int) ≤ n ∧ (n : Int) ≤ 126 ∧ ((n : Int) != 39) = false) := by
        by_cases c1 : (33 : Int) ≤ n
        · by_cases c2 : (n : Int) ≤ 126
          · exact .inr (.inr ⟨c1, c2, by simpa using fun c3 => hq ⟨c1, c2, c3⟩⟩)
          · exact .inr (.inl ⟨c1, c2⟩)
        · exact .inl c1
      clear hv hfm hup hup2 hrp hu h0 hq hHs hb hT
      rcases hcase with c1 | ⟨c1, c2⟩ | ⟨c1, c2, c3⟩
      all_goals
        go_enter Tryd.func16, Tryd.ntmps16
        go_wp2_with fail
        refine (width_any n _).mono ?_
        rintro e w1 ⟨rfl, rfl⟩
        go_wp2_with fail
        refine (unhide HF).mono ?_
        rintro e w2 ⟨rfl, hb2⟩
        go_wp2_with fail
        refine (unhide HU _).mono ?_
        rintro e w3 ⟨rfl, hb3⟩
        have HB3 := hide (hb2.trans (hb3.mono hb2.size))
        clear hb2 hb3
        go_wp2_with fail
        try rw [hmx]
        refine (unhide HP _).mono ?_
        rintro e w4 ⟨rfl, hb4⟩
        have hrs := rep_size (4 - u.size) (by omega)
        have hs2 : ((⟨#[85, 43]⟩ : ByteArray) ++ ⟨(Lib.repeatL [48] (4 - u.size)).toArray⟩).size ≤ 6 := by rw [ByteArray.size_append, hrs]; show 2 + _ ≤ _; omega
        have hrs2 : (⟨(Lib.repeatL [48] (4 - u.size)).toArray⟩ : ByteArray).size ≤ 4 := by omega
        clear hrs
        generalize (⟨(Lib.repeatL [48] (4 - u.size)).toArray⟩ : ByteArray) = rp at *
        have HB4 := hide ((unhide HB3).trans (hb4.mono (unhide HB3).size))
        clear hb4
        go_wp2_with fail
        go_ret2
        exact ⟨by rw [unhide HV]; rfl, unhide HB4⟩
end Go.Proofs.YtcnhkhjkeemafaaDoor
/- Legal: is a text a name? -/
namespace Go.Proofs.YtcnhkhjkeemafaaDoor
open Go.RowKit Go.Shelf
set_option linter.unusedVariables false
def legalB (s : ByteArray) : Bool := decide (0 < s.size ∧ nameLen s = s.size)
theorem legal_any (s : ByteArray) (hs : s.size ≤ maxLen) (w : World) : Calls Tryd.prog 17 #[.string s] w fun e w' => e = .returned (.bool (legalB s)) ∧ w' = w := by
  by_cases h0 : 0 < s.size
  · have hne := toList_ne s h0
    have hne' : (s.toList != []) = true := by simpa using hne
    have hv : legalB s = ((nameLen s : Int) == (s.size : Int)) := by
      unfold legalB
      rw [Bool.eq_iff_iff]
      simp [h0]
      omega
    have HV := hide hv
    have HN := hide (named_any s hs)
    have hm : s.size ≤ 9223372036854775807 := by unfold maxLen at hs; exact hs
    clear hv
    go_enter Tryd.func17, Tryd.ntmps17
    go_wp2_with fail
    refine (unhide HN _).mono ?_
    rintro e w1 ⟨rfl, rfl⟩
    go_wp2_with fail
    go_ret
    refine ⟨?_, rfl⟩
    show Ending.returned (.bool (!s.toList.isEmpty && ((nameLen s : Int) == (s.size : Int)))) = _
    rw [unhide HV, show s.toList.isEmpty = false by simpa using hne]
    rfl
  · obtain rfl := toList_nil s (by omega)
    have hv : legalB ByteArray.empty = false := by unfold legalB; simp
    rw [hv]
    go_enter Tryd.func17, Tryd.ntmps17
    go_wp2_with fail
    go_ret
    exact ⟨rfl, rfl⟩
end Go.Proofs.YtcnhkhjkeemafaaDoor
/- known: what the document says of some small texts. -/
namespace Go.Proofs.YtcnhkhjkeemafaaDoor
open Go.RowKit Go.Shelf
set_option linter.unusedVariables false
abbrev knA : ByteArray := ⟨#[102, 111, 108, 100, 32, 39, 65, 39, 32, 61, 32, 85, 43, 48, 48, 54, 49, 59]⟩
abbrev knB : ByteArray := ⟨#[39, 195, 169]⟩
abbrev knC : ByteArray := ⟨#[39, 195, 169, 39]⟩
theorem knA_ok : (wordsV knA).ok = true := by kernel_rfl
theorem knA_len : (wordsV knA).ws.length = 5 := by kernel_rfl
theorem knA_10 : (encWs (wordsV knA).ws)[10]? = some (.int .i32 65) := by kernel_rfl
theorem knA_26 : (encWs (wordsV knA).ws)[26]? = some (.int .i32 97) := by kernel_rfl
theorem knA_28 : (encWs (wordsV knA).ws)[28]? = some (.int .i64 11) := by kernel_rfl
theorem knA_29 : (encWs (wordsV knA).ws)[29]? = some (.int .i64 1) := by kernel_rfl
theorem knA_30 : (encWs (wordsV knA).ws)[30]? = some (.int .i64 12) := by kernel_rfl
theorem knB_ok : (wordsV knB).ok = false := by kernel_rfl
theorem knB_b : (wordsV knB).b = 3 := by kernel_rfl
theorem knB_wh : whL knB 3 = (1, 3) := by kernel_rfl
theorem knC_wh : whL knC 2 = (1, 2) := by kernel_rfl
theorem tx97 : textV 97 = (⟨#[39, 97, 39]⟩, 0) := by kernel_rfl
theorem tx233 : textV 233 = (⟨#[85, 43, 48, 48, 69, 57]⟩, 0) := by kernel_rfl
theorem lg1 : legalB ⟨#[97, 45, 57]⟩ = true := by kernel_rfl
theorem lg2 : legalB ⟨#[65]⟩ = false := by kernel_rfl
/-- What the walks lean on: the length's bound, the table. -/
structure Env (m : Int) (w : World) : Prop where
  max : w.cell? ⟨0, 0, none⟩ = some (.int .i64 m)
  tab : w.cell? ⟨6, 15, none⟩ = some (.int .u8 4)
theorem Env.below {m : Int} {w w' : World} {B : Nat} (h : Env m w) (hb : Below B w w') (hB : w.heap.size ≤ B) : Env m w' :=
  ⟨(hb.cell (p := ⟨0, 0, none⟩) (Nat.lt_of_lt_of_le (cell_lt h.max) hB)).trans h.max, (hb.cell (p := ⟨6, 15, none⟩) (Nat.lt_of_lt_of_le (cell_lt h.tab) hB)).trans h.tab⟩
theorem own_words {W : World} {lo E sz n : Nat} {v : Value} {xs : List Value} (h : W.ownsRow lo E sz v n xs) (hn : 0 < n) : ∃ g cap, v = .slice (some ⟨g, 0, none⟩) n cap ∧ g < W.heap.size ∧ ∀ (k : Nat) (u : Value), xs[k]? = some u → W.cell? ⟨g, k, none⟩ = some u := by
  rcases h.2 with ⟨rfl, h0⟩ | ⟨g, cap, cur, rfl, _, hh, _⟩
  · omega
  · refine ⟨g, cap, rfl, (Array.getElem?_eq_some_iff.1 hh).1, fun k u hk => ?_⟩
    have := h.cells (g := g) rfl k u hk
    rwa [show (⟨g, 0, none⟩ : Addr).add k = ⟨g, k, none⟩ by unfold Addr.add; split <;> simp_all] at this
set_option maxRecDepth 100000 in
set_option maxHeartbeats 8000000 in
theorem known_any (m : Int) (w : World) (hE : Env m w) : Calls Tryd.prog 8 #[] w fun e w' => e = .returned (.bool true) ∧ Below w.heap.size w w' := by
  have HE := hide hE
  have hz := cell_lt hE.max
  clear hE
  go_enter Tryd.func8, Tryd.ntmps8
  go_wp2_with fail
  refine (words_yes knA (by decide) knA_ok m _ (unhide HE).max hz).mono ?_
  rintro e w1 ⟨v, rfl, hown, hb⟩
  rw [knA_len] at hown
  obtain ⟨g, cap, rfl, hg, hcell⟩ := own_words hown (by decide)
  have hal := (Below.refl w1.heap.size w1).alloc (Nat.le_refl _) (.cells #[.int .i64 0, .int .i64 0, .int .i64 0] 25)
  have HB1 := hide (hb.trans (hal.mono hb.size))
  have HA := hide (Blk.new w1 #[.int .i64 0, .int .i64 0, .int .i64 0] 25)
  have HC := hide (And.intro (hcell 10 _ knA_10) (And.intro (hcell 26 _ knA_26) (And.intro (hcell 28 _ knA_28) (And.intro (hcell 29 _ knA_29) (hcell 30 _ knA_30)))))
  have HE1 := hide ((unhide HE).below (unhide HB1) (Nat.le_refl _))
  have HG := hide hg
  have hz1 := cell_lt (unhide HE1).max
  clear hb hal hown hcell hg HE hz
  go_wp2_with fail
  refine (words_no knB (by decide) knB_ok (by rw [knB_b]; decide) m _ (unhide HE1).max hz1).mono ?_
  rintro e w2 ⟨rfl, hb⟩
  rw [knB_b, knB_wh, show (if 3 < knB.size then (20 : Int) else 21) = 21 from rfl]
  have hal := (Below.refl w2.heap.size w2).alloc (Nat.le_refl _) (.cells #[.int .i64 3, .int .i64 1, .int .i64 3] 25)
  have hbb := hb.trans (hal.mono hb.size)
  have HB2 := hide ((unhide HB1).trans (hbb.mono (unhide HB1).size))
  have HB := hide (Blk.new w2 #[.int .i64 3, .int .i64 1, .int .i64 3] 25)
  have HA2 := hide ((unhide HA).below hbb (unhide HA).lt)
  have HE2 := hide ((unhide HE1).below hbb (Nat.le_refl _))
  have hgc : ∀ k, (w2.alloc (.cells #[.int .i64 3, .int .i64 1, .int .i64 3] 25)).cell? ⟨g, k, none⟩ = w1.cell? ⟨g, k, none⟩ := fun k => (hbb.cell (p := ⟨g, k, none⟩) (by have := unhide HG; simp; omega)).trans (Below.cell (p := ⟨g, k, none⟩) ((Below.refl w1.heap.size w1).alloc (Nat.le_refl _) _) (unhide HG))
  have HC2 := hide (And.intro ((hgc 10).trans (unhide HC).1) (And.intro ((hgc 26).trans (unhide HC).2.1) (And.intro ((hgc 28).trans (unhide HC).2.2.1) (And.intro ((hgc 29).trans (unhide HC).2.2.2.1) ((hgc 30).trans (unhide HC).2.2.2.2)))))
  have hg2 : g < (w2.alloc (.cells #[.int .i64 3, .int .i64 1, .int .i64 3] 25)).heap.size := by have := unhide HG; have := hbb.size; simp at this ⊢; omega
  have HG2 := hide hg2
  clear hb hal hbb hgc hg2 HB1 HA HE1 HC HG hz1
  go_wp2_with fail
  refine (text_scan 97 _ (unhide HE2).tab).mono ?_
  rintro e w3 ⟨rfl, hb⟩
  rw [tx97]
  have HB3 := hide ((unhide HB2).trans (hb.mono (unhide HB2).size))
  have HBb := hide ((unhide HB).below hb (unhide HB).lt)
  have HA3 := hide ((unhide HA2).below hb (unhide HA2).lt)
  have HE3 := hide ((unhide HE2).below hb (Nat.le_refl _))
  have hgc : ∀ k, w3.cell? ⟨g, k, none⟩ = (w2.alloc (.cells #[.int .i64 3, .int .i64 1, .int .i64 3] 25)).cell? ⟨g, k, none⟩ := fun k => hb.cell (p := ⟨g, k, none⟩) (unhide HG2)
  have HC3 := hide (And.intro ((hgc 10).trans (unhide HC2).1) (And.intro ((hgc 26).trans (unhide HC2).2.1) (And.intro ((hgc 28).trans (unhide HC2).2.2.1) (And.intro ((hgc 29).trans (unhide HC2).2.2.2.1) ((hgc 30).trans (unhide HC2).2.2.2.2)))))
  have hg3 : g < w3.heap.size := by have := unhide HG2; have := hb.size; omega
  have HG3 := hide hg3
  clear hb hgc hg3 HB2 HB HA2 HE2 HC2 HG2
  go_wp2_with fail
  refine (text_scan 233 _ (unhide HE3).tab).mono ?_
  rintro e w4 ⟨rfl, hb⟩
  rw [tx233]
  have HB4 := hide ((unhide HB3).trans (hb.mono (unhide HB3).size))
  have HBc := hide ((unhide HBb).below hb (unhide HBb).lt)
  have HA4 := hide ((unhide HA3).below hb (unhide HA3).lt)
  have hgc : ∀ k, w4.cell? ⟨g, k, none⟩ = w3.cell? ⟨g, k, none⟩ := fun k => hb.cell (p := ⟨g, k, none⟩) (unhide HG3)
  have c10 := (hgc 10).trans (unhide HC3).1
  have c26 := (hgc 26).trans (unhide HC3).2.1
  have c28 := (hgc 28).trans (unhide HC3).2.2.1
  have c29 := (hgc 29).trans (unhide HC3).2.2.2.1
  have c30 := (hgc 30).trans (unhide HC3).2.2.2.2
  have a0 := (unhide HA4).cell 0
  have a1 := (unhide HA4).cell 1
  have a2 := (unhide HA4).cell 2
  have b0 := (unhide HBc).cell 0
  have b1 := (unhide HBc).cell 1
  have b2 := (unhide HBc).cell 2
  clear hb hgc HB3 HBb HA3 HC3 HG3
  go_wp2_with fail
  refine (legal_any ⟨#[97, 45, 57]⟩ (by decide) _).mono ?_
  rintro e w5 ⟨rfl, rfl⟩
  rw [lg1]
  go_wp2_with fail
  refine (legal_any ⟨#[65]⟩ (by decide) _).mono ?_
  rintro e w6 ⟨rfl, rfl⟩
  rw [lg2]
  go_wp2_with fail
  refine (show Calls Tryd.prog 14 #[.string knC, .int .i64 2] _ _ from where_in knC (by decide) 2 (by decide) _).mono ?_
  rintro e w7 ⟨rfl, hb⟩
  rw [knC_wh]
  have HB5 := hide ((unhide HB4).trans (hb.mono (unhide HB4).size))
  clear hb
  go_wp2_with fail
  go_ret
  exact ⟨rfl, unhide HB5⟩
end Go.Proofs.YtcnhkhjkeemafaaDoor
/- What a row's first world gives the walks. -/
namespace Go.Proofs.YtcnhkhjkeemafaaDoor
open Go.ChangeShapes Go.WideShapes Go.ChangeAt Go.RowKit
set_option linter.unusedVariables false
def tab64 : List Int := [0, 1, 56, 2, 57, 49, 28, 3, 61, 58, 42, 50, 38, 29, 17, 4, 62, 47, 59, 36, 45, 43, 51, 22, 53, 39, 33, 30, 24, 18, 12, 5, 63, 55, 48, 27, 60, 41, 37, 16, 46, 35, 44, 21, 52, 32, 23, 11, 54, 26, 40, 15, 34, 20, 31, 10, 25, 14, 19, 9, 13, 8, 7, 6]
theorem laid64 : (Rows.laid_math_bits_deBruijn64tab : DataW Unit) = Lib.tabData .u8 tab64 := by kernel_rfl
theorem gTab : Tryd.prog.globalNamed "math/bits.deBruijn64tab" = some 6 := by kernel_rfl
theorem gTabT : (Tryd.prog.globals[6]?).map (·.type) = some 149 := by kernel_rfl
theorem cellsT : Tryd.prog.cellsOf 149 = 64 := by kernel_rfl
theorem cells5 : Tryd.prog.cellsOf 5 = 1 := by kernel_rfl
theorem env_of {rest : List (String × DataW Unit)} {n0 : String} {d0 : DataW Unit} {W : World} (h : laidMet Tryd.prog ((n0, d0) :: ("math/bits.deBruijn64tab", Rows.laid_math_bits_deBruijn64tab) :: rest) W) (hS : World.ShapedOpen Tryd.prog W) : ∃ m, Env m W := by
  obtain ⟨m, hm⟩ := layM145.s1_3 W hS
  obtain ⟨ps, ⟨g0, t0, cs0, f0, p0, q0, hg0, ht0, hv0, hd0, ⟨g1, t1, cs1, f1, p1, q1, hg1, ht1, hv1, hd1, _⟩, _⟩, _⟩ := h
  obtain rfl := Option.some.inj (gTab.symm.trans hg1)
  obtain rfl := Option.some.inj (gTabT.symm.trans ht1)
  rw [laid64] at hd1
  have hc := Lib.cells_of_tab Tryd.underlying149 Tryd.underlying5 cells5 cellsT hd1
  refine ⟨m, hm, ?_⟩
  have := World.var?_cell hg1 hv1 15
  rw [this, ← Array.getElem?_toList, hc]
  rfl
end Go.Proofs.YtcnhkhjkeemafaaDoor
/- Words as elements of lists; Same of the books at lists of words. -/
namespace Go.Proofs.YtcnhkhjkeemafaaDoor
open Go.RowKit Go.Shelf
set_option linter.unusedVariables false
/-- A word, with its eight parts. -/
structure W8 where
  k : Int
  S : ByteArray
  r : Int
  n : Int
  b : Int
  l : Int
  c : Int
  e : Int
def w8Cells (x : W8) : List Value := [.int .i64 x.k, .string x.S, .int .i32 x.r, .int .i64 x.n, .int .i64 x.b, .int .i64 x.l, .int .i64 x.c, .int .i64 x.e]
def encW (zs : List W8) : List Value := zs.flatMap w8Cells
theorem encW_cons (x : W8) (zs : List W8) : encW (x :: zs) = w8Cells x ++ encW zs := rfl
theorem encW_length (zs : List W8) : (encW zs).length = zs.length * 8 := by
  induction zs with
  | nil => rfl
  | cons x zs ih => rw [encW_cons, List.length_append, ih, List.length_cons]; show 8 + _ = _; omega
theorem encW_at (zs : List W8) (j : Nat) (x : W8) (h : zs[j]? = some x) : ∀ i u, (w8Cells x)[i]? = some u → (encW zs)[j * 8 + i]? = some u := by
  induction zs generalizing j with
  | nil => simp at h
  | cons y zs ih =>
    intro i u hu
    have hi : i < 8 := (List.getElem?_eq_some_iff.1 hu).1
    cases j with
    | zero =>
      obtain rfl : y = x := by simpa using h
      rw [encW_cons, Nat.zero_mul, Nat.zero_add, List.getElem?_append_left (by exact hi)]
      exact hu
    | succ j =>
      have h' : zs[j]? = some x := by simpa using h
      rw [encW_cons, List.getElem?_append_right (by show 8 ≤ _; omega), show (j + 1) * 8 + i - (w8Cells y).length = j * 8 + i by show (j + 1) * 8 + i - 8 = _; omega]
      exact ih j h' i u hu
theorem encW_one (zs : List W8) : ∀ u ∈ encW zs, u.oneCell' = true := by
  induction zs with
  | nil => intro u hu; cases hu
  | cons x zs ih =>
    intro u hu
    rw [encW_cons] at hu
    rcases List.mem_append.1 hu with hu | hu
    · simp only [w8Cells, List.mem_cons, List.not_mem_nil, or_false] at hu
      rcases hu with rfl | rfl | rfl | rfl | rfl | rfl | rfl | rfl <;> rfl
    · exact ih u hu
/-- The words that the cutter makes, as elements. -/
def w8 (x : Wd) : W8 := ⟨x.v.kind, x.v.S, x.v.R, x.v.N, x.b, x.l, x.c, x.e⟩
theorem encW_ws (ws : List Wd) : encW (ws.map w8) = encWs ws := by
  unfold encW encWs
  rw [List.flatMap_map]
  rfl
def RowW (W : World) (a : Option Addr) (zs : List W8) : Prop := 0 < zs.length → ∃ g, a = some ⟨g, 0, none⟩ ∧ g < W.heap.size ∧ ∀ j x, zs[j]? = some x → ∀ i u, (w8Cells x)[i]? = some u → W.cell? ⟨g, j * 8 + i, none⟩ = some u
theorem own_rowW {W : World} {base n : Nat} {v : Value} {zs : List W8} (h : W.ownsRow base 34 8 v n (encW zs)) : ∃ a c, v = .slice a zs.length c ∧ RowW W a zs ∧ n = zs.length ∧ zs.length ≤ c := by
  obtain ⟨hl, h⟩ := h
  rw [encW_length] at hl
  have hn : n = zs.length := by omega
  subst hn
  rcases h with ⟨rfl, h0⟩ | ⟨g, cap, cur, rfl, hb, hg, h1, h2, h3, h4⟩
  · exact ⟨none, 0, by rw [h0], fun h => by omega, rfl, by omega⟩
  · refine ⟨_, cap, rfl, fun h0 => ⟨g, rfl, (Array.getElem?_eq_some_iff.1 hg).1, fun j x hj i u hu => ?_⟩, rfl, h1⟩
    have hbk : Blk W g cur 34 := hg
    have e := encW_at zs j x hj i u hu
    rw [← h4] at e
    have hjl := (List.getElem?_eq_some_iff.1 hj).1
    have hil : i < 8 := (List.getElem?_eq_some_iff.1 hu).1
    rw [List.getElem?_take, if_pos (by omega)] at e
    rw [Blk.cell hbk]
    simpa using e
theorem below_drewNW {B : Nat} {a w : World} (h : Below B a w) (n : Nat) : Below B a (w.drewN n) := h.trans ⟨rfl, rfl, rfl, Nat.le_refl _, fun _ _ => rfl⟩
set_option maxRecDepth 100000 in
set_option maxHeartbeats 2000000 in
theorem sameW_row (a b : Option Addr) (ca cb : Nat) (zs : List W8) (hz : zs.length ≤ 9223372036854775807) (w : World) (ha : RowW w a zs) (hb : RowW w b zs) :
    Calls Tryd.prog 19 #[.slice a zs.length ca, .slice b zs.length cb] w fun e w' => e = .returned (.bool true) ∧ Below w.heap.size w w' := by
  have HA := hide ha
  have HB := hide hb
  clear ha hb
  have hne : (((zs.length : Nat) : Int) != ((zs.length : Nat) : Int)) = false := by simp
  go_enter Tryd.func19, Tryd.ntmps19
  go_wp2
  go_loopw [5] (fun i wr => ∃ k : Nat, k ≤ zs.length ∧ i = .int .i64 k ∧ ∃ q, wr = w.drewN q) (fun i _ => zs.length - (intOf i).toNat)
  case atStart => exact ⟨0, by omega, rfl, 0, rfl⟩
  case round =>
    obtain ⟨k, hk, rfl, q, rfl⟩ := hrel
    by_cases hkn : k < zs.length
    · obtain ⟨x, hx⟩ : ∃ x, zs[k]? = some x := ⟨_, List.getElem?_eq_getElem hkn⟩
      obtain ⟨g, rfl, _, hc⟩ := unhide HA (by omega)
      obtain ⟨h, rfl, _, hd⟩ := unhide HB (by omega)
      have hc' := hc k x hx
      have hd' := hd k x hx
      have hk1 : (k : Int) < (zs.length : Int) := by omega
      have hk2 : ((k : Nat) : Int).toNat = k := by omega
      obtain ⟨x0, x1, x2, x3, x4, x5, x6, x7⟩ := x
      have c0 := hc' 0 (.int .i64 x0) rfl
      have c1 := hc' 1 (.string x1) rfl
      have c2 := hc' 2 (.int .i32 x2) rfl
      have c3 := hc' 3 (.int .i64 x3) rfl
      have c4 := hc' 4 (.int .i64 x4) rfl
      have c5 := hc' 5 (.int .i64 x5) rfl
      have c6 := hc' 6 (.int .i64 x6) rfl
      have c7 := hc' 7 (.int .i64 x7) rfl
      have d0 := hd' 0 (.int .i64 x0) rfl
      have d1 := hd' 1 (.string x1) rfl
      have d2 := hd' 2 (.int .i32 x2) rfl
      have d3 := hd' 3 (.int .i64 x3) rfl
      have d4 := hd' 4 (.int .i64 x4) rfl
      have d5 := hd' 5 (.int .i64 x5) rfl
      have d6 := hd' 6 (.int .i64 x6) rfl
      have d7 := hd' 7 (.int .i64 x7) rfl
      rw [Nat.add_zero] at c0 d0
      have e0 : (x0 == x0) = true := by simp
      have e1 : (x1.toList == x1.toList) = true := by simp
      have e2 : (x2 == x2) = true := by simp
      have e3 : (x3 == x3) = true := by simp
      have e4 : (x4 == x4) = true := by simp
      have e5 : (x5 == x5) = true := by simp
      have e6 : (x6 == x6) = true := by simp
      have e7 : (x7 == x7) = true := by simp
      clear hc hd hx hc' hd'
      go_wp2
      go_quiet (fail)
      go_wp2
      go_roundw
      case rel => exact ⟨k + 1, by omega, by go_num, _, rfl⟩
      case measure => simp [intOf]; omega
    · have hk1 : ¬ (k : Int) < (zs.length : Int) := by omega
      go_wp2
      go_ret
      exact ⟨rfl, below_drewNW (Below.refl _ _) _⟩
end Go.Proofs.YtcnhkhjkeemafaaDoor
/- The book of memory at lists of words: how it lies, and what each of its steps makes of it. -/
namespace Go.Proofs.YtcnhkhjkeemafaaDoor
open Go.RowKit Go.Shelf
set_option linter.unusedVariables false

/-- What is kept while a book is written: every block but the book's own and those of its two lists of lists. -/
def KeepsW (B lo : Nat) (W W' : World) : Prop := (∀ b cur t, Blk W b cur t → t ≠ 23 → b ≠ B → Blk W' b cur t) ∧ Below lo W W'
theorem KeepsW.refl (B lo : Nat) (W : World) : KeepsW B lo W W := ⟨fun _ _ _ h _ _ => h, Below.refl _ _⟩
theorem KeepsW.trans {B lo : Nat} {W W1 W2 : World} (h : KeepsW B lo W W1) (k : KeepsW B lo W1 W2) : KeepsW B lo W W2 := ⟨fun b cur t hb h1 h2 => k.1 b cur t (h.1 b cur t hb h1 h2) h1 h2, h.2.trans k.2⟩
theorem KeepsW.alloc {B lo : Nat} {W W1 : World} (h : KeepsW B lo W W1) (hl : lo ≤ W1.heap.size) (o : Obj) : KeepsW B lo W (W1.alloc o) := ⟨fun b cur t hb h1 h2 => (h.1 b cur t hb h1 h2).alloc o, h.2.alloc hl o⟩
theorem KeepsW.drew {B lo : Nat} {W W1 : World} (h : KeepsW B lo W W1) : KeepsW B lo W W1.drew := ⟨h.1, h.2.drew⟩
theorem KeepsW.below {B lo : Nat} {W W1 W2 : World} (h : KeepsW B lo W W1) (hl : lo ≤ W1.heap.size) (k : Below W1.heap.size W1 W2) : KeepsW B lo W W2 := ⟨fun b cur t hb h1 h2 => have q := h.1 b cur t hb h1 h2; q.below k q.lt, h.2.trans (k.mono hl)⟩
theorem KeepsW.set {B lo : Nat} {W W1 : World} (h : KeepsW B lo W W1) (hl : lo ≤ B) (i : Nat) (v : Value) : KeepsW B lo W (W1.setCell ⟨B, i, none⟩ v) := ⟨fun b cur t hb h1 h2 => (h.1 b cur t hb h1 h2).other h2 v, h.2.setCell (p := ⟨B, i, none⟩) hl v⟩
theorem KeepsW.sl {B lo : Nat} {W W1 W2 : World} {v : Value} {us : List Value} (h : KeepsW B lo W W1) (hs : SlAt W1 lo 23 v us) (hl : lo ≤ W1.heap.size) (hg : W1.grownBy W2 v.ownBlock) : KeepsW B lo W W2 :=
  ⟨fun b cur t hb h1 h2 => have q := h.1 b cur t hb h1 h2; q.kept hg (hs.blk_ne q h1), h.2.grown hg hl (fun k hk => (hs.lt k hk).1)⟩
theorem KeepsW.own {B lo : Nat} {W W' : World} (h : KeepsW B lo W W') {c : Array Value} (hB : Blk W B c 40) {base n : Nat} {v : Value} {xs : List Value} (hr : W.ownsRow base 34 8 v n xs) : W'.ownsRow base 34 8 v n xs := by
  refine ⟨hr.1, ?_⟩
  rcases hr.2 with hn | ⟨g, cap, cur, rfl, h1, h2, rest⟩
  · exact .inl hn
  · refine .inr ⟨g, cap, cur, rfl, h1, h.1 g cur _ h2 (by decide) (fun e => ?_), rest⟩
    subst e
    have := (show W.heap[g]? = _ from hB).symm.trans h2
    simp at this

/-- The book in memory: its two lists of lists. -/
structure BkW (W : World) (B lo : Nat) (vs cs : List Value) (lv wv : Value) (h : Int) : Prop where
  blk : Blk W B #[lv, wv, .int .i64 h, .bool false] 40
  ls : SlAt W lo 23 lv vs
  ws : SlAt W lo 23 wv cs
  ap : lv.ownBlock = none ∨ lv.ownBlock ≠ wv.ownBlock
  lo_le : lo ≤ B

section
variable {W W2 : World} {B lo : Nat} {vs cs : List Value} {lv wv : Value} {h : Int}
theorem BkW.alloc (b : BkW W B lo vs cs lv wv h) (o : Obj) : BkW (W.alloc o) B lo vs cs lv wv h := ⟨b.blk.alloc o, b.ls.alloc o, b.ws.alloc o, b.ap, b.lo_le⟩
theorem BkW.below (b : BkW W B lo vs cs lv wv h) (k : Below W.heap.size W W2) : BkW W2 B lo vs cs lv wv h :=
  ⟨b.blk.below k b.blk.lt, b.ls.kept (grown_of_below k) (by cases lv.ownBlock <;> simp), b.ws.kept (grown_of_below k) (by cases wv.ownBlock <;> simp), b.ap, b.lo_le⟩
theorem BkW.drew (b : BkW W B lo vs cs lv wv h) : BkW W.drew B lo vs cs lv wv h := ⟨b.blk, b.ls, b.ws, b.ap, b.lo_le⟩
/-- What is appended to the lists. -/
theorem BkW.app1 (b : BkW W B lo vs cs lv wv h) {u : Value} {g o n cap : Nat} (hs : SlAt W2 lo 23 (.slice (some ⟨g, o, none⟩) n cap) (vs ++ [u])) (hg : W.grownBy W2 lv.ownBlock) (hat : lv.ownBlock = some g ∨ W.heap.size ≤ g) :
    Blk W2 B #[lv, wv, .int .i64 h, .bool false] 40 ∧ BkW (W2.setCell ⟨B, 0, none⟩ (.slice (some ⟨g, o, none⟩) n cap)) B lo (vs ++ [u]) cs (.slice (some ⟨g, o, none⟩) n cap) wv h := by
  have kB := b.blk.kept hg (b.ls.blk_ne b.blk (by decide))
  have kw := b.ws.kept hg (apart_symm' b.ap)
  refine ⟨kB, kB.set 0 _, hs.set kB (by decide) _, kw.set kB (by decide) _, ?_, b.lo_le⟩
  refine .inr fun e => ?_
  rcases hat with ha | ha
  · rcases b.ap with hb | hb
    · rw [hb] at ha; cases ha
    · exact hb (ha.trans e)
  · have := (b.ws.lt g e.symm).2
    omega
theorem BkW.app2 (b : BkW W B lo vs cs lv wv h) {u : Value} {g o n cap : Nat} (hs : SlAt W2 lo 23 (.slice (some ⟨g, o, none⟩) n cap) (cs ++ [u])) (hg : W.grownBy W2 wv.ownBlock) (hat : wv.ownBlock = some g ∨ W.heap.size ≤ g) :
    Blk W2 B #[lv, wv, .int .i64 h, .bool false] 40 ∧ BkW (W2.setCell ⟨B, 1, none⟩ (.slice (some ⟨g, o, none⟩) n cap)) B lo vs (cs ++ [u]) lv (.slice (some ⟨g, o, none⟩) n cap) h := by
  have kB := b.blk.kept hg (b.ws.blk_ne b.blk (by decide))
  have kl := b.ls.kept hg b.ap
  refine ⟨kB, kB.set 1 _, kl.set kB (by decide) _, hs.set kB (by decide) _, ?_, b.lo_le⟩
  cases hl : lv.ownBlock with
  | none => exact .inl rfl
  | some x =>
    refine .inr fun e => ?_
    have e' : x = g := by simpa [Value.ownBlock] using e
    subst e'
    rcases hat with ha | ha
    · rcases b.ap with hb | hb
      · rw [hb] at hl; cases hl
      · exact hb (hl.trans ha.symm)
    · have := (b.ls.lt x hl).2
      omega
theorem BkW.held (b : BkW W B lo vs cs lv wv h) (h' : Int) : BkW (W.setCell ⟨B, 2, none⟩ (.int .i64 h')) B lo vs cs lv wv h' :=
  ⟨b.blk.set 2 _, b.ls.set b.blk (by decide) _, b.ws.set b.blk (by decide) _, b.ap, b.lo_le⟩
theorem BkW.good (b : BkW W B lo vs cs lv wv h) : BkW (W.setCell ⟨B, 3, none⟩ (.bool false)) B lo vs cs lv wv h :=
  ⟨b.blk.set 3 _, b.ls.set b.blk (by decide) _, b.ws.set b.blk (by decide) _, b.ap, b.lo_le⟩
theorem BkW.tail1 {g o n cap : Nat} {u : Value} {us : List Value} (b : BkW W B lo (u :: us) cs (.slice (some ⟨g, o, none⟩) n cap) wv h) : BkW (W.setCell ⟨B, 0, none⟩ (.slice (some ⟨g, o + 1, none⟩) us.length (cap - 1))) B lo us cs (.slice (some ⟨g, o + 1, none⟩) us.length (cap - 1)) wv h :=
  ⟨b.blk.set 0 _, b.ls.tail.set b.blk (by decide) _, b.ws.set b.blk (by decide) _, by simpa [Value.ownBlock] using b.ap, b.lo_le⟩
theorem BkW.tail2 {g o n cap : Nat} {u : Value} {us : List Value} (b : BkW W B lo vs (u :: us) lv (.slice (some ⟨g, o, none⟩) n cap) h) : BkW (W.setCell ⟨B, 1, none⟩ (.slice (some ⟨g, o + 1, none⟩) us.length (cap - 1))) B lo vs us lv (.slice (some ⟨g, o + 1, none⟩) us.length (cap - 1)) h :=
  ⟨b.blk.set 1 _, b.ls.set b.blk (by decide) _, b.ws.tail.set b.blk (by decide) _, by simpa [Value.ownBlock] using b.ap, b.lo_le⟩
end

/-- A list that is kept, its copy, and what both hold. -/
structure ItW where
  v : Value
  c : Value
  zs : List W8
def OkW (W : World) (lo : Nat) (it : ItW) : Prop := W.ownsRow lo 34 8 it.v it.zs.length (encW it.zs) ∧ W.ownsRow lo 34 8 it.c it.zs.length (encW it.zs)
/-- The book with its lists. -/
structure BookW (W : World) (B lo : Nat) (its : List ItW) (lv wv : Value) (h : Int) : Prop where
  bk : BkW W B lo (its.map ItW.v) (its.map ItW.c) lv wv h
  own : ∀ it ∈ its, OkW W lo it
  dis : its.Pairwise (fun a b => a.v.ownBlock = none ∨ a.v.ownBlock ≠ b.v.ownBlock)
theorem OkW.kept {W W' : World} {B lo : Nat} {it : ItW} (h : OkW W lo it) (k : KeepsW B lo W W') {c : Array Value} (hB : Blk W B c 40) : OkW W' lo it := ⟨k.own hB h.1, k.own hB h.2⟩
theorem BookW.below {W W' : World} {B lo : Nat} {its : List ItW} {lv wv : Value} {h : Int} (b : BookW W B lo its lv wv h) (hl : lo ≤ W.heap.size) (k : Below W.heap.size W W') : BookW W' B lo its lv wv h :=
  ⟨b.bk.below k, fun it hi => (b.own it hi).kept ((KeepsW.refl B lo W).below hl k) b.bk.blk, b.dis⟩
end Go.Proofs.YtcnhkhjkeemafaaDoor
/- The book's Same at lists of words. -/
namespace Go.Proofs.YtcnhkhjkeemafaaDoor
open Go.RowKit Go.Shelf
set_option linter.unusedVariables false
theorem own_lstW {W : World} {lo : Nat} {v : Value} {zs : List W8} (h : W.ownsRow lo 34 8 v zs.length (encW zs)) : ∃ a cap, v = .slice a zs.length cap ∧ RowW W a zs ∧ zs.length ≤ cap ∧ cap ≤ maxLen := by
  obtain ⟨a, c, rfl, hr, _, hc⟩ := own_rowW h
  refine ⟨a, c, rfl, hr, hc, ?_⟩
  rcases h.2 with ⟨e, _⟩ | ⟨g, cap, cur, e, _, _, _, h2, _⟩
  · injection e with _ _ e3; rw [e3]; simp
  · injection e with _ _ e3; rw [e3]; exact h2
theorem same_ownW (lo : Nat) (v c : Value) (zs : List W8) (w : World) (hv : w.ownsRow lo 34 8 v zs.length (encW zs)) (hc : w.ownsRow lo 34 8 c zs.length (encW zs)) :
    Calls Tryd.prog 19 #[v, c] w fun e w' => e = .returned (.bool true) ∧ Below w.heap.size w w' := by
  obtain ⟨a, ca, rfl, ha, h1, h2⟩ := own_lstW hv
  obtain ⟨b, cb, rfl, hb, _, _⟩ := own_lstW hc
  exact sameW_row a b ca cb zs (by unfold maxLen at h2; omega) w ha hb
end Go.Proofs.YtcnhkhjkeemafaaDoor
/- The book's Keep at lists of words: what is handed in is kept beside a copy; older ones may be looked at and let go. -/
namespace Go.Proofs.YtcnhkhjkeemafaaDoor
open Go.RowKit Go.Shelf
set_option linter.unusedVariables false

theorem infoLW : (Tryd.prog.info? 23).map (fun i => (i.zero, i.size, i.bytes)) = some (some (.slice none 0 0), 1, 24) := by kernel_rfl
theorem infoEW : (Tryd.prog.info? 34).map (fun i => (i.zero, i.size, i.bytes)) = some (some (.agg #[.int .i64 0, .string ⟨#[]⟩, .int .i32 0, .int .i64 0, .int .i64 0, .int .i64 0, .int .i64 0, .int .i64 0]), 8, 72) := by kernel_rfl

/-- The list is laid behind the others. -/
theorem app1W {W W2 : World} {B lo : Nat} {vs cs : List Value} {lv wv u : Value} {h : Int} {g o cap : Nat} {tmp : Obj} (b : BkW W B lo vs cs lv wv h) (hs : SlAt W2 lo 23 (.slice (some ⟨g, o, none⟩) (vs.length + 1) cap) (vs ++ [u])) (hg : (W.alloc tmp).grownBy W2 lv.ownBlock) (hat : lv.ownBlock = some g ∨ W.heap.size + 1 ≤ g) (hlo : lo ≤ W.heap.size) :
    Blk W2 B #[lv, wv, .int .i64 h, .bool false] 40 ∧ BkW (W2.setCell ⟨B, 0, none⟩ (.slice (some ⟨g, o, none⟩) (vs.length + 1) cap)) B lo (vs ++ [u]) cs (.slice (some ⟨g, o, none⟩) (vs.length + 1) cap) wv h ∧ KeepsW B lo W (W2.setCell ⟨B, 0, none⟩ (.slice (some ⟨g, o, none⟩) (vs.length + 1) cap)) := by
  obtain ⟨h1, h2⟩ := (b.alloc tmp).app1 hs hg (by simpa using hat)
  exact ⟨h1, h2, (((KeepsW.refl B lo W).alloc hlo tmp).sl (b.alloc tmp).ls (by simp; omega) hg).set b.lo_le 0 _⟩

theorem midW {W w1 : World} {B lo : Nat} {vs cs : List Value} {lv wv : Value} {h : Int} (b : BkW W B lo vs cs lv wv h) (hg : W.drew.grownBy w1 none) : BkW w1 B lo vs cs lv wv h := by
  have hg' : W.grownBy w1 none := ⟨hg.os, hg.tape, hg.output, hg.size, hg.block⟩
  exact ⟨b.blk.kept hg' (by simp), b.ls.kept hg' (by cases lv.ownBlock <;> simp), b.ws.kept hg' (by cases wv.ownBlock <;> simp), b.ap, b.lo_le⟩
theorem midkeepsW {W w1 : World} {B lo : Nat} (hlo : lo ≤ W.heap.size) (hg : W.drew.grownBy w1 none) : KeepsW B lo W w1 := by
  have hg' : W.grownBy w1 none := ⟨hg.os, hg.tape, hg.output, hg.size, hg.block⟩
  exact ⟨fun b cur t hb _ _ => hb.kept hg' (by simp), (Below.refl lo W).grown hg' hlo (fun k e => by cases e)⟩
theorem midownW {W w1 : World} {lo base n : Nat} {v : Value} {xs : List Value} (hg : W.drew.grownBy w1 none) (h : W.ownsRow base 34 8 v n xs) : w1.ownsRow base 34 8 v n xs :=
  h.kept (row := none) ⟨hg.os, hg.tape, hg.output, hg.size, hg.block⟩ (by cases v.ownBlock <;> simp)
/-- The copy is laid behind the others. -/
theorem app2W {W W2 : World} {B lo : Nat} {vs cs : List Value} {lv wv u : Value} {h : Int} {g o cap : Nat} {tmp : Obj} (b : BkW W B lo vs cs lv wv h) (hs : SlAt W2 lo 23 (.slice (some ⟨g, o, none⟩) (cs.length + 1) cap) (cs ++ [u])) (hg : (W.alloc tmp).grownBy W2 wv.ownBlock) (hat : wv.ownBlock = some g ∨ W.heap.size + 1 ≤ g) (hlo : lo ≤ W.heap.size) :
    Blk W2 B #[lv, wv, .int .i64 h, .bool false] 40 ∧ BkW (W2.setCell ⟨B, 1, none⟩ (.slice (some ⟨g, o, none⟩) (cs.length + 1) cap)) B lo vs (cs ++ [u]) lv (.slice (some ⟨g, o, none⟩) (cs.length + 1) cap) h ∧ KeepsW B lo W (W2.setCell ⟨B, 1, none⟩ (.slice (some ⟨g, o, none⟩) (cs.length + 1) cap)) := by
  obtain ⟨h1, h2⟩ := (b.alloc tmp).app2 hs hg (by simpa using hat)
  exact ⟨h1, h2, (((KeepsW.refl B lo W).alloc hlo tmp).sl (b.alloc tmp).ws (by simp; omega) hg).set b.lo_le 1 _⟩

/-- How long the list is that a cell holds. -/
def lenAt (W : World) (p : Addr) : Nat := match W.cell? p with
  | some (.slice _ n _) => n
  | _ => 0
theorem book_startW {W W' : World} {B lo : Nat} {its : List ItW} {lv wv lv' wv' : Value} {h h' : Int} {vs cs : List Value} {v c : Value} {zs : List W8} (b : BookW W B lo its lv wv h) (hvs : vs = its.map ItW.v) (hcs : cs = its.map ItW.c)
    (hdis : ∀ it ∈ its, it.v.ownBlock = none ∨ it.v.ownBlock ≠ v.ownBlock) (hrow : W.ownsRow lo 34 8 v zs.length (encW zs)) (hc : W'.ownsRow lo 34 8 c zs.length (encW zs))
    (hb : BkW W' B lo (vs ++ [v]) (cs ++ [c]) lv' wv' h') (hk : KeepsW B lo W W') : BookW W' B lo (its ++ [⟨v, c, zs⟩]) lv' wv' h' := by
  subst hvs
  subst hcs
  refine ⟨by simpa using hb, fun it hi => ?_, ?_⟩
  · rcases List.mem_append.1 hi with hi | hi
    · exact (b.own it hi).kept hk b.bk.blk
    · simp at hi
      subst hi
      exact ⟨hk.own b.bk.blk hrow, hc⟩
  · rw [List.pairwise_append]
    refine ⟨b.dis, by simp, fun x hx y hy => ?_⟩
    simp at hy
    subst hy
    exact hdis x hx

theorem keep_cellsW {wr w' : World} {B lo : Nat} {vs cs : List Value} {lv wv u x : Value} {h : Int} {p q : Addr} (b : BkW wr B lo vs cs lv wv h) (hb : Below wr.drew.heap.size wr.drew w') (hp : wr.cell? p = some u) (hq : wr.cell? q = some x) :
    w'.cell? ⟨B, 0, none⟩ = some lv ∧ w'.cell? ⟨B, 1, none⟩ = some wv ∧ w'.cell? ⟨B, 3, none⟩ = some (.bool false) ∧ w'.frozen? ⟨B, 3, none⟩ = false ∧ w'.cell? p = some u ∧ w'.cell? q = some x := by
  have hb' : Below wr.heap.size wr w' := ⟨hb.os, hb.tape, hb.output, hb.size, hb.block⟩
  have k := b.below hb'
  exact ⟨k.blk.cell 0, k.blk.cell 1, k.blk.cell 3, k.blk.frozen 3, (hb'.cell (cell_lt hp)).trans hp, (hb'.cell (cell_lt hq)).trans hq⟩

theorem SlAt.at {W : World} {lo : Nat} {E : TypeId} {g o n cap : Nat} {us : List Value} (h : SlAt W lo E (.slice (some ⟨g, o, none⟩) n cap) us) (j : Nat) {u : Value} (hj : us[j]? = some u) : W.cell? ⟨g, o + j, none⟩ = some u := by
  obtain ⟨g', o', cap', e, _, _, hc⟩ := h.form (by have := (List.getElem?_eq_some_iff.1 hj).1; omega)
  cases e
  exact hc j u hj
theorem keep_goodW {wr w' : World} {B lo : Nat} {vs cs : List Value} {lv wv : Value} {h : Int} (b : BkW wr B lo vs cs lv wv h) (hlo : lo ≤ wr.heap.size) (hb : Below wr.drew.heap.size wr.drew w') : BkW (w'.setCell ⟨B, 3, none⟩ (.bool false)) B lo vs cs lv wv h ∧ KeepsW B lo wr (w'.setCell ⟨B, 3, none⟩ (.bool false)) := by
  have hb' : Below wr.heap.size wr w' := ⟨hb.os, hb.tape, hb.output, hb.size, hb.block⟩
  exact ⟨(b.below hb').good, ((KeepsW.refl B lo wr).below hlo hb').set b.lo_le 3 _⟩

theorem keep_endW {W wr Wh : World} {B lo : Nat} {it : ItW} {t : List ItW} {lv wv : Value} {h h'' : Int} {gl ol cl gw ow cw n m : Nat} (b : BookW wr B lo (it :: t) lv wv h) (hk : KeepsW B lo W wr)
    (b5 : BkW Wh B lo ((it :: t).map ItW.v) ((it :: t).map ItW.c) (.slice (some ⟨gl, ol, none⟩) n cl) (.slice (some ⟨gw, ow, none⟩) m cw) h'') (k6 : KeepsW B lo wr Wh) :
    BookW ((Wh.setCell ⟨B, 0, none⟩ (.slice (some ⟨gl, ol + 1, none⟩) t.length (cl - 1))).setCell ⟨B, 1, none⟩ (.slice (some ⟨gw, ow + 1, none⟩) t.length (cw - 1))) B lo t (.slice (some ⟨gl, ol + 1, none⟩) t.length (cl - 1)) (.slice (some ⟨gw, ow + 1, none⟩) t.length (cw - 1)) h'' ∧
    KeepsW B lo W ((Wh.setCell ⟨B, 0, none⟩ (.slice (some ⟨gl, ol + 1, none⟩) t.length (cl - 1))).setCell ⟨B, 1, none⟩ (.slice (some ⟨gw, ow + 1, none⟩) t.length (cw - 1))) ∧
    lenAt ((Wh.setCell ⟨B, 0, none⟩ (.slice (some ⟨gl, ol + 1, none⟩) t.length (cl - 1))).setCell ⟨B, 1, none⟩ (.slice (some ⟨gw, ow + 1, none⟩) t.length (cw - 1))) ⟨B, 0, none⟩ = t.length := by
  have b6 := b5.tail1
  have b7 := b6.tail2
  simp only [List.length_map] at b6 b7
  have kk := (k6.set b5.lo_le 0 (.slice (some ⟨gl, ol + 1, none⟩) t.length (cl - 1))).set b5.lo_le 1 (.slice (some ⟨gw, ow + 1, none⟩) t.length (cw - 1))
  refine ⟨⟨b7, fun x hx => (b.own x (by simp [hx])).kept kk b.bk.blk, (List.pairwise_cons.1 b.dis).2⟩, hk.trans kk, ?_⟩
  unfold lenAt
  rw [b7.blk.cell 0]
  rfl

set_option maxRecDepth 100000 in
set_option maxHeartbeats 4000000 in
theorem keep_someW (W : World) (B lo : Nat) (its : List ItW) (lv wv : Value) (h : Int) (gv cap : Nat) (zs : List W8) (hn : 0 < zs.length) (hdis : ∀ it ∈ its, it.v.ownBlock = none ∨ it.v.ownBlock ≠ Value.ownBlock (.slice (some ⟨gv, 0, none⟩) zs.length cap)) (hrow : W.ownsRow lo 34 8 (.slice (some ⟨gv, 0, none⟩) zs.length cap) zs.length (encW zs)) (hby : zs.length * 72 ≤ 140737488355328) (hmx : zs.length ≤ maxLen) (b : BookW W B lo its lv wv h) (hlo : lo ≤ W.heap.size) (hl : its.length ≤ 1000) : Calls Tryd.prog 11 #[.pointer (some ⟨B, 0, none⟩), .slice (some ⟨gv, 0, none⟩) zs.length cap] W fun e W' => (∃ r, e = .returned r) ∧ (∃ t lv' wv' h', t ≠ [] ∧ (∀ it ∈ t, it ∈ its ∨ it.v = .slice (some ⟨gv, 0, none⟩) zs.length cap) ∧ t.length ≤ its.length + 1 ∧ BookW W' B lo t lv' wv' h') ∧ KeepsW B lo W W' := by
  obtain ⟨vs, hvs⟩ : ∃ vs, vs = its.map ItW.v := ⟨_, rfl⟩
  obtain ⟨cs, hcs⟩ : ∃ cs, cs = its.map ItW.c := ⟨_, rfl⟩
  have hlv : vs.length ≤ 1000 := by rw [hvs, List.length_map]; exact hl
  have hl2 : cs.length ≤ 1000 := by rw [hcs, List.length_map]; exact hl
  have HBOOK := hide b
  have b := b.bk
  rw [← hvs, ← hcs] at b
  have HVS := hide hvs
  have HCS := hide hcs
  clear hvs hcs
  have c0 := b.blk.cell 0
  have c1 := b.blk.cell 1
  have f0 := b.blk.frozen 0
  have HBK := hide b
  clear b
  obtain ⟨i0, hi, hz0, hz1, hz2⟩ := info_parts infoLW
  have HI := hide (And.intro hi (And.intro hz0 (And.intro hz1 hz2)))
  clear hi hz0 hz1 hz2
  go_enter Tryd.func11, Tryd.ntmps11
  go_wp2_with (at_builtin; refine wpList_append_sl _ rfl _ _ 38 rfl lo 23 i0 (.slice none 0 0) 24 Tryd.underlying38 (unhide HI).1 (unhide HI).2.1 (unhide HI).2.2.1 (unhide HI).2.2.2 rfl lv vs rfl ((unhide HBK).ls.alloc _) ⟨W.heap.size, 0, none⟩ 1 (.slice (some ⟨gv, 0, none⟩) zs.length cap) rfl ((Blk.new W _ 23).cell 0) rfl (by unfold maxLen; omega) (by omega) (by simp; omega) ?_)
  intro g o cap' W2 hs hg hat
  obtain ⟨hB1, hbk1, hk1⟩ := app1W (unhide HBK) hs hg hat hlo
  have d0 := hB1.cell 0
  have d1 := hB1.frozen 0
  have HK1 := hide hk1
  have HB1 := hide hbk1
  clear hs hg hat hB1 hk1 hbk1 c0 c1 f0
  obtain ⟨iE, hi, hz0, hz1, hz2⟩ := info_parts infoEW
  have HIE := hide (And.intro hi (And.intro hz0 (And.intro hz1 hz2)))
  have hrow1 := (unhide HK1).own (unhide HBK).blk hrow
  have HROW0 := hide hrow
  have hlo1 : lo ≤ (W2.setCell ⟨B, 0, none⟩ (.slice (some ⟨g, o, none⟩) (vs.length + 1) cap')).heap.size := (by have := (unhide HK1).2.size; omega)
  clear hi hz0 hz1 hz2 hrow
  go_wp2
  generalize W2.setCell ⟨B, 0, none⟩ (.slice (some ⟨g, o, none⟩) (vs.length + 1) cap') = Wb at *
  have e1 := (unhide HB1).blk.cell 1
  have e2 := (unhide HB1).blk.frozen 1
  have HROW := hide hrow1
  have hmx2 : Tryd.prog.follows .mixedOrders = true := by kernel_rfl
  clear d0 d1 hrow1
  rename_i K1 hK1
  have key : ∀ (Wc : World) (a2 : Act) (c : Value) (lv2 wv2 : Value), (∃ U : Nat → Value, a2 = { tmps := #[.pointer (some ⟨B, 0, none⟩), .slice (some ⟨gv, 0, none⟩) zs.length cap, U 2, U 3, U 4, U 5, U 6, U 7, U 8, U 9, U 10, U 11, U 12, U 13, U 14, U 15, U 16, U 17, U 18, U 19, U 20, U 21, U 22, U 23, U 24, U 25, U 26, U 27, U 28, U 29, U 30, U 31, U 32, U 33, U 34, U 35, U 36, U 37, U 38, U 39, U 40, U 41, U 42, U 43, U 44, U 45, U 46, U 47, U 48, U 49, U 50, U 51, U 52, U 53, U 54, U 55, U 56, U 57, U 58, U 59, U 60, U 61, U 62, U 63, U 64, U 65, U 66, U 67, U 68, U 69, U 70, U 71, U 72, U 73, U 74, U 75, U 76, U 77, U 78, U 79, U 80, U 81, U 82, U 83, U 84, U 85, U 86, U 87, U 88, U 89, U 90, U 91, U 92, U 93, U 94, U 95, U 96, U 97, U 98, U 99, U 100, U 101, U 102, U 103, U 104, U 105, U 106, U 107, U 108, U 109, U 110, U 111], defers := [] }) → BkW Wc B lo (vs ++ [.slice (some ⟨gv, 0, none⟩) zs.length cap]) (cs ++ [c]) lv2 wv2 h → Wc.ownsRow lo 34 8 c zs.length (encW zs) → KeepsW B lo W Wc → K1 a2 Wc := by
    rintro Wc a2 c lv2 wv2 ⟨U, rfl⟩ hb2 hown2 hk2
    have HBK3 := hide hb2
    have HOW2 := hide hown2
    have HK3 := hide hk2
    apply hK1
    clear hK1 HROW e1 e2 HK1 HB1 hlo1
    have r1' := (unhide HBK3).blk.cell 2
    have r2' := (unhide HBK3).blk.frozen 2
    go_wp2
    have HL4 := hide ((unhide HBK3).held (wrap64 (wrap64 (h + (cap : Int)) + 1)))
    have HK4 := hide ((unhide HK3).set (unhide HBK3).lo_le 2 (.int .i64 (wrap64 (wrap64 (h + (cap : Int)) + 1))))
    have hstart := book_startW (unhide HBOOK) (unhide HVS) (unhide HCS) hdis (unhide HROW0) ((KeepsW.refl B lo _).set (unhide HBK3).lo_le 2 (.int .i64 (wrap64 (wrap64 (h + (cap : Int)) + 1))) |>.own (unhide HBK3).blk (unhide HOW2)) (unhide HL4) (unhide HK4)
    have HST := hide hstart
    have hlo4 : lo ≤ (Wc.setCell ⟨B, 2, none⟩ (.int .i64 (wrap64 (wrap64 (h + (cap : Int)) + 1)))).heap.size := by have := (unhide HK4).2.size; omega
    generalize Wc.setCell ⟨B, 2, none⟩ (.int .i64 (wrap64 (wrap64 (h + (cap : Int)) + 1))) = Wd at *
    generalize wrap64 (wrap64 (h + (cap : Int)) + 1) = hd at *
    clear hstart r1' r2' HBK3 HOW2 HK3 HL4 HBK HVS HCS HI HIE b hb2 hown2 hk2
    go_loopw [36] (fun _ wr => ∃ (t : List ItW) (lv' wv' : Value) (h' : Int), Hz (t ≠ []) ∧ t.length ≤ its.length + 1 ∧ Hz (∀ it ∈ t, it ∈ its ∨ it.v = .slice (some ⟨gv, 0, none⟩) zs.length cap) ∧ Hz (BookW wr B lo t lv' wv' h') ∧ Hz (KeepsW B lo W wr)) (fun _ wr => lenAt wr ⟨B, 0, none⟩)
    case atStart => exact ⟨_, _, _, _, hide (by simp), by simp, hide (fun it h => by rcases List.mem_append.1 h with h | h; exact .inl h; simp at h; exact .inr (by rw [h])), HST, HK4⟩
    case round =>
      obtain ⟨t, lv', wv', h', HNE, htl, HIT, HBK, HKK⟩ := hrel
      cases t with
      | nil => exact absurd rfl (unhide HNE)
      | cons it t =>
        obtain ⟨v, c, ws⟩ := it
        have hok := (unhide HBK).own ⟨v, c, ws⟩ (by simp)
        obtain ⟨av, cv, hv, _⟩ := own_lstW hok.1
        obtain ⟨ac, cc, hc, _⟩ := own_lstW hok.2
        simp only at hv hc
        subst hv
        subst hc
        obtain ⟨gl, ol, cl, rfl, hl1, hl2, hlc⟩ := (unhide HBK).bk.ls.form (by simp)
        obtain ⟨gw, ow, cw, rfl, hw1, hw2, hwc⟩ := (unhide HBK).bk.ws.form (by simp)
        simp only [List.length_map, List.length_cons] at HBK hl1 hw1
        have l0 : wr.cell? ⟨gl, ol, none⟩ = some (.slice av ws.length cv) := by simpa using hlc 0 (.slice av ws.length cv) rfl
        have w0 : wr.cell? ⟨gw, ow, none⟩ = some (.slice ac ws.length cc) := by simpa using hwc 0 (.slice ac ws.length cc) rfl
        have c0 := (unhide HBK).bk.blk.cell 0
        have c1 := (unhide HBK).bk.blk.cell 1
        have c2 := (unhide HBK).bk.blk.cell 2
        have c3 := (unhide HBK).bk.blk.cell 3
        have f3 := (unhide HBK).bk.blk.frozen 3
        have HV := hide hok.1
        have HC := hide hok.2
        have hlen4 : ¬ (4000 : Int) < ((t.length + 1 : Nat) : Int) := by simp only [List.length_cons] at htl; omega
        have hmz : lenAt wr ⟨B, 0, none⟩ = t.length + 1 := by unfold lenAt; rw [c0]; rfl
        have HMZ := hide hmz
        have hlor : lo ≤ wr.heap.size := by have := (unhide HKK).2.size; omega
        have htl' : t.length ≤ its.length := by simp only [List.length_cons] at htl; omega
        clear hok hlc hwc hmz
        by_cases h1 : (1 : Int) < ((t.length + 1 : Nat) : Int)
        · by_cases hh : (1000000 : Int) < h'
          · go_wp2
            go_region_held3 (fun w' => w'.cell? ⟨B, 0, none⟩ = some (.slice (some ⟨gl, ol, none⟩) (t.length + 1) cl) ∧ w'.cell? ⟨B, 1, none⟩ = some (.slice (some ⟨gw, ow, none⟩) (t.length + 1) cw) ∧ w'.cell? ⟨B, 3, none⟩ = some (.bool false) ∧ w'.cell? ⟨gl, ol, none⟩ = some (.slice av ws.length cv) ∧ w'.cell? ⟨gw, ow, none⟩ = some (.slice ac ws.length cc)) (first | exact ⟨k0, k1, s1, k3, k4⟩ | exact ⟨(unhide GB).1.blk.cell 0, (unhide GB).1.blk.cell 1, (unhide GB).1.blk.cell 3, by simpa using (unhide GB).1.ls.at 0 (u := .slice av ws.length cv) rfl, by simpa using (unhide GB).1.ws.at 0 (u := .slice ac ws.length cc) rfl⟩ | go_keep)
              ((go_at_call 19; refine (same_ownW lo _ _ ws _ ?_ ?_).mono ?_; (exact unhide HV); (exact unhide HC); rintro e w' ⟨rfl, hb⟩; obtain ⟨k0, k1, s1, s2, k3, k4⟩ := keep_cellsW (unhide HBK).bk hb l0 w0; have GB := hide (keep_goodW (unhide HBK).bk hlor hb)))
            have HG := hide (unhide GB)
            clear GB k0 k1 s1 s2 k3 k4 hb l0 w0 c0 c1 c2 c3 f3 HV HC
            generalize w'.setCell ⟨B, 3, none⟩ (.bool false) = Wg at *
            have l0 : Wg.cell? ⟨gl, ol, none⟩ = some (.slice av ws.length cv) := by simpa using (unhide HG).1.ls.at 0 (u := .slice av ws.length cv) rfl
            have c0 := (unhide HG).1.blk.cell 0
            have c2 := (unhide HG).1.blk.cell 2
            have f2 := (unhide HG).1.blk.frozen 2
            go_wp2
            go_region_with (fail)
            all_goals
              have HG5 := hide ((unhide HG).1.held (IntKind.i64.wrap (IntKind.i64.wrap (h' - (cv : Int)) - 1))).drew
              have HG6 := hide ((unhide HG).2.set (unhide HG).1.lo_le 2 (.int .i64 (IntKind.i64.wrap (IntKind.i64.wrap (h' - (cv : Int)) - 1)))).drew
              generalize (Wg.setCell ⟨B, 2, none⟩ (.int .i64 (IntKind.i64.wrap (IntKind.i64.wrap (h' - (cv : Int)) - 1)))).drew = Wh at *
              generalize IntKind.i64.wrap (IntKind.i64.wrap (h' - (cv : Int)) - 1) = h'' at *
              clear c0 c2 f2 l0
              have c0 := (unhide HG5).blk.cell 0
              have c1 := (unhide HG5).blk.cell 1
              have f0 := (unhide HG5).blk.frozen 0
              have f1 := (unhide HG5).blk.frozen 1
              have HE := hide (keep_endW (unhide HBK) (unhide HKK) (unhide HG5) (unhide HG6))
              go_wp2
              go_roundw
              case rel => exact ⟨t, .slice (some ⟨gl, ol + 1, none⟩) t.length (cl - 1), .slice (some ⟨gw, ow + 1, none⟩) t.length (cw - 1), h'', hide (fun e => by subst e; simp at h1), by omega, hide (fun it hi => unhide HIT it (by simp [hi])), hide (unhide HE).1, hide (unhide HE).2.1⟩
              case measure =>
                rw [(unhide HE).2.2, unhide HMZ]
                omega
          · go_wp2
            go_end0
            exact ⟨⟨_, rfl⟩, ⟨_, unhide HNE, unhide HIT, htl, _, _, _, unhide HBK⟩, unhide HKK⟩
        · go_wp2
          go_end0
          exact ⟨⟨_, rfl⟩, ⟨_, unhide HNE, unhide HIT, htl, _, _, _, unhide HBK⟩, unhide HKK⟩
  have KEY := hide key
  clear key hK1
  go_region_law (first
    | (refine step_append_lies _ (by rfl) _ _ _ (by rfl) lo 34 iE (.agg #[.int .i64 0, .string ⟨#[]⟩, .int .i32 0, .int .i64 0, .int .i64 0, .int .i64 0, .int .i64 0, .int .i64 0]) 8 72 Tryd.underlying23 (unhide HIE).1 (unhide HIE).2.1 (unhide HIE).2.2.1 (unhide HIE).2.2.2 rfl (by omega) (.slice none 0 0) 0 [] (by rfl) (World.ownsRow_nil _ _ _ _) ⟨gv, 0, none⟩ zs.length cap (encW zs) (by rfl) (encW_length zs) ((unhide HROW).cells (g := gv) rfl) (encW_one zs) hn (by omega) (by omega) (by simp; omega) Wb.heap.size (by simp) ?_; intro g1 cap1 w1 hown1 hgrow1 hat1 hlt1; have q1 := (midW (unhide HB1) hgrow1).blk.cell 1; have q2 := (midW (unhide HB1) hgrow1).blk.frozen 1; have q3 := fun o => ((midW (unhide HB1) hgrow1).blk.alloc o).cell 1)
    | (refine step_append_sl _ (by rfl) _ _ _ (by rfl) lo 23 i0 (.slice none 0 0) 24 Tryd.underlying38 (unhide HI).1 (unhide HI).2.1 (unhide HI).2.2.1 (unhide HI).2.2.2 rfl wv cs (by rfl) ((midW (unhide HB1) hgrow1).ws.alloc _) ⟨w1.heap.size, 0, none⟩ 1 (.slice (some ⟨g1, 0, none⟩) zs.length cap1) (by rfl) ((Blk.new w1 _ 23).cell 0) rfl (by unfold maxLen; omega) (by omega) (by have := (midkeepsW (B := B) hlo1 hgrow1).2.size; simp; omega) ?_; intro g2 o2 cap2 w2 hs2 hgrow2 hat2; obtain ⟨hB3, hbk3, hk3⟩ := app2W (midW (unhide HB1) hgrow1) hs2 hgrow2 (by simpa using hat2) (by have := (midkeepsW (B := B) hlo1 hgrow1).2.size; omega); have r1 := hB3.cell 1; have r2 := hB3.frozen 1))
  all_goals
    have hown2 := (hk3.own (midW (unhide HB1) hgrow1).blk (show w1.ownsRow lo 34 8 (.slice (some ⟨g1, 0, none⟩) zs.length cap1) zs.length (encW zs) by simpa using hown1))
    exact unhide KEY _ _ _ _ _ (mk_act rfl) hbk3 hown2 (((unhide HK1).trans (midkeepsW hlo1 hgrow1)).trans hk3)

set_option maxRecDepth 100000 in
set_option maxHeartbeats 4000000 in
theorem keep_zeroW (W : World) (B lo : Nat) (its : List ItW) (lv wv : Value) (h : Int) (a : Option Addr) (cap : Nat) (zs : List W8) (hn : zs.length = 0) (hdis : ∀ it ∈ its, it.v.ownBlock = none ∨ it.v.ownBlock ≠ Value.ownBlock (.slice (a) zs.length cap)) (hrow : W.ownsRow lo 34 8 (.slice (a) zs.length cap) zs.length (encW zs)) (hby : zs.length * 72 ≤ 140737488355328) (hmx : zs.length ≤ maxLen) (b : BookW W B lo its lv wv h) (hlo : lo ≤ W.heap.size) (hl : its.length ≤ 1000) : Calls Tryd.prog 11 #[.pointer (some ⟨B, 0, none⟩), .slice (a) zs.length cap] W fun e W' => (∃ r, e = .returned r) ∧ (∃ t lv' wv' h', t ≠ [] ∧ (∀ it ∈ t, it ∈ its ∨ it.v = .slice (a) zs.length cap) ∧ t.length ≤ its.length + 1 ∧ BookW W' B lo t lv' wv' h') ∧ KeepsW B lo W W' := by
  have HNN := hide hn
  clear hn
  obtain ⟨vs, hvs⟩ : ∃ vs, vs = its.map ItW.v := ⟨_, rfl⟩
  obtain ⟨cs, hcs⟩ : ∃ cs, cs = its.map ItW.c := ⟨_, rfl⟩
  have hlv : vs.length ≤ 1000 := by rw [hvs, List.length_map]; exact hl
  have hl2 : cs.length ≤ 1000 := by rw [hcs, List.length_map]; exact hl
  have HBOOK := hide b
  have b := b.bk
  rw [← hvs, ← hcs] at b
  have HVS := hide hvs
  have HCS := hide hcs
  clear hvs hcs
  have c0 := b.blk.cell 0
  have c1 := b.blk.cell 1
  have f0 := b.blk.frozen 0
  have HBK := hide b
  clear b
  obtain ⟨i0, hi, hz0, hz1, hz2⟩ := info_parts infoLW
  have HI := hide (And.intro hi (And.intro hz0 (And.intro hz1 hz2)))
  clear hi hz0 hz1 hz2
  go_enter Tryd.func11, Tryd.ntmps11
  go_wp2_with (at_builtin; refine wpList_append_sl _ rfl _ _ 38 rfl lo 23 i0 (.slice none 0 0) 24 Tryd.underlying38 (unhide HI).1 (unhide HI).2.1 (unhide HI).2.2.1 (unhide HI).2.2.2 rfl lv vs rfl ((unhide HBK).ls.alloc _) ⟨W.heap.size, 0, none⟩ 1 (.slice (a) zs.length cap) rfl ((Blk.new W _ 23).cell 0) rfl (by unfold maxLen; omega) (by omega) (by simp; omega) ?_)
  intro g o cap' W2 hs hg hat
  obtain ⟨hB1, hbk1, hk1⟩ := app1W (unhide HBK) hs hg hat hlo
  have d0 := hB1.cell 0
  have d1 := hB1.frozen 0
  have HK1 := hide hk1
  have HB1 := hide hbk1
  clear hs hg hat hB1 hk1 hbk1 c0 c1 f0
  obtain ⟨iE, hi, hz0, hz1, hz2⟩ := info_parts infoEW
  have HIE := hide (And.intro hi (And.intro hz0 (And.intro hz1 hz2)))
  have hrow1 := (unhide HK1).own (unhide HBK).blk hrow
  have HROW0 := hide hrow
  have hlo1 : lo ≤ (W2.setCell ⟨B, 0, none⟩ (.slice (some ⟨g, o, none⟩) (vs.length + 1) cap')).heap.size := (by have := (unhide HK1).2.size; omega)
  clear hi hz0 hz1 hz2 hrow
  go_wp2
  generalize W2.setCell ⟨B, 0, none⟩ (.slice (some ⟨g, o, none⟩) (vs.length + 1) cap') = Wb at *
  have e1 := (unhide HB1).blk.cell 1
  have e2 := (unhide HB1).blk.frozen 1
  have e3 := fun o => ((unhide HB1).blk.alloc o).cell 1
  have HROW := hide hrow1
  have hmx2 : Tryd.prog.follows .mixedOrders = true := by kernel_rfl
  clear d0 d1 hrow1
  rename_i K1 hK1
  have key : ∀ (Wc : World) (a2 : Act) (c : Value) (lv2 wv2 : Value), (∃ U : Nat → Value, a2 = { tmps := #[.pointer (some ⟨B, 0, none⟩), .slice (a) zs.length cap, U 2, U 3, U 4, U 5, U 6, U 7, U 8, U 9, U 10, U 11, U 12, U 13, U 14, U 15, U 16, U 17, U 18, U 19, U 20, U 21, U 22, U 23, U 24, U 25, U 26, U 27, U 28, U 29, U 30, U 31, U 32, U 33, U 34, U 35, U 36, U 37, U 38, U 39, U 40, U 41, U 42, U 43, U 44, U 45, U 46, U 47, U 48, U 49, U 50, U 51, U 52, U 53, U 54, U 55, U 56, U 57, U 58, U 59, U 60, U 61, U 62, U 63, U 64, U 65, U 66, U 67, U 68, U 69, U 70, U 71, U 72, U 73, U 74, U 75, U 76, U 77, U 78, U 79, U 80, U 81, U 82, U 83, U 84, U 85, U 86, U 87, U 88, U 89, U 90, U 91, U 92, U 93, U 94, U 95, U 96, U 97, U 98, U 99, U 100, U 101, U 102, U 103, U 104, U 105, U 106, U 107, U 108, U 109, U 110, U 111], defers := [] }) → BkW Wc B lo (vs ++ [.slice (a) zs.length cap]) (cs ++ [c]) lv2 wv2 h → Wc.ownsRow lo 34 8 c zs.length (encW zs) → KeepsW B lo W Wc → K1 a2 Wc := by
    rintro Wc a2 c lv2 wv2 ⟨U, rfl⟩ hb2 hown2 hk2
    have HBK3 := hide hb2
    have HOW2 := hide hown2
    have HK3 := hide hk2
    apply hK1
    clear hK1 HROW e1 e2 e3 HK1 HB1 hlo1
    have r1' := (unhide HBK3).blk.cell 2
    have r2' := (unhide HBK3).blk.frozen 2
    go_wp2
    have HL4 := hide ((unhide HBK3).held (wrap64 (wrap64 (h + (cap : Int)) + 1)))
    have HK4 := hide ((unhide HK3).set (unhide HBK3).lo_le 2 (.int .i64 (wrap64 (wrap64 (h + (cap : Int)) + 1))))
    have hstart := book_startW (unhide HBOOK) (unhide HVS) (unhide HCS) hdis (unhide HROW0) ((KeepsW.refl B lo _).set (unhide HBK3).lo_le 2 (.int .i64 (wrap64 (wrap64 (h + (cap : Int)) + 1))) |>.own (unhide HBK3).blk (unhide HOW2)) (unhide HL4) (unhide HK4)
    have HST := hide hstart
    have hlo4 : lo ≤ (Wc.setCell ⟨B, 2, none⟩ (.int .i64 (wrap64 (wrap64 (h + (cap : Int)) + 1)))).heap.size := by have := (unhide HK4).2.size; omega
    generalize Wc.setCell ⟨B, 2, none⟩ (.int .i64 (wrap64 (wrap64 (h + (cap : Int)) + 1))) = Wd at *
    generalize wrap64 (wrap64 (h + (cap : Int)) + 1) = hd at *
    clear hstart r1' r2' HBK3 HOW2 HK3 HL4 HBK HVS HCS HI HIE b hb2 hown2 hk2
    go_loopw [36] (fun _ wr => ∃ (t : List ItW) (lv' wv' : Value) (h' : Int), Hz (t ≠ []) ∧ t.length ≤ its.length + 1 ∧ Hz (∀ it ∈ t, it ∈ its ∨ it.v = .slice (a) zs.length cap) ∧ Hz (BookW wr B lo t lv' wv' h') ∧ Hz (KeepsW B lo W wr)) (fun _ wr => lenAt wr ⟨B, 0, none⟩)
    case atStart => exact ⟨_, _, _, _, hide (by simp), by simp, hide (fun it h => by rcases List.mem_append.1 h with h | h; exact .inl h; simp at h; exact .inr (by rw [h])), HST, HK4⟩
    case round =>
      obtain ⟨t, lv', wv', h', HNE, htl, HIT, HBK, HKK⟩ := hrel
      cases t with
      | nil => exact absurd rfl (unhide HNE)
      | cons it t =>
        obtain ⟨v, c, ws⟩ := it
        have hok := (unhide HBK).own ⟨v, c, ws⟩ (by simp)
        obtain ⟨av, cv, hv, _⟩ := own_lstW hok.1
        obtain ⟨ac, cc, hc, _⟩ := own_lstW hok.2
        simp only at hv hc
        subst hv
        subst hc
        obtain ⟨gl, ol, cl, rfl, hl1, hl2, hlc⟩ := (unhide HBK).bk.ls.form (by simp)
        obtain ⟨gw, ow, cw, rfl, hw1, hw2, hwc⟩ := (unhide HBK).bk.ws.form (by simp)
        simp only [List.length_map, List.length_cons] at HBK hl1 hw1
        have l0 : wr.cell? ⟨gl, ol, none⟩ = some (.slice av ws.length cv) := by simpa using hlc 0 (.slice av ws.length cv) rfl
        have w0 : wr.cell? ⟨gw, ow, none⟩ = some (.slice ac ws.length cc) := by simpa using hwc 0 (.slice ac ws.length cc) rfl
        have c0 := (unhide HBK).bk.blk.cell 0
        have c1 := (unhide HBK).bk.blk.cell 1
        have c2 := (unhide HBK).bk.blk.cell 2
        have c3 := (unhide HBK).bk.blk.cell 3
        have f3 := (unhide HBK).bk.blk.frozen 3
        have HV := hide hok.1
        have HC := hide hok.2
        have hlen4 : ¬ (4000 : Int) < ((t.length + 1 : Nat) : Int) := by simp only [List.length_cons] at htl; omega
        have hmz : lenAt wr ⟨B, 0, none⟩ = t.length + 1 := by unfold lenAt; rw [c0]; rfl
        have HMZ := hide hmz
        have hlor : lo ≤ wr.heap.size := by have := (unhide HKK).2.size; omega
        have htl' : t.length ≤ its.length := by simp only [List.length_cons] at htl; omega
        clear hok hlc hwc hmz
        by_cases h1 : (1 : Int) < ((t.length + 1 : Nat) : Int)
        · by_cases hh : (1000000 : Int) < h'
          · go_wp2
            go_region_held3 (fun w' => w'.cell? ⟨B, 0, none⟩ = some (.slice (some ⟨gl, ol, none⟩) (t.length + 1) cl) ∧ w'.cell? ⟨B, 1, none⟩ = some (.slice (some ⟨gw, ow, none⟩) (t.length + 1) cw) ∧ w'.cell? ⟨B, 3, none⟩ = some (.bool false) ∧ w'.cell? ⟨gl, ol, none⟩ = some (.slice av ws.length cv) ∧ w'.cell? ⟨gw, ow, none⟩ = some (.slice ac ws.length cc)) (first | exact ⟨k0, k1, s1, k3, k4⟩ | exact ⟨(unhide GB).1.blk.cell 0, (unhide GB).1.blk.cell 1, (unhide GB).1.blk.cell 3, by simpa using (unhide GB).1.ls.at 0 (u := .slice av ws.length cv) rfl, by simpa using (unhide GB).1.ws.at 0 (u := .slice ac ws.length cc) rfl⟩ | go_keep)
              ((go_at_call 19; refine (same_ownW lo _ _ ws _ ?_ ?_).mono ?_; (exact unhide HV); (exact unhide HC); rintro e w' ⟨rfl, hb⟩; obtain ⟨k0, k1, s1, s2, k3, k4⟩ := keep_cellsW (unhide HBK).bk hb l0 w0; have GB := hide (keep_goodW (unhide HBK).bk hlor hb)))
            have HG := hide (unhide GB)
            clear GB k0 k1 s1 s2 k3 k4 hb l0 w0 c0 c1 c2 c3 f3 HV HC
            generalize w'.setCell ⟨B, 3, none⟩ (.bool false) = Wg at *
            have l0 : Wg.cell? ⟨gl, ol, none⟩ = some (.slice av ws.length cv) := by simpa using (unhide HG).1.ls.at 0 (u := .slice av ws.length cv) rfl
            have c0 := (unhide HG).1.blk.cell 0
            have c2 := (unhide HG).1.blk.cell 2
            have f2 := (unhide HG).1.blk.frozen 2
            go_wp2
            go_region_with (fail)
            all_goals
              have HG5 := hide ((unhide HG).1.held (IntKind.i64.wrap (IntKind.i64.wrap (h' - (cv : Int)) - 1))).drew
              have HG6 := hide ((unhide HG).2.set (unhide HG).1.lo_le 2 (.int .i64 (IntKind.i64.wrap (IntKind.i64.wrap (h' - (cv : Int)) - 1)))).drew
              generalize (Wg.setCell ⟨B, 2, none⟩ (.int .i64 (IntKind.i64.wrap (IntKind.i64.wrap (h' - (cv : Int)) - 1)))).drew = Wh at *
              generalize IntKind.i64.wrap (IntKind.i64.wrap (h' - (cv : Int)) - 1) = h'' at *
              clear c0 c2 f2 l0
              have c0 := (unhide HG5).blk.cell 0
              have c1 := (unhide HG5).blk.cell 1
              have f0 := (unhide HG5).blk.frozen 0
              have f1 := (unhide HG5).blk.frozen 1
              have HE := hide (keep_endW (unhide HBK) (unhide HKK) (unhide HG5) (unhide HG6))
              go_wp2
              go_roundw
              case rel => exact ⟨t, .slice (some ⟨gl, ol + 1, none⟩) t.length (cl - 1), .slice (some ⟨gw, ow + 1, none⟩) t.length (cw - 1), h'', hide (fun e => by subst e; simp at h1), by omega, hide (fun it hi => unhide HIT it (by simp [hi])), hide (unhide HE).1, hide (unhide HE).2.1⟩
              case measure =>
                rw [(unhide HE).2.2, unhide HMZ]
                omega
          · go_wp2
            go_end0
            exact ⟨⟨_, rfl⟩, ⟨_, unhide HNE, unhide HIT, htl, _, _, _, unhide HBK⟩, unhide HKK⟩
        · go_wp2
          go_end0
          exact ⟨⟨_, rfl⟩, ⟨_, unhide HNE, unhide HIT, htl, _, _, _, unhide HBK⟩, unhide HKK⟩
  have KEY := hide key
  clear key hK1
  go_region_law (first
    | (refine step_append_zero _ (by rfl) _ _ _ (by rfl) 34 iE Tryd.underlying23 (unhide HIE).1 (by rfl) a zs.length cap (unhide HNN) (by rfl) ?_)
    | (refine step_append_sl _ (by rfl) _ _ _ (by rfl) lo 23 i0 (.slice none 0 0) 24 Tryd.underlying38 (unhide HI).1 (unhide HI).2.1 (unhide HI).2.2.1 (unhide HI).2.2.2 rfl wv cs (by rfl) ((unhide HB1).drew.ws.alloc _) ⟨Wb.heap.size, 0, none⟩ 1 (.slice none 0 0) (by rfl) ((Blk.new Wb.drew _ 23).cell 0) rfl (by unfold maxLen; omega) (by omega) (by simp; omega) ?_; intro g2 o2 cap2 w2 hs2 hgrow2 hat2; obtain ⟨hB3, hbk3, hk3⟩ := app2W (unhide HB1).drew hs2 hgrow2 (by simpa using hat2) hlo1; have r1 := hB3.cell 1; have r2 := hB3.frozen 1))
  all_goals
    have hz : zs = [] := List.eq_nil_of_length_eq_zero (unhide HNN)
    exact unhide KEY _ _ _ _ _ (mk_act rfl) hbk3 (by rw [hz]; exact World.ownsRow_nil _ _ _ _) (((unhide HK1).trans (KeepsW.refl B lo Wb).drew).trans hk3)

theorem keep_anyW (W : World) (B lo : Nat) (its : List ItW) (lv wv : Value) (h : Int) (v : Value) (zs : List W8) (hdis : ∀ it ∈ its, it.v.ownBlock = none ∨ it.v.ownBlock ≠ v.ownBlock) (hrow : W.ownsRow lo 34 8 v zs.length (encW zs)) (hby : zs.length * 72 ≤ 140737488355328) (hmx : zs.length ≤ maxLen) (b : BookW W B lo its lv wv h) (hlo : lo ≤ W.heap.size) (hl : its.length ≤ 1000) :
    Calls Tryd.prog 11 #[.pointer (some ⟨B, 0, none⟩), v] W fun e W' => (∃ r, e = .returned r) ∧ (∃ t lv' wv' h', t ≠ [] ∧ (∀ it ∈ t, it ∈ its ∨ it.v = v) ∧ t.length ≤ its.length + 1 ∧ BookW W' B lo t lv' wv' h') ∧ KeepsW B lo W W' := by
  rcases hrow.2 with ⟨rfl, h0⟩ | ⟨g, cap, cur, rfl, _⟩
  · have := keep_zeroW W B lo its lv wv h none 0 zs h0 (by simpa [h0] using hdis) (by simpa [h0] using hrow) hby hmx b hlo hl
    simpa [h0] using this
  · by_cases h0 : zs.length = 0
    · exact keep_zeroW W B lo its lv wv h _ cap zs h0 hdis hrow hby hmx b hlo hl
    · exact keep_someW W B lo its lv wv h g cap zs (by omega) hdis hrow hby hmx b hlo hl
end Go.Proofs.YtcnhkhjkeemafaaDoor
/- The book's Stays at lists of words: each list is as it was. -/
namespace Go.Proofs.YtcnhkhjkeemafaaDoor
open Go.RowKit Go.Shelf
set_option linter.unusedVariables false

set_option maxRecDepth 100000 in
set_option maxHeartbeats 4000000 in
theorem stays_anyW (W : World) (B lo : Nat) (t : List ItW) (lv wv : Value) (h : Int) (b : BookW W B lo t lv wv h) (hlo : lo ≤ W.heap.size) (hl : t.length ≤ 1001) :
    Calls Tryd.prog 20 #[.pointer (some ⟨B, 0, none⟩)] W fun e W' => e = .returned (.bool true) ∧ BookW W' B lo t lv wv h ∧ KeepsW B lo W W' := by
  have hlv : ∃ al cl, lv = .slice al t.length cl := by
    rcases b.bk.ls with ⟨rfl, h0⟩ | ⟨g, o, cap, cur, rfl, _⟩
    · exact ⟨none, 0, by rw [List.map_eq_nil_iff] at h0; rw [h0]; rfl⟩
    · exact ⟨_, cap, by rw [List.length_map]⟩
  obtain ⟨al, cl, rfl⟩ := hlv
  have HB := hide b
  clear b
  go_enter Tryd.func20, Tryd.ntmps20
  go_wp2
  go_loopw [3] (fun i wr => ∃ k : Nat, i = .int .i64 k ∧ k ≤ t.length ∧ Hz (BookW wr B lo t (.slice al t.length cl) wv h) ∧ Hz (KeepsW B lo W wr)) (fun i _ => t.length - (intOf i).toNat)
  case atStart => exact ⟨0, rfl, by omega, HB, hide (KeepsW.refl B lo W)⟩
  case round =>
    obtain ⟨k, rfl, hk, HBK, HKK⟩ := hrel
    have c0 := (unhide HBK).bk.blk.cell 0
    have c1 := (unhide HBK).bk.blk.cell 1
    have c3 := (unhide HBK).bk.blk.cell 3
    have f3 := (unhide HBK).bk.blk.frozen 3
    by_cases hkn : k < t.length
    · have hk1 : (k : Int) < (t.length : Int) := by omega
      have hk2 : ((k : Nat) : Int).toNat = k := by omega
      obtain ⟨it, hit⟩ : ∃ it, t[k]? = some it := ⟨_, List.getElem?_eq_getElem hkn⟩
      have hok := (unhide HBK).own it (List.mem_of_getElem? hit)
      obtain ⟨v, c, ws⟩ := it
      obtain ⟨av, cv, hv, _⟩ := own_lstW hok.1
      obtain ⟨ac, cc, hc, _⟩ := own_lstW hok.2
      simp only at hv hc
      subst hv
      subst hc
      obtain ⟨gl, ol, cl', e1, hl1, hl2, hlc⟩ := (unhide HBK).bk.ls.form (by rw [List.length_map]; omega)
      obtain ⟨gw, ow, cw, rfl, hw1, hw2, hwc⟩ := (unhide HBK).bk.ws.form (by rw [List.length_map]; omega)
      rw [List.length_map] at e1
      cases e1
      simp only [List.length_map] at HBK hl1 hw1 c1
      have l0 : wr.cell? ⟨gl, ol + k, none⟩ = some (.slice av ws.length cv) := hlc k _ (by simp [hit])
      have w0 : wr.cell? ⟨gw, ow + k, none⟩ = some (.slice ac ws.length cc) := hwc k _ (by simp [hit])
      have HV := hide hok.1
      have HC := hide hok.2
      have HIT := hide hit
      have hlor : lo ≤ wr.heap.size := by have := (unhide HKK).2.size; omega
      clear hok hlc hwc hit
      go_wp2
      go_region_held3 (fun w' => w'.cell? ⟨B, 0, none⟩ = some (.slice (some ⟨gl, ol, none⟩) t.length cl) ∧ w'.cell? ⟨B, 1, none⟩ = some (.slice (some ⟨gw, ow, none⟩) t.length cw) ∧ w'.cell? ⟨B, 3, none⟩ = some (.bool false) ∧ w'.cell? ⟨gl, ol + k, none⟩ = some (.slice av ws.length cv) ∧ w'.cell? ⟨gw, ow + k, none⟩ = some (.slice ac ws.length cc)) (first | exact ⟨k0, k1, s1, k3, k4⟩ | exact ⟨(unhide GB).1.blk.cell 0, (unhide GB).1.blk.cell 1, (unhide GB).1.blk.cell 3, (unhide GB).1.ls.at k (u := .slice av ws.length cv) (by simp [unhide HIT]), (unhide GB).1.ws.at k (u := .slice ac ws.length cc) (by simp [unhide HIT])⟩ | go_keep)
        ((go_at_call 19; refine (same_ownW lo _ _ ws _ ?_ ?_).mono ?_; (exact unhide HV); (exact unhide HC); rintro e w' ⟨rfl, hb⟩; obtain ⟨k0, k1, s1, s2, k3, k4⟩ := keep_cellsW (unhide HBK).bk hb l0 w0; have GB := hide (keep_goodW (unhide HBK).bk hlor hb)))
      have HN := hide (show BookW (w'.setCell ⟨B, 3, none⟩ (.bool false)) B lo t (.slice (some ⟨gl, ol, none⟩) t.length cl) (.slice (some ⟨gw, ow, none⟩) t.length cw) h from ⟨(unhide GB).1, fun it hi => ((unhide HBK).own it hi).kept (unhide GB).2 (unhide HBK).bk.blk, (unhide HBK).dis⟩)
      have HNK := hide ((unhide HKK).trans (unhide GB).2)
      clear GB k0 k1 s1 s2 k3 k4 hb l0 w0 c0 c1 c3 f3
      go_wp2
      go_roundw
      case rel => exact ⟨k + 1, by go_num, by omega, by rw [List.length_map]; exact HN, HNK⟩
      case measure => simp [intOf]; omega
    · have hk1 : ¬ (k : Int) < (t.length : Int) := by omega
      go_wp2
      go_ret
      exact ⟨rfl, unhide HBK, unhide HKK⟩
end Go.Proofs.YtcnhkhjkeemafaaDoor
/- The book's Apart at lists of words: each list is written full with marks of its own, and holds them alone. -/
namespace Go.Proofs.YtcnhkhjkeemafaaDoor
open Go.RowKit Go.Shelf
set_option linter.unusedVariables false

abbrev evW (z : W8) : Value := .agg #[.int .i64 z.k, .string z.S, .int .i32 z.r, .int .i64 z.n, .int .i64 z.b, .int .i64 z.l, .int .i64 z.c, .int .i64 z.e]
/-- Some cells are written, one behind the other. -/
def putL (W : World) (g : Nat) : Nat → List Value → World
  | _, [] => W
  | o, x :: xs => putL (W.setCell ⟨g, o, none⟩ x) g (o + 1) xs
def setL (cur : Array Value) : Nat → List Value → Array Value
  | _, [] => cur
  | o, x :: xs => setL (cur.setIfInBounds o x) (o + 1) xs
theorem setL_size : ∀ (xs : List Value) (cur : Array Value) (o : Nat), (setL cur o xs).size = cur.size
  | [], _, _ => rfl
  | x :: xs, cur, o => by unfold setL; rw [setL_size xs]; simp
theorem setL_out : ∀ (xs : List Value) (cur : Array Value) (o i : Nat), i < o ∨ o + xs.length ≤ i → (setL cur o xs)[i]? = cur[i]?
  | [], _, _, _, _ => rfl
  | x :: xs, cur, o, i, h => by
    rw [List.length_cons] at h
    unfold setL
    rw [setL_out xs _ (o + 1) i (by omega), Array.getElem?_setIfInBounds_ne (by omega)]
theorem setL_in : ∀ (xs : List Value) (cur : Array Value) (o i : Nat) (u : Value), o + xs.length ≤ cur.size → xs[i]? = some u → (setL cur o xs)[o + i]? = some u
  | [], _, _, i, u, _, h => by simp at h
  | x :: xs, cur, o, 0, u, hz, h => by
    rw [List.length_cons] at hz
    obtain rfl : x = u := by simpa using h
    unfold setL
    rw [setL_out xs _ (o + 1) (o + 0) (by omega), Nat.add_zero, Array.getElem?_setIfInBounds_self_of_lt (by omega)]
  | x :: xs, cur, o, i + 1, u, hz, h => by
    rw [List.length_cons] at hz
    unfold setL
    rw [show o + (i + 1) = o + 1 + i by omega]
    exact setL_in xs _ (o + 1) i u (by simp; omega) (by simpa using h)
theorem blk_putL {g : Nat} {e : TypeId} : ∀ (xs : List Value) (W : World) (cur : Array Value) (o : Nat), Blk W g cur e → Blk (putL W g o xs) g (setL cur o xs) e
  | [], _, _, _, h => h
  | x :: xs, W, cur, o, h => blk_putL xs _ _ (o + 1) (h.set o x)
theorem below_putL {B : Nat} {A : World} {g : Nat} (hg : B ≤ g) : ∀ (xs : List Value) (W : World) (o : Nat), Below B A W → Below B A (putL W g o xs)
  | [], _, _, h => h
  | x :: xs, W, o, h => below_putL hg xs _ (o + 1) (h.setCell (p := ⟨g, o, none⟩) hg x)
/-- A list whose first m places, its spare room too, hold what f says. -/
def FullW (W : World) (lo : Nat) (v : Value) (f : Nat → W8) (m : Nat) : Prop :=
  v = .slice none 0 0 ∨ ∃ g n cap cur, v = .slice (some ⟨g, 0, none⟩) n cap ∧ lo ≤ g ∧ Blk W g cur 34 ∧ cur.size = cap * 8 ∧ cap ≤ maxLen ∧ n ≤ cap ∧ ∀ j, j < m → j < cap → ∀ i u, (w8Cells (f j))[i]? = some u → cur[j * 8 + i]? = some u
theorem full_ownW {W : World} {lo n : Nat} {v : Value} {xs : List Value} (h : W.ownsRow lo 34 8 v n xs) (f : Nat → W8) : FullW W lo v f 0 := by
  rcases h.2 with ⟨rfl, _⟩ | ⟨g, cap, cur, rfl, hb, hg, h1, h2, h3, _⟩
  · exact .inl rfl
  · exact .inr ⟨g, n, cap, cur, rfl, hb, hg, by omega, h2, h1, fun j hj => by omega⟩
theorem FullW.below {W W' : World} {lo : Nat} {v : Value} {f : Nat → W8} {m : Nat} (h : FullW W lo v f m) (k : Below W.heap.size W W') : FullW W' lo v f m := by
  rcases h with h | ⟨g, n, cap, cur, rfl, hl, hg, rest⟩
  · exact .inl h
  · exact .inr ⟨g, n, cap, cur, rfl, hl, hg.below k hg.lt, rest⟩
theorem FullW.other {W : World} {lo : Nat} {v : Value} {f : Nat → W8} {m g i : Nat} (h : FullW W lo v f m) (hne : v.ownBlock = none ∨ v.ownBlock ≠ some g) (u : Value) : FullW (W.setCell ⟨g, i, none⟩ u) lo v f m := by
  rcases h with h | ⟨g', n, cap, cur, rfl, hl, hg, rest⟩
  · exact .inl h
  · refine .inr ⟨g', n, cap, cur, rfl, hl, hg.other (fun e => ?_) u, rest⟩
    subst e
    simp [Value.ownBlock] at hne
theorem FullW.puts {lo : Nat} {v : Value} {f : Nat → W8} {m g : Nat} (hne : v.ownBlock = none ∨ v.ownBlock ≠ some g) : ∀ (xs : List Value) (W : World) (o : Nat), FullW W lo v f m → FullW (putL W g o xs) lo v f m
  | [], _, _, h => h
  | x :: xs, W, o, h => FullW.puts hne xs _ (o + 1) (h.other hne x)
/-- The lists behind the first k have their marks whole, the k-th its first m. -/
def MkW (W : World) (lo : Nat) (t : List ItW) (mk : Nat → Nat → W8) (k m : Nat) : Prop := ∀ i it, t[i]? = some it → FullW W lo it.v (mk i) (if i < k then maxLen else if i = k then m else 0)
theorem MkW.below {W W' : World} {lo : Nat} {t : List ItW} {mk : Nat → Nat → W8} {k m : Nat} (h : MkW W lo t mk k m) (hb : Below W.heap.size W W') : MkW W' lo t mk k m := fun i it hi => (h i it hi).below hb
theorem dis_atW {t : List ItW} (hd : t.Pairwise (fun a b => a.v.ownBlock = none ∨ a.v.ownBlock ≠ b.v.ownBlock)) {i k : Nat} {x y : ItW} (hi : t[i]? = some x) (hk : t[k]? = some y) (hne : i ≠ k) : x.v.ownBlock = none ∨ x.v.ownBlock ≠ y.v.ownBlock := by
  obtain ⟨hi1, rfl⟩ := List.getElem?_eq_some_iff.1 hi
  obtain ⟨hk1, rfl⟩ := List.getElem?_eq_some_iff.1 hk
  rw [List.pairwise_iff_getElem] at hd
  rcases Nat.lt_or_gt_of_ne hne with hlt | hgt
  · exact hd i k hi1 hk1 hlt
  · exact apart_symm' (hd k i hk1 hi1 hgt)
theorem MkW.set {W : World} {lo : Nat} {t : List ItW} {mk : Nat → Nat → W8} {k m : Nat} (h : MkW W lo t mk k m) (hd : t.Pairwise (fun a b => a.v.ownBlock = none ∨ a.v.ownBlock ≠ b.v.ownBlock)) {it : ItW} (hk : t[k]? = some it) {g n cap : Nat} (hv : it.v = .slice (some ⟨g, 0, none⟩) n cap) (hm : m < cap) (z : W8) (hz : z = mk k m) :
    MkW (putL W g (m * 8) (w8Cells z)) lo t mk k (m + 1) := by
  intro i x hi
  by_cases e : i = k
  · subst e
    obtain rfl : x = it := by rw [hk] at hi; cases hi; rfl
    have := h i x hk
    simp only [Nat.lt_irrefl, if_false, if_true] at this ⊢
    rcases this with q | ⟨g', n', cap', cur, hv', hl, hg, h1, h2, h3, h4⟩
    · rw [hv] at q; cases q
    · rw [hv] at hv'
      cases hv'
      refine .inr ⟨g, n, cap, _, hv, hl, blk_putL (w8Cells z) W cur (m * 8) hg, by rw [setL_size]; exact h1, h2, h3, fun j hj hjc i' u hu => ?_⟩
      have hi8 : i' < 8 := (List.getElem?_eq_some_iff.1 hu).1
      by_cases ej : j = m
      · subst ej
        exact setL_in (w8Cells z) cur (j * 8) i' u (by show j * 8 + 8 ≤ _; omega) (by rw [hz]; exact hu)
      · rw [setL_out (w8Cells z) cur (m * 8) (j * 8 + i') (by show _ ∨ m * 8 + 8 ≤ _; omega)]
        exact h4 j (by omega) hjc i' u hu
  · have hne := dis_atW hd hi hk e
    rw [hv] at hne
    have := FullW.puts (g := g) (by simpa [Value.ownBlock] using hne) (w8Cells z) W (m * 8) (h i x hi)
    by_cases h2 : i < k
    · simpa [h2] using this
    · simpa [h2, e] using this
theorem MkW.next {W : World} {lo : Nat} {t : List ItW} {mk : Nat → Nat → W8} {k m : Nat} (h : MkW W lo t mk k m) (hm : ∀ it g n cap, t[k]? = some it → it.v = .slice (some ⟨g, 0, none⟩) n cap → cap ≤ m) : MkW W lo t mk (k + 1) 0 := by
  intro i x hi
  have := h i x hi
  by_cases e : i = k
  · subst e
    simp only [Nat.lt_irrefl, if_false, if_true] at this
    rcases this with q | ⟨g', n', cap', cur, hv', hl, hg, h1, h2, h3, h4⟩
    · exact .inl q
    · exact .inr ⟨g', n', cap', cur, hv', hl, hg, h1, h2, h3, fun j _ hjc => h4 j (by have := hm x g' n' cap' hi hv'; omega) hjc⟩
  · by_cases h2 : i < k
    · simpa [h2, show i < k + 1 by omega] using this
    · by_cases h3 : i = k + 1
      · subst h3; simpa [show ¬ k + 1 < k by omega] using this
      · simpa [h2, e, h3, show ¬ i < k + 1 by omega] using this
theorem BkW.elem {W : World} {B lo : Nat} {vs cs : List Value} {lv wv : Value} {h : Int} (b : BkW W B lo vs cs lv wv h) {g i : Nat} {cur : Array Value} (hg : Blk W g cur 34) (u : Value) : BkW (W.setCell ⟨g, i, none⟩ u) B lo vs cs lv wv h := by
  refine ⟨b.blk.other (fun e => ?_) u, b.ls.set hg (by decide) u, b.ws.set hg (by decide) u, b.ap, b.lo_le⟩
  subst e
  have := (show W.heap[B]? = _ from b.blk).symm.trans hg
  simp at this
theorem BkW.elems {B lo : Nat} {vs cs : List Value} {lv wv : Value} {h : Int} {g : Nat} : ∀ (xs : List Value) (W : World) (cur : Array Value) (o : Nat), BkW W B lo vs cs lv wv h → Blk W g cur 34 → BkW (putL W g o xs) B lo vs cs lv wv h
  | [], _, _, _, b, _ => b
  | x :: xs, W, cur, o, b, hc => BkW.elems xs _ _ (o + 1) (b.elem (i := o) hc x) (hc.set o x)
/-- The k-th list, written out. -/
theorem MkW.form {W : World} {lo : Nat} {t : List ItW} {mk : Nat → Nat → W8} {k m i : Nat} {it : ItW} (h : MkW W lo t mk k m) (hi : t[i]? = some it) : ∃ a n cp, it.v = .slice a n cp ∧ n ≤ cp ∧ cp ≤ maxLen ∧ (0 < cp → ∃ g, a = some ⟨g, 0, none⟩) := by
  rcases h i it hi with q | ⟨g, n, cap, cur, hv, hl, hg, h1, h2, h3, h4⟩
  · exact ⟨none, 0, 0, q, by omega, by unfold maxLen; omega, fun h => by omega⟩
  · exact ⟨_, n, cap, hv, h3, h2, fun _ => ⟨g, rfl⟩⟩
theorem MkW.blk {W : World} {lo : Nat} {t : List ItW} {mk : Nat → Nat → W8} {k m i : Nat} {it : ItW} (h : MkW W lo t mk k m) (hi : t[i]? = some it) {g n cp : Nat} (hv : it.v = .slice (some ⟨g, 0, none⟩) n cp) : ∃ cur, Blk W g cur 34 ∧ cur.size = cp * 8 ∧ lo ≤ g ∧ (i < k → ∀ j, j < cp → ∀ i' u, (w8Cells (mk i j))[i']? = some u → cur[j * 8 + i']? = some u) := by
  rcases h i it hi with q | ⟨g', n', cap, cur, hv', hl, hg, h1, h2, h3, h4⟩
  · rw [hv] at q; cases q
  · rw [hv] at hv'
    cases hv'
    exact ⟨cur, hg, h1, hl, fun hik j hj => h4 j (by rw [if_pos hik]; omega) hj⟩
set_option maxRecDepth 100000 in
set_option maxHeartbeats 8000000 in
theorem apart_anyW (mk : Nat → Nat → W8) (hmark : ∀ (i j : Nat) (w : World), i ≤ 1001 → j ≤ maxLen → Calls Tryd.prog 13 #[.int .i64 i, .int .i64 j] w fun e w' => e = .returned (evW (mk i j)) ∧ Below w.heap.size w w')
    (W : World) (B lo : Nat) (t : List ItW) (lv wv : Value) (h : Int) (b : BookW W B lo t lv wv h) (hlo : lo ≤ W.heap.size) (hl : t.length ≤ 1001) :
    Calls Tryd.prog 12 #[.pointer (some ⟨B, 0, none⟩), .func (.func 13) #[] #[]] W fun e W' => e = .returned (.bool true) ∧ Below lo W W' := by
  have hlv : ∃ al cl, lv = .slice al t.length cl := by
    rcases b.bk.ls with ⟨rfl, h0⟩ | ⟨g, o, cap, cur, rfl, _⟩
    · exact ⟨none, 0, by rw [List.map_eq_nil_iff] at h0; rw [h0]; rfl⟩
    · exact ⟨_, cap, by rw [List.length_map]⟩
  obtain ⟨al, cl, rfl⟩ := hlv
  have HD := hide b.dis
  have HMK := hide hmark
  have HB := hide b
  clear b hmark
  go_enter Tryd.func12, Tryd.ntmps12
  go_wp2_with fail
  refine (stays_anyW W B lo t _ wv h (unhide HB) hlo hl).mono ?_
  rintro e W1 ⟨rfl, hb1, hk1⟩
  have HB1 := hide hb1.bk
  have HM1 : Hz (MkW W1 lo t mk 0 0) := hide (fun i it hi => by simpa using full_ownW (hb1.own it (List.mem_of_getElem? hi)).1 (mk i))
  have HL1 := hide hk1.2
  clear hb1 hk1
  go_wp2
  go_loopw [5] (fun i wr => ∃ k : Nat, i = .int .i64 k ∧ k ≤ t.length ∧ Hz (BkW wr B lo (t.map ItW.v) (t.map ItW.c) (.slice al t.length cl) wv h) ∧ Hz (MkW wr lo t mk k 0) ∧ Hz (Below lo W wr)) (fun i _ => t.length - (intOf i).toNat)
  case atStart => exact ⟨0, rfl, by omega, HB1, HM1, HL1⟩
  case round =>
    obtain ⟨k, rfl, hk, HBK, HM, HL⟩ := hrel
    have c0 := (unhide HBK).blk.cell 0
    by_cases hkn : k < t.length
    · have hk1 : (k : Int) < (t.length : Int) := by omega
      have hk2 : ((k : Nat) : Int).toNat = k := by omega
      obtain ⟨it, hit⟩ : ∃ it, t[k]? = some it := ⟨_, List.getElem?_eq_getElem hkn⟩
      obtain ⟨av, nv, cv, hv, hnc, hcm, hav⟩ := (unhide HM).form hit
      obtain ⟨gl, ol, cl', e1, hl1, hl2, hlc⟩ := (unhide HBK).ls.form (by rw [List.length_map]; omega)
      rw [List.length_map] at e1
      cases e1
      simp only [List.length_map] at HBK hl1
      have l0 : wr.cell? ⟨gl, ol + k, none⟩ = some (.slice av nv cv) := hlc k _ (by simp [hit, hv])
      have HIT := hide hit
      have HV := hide hv
      have HAV := hide hav
      have hcm' : (cv : Int) ≤ 9223372036854775807 := by unfold maxLen at hcm; omega
      have hlor : lo ≤ wr.heap.size := by have := (unhide HL).size; omega
      clear hlc hit hv hav
      go_wp2
      go_quiet (fail)
      go_wp2
      have HB2 : Hz (BkW (wr.drewN nq) B lo (t.map ItW.v) (t.map ItW.c) (.slice (some ⟨gl, ol, none⟩) t.length cl) wv h) := hide ⟨(unhide HBK).blk, (unhide HBK).ls, (unhide HBK).ws, (unhide HBK).ap, (unhide HBK).lo_le⟩
      have HM2 : Hz (MkW (wr.drewN nq) lo t mk k 0) := hide (unhide HM)
      have HL2 := hide (below_drewNW (unhide HL) nq)
      clear c0 l0
      generalize wr.drewN nq = Wq at *
      go_loopw [7] (fun j wr2 => ∃ m : Nat, j = .int .i64 m ∧ m ≤ cv ∧ Hz (BkW wr2 B lo (t.map ItW.v) (t.map ItW.c) (.slice (some ⟨gl, ol, none⟩) t.length cl) wv h) ∧ Hz (MkW wr2 lo t mk k m) ∧ Hz (Below lo W wr2)) (fun j _ => cv - (intOf j).toNat)
      case atStart => exact ⟨0, rfl, by omega, HB2, HM2, HL2⟩
      case round =>
        obtain ⟨m, rfl, hm, HB3, HM3, HL3⟩ := hrel
        by_cases hmc : m < cv
        · obtain ⟨g, rfl⟩ := unhide HAV (by omega)
          have hm1 : (m : Int) < (cv : Int) := by omega
          have hm2 : ((m : Nat) : Int).toNat = m := by omega
          have hlo3 : lo ≤ wr.heap.size := by have := (unhide HL3).size; omega
          go_wp2_with fail
          refine (unhide HMK k m _ (by omega) (by omega)).mono ?_
          rintro e w' ⟨rfl, hb⟩
          obtain ⟨cur, hcur, hsz, hlg, _⟩ := ((unhide HM3).below hb).blk (unhide HIT) (unhide HV)
          have q0 : w'.cell? ⟨g, m * 8, none⟩ = some (cur[m * 8]'(by omega)) := by rw [hcur.cell, Array.getElem?_eq_getElem (by omega)]
          have f0 := hcur.frozen (m * 8)
          have q1 : w'.cell? ⟨g, m * 8 + 1, none⟩ = some (cur[m * 8 + 1]'(by omega)) := by rw [hcur.cell, Array.getElem?_eq_getElem (by omega)]
          have f1 := hcur.frozen (m * 8 + 1)
          have q2 : w'.cell? ⟨g, m * 8 + 2, none⟩ = some (cur[m * 8 + 2]'(by omega)) := by rw [hcur.cell, Array.getElem?_eq_getElem (by omega)]
          have f2 := hcur.frozen (m * 8 + 2)
          have q3 : w'.cell? ⟨g, m * 8 + 3, none⟩ = some (cur[m * 8 + 3]'(by omega)) := by rw [hcur.cell, Array.getElem?_eq_getElem (by omega)]
          have f3 := hcur.frozen (m * 8 + 3)
          have q4 : w'.cell? ⟨g, m * 8 + 4, none⟩ = some (cur[m * 8 + 4]'(by omega)) := by rw [hcur.cell, Array.getElem?_eq_getElem (by omega)]
          have f4 := hcur.frozen (m * 8 + 4)
          have q5 : w'.cell? ⟨g, m * 8 + 5, none⟩ = some (cur[m * 8 + 5]'(by omega)) := by rw [hcur.cell, Array.getElem?_eq_getElem (by omega)]
          have f5 := hcur.frozen (m * 8 + 5)
          have q6 : w'.cell? ⟨g, m * 8 + 6, none⟩ = some (cur[m * 8 + 6]'(by omega)) := by rw [hcur.cell, Array.getElem?_eq_getElem (by omega)]
          have f6 := hcur.frozen (m * 8 + 6)
          have q7 : w'.cell? ⟨g, m * 8 + 7, none⟩ = some (cur[m * 8 + 7]'(by omega)) := by rw [hcur.cell, Array.getElem?_eq_getElem (by omega)]
          have f7 := hcur.frozen (m * 8 + 7)
          have hb4 := ((unhide HB3).below hb).elems (w8Cells (mk k m)) _ _ (m * 8) hcur
          have hm4 := ((unhide HM3).below hb).set (unhide HD) (unhide HIT) (unhide HV) hmc (mk k m) rfl
          have hl4 := below_putL hlg (w8Cells (mk k m)) _ (m * 8) ((unhide HL3).trans (hb.mono hlo3))
          generalize mk k m = z at *
          obtain ⟨z0, z1, z2, z3, z4, z5, z6, z7⟩ := z
          simp only [w8Cells, putL, Nat.add_assoc, Nat.reduceAdd] at hb4 hm4 hl4
          have HB4 := hide hb4
          have HM4 := hide hm4
          have HL4 := hide hl4
          clear hb4 hm4 hl4
          generalize cur[m * 8]'(by omega) = y0 at q0
          generalize cur[m * 8 + 1]'(by omega) = y1 at q1
          generalize cur[m * 8 + 2]'(by omega) = y2 at q2
          generalize cur[m * 8 + 3]'(by omega) = y3 at q3
          generalize cur[m * 8 + 4]'(by omega) = y4 at q4
          generalize cur[m * 8 + 5]'(by omega) = y5 at q5
          generalize cur[m * 8 + 6]'(by omega) = y6 at q6
          generalize cur[m * 8 + 7]'(by omega) = y7 at q7
          clear hb hcur hlg
          go_wp2
          go_roundw
          case rel => exact ⟨m + 1, by go_num, by omega, HB4, HM4, HL4⟩
          case measure => simp [intOf]; omega
        · have hm1 : ¬ (m : Int) < (cv : Int) := by omega
          have HM4 := hide ((unhide HM3).next (fun it g n cap h1 h2 => by rw [unhide HIT] at h1; cases h1; rw [unhide HV] at h2; cases h2; omega))
          go_wp2
          go_roundw
          case rel => exact ⟨k + 1, by go_num, by omega, HB3, HM4, HL3⟩
          case measure => simp [intOf]; omega
    · have hk1 : ¬ (k : Int) < (t.length : Int) := by omega
      obtain rfl : k = t.length := by omega
      go_wp2
      clear hkn hk1 hk c0
      go_loopw [8] (fun i wr2 => ∃ k : Nat, i = .int .i64 k ∧ k ≤ t.length ∧ Hz (BkW wr2 B lo (t.map ItW.v) (t.map ItW.c) (.slice al t.length cl) wv h) ∧ Hz (MkW wr2 lo t mk t.length 0) ∧ Hz (Below lo W wr2)) (fun i _ => t.length - (intOf i).toNat)
      case atStart => exact ⟨0, rfl, by omega, HBK, HM, HL⟩
      case round =>
        clear HBK HM HL
        obtain ⟨k, rfl, hk, HBK, HM, HL⟩ := hrel
        have c0 := (unhide HBK).blk.cell 0
        by_cases hkn : k < t.length
        · have hk1 : (k : Int) < (t.length : Int) := by omega
          have hk2 : ((k : Nat) : Int).toNat = k := by omega
          obtain ⟨it, hit⟩ : ∃ it, t[k]? = some it := ⟨_, List.getElem?_eq_getElem hkn⟩
          obtain ⟨av, nv, cv, hv, hnc, hcm, hav⟩ := (unhide HM).form hit
          obtain ⟨gl, ol, cl', e1, hl1, hl2, hlc⟩ := (unhide HBK).ls.form (by rw [List.length_map]; omega)
          rw [List.length_map] at e1
          cases e1
          simp only [List.length_map] at HBK hl1
          have l0 : wr.cell? ⟨gl, ol + k, none⟩ = some (.slice av nv cv) := hlc k _ (by simp [hit, hv])
          have HIT := hide hit
          have HV := hide hv
          have HAV := hide hav
          have hcm' : (cv : Int) ≤ 9223372036854775807 := by unfold maxLen at hcm; omega
          clear hlc hit hv hav
          go_wp2
          go_quiet (fail)
          go_wp2
          have HB2 : Hz (BkW (wr.drewN nq) B lo (t.map ItW.v) (t.map ItW.c) (.slice (some ⟨gl, ol, none⟩) t.length cl) wv h) := hide ⟨(unhide HBK).blk, (unhide HBK).ls, (unhide HBK).ws, (unhide HBK).ap, (unhide HBK).lo_le⟩
          have HM2 : Hz (MkW (wr.drewN nq) lo t mk t.length 0) := hide (unhide HM)
          have HL2 := hide (below_drewNW (unhide HL) nq)
          clear c0 l0
          generalize wr.drewN nq = Wq at *
          go_loopw [10] (fun j wr2 => ∃ m : Nat, j = .int .i64 m ∧ m ≤ cv ∧ Hz (BkW wr2 B lo (t.map ItW.v) (t.map ItW.c) (.slice (some ⟨gl, ol, none⟩) t.length cl) wv h) ∧ Hz (MkW wr2 lo t mk t.length 0) ∧ Hz (Below lo W wr2)) (fun j _ => cv - (intOf j).toNat)
          case atStart => exact ⟨0, rfl, by omega, HB2, HM2, HL2⟩
          case round =>
            obtain ⟨m, rfl, hm, HB3, HM3, HL3⟩ := hrel
            by_cases hmc : m < cv
            · obtain ⟨g, rfl⟩ := unhide HAV (by omega)
              have hm1 : (m : Int) < (cv : Int) := by omega
              have hm2 : ((m : Nat) : Int).toNat = m := by omega
              have hlo3 : lo ≤ wr.heap.size := by have := (unhide HL3).size; omega
              obtain ⟨cur, hcur, hsz, hlg, hfull⟩ := (unhide HM3).blk (unhide HIT) (unhide HV)
              have hf := hfull hkn m hmc
              have HC := hide (fun w => unhide HMK k m w (by omega) (by omega))
              generalize mk k m = z at hf HC
              obtain ⟨z0, z1, z2, z3, z4, z5, z6, z7⟩ := z
              have q0 : wr.cell? ⟨g, m * 8, none⟩ = some (.int .i64 z0) := by rw [hcur.cell]; exact hf 0 _ rfl
              have q1 : wr.cell? ⟨g, m * 8 + 1, none⟩ = some (.string z1) := by rw [hcur.cell]; exact hf 1 _ rfl
              have q2 : wr.cell? ⟨g, m * 8 + 2, none⟩ = some (.int .i32 z2) := by rw [hcur.cell]; exact hf 2 _ rfl
              have q3 : wr.cell? ⟨g, m * 8 + 3, none⟩ = some (.int .i64 z3) := by rw [hcur.cell]; exact hf 3 _ rfl
              have q4 : wr.cell? ⟨g, m * 8 + 4, none⟩ = some (.int .i64 z4) := by rw [hcur.cell]; exact hf 4 _ rfl
              have q5 : wr.cell? ⟨g, m * 8 + 5, none⟩ = some (.int .i64 z5) := by rw [hcur.cell]; exact hf 5 _ rfl
              have q6 : wr.cell? ⟨g, m * 8 + 6, none⟩ = some (.int .i64 z6) := by rw [hcur.cell]; exact hf 6 _ rfl
              have q7 : wr.cell? ⟨g, m * 8 + 7, none⟩ = some (.int .i64 z7) := by rw [hcur.cell]; exact hf 7 _ rfl
              have HQ := hide (And.intro q0 (And.intro q1 (And.intro q2 (And.intro q3 (And.intro q4 (And.intro q5 (And.intro q6 q7)))))))
              have e0 : (z0 == z0) = true := by simp
              have e1 : (z1.toList == z1.toList) = true := by simp
              have e2 : (z2 == z2) = true := by simp
              have e3 : (z3 == z3) = true := by simp
              have e4 : (z4 == z4) = true := by simp
              have e5 : (z5 == z5) = true := by simp
              have e6 : (z6 == z6) = true := by simp
              have e7 : (z7 == z7) = true := by simp
              clear hfull hcur hf
              go_wp2
              go_region_with ((go_at_call 13; refine (unhide HC _).mono ?_; rintro e w' ⟨rfl, hb⟩; have r0 := (Below.cell (p := ⟨g, m * 8, none⟩) (show Below wr.heap.size wr w' from ⟨hb.os, hb.tape, hb.output, hb.size, hb.block⟩) (cell_lt (unhide HQ).1)).trans (unhide HQ).1; have r1 := (Below.cell (p := ⟨g, m * 8 + 1, none⟩) (show Below wr.heap.size wr w' from ⟨hb.os, hb.tape, hb.output, hb.size, hb.block⟩) (cell_lt (unhide HQ).2.1)).trans (unhide HQ).2.1; have r2 := (Below.cell (p := ⟨g, m * 8 + 2, none⟩) (show Below wr.heap.size wr w' from ⟨hb.os, hb.tape, hb.output, hb.size, hb.block⟩) (cell_lt (unhide HQ).2.2.1)).trans (unhide HQ).2.2.1; have r3 := (Below.cell (p := ⟨g, m * 8 + 3, none⟩) (show Below wr.heap.size wr w' from ⟨hb.os, hb.tape, hb.output, hb.size, hb.block⟩) (cell_lt (unhide HQ).2.2.2.1)).trans (unhide HQ).2.2.2.1; have r4 := (Below.cell (p := ⟨g, m * 8 + 4, none⟩) (show Below wr.heap.size wr w' from ⟨hb.os, hb.tape, hb.output, hb.size, hb.block⟩) (cell_lt (unhide HQ).2.2.2.2.1)).trans (unhide HQ).2.2.2.2.1; have r5 := (Below.cell (p := ⟨g, m * 8 + 5, none⟩) (show Below wr.heap.size wr w' from ⟨hb.os, hb.tape, hb.output, hb.size, hb.block⟩) (cell_lt (unhide HQ).2.2.2.2.2.1)).trans (unhide HQ).2.2.2.2.2.1; have r6 := (Below.cell (p := ⟨g, m * 8 + 6, none⟩) (show Below wr.heap.size wr w' from ⟨hb.os, hb.tape, hb.output, hb.size, hb.block⟩) (cell_lt (unhide HQ).2.2.2.2.2.2.1)).trans (unhide HQ).2.2.2.2.2.2.1; have r7 := (Below.cell (p := ⟨g, m * 8 + 7, none⟩) (show Below wr.heap.size wr w' from ⟨hb.os, hb.tape, hb.output, hb.size, hb.block⟩) (cell_lt (unhide HQ).2.2.2.2.2.2.2)).trans (unhide HQ).2.2.2.2.2.2.2))
              all_goals
                have hb' : Below wr.heap.size wr w' := ⟨hb.os, hb.tape, hb.output, hb.size, hb.block⟩
                have HB4 := hide ((unhide HB3).below hb')
                have HM4 := hide ((unhide HM3).below hb')
                have HL4 := hide ((unhide HL3).trans (hb'.mono hlo3))
                clear hb hb'
                go_wp2
                go_roundw
                case rel => exact ⟨m + 1, by go_num, by omega, HB4, HM4, HL4⟩
                case measure => simp [intOf]; omega
            · have hm1 : ¬ (m : Int) < (cv : Int) := by omega
              go_wp2
              go_roundw
              case rel => exact ⟨k + 1, by go_num, by omega, HB3, HM3, HL3⟩
              case measure => simp [intOf]; omega
        · have hk1 : ¬ (k : Int) < (t.length : Int) := by omega
          have f0 := (unhide HBK).blk.frozen 0
          have f1 := (unhide HBK).blk.frozen 1
          have f2 := (unhide HBK).blk.frozen 2
          have c1 := (unhide HBK).blk.cell 1
          have c2 := (unhide HBK).blk.cell 2
          have HE := hide ((((unhide HL).setCell (p := ⟨B, 0, none⟩) (unhide HBK).lo_le (.slice none 0 0)).setCell (p := ⟨B, 1, none⟩) (unhide HBK).lo_le (.slice none 0 0)).setCell (p := ⟨B, 2, none⟩) (unhide HBK).lo_le (.int .i64 0))
          go_wp2
          go_ret
          exact ⟨rfl, unhide HE⟩
end Go.Proofs.YtcnhkhjkeemafaaDoor
