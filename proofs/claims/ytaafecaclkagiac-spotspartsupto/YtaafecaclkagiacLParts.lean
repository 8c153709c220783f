/- SpotsParts, for every text and every list of at most a million numbers: the pieces, one behind the other, are the text, one more than the counts, none longer than asked but the last. -/
import Derived.Test.YtaafecaclkagiacParts2
namespace Go.Proofs.Ytaafecaclkagiac
open Go.RowKit Go.Shelf
set_option linter.unusedVariables false

/-- Where the piece number i begins; behind the last one the end. -/
def ce (c : Nat) (zs : List Int) (i : Nat) : Nat := if i ≤ zs.length then cp c zs i else c
theorem ce_le (c : Nat) (zs : List Int) (i : Nat) : ce c zs i ≤ c := by
  unfold ce
  split
  · exact cp_le c zs i (by omega)
  · exact Nat.le_refl _
theorem ce_mono (c : Nat) (zs : List Int) (i : Nat) : ce c zs i ≤ ce c zs (i + 1) := by
  unfold ce
  by_cases h : i + 1 ≤ zs.length
  · rw [if_pos h, if_pos (by omega)]
    exact cp_mono c zs i (by omega)
  · rw [if_neg h]
    split
    · exact cp_le c zs i (by omega)
    · exact Nat.le_refl _
theorem ce_succ (c : Nat) (zs : List Int) (i : Nat) (h : i < zs.length) : ce c zs (i + 1) = ce c zs i + min (zs.getD i 0).toNat (c - ce c zs i) := by
  unfold ce
  rw [if_pos (by omega), if_pos (by omega), cp_succ c zs i h]
  rfl
theorem pc_ce (s : ByteArray) (zs : List Int) (i : Nat) (h : i ≤ zs.length) : pc s zs i = s.extract (pl s (ce (starts s).length zs i)) (pl s (ce (starts s).length zs (i + 1))) := by
  unfold pc ce
  rw [if_pos h]
  by_cases h2 : i < zs.length
  · rw [if_pos h2, if_pos (by omega)]
  · rw [if_neg h2, if_neg (by omega)]
theorem pcs_get (s : ByteArray) (zs : List Int) (n i : Nat) (h : i < n) : (pcs s zs n)[i]? = some (.string (pc s zs i)) := by
  unfold pcs
  rw [List.getElem?_map, List.getElem?_range h]
  rfl

set_option maxRecDepth 100000 in
set_option maxHeartbeats 2000000 in
theorem lparts_long (s : ByteArray) (hl : 65536 < s.size) (hm : s.size ≤ maxLen) (a : Option Addr) (n cap : Nat) (w : World) : Calls Try.prog 6 #[.string s, .slice a n cap] w fun e w' => e = .returned (.bool true) ∧ Below w.heap.size w w' := by
  go_enter Try.func6, Try.ntmps6
  go_wp2_with fail
  refine (begun_long s hl hm _).mono ?_
  rintro e w1 ⟨rfl, hb⟩
  have HB := hide hb
  clear hb
  go_wp2
  go_ret
  exact ⟨rfl, unhide HB⟩

set_option maxRecDepth 100000 in
set_option maxHeartbeats 8000000 in
theorem lparts_in (s : ByteArray) (hs : s.size ≤ 65536) (a : Option Addr) (cap : Nat) (zs : List Int) (hz : zs.length ≤ 1048576) (w : World) (hr : RowN w a zs) :
    Calls Try.prog 6 #[.string s, .slice a zs.length cap] w fun e w' => e = .returned (.bool true) ∧ Below w.heap.size w w' := by
  have hnl := starts_length s
  have HR := hide hr
  have hzi : (zs.length : Int) ≤ 1048576 := by omega
  have hne : (((zs.length + 1 : Nat) : Int) != (zs.length : Int) + 1) = false := by simp
  clear hr
  go_enter Try.func6, Try.ntmps6
  go_wp2_with fail
  refine (begun_any s hs _).mono ?_
  rintro e w1 ⟨B, rfl, hT, hb⟩
  have HT1 := hide hT
  have HB1 := hide hb
  have HR1 := hide ((unhide HR).below hb (Nat.le_refl _))
  clear hT hb
  go_wp2_with fail
  refine (parts_text B s hs a cap zs hz _ (unhide HT1) (unhide HR1)).mono ?_
  rintro e w2 ⟨v, rfl, hown, hb⟩
  have HT2 := hide ((unhide HT1).below hb (Nat.le_refl _))
  have HR2 := hide ((unhide HR1).below hb (Nat.le_refl _))
  have HB2 := hide ((unhide HB1).trans (hb.mono (unhide HB1).size))
  obtain ⟨g, cap2, rfl⟩ := ownsRow_succ hown
  have hgl := (own_block_lt hown g rfl).2
  have hcl : ∀ i, i ≤ zs.length → w2.cell? ⟨g, i, none⟩ = some (.string (pc s zs i)) := fun i hi => by
    have := hown.cells (g := g) rfl i _ (pcs_get s zs (zs.length + 1) i (by omega))
    rw [add_none, Nat.zero_add] at this
    exact this
  have HCL := hide hcl
  clear hb hown hcl
  go_wp2
  go_loopw [9, 10, 11] (fun al q i wr => ∃ j : Nat, j ≤ zs.length + 1 ∧ i = .int .i64 j ∧ al = .string (s.extract 0 (pl s (ce (starts s).length zs j))) ∧ q = .int .i64 (ce (starts s).length zs j) ∧ Hid (Below w2.heap.size w2 wr)) (fun _ _ i _ => zs.length + 1 - (intOf i).toNat)
  case atStart =>
    refine ⟨0, by omega, rfl, ?_, rfl, hide (Below.refl _ _)⟩
    have e : ce (starts s).length zs 0 = 0 := rfl
    rw [e, pl_zero]
    have e2 : s.extract 0 0 = ⟨#[]⟩ := by apply ByteArray.ext; simp
    rw [e2]
  case round =>
    obtain ⟨j, hj, rfl, rfl, rfl, HB⟩ := hrel
    have HT := hide ((unhide HT2).below (unhide HB) (Nat.le_refl _))
    have HRr := hide ((unhide HR2).below (unhide HB) (Nat.le_refl _))
    have hcb := ce_le (starts s).length zs j
    by_cases hjn : j < zs.length + 1
    · have ck : wr.cell? ⟨g, j, none⟩ = some (.string (pc s zs j)) := ((unhide HB).cell (p := ⟨g, j, none⟩) hgl).trans (unhide HCL j (by omega))
      have hj1 : (j : Int) < ((zs.length + 1 : Nat) : Int) := by omega
      have hj2 : ((j : Nat) : Int).toNat = j := by omega
      have hcb2 := ce_le (starts s).length zs (j + 1)
      have hmo := ce_mono (starts s).length zs j
      have hpc := pc_ce s zs j (by omega)
      have hcnt := starts_mid s _ _ hmo hcb2
      have hjoin := ext_join s 0 (pl s (ce (starts s).length zs j)) (pl s (ce (starts s).length zs (j + 1))) (by omega) (pl_mono s _ _ hmo hcb2) (pl_le s _ hcb2)
      rw [← hpc] at hcnt hjoin
      have hsz := congrArg ByteArray.size hjoin
      rw [ByteArray.size_append] at hsz
      have hsz2 : (s.extract 0 (pl s (ce (starts s).length zs (j + 1)))).size ≤ s.size := by rw [ByteArray.size_extract]; omega
      have hstep : j < zs.length → ce (starts s).length zs (j + 1) = ce (starts s).length zs j + min (zs.getD j 0).toNat ((starts s).length - ce (starts s).length zs j) := ce_succ (starts s).length zs j
      generalize hc0 : ce (starts s).length zs j = f at *
      generalize hc1 : ce (starts s).length zs (j + 1) = f2 at *
      obtain ⟨k, hk⟩ : ∃ k, k = f2 - f := ⟨_, rfl⟩
      have hkf : (f : Int) + (k : Int) = (f2 : Int) := by omega
      have hkb : (k : Int) ≤ 65536 := by omega
      have hfb : (f : Int) ≤ 65536 := by omega
      rw [← hk] at hcnt
      generalize pc s zs j = X at *
      generalize s.extract 0 (pl s f) = al at *
      generalize hal2 : s.extract 0 (pl s f2) = al2 at *
      have hmX : X.size ≤ maxLen := by unfold maxLen; omega
      have hsum1 : al.size + X.size ≤ 65536 := by omega
      have hsum2 : (al.size : Int) + (X.size : Int) ≤ 65536 := by omega
      have hsum3 : ¬ (s.size : Int) < (al2.size : Int) := by omega
      have HCNT := hide hcnt
      have HMX := hide hmX
      have HC1 := hide hc1
      have HAL := hide hal2
      clear hcnt hmX hc0 hc1 hal2 hpc hmo hcb2 hcb hsz hsz2
      by_cases hjz : j < zs.length
      · have hj3 : (j : Int) < (zs.length : Int) := by omega
        have hst := hstep hjz
        obtain ⟨ga, oa, rfl, hga, hcell⟩ := unhide HRr (by omega)
        have cz := hcell j hjz
        generalize zs.getD j 0 = z at *
        clear hstep hcell
        by_cases hk0 : k = 0
        · have hkb0 : ((k : Int) != 0) = false := by rw [bne_eq_false_iff_eq]; omega
          clear hst hk
          go_wp2_with fail
          refine (count_any X (unhide HMX) _).mono ?_
          rintro e w3 ⟨rfl, hb⟩
          rw [unhide HCNT]
          have ck3 := (hb.cell (p := ⟨g, j, none⟩) (cell_lt ck)).trans ck
          have cz3 := (hb.cell (p := ⟨ga, oa + j, none⟩) hga).trans cz
          have HB3 := hide ((unhide HB).trans (hb.mono (unhide HB).size))
          have HT3 := hide ((unhide HT).below hb (Nat.le_refl _))
          clear hb ck
          go_wp2
          go_roundw
          case rel => exact ⟨j + 1, by omega, by go_num, by rw [unhide HC1, unhide HAL], by have e := unhide HC1; rw [e]; try (congr 1; omega), HB3⟩
          case measure => simp [intOf]; omega
        · have hkb0 : ((k : Int) != 0) = true := by rw [bne_iff_ne]; omega
          have hkz : ¬ z < (k : Int) := by omega
          by_cases hkl : (k : Int) < z
          · have hkc : ((f2 : Int) != ((starts s).length : Int)) = false := by rw [bne_eq_false_iff_eq]; omega
            clear hst hk hk0
            go_wp2_with fail
            refine (count_any X (unhide HMX) _).mono ?_
            rintro e w3 ⟨rfl, hb⟩
            rw [unhide HCNT]
            have ck3 := (hb.cell (p := ⟨g, j, none⟩) (cell_lt ck)).trans ck
            have cz3 := (hb.cell (p := ⟨ga, oa + j, none⟩) hga).trans cz
            have HB3 := hide ((unhide HB).trans (hb.mono (unhide HB).size))
            have HT3 := hide ((unhide HT).below hb (Nat.le_refl _))
            clear hb ck
            go_wp2_with fail
            refine (count_text B s hs _ (unhide HT3)).mono ?_
            rintro e w4 ⟨rfl, rfl⟩
            go_wp2
            go_roundw
            case rel => exact ⟨j + 1, by omega, by go_num, by rw [unhide HC1, unhide HAL], by have e := unhide HC1; rw [e]; try (congr 1; omega), HB3⟩
            case measure => simp [intOf]; omega
          · clear hst hk hk0
            go_wp2_with fail
            refine (count_any X (unhide HMX) _).mono ?_
            rintro e w3 ⟨rfl, hb⟩
            rw [unhide HCNT]
            have ck3 := (hb.cell (p := ⟨g, j, none⟩) (cell_lt ck)).trans ck
            have cz3 := (hb.cell (p := ⟨ga, oa + j, none⟩) hga).trans cz
            have HB3 := hide ((unhide HB).trans (hb.mono (unhide HB).size))
            have HT3 := hide ((unhide HT).below hb (Nat.le_refl _))
            clear hb ck
            go_wp2
            go_roundw
            case rel => exact ⟨j + 1, by omega, by go_num, by rw [unhide HC1, unhide HAL], by have e := unhide HC1; rw [e]; try (congr 1; omega), HB3⟩
            case measure => simp [intOf]; omega
      · have hj3 : ¬ (j : Int) < (zs.length : Int) := by omega
        clear hstep hk
        go_wp2_with fail
        refine (count_any X (unhide HMX) _).mono ?_
        rintro e w3 ⟨rfl, hb⟩
        rw [unhide HCNT]
        have ck3 := (hb.cell (p := ⟨g, j, none⟩) (cell_lt ck)).trans ck
        have HB3 := hide ((unhide HB).trans (hb.mono (unhide HB).size))
        have HT3 := hide ((unhide HT).below hb (Nat.le_refl _))
        clear hb ck
        go_wp2
        go_roundw
        case rel => exact ⟨j + 1, by omega, by go_num, by rw [unhide HC1, unhide HAL], by have e := unhide HC1; rw [e]; try (congr 1; omega), HB3⟩
        case measure => simp [intOf]; omega
    · obtain rfl : j = zs.length + 1 := by omega
      have hj1 : ¬ ((zs.length + 1 : Nat) : Int) < ((zs.length + 1 : Nat) : Int) := by omega
      have hce : ce (starts s).length zs (zs.length + 1) = (starts s).length := by unfold ce; rw [if_neg (by omega)]
      have hex : s.extract 0 (pl s (starts s).length) = s := by rw [pl_end]; exact ByteArray.extract_zero_size
      rw [hce, hex]
      clear hce hex hcb hjn hj hzi hj1 hne
      go_wp2_with fail
      refine (count_text B s hs _ (unhide HT)).mono ?_
      rintro e w3 ⟨rfl, rfl⟩
      go_wp2
      go_ret
      exact ⟨rfl, (unhide HB2).trans ((unhide HB).mono (unhide HB2).size)⟩

theorem lparts_any (s : ByteArray) (b0 : s.size ≤ 1048576) (a : Option Addr) (len cap : Nat) (z : List Int) (w : World) (hr : ArgRow .i64 w a len cap z) (hl : z.length ≤ 1048576) :
    Calls Try.prog 6 #[.string s, .slice a len cap] w fun e w' => e = .returned (.bool true) ∧ Below w.heap.size w w' := by
  have h1 : (z.take len).length = len := by rw [List.length_take]; have := hr.1; have := hr.2.1; omega
  by_cases h : s.size ≤ 65536
  · have := lparts_in s h a cap (z.take len) (by rw [List.length_take]; omega) w hr.rowN
    rw [h1] at this
    exact this
  · exact lparts_long s (by omega) (by unfold maxLen; omega) a len cap w
end Go.Proofs.Ytaafecaclkagiac
