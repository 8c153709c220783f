/- ScanBack: a rune as it is written is that rune alone. -/
import Derived.Test.YtncmabmpkdmpfaaDoorScKn
import Derived.Test.YtncmabmpkdmpfaaDoorScBackM
namespace Go.Proofs.YtncmabmpkdmpfaaDoor
open Go.RowKit Go.Shelf
set_option linter.unusedVariables false
/-- What the one word's cells are. -/
theorem one_cells {s : ByteArray} {n : Nat} (h : OneRune s n) : (wordsV s).ws.length = 1 ∧ (encWs (wordsV s).ws)[0]? = some (.int .i64 3) ∧ (encWs (wordsV s).ws)[2]? = some (.int .i32 n) ∧ (encWs (wordsV s).ws)[4]? = some (.int .i64 0) ∧ (encWs (wordsV s).ws)[5]? = some (.int .i64 1) ∧ (encWs (wordsV s).ws)[6]? = some (.int .i64 1) ∧ (encWs (wordsV s).ws)[7]? = some (.int .i64 s.size) := by
  rw [h.ws]
  exact ⟨rfl, rfl, rfl, rfl, rfl, rfl, rfl⟩
theorem words_rune {s : ByteArray} {n : Nat} (h : OneRune s n) (m : Int) (w : World) (hE : Env m w) :
    Calls Tryd.prog 13 #[.string s] w fun e w' => ∃ g cap, e = .returned (.tuple #[.slice (some ⟨g, 0, none⟩) 1 cap, .agg #[.int .i64 0, .int .i64 0, .int .i64 0], .int .i64 0]) ∧ g < w'.heap.size ∧ w'.cell? ⟨g, 0, none⟩ = some (.int .i64 3) ∧ w'.cell? ⟨g, 2, none⟩ = some (.int .i32 n) ∧ w'.cell? ⟨g, 4, none⟩ = some (.int .i64 0) ∧ w'.cell? ⟨g, 5, none⟩ = some (.int .i64 1) ∧ w'.cell? ⟨g, 6, none⟩ = some (.int .i64 1) ∧ w'.cell? ⟨g, 7, none⟩ = some (.int .i64 s.size) ∧ Below w.heap.size w w' := by
  refine (words_yes s h.small h.ok m w hE.max (cell_lt hE.max)).mono ?_
  rintro e w1 ⟨v, rfl, hown, hb⟩
  obtain ⟨hl, c0, c2, c4, c5, c6, c7⟩ := one_cells h
  rw [hl] at hown
  obtain ⟨g, cap, rfl, hg, hcell⟩ := own_words hown (by decide)
  exact ⟨g, cap, rfl, hg, hcell 0 _ c0, hcell 2 _ c2, hcell 4 _ c4, hcell 5 _ c5, hcell 6 _ c6, hcell 7 _ c7, hb⟩
set_option maxRecDepth 100000 in
set_option maxHeartbeats 4000000 in
theorem law_scanback (r : Int) (_ : (Lit.int .i32 r).wf = true) (m : Int) (w : World) (hE : Env m w) : Calls Tryd.prog 5 #[.int .i32 r] w fun e w' => e = .returned (.bool true) ∧ Below w.heap.size w w' := by
  by_cases h0 : widthOf r = 0
  · have hv : textV r = (⟨#[]⟩, 12) := by unfold textV; rw [if_pos h0]
    have hc : r < 0 ∨ (¬ r < 0 ∧ (1114111 : Int) < r) ∨ (¬ r < 0 ∧ ¬ (1114111 : Int) < r ∧ (55296 : Int) ≤ r ∧ r ≤ 57343) := by
      unfold widthOf at h0
      split at h0
      · omega
      · exfalso; repeat' split at h0
        all_goals omega
    have HT := hide (text_scan r w hE.tab)
    rw [hv] at HT
    have HE := hide hE
    clear hE h0 hv
    rcases hc with c1 | ⟨c1, c2⟩ | ⟨c1, c2, c3, c4⟩
    all_goals
      go_enter Tryd.func5, Tryd.ntmps5
      go_wp2_with fail
      refine (unhide HT).mono ?_
      rintro e w1 ⟨rfl, hb⟩
      have HE1 := hide ((unhide HE).below hb (Nat.le_refl _))
      have HB := hide hb
      clear hb
      go_wp2_with fail
      refine (known_any m _ (unhide HE1)).mono ?_
      rintro e w2 ⟨rfl, hb⟩
      have HB2 := hide ((unhide HB).trans (hb.mono (unhide HB).size))
      clear hb
      go_wp2_with fail
      go_ret
      exact ⟨rfl, unhide HB2⟩
  · obtain ⟨ho, h2⟩ := one_text h0
    have hbd := width_bound r h0
    obtain ⟨n, rfl⟩ : ∃ n : Nat, r = n := ⟨r.toNat, by omega⟩
    rw [Int.toNat_natCast] at ho
    obtain ⟨s, hs⟩ : ∃ s, s = (textV (n : Int)).1 := ⟨_, rfl⟩
    have HT := hide (text_scan n w hE.tab)
    rw [h2, ← hs] at HT
    rw [← hs] at ho
    have HO := hide ho
    have HE := hide hE
    have hsz := ho.small
    have hnb : (n : Int) ≤ 1114111 := by omega
    have hcase : (n : Int) < 32 ∨ (¬ (n : Int) < 32 ∧ ((n : Int) == 39) = true) ∨ (¬ (n : Int) < 32 ∧ ((n : Int) == 39) = false ∧ ((n : Int) == 127) = true) ∨ (¬ (n : Int) < 32 ∧ ((n : Int) == 39) = false ∧ ((n : Int) == 127) = false) := by
      simp only [beq_iff_eq, beq_eq_false_iff_ne, ne_eq]
      omega
    have hq : ∀ (_ : ¬ (n : Int) < 32) (_ : ((n : Int) == 39) = false) (_ : ((n : Int) == 127) = false), OneRune (quoS n) n := fun a b c => by
      have := one_quoted h0 (by omega) (by simpa using b) (by simpa using c)
      rwa [Int.toNat_natCast] at this
    have hqe : ⟨#[39]⟩ ++ Utf8.encode (n : Int) ++ ⟨#[39]⟩ = quoS n := rfl
    have hes := enc_size h0
    have hqs := quoS_size h0
    obtain ⟨u, hu⟩ : ∃ u, u = (⟨#[39]⟩ : ByteArray) ++ Utf8.encode (n : Int) := ⟨_, rfl⟩
    have hus : u.size = 1 + (Utf8.encode (n : Int)).size := by rw [hu, ByteArray.size_append]; rfl
    have HQ := hide hq
    clear hq h0 ho hs h2 hE hbd
    go_enter Tryd.func5, Tryd.ntmps5
    go_wp2_with fail
    refine (unhide HT).mono ?_
    rintro e w1 ⟨rfl, hb⟩
    have HE1 := hide ((unhide HE).below hb (Nat.le_refl _))
    have HB := hide hb
    clear hb HT HE
    go_wp2_with fail
    refine (words_rune (unhide HO) m _ (unhide HE1)).mono ?_
    rintro e w2 ⟨g, cap, rfl, hg, c0, c2, c4, c5, c6, c7, hb⟩
    have HE2 := hide ((unhide HE1).below hb (Nat.le_refl _))
    have HB2 := hide ((unhide HB).trans (hb.mono (unhide HB).size))
    clear hb HE1 HB
    have hal := fun o => (unhide HB2).alloc (unhide HB2).size o
    have hEa : ∀ o, Env m (w2.alloc o) := fun o => (unhide HE2).below ((Below.refl w2.heap.size w2).alloc (Nat.le_refl _) o) (Nat.le_refl _)
    have HAL := hide hal
    have HEA := hide hEa
    clear hal hEa
    rcases hcase with d1 | ⟨d1, d2⟩ | ⟨d1, d2, d3⟩ | ⟨d1, d2, d3⟩
    iterate 3
      · go_wp2_with fail
        refine (known_any m _ (unhide HEA _)).mono ?_
        rintro e w3 ⟨rfl, hb⟩
        have HB3 := hide ((unhide HAL _).trans (hb.mono (unhide HAL _).size))
        clear hb
        go_wp2_with fail
        go_ret
        exact ⟨rfl, unhide HB3⟩
    · have hq := unhide HQ d1 d2 d3
      have HQ2 := hide hq
      clear hq HQ
      go_wp2_with fail
      refine (words_rune (unhide HQ2) m _ (unhide HEA _)).mono ?_
      rintro e w3 ⟨g2, cap2, rfl, hg2, k0, k2, k4, k5, k6, k7, hb⟩
      have HE3 := hide ((unhide HEA _).below hb (Nat.le_refl _))
      have HB3 := hide ((unhide HAL _).trans (hb.mono (unhide HAL _).size))
      clear hb
      go_wp2_with fail
      refine (known_any m _ (unhide HE3)).mono ?_
      rintro e w4 ⟨rfl, hb⟩
      have HB4 := hide ((unhide HB3).trans (hb.mono (unhide HB3).size))
      clear hb
      go_wp2_with fail
      go_ret
      exact ⟨rfl, unhide HB4⟩
end Go.Proofs.YtncmabmpkdmpfaaDoor
