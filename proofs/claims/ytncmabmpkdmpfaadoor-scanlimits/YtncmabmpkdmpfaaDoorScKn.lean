/- known: what the document says of some small texts. -/
import Derived.Test.YtncmabmpkdmpfaaDoorScWords
import Derived.Test.YtncmabmpkdmpfaaDoorScText
import Derived.Test.YtncmabmpkdmpfaaDoorScLegal
namespace Go.Proofs.YtncmabmpkdmpfaaDoor
open Go.RowKit Go.Shelf
set_option linter.unusedVariables false
abbrev knA : ByteArray := ⟨#[102, 111, 108, 100, 32, 39, 65, 39, 32, 61, 32, 85, 43, 48, 48, 54, 49, 59]⟩
abbrev knB : ByteArray := ⟨#[39, 195, 169]⟩
abbrev knC : ByteArray := ⟨#[39, 195, 169, 39]⟩
theorem knA_ok : (wordsV knA).ok = true := by kernel_rfl
theorem knA_len : (wordsV knA).ws.length = 5 := by kernel_rfl
theorem knA_10 : (encWs (wordsV knA).ws)[10]? = some (.int .i32 65) := by kernel_rfl
theorem knA_26 : (encWs (wordsV knA).ws)[26]? = some (.int .i32 97) := by kernel_rfl
theorem knA_28 : (encWs (wordsV knA).ws)[28]? = some (.int .i64 11) := by kernel_rfl
theorem knA_29 : (encWs (wordsV knA).ws)[29]? = some (.int .i64 1) := by kernel_rfl
theorem knA_30 : (encWs (wordsV knA).ws)[30]? = some (.int .i64 12) := by kernel_rfl
theorem knB_ok : (wordsV knB).ok = false := by kernel_rfl
theorem knB_b : (wordsV knB).b = 3 := by kernel_rfl
theorem knB_wh : whL knB 3 = (1, 3) := by kernel_rfl
theorem knC_wh : whL knC 2 = (1, 2) := by kernel_rfl
theorem tx97 : textV 97 = (⟨#[39, 97, 39]⟩, 0) := by kernel_rfl
theorem tx233 : textV 233 = (⟨#[85, 43, 48, 48, 69, 57]⟩, 0) := by kernel_rfl
theorem lg1 : legalB ⟨#[97, 45, 57]⟩ = true := by kernel_rfl
theorem lg2 : legalB ⟨#[65]⟩ = false := by kernel_rfl
/-- What the walks lean on: the length's bound, the table. -/
structure Env (m : Int) (w : World) : Prop where
  max : w.cell? ⟨0, 0, none⟩ = some (.int .i64 m)
  tab : w.cell? ⟨6, 15, none⟩ = some (.int .u8 4)
theorem Env.below {m : Int} {w w' : World} {B : Nat} (h : Env m w) (hb : Below B w w') (hB : w.heap.size ≤ B) : Env m w' :=
  ⟨(hb.cell (p := ⟨0, 0, none⟩) (Nat.lt_of_lt_of_le (cell_lt h.max) hB)).trans h.max, (hb.cell (p := ⟨6, 15, none⟩) (Nat.lt_of_lt_of_le (cell_lt h.tab) hB)).trans h.tab⟩
theorem own_words {W : World} {lo E sz n : Nat} {v : Value} {xs : List Value} (h : W.ownsRow lo E sz v n xs) (hn : 0 < n) : ∃ g cap, v = .slice (some ⟨g, 0, none⟩) n cap ∧ g < W.heap.size ∧ ∀ (k : Nat) (u : Value), xs[k]? = some u → W.cell? ⟨g, k, none⟩ = some u := by
  rcases h.2 with ⟨rfl, h0⟩ | ⟨g, cap, cur, rfl, _, hh, _⟩
  · omega
  · refine ⟨g, cap, rfl, (Array.getElem?_eq_some_iff.1 hh).1, fun k u hk => ?_⟩
    have := h.cells (g := g) rfl k u hk
    rwa [show (⟨g, 0, none⟩ : Addr).add k = ⟨g, k, none⟩ by unfold Addr.add; split <;> simp_all] at this
set_option maxRecDepth 100000 in
set_option maxHeartbeats 8000000 in
theorem known_any (m : Int) (w : World) (hE : Env m w) : Calls Tryd.prog 7 #[] w fun e w' => e = .returned (.bool true) ∧ Below w.heap.size w w' := by
  have HE := hide hE
  have hz := cell_lt hE.max
  clear hE
  go_enter Tryd.func7, Tryd.ntmps7
  go_wp2_with fail
  refine (words_yes knA (by decide) knA_ok m _ (unhide HE).max hz).mono ?_
  rintro e w1 ⟨v, rfl, hown, hb⟩
  rw [knA_len] at hown
  obtain ⟨g, cap, rfl, hg, hcell⟩ := own_words hown (by decide)
  have hal := (Below.refl w1.heap.size w1).alloc (Nat.le_refl _) (.cells #[.int .i64 0, .int .i64 0, .int .i64 0] 26)
  have HB1 := hide (hb.trans (hal.mono hb.size))
  have HA := hide (Blk.new w1 #[.int .i64 0, .int .i64 0, .int .i64 0] 26)
  have HC := hide (And.intro (hcell 10 _ knA_10) (And.intro (hcell 26 _ knA_26) (And.intro (hcell 28 _ knA_28) (And.intro (hcell 29 _ knA_29) (hcell 30 _ knA_30)))))
  have HE1 := hide ((unhide HE).below (unhide HB1) (Nat.le_refl _))
  have HG := hide hg
  have hz1 := cell_lt (unhide HE1).max
  clear hb hal hown hcell hg HE hz
  go_wp2_with fail
  refine (words_no knB (by decide) knB_ok (by rw [knB_b]; decide) m _ (unhide HE1).max hz1).mono ?_
  rintro e w2 ⟨rfl, hb⟩
  rw [knB_b, knB_wh, show (if 3 < knB.size then (20 : Int) else 21) = 21 from rfl]
  have hal := (Below.refl w2.heap.size w2).alloc (Nat.le_refl _) (.cells #[.int .i64 3, .int .i64 1, .int .i64 3] 26)
  have hbb := hb.trans (hal.mono hb.size)
  have HB2 := hide ((unhide HB1).trans (hbb.mono (unhide HB1).size))
  have HB := hide (Blk.new w2 #[.int .i64 3, .int .i64 1, .int .i64 3] 26)
  have HA2 := hide ((unhide HA).below hbb (unhide HA).lt)
  have HE2 := hide ((unhide HE1).below hbb (Nat.le_refl _))
  have hgc : ∀ k, (w2.alloc (.cells #[.int .i64 3, .int .i64 1, .int .i64 3] 26)).cell? ⟨g, k, none⟩ = w1.cell? ⟨g, k, none⟩ := fun k => (hbb.cell (p := ⟨g, k, none⟩) (by have := unhide HG; simp; omega)).trans (Below.cell (p := ⟨g, k, none⟩) ((Below.refl w1.heap.size w1).alloc (Nat.le_refl _) _) (unhide HG))
  have HC2 := hide (And.intro ((hgc 10).trans (unhide HC).1) (And.intro ((hgc 26).trans (unhide HC).2.1) (And.intro ((hgc 28).trans (unhide HC).2.2.1) (And.intro ((hgc 29).trans (unhide HC).2.2.2.1) ((hgc 30).trans (unhide HC).2.2.2.2)))))
  have hg2 : g < (w2.alloc (.cells #[.int .i64 3, .int .i64 1, .int .i64 3] 26)).heap.size := by have := unhide HG; have := hbb.size; simp at this ⊢; omega
  have HG2 := hide hg2
  clear hb hal hbb hgc hg2 HB1 HA HE1 HC HG hz1
  go_wp2_with fail
  refine (text_scan 97 _ (unhide HE2).tab).mono ?_
  rintro e w3 ⟨rfl, hb⟩
  rw [tx97]
  have HB3 := hide ((unhide HB2).trans (hb.mono (unhide HB2).size))
  have HBb := hide ((unhide HB).below hb (unhide HB).lt)
  have HA3 := hide ((unhide HA2).below hb (unhide HA2).lt)
  have HE3 := hide ((unhide HE2).below hb (Nat.le_refl _))
  have hgc : ∀ k, w3.cell? ⟨g, k, none⟩ = (w2.alloc (.cells #[.int .i64 3, .int .i64 1, .int .i64 3] 26)).cell? ⟨g, k, none⟩ := fun k => hb.cell (p := ⟨g, k, none⟩) (unhide HG2)
  have HC3 := hide (And.intro ((hgc 10).trans (unhide HC2).1) (And.intro ((hgc 26).trans (unhide HC2).2.1) (And.intro ((hgc 28).trans (unhide HC2).2.2.1) (And.intro ((hgc 29).trans (unhide HC2).2.2.2.1) ((hgc 30).trans (unhide HC2).2.2.2.2)))))
  have hg3 : g < w3.heap.size := by have := unhide HG2; have := hb.size; omega
  have HG3 := hide hg3
  clear hb hgc hg3 HB2 HB HA2 HE2 HC2 HG2
  go_wp2_with fail
  refine (text_scan 233 _ (unhide HE3).tab).mono ?_
  rintro e w4 ⟨rfl, hb⟩
  rw [tx233]
  have HB4 := hide ((unhide HB3).trans (hb.mono (unhide HB3).size))
  have HBc := hide ((unhide HBb).below hb (unhide HBb).lt)
  have HA4 := hide ((unhide HA3).below hb (unhide HA3).lt)
  have hgc : ∀ k, w4.cell? ⟨g, k, none⟩ = w3.cell? ⟨g, k, none⟩ := fun k => hb.cell (p := ⟨g, k, none⟩) (unhide HG3)
  have c10 := (hgc 10).trans (unhide HC3).1
  have c26 := (hgc 26).trans (unhide HC3).2.1
  have c28 := (hgc 28).trans (unhide HC3).2.2.1
  have c29 := (hgc 29).trans (unhide HC3).2.2.2.1
  have c30 := (hgc 30).trans (unhide HC3).2.2.2.2
  have a0 := (unhide HA4).cell 0
  have a1 := (unhide HA4).cell 1
  have a2 := (unhide HA4).cell 2
  have b0 := (unhide HBc).cell 0
  have b1 := (unhide HBc).cell 1
  have b2 := (unhide HBc).cell 2
  clear hb hgc HB3 HBb HA3 HC3 HG3
  go_wp2_with fail
  refine (legal_any ⟨#[97, 45, 57]⟩ (by decide) _).mono ?_
  rintro e w5 ⟨rfl, rfl⟩
  rw [lg1]
  go_wp2_with fail
  refine (legal_any ⟨#[65]⟩ (by decide) _).mono ?_
  rintro e w6 ⟨rfl, rfl⟩
  rw [lg2]
  go_wp2_with fail
  refine (show Calls Tryd.prog 10 #[.string knC, .int .i64 2] _ _ from where_in knC (by decide) 2 (by decide) _).mono ?_
  rintro e w7 ⟨rfl, hb⟩
  rw [knC_wh]
  have HB5 := hide ((unhide HB4).trans (hb.mono (unhide HB4).size))
  clear hb
  go_wp2_with fail
  go_ret
  exact ⟨rfl, unhide HB5⟩
end Go.Proofs.YtncmabmpkdmpfaaDoor
