/- Union and Minus of two sets. -/
import Derived.Test.YtodikfaddfojgaaSetOf
import Derived.Test.YtodikfaddfojgaaSetConcat
namespace Go.Proofs.Ytodikfaddfojgaa
open Go.RowKit Go.Shelf
set_option linter.unusedVariables false
theorem right_both {zs ys : List (Int × Int)} (h : Spread zs) (g : Spread ys) : RightL (zs ++ ys) := fun x hx => by
  rcases List.mem_append.1 hx with e | e
  · exact h.ends x e
  · exact g.ends x e
set_option maxRecDepth 100000 in
set_option maxHeartbeats 4000000 in
theorem union_any (B : Nat) (p : Option Addr) (zs ys : List (Int × Int)) (hz : zs.length ≤ 10000) (hy : ys.length ≤ 10000) (w : World) (hs : SetAt w B zs) (ht : SomeAt w p ys) :
    Calls Try.prog 9 #[.pointer (some ⟨B, 0, none⟩), .pointer p] w fun e w' => ∃ (B' lo0 : Nat) (us : List (Int × Int)), e = .returned (.pointer (some ⟨B', 0, none⟩)) ∧ w.heap.size ≤ lo0 ∧ Made w' B' lo0 us ∧ Spread us ∧ us.length ≤ zs.length + ys.length ∧ (∀ r, memB us r = (memB zs r || memB ys r)) ∧ Below w.heap.size w w' := by
  have hRt := right_both hs.spread ht.spread
  obtain ⟨⟨a, ca, b, cb, hb0, hp, ha⟩, hsp, hl⟩ := hs
  have d0 := hb0.cell 0
  have d1 := alloc1 d0
  have hmx2 : Try.prog.follows .mixedOrders = true := by kernel_rfl
  have hmem : ∀ r, memB (zs ++ ys) r = (memB zs r || memB ys r) := memB_append zs ys
  have hlen : (zs ++ ys).length = zs.length + ys.length := List.length_append
  rcases ht with ⟨rfl, rfl⟩ | ⟨C, rfl, hC⟩
  · have HSo := hide (fun w => some_nil w)
    have x0 := (Blk.new w #[.slice none 0 0, .slice none 0 0] 54).cell 0
    obtain ⟨W1, hW1⟩ : ∃ W1, W1 = ((w.alloc (.cells #[.slice none 0 0, .slice none 0 0] 54)).alloc (.cells #[.slice a zs.length ca, .slice none 0 0] 22)).drew := ⟨_, rfl⟩
    have hb1 : Below w.heap.size w W1 := by rw [hW1]; exact (((Below.refl w.heap.size w).alloc (Nat.le_refl _) _).alloc (by simp) _).drew
    have hG : Blk W1 (w.heap.size + 1) #[.slice a zs.length ca, .slice none 0 0] 22 := by
      have := Blk.new (w.alloc (.cells #[.slice none 0 0, .slice none 0 0] 54)) #[.slice a zs.length ca, .slice none 0 0] 22
      rw [World.size_alloc] at this
      rw [hW1]
      exact this
    have hCo := concatP_any (w.heap.size + 1) a none ca 0 zs [] (by omega) (by simp) W1 hG (hp.below hb1) (fun h => by simp at h)
    generalize zs ++ [] = us at *
    have HCo := hide hCo
    have HB1 := hide hb1
    have HRt := hide hRt
    have HMe := hide hmem
    have HLe := hide hlen
    rw [hW1] at HCo
    clear hp ha hsp hb0 hl hb1 hG hCo hRt hmem hlen
    go_enter Try.func9, Try.ntmps9
    go_wp2_with fail
    go_region_law (first
      | (go_simp; refine (unhide HSo _).mono ?_; rintro e w2 ⟨rfl, rfl⟩)
      | (go_simp; refine (unhide HCo).mono ?_; rintro e w2 ⟨v, rfl, hown, hb⟩; obtain ⟨av, cv, rfl, hrow, _, _⟩ := own_row hown; have HRow := hide hrow; have HBc := hide hb; clear hown hrow hb)
      | (go_simp; refine (of_right av cv us (by have := unhide HLe; simp at this; omega) (unhide HRt) _ (unhide HRow)).mono ?_; rintro e w3 ⟨B', lo0, os, rfl, h1, h2, h3, h4, h5, h6⟩; have HE := hide (And.intro h1 (And.intro h2 (And.intro h3 (And.intro h4 (And.intro h5 h6))))); clear h1 h2 h3 h4 h5 h6))
    all_goals
      rw [← hW1] at HBc
      go_wp2
      go_ret
      obtain ⟨h1, h2, h3, h4, h5, h6⟩ := unhide HE
      have s1 := (unhide HB1).size
      have s2 := (unhide HBc).size
      have hle := unhide HLe
      have hle2 : us.length = zs.length := by simpa using hle
      exact ⟨B', rfl, lo0, by omega, os, h2, h3, by first | omega | (simp; omega), fun r => by rw [h5 r, unhide HMe r], (unhide HB1).trans (((unhide HBc).trans (h6.mono s2)).mono s1)⟩
  · obtain ⟨⟨c, cc, d, cd, hc0, hq, _⟩, _, hl'⟩ := hC
    have e0 := hc0.cell 0
    have e1 := alloc1 e0
    have HSo := hide (fun w => some_any C w)
    obtain ⟨W1, hW1⟩ : ∃ W1, W1 = (w.alloc (.cells #[.slice a zs.length ca, .slice c ys.length cc] 22)).drew := ⟨_, rfl⟩
    have hb1 : Below w.heap.size w W1 := by rw [hW1]; exact ((Below.refl w.heap.size w).alloc (Nat.le_refl _) _).drew
    have hG : Blk W1 w.heap.size #[.slice a zs.length ca, .slice c ys.length cc] 22 := by
      rw [hW1]
      exact Blk.new w #[.slice a zs.length ca, .slice c ys.length cc] 22
    have hCo := concatP_any w.heap.size a c ca cc zs ys (by omega) (by omega) W1 hG (hp.below hb1) (hq.below hb1)
    generalize zs ++ ys = us at *
    have HCo := hide hCo
    have HB1 := hide hb1
    have HRt := hide hRt
    have HMe := hide hmem
    have HLe := hide hlen
    rw [hW1] at HCo
    clear hp ha hsp hb0 hl hb1 hG hCo hRt hmem hlen hc0 hq hl'
    go_enter Try.func9, Try.ntmps9
    go_wp2_with fail
    go_region_law (first
      | (go_simp; refine (unhide HSo _).mono ?_; rintro e w2 ⟨rfl, rfl⟩)
      | (go_simp; refine (unhide HCo).mono ?_; rintro e w2 ⟨v, rfl, hown, hb⟩; obtain ⟨av, cv, rfl, hrow, _, _⟩ := own_row hown; have HRow := hide hrow; have HBc := hide hb; clear hown hrow hb)
      | (go_simp; refine (of_right av cv us (by have := unhide HLe; omega) (unhide HRt) _ (unhide HRow)).mono ?_; rintro e w3 ⟨B', lo0, os, rfl, h1, h2, h3, h4, h5, h6⟩; have HE := hide (And.intro h1 (And.intro h2 (And.intro h3 (And.intro h4 (And.intro h5 h6))))); clear h1 h2 h3 h4 h5 h6))
    all_goals
      rw [← hW1] at HBc
      go_wp2
      go_ret
      obtain ⟨h1, h2, h3, h4, h5, h6⟩ := unhide HE
      have s1 := (unhide HB1).size
      have s2 := (unhide HBc).size
      have hle := unhide HLe
      exact ⟨B', rfl, lo0, by omega, os, h2, h3, by omega, fun r => by rw [h5 r, unhide HMe r], (unhide HB1).trans (((unhide HBc).trans (h6.mono s2)).mono s1)⟩
end Go.Proofs.Ytodikfaddfojgaa
