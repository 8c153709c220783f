/- Minus of two sets. -/
import Derived.Test.YtodikfaddfojgaaSetMeet
namespace Go.Proofs.Ytodikfaddfojgaa
open Go.RowKit Go.Shelf
set_option linter.unusedVariables false
theorem SetAt.empty {w : World} {B : Nat} (h : Blk w B #[.slice none 0 0, .slice none 0 0] 54) : SetAt w B [] := ⟨⟨none, 0, none, 0, h, fun h => by simp at h, fun h => by simp at h⟩, ⟨fun x h => by simp at h, fun i j x y _ h => by simp at h⟩, by simp⟩
/-- some of a set, or of none. -/
theorem some_set (p : Option Addr) (ys : List (Int × Int)) (w : World) (ht : SomeAt w p ys) : Calls Try.prog 30 #[.pointer p] w fun e w' => ∃ C, e = .returned (.pointer (some ⟨C, 0, none⟩)) ∧ SetAt w' C ys ∧ Below w.heap.size w w' := by
  rcases ht with ⟨rfl, rfl⟩ | ⟨C, rfl, hC⟩
  · exact (some_nil w).mono fun e w' ⟨h1, h2⟩ => ⟨_, h1, by rw [h2]; exact SetAt.empty (Blk.new w _ _), by rw [h2]; exact (Below.refl _ _).alloc (Nat.le_refl _) _⟩
  · exact (some_any C w).mono fun e w' ⟨h1, h2⟩ => ⟨_, h1, by rw [h2]; exact hC, by rw [h2]; exact Below.refl _ _⟩
theorem mem_minus (zs ys ns : List (Int × Int)) (h : ∀ r, memB ns r = (runeB r && !memB ys r)) (r : Int) : (memB zs r && memB ns r) = (memB zs r && !memB ys r) := by
  rw [h r]
  cases hz : memB zs r with
  | false => rfl
  | true => rw [((memB_iff _ _).1 hz).2]; rfl
set_option maxRecDepth 100000 in
set_option maxHeartbeats 4000000 in
theorem minus_any (B : Nat) (p : Option Addr) (zs ys : List (Int × Int)) (hz : zs.length ≤ 5000) (hy : ys.length ≤ 5000) (w : World) (hs : SetAt w B zs) (ht : SomeAt w p ys) :
    Calls Try.prog 11 #[.pointer (some ⟨B, 0, none⟩), .pointer p] w fun e w' => ∃ (B' lo0 : Nat) (us : List (Int × Int)), e = .returned (.pointer (some ⟨B', 0, none⟩)) ∧ w.heap.size ≤ lo0 ∧ Made w' B' lo0 us ∧ Spread us ∧ us.length ≤ zs.length + ys.length + 1 ∧ (∀ r, memB us r = (memB zs r && !memB ys r)) ∧ Below w.heap.size w w' := by
  have HS := hide hs
  have HSo := hide (some_set p ys w ht)
  clear hs ht
  go_enter Try.func11, Try.ntmps11
  go_wp2_with fail
  refine (unhide HSo).mono ?_
  rintro e w1 ⟨C, rfl, hC, hb1⟩
  have HC := hide hC
  have HB1 := hide hb1
  have HS1 := hide ((unhide HS).below hb1)
  clear hC hb1
  go_wp2_with fail
  refine (not_any C ys (by omega) w1 (unhide HC)).mono ?_
  rintro e w2 ⟨D, lo1, ns, rfl, h1, h2, h3, h4, h5, h6⟩
  have HD := hide (h2.set h3 (by omega))
  have HB2 := hide ((unhide HB1).trans (h6.mono (unhide HB1).size))
  have HS2 := hide ((unhide HS1).below h6)
  have HN := hide h5
  have hnl : ns.length ≤ 5001 := by omega
  have HNL := hide h4
  clear h1 h2 h3 h4 h5 h6
  go_wp2_with fail
  refine (meet_any B _ zs ns (by omega) (by omega) w2 (unhide HS2) (.inr ⟨D, rfl, unhide HD⟩)).mono ?_
  rintro e w3 ⟨B', lo0, us, rfl, h1, h2, h3, h4, h5, h6⟩
  have HE := hide (And.intro h1 (And.intro h2 (And.intro h3 (And.intro h4 (And.intro h5 h6)))))
  clear h1 h2 h3 h4 h5 h6
  go_wp2
  go_ret
  obtain ⟨h1, h2, h3, h4, h5, h6⟩ := unhide HE
  have s1 := (unhide HB2).size
  have hle := unhide HNL
  exact ⟨B', lo0, us, rfl, by omega, h2, h3, by omega, fun r => by rw [h5 r, mem_minus zs ys ns (unhide HN) r], (unhide HB2).trans (h6.mono s1)⟩
end Go.Proofs.Ytodikfaddfojgaa
