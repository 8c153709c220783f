/- alive: the set of a to z has 26 runes. -/
import Derived.Test.YtemmflhofhngbaaSetOf
import Derived.Test.YtemmflhofhngbaaSetSame
namespace Go.Proofs.Ytemmflhofhngbaa
open Go.RowKit Go.Shelf
set_option linter.unusedVariables false
theorem spread_az : Spread [(97, 122)] := Spread.snoc (ys := []) ⟨fun x h => by simp at h, fun i j x y _ h => by simp at h⟩ (by decide) (by decide) (fun x h => by simp at h)
theorem mem_az (r : Int) : memB [(97, 99), (98, 122)] r = memB [(97, 122)] r := by
  rw [Bool.eq_iff_iff, memB_iff, memB_iff]
  simp
  intro _
  omega
theorem right_az : RightL [(97, 99), (98, 122)] := by
  intro x hx
  simp at hx
  rcases hx with rfl | rfl <;> decide
set_option maxRecDepth 100000 in
set_option maxHeartbeats 4000000 in
theorem alive_any (w : World) : Calls Try.prog 6 #[] w fun e w' => e = .returned (.bool true) ∧ Below w.heap.size w w' := by
  have b0 := Blk.new w #[.int .i32 97, .int .i32 99, .int .i32 98, .int .i32 122] 28
  have HB0 := hide ((Below.refl _ w).alloc (Nat.le_refl _) (.cells #[.int .i32 97, .int .i32 99, .int .i32 98, .int .i32 122] 28))
  have HR : Hz (RowP (w.alloc (.cells #[.int .i32 97, .int .i32 99, .int .i32 98, .int .i32 122] 28)) (some ⟨w.heap.size, 0, none⟩) [(97, 99), (98, 122)]) := hide (fun _ => ⟨w.heap.size, 0, rfl, b0.lt, fun j x hj => by
    match j, hj with
    | 0, hj => simp at hj; subst hj; exact ⟨b0.cell 0, b0.cell 1⟩
    | 1, hj => simp at hj; subst hj; exact ⟨b0.cell 2, b0.cell 3⟩
    | j + 2, hj => simp at hj⟩)
  clear b0
  go_enter Try.func6, Try.ntmps6
  go_wp2_with fail
  refine (of_right (some ⟨w.heap.size, 0, none⟩) 2 [(97, 99), (98, 122)] (by decide) right_az _ (unhide HR)).mono ?_
  rintro e w1 ⟨B, lo0, zs, rfl, hlo, hmade, hsp, hzl, hmem, hb1⟩
  obtain rfl : zs = [(97, 122)] := spread_unique _ _ hsp spread_az (fun r => (hmem r).trans (mem_az r))
  have HS1 := hide (hmade.set hsp (by decide))
  have HB1 := hide ((unhide HB0).trans (hb1.mono (unhide HB0).size))
  clear hb1 hmem hmade hsp hzl hlo HR
  go_wp2_with fail
  refine (size_any B _ w1 (unhide HS1)).mono ?_
  rintro e w2 ⟨rfl, hb2⟩
  rw [show total [(97, 122)] = 26 by decide]
  have HS2 := hide ((unhide HS1).below hb2)
  have HB2 := hide ((unhide HB1).trans (hb2.mono (unhide HB1).size))
  clear hb2
  go_wp2_with fail
  refine (spans_any B _ w2 (unhide HS2)).mono ?_
  rintro e w3 ⟨v, rfl, hown, hb3⟩
  obtain ⟨a, c, rfl, hrow, _, _⟩ := own_row hown
  have HS3 := hide ((unhide HS2).below hb3)
  have HB3 := hide ((unhide HB2).trans (hb3.mono (unhide HB2).size))
  have b3 := Blk.new w3 #[.int .i32 97, .int .i32 122] 28
  have hb4 := (Below.refl _ w3).alloc (Nat.le_refl _) (.cells #[.int .i32 97, .int .i32 122] 28)
  have HS4 := hide ((unhide HS3).below hb4)
  have HB4 := hide ((unhide HB3).trans (hb4.mono (unhide HB3).size))
  have HRa := hide (hrow.below hb4)
  have HRb : Hz (RowP (w3.alloc (.cells #[.int .i32 97, .int .i32 122] 28)) (some ⟨w3.heap.size, 0, none⟩) [(97, 122)]) := hide (fun _ => ⟨w3.heap.size, 0, rfl, b3.lt, fun j x hj => by
    match j, hj with
    | 0, hj => simp at hj; subst hj; exact ⟨b3.cell 0, b3.cell 1⟩
    | j + 1, hj => simp at hj⟩)
  clear b3 hb3 hb4 hown hrow
  go_wp2_with fail
  refine (sameP_row a (some ⟨w3.heap.size, 0, none⟩) c 1 [(97, 122)] (by decide) _ (unhide HRa) (unhide HRb)).mono ?_
  rintro e w5 ⟨rfl, hb5⟩
  have HS5 := hide ((unhide HS4).below hb5)
  have HB5 := hide ((unhide HB4).trans (hb5.mono (unhide HB4).size))
  clear hb5
  go_wp2_with fail
  refine (in_any B _ 109 w5 (unhide HS5)).mono ?_
  rintro e w6 ⟨rfl, hb6⟩
  rw [show memB [(97, 122)] 109 = true by decide]
  have HS6 := hide ((unhide HS5).below hb6)
  have HB6 := hide ((unhide HB5).trans (hb6.mono (unhide HB5).size))
  clear hb6
  go_wp2_with fail
  refine (in_any B _ 123 w6 (unhide HS6)).mono ?_
  rintro e w7 ⟨rfl, hb7⟩
  rw [show memB [(97, 122)] 123 = false by decide]
  have HB7 := hide ((unhide HB6).trans (hb7.mono (unhide HB6).size))
  clear hb7
  go_wp2
  go_ret
  exact ⟨rfl, unhide HB7⟩
end Go.Proofs.Ytemmflhofhngbaa
