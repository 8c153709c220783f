/- UtfEnds: the empty text; then every text. -/
import Derived.Test.YtgkcmllcoigplaaEnds
namespace Go.Proofs.Ytgkcmllcoigplaa
open Go.RowKit Go.Shelf
set_option linter.unusedVariables false

set_option maxRecDepth 100000 in
set_option maxHeartbeats 4000000 in
theorem ends_empty (s : ByteArray) (h : ¬ 0 < s.size) (w : World) : Calls Try.prog 4 #[.string s] w fun e w' => e = .returned (.bool true) ∧ Below w.heap.size w w' := by
  have hm : s.size ≤ maxLen := by unfold maxLen; omega
  have hst := starts_empty s h
  have HF := hide (firstV_neg h)
  have HL := hide (lastV_neg h)
  go_enter Try.func4, Try.ntmps4
  go_wp2_with fail
  refine (refSpots_any s (by omega) _).mono ?_
  rintro e w1 ⟨v, rfl, hown, hB1⟩
  rw [hst] at hown
  obtain ⟨ad, cap, rfl⟩ : ∃ ad cap, v = .slice ad 0 cap := by
    rcases hown.2 with ⟨rfl, _⟩ | ⟨g, cap, cur, rfl, _⟩
    · exact ⟨_, _, rfl⟩
    · exact ⟨_, _, rfl⟩
  have hB1' := hide hB1
  clear hB1 hown hst
  go_wp2_with fail
  refine (first_any s hm _).mono ?_
  rintro e w2 ⟨rfl, hb2⟩
  rw [unhide HF]
  go_wp2_with fail
  refine (last_any s hm _).mono ?_
  rintro e w3 ⟨rfl, hb3⟩
  rw [unhide HL]
  have HB2 := hide hb2
  have HB3 := hide hb3
  clear hb2 hb3
  go_wp2_with fail
  refine (alive_any _).mono ?_
  rintro e w5 ⟨rfl, hb5⟩
  have hb2 := unhide HB2
  have hb3 := unhide HB3
  have bF := (((Blk.new w2 #[.int .i32 0, .int .i64 0, .bool false] 40).below hb3 (by simp)).alloc (.cells #[.int .i32 0, .int .i64 0, .bool false] 40)).below hb5 (by have := hb3.size; simp at this ⊢; omega)
  have bL := (Blk.new w3 #[.int .i32 0, .int .i64 0, .bool false] 40).below hb5 (by simp)
  have hB15 : Below w1.heap.size w1 w5 := ((((hb2.alloc hb2.size _).trans (hb3.mono (by have := hb2.size; simp; omega))).alloc (by have := hb2.size; have := hb3.size; simp at this; omega) _)).trans (hb5.mono (by have := hb2.size; have := hb3.size; simp at this ⊢; omega))
  have hBw : Below w.heap.size w w5 := (unhide hB1').trans (hB15.mono (unhide hB1').size)
  have f0 := bF.cell 0
  have f1 := bF.cell 1
  have f2 := bF.cell 2
  have l0 := bL.cell 0
  have l1 := bL.cell 1
  have l2 := bL.cell 2
  clear bF bL hb2 hb3 hb5 hB15
  go_wp2
  go_ret
  exact ⟨rfl, hBw⟩

theorem ends_any (s : ByteArray) (hs : s.size ≤ 1048576) (w : World) : Calls Try.prog 4 #[.string s] w fun e w' => e = .returned (.bool true) ∧ Below w.heap.size w w' := by
  by_cases h : 0 < s.size
  · exact ends_full s hs h w
  · exact ends_empty s h w
end Go.Proofs.Ytgkcmllcoigplaa
