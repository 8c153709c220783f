/- UtfNames, a closed sentence: the numbers and the chapter's runs: it returns true. -/
import Derived.Test.YtgkcmllcoigplaaText
namespace Go.Proofs.Ytgkcmllcoigplaa
open Go.RowKit Go.Shelf
set_option linter.unusedVariables false

theorem nm_text1 : textV [8364, 97, 1114111] = .tuple #[.string ⟨#[226, 130, 172, 97, 244, 143, 191, 191]⟩, .int .i64 0] := by
  unfold textV
  rw [if_pos (by decide), show runesBytes [8364, 97, 1114111] = ⟨#[226, 130, 172, 97, 244, 143, 191, 191]⟩ by decide]
theorem nm_text2 : textV [8364, 55296] = .tuple #[.string ⟨#[]⟩, .int .i64 12] := by
  unfold textV
  rw [if_neg (by decide)]
theorem nm_valid : validV ⟨#[195, 169, 255, 120]⟩ = .tuple #[.agg #[.int .i64 2, .int .i64 1], .bool false] := by
  unfold validV
  rw [show starts ⟨#[195, 169, 255, 120]⟩ = [0] ++ 2 :: [3] by decide, validFrom_some _ 2 [3] (by decide) [0] 0 (by decide)]
  rfl
theorem nm_count : (starts ⟨#[97, 226, 130, 98]⟩).length = 4 := by decide
theorem nm_clean : cleanV ⟨#[97, 255]⟩ = ⟨#[97, 239, 191, 189]⟩ := by decide
theorem nm_cut : cutAt ⟨#[97, 195, 169]⟩ (clampV ⟨#[97, 195, 169]⟩ 2) = 1 := by decide
theorem nm_head : (⟨#[97, 195, 169]⟩ : ByteArray).extract 0 1 = ⟨#[97]⟩ := by decide
theorem nm_tail : (⟨#[97, 195, 169]⟩ : ByteArray).extract 1 (⟨#[97, 195, 169]⟩ : ByteArray).size = ⟨#[195, 169]⟩ := by decide
theorem nm_bound1 : boundV ⟨#[195, 169]⟩ 1 = false := by decide
theorem nm_bound2 : boundV ⟨#[195, 169]⟩ 2 = true := by decide
theorem nm_joins1 : joinsV ⟨#[226, 130]⟩ ⟨#[172]⟩ = false := by decide
theorem nm_joins2 : joinsV ⟨#[226]⟩ ⟨#[172]⟩ = true := by decide
theorem nm_width1 : widthOf 2048 = 3 := by decide
theorem nm_width2 : widthOf 57343 = 0 := by decide
theorem small_max (n : Nat) (h : n ≤ 100) : n ≤ maxLen := by unfold maxLen; omega

set_option maxRecDepth 100000 in
set_option maxHeartbeats 4000000 in
theorem names_any (w : World) : Calls Try.prog 3 #[] w fun e w' => e = .returned (.bool true) ∧ Below w.heap.size w w' := by
  go_enter Try.func3, Try.ntmps3
  go_wp2_with fail
  refine (alive_any _).mono ?_
  rintro e w1 ⟨rfl, hb1⟩
  have HB1 := hide hb1
  clear hb1
  go_wp2_with fail
  refine (text_any w1.heap.size 0 3 [8364, 97, 1114111] (by decide) _ (fun j hj => ?_)).mono ?_
  · have := (Blk.new w1 #[.int .i32 8364, .int .i32 97, .int .i32 1114111] 21).cell (0 + j)
    rw [this]
    have : j = 0 ∨ j = 1 ∨ j = 2 := by simp at hj; omega
    rcases this with rfl | rfl | rfl <;> rfl
  rintro e w2 ⟨rfl, rfl⟩
  rw [nm_text1]
  go_wp2_with fail
  refine (text_any (w1.heap.size + 1) 0 2 [8364, 55296] (by decide) _ (fun j hj => ?_)).mono ?_
  · have := (Blk.new (w1.alloc (.cells #[.int .i32 8364, .int .i32 97, .int .i32 1114111] 21)) #[.int .i32 8364, .int .i32 55296] 21).cell (0 + j)
    rw [World.size_alloc] at this
    rw [this]
    have : j = 0 ∨ j = 1 := by simp at hj; omega
    rcases this with rfl | rfl <;> rfl
  rintro e w3 ⟨rfl, rfl⟩
  rw [nm_text2]
  have HB2 := hide ((((unhide HB1).alloc (unhide HB1).size (.cells #[.int .i32 8364, .int .i32 97, .int .i32 1114111] 21))).alloc (by have := (unhide HB1).size; simp; omega) (.cells #[.int .i32 8364, .int .i32 55296] 21))
  go_wp2_with fail
  refine (valid_any ⟨#[195, 169, 255, 120]⟩ (small_max _ (by decide)) _).mono ?_
  rintro e w4 ⟨rfl, hb4⟩
  rw [nm_valid]
  have HB4 := hide ((unhide HB2).trans (hb4.mono (unhide HB2).size))
  clear hb4
  go_wp2_with fail
  refine (count_any ⟨#[97, 226, 130, 98]⟩ (small_max _ (by decide)) _).mono ?_
  rintro e w5 ⟨rfl, hb5⟩
  rw [nm_count]
  have b5 := (Blk.new w4 #[.int .i64 2, .int .i64 1] 27).below hb5 (by simp)
  have HB5 := hide (((unhide HB4).alloc (unhide HB4).size _).trans (hb5.mono (by have := (unhide HB4).size; simp; omega)))
  have p0 := b5.cell 0
  have p1 := b5.cell 1
  clear hb5
  go_wp2_with fail
  refine (clean_any ⟨#[97, 255]⟩ (Nat.le_trans (show _ ≤ 100 by decide) (by omega)) _).mono ?_
  rintro e w6 ⟨rfl, hb6⟩
  rw [nm_clean]
  have HB6 := hide ((unhide HB5).trans (hb6.mono (unhide HB5).size))
  clear hb6 b5 p0 p1
  go_wp2_with fail
  refine (cut_any ⟨#[97, 195, 169]⟩ (small_max _ (by decide)) 2 _).mono ?_
  rintro e w7 ⟨rfl, hb7⟩
  rw [nm_cut, nm_head, nm_tail]
  have HB7 := hide ((unhide HB6).trans (hb7.mono (unhide HB6).size))
  clear hb7
  go_wp2_with fail
  refine (bound_any ⟨#[195, 169]⟩ (small_max _ (by decide)) 1 _).mono ?_
  rintro e w8 ⟨rfl, hb8⟩
  rw [nm_bound1]
  have HB8 := hide ((unhide HB7).trans (hb8.mono (unhide HB7).size))
  clear hb8
  go_wp2_with fail
  refine (bound_any ⟨#[195, 169]⟩ (small_max _ (by decide)) 2 _).mono ?_
  rintro e w9 ⟨rfl, hb9⟩
  rw [nm_bound2]
  have HB9 := hide ((unhide HB8).trans (hb9.mono (unhide HB8).size))
  clear hb9
  go_wp2_with fail
  refine (joins_any ⟨#[226, 130]⟩ ⟨#[172]⟩ (small_max _ (by decide)) (small_max _ (by decide)) _).mono ?_
  rintro e w10 ⟨rfl, hb10⟩
  rw [nm_joins1]
  have HB10 := hide ((unhide HB9).trans (hb10.mono (unhide HB9).size))
  clear hb10
  go_wp2_with fail
  refine (joins_any ⟨#[226]⟩ ⟨#[172]⟩ (small_max _ (by decide)) (small_max _ (by decide)) _).mono ?_
  rintro e w11 ⟨rfl, hb11⟩
  rw [nm_joins2]
  have HB11 := hide ((unhide HB10).trans (hb11.mono (unhide HB10).size))
  clear hb11
  go_wp2_with fail
  refine (width_any 2048 _).mono ?_
  rintro e w12 ⟨rfl, rfl⟩
  rw [nm_width1]
  go_wp2_with fail
  refine (width_any 57343 _).mono ?_
  rintro e w13 ⟨rfl, rfl⟩
  rw [nm_width2]
  go_wp2
  go_ret
  exact ⟨rfl, unhide HB11⟩
end Go.Proofs.Ytgkcmllcoigplaa
