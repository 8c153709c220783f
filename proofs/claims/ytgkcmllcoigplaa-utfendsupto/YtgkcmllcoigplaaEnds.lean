/- For every text of at most a million letters: First and Last answer the first and the last spot of the reference's list, or both nothing. -/
import Derived.Test.YtgkcmllcoigplaaBds
import Derived.Lib.QuietBelow
namespace Go.Proofs.Ytgkcmllcoigplaa
open Go.RowKit Go.Shelf
set_option linter.unusedVariables false

set_option maxHeartbeats 1000000 in
theorem same_eq (r n a : Int) (b : Bool) (w : World) : Calls Try.prog 21 #[.agg #[.int .i32 r, .int .i64 n, .bool b], .agg #[.int .i32 r, .int .i64 a, .int .i64 n, .bool b]] w fun e w' => e = .returned (.bool true) ∧ Below w.heap.size w w' := by
  go_enter Try.func21, Try.ntmps21
  go_wp2
  go_ret
  exact ⟨rfl, ((Below.refl _ _).alloc (Nat.le_refl _) _).alloc (by simp) _⟩

set_option maxRecDepth 100000 in
set_option maxHeartbeats 4000000 in
theorem ends_full (s : ByteArray) (hs : s.size ≤ 1048576) (h : 0 < s.size) (w : World) : Calls Try.prog 4 #[.string s] w fun e w' => e = .returned (.bool true) ∧ Below w.heap.size w w' := by
  have hm : s.size ≤ maxLen := by unfold maxLen; omega
  obtain ⟨r0, hr0⟩ := starts_head s h
  obtain ⟨p, hlast, hps, hls⟩ := last_spot s h
  have hn0 : 0 < (starts s).length := by rw [hr0]; simp
  have h0 : (starts s)[0]? = some 0 := by rw [hr0]; rfl
  have hl : (starts s)[(starts s).length - 1]? = some p := by rw [← List.getLast?_eq_getElem?]; exact hlast
  have hnl := starts_length s
  have hF : firstV s = .tuple #[.agg #[.int .i32 (rn s 0), .int .i64 (wd s 0), .bool (decide (rn s 0 = 65533 ∧ wd s 0 = 1))], .bool true] := firstV_pos h
  have hL : lastV s = .tuple #[.agg #[.int .i32 (rn s p), .int .i64 (wd s p), .bool (decide (rn s p = 65533 ∧ wd s p = 1))], .bool true] := by rw [lastV_pos h, hls]; rfl
  have hR0 : refCells s 0 = [.int .i32 (rn s 0), .int .i64 (0 : Nat), .int .i64 (wd s 0), .bool (decide (rn s 0 = 65533 ∧ wd s 0 = 1))] := rfl
  have hRp : refCells s p = [.int .i32 (rn s p), .int .i64 p, .int .i64 (wd s p), .bool (decide (rn s p = 65533 ∧ wd s p = 1))] := rfl
  generalize decide (rn s 0 = 65533 ∧ wd s 0 = 1) = b0 at hF hR0
  generalize ((rn s 0 : Nat) : Int) = x0 at hF hR0
  generalize ((wd s 0 : Nat) : Int) = n0 at hF hR0
  generalize decide (rn s p = 65533 ∧ wd s p = 1) = b1 at hL hRp
  generalize ((rn s p : Nat) : Int) = x1 at hL hRp
  generalize ((wd s p : Nat) : Int) = n1 at hL hRp
  have HF := hide hF
  have HL := hide hL
  clear hlast hr0 hls hF hL
  go_enter Try.func4, Try.ntmps4
  go_wp2_with fail
  refine (refSpots_any s (by omega) _).mono ?_
  rintro e w1 ⟨v, rfl, hown, hB1⟩
  obtain ⟨g, cap, rfl, hg0, hg1, hcap, hcell⟩ := row_cells hown hn0
  have hc0 := hcell 0 0 h0
  have hcl := hcell _ p hl
  rw [hR0] at hc0
  rw [hRp] at hcl
  generalize (starts s).length = n at *
  have hi0 : (0 : Int) ≤ (n : Int) - 1 := by omega
  have hi1 : (n : Int) - 1 < (n : Int) := by omega
  have hi2 : (n : Int) ≤ 1048576 := by omega
  have hi5 : (1 : Int) ≤ (n : Int) := by omega
  have hi4 : IntKind.i64.wrap ((n : Int) - 1) = (n : Int) - 1 := wrap_small _ (by omega) (by omega)
  have hi3 : ((n : Int) - 1).toNat = n - 1 := by omega
  have HC0 := hide hc0
  have HCL := hide hcl
  clear hc0 hcl hcell hown h0 hl hR0 hRp
  have hB1' := hide hB1
  clear hB1
  go_wp2_with fail
  refine (first_any s hm _).mono ?_
  rintro e w2 ⟨rfl, hb2⟩
  rw [unhide HF]
  go_wp2_with fail
  refine (last_any s hm _).mono ?_
  rintro e w3 ⟨rfl, hb3⟩
  rw [unhide HL]
  have HB2 := hide hb2
  have HB3 := hide hb3
  clear hb2 hb3
  go_wp2_with fail
  refine (alive_any _).mono ?_
  rintro e w5 ⟨rfl, hb5⟩
  have hb2 := unhide HB2
  have hb3 := unhide HB3
  have bF := (((Blk.new w2 #[.int .i32 x0, .int .i64 n0, .bool b0] 40).below hb3 (by simp)).alloc (.cells #[.int .i32 x1, .int .i64 n1, .bool b1] 40)).below hb5 (by have := hb3.size; simp at this ⊢; omega)
  have bL := (Blk.new w3 #[.int .i32 x1, .int .i64 n1, .bool b1] 40).below hb5 (by simp)
  have hB15 : Below w1.heap.size w1 w5 := ((((hb2.alloc hb2.size _).trans (hb3.mono (by have := hb2.size; simp; omega))).alloc (by have := hb2.size; have := hb3.size; simp at this; omega) _)).trans (hb5.mono (by have := hb2.size; have := hb3.size; simp at this ⊢; omega))
  have hBw : Below w.heap.size w w5 := (unhide hB1').trans (hB15.mono (unhide hB1').size)
  have hlt5 : w3.heap.size < w5.heap.size := bL.lt
  have f0 := bF.cell 0
  have f1 := bF.cell 1
  have f2 := bF.cell 2
  have l0 := bL.cell 0
  have l1 := bL.cell 1
  have l2 := bL.cell 2
  have hrow : ∀ o, w5.cell? ⟨g, o, none⟩ = w1.cell? ⟨g, o, none⟩ := fun o => hB15.cell (p := ⟨g, o, none⟩) hg1
  have a0 : w5.cell? ⟨g, 0, none⟩ = some (.int .i32 x0) := (hrow _).trans (unhide HC0 0 (by omega))
  have a1 : w5.cell? ⟨g, 1, none⟩ = some (.int .i64 0) := (hrow _).trans (unhide HC0 1 (by omega))
  have a2 : w5.cell? ⟨g, 2, none⟩ = some (.int .i64 n0) := (hrow _).trans (unhide HC0 2 (by omega))
  have a3 : w5.cell? ⟨g, 3, none⟩ = some (.bool b0) := (hrow _).trans (unhide HC0 3 (by omega))
  have d0 : w5.cell? ⟨g, (n - 1) * 4, none⟩ = some (.int .i32 x1) := (hrow _).trans (by have := unhide HCL 0 (by omega); rwa [Nat.mul_comm] at this)
  have d1 : w5.cell? ⟨g, (n - 1) * 4 + 1, none⟩ = some (.int .i64 p) := (hrow _).trans (by have := unhide HCL 1 (by omega); rwa [Nat.mul_comm] at this)
  have d2 : w5.cell? ⟨g, (n - 1) * 4 + 2, none⟩ = some (.int .i64 n1) := (hrow _).trans (by have := unhide HCL 2 (by omega); rwa [Nat.mul_comm] at this)
  have d3 : w5.cell? ⟨g, (n - 1) * 4 + 3, none⟩ = some (.bool b1) := (hrow _).trans (by have := unhide HCL 3 (by omega); rwa [Nat.mul_comm] at this)
  clear hrow bF bL hb2 hb3 hb5 hB15
  have hn1 : (0 : Int) < (n : Int) := by omega
  go_wp2
  have ka0 := cell_regrown a0
  have ka1 := cell_regrown a1
  have ka2 := cell_regrown a2
  have ka3 := cell_regrown a3
  have kd0 := cell_regrown d0
  have kd1 := cell_regrown d1
  have kd2 := cell_regrown d2
  have kd3 := cell_regrown d3
  have kf0 := cell_regrown (show w5.cell? _ = some _ from f0)
  have kf1 := cell_regrown (show w5.cell? _ = some _ from f1)
  have kf2 := cell_regrown (show w5.cell? _ = some _ from f2)
  have kl0 := cell_regrown (show w5.cell? _ = some _ from l0)
  have kl1 := cell_regrown (show w5.cell? _ = some _ from l1)
  have kl2 := cell_regrown (show w5.cell? _ = some _ from l2)
  clear a0 a1 a2 a3 d0 d1 d2 d3 f0 f1 f2 l0 l1 l2
  refine wp_region_quiet_below (by kernel_rfl) (by kernel_rfl) ?_
  repeat (quiet_step (exact Calls.regrown_of (same_eq _ _ _ _ _)))
  refine wpQuiet_nil ?_
  intro _ hw'
  obtain ⟨⟨dq, osq⟩, hw''⟩ := hw'
  subst hw''
  go_wp2
  go_ret
  exact ⟨rfl, hBw.trans ((below_regrown w5 dq osq).mono hBw.size)⟩

end Go.Proofs.Ytgkcmllcoigplaa
