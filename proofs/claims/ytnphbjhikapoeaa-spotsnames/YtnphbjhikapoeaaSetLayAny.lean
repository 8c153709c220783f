/- lay of one span more, on any set that is being made. -/
import Derived.Test.YtnphbjhikapoeaaSetMade
namespace Go.Proofs.Ytnphbjhikapoeaa
open Go.RowKit Go.Shelf
set_option linter.unusedVariables false
set_option maxRecDepth 100000 in
set_option maxHeartbeats 4000000 in
theorem lay_touch (B lo0 : Nat) (ys : List (Int × Int)) (y x : Int × Int) (hn : ys.length ≤ 1000000) (hy : endsB y = true) (hx : endsB x = true) (ht : rankOf x.1 ≤ rankOf y.2 + 1) (w : World) (hm : Made w B lo0 (ys ++ [y])) (hl : lo0 ≤ w.heap.size) :
    Calls Try.prog 57 #[.pointer (some ⟨B, 0, none⟩), spanV x] w fun e w' => (∃ r, e = .returned r) ∧ Made w' B lo0 (layL (ys ++ [y]) x) ∧ Below lo0 w w' ∧ Frame w w' B := by
  rw [layL_touch _ _ _ ht]
  obtain ⟨va, vb, h1, h2, h3⟩ := hm.form
  have hlo := hm.lo
  rw [List.length_append, List.length_singleton] at h2 h3
  obtain ⟨g, ca, rfl, hg0, hg⟩ := h2.form (by omega)
  have hex := endsB_iff hx
  have hey := endsB_iff hy
  have r1 := rank_range hex.1.1 hex.1.2.1
  have r2 := rank_range hey.2.1 hey.2.2.1
  obtain ⟨lo, hi⟩ := x
  obtain ⟨y0, y1⟩ := y
  simp only at ht hex hey r1 r2
  simp only
  have k1 := h2.cellAt (ys.length * 2 + 1) (by omega)
  have k2 := h2.frozenAt (ys.length * 2 + 1)
  rw [(encP_at (ys ++ [(y0, y1)]) ys.length (y0, y1) (by simp)).2] at k1
  have c0 := (h1.alloc (.cells #[.int .i32 lo, .int .i32 hi] 63)).cell 0
  have c1 := alloc_cell (.cells #[.int .i32 lo, .int .i32 hi] 63) k1
  have c2 : (w.alloc (.cells #[.int .i32 lo, .int .i32 hi] 63)).frozen? ⟨g, ys.length * 2 + 1, none⟩ = false := (((Below.refl _ w).alloc (Nat.le_refl _) _).frozen (p := ⟨g, ys.length * 2 + 1, none⟩) hg).trans k2
  have q0 := (Blk.new w #[.int .i32 lo, .int .i32 hi] 63).cell 0
  have q1 := (Blk.new w #[.int .i32 lo, .int .i32 hi] 63).cell 1
  have HE := hide (fun (k : Nat) (u : Int) => Made.touch (W := (w.alloc (.cells #[.int .i32 lo, .int .i32 hi] 63)).drewN k) (h1.alloc (.cells #[.int .i32 lo, .int .i32 hi] 63)) (h2.alloc (.cells #[.int .i32 lo, .int .i32 hi] 63)) (h3.alloc (.cells #[.int .i32 lo, .int .i32 hi] 63)) hlo u)
  have HW := hide (fun (k : Nat) => below_drewN ((Below.refl lo0 w).alloc hl (.cells #[.int .i32 lo, .int .i32 hi] 63)) k)
  have HFr : Hid (∀ (k : Nat) (u : Value), Frame w (((w.alloc (.cells #[.int .i32 lo, .int .i32 hi] 63)).drewN k).setCell ⟨g, ys.length * 2 + 1, none⟩ u) B) := hide (fun k u X hX hXB hv => by
    have hne : X ≠ g := fun e => (hv _ _ h1).1 (by rw [e]; rfl)
    rw [Below.heap_setCell _ ⟨g, ys.length * 2 + 1, none⟩ _ X hne]
    exact Below.heap_alloc w _ X hX)
  generalize ys.length = m at *
  have hm1 : ((m + 1 : Nat) : Int) - 1 = (m : Int) := by omega
  have hm2 : ((m : Nat) : Int).toNat = m := by omega
  have hlo2 : 0 ≤ lo ∧ lo ≤ 1114111 := ⟨hex.1.1, hex.1.2.1⟩
  have hhi2 : 0 ≤ y1 ∧ y1 ≤ 1114111 := ⟨hey.2.1, hey.2.2.1⟩
  clear h1 h2 h3 hm k1 k2 hex hey
  go_enter Try.func57, Try.ntmps57
  go_wp2
  go_quiet ((go_at_call 59; exact Calls.quiet_of_same (rank_any _ (by omega) (by omega) _)))
  go_wp2
  have hmx2 : Try.prog.follows .mixedOrders = true := by kernel_rfl
  go_region_with (fail)
  all_goals
    have HE1 := hide (unhide HE (nq + 1) (max y1 hi))
    have HW1 := hide (unhide HW (nq + 1))
    have HF1 := hide (unhide HFr (nq + 1) (.int .i32 (max y1 hi)))
    clear HE HW HFr c0 c1 c2 q0 q1
    go_wp2
    refine bodyPost_ret (results_none rfl _ _ _) rfl ?_
    exact ⟨⟨_, rfl⟩, (unhide HE1).1, (unhide HW1).trans (unhide HE1).2, unhide HF1⟩
end Go.Proofs.Ytnphbjhikapoeaa
