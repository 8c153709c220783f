/- slices.Concat at two lists of spans. -/
import Derived.Test.YtodikfaddfojgaaSetMeet
import Derived.Lib.AppendZeros
namespace Go.Proofs.Ytodikfaddfojgaa
open Go.RowKit Go.Shelf
set_option linter.unusedVariables false
set_option linter.unusedSimpArgs false
/-- A list of spans behind another one that the call owns. -/
theorem appendP_run (W : World) (lo : Nat) (v : Value) (xs ys : List (Int × Int)) (b : Option Addr) (cb : Nat) (hx : xs.length ≤ 1000000) (hy : ys.length ≤ 1000000) (hv : W.ownsRow lo 33 2 v xs.length (encP xs)) (hr : RowP W b ys) (hlo : lo ≤ W.heap.size) :
    ∃ v1 W1, (Builtin.append_ #[22, 22] 22 #[v, .slice b ys.length cb]).run Try.prog W = .ok v1 W1 ∧ W1.ownsRow lo 33 2 v1 (xs ++ ys).length (encP (xs ++ ys)) ∧ W.grownBy W1 v.ownBlock := by
  obtain ⟨iP, hi0, hi1, hi2, hi3⟩ := info_parts infoP
  have hcells : ∀ p, b = some p → ∀ j u, (encP ys)[j]? = some u → W.cell? (p.add j) = some u := fun p hp j u hu => by
    have hl := (List.getElem?_eq_some_iff.1 hu).1
    rw [encP_length] at hl
    obtain ⟨g, o, h, hg, hc⟩ := hr (by omega)
    rw [hp] at h
    cases h
    rw [add_none']
    exact encP_cells hc j u hu
  cases b with
  | none =>
    have h0 : ys = [] := by
      by_cases e : 0 < ys.length
      · obtain ⟨g, o, h, _⟩ := hr e; cases h
      · exact List.eq_nil_of_length_eq_zero (by omega)
    subst h0
    refine ⟨v, W, ?_, by simpa using hv, ⟨rfl, rfl, rfl, Nat.le_refl _, fun _ _ _ => rfl⟩⟩
    rcases hv.2 with ⟨rfl, _⟩ | ⟨g, cap, cur, rfl, _, hg, h1, _⟩
    · simp [Builtin.append_, run_underlying Try.underlying22, sizeOf, typeInfo, hi0, Builtin.lenOf, Builtin.firstCells, loadCells, loadCellsFrom]
    · simp [Builtin.append_, run_underlying Try.underlying22, sizeOf, typeInfo, hi0, Builtin.lenOf, Builtin.firstCells, loadCells, loadCellsFrom, h1, storeCells]
  | some p =>
    obtain ⟨v2, w2, hr2, ho2, hg2, _⟩ := run_append_own (P := Try.prog) W lo 22 22 33 iP (.agg #[.int .i32 0, .int .i32 0]) 2 8 Try.underlying22 hi0 hi1 hi2 hi3 rfl (by decide) v xs.length (encP xs) hv p ys.length cb (encP ys) (encP_length ys) (hcells p rfl) (encP_one ys) (by unfold maxLen; omega) (by omega) hlo
    exact ⟨v2, w2, hr2, by rw [encP_append, List.length_append]; exact ho2, hg2⟩
set_option maxRecDepth 100000 in
set_option maxHeartbeats 2000000 in
theorem growP_any (n : Nat) (hn : n ≤ 2000000) (w : World) : Calls Try.prog 49 #[.slice none 0 0, .int .i64 n] w fun e w' => ∃ v, e = .returned v ∧ w'.ownsRow w.heap.size 33 2 v 0 [] ∧ Below w.heap.size w w' := by
  by_cases h0 : 0 < n
  · obtain ⟨i0, hi, hz0, hz1, hz2⟩ := info_parts infoP
    have kz := Lib.run_append_nil_zeros (P := Try.prog) w 22 3 22 33 i0 (.agg #[.int .i32 0, .int .i32 0]) .i64 .i64 Try.underlying22 Try.underlying3 hi hz0 n h0 (by rw [hz1]; omega) (by omega) (by rw [hz2]; omega)
    have hge := grownCap_ge w n 0 33
    have hle := grownCap_le_maxLen w n 0 33 (by unfold maxLen; omega)
    have hcz : ∀ m, (Builtin.zeroCells (Value.agg #[.int .i32 0, .int .i32 0]).cells m).size = 2 * m := fun m => by rw [size_zeroCells]; simp [Value.cells]; omega
    have hsz : (Builtin.zeroCells (Value.agg #[.int .i32 0, .int .i32 0]).cells n ++ Builtin.zeroCells (Value.agg #[.int .i32 0, .int .i32 0]).cells (grownCap w n 0 33 - n)).size = 2 * grownCap w n 0 33 := by rw [Array.size_append, hcz, hcz]; omega
    generalize Builtin.zeroCells (Value.agg #[.int .i32 0, .int .i32 0]).cells n ++ Builtin.zeroCells (Value.agg #[.int .i32 0, .int .i32 0]).cells (grownCap w n 0 33 - n) = cs at *
    generalize grownCap w n 0 33 = cap at *
    have h1 : (0 : Int) < (n : Int) := by omega
    have h2 : (n : Int) ≤ 4194304 := by omega
    have HSZ := hide hsz
    have hcap : (0 : Int) ≤ (cap : Int) := by omega
    have HLE := hide hle
    have HGE := hide hge
    clear hi hz0 hz1 hz2 hcz hsz hle hge
    go_enter Try.func49, Try.ntmps49
    go_wp2_with (at_builtin; refine Lib.wpList_append_run _ rfl _ _ 22 3 rfl (.slice none 0 0) (.int .i64 n) rfl rfl _ _ kz ?_)
    go_ret
    refine ⟨_, rfl, ⟨by simp, .inr ⟨w.heap.size, cap, cs, rfl, Nat.le_refl _, World.alloc_heap_new w.drew _, by omega, unhide HLE, by rw [unhide HSZ]; omega, by simp⟩⟩, ((Below.refl _ _).drew).alloc (Nat.le_refl _) _⟩
  · obtain rfl : n = 0 := by omega
    clear h0 hn
    go_enter Try.func49, Try.ntmps49
    go_wp2
    go_ret
    exact ⟨_, rfl, World.ownsRow_nil _ _ _ _, Below.refl _ _⟩
set_option maxRecDepth 100000 in
set_option maxHeartbeats 4000000 in
theorem concatP_any (G : Nat) (a b : Option Addr) (c1 c2 : Nat) (xs ys : List (Int × Int)) (hx : xs.length ≤ 1000000) (hy : ys.length ≤ 1000000) (w : World) (hB : Blk w G #[.slice a xs.length c1, .slice b ys.length c2] 22) (h1 : RowP w a xs) (h2 : RowP w b ys) :
    Calls Try.prog 29 #[.slice (some ⟨G, 0, none⟩) 2 2] w fun e w' => ∃ v, e = .returned v ∧ w'.ownsRow w.heap.size 33 2 v (xs ++ ys).length (encP (xs ++ ys)) ∧ Below w.heap.size w w' := by
  have d0 := hB.cell 0
  have d1 := hB.cell 1
  have HBk := hide hB
  have H1 := hide h1
  have H2 := hide h2
  have hxi : (xs.length : Int) ≤ 1000000 := by omega
  have hyi : (ys.length : Int) ≤ 1000000 := by omega
  clear hB h1 h2
  have hgr := growP_any (xs.length + ys.length) (by omega)
  rw [show ((xs.length + ys.length : Nat) : Int) = (xs.length : Int) + (ys.length : Int) by omega] at hgr
  have HG := hide hgr
  have hs1 : ¬ (xs.length : Int) < 0 := by omega
  have hs2 : ¬ (xs.length : Int) + (ys.length : Int) < 0 := by omega
  clear hgr
  go_enter Try.func29, Try.ntmps29
  go_wp2_with fail
  refine wp_loop_rounds 3 ?_
  rw [rounds_succ]
  go_wp2_with fail
  rw [rounds_succ]
  go_wp2_with fail
  rw [rounds_succ]
  go_wp2_with fail
  refine (unhide HG _).mono ?_
  rintro e w1 ⟨v, rfl, hown, hb⟩
  have hlt1 := hb.size
  have K1 := (unhide H1).below hb
  obtain ⟨v2, w2, hr2, ho2, hg2⟩ := appendP_run w1 w.heap.size v [] xs a c1 (by simp) hx (show w1.ownsRow w.heap.size 33 2 v 0 [] from hown) K1 hlt1
  rw [List.nil_append] at ho2
  have hb2 : Below w.heap.size w w2 := hb.grown hg2 hlt1 (fun k hk => (hown.lt k hk).1)
  have hBk := (unhide HBk).below hb (unhide HBk).lt
  clear d0 d1
  have d0 := hBk.cell 0
  have d1 := hBk.cell 1
  have hBk2 := (unhide HBk).below hb2 (unhide HBk).lt
  have f1 := hBk2.cell 1
  have hlt2 := hb2.size
  have K2 := (unhide H2).below hb2
  obtain ⟨v3, w3, hr3, ho3, hg3⟩ := appendP_run w2 w.heap.size v2 xs ys b c2 hx hy ho2 K2 hlt2
  have hb3 : Below w.heap.size w w3 := hb2.grown hg3 hlt2 (fun k hk => (ho2.lt k hk).1)
  have HE := hide ho3
  have HBE := hide hb3
  have HR2 := hide hr2
  have HR3 := hide hr3
  clear hown hb hBk K1 hr2 ho2 hg2 hb2 hBk2 K2 hr3 ho3 hg3 hb3 hs1 hs2 HG
  go_wp2_with fail
  refine wp_loop_rounds 3 ?_
  rw [rounds_succ]
  go_wp2_with (at_builtin; refine Lib.wpList_append_run _ rfl _ _ 22 22 rfl v (.slice a xs.length c1) rfl rfl v2 w2 (unhide HR2) ?_)
  rw [rounds_succ]
  go_wp2_with (at_builtin; refine Lib.wpList_append_run _ rfl _ _ 22 22 rfl v2 (.slice b ys.length c2) rfl rfl v3 w3 (unhide HR3) ?_)
  rw [rounds_succ]
  go_wp2
  go_ret
  exact ⟨_, rfl, unhide HE, unhide HBE⟩
end Go.Proofs.Ytodikfaddfojgaa
