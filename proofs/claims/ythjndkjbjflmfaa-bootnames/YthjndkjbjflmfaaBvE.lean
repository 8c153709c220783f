/- The form of a text without high runes. -/
import Derived.Deep.RegionHeld3
import Derived.Test.YthjndkjbjflmfaaBvD
namespace Go.Proofs.Ythjndkjbjflmfaa
open Go.RowKit Go.Shelf
set_option linter.unusedVariables false
set_option maxRecDepth 100000 in
set_option maxHeartbeats 4000000 in
theorem form0 (p : Pm) {N n bc hc : Nat} {ba ha : Option Addr} {va : Value} {xs : List Value} {W : World} (hb : W.ownsRow N 5 1 (.slice ba n bc) n xs) (hva : ∃ aa ac, va = .slice aa n ac) (hN : N ≤ W.heap.size) (hn : 0 < n) (hn2 : n ≤ 5000) :
    Calls Try.prog 26 #[.agg #[.slice ba n bc, va, .slice ha 0 hc], .agg (cellsP p)] W fun e w' => ∃ v', e = .returned v' ∧ w'.ownsRow N 5 1 v' (n + 1) (xs ++ [.int .u8 45]) ∧ Below N W w' := by
  obtain ⟨aa, ac, rfl⟩ := hva
  have hbeg := fun w => begin_any p (n : Int) w
  have hs := fun c w => sort1 ha 0 hc (by omega) c w
  obtain ⟨iU, hif, hz0, hz1, hz2⟩ := info_parts infoUb
  have HIU := hide (And.intro hif (And.intro hz0 (And.intro hz1 hz2)))
  clear hif hz0 hz1 hz2
  have hn3 : (0 : Int) < (n : Int) := by omega
  obtain ⟨B, lo, hi, sk, da, bi, fi⟩ := p
  dsimp only [cellsP] at *
  have BX : Blk ((W.alloc (.cells #[.slice ba n bc, .slice aa n ac, .slice ha 0 hc] 52)).alloc (.cells (cellsP ⟨B, lo, hi, sk, da, bi, fi⟩) 26)) W.heap.size #[.slice ba n bc, .slice aa n ac, .slice ha 0 hc] 52 := (Blk.new W _ _).alloc _
  have BP : Blk ((W.alloc (.cells #[.slice ba n bc, .slice aa n ac, .slice ha 0 hc] 52)).alloc (.cells (cellsP ⟨B, lo, hi, sk, da, bi, fi⟩) 26)) (W.heap.size + 1) (cellsP ⟨B, lo, hi, sk, da, bi, fi⟩) 26 := by
    have h1 := Blk.new (W.alloc (.cells #[.slice ba n bc, .slice aa n ac, .slice ha 0 hc] 52)) (cellsP ⟨B, lo, hi, sk, da, bi, fi⟩) 26
    rwa [show (W.alloc (.cells #[.slice ba n bc, .slice aa n ac, .slice ha 0 hc] 52)).heap.size = W.heap.size + 1 by simp] at h1
  have RB := (hb.alloc (.cells #[.slice ba n bc, .slice aa n ac, .slice ha 0 hc] 52)).alloc (.cells (cellsP ⟨B, lo, hi, sk, da, bi, fi⟩) 26)
  have BL : Below N W ((W.alloc (.cells #[.slice ba n bc, .slice aa n ac, .slice ha 0 hc] 52)).alloc (.cells (cellsP ⟨B, lo, hi, sk, da, bi, fi⟩) 26)) := ((Below.refl _ _).alloc hN _).alloc (by simp; omega) _
  have HBG := hide hbeg
  have HSO := hide hs
  have HRB := hide RB
  have HBL := hide BL
  have HBX := hide BX
  have HBP := hide BP
  have hob := own_ltB hb
  clear hbeg hs RB BL BX BP
  go_enter Try.func26, Try.ntmps26
  go_wp2_with fail
  generalize (W.alloc (.cells #[.slice ba n bc, .slice aa n ac, .slice ha 0 hc] 52)).alloc (.cells #[.int .i64 B, .int .i64 lo, .int .i64 hi, .int .i64 sk, .int .i64 da, .int .i64 bi, .int .i32 fi] 26) = W2 at *
  have x0 : (W2).cell? ⟨W.heap.size, 0, none⟩ = some (.slice ba n bc) := ((unhide HBX)).cell 0
  have x1 : (W2).cell? ⟨W.heap.size, 1, none⟩ = some (.slice aa n ac) := ((unhide HBX)).cell 1
  have x2 : (W2).cell? ⟨W.heap.size, 2, none⟩ = some (.slice ha 0 hc) := ((unhide HBX)).cell 2
  go_quiet (fail)
  have HR3 := hide (show (W2.drewN nq).ownsRow N 5 1 (.slice ba n bc) n xs from unhide HRB)
  have HX3 := hide (show Blk (W2.drewN nq) W.heap.size #[.slice ba n bc, .slice aa n ac, .slice ha 0 hc] 52 from unhide HBX)
  have HP3 := hide (show Blk (W2.drewN nq) (W.heap.size + 1) (cellsP ⟨B, lo, hi, sk, da, bi, fi⟩) 26 from unhide HBP)
  have HL3 := hide (below_drewC (unhide HBL) nq)
  have NS3 : W.heap.size + 1 < (W2.drewN nq).heap.size := (unhide HBP).lt
  generalize W2.drewN nq = W3 at *
  clear x0 x1 x2 HRB HBX HBP HBL
  go_wp2_with (at_builtin; refine wpList_append_own _ rfl _ _ 43 rfl N 5 iU (.int .u8 0) 1 1 Try.underlying43 (unhide HIU).1 (unhide HIU).2.1 (unhide HIU).2.2.1 (unhide HIU).2.2.2 rfl (by decide) _ n _ rfl ((unhide HR3).alloc _) ⟨W3.heap.size, 0, none⟩ 1 1 [.int .u8 45] rfl rfl ?c1 ?c2 ?c3 ?c4 ?c5 ?_)
  case c1 =>
    intro j u hj
    rw [addRb]
    exact ((Blk.new W3 #[.int .u8 45] 5).cell (0 + j)).trans (by rw [← hj]; simp)
  case c2 => intro u hu; simp at hu; rw [hu]; rfl
  case c3 => unfold maxLen; omega
  case c4 => omega
  case c5 => simp; omega
  intro v4 W4 h1 h2 _
  obtain ⟨a4, c4, rfl⟩ : ∃ va vc, v4 = .slice va (n + 1) vc := by
    rcases h1.2 with ⟨rfl, h0⟩ | ⟨g, cap, cur, rfl, _⟩
    · omega
    · exact ⟨_, cap, rfl⟩
  have HR4 := hide h1
  have HX4 := hide (((unhide HX3).alloc (.cells #[.int .u8 45] 5)).kept h2 (fun e => by have := (hob _ e.symm).2; omega))
  have HP4 := hide (((unhide HP3).alloc (.cells #[.int .u8 45] 5)).kept h2 (fun e => by have := (hob _ e.symm).2; omega))
  have HL4 := hide (((unhide HL3).alloc (by omega) (.cells #[.int .u8 45] 5)).grown h2 (by simp; omega) (fun k e => (hob k e).1))
  clear h1 h2 HR3 HX3 HP3 HL3
  have x0 : (W4).cell? ⟨W.heap.size, 0, none⟩ = some (.slice ba n bc) := ((unhide HX4)).cell 0
  have x1 : (W4).cell? ⟨W.heap.size, 1, none⟩ = some (.slice aa n ac) := ((unhide HX4)).cell 1
  have x2 : (W4).cell? ⟨W.heap.size, 2, none⟩ = some (.slice ha 0 hc) := ((unhide HX4)).cell 2
  have q0 : (W4).cell? ⟨W.heap.size + 1, 0, none⟩ = some (.int .i64 B) := ((unhide HP4)).cell 0
  have q1 : (W4).cell? ⟨W.heap.size + 1, 1, none⟩ = some (.int .i64 lo) := ((unhide HP4)).cell 1
  have q2 : (W4).cell? ⟨W.heap.size + 1, 2, none⟩ = some (.int .i64 hi) := ((unhide HP4)).cell 2
  have q3 : (W4).cell? ⟨W.heap.size + 1, 3, none⟩ = some (.int .i64 sk) := ((unhide HP4)).cell 3
  have q4 : (W4).cell? ⟨W.heap.size + 1, 4, none⟩ = some (.int .i64 da) := ((unhide HP4)).cell 4
  have q5 : (W4).cell? ⟨W.heap.size + 1, 5, none⟩ = some (.int .i64 bi) := ((unhide HP4)).cell 5
  have q6 : (W4).cell? ⟨W.heap.size + 1, 6, none⟩ = some (.int .i32 fi) := ((unhide HP4)).cell 6
  have NS4 : W.heap.size + 1 < W4.heap.size := (unhide HP4).lt
  go_wp2_with (first
    | (go_at_call 41; refine (unhide HSO _ _).mono ?_; rintro e w5 ⟨rfl, hw5⟩; have hw6 := hw5.symm; clear hw5; subst hw6)
    | (go_at_call 44; refine (unhide HBG _).mono ?_; rintro e w7 ⟨g, rfl, hg1, hg2, hg3⟩; have HG2 := hide hg2; have HG3 := hide hg3; have x27 := (Below.cell (p := ⟨W.heap.size, 2, none⟩) hg3 (show W.heap.size < W4.heap.size by omega)).trans x2; clear hg2 hg3))
  refine wp_loop_rounds 1 ?_
  rw [rounds_succ]
  go_wp2_with fail
  go_ret
  exact ⟨_, rfl, (unhide HR4).kept (grown_of_below (unhide HG3)) (by cases a4 <;> simp [Value.ownBlock]), (unhide HL4).trans ((unhide HG3).mono (by omega))⟩
set_option maxRecDepth 100000 in
set_option maxHeartbeats 4000000 in
theorem form1 {p : Pm} (hp : rightP p) (ht1 : 1 < thr p p.bi 1) {N bc ac hc ga gh : Nat} {ba : Option Addr} {v0 t : Int} (hvt : v0 < t) {xs : List Value} {W : World} (hb : W.ownsRow N 5 1 (.slice ba 1 bc) 1 xs) (hva : W.ownsRow N 3 1 (.slice (some ⟨ga, 0, none⟩) 1 ac) 1 (encZb [v0])) (hvh : W.ownsRow N 80 2 (.slice (some ⟨gh, 0, none⟩) 1 hc) 1 (encH [(p.fi, t)])) (hN : N ≤ W.heap.size) :
    Calls Try.prog 26 #[.agg #[.slice ba 1 bc, .slice (some ⟨ga, 0, none⟩) 1 ac, .slice (some ⟨gh, 0, none⟩) 1 hc], .agg (cellsP p)] W fun e w' => ∃ v', e = .returned v' ∧ w'.ownsRow N 5 1 v' 3 (xs ++ [.int .u8 45] ++ [.int .u8 98]) ∧ Below N W w' := by
  have HPp := hide hp
  have HT1 := hide ht1
  have hfi := width_bd hp.2.2.2.2.2.2.2.2.2.2.2.2
  have hbi := hp.2.2.2.2.2.2.2.2.2.1
  have hbi2 := hp.2.2.2.2.2.2.2.2.2.2.1
  have hda := hp.2.2.2.2.2.2.2.1
  have hda2 := hp.2.2.2.2.2.2.2.2.1
  have hbeg := fun w => begin_any p 1 w
  have hs := fun c w => sort1 (some ⟨gh, 0, none⟩) 1 hc (by omega) c w
  obtain ⟨iU, hif, hz0, hz1, hz2⟩ := info_parts infoUb
  have HIU := hide (And.intro hif (And.intro hz0 (And.intro hz1 hz2)))
  clear hif hz0 hz1 hz2 hp ht1
  have hn3 : (0 : Int) < (1 : Int) := by omega
  have hn2 : 1 ≤ 5000 := by omega
  obtain ⟨B, lo, hi, sk, da, bi, fi⟩ := p
  dsimp only [cellsP] at *
  have BX : Blk ((W.alloc (.cells #[.slice ba 1 bc, .slice (some ⟨ga, 0, none⟩) 1 ac, .slice (some ⟨gh, 0, none⟩) 1 hc] 52)).alloc (.cells (cellsP ⟨B, lo, hi, sk, da, bi, fi⟩) 26)) W.heap.size #[.slice ba 1 bc, .slice (some ⟨ga, 0, none⟩) 1 ac, .slice (some ⟨gh, 0, none⟩) 1 hc] 52 := (Blk.new W _ _).alloc _
  have BP : Blk ((W.alloc (.cells #[.slice ba 1 bc, .slice (some ⟨ga, 0, none⟩) 1 ac, .slice (some ⟨gh, 0, none⟩) 1 hc] 52)).alloc (.cells (cellsP ⟨B, lo, hi, sk, da, bi, fi⟩) 26)) (W.heap.size + 1) (cellsP ⟨B, lo, hi, sk, da, bi, fi⟩) 26 := by
    have h1 := Blk.new (W.alloc (.cells #[.slice ba 1 bc, .slice (some ⟨ga, 0, none⟩) 1 ac, .slice (some ⟨gh, 0, none⟩) 1 hc] 52)) (cellsP ⟨B, lo, hi, sk, da, bi, fi⟩) 26
    rwa [show (W.alloc (.cells #[.slice ba 1 bc, .slice (some ⟨ga, 0, none⟩) 1 ac, .slice (some ⟨gh, 0, none⟩) 1 hc] 52)).heap.size = W.heap.size + 1 by simp] at h1
  have RB := (hb.alloc (.cells #[.slice ba 1 bc, .slice (some ⟨ga, 0, none⟩) 1 ac, .slice (some ⟨gh, 0, none⟩) 1 hc] 52)).alloc (.cells (cellsP ⟨B, lo, hi, sk, da, bi, fi⟩) 26)
  have BL : Below N W ((W.alloc (.cells #[.slice ba 1 bc, .slice (some ⟨ga, 0, none⟩) 1 ac, .slice (some ⟨gh, 0, none⟩) 1 hc] 52)).alloc (.cells (cellsP ⟨B, lo, hi, sk, da, bi, fi⟩) 26)) := ((Below.refl _ _).alloc hN _).alloc (by simp; omega) _
  have HBG := hide hbeg
  have HSO := hide hs
  have HRB := hide RB
  have HBL := hide BL
  have HBX := hide BX
  have HBP := hide BP
  have hob := own_ltB hb
  have hoa := own_ltB hva
  have hoh := own_ltB hvh
  have hgaW : ga < W.heap.size := (hoa ga rfl).2
  have hghW : gh < W.heap.size := (hoh gh rfl).2
  have RA := (hva.alloc (.cells #[.slice ba 1 bc, .slice (some ⟨ga, 0, none⟩) 1 ac, .slice (some ⟨gh, 0, none⟩) 1 hc] 52)).alloc (.cells (cellsP ⟨B, lo, hi, sk, da, bi, fi⟩) 26)
  have RH := (hvh.alloc (.cells #[.slice ba 1 bc, .slice (some ⟨ga, 0, none⟩) 1 ac, .slice (some ⟨gh, 0, none⟩) 1 hc] 52)).alloc (.cells (cellsP ⟨B, lo, hi, sk, da, bi, fi⟩) 26)
  have HRA := hide RA
  have HRH := hide RH
  have TYA := rows_typesB hva hb (by decide)
  have TYH := rows_typesB hvh hb (by decide)
  have HTYA := hide TYA
  have HTYH := hide TYH
  clear RA RH TYA TYH hva hvh hoa hoh
  clear hbeg hs RB BL BX BP
  go_enter Try.func26, Try.ntmps26
  go_wp2_with fail
  generalize (W.alloc (.cells #[.slice ba 1 bc, .slice (some ⟨ga, 0, none⟩) 1 ac, .slice (some ⟨gh, 0, none⟩) 1 hc] 52)).alloc (.cells #[.int .i64 B, .int .i64 lo, .int .i64 hi, .int .i64 sk, .int .i64 da, .int .i64 bi, .int .i32 fi] 26) = W2 at *
  have x0 : (W2).cell? ⟨W.heap.size, 0, none⟩ = some (.slice ba 1 bc) := ((unhide HBX)).cell 0
  have x1 : (W2).cell? ⟨W.heap.size, 1, none⟩ = some (.slice (some ⟨ga, 0, none⟩) 1 ac) := ((unhide HBX)).cell 1
  have x2 : (W2).cell? ⟨W.heap.size, 2, none⟩ = some (.slice (some ⟨gh, 0, none⟩) 1 hc) := ((unhide HBX)).cell 2
  go_quiet (fail)
  have HR3 := hide (show (W2.drewN nq).ownsRow N 5 1 (.slice ba 1 bc) 1 xs from unhide HRB)
  have HX3 := hide (show Blk (W2.drewN nq) W.heap.size #[.slice ba 1 bc, .slice (some ⟨ga, 0, none⟩) 1 ac, .slice (some ⟨gh, 0, none⟩) 1 hc] 52 from unhide HBX)
  have HP3 := hide (show Blk (W2.drewN nq) (W.heap.size + 1) (cellsP ⟨B, lo, hi, sk, da, bi, fi⟩) 26 from unhide HBP)
  have HRA3 := hide (show (W2.drewN nq).ownsRow N 3 1 _ 1 _ from unhide HRA)
  have HRH3 := hide (show (W2.drewN nq).ownsRow N 80 2 _ 1 _ from unhide HRH)
  have HL3 := hide (below_drewC (unhide HBL) nq)
  have NS3 : W.heap.size + 1 < (W2.drewN nq).heap.size := (unhide HBP).lt
  generalize W2.drewN nq = W3 at *
  clear x0 x1 x2 HRB HBX HBP HBL HRA HRH
  go_wp2_with (at_builtin; refine wpList_append_own _ rfl _ _ 43 rfl N 5 iU (.int .u8 0) 1 1 Try.underlying43 (unhide HIU).1 (unhide HIU).2.1 (unhide HIU).2.2.1 (unhide HIU).2.2.2 rfl (by decide) _ 1 _ rfl ((unhide HR3).alloc _) ⟨W3.heap.size, 0, none⟩ 1 1 [.int .u8 45] rfl rfl ?c1 ?c2 ?c3 ?c4 ?c5 ?_)
  case c1 =>
    intro j u hj
    rw [addRb]
    exact ((Blk.new W3 #[.int .u8 45] 5).cell (0 + j)).trans (by rw [← hj]; simp)
  case c2 => intro u hu; simp at hu; rw [hu]; rfl
  case c3 => unfold maxLen; omega
  case c4 => omega
  case c5 => simp; omega
  intro v4 W4 h1 h2 _
  obtain ⟨a4, c4, rfl⟩ : ∃ va vc, v4 = .slice va (1 + 1) vc := by
    rcases h1.2 with ⟨rfl, h0⟩ | ⟨g, cap, cur, rfl, _⟩
    · omega
    · exact ⟨_, cap, rfl⟩
  have HR4 := hide h1
  have HRA4 := hide (((unhide HRA3).alloc (.cells #[.int .u8 45] 5)).kept h2 (unhide HTYA))
  have HRH4 := hide (((unhide HRH3).alloc (.cells #[.int .u8 45] 5)).kept h2 (unhide HTYH))
  have HX4 := hide (((unhide HX3).alloc (.cells #[.int .u8 45] 5)).kept h2 (fun e => by have := (hob _ e.symm).2; omega))
  have HP4 := hide (((unhide HP3).alloc (.cells #[.int .u8 45] 5)).kept h2 (fun e => by have := (hob _ e.symm).2; omega))
  have HL4 := hide (((unhide HL3).alloc (by omega) (.cells #[.int .u8 45] 5)).grown h2 (by simp; omega) (fun k e => (hob k e).1))
  clear h1 h2 HR3 HX3 HP3 HL3
  have x0 : (W4).cell? ⟨W.heap.size, 0, none⟩ = some (.slice ba 1 bc) := ((unhide HX4)).cell 0
  have x1 : (W4).cell? ⟨W.heap.size, 1, none⟩ = some (.slice (some ⟨ga, 0, none⟩) 1 ac) := ((unhide HX4)).cell 1
  have x2 : (W4).cell? ⟨W.heap.size, 2, none⟩ = some (.slice (some ⟨gh, 0, none⟩) 1 hc) := ((unhide HX4)).cell 2
  have q0 : (W4).cell? ⟨W.heap.size + 1, 0, none⟩ = some (.int .i64 B) := ((unhide HP4)).cell 0
  have q1 : (W4).cell? ⟨W.heap.size + 1, 1, none⟩ = some (.int .i64 lo) := ((unhide HP4)).cell 1
  have q2 : (W4).cell? ⟨W.heap.size + 1, 2, none⟩ = some (.int .i64 hi) := ((unhide HP4)).cell 2
  have q3 : (W4).cell? ⟨W.heap.size + 1, 3, none⟩ = some (.int .i64 sk) := ((unhide HP4)).cell 3
  have q4 : (W4).cell? ⟨W.heap.size + 1, 4, none⟩ = some (.int .i64 da) := ((unhide HP4)).cell 4
  have q5 : (W4).cell? ⟨W.heap.size + 1, 5, none⟩ = some (.int .i64 bi) := ((unhide HP4)).cell 5
  have q6 : (W4).cell? ⟨W.heap.size + 1, 6, none⟩ = some (.int .i32 fi) := ((unhide HP4)).cell 6
  have NS4 : W.heap.size + 1 < W4.heap.size := (unhide HP4).lt
  go_wp2_with (first
    | (go_at_call 41; refine (unhide HSO _ _).mono ?_; rintro e w5 ⟨rfl, hw5⟩; have hw6 := hw5.symm; clear hw5; subst hw6)
    | (go_at_call 44; refine (unhide HBG _).mono ?_; rintro e w7 ⟨g, rfl, hg1, hg2, hg3⟩; have HG2 := hide hg2; have HG3 := hide hg3; have x27 := (Below.cell (p := ⟨W.heap.size, 2, none⟩) hg3 (show W.heap.size < W4.heap.size by omega)).trans x2; clear hg2 hg3))
  have hgl : W4.heap.size ≤ g := by omega
  have RA7 := hide ((unhide HRA4).kept (grown_of_below (unhide HG3)) (.inr (by simp [Value.ownBlock])))
  have RH7 := hide ((unhide HRH4).kept (grown_of_below (unhide HG3)) (.inr (by simp [Value.ownBlock])))
  have RB7 := hide ((unhide HR4).kept (grown_of_below (unhide HG3)) (by cases a4 <;> simp [Value.ownBlock]))
  have hob4 := own_ltB (unhide HR4)
  have y0 : w7.cell? ⟨gh, 0, none⟩ = some (.int .i32 fi) := by
    have h1 := (unhide RH7).cells (g := gh) rfl 0 (.int .i32 fi) rfl
    rwa [addRb] at h1
  have y1 : w7.cell? ⟨gh, 1, none⟩ = some (.int .i64 t) := by
    have h1 := (unhide RH7).cells (g := gh) rfl 1 (.int .i64 t) rfl
    rwa [addRb] at h1
  have l0 : (w7.alloc (.cells #[.int .i32 fi, .int .i64 t] 80)).cell? ⟨ga, 0, none⟩ = some (.int .i64 v0) := by
    have h1 := ((unhide RA7).alloc (.cells #[.int .i32 fi, .int .i64 t] 80)).cells (g := ga) rfl 0 (.int .i64 v0) rfl
    rwa [addRb] at h1
  have SE := fun c => search1 (c := c) l0 hvt
  have HSE := hide SE
  clear SE l0
  refine wp_loop_rounds 2 ?_
  rw [rounds_succ]
  go_wp2_with (go_at_call 45; refine (unhide HSE _).mono ?_; rintro e w8 ⟨rfl, hw8⟩; have hw9 := hw8.symm; clear hw8; subst hw9)
  have C8 := hide ((unhide HG2).alloc (.cells #[.int .i32 fi, .int .i64 t] 80))
  have Y8 := hide (Blk.new w7 #[.int .i32 fi, .int .i64 t] 80)
  have z8 : (w7.alloc (.cells #[.int .i32 fi, .int .i64 t] 80)).heap.size = w7.heap.size + 1 := by simp
  have zg := (unhide HG3).size
  have cl7 := (unhide HG2).lt
  have hgaN := (own_ltB (unhide RA7) ga rfl).1
  have TYB := rows_typesB (unhide RB7) (unhide RA7) (by decide)
  have B9 : Blk ((w7.alloc (.cells #[.int .i32 fi, .int .i64 t] 80)).alloc (.cells #[.int .i64 t] 3)) (w7.heap.size + 1) #[.int .i64 t] 3 := by
    have h1 := Blk.new (w7.alloc (.cells #[.int .i32 fi, .int .i64 t] 80)) #[.int .i64 t] 3
    rwa [z8] at h1
  have IN := insZb_end (lo := N) (n := 1) (zs := [v0]) (x := t) rfl (((unhide RA7).alloc (.cells #[.int .i32 fi, .int .i64 t] 80)).alloc (.cells #[.int .i64 t] 3)) (by omega) B9 (by simp; omega)
  rw [show (((1 : Nat) : Int)) = 1 from rfl] at IN
  have L7 := hide ((((unhide HL4).trans ((unhide HG3).mono (by omega))).alloc (by omega) (.cells #[.int .i32 fi, .int .i64 t] 80)).alloc (by simp; omega) (.cells #[.int .i64 t] 3))
  refine IN.mono ?_
  rintro e W10 ⟨v6, rfl, h1, h2⟩
  obtain ⟨a6, c6, rfl⟩ : ∃ va vc, v6 = .slice va 2 vc := by
    rcases h1.2 with ⟨rfl, h0⟩ | ⟨g, cap, cur, rfl, _⟩
    · omega
    · exact ⟨_, cap, rfl⟩
  have C10 := ((unhide C8).alloc (.cells #[.int .i64 t] 3)).kept h2 (by intro e; simp only [Value.ownBlock] at e; injection e; omega)
  have Y10 := ((unhide Y8).alloc (.cells #[.int .i64 t] 3)).kept h2 (by intro e; simp only [Value.ownBlock] at e; injection e; omega)
  have RB10 := (((unhide RB7).alloc (.cells #[.int .i32 fi, .int .i64 t] 80)).alloc (.cells #[.int .i64 t] 3)).kept h2 TYB
  have L10 := hide ((unhide L7).grown h2 (by simp; omega) (fun k e => by simp [Value.ownBlock] at e; omega))
  have k0 : W10.cell? ⟨w7.heap.size, 0, none⟩ = some (.int .i32 fi) := Y10.cell 0
  have k1 : W10.cell? ⟨w7.heap.size, 1, none⟩ = some (.int .i64 t) := Y10.cell 1
  have s10 := h2.size
  simp only [World.size_alloc] at s10
  have NU := number_any (r := fi) (s := 1) C10 (by omega) (by omega) (by omega) (by omega)
  rw [show (fi - fi) * (1 + 1) + 1 - 0 = 1 by rw [Int.sub_self]; rfl] at NU
  have HNU := hide NU
  have HC10 := hide C10
  have HY10 := hide Y10
  have HRB10 := hide RB10
  clear IN B9 L7 h1 h2 C10 Y10 RB10 NU y0 y1 C8 Y8 TYB
  go_wp2_with (go_at_call 47; refine (unhide HNU).mono ?_; rintro e w11 ⟨rfl, q, rfl⟩)
  have WR := write1 (W := W10.drewN q) (unhide HPp) (unhide HC10) ⟨hbi, by show bi ≤ 4000; have e : (Pm.mk B lo hi sk da bi fi).bi = bi := rfl; omega⟩ (unhide HT1) (show (W10.drewN q).ownsRow N 5 1 _ 2 _ from unhide HRB10) (by show N ≤ W10.heap.size; omega) (by omega)
  refine WR.mono ?_
  rintro e W12 ⟨v8, rfl, h1, h2⟩
  obtain ⟨a8, c8, rfl⟩ : ∃ va vc, v8 = .slice va 3 vc := by
    rcases h1.2 with ⟨rfl, h0⟩ | ⟨g, cap, cur, rfl, _⟩
    · omega
    · exact ⟨_, cap, rfl⟩
  have C12 := Blk.kept (W := W10.drewN q) (unhide HC10) h2 (fun e => by have := (hob4 _ e.symm).2; omega)
  have Y12 := Blk.kept (W := W10.drewN q) (unhide HY10) h2 (fun e => by have := (hob4 _ e.symm).2; omega)
  have L12 := hide ((below_drewC (unhide L10) q).grown h2 (by show N ≤ W10.heap.size; omega) (fun k e => (hob4 k e).1))
  have m0 : W12.cell? ⟨w7.heap.size, 0, none⟩ = some (.int .i32 fi) := Y12.cell 0
  have s12 : W10.heap.size ≤ W12.heap.size := h2.size
  have GO := goOn_any (W := W12) (v := 1) (r := fi) (s := 1) (unhide HPp) C12 (by omega) (by omega) ⟨by have e : (Pm.mk B lo hi sk da bi fi).da = da := rfl; omega, hda2⟩ (by omega)
  have HGO := hide GO
  have HR12 := hide h1
  have c12l := C12.lt
  have NE12 := hide (own_neC h1 C12 (by decide))
  clear WR h1 h2 C12 Y12 GO k0 k1
  go_wp2_with (go_at_call 49; refine (unhide HGO).mono ?_; rintro e w13 ⟨rfl, h7, h8, h9⟩)
  have H7 := hide h7
  clear h7 h8 h9
  rw [rounds_succ]
  go_wp2_with fail
  go_ret
  exact ⟨_, rfl, (unhide HR12).kept (unhide H7) (.inr (unhide NE12)), (unhide L12).grown (unhide H7) (by omega) (fun k e => by injection e; omega)⟩
end Go.Proofs.Ythjndkjbjflmfaa
