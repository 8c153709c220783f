/- The form of a text without runes. -/
import Derived.Test.YthjndkjbjflmfaaBvJ
import Derived.Deep.RegionHeld3
namespace Go.Proofs.Ythjndkjbjflmfaa
open Go.RowKit Go.Shelf
set_option linter.unusedVariables false
set_option maxRecDepth 100000 in
set_option maxHeartbeats 4000000 in
theorem formE (p : Pm) {N bc hc : Nat} {ba ha : Option Addr} {va : Value} {xs : List Value} {W : World} (hb : W.ownsRow N 5 1 (.slice ba 0 bc) 0 xs) (hva : ∃ aa ac, va = .slice aa 0 ac) (hN : N ≤ W.heap.size) :
    Calls Try.prog 26 #[.agg #[.slice ba 0 bc, va, .slice ha 0 hc], .agg (cellsP p)] W fun e w' => ∃ v', e = .returned v' ∧ w'.ownsRow N 5 1 v' 0 xs ∧ Below N W w' := by
  obtain ⟨aa, ac, rfl⟩ := hva
  have hbeg := fun w => begin_any p 0 w
  have hs := fun c w => sort1 ha 0 hc (by omega) c w
  obtain ⟨iU, hif, hz0, hz1, hz2⟩ := info_parts infoUb
  have HIU := hide (And.intro hif (And.intro hz0 (And.intro hz1 hz2)))
  clear hif hz0 hz1 hz2
  obtain ⟨B, lo, hi, sk, da, bi, fi⟩ := p
  dsimp only [cellsP] at *
  have BX : Blk ((W.alloc (.cells #[.slice ba 0 bc, .slice aa 0 ac, .slice ha 0 hc] 52)).alloc (.cells (cellsP ⟨B, lo, hi, sk, da, bi, fi⟩) 26)) W.heap.size #[.slice ba 0 bc, .slice aa 0 ac, .slice ha 0 hc] 52 := (Blk.new W _ _).alloc _
  have BP : Blk ((W.alloc (.cells #[.slice ba 0 bc, .slice aa 0 ac, .slice ha 0 hc] 52)).alloc (.cells (cellsP ⟨B, lo, hi, sk, da, bi, fi⟩) 26)) (W.heap.size + 1) (cellsP ⟨B, lo, hi, sk, da, bi, fi⟩) 26 := by
    have h1 := Blk.new (W.alloc (.cells #[.slice ba 0 bc, .slice aa 0 ac, .slice ha 0 hc] 52)) (cellsP ⟨B, lo, hi, sk, da, bi, fi⟩) 26
    rwa [show (W.alloc (.cells #[.slice ba 0 bc, .slice aa 0 ac, .slice ha 0 hc] 52)).heap.size = W.heap.size + 1 by simp] at h1
  have RB := (hb.alloc (.cells #[.slice ba 0 bc, .slice aa 0 ac, .slice ha 0 hc] 52)).alloc (.cells (cellsP ⟨B, lo, hi, sk, da, bi, fi⟩) 26)
  have BL : Below N W ((W.alloc (.cells #[.slice ba 0 bc, .slice aa 0 ac, .slice ha 0 hc] 52)).alloc (.cells (cellsP ⟨B, lo, hi, sk, da, bi, fi⟩) 26)) := ((Below.refl _ _).alloc hN _).alloc (by simp; omega) _
  have HBG := hide hbeg
  have HSO := hide hs
  have HRB := hide RB
  have HBL := hide BL
  have HBX := hide BX
  have HBP := hide BP
  have hob := own_ltB hb
  clear hbeg hs RB BL BX BP
  go_enter Try.func26, Try.ntmps26
  go_wp2_with fail
  generalize (W.alloc (.cells #[.slice ba 0 bc, .slice aa 0 ac, .slice ha 0 hc] 52)).alloc (.cells #[.int .i64 B, .int .i64 lo, .int .i64 hi, .int .i64 sk, .int .i64 da, .int .i64 bi, .int .i32 fi] 26) = W2 at *
  have x0 : (W2).cell? ⟨W.heap.size, 0, none⟩ = some (.slice ba 0 bc) := ((unhide HBX)).cell 0
  have x1 : (W2).cell? ⟨W.heap.size, 1, none⟩ = some (.slice aa 0 ac) := ((unhide HBX)).cell 1
  have x2 : (W2).cell? ⟨W.heap.size, 2, none⟩ = some (.slice ha 0 hc) := ((unhide HBX)).cell 2
  go_quiet (fail)
  have HR3 := hide (show (W2.drewN nq).ownsRow N 5 1 (.slice ba 0 bc) 0 xs from unhide HRB)
  have HX3 := hide (show Blk (W2.drewN nq) W.heap.size #[.slice ba 0 bc, .slice aa 0 ac, .slice ha 0 hc] 52 from unhide HBX)
  have HP3 := hide (show Blk (W2.drewN nq) (W.heap.size + 1) (cellsP ⟨B, lo, hi, sk, da, bi, fi⟩) 26 from unhide HBP)
  have HL3 := hide (below_drewC (unhide HBL) nq)
  have NS3 : W.heap.size + 1 < (W2.drewN nq).heap.size := (unhide HBP).lt
  generalize W2.drewN nq = W3 at *
  clear x0 x1 x2 HRB HBX HBP HBL
  have x0 : (W3).cell? ⟨W.heap.size, 0, none⟩ = some (.slice ba 0 bc) := ((unhide HX3)).cell 0
  have x1 : (W3).cell? ⟨W.heap.size, 1, none⟩ = some (.slice aa 0 ac) := ((unhide HX3)).cell 1
  have x2 : (W3).cell? ⟨W.heap.size, 2, none⟩ = some (.slice ha 0 hc) := ((unhide HX3)).cell 2
  have q0 : (W3).cell? ⟨W.heap.size + 1, 0, none⟩ = some (.int .i64 B) := ((unhide HP3)).cell 0
  have q1 : (W3).cell? ⟨W.heap.size + 1, 1, none⟩ = some (.int .i64 lo) := ((unhide HP3)).cell 1
  have q2 : (W3).cell? ⟨W.heap.size + 1, 2, none⟩ = some (.int .i64 hi) := ((unhide HP3)).cell 2
  have q3 : (W3).cell? ⟨W.heap.size + 1, 3, none⟩ = some (.int .i64 sk) := ((unhide HP3)).cell 3
  have q4 : (W3).cell? ⟨W.heap.size + 1, 4, none⟩ = some (.int .i64 da) := ((unhide HP3)).cell 4
  have q5 : (W3).cell? ⟨W.heap.size + 1, 5, none⟩ = some (.int .i64 bi) := ((unhide HP3)).cell 5
  have q6 : (W3).cell? ⟨W.heap.size + 1, 6, none⟩ = some (.int .i32 fi) := ((unhide HP3)).cell 6
  have NS3b : W.heap.size + 1 < W3.heap.size := (unhide HP3).lt
  go_wp2_with (first
    | (go_at_call 41; refine (unhide HSO _ _).mono ?_; rintro e w5 ⟨rfl, hw5⟩; have hw6 := hw5.symm; clear hw5; subst hw6)
    | (go_at_call 44; refine (unhide HBG _).mono ?_; rintro e w7 ⟨g, rfl, hg1, hg2, hg3⟩; have HG2 := hide hg2; have HG3 := hide hg3; have x27 := (Below.cell (p := ⟨W.heap.size, 2, none⟩) hg3 (show W.heap.size < W3.heap.size by omega)).trans x2; clear hg2 hg3))
  refine wp_loop_rounds 1 ?_
  rw [rounds_succ]
  go_wp2_with fail
  go_ret
  exact ⟨_, rfl, (unhide HR3).kept (grown_of_below (unhide HG3)) (by cases ba <;> simp [Value.ownBlock]), (unhide HL3).trans ((unhide HG3).mono (by omega))⟩
set_option maxRecDepth 100000 in
set_option maxHeartbeats 4000000 in
theorem enc_none {p : Pm} (hp : rightB p = true) (s : ByteArray) (hs : s.size ≤ 65536) (hne : ∀ i ∈ starts s, rn s i ≠ 65533) (hR : ptF p.fi s (starts s) [] [] [] = (([], [], []), 0)) (w : World) : Calls Try.prog 14 #[.agg (cellsP p), .string s] w fun e w' => e = .returned (.tuple #[.string ⟨#[]⟩, .int .i64 0]) ∧ Below w.heap.size w w' := by
  have hr := fun w => right_any p w
  have HPp := hide ((rightB_iff p).1 hp)
  rw [hp] at hr
  have HR := hide hr
  have hpa := fun w => parts_any p s hs hne w
  rw [hR] at hpa
  have HPA := hide hpa
  have hs2 : ¬ (65536 : Int) < (s.size : Int) := by omega
  clear hR
  clear hr hpa hne hp
  obtain ⟨B, lo, hi, sk, da, bi, fi⟩ := p
  dsimp only [cellsP] at *
  go_enter Try.func14, Try.ntmps14
  go_wp2_with (first
    | (go_at_call 13; refine (unhide HR _).mono ?_; rintro e w2 ⟨rfl, hb⟩; have PB2 := hide ((Blk.new w (cellsP ⟨B, lo, hi, sk, da, bi, fi⟩) 26).below hb (by simp)); have BL2 := hide (((Below.refl _ w).alloc (Nat.le_refl _) (.cells (cellsP ⟨B, lo, hi, sk, da, bi, fi⟩) 26)).trans (hb.mono (by simp))); have p0 : w2.cell? ⟨w.heap.size, 0, none⟩ = some (.int .i64 B) := (unhide PB2).cell 0; have p1 : w2.cell? ⟨w.heap.size, 1, none⟩ = some (.int .i64 lo) := (unhide PB2).cell 1; have p2 : w2.cell? ⟨w.heap.size, 2, none⟩ = some (.int .i64 hi) := (unhide PB2).cell 2; have p3 : w2.cell? ⟨w.heap.size, 3, none⟩ = some (.int .i64 sk) := (unhide PB2).cell 3; have p4 : w2.cell? ⟨w.heap.size, 4, none⟩ = some (.int .i64 da) := (unhide PB2).cell 4; have p5 : w2.cell? ⟨w.heap.size, 5, none⟩ = some (.int .i64 bi) := (unhide PB2).cell 5; have p6 : w2.cell? ⟨w.heap.size, 6, none⟩ = some (.int .i32 fi) := (unhide PB2).cell 6; clear hb))
  refine (unhide HPA _).mono ?_
  rintro e w3 ⟨vb, va, vh, rfl, hb3, ob, oa, oh⟩
  have PB3 := hide ((unhide PB2).below hb3 (unhide PB2).lt)
  have BL3 := hide ((unhide BL2).trans (hb3.mono (by have := (unhide PB2).lt; omega)))
  try dsimp only at ob oa oh
  simp only [List.length_nil, List.map_nil] at ob oa oh
  obtain ⟨ba, bc, rfl⟩ : ∃ a c, vb = .slice a 0 c := by
    rcases ob.2 with ⟨rfl, h0⟩ | ⟨g, cap, cur, rfl, _⟩
    · exact ⟨none, 0, by first | rfl | rw [h0]⟩
    · exact ⟨_, cap, rfl⟩
  obtain ⟨aa, ac, rfl⟩ : ∃ a c, va = .slice a 0 c := by
    rcases oa.2 with ⟨rfl, h0⟩ | ⟨g, cap, cur, rfl, _⟩
    · exact ⟨none, 0, by first | rfl | rw [h0]⟩
    · exact ⟨_, cap, rfl⟩
  obtain ⟨ha, hc, rfl⟩ : ∃ a c, vh = .slice a 0 c := by
    rcases oh.2 with ⟨rfl, h0⟩ | ⟨g, cap, cur, rfl, _⟩
    · exact ⟨none, 0, by first | rfl | rw [h0]⟩
    · exact ⟨_, cap, rfl⟩
  have HBX := hide (Blk.new w3 #[.slice ba 0 bc, .slice aa 0 ac, .slice ha 0 hc] 52)
  have PX := hide ((unhide PB3).alloc (.cells #[.slice ba 0 bc, .slice aa 0 ac, .slice ha 0 hc] 52))
  have q0 : (w3.alloc (.cells #[.slice ba 0 bc, .slice aa 0 ac, .slice ha 0 hc] 52)).cell? ⟨w.heap.size, 0, none⟩ = some (.int .i64 B) := ((unhide PX)).cell 0
  have q1 : (w3.alloc (.cells #[.slice ba 0 bc, .slice aa 0 ac, .slice ha 0 hc] 52)).cell? ⟨w.heap.size, 1, none⟩ = some (.int .i64 lo) := ((unhide PX)).cell 1
  have q2 : (w3.alloc (.cells #[.slice ba 0 bc, .slice aa 0 ac, .slice ha 0 hc] 52)).cell? ⟨w.heap.size, 2, none⟩ = some (.int .i64 hi) := ((unhide PX)).cell 2
  have q3 : (w3.alloc (.cells #[.slice ba 0 bc, .slice aa 0 ac, .slice ha 0 hc] 52)).cell? ⟨w.heap.size, 3, none⟩ = some (.int .i64 sk) := ((unhide PX)).cell 3
  have q4 : (w3.alloc (.cells #[.slice ba 0 bc, .slice aa 0 ac, .slice ha 0 hc] 52)).cell? ⟨w.heap.size, 4, none⟩ = some (.int .i64 da) := ((unhide PX)).cell 4
  have q5 : (w3.alloc (.cells #[.slice ba 0 bc, .slice aa 0 ac, .slice ha 0 hc] 52)).cell? ⟨w.heap.size, 5, none⟩ = some (.int .i64 bi) := ((unhide PX)).cell 5
  have q6 : (w3.alloc (.cells #[.slice ba 0 bc, .slice aa 0 ac, .slice ha 0 hc] 52)).cell? ⟨w.heap.size, 6, none⟩ = some (.int .i32 fi) := ((unhide PX)).cell 6
  have FO := formE ⟨B, lo, hi, sk, da, bi, fi⟩ (N := w2.heap.size) (ha := ha) (hc := hc) (ob.alloc (.cells #[.slice ba 0 bc, .slice aa 0 ac, .slice ha 0 hc] 52)) ⟨aa, ac, rfl⟩ (by have := hb3.size; simp; omega)
  have HFO := hide FO
  clear FO hb3
  go_wp2_with fail
  refine (unhide HFO).mono ?_
  rintro e w5 ⟨v5, rfl, h5, h6⟩
  obtain ⟨a5, c5, rfl⟩ : ∃ va vc, v5 = .slice va 0 vc := by
    rcases h5.2 with ⟨rfl, h0⟩ | ⟨g, cap, cur, rfl, _⟩
    · exact ⟨none, 0, rfl⟩
    · exact ⟨_, cap, rfl⟩
  have h50 : w5.ownsRow w2.heap.size 5 1 (.slice a5 0 c5) 0 (byteVals ⟨#[]⟩) := h5
  have TXB := own_textB h50 rfl
  have H6 := hide h6
  clear h5 h50 h6
  clear q0 q1 q2 q3 q4 q5 q6 p0 p1 p2 p3 p4 p5 p6
  go_wp2_with fail
  go_ret2
  exact ⟨rfl, ((unhide BL3).alloc (by have := (unhide PB3).lt; omega) (.cells #[.slice ba 0 bc, .slice aa 0 ac, .slice ha 0 hc] 52)).trans ((unhide H6).mono (by have := (unhide PB2).lt; omega))⟩
end Go.Proofs.Ythjndkjbjflmfaa
