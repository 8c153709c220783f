/- boot.Decode: the numbers are read, the text is made. -/
import Derived.Test.YthjndkjbjflmfaaBtQ
import Derived.Deep.RegionHeld3
namespace Go.Proofs.Ythjndkjbjflmfaa
open Go.RowKit Go.Shelf
set_option linter.unusedVariables false
theorem belB {N : Nat} {w w3 w4 w5 : World} (h3 : Below N w w3) (hN : N < w3.heap.size) (h4 : Below w3.drew.heap.size w3.drew w4) (h5 : Below w3.drew.heap.size w4 w5) : Below N w w5 :=
  h3.trans ((below_drewC (Below.refl N w3) 1).trans ((h4.mono (by show N ≤ w3.heap.size; omega)).trans (h5.mono (by show N ≤ w3.heap.size; omega))))
set_option maxRecDepth 100000 in
set_option maxHeartbeats 4000000 in
theorem dec_layO {p : Pm} (hp : rightB p = true) (a : ByteArray) (hl : ¬ 65536 < a.size) (m j0 : Nat) (hm : (lastH a = -1 ∧ m = 0 ∧ j0 = 0) ∨ (lastH a = m ∧ 0 < m ∧ m < a.size ∧ j0 = m + 1)) (S : ByteArray) (hS : a.extract 0 m = S) (hr0 : (refV S).2 = 0) (T1 : List Int) (T2 : Nat) (hT : layF p a (a.size + 1) (runesL S) j0 p.bi p.da p.fi 0 = (T1, T2, 0)) (w : World) : Calls Try.prog 15 #[.agg (cellsP p), .string a] w fun e w' => e = .returned (encD (runesBytes T1, 0, 0)) ∧ Below w.heap.size w w' := by
  have li := fun w => Any.strings_LastIndexByte lay149 a 45 (by omega) w
  rw [show Lib.lastIndexByte a 45 = lastH a from rfl] at li
  have hr := fun w => right_any p w
  rw [hp] at hr
  have HR := hide hr
  have hSs : S.size ≤ 65536 := by rw [← hS, ByteArray.size_extract]; omega
  have hok := refV_ok hr0
  have rf := fun w => refused_any S hSs w
  rw [hr0] at rf
  have hRl : (runesL S).length ≤ 4096 := by rw [runesL_length]; have := starts_length S; omega
  have hRw : ∀ z ∈ runesL S, widthOf z ≠ 0 := runesL_runes S
  have hru := fun w => runesB_own S (by omega) w
  have hly := fun (lo : Nat) (v : Value) (W : World) (h1 : W.ownsRow lo 21 1 v (runesL S).length (encRb (runesL S))) (h2 : lo ≤ W.heap.size) => layIn_any (f0 := a.size + 1) (j0 := j0) ((rightB_iff p).1 hp) rfl h1 h2 hRl hRw a (by omega) (by omega) (by omega)
  rw [hT] at hly
  dsimp only at hly
  have HRF := hide rf
  have HRU := hide hru
  have HLY := hide hly
  have hj0 : (lastH a + 1 : Int) = (j0 : Int) := by omega
  generalize (refV S).1 = rp at *
  clear hr rf hru hly hok hRw hT
  generalize runesL S = RS at *
  have hl2 : ¬ (65536 : Int) < (a.size : Int) := by omega
  generalize lastH a = L at *
  obtain ⟨B, lo, hi, sk, da, bi, fi⟩ := p
  dsimp only [cellsP] at *
  rcases hm with ⟨rfl, rfl, rfl⟩ | ⟨rfl, hm0, hm1, hmj⟩
  · clear hj0
    have hS2 : a.extract 0 (max (-1 : Int) 0).toNat = S := hS
    have HS := hide hS2
    clear hS2
    have HLI := hide li
    clear li
    go_enter Try.func15, Try.ntmps15
    go_wp2_with (first | (go_at_call 27; refine (unhide HLI _).mono ?_; rintro e w1 ⟨rfl, rfl⟩) | (go_at_call 13; refine (unhide HR _).mono ?_; rintro e w2 ⟨rfl, hb⟩) | (go_at_call 28; rw [unhide HS]; refine (unhide HRF _).mono ?_; rintro e w3 ⟨rfl, hb3⟩))
    have hsz := hb.size
    have hsz3 := hb3.size
    simp only [World.size_alloc] at hsz
    have hP : Blk w3 w.heap.size (cellsP ⟨B, lo, hi, sk, da, bi, fi⟩) 26 := ((Blk.new w (cellsP ⟨B, lo, hi, sk, da, bi, fi⟩) 26).below hb (by simp)).below hb3 (by omega)
    have B3 : Below w.heap.size w w3 := (((Below.refl _ w).alloc (Nat.le_refl _) _).trans (hb.mono (by simp))).trans (hb3.mono (by omega))
    have HB3 := hide B3
    have HP3 := hide hP
    have hlt : w.heap.size < w3.heap.size := hP.lt
    have c0 : (w3).cell? ⟨w.heap.size, 0, none⟩ = some (.int .i64 B) := (unhide HP3).cell 0
    have c1 : (w3).cell? ⟨w.heap.size, 1, none⟩ = some (.int .i64 lo) := (unhide HP3).cell 1
    have c2 : (w3).cell? ⟨w.heap.size, 2, none⟩ = some (.int .i64 hi) := (unhide HP3).cell 2
    have c3 : (w3).cell? ⟨w.heap.size, 3, none⟩ = some (.int .i64 sk) := (unhide HP3).cell 3
    have c4 : (w3).cell? ⟨w.heap.size, 4, none⟩ = some (.int .i64 da) := (unhide HP3).cell 4
    have c5 : (w3).cell? ⟨w.heap.size, 5, none⟩ = some (.int .i64 bi) := (unhide HP3).cell 5
    have c6 : (w3).cell? ⟨w.heap.size, 6, none⟩ = some (.int .i32 fi) := (unhide HP3).cell 6
    have d0 : (w3.drew).cell? ⟨w.heap.size, 0, none⟩ = some (.int .i64 B) := (unhide HP3).cell 0
    have d1 : (w3.drew).cell? ⟨w.heap.size, 1, none⟩ = some (.int .i64 lo) := (unhide HP3).cell 1
    have d2 : (w3.drew).cell? ⟨w.heap.size, 2, none⟩ = some (.int .i64 hi) := (unhide HP3).cell 2
    have d3 : (w3.drew).cell? ⟨w.heap.size, 3, none⟩ = some (.int .i64 sk) := (unhide HP3).cell 3
    have d4 : (w3.drew).cell? ⟨w.heap.size, 4, none⟩ = some (.int .i64 da) := (unhide HP3).cell 4
    have d5 : (w3.drew).cell? ⟨w.heap.size, 5, none⟩ = some (.int .i64 bi) := (unhide HP3).cell 5
    have d6 : (w3.drew).cell? ⟨w.heap.size, 6, none⟩ = some (.int .i32 fi) := (unhide HP3).cell 6
    clear hb hb3 hP B3 hsz hsz3
    clear c0 c1 c2 c3 c4 c5 c6
    go_region_held3 (fun w' => w'.cell? ⟨w.heap.size, 0, none⟩ = some (.int .i64 B) ∧ w'.cell? ⟨w.heap.size, 1, none⟩ = some (.int .i64 lo) ∧ w'.cell? ⟨w.heap.size, 2, none⟩ = some (.int .i64 hi) ∧ w'.cell? ⟨w.heap.size, 3, none⟩ = some (.int .i64 sk) ∧ w'.cell? ⟨w.heap.size, 4, none⟩ = some (.int .i64 da) ∧ w'.cell? ⟨w.heap.size, 5, none⟩ = some (.int .i64 bi) ∧ w'.cell? ⟨w.heap.size, 6, none⟩ = some (.int .i32 fi)) (first | with_reducible exact ⟨d0, d1, d2, d3, d4, d5, d6⟩ | with_reducible exact ⟨f0, f1, f2, f3, f4, f5, f6⟩ | with_reducible exact ⟨g0, g1, g2, g3, g4, g5, g6⟩)
      (first
      | (go_at_call 29; refine (unhide HLY w3.drew.heap.size _ _ (unhide HO) (unhide HB4).size).mono ?_; rintro e w5 ⟨v', rfl, hb5, h5⟩; have HB5 := hide hb5; have H5 := hide h5; have g0 := (Below.cell (p := ⟨w.heap.size, 0, none⟩) hb5 (show w.heap.size < w3.drew.heap.size from hlt)).trans f0; have g1 := (Below.cell (p := ⟨w.heap.size, 1, none⟩) hb5 (show w.heap.size < w3.drew.heap.size from hlt)).trans f1; have g2 := (Below.cell (p := ⟨w.heap.size, 2, none⟩) hb5 (show w.heap.size < w3.drew.heap.size from hlt)).trans f2; have g3 := (Below.cell (p := ⟨w.heap.size, 3, none⟩) hb5 (show w.heap.size < w3.drew.heap.size from hlt)).trans f3; have g4 := (Below.cell (p := ⟨w.heap.size, 4, none⟩) hb5 (show w.heap.size < w3.drew.heap.size from hlt)).trans f4; have g5 := (Below.cell (p := ⟨w.heap.size, 5, none⟩) hb5 (show w.heap.size < w3.drew.heap.size from hlt)).trans f5; have g6 := (Below.cell (p := ⟨w.heap.size, 6, none⟩) hb5 (show w.heap.size < w3.drew.heap.size from hlt)).trans f6; clear hb5 h5)
      | (go_at_call 30; refine (unhide HRU w3.drew).mono ?_; rintro e w4 ⟨cap, rfl, ho, hb4⟩; have f0 := (Below.cell (p := ⟨w.heap.size, 0, none⟩) hb4 hlt).trans d0; have f1 := (Below.cell (p := ⟨w.heap.size, 1, none⟩) hb4 hlt).trans d1; have f2 := (Below.cell (p := ⟨w.heap.size, 2, none⟩) hb4 hlt).trans d2; have f3 := (Below.cell (p := ⟨w.heap.size, 3, none⟩) hb4 hlt).trans d3; have f4 := (Below.cell (p := ⟨w.heap.size, 4, none⟩) hb4 hlt).trans d4; have f5 := (Below.cell (p := ⟨w.heap.size, 5, none⟩) hb4 hlt).trans d5; have f6 := (Below.cell (p := ⟨w.heap.size, 6, none⟩) hb4 hlt).trans d6; have HO := hide ho; have HB4 := hide hb4; clear ho hb4))
    obtain ⟨h6, h7, h8⟩ := unhide H5 (by trivial)
    have TX := textB_own h6 (by omega)
    rw [show runesTV T1 = .tuple #[.string (runesBytes T1), .int .i64 0] by unfold runesTV; rw [if_pos (by unfold allRunes; rw [List.all_eq_true]; intro z hz; simpa using h8 z hz)]] at TX
    have HTX := hide TX
    clear TX h6 h7 h8 H5 g0 g1 g2 g3 g4 g5 g6 f0 f1 f2 f3 f4 f5 f6 d0 d1 d2 d3 d4 d5 d6
    go_wp2_with (go_at_call 31; refine (unhide HTX).mono ?_; rintro e w6 ⟨rfl, rfl⟩)
    go_ret3
    exact ⟨rfl, belB (unhide HB3) hlt (unhide HB4) (unhide HB5)⟩
  ·
    have hm2 : ¬ (m : Int) = 0 := by omega
    have hm3 : ((m : Int) == 0) = false := by rw [beq_eq_false_iff_ne]; omega
    have hm4 : (m : Int) ≤ (a.size : Int) := by omega
    have hw1 : IntKind.i64.wrap ((m : Int) + 1) = (m : Int) + 1 := by rw [IntKind.wrap_i64]; omega
    have hly := unhide HLY
    rw [← hj0] at hly
    clear HLY
    have HLY := hide hly
    clear hj0 hly hmj
    have HLI := hide li
    clear li
    go_enter Try.func15, Try.ntmps15
    go_wp2_with (first | (go_at_call 27; refine (unhide HLI _).mono ?_; rintro e w1 ⟨rfl, rfl⟩) | (go_at_call 13; refine (unhide HR _).mono ?_; rintro e w2 ⟨rfl, hb⟩) | (go_at_call 28; refine (unhide HRF _).mono ?_; rintro e w3 ⟨rfl, hb3⟩))
    have hsz := hb.size
    have hsz3 := hb3.size
    simp only [World.size_alloc] at hsz
    have hP : Blk w3 w.heap.size (cellsP ⟨B, lo, hi, sk, da, bi, fi⟩) 26 := ((Blk.new w (cellsP ⟨B, lo, hi, sk, da, bi, fi⟩) 26).below hb (by simp)).below hb3 (by omega)
    have B3 : Below w.heap.size w w3 := (((Below.refl _ w).alloc (Nat.le_refl _) _).trans (hb.mono (by simp))).trans (hb3.mono (by omega))
    have HB3 := hide B3
    have HP3 := hide hP
    have hlt : w.heap.size < w3.heap.size := hP.lt
    have c0 : (w3).cell? ⟨w.heap.size, 0, none⟩ = some (.int .i64 B) := (unhide HP3).cell 0
    have c1 : (w3).cell? ⟨w.heap.size, 1, none⟩ = some (.int .i64 lo) := (unhide HP3).cell 1
    have c2 : (w3).cell? ⟨w.heap.size, 2, none⟩ = some (.int .i64 hi) := (unhide HP3).cell 2
    have c3 : (w3).cell? ⟨w.heap.size, 3, none⟩ = some (.int .i64 sk) := (unhide HP3).cell 3
    have c4 : (w3).cell? ⟨w.heap.size, 4, none⟩ = some (.int .i64 da) := (unhide HP3).cell 4
    have c5 : (w3).cell? ⟨w.heap.size, 5, none⟩ = some (.int .i64 bi) := (unhide HP3).cell 5
    have c6 : (w3).cell? ⟨w.heap.size, 6, none⟩ = some (.int .i32 fi) := (unhide HP3).cell 6
    have d0 : (w3.drew).cell? ⟨w.heap.size, 0, none⟩ = some (.int .i64 B) := (unhide HP3).cell 0
    have d1 : (w3.drew).cell? ⟨w.heap.size, 1, none⟩ = some (.int .i64 lo) := (unhide HP3).cell 1
    have d2 : (w3.drew).cell? ⟨w.heap.size, 2, none⟩ = some (.int .i64 hi) := (unhide HP3).cell 2
    have d3 : (w3.drew).cell? ⟨w.heap.size, 3, none⟩ = some (.int .i64 sk) := (unhide HP3).cell 3
    have d4 : (w3.drew).cell? ⟨w.heap.size, 4, none⟩ = some (.int .i64 da) := (unhide HP3).cell 4
    have d5 : (w3.drew).cell? ⟨w.heap.size, 5, none⟩ = some (.int .i64 bi) := (unhide HP3).cell 5
    have d6 : (w3.drew).cell? ⟨w.heap.size, 6, none⟩ = some (.int .i32 fi) := (unhide HP3).cell 6
    clear hb hb3 hP B3 hsz hsz3
    clear c0 c1 c2 c3 c4 c5 c6
    go_region_held3 (fun w' => w'.cell? ⟨w.heap.size, 0, none⟩ = some (.int .i64 B) ∧ w'.cell? ⟨w.heap.size, 1, none⟩ = some (.int .i64 lo) ∧ w'.cell? ⟨w.heap.size, 2, none⟩ = some (.int .i64 hi) ∧ w'.cell? ⟨w.heap.size, 3, none⟩ = some (.int .i64 sk) ∧ w'.cell? ⟨w.heap.size, 4, none⟩ = some (.int .i64 da) ∧ w'.cell? ⟨w.heap.size, 5, none⟩ = some (.int .i64 bi) ∧ w'.cell? ⟨w.heap.size, 6, none⟩ = some (.int .i32 fi)) (first | with_reducible exact ⟨d0, d1, d2, d3, d4, d5, d6⟩ | with_reducible exact ⟨f0, f1, f2, f3, f4, f5, f6⟩ | with_reducible exact ⟨g0, g1, g2, g3, g4, g5, g6⟩)
      (first
      | (go_at_call 29; refine (unhide HLY w3.drew.heap.size _ _ (unhide HO) (unhide HB4).size).mono ?_; rintro e w5 ⟨v', rfl, hb5, h5⟩; have HB5 := hide hb5; have H5 := hide h5; have g0 := (Below.cell (p := ⟨w.heap.size, 0, none⟩) hb5 (show w.heap.size < w3.drew.heap.size from hlt)).trans f0; have g1 := (Below.cell (p := ⟨w.heap.size, 1, none⟩) hb5 (show w.heap.size < w3.drew.heap.size from hlt)).trans f1; have g2 := (Below.cell (p := ⟨w.heap.size, 2, none⟩) hb5 (show w.heap.size < w3.drew.heap.size from hlt)).trans f2; have g3 := (Below.cell (p := ⟨w.heap.size, 3, none⟩) hb5 (show w.heap.size < w3.drew.heap.size from hlt)).trans f3; have g4 := (Below.cell (p := ⟨w.heap.size, 4, none⟩) hb5 (show w.heap.size < w3.drew.heap.size from hlt)).trans f4; have g5 := (Below.cell (p := ⟨w.heap.size, 5, none⟩) hb5 (show w.heap.size < w3.drew.heap.size from hlt)).trans f5; have g6 := (Below.cell (p := ⟨w.heap.size, 6, none⟩) hb5 (show w.heap.size < w3.drew.heap.size from hlt)).trans f6; clear hb5 h5)
      | (go_at_call 30; refine (unhide HRU w3.drew).mono ?_; rintro e w4 ⟨cap, rfl, ho, hb4⟩; have f0 := (Below.cell (p := ⟨w.heap.size, 0, none⟩) hb4 hlt).trans d0; have f1 := (Below.cell (p := ⟨w.heap.size, 1, none⟩) hb4 hlt).trans d1; have f2 := (Below.cell (p := ⟨w.heap.size, 2, none⟩) hb4 hlt).trans d2; have f3 := (Below.cell (p := ⟨w.heap.size, 3, none⟩) hb4 hlt).trans d3; have f4 := (Below.cell (p := ⟨w.heap.size, 4, none⟩) hb4 hlt).trans d4; have f5 := (Below.cell (p := ⟨w.heap.size, 5, none⟩) hb4 hlt).trans d5; have f6 := (Below.cell (p := ⟨w.heap.size, 6, none⟩) hb4 hlt).trans d6; have HO := hide ho; have HB4 := hide hb4; clear ho hb4))
    obtain ⟨h6, h7, h8⟩ := unhide H5 (by trivial)
    have TX := textB_own h6 (by omega)
    rw [show runesTV T1 = .tuple #[.string (runesBytes T1), .int .i64 0] by unfold runesTV; rw [if_pos (by unfold allRunes; rw [List.all_eq_true]; intro z hz; simpa using h8 z hz)]] at TX
    have HTX := hide TX
    clear TX h6 h7 h8 H5 g0 g1 g2 g3 g4 g5 g6 f0 f1 f2 f3 f4 f5 f6 d0 d1 d2 d3 d4 d5 d6
    go_wp2_with (go_at_call 31; refine (unhide HTX).mono ?_; rintro e w6 ⟨rfl, rfl⟩)
    go_ret3
    exact ⟨rfl, belB (unhide HB3) hlt (unhide HB4) (unhide HB5)⟩
set_option maxRecDepth 100000 in
set_option maxHeartbeats 4000000 in
theorem dec_layB {p : Pm} (hp : rightB p = true) (a : ByteArray) (hl : ¬ 65536 < a.size) (m j0 : Nat) (hm : (lastH a = -1 ∧ m = 0 ∧ j0 = 0) ∨ (lastH a = m ∧ 0 < m ∧ m < a.size ∧ j0 = m + 1)) (S : ByteArray) (hS : a.extract 0 m = S) (hr0 : (refV S).2 = 0) (T1 : List Int) (T2 : Nat) (T3 : Int) (hT : layF p a (a.size + 1) (runesL S) j0 p.bi p.da p.fi 0 = (T1, T2, T3)) (hT0 : T3 ≠ 0) (w : World) : Calls Try.prog 15 #[.agg (cellsP p), .string a] w fun e w' => e = .returned (encD (⟨#[]⟩, T2, T3)) ∧ Below w.heap.size w w' := by
  have li := fun w => Any.strings_LastIndexByte lay149 a 45 (by omega) w
  rw [show Lib.lastIndexByte a 45 = lastH a from rfl] at li
  have hr := fun w => right_any p w
  rw [hp] at hr
  have HR := hide hr
  have hSs : S.size ≤ 65536 := by rw [← hS, ByteArray.size_extract]; omega
  have hok := refV_ok hr0
  have rf := fun w => refused_any S hSs w
  rw [hr0] at rf
  have hRl : (runesL S).length ≤ 4096 := by rw [runesL_length]; have := starts_length S; omega
  have hRw : ∀ z ∈ runesL S, widthOf z ≠ 0 := runesL_runes S
  have hru := fun w => runesB_own S (by omega) w
  have hly := fun (lo : Nat) (v : Value) (W : World) (h1 : W.ownsRow lo 21 1 v (runesL S).length (encRb (runesL S))) (h2 : lo ≤ W.heap.size) => layIn_any (f0 := a.size + 1) (j0 := j0) ((rightB_iff p).1 hp) rfl h1 h2 hRl hRw a (by omega) (by omega) (by omega)
  rw [hT] at hly
  dsimp only at hly
  have hTb : (T3 != 0) = true := by simpa using hT0
  clear hT0
  have HRF := hide rf
  have HRU := hide hru
  have HLY := hide hly
  have hj0 : (lastH a + 1 : Int) = (j0 : Int) := by omega
  generalize (refV S).1 = rp at *
  clear hr rf hru hly hok hRw hT
  generalize runesL S = RS at *
  have hl2 : ¬ (65536 : Int) < (a.size : Int) := by omega
  generalize lastH a = L at *
  obtain ⟨B, lo, hi, sk, da, bi, fi⟩ := p
  dsimp only [cellsP] at *
  rcases hm with ⟨rfl, rfl, rfl⟩ | ⟨rfl, hm0, hm1, hmj⟩
  · clear hj0
    have hS2 : a.extract 0 (max (-1 : Int) 0).toNat = S := hS
    have HS := hide hS2
    clear hS2
    have HLI := hide li
    clear li
    go_enter Try.func15, Try.ntmps15
    go_wp2_with (first | (go_at_call 27; refine (unhide HLI _).mono ?_; rintro e w1 ⟨rfl, rfl⟩) | (go_at_call 13; refine (unhide HR _).mono ?_; rintro e w2 ⟨rfl, hb⟩) | (go_at_call 28; rw [unhide HS]; refine (unhide HRF _).mono ?_; rintro e w3 ⟨rfl, hb3⟩))
    have hsz := hb.size
    have hsz3 := hb3.size
    simp only [World.size_alloc] at hsz
    have hP : Blk w3 w.heap.size (cellsP ⟨B, lo, hi, sk, da, bi, fi⟩) 26 := ((Blk.new w (cellsP ⟨B, lo, hi, sk, da, bi, fi⟩) 26).below hb (by simp)).below hb3 (by omega)
    have B3 : Below w.heap.size w w3 := (((Below.refl _ w).alloc (Nat.le_refl _) _).trans (hb.mono (by simp))).trans (hb3.mono (by omega))
    have HB3 := hide B3
    have HP3 := hide hP
    have hlt : w.heap.size < w3.heap.size := hP.lt
    have c0 : (w3).cell? ⟨w.heap.size, 0, none⟩ = some (.int .i64 B) := (unhide HP3).cell 0
    have c1 : (w3).cell? ⟨w.heap.size, 1, none⟩ = some (.int .i64 lo) := (unhide HP3).cell 1
    have c2 : (w3).cell? ⟨w.heap.size, 2, none⟩ = some (.int .i64 hi) := (unhide HP3).cell 2
    have c3 : (w3).cell? ⟨w.heap.size, 3, none⟩ = some (.int .i64 sk) := (unhide HP3).cell 3
    have c4 : (w3).cell? ⟨w.heap.size, 4, none⟩ = some (.int .i64 da) := (unhide HP3).cell 4
    have c5 : (w3).cell? ⟨w.heap.size, 5, none⟩ = some (.int .i64 bi) := (unhide HP3).cell 5
    have c6 : (w3).cell? ⟨w.heap.size, 6, none⟩ = some (.int .i32 fi) := (unhide HP3).cell 6
    have d0 : (w3.drew).cell? ⟨w.heap.size, 0, none⟩ = some (.int .i64 B) := (unhide HP3).cell 0
    have d1 : (w3.drew).cell? ⟨w.heap.size, 1, none⟩ = some (.int .i64 lo) := (unhide HP3).cell 1
    have d2 : (w3.drew).cell? ⟨w.heap.size, 2, none⟩ = some (.int .i64 hi) := (unhide HP3).cell 2
    have d3 : (w3.drew).cell? ⟨w.heap.size, 3, none⟩ = some (.int .i64 sk) := (unhide HP3).cell 3
    have d4 : (w3.drew).cell? ⟨w.heap.size, 4, none⟩ = some (.int .i64 da) := (unhide HP3).cell 4
    have d5 : (w3.drew).cell? ⟨w.heap.size, 5, none⟩ = some (.int .i64 bi) := (unhide HP3).cell 5
    have d6 : (w3.drew).cell? ⟨w.heap.size, 6, none⟩ = some (.int .i32 fi) := (unhide HP3).cell 6
    clear hb hb3 hP B3 hsz hsz3
    clear c0 c1 c2 c3 c4 c5 c6
    go_region_held3 (fun w' => w'.cell? ⟨w.heap.size, 0, none⟩ = some (.int .i64 B) ∧ w'.cell? ⟨w.heap.size, 1, none⟩ = some (.int .i64 lo) ∧ w'.cell? ⟨w.heap.size, 2, none⟩ = some (.int .i64 hi) ∧ w'.cell? ⟨w.heap.size, 3, none⟩ = some (.int .i64 sk) ∧ w'.cell? ⟨w.heap.size, 4, none⟩ = some (.int .i64 da) ∧ w'.cell? ⟨w.heap.size, 5, none⟩ = some (.int .i64 bi) ∧ w'.cell? ⟨w.heap.size, 6, none⟩ = some (.int .i32 fi)) (first | with_reducible exact ⟨d0, d1, d2, d3, d4, d5, d6⟩ | with_reducible exact ⟨f0, f1, f2, f3, f4, f5, f6⟩ | with_reducible exact ⟨g0, g1, g2, g3, g4, g5, g6⟩)
      (first
      | (go_at_call 29; refine (unhide HLY w3.drew.heap.size _ _ (unhide HO) (unhide HB4).size).mono ?_; rintro e w5 ⟨v', rfl, hb5, h5⟩; have HB5 := hide hb5; have H5 := hide h5; have g0 := (Below.cell (p := ⟨w.heap.size, 0, none⟩) hb5 (show w.heap.size < w3.drew.heap.size from hlt)).trans f0; have g1 := (Below.cell (p := ⟨w.heap.size, 1, none⟩) hb5 (show w.heap.size < w3.drew.heap.size from hlt)).trans f1; have g2 := (Below.cell (p := ⟨w.heap.size, 2, none⟩) hb5 (show w.heap.size < w3.drew.heap.size from hlt)).trans f2; have g3 := (Below.cell (p := ⟨w.heap.size, 3, none⟩) hb5 (show w.heap.size < w3.drew.heap.size from hlt)).trans f3; have g4 := (Below.cell (p := ⟨w.heap.size, 4, none⟩) hb5 (show w.heap.size < w3.drew.heap.size from hlt)).trans f4; have g5 := (Below.cell (p := ⟨w.heap.size, 5, none⟩) hb5 (show w.heap.size < w3.drew.heap.size from hlt)).trans f5; have g6 := (Below.cell (p := ⟨w.heap.size, 6, none⟩) hb5 (show w.heap.size < w3.drew.heap.size from hlt)).trans f6; clear hb5 h5)
      | (go_at_call 30; refine (unhide HRU w3.drew).mono ?_; rintro e w4 ⟨cap, rfl, ho, hb4⟩; have f0 := (Below.cell (p := ⟨w.heap.size, 0, none⟩) hb4 hlt).trans d0; have f1 := (Below.cell (p := ⟨w.heap.size, 1, none⟩) hb4 hlt).trans d1; have f2 := (Below.cell (p := ⟨w.heap.size, 2, none⟩) hb4 hlt).trans d2; have f3 := (Below.cell (p := ⟨w.heap.size, 3, none⟩) hb4 hlt).trans d3; have f4 := (Below.cell (p := ⟨w.heap.size, 4, none⟩) hb4 hlt).trans d4; have f5 := (Below.cell (p := ⟨w.heap.size, 5, none⟩) hb4 hlt).trans d5; have f6 := (Below.cell (p := ⟨w.heap.size, 6, none⟩) hb4 hlt).trans d6; have HO := hide ho; have HB4 := hide hb4; clear ho hb4))
    clear g0 g1 g2 g3 g4 g5 g6 f0 f1 f2 f3 f4 f5 f6 d0 d1 d2 d3 d4 d5 d6 H5
    go_wp2_with fail
    go_ret3
    exact ⟨rfl, belB (unhide HB3) hlt (unhide HB4) (unhide HB5)⟩
  ·
    have hm2 : ¬ (m : Int) = 0 := by omega
    have hm3 : ((m : Int) == 0) = false := by rw [beq_eq_false_iff_ne]; omega
    have hm4 : (m : Int) ≤ (a.size : Int) := by omega
    have hw1 : IntKind.i64.wrap ((m : Int) + 1) = (m : Int) + 1 := by rw [IntKind.wrap_i64]; omega
    have hly := unhide HLY
    rw [← hj0] at hly
    clear HLY
    have HLY := hide hly
    clear hj0 hly hmj
    have HLI := hide li
    clear li
    go_enter Try.func15, Try.ntmps15
    go_wp2_with (first | (go_at_call 27; refine (unhide HLI _).mono ?_; rintro e w1 ⟨rfl, rfl⟩) | (go_at_call 13; refine (unhide HR _).mono ?_; rintro e w2 ⟨rfl, hb⟩) | (go_at_call 28; refine (unhide HRF _).mono ?_; rintro e w3 ⟨rfl, hb3⟩))
    have hsz := hb.size
    have hsz3 := hb3.size
    simp only [World.size_alloc] at hsz
    have hP : Blk w3 w.heap.size (cellsP ⟨B, lo, hi, sk, da, bi, fi⟩) 26 := ((Blk.new w (cellsP ⟨B, lo, hi, sk, da, bi, fi⟩) 26).below hb (by simp)).below hb3 (by omega)
    have B3 : Below w.heap.size w w3 := (((Below.refl _ w).alloc (Nat.le_refl _) _).trans (hb.mono (by simp))).trans (hb3.mono (by omega))
    have HB3 := hide B3
    have HP3 := hide hP
    have hlt : w.heap.size < w3.heap.size := hP.lt
    have c0 : (w3).cell? ⟨w.heap.size, 0, none⟩ = some (.int .i64 B) := (unhide HP3).cell 0
    have c1 : (w3).cell? ⟨w.heap.size, 1, none⟩ = some (.int .i64 lo) := (unhide HP3).cell 1
    have c2 : (w3).cell? ⟨w.heap.size, 2, none⟩ = some (.int .i64 hi) := (unhide HP3).cell 2
    have c3 : (w3).cell? ⟨w.heap.size, 3, none⟩ = some (.int .i64 sk) := (unhide HP3).cell 3
    have c4 : (w3).cell? ⟨w.heap.size, 4, none⟩ = some (.int .i64 da) := (unhide HP3).cell 4
    have c5 : (w3).cell? ⟨w.heap.size, 5, none⟩ = some (.int .i64 bi) := (unhide HP3).cell 5
    have c6 : (w3).cell? ⟨w.heap.size, 6, none⟩ = some (.int .i32 fi) := (unhide HP3).cell 6
    have d0 : (w3.drew).cell? ⟨w.heap.size, 0, none⟩ = some (.int .i64 B) := (unhide HP3).cell 0
    have d1 : (w3.drew).cell? ⟨w.heap.size, 1, none⟩ = some (.int .i64 lo) := (unhide HP3).cell 1
    have d2 : (w3.drew).cell? ⟨w.heap.size, 2, none⟩ = some (.int .i64 hi) := (unhide HP3).cell 2
    have d3 : (w3.drew).cell? ⟨w.heap.size, 3, none⟩ = some (.int .i64 sk) := (unhide HP3).cell 3
    have d4 : (w3.drew).cell? ⟨w.heap.size, 4, none⟩ = some (.int .i64 da) := (unhide HP3).cell 4
    have d5 : (w3.drew).cell? ⟨w.heap.size, 5, none⟩ = some (.int .i64 bi) := (unhide HP3).cell 5
    have d6 : (w3.drew).cell? ⟨w.heap.size, 6, none⟩ = some (.int .i32 fi) := (unhide HP3).cell 6
    clear hb hb3 hP B3 hsz hsz3
    clear c0 c1 c2 c3 c4 c5 c6
    go_region_held3 (fun w' => w'.cell? ⟨w.heap.size, 0, none⟩ = some (.int .i64 B) ∧ w'.cell? ⟨w.heap.size, 1, none⟩ = some (.int .i64 lo) ∧ w'.cell? ⟨w.heap.size, 2, none⟩ = some (.int .i64 hi) ∧ w'.cell? ⟨w.heap.size, 3, none⟩ = some (.int .i64 sk) ∧ w'.cell? ⟨w.heap.size, 4, none⟩ = some (.int .i64 da) ∧ w'.cell? ⟨w.heap.size, 5, none⟩ = some (.int .i64 bi) ∧ w'.cell? ⟨w.heap.size, 6, none⟩ = some (.int .i32 fi)) (first | with_reducible exact ⟨d0, d1, d2, d3, d4, d5, d6⟩ | with_reducible exact ⟨f0, f1, f2, f3, f4, f5, f6⟩ | with_reducible exact ⟨g0, g1, g2, g3, g4, g5, g6⟩)
      (first
      | (go_at_call 29; refine (unhide HLY w3.drew.heap.size _ _ (unhide HO) (unhide HB4).size).mono ?_; rintro e w5 ⟨v', rfl, hb5, h5⟩; have HB5 := hide hb5; have H5 := hide h5; have g0 := (Below.cell (p := ⟨w.heap.size, 0, none⟩) hb5 (show w.heap.size < w3.drew.heap.size from hlt)).trans f0; have g1 := (Below.cell (p := ⟨w.heap.size, 1, none⟩) hb5 (show w.heap.size < w3.drew.heap.size from hlt)).trans f1; have g2 := (Below.cell (p := ⟨w.heap.size, 2, none⟩) hb5 (show w.heap.size < w3.drew.heap.size from hlt)).trans f2; have g3 := (Below.cell (p := ⟨w.heap.size, 3, none⟩) hb5 (show w.heap.size < w3.drew.heap.size from hlt)).trans f3; have g4 := (Below.cell (p := ⟨w.heap.size, 4, none⟩) hb5 (show w.heap.size < w3.drew.heap.size from hlt)).trans f4; have g5 := (Below.cell (p := ⟨w.heap.size, 5, none⟩) hb5 (show w.heap.size < w3.drew.heap.size from hlt)).trans f5; have g6 := (Below.cell (p := ⟨w.heap.size, 6, none⟩) hb5 (show w.heap.size < w3.drew.heap.size from hlt)).trans f6; clear hb5 h5)
      | (go_at_call 30; refine (unhide HRU w3.drew).mono ?_; rintro e w4 ⟨cap, rfl, ho, hb4⟩; have f0 := (Below.cell (p := ⟨w.heap.size, 0, none⟩) hb4 hlt).trans d0; have f1 := (Below.cell (p := ⟨w.heap.size, 1, none⟩) hb4 hlt).trans d1; have f2 := (Below.cell (p := ⟨w.heap.size, 2, none⟩) hb4 hlt).trans d2; have f3 := (Below.cell (p := ⟨w.heap.size, 3, none⟩) hb4 hlt).trans d3; have f4 := (Below.cell (p := ⟨w.heap.size, 4, none⟩) hb4 hlt).trans d4; have f5 := (Below.cell (p := ⟨w.heap.size, 5, none⟩) hb4 hlt).trans d5; have f6 := (Below.cell (p := ⟨w.heap.size, 6, none⟩) hb4 hlt).trans d6; have HO := hide ho; have HB4 := hide hb4; clear ho hb4))
    clear g0 g1 g2 g3 g4 g5 g6 f0 f1 f2 f3 f4 f5 f6 d0 d1 d2 d3 d4 d5 d6 H5
    go_wp2_with fail
    go_ret3
    exact ⟨rfl, belB (unhide HB3) hlt (unhide HB4) (unhide HB5)⟩
end Go.Proofs.Ythjndkjbjflmfaa
