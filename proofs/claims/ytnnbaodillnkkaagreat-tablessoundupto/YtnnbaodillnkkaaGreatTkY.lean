/- A Book of tables: bookOf. -/
import Derived.Test.YtnnbaodillnkkaaGreatM22
import Derived.Test.YtnnbaodillnkkaaGreatM17
namespace Go.Proofs.YtnnbaodillnkkaaGreat
open Go.RowKit Go.Shelf Go.Maps
set_option linter.unusedVariables false
set_option maxRecDepth 100000 in
set_option maxHeartbeats 8000000 in
theorem bookOf_any (T : TV) (hO : BoOk T) (a0 a1 a2 a3 a4 a5 a6 a7 : Option Addr) (c0 c1 c2 c3 c4 c5 c6 c7 : Nat) (us : List Value) (W : World) (hT : TabIn W T a0 a1 a2 a3 a4 a5 a6 a7 us) :
    Calls Tryz.prog 29 #[.agg #[.slice a0 T.sc.length c0, .slice a1 T.co.length c1, .slice a2 T.ma.length c2, .slice a3 T.pr.length c3, .slice a4 T.fo.length c4, .slice a5 T.lk.length c5, .slice a6 T.dr.length c6, .slice a7 T.al.length c7]] W fun e w' => ∃ B, e = .returned (.pointer (some ⟨B, 0, none⟩)) ∧ W.heap.size ≤ B ∧ BookAt w' B T ∧ Below W.heap.size W w' := by
  have hmx : Tryz.prog.follows .mixedOrders = true := by kernel_rfl
  have hmm := @run_makeMap Tryz.prog
  have hB0 : Below W.heap.size W (W.alloc (.cells #[.slice a0 T.sc.length c0, .slice a1 T.co.length c1, .slice a2 T.ma.length c2, .slice a3 T.pr.length c3, .slice a4 T.fo.length c4, .slice a5 T.lk.length c5, .slice a6 T.dr.length c6, .slice a7 T.al.length c7] 32)).drew := ((Below.refl _ W).alloc (Nat.le_refl _) _).trans ⟨rfl, rfl, rfl, Nat.le_refl _, fun _ _ => rfl⟩
  have bP : Blk (W.alloc (.cells #[.slice a0 T.sc.length c0, .slice a1 T.co.length c1, .slice a2 T.ma.length c2, .slice a3 T.pr.length c3, .slice a4 T.fo.length c4, .slice a5 T.lk.length c5, .slice a6 T.dr.length c6, .slice a7 T.al.length c7] 32)).drew W.heap.size #[.slice a0 T.sc.length c0, .slice a1 T.co.length c1, .slice a2 T.ma.length c2, .slice a3 T.pr.length c3, .slice a4 T.fo.length c4, .slice a5 T.lk.length c5, .slice a6 T.dr.length c6, .slice a7 T.al.length c7] 32 := Blk.new W #[.slice a0 T.sc.length c0, .slice a1 T.co.length c1, .slice a2 T.ma.length c2, .slice a3 T.pr.length c3, .slice a4 T.fo.length c4, .slice a5 T.lk.length c5, .slice a6 T.dr.length c6, .slice a7 T.al.length c7] 32
  have HS1 : Hz ((W.alloc (.cells #[.slice a0 T.sc.length c0, .slice a1 T.co.length c1, .slice a2 T.ma.length c2, .slice a3 T.pr.length c3, .slice a4 T.fo.length c4, .slice a5 T.lk.length c5, .slice a6 T.dr.length c6, .slice a7 T.al.length c7] 32)).drew.heap.size = W.heap.size + 1) := hide (by show (W.alloc (.cells #[.slice a0 T.sc.length c0, .slice a1 T.co.length c1, .slice a2 T.ma.length c2, .slice a3 T.pr.length c3, .slice a4 T.fo.length c4, .slice a5 T.lk.length c5, .slice a6 T.dr.length c6, .slice a7 T.al.length c7] 32)).heap.size = _; simp)
  have hF : BoF (W.alloc (.cells #[.slice a0 T.sc.length c0, .slice a1 T.co.length c1, .slice a2 T.ma.length c2, .slice a3 T.pr.length c3, .slice a4 T.fo.length c4, .slice a5 T.lk.length c5, .slice a6 T.dr.length c6, .slice a7 T.al.length c7] 32)).drew W.heap.size T a0 a1 a2 a3 a4 a5 a6 a7 c0 c1 c2 c3 c4 c5 c6 c7 us := ⟨bP, hT.lower hB0⟩
  have HF : Hz (∀ w1, Below (W.alloc (.cells #[.slice a0 T.sc.length c0, .slice a1 T.co.length c1, .slice a2 T.ma.length c2, .slice a3 T.pr.length c3, .slice a4 T.fo.length c4, .slice a5 T.lk.length c5, .slice a6 T.dr.length c6, .slice a7 T.al.length c7] 32)).drew.heap.size (W.alloc (.cells #[.slice a0 T.sc.length c0, .slice a1 T.co.length c1, .slice a2 T.ma.length c2, .slice a3 T.pr.length c3, .slice a4 T.fo.length c4, .slice a5 T.lk.length c5, .slice a6 T.dr.length c6, .slice a7 T.al.length c7] 32)).drew w1 → BoF w1 W.heap.size T a0 a1 a2 a3 a4 a5 a6 a7 c0 c1 c2 c3 c4 c5 c6 c7 us) := hide (fun w1 h => hF.below h)
  have HB0 := hide hB0
  have HT := hide hT
  have HO := hide hO
  clear hT hO bP hB0 hF
  go_enter Tryz.func29, Tryz.ntmps29
  go_wp2_with fail
  generalize (W.alloc (.cells #[.slice a0 T.sc.length c0, .slice a1 T.co.length c1, .slice a2 T.ma.length c2, .slice a3 T.pr.length c3, .slice a4 T.fo.length c4, .slice a5 T.lk.length c5, .slice a6 T.dr.length c6, .slice a7 T.al.length c7] 32)) = wz at *
  refine wp_region_inv hmx 22 (by decide) (by kernel_rfl) (by kernel_rfl) (fun l a w => ∃ U : Nat → Value, a = { tmps := #[.agg #[.slice a0 T.sc.length c0, .slice a1 T.co.length c1, .slice a2 T.ma.length c2, .slice a3 T.pr.length c3, .slice a4 T.fo.length c4, .slice a5 T.lk.length c5, .slice a6 T.dr.length c6, .slice a7 T.al.length c7], .pointer (some ⟨W.heap.size, 0, none⟩), .pointer none, undef, undef, undef, undef, undef, undef, undef, undef, U 0, U 1, U 2, U 3, U 4, U 5, U 6, U 7, U 8, U 9, U 10, U 11, U 12, U 13, U 14, U 15, U 16, U 17, U 18, U 19, U 20, U 21, undef, undef, undef, undef, undef, undef, undef, undef, undef, undef, undef, undef, undef, undef, undef, undef, undef, undef, undef, undef, undef, undef, undef, undef, undef, undef, undef, undef, undef, undef, undef, undef, undef, undef, undef, undef, undef, undef, undef, undef, undef, undef, undef, undef, undef, undef, undef, undef, undef, undef, undef, undef, undef, undef, undef, undef, undef, undef, undef, undef, undef, undef, undef, undef, undef, undef, undef, undef], defers := [] } ∧ RgK wz.drew wz.drew.heap.size (boD W.heap.size wz.drew.heap.size T a0 a1 a2 a3 a4 a5 a6 a7 c0 c1 c2 c3 c4 c5 c6 c7) mapB boDM l U w) ⟨fun _ => undef, rfl, RgK.start _ _ (Nat.le_refl _)⟩ ?_ ?_
  · rintro l a w i ⟨U, rfl, hJ⟩ hl hi hif
    have h0 := (mem_ready.1 hi).1
    have hlt := rg_lt hl h0
    have HJ := hide hJ
    clear hJ hl
    replace hlt : i < 23 := hlt
    obtain rfl | rfl | rfl | rfl | rfl | rfl | rfl | rfl | rfl | rfl | rfl | rfl | rfl | rfl | rfl | rfl | rfl | rfl | rfl | rfl | rfl | rfl : i = 0 ∨ i = 1 ∨ i = 2 ∨ i = 3 ∨ i = 4 ∨ i = 5 ∨ i = 6 ∨ i = 7 ∨ i = 8 ∨ i = 9 ∨ i = 10 ∨ i = 11 ∨ i = 12 ∨ i = 13 ∨ i = 14 ∨ i = 15 ∨ i = 16 ∨ i = 17 ∨ i = 18 ∨ i = 19 ∨ i = 20 ∨ i = 21 := by omega
    · refine wpOp_step rfl (fun K hK => ?_)
      clear hlt hif
      have q0 := (unhide HF w (unhide HJ).bel).bx.cell 0
      have q1 := (unhide HF w (unhide HJ).bel).bx.cell 1
      have q2 := (unhide HF w (unhide HJ).bel).bx.cell 2
      have q3 := (unhide HF w (unhide HJ).bel).bx.cell 3
      have q4 := (unhide HF w (unhide HJ).bel).bx.cell 4
      have q5 := (unhide HF w (unhide HJ).bel).bx.cell 5
      have q6 := (unhide HF w (unhide HJ).bel).bx.cell 6
      have q7 := (unhide HF w (unhide HJ).bel).bx.cell 7
      go_simp
      exact hK _ _ ⟨slotPut U 0 _, rfl, (unhide HJ).put 0 _ h0 (Below.refl _ _) (boD_st (Below.refl _ _)) rfl boD_lt (fun h => absurd h (by decide))⟩
    · refine wpOp_step rfl (fun K hK => ?_)
      clear hlt hif
      have d0 : U 0 = .agg #[.slice a0 T.sc.length c0, .slice a1 T.co.length c1, .slice a2 T.ma.length c2, .slice a3 T.pr.length c3, .slice a4 T.fo.length c4, .slice a5 T.lk.length c5, .slice a6 T.dr.length c6, .slice a7 T.al.length c7] := (unhide HJ).val 0 (rg_dep hi 0 (by kernel_rfl))
      go_simp
      refine (own_any T (unhide HO).ok (unhide HO).z0 (fun x hx => ((unhide HO).z4 x hx).1) (fun x hx => ((unhide HO).z5 x hx).1) a0 a1 a2 a3 a4 a5 a6 a7 c0 c1 c2 c3 c4 c5 c6 c7 us w (unhide HF w (unhide HJ).bel).ti).mono ?_
      rintro e w' ⟨vv, rfl, hown, hb⟩
      exact hK _ _ ⟨slotPut U 1 _, (by rw [slotEq d0]; rfl), (unhide HJ).put 1 _ h0 hb (boD_st hb) (hown.lower (unhide HJ).sz) boD_lt (fun h => absurd h (by decide))⟩
    · refine wpOp_step rfl (fun K hK => ?_)
      clear hlt hif
      go_simp
      exact hK _ _ ⟨slotPut U 2 _, rfl, (unhide HJ).put 2 _ h0 (Below.refl _ _) (boD_st (Below.refl _ _)) rfl boD_lt (fun h => absurd h (by decide))⟩
    · refine wpOp_step rfl (fun K hK => ?_)
      clear hlt hif
      have d2 : U 2 = .pointer (some ⟨W.heap.size, 1, none⟩) := (unhide HJ).val 2 (rg_dep hi 2 (by kernel_rfl))
      have q0 := (unhide HF w (unhide HJ).bel).bx.cell 1
      go_simp
      exact hK _ _ ⟨slotPut U 3 _, (by rw [slotEq d2]; rfl), (unhide HJ).put 3 _ h0 (Below.refl _ _) (boD_st (Below.refl _ _)) rfl boD_lt (fun h => absurd h (by decide))⟩
    · refine wpOp_step rfl (fun K hK => ?_)
      clear hlt hif
      have d3 : U 3 = .slice a1 T.co.length c1 := (unhide HJ).val 3 (rg_dep hi 3 (by kernel_rfl))
      go_simp
      refine (setOf_made a1 c1 T.co (unhide HO).ok.n1 (unhide HO).r1 w (rowP_of (unhide HF w (unhide HJ).bel).ti.r1 (Nat.le_refl _))).mono ?_
      rintro e w' ⟨B, rfl, hs, hb⟩
      exact hK _ _ ⟨slotPut U 4 _, (by rw [slotEq d3]; rfl), (unhide HJ).put 4 _ h0 hb (boD_st hb) ⟨B, rfl, hs⟩ boD_lt (fun h => absurd h (by decide))⟩
    · refine wpOp_step rfl (fun K hK => ?_)
      clear hlt hif
      go_simp
      exact hK _ _ ⟨slotPut U 5 _, rfl, (unhide HJ).put 5 _ h0 (Below.refl _ _) (boD_st (Below.refl _ _)) rfl boD_lt (fun h => absurd h (by decide))⟩
    · refine wpOp_step rfl (fun K hK => ?_)
      clear hlt hif
      have d5 : U 5 = .pointer (some ⟨W.heap.size, 6, none⟩) := (unhide HJ).val 5 (rg_dep hi 5 (by kernel_rfl))
      have q0 := (unhide HF w (unhide HJ).bel).bx.cell 6
      go_simp
      exact hK _ _ ⟨slotPut U 6 _, (by rw [slotEq d5]; rfl), (unhide HJ).put 6 _ h0 (Below.refl _ _) (boD_st (Below.refl _ _)) rfl boD_lt (fun h => absurd h (by decide))⟩
    · refine wpOp_step rfl (fun K hK => ?_)
      clear hlt hif
      have d6 : U 6 = .slice a6 T.dr.length c6 := (unhide HJ).val 6 (rg_dep hi 6 (by kernel_rfl))
      go_simp
      refine (setOf_made a6 c6 T.dr (unhide HO).ok.n6 (unhide HO).r6 w (rowP_of (unhide HF w (unhide HJ).bel).ti.r6 (Nat.le_refl _))).mono ?_
      rintro e w' ⟨B, rfl, hs, hb⟩
      exact hK _ _ ⟨slotPut U 7 _, (by rw [slotEq d6]; rfl), (unhide HJ).put 7 _ h0 hb (boD_st hb) ⟨B, rfl, hs⟩ boD_lt (fun h => absurd h (by decide))⟩
    · refine wpOp_step rfl (fun K hK => ?_)
      clear hlt hif
      go_simp
      exact hK _ _ ⟨slotPut U 8 _, rfl, (unhide HJ).put 8 _ h0 (Below.refl _ _) (boD_st (Below.refl _ _)) rfl boD_lt (fun h => absurd h (by decide))⟩
    · refine wpOp_step rfl (fun K hK => ?_)
      clear hlt hif
      have d8 : U 8 = .pointer (some ⟨W.heap.size, 7, none⟩) := (unhide HJ).val 8 (rg_dep hi 8 (by kernel_rfl))
      have q0 := (unhide HF w (unhide HJ).bel).bx.cell 7
      go_simp
      exact hK _ _ ⟨slotPut U 9 _, (by rw [slotEq d8]; rfl), (unhide HJ).put 9 _ h0 (Below.refl _ _) (boD_st (Below.refl _ _)) rfl boD_lt (fun h => absurd h (by decide))⟩
    · refine wpOp_step rfl (fun K hK => ?_)
      clear hlt hif
      have d9 : U 9 = .slice a7 T.al.length c7 := (unhide HJ).val 9 (rg_dep hi 9 (by kernel_rfl))
      go_simp
      refine (setOf_made a7 c7 T.al (unhide HO).ok.n7 (unhide HO).r7 w (rowP_of (unhide HF w (unhide HJ).bel).ti.r7 (Nat.le_refl _))).mono ?_
      rintro e w' ⟨B, rfl, hs, hb⟩
      exact hK _ _ ⟨slotPut U 10 _, (by rw [slotEq d9]; rfl), (unhide HJ).put 10 _ h0 hb (boD_st hb) ⟨B, rfl, hs⟩ boD_lt (fun h => absurd h (by decide))⟩
    · refine wpOp_step rfl (fun K hK => ?_)
      clear hlt hif
      go_simp
      exact hK _ _ ⟨slotPut U 11 _, rfl, (unhide HJ).put 11 _ h0 ((Below.refl _ w).alloc (Nat.le_refl _) _) (boD_st ((Below.refl _ w).alloc (Nat.le_refl _) _)) ⟨_, rfl, (unhide HJ).sz, fun kt R => mp_made w kt R⟩ boD_lt (fun _ b hq => Nat.le_of_eq (Option.some.inj hq))⟩
    · refine wpOp_step rfl (fun K hK => ?_)
      clear hlt hif
      go_simp
      exact hK _ _ ⟨slotPut U 12 _, rfl, (unhide HJ).put 12 _ h0 ((Below.refl _ w).alloc (Nat.le_refl _) _) (boD_st ((Below.refl _ w).alloc (Nat.le_refl _) _)) ⟨_, rfl, (unhide HJ).sz, fun kt R => mp_made w kt R⟩ boD_lt (fun _ b hq => Nat.le_of_eq (Option.some.inj hq))⟩
    · refine wpOp_step rfl (fun K hK => ?_)
      clear hlt hif
      go_simp
      exact hK _ _ ⟨slotPut U 13 _, rfl, (unhide HJ).put 13 _ h0 ((Below.refl _ w).alloc (Nat.le_refl _) _) (boD_st ((Below.refl _ w).alloc (Nat.le_refl _) _)) ⟨_, rfl, (unhide HJ).sz, fun kt R => mp_made w kt R⟩ boD_lt (fun _ b hq => Nat.le_of_eq (Option.some.inj hq))⟩
    · refine wpOp_step rfl (fun K hK => ?_)
      clear hlt hif
      go_simp
      exact hK _ _ ⟨slotPut U 14 _, rfl, (unhide HJ).put 14 _ h0 (Below.refl _ _) (boD_st (Below.refl _ _)) rfl boD_lt (fun h => absurd h (by decide))⟩
    · refine wpOp_step rfl (fun K hK => ?_)
      clear hlt hif
      have d14 : U 14 = .pointer (some ⟨W.heap.size, 4, none⟩) := (unhide HJ).val 14 (rg_dep hi 14 (by kernel_rfl))
      have q0 := (unhide HF w (unhide HJ).bel).bx.cell 4
      go_simp
      exact hK _ _ ⟨slotPut U 15 _, (by rw [slotEq d14]; rfl), (unhide HJ).put 15 _ h0 (Below.refl _ _) (boD_st (Below.refl _ _)) rfl boD_lt (fun h => absurd h (by decide))⟩
    · refine wpOp_step rfl (fun K hK => ?_)
      clear hlt hif
      have d15 : U 15 = .slice a4 T.fo.length c4 := (unhide HJ).val 15 (rg_dep hi 15 (by kernel_rfl))
      go_simp
      refine (byFrom_any T.fo (unhide HO).ok.n4 (unhide HO).z4 a4 c4 w (unhide HF w (unhide HJ).bel).ti.r4).mono ?_
      rintro e w' ⟨M, n, rfl, hM, hn, hf, hb⟩
      exact hK _ _ ⟨slotPut U 16 _, (by rw [slotEq d15]; rfl), (unhide HJ).put 16 _ h0 hb (boD_st hb) ⟨M, n, rfl, Nat.le_trans (unhide HJ).sz hM, hf⟩ boD_lt (fun _ b hq => by have := Option.some.inj hq; omega)⟩
    · refine wpOp_step rfl (fun K hK => ?_)
      clear hlt hif
      go_simp
      exact hK _ _ ⟨slotPut U 17 _, rfl, (unhide HJ).put 17 _ h0 (Below.refl _ _) (boD_st (Below.refl _ _)) rfl boD_lt (fun h => absurd h (by decide))⟩
    · refine wpOp_step rfl (fun K hK => ?_)
      clear hlt hif
      have d17 : U 17 = .pointer (some ⟨W.heap.size, 5, none⟩) := (unhide HJ).val 17 (rg_dep hi 17 (by kernel_rfl))
      have q0 := (unhide HF w (unhide HJ).bel).bx.cell 5
      go_simp
      exact hK _ _ ⟨slotPut U 18 _, (by rw [slotEq d17]; rfl), (unhide HJ).put 18 _ h0 (Below.refl _ _) (boD_st (Below.refl _ _)) rfl boD_lt (fun h => absurd h (by decide))⟩
    · refine wpOp_step rfl (fun K hK => ?_)
      clear hlt hif
      have d18 : U 18 = .slice a5 T.lk.length c5 := (unhide HJ).val 18 (rg_dep hi 18 (by kernel_rfl))
      go_simp
      refine (byFrom_any T.lk (unhide HO).ok.n5 (unhide HO).z5 a5 c5 w (unhide HF w (unhide HJ).bel).ti.r5).mono ?_
      rintro e w' ⟨M, n, rfl, hM, hn, hf, hb⟩
      exact hK _ _ ⟨slotPut U 19 _, (by rw [slotEq d18]; rfl), (unhide HJ).put 19 _ h0 hb (boD_st hb) ⟨M, n, rfl, Nat.le_trans (unhide HJ).sz hM, hf⟩ boD_lt (fun _ b hq => by have := Option.some.inj hq; omega)⟩
    · refine wpOp_step rfl (fun K hK => ?_)
      clear hlt hif
      have h1 := (unhide HJ).val 1 (rg_dep hi 1 (by kernel_rfl))
      obtain ⟨t0, us2, t1, t2, t3, t4, t5, t6, t7, d1, hl1, hL1⟩ := h1
      have HT1 := hide (show TabAt w wz.drew.heap.size T (.agg #[t0, t1, t2, t3, t4, t5, t6, t7]) from ⟨t0, us2, t1, t2, t3, t4, t5, t6, t7, rfl, hl1, hL1⟩)
      clear hl1 hL1
      obtain ⟨B4, d4, h4⟩ := (unhide HJ).val 4 (rg_dep hi 4 (by kernel_rfl))
      obtain ⟨B7, d7, h7⟩ := (unhide HJ).val 7 (rg_dep hi 7 (by kernel_rfl))
      obtain ⟨B10, d10, h10⟩ := (unhide HJ).val 10 (rg_dep hi 10 (by kernel_rfl))
      obtain ⟨M11, d11, l11, h11⟩ := (unhide HJ).val 11 (rg_dep hi 11 (by kernel_rfl))
      obtain ⟨M12, d12, l12, h12⟩ := (unhide HJ).val 12 (rg_dep hi 12 (by kernel_rfl))
      obtain ⟨M13, d13, l13, h13⟩ := (unhide HJ).val 13 (rg_dep hi 13 (by kernel_rfl))
      obtain ⟨M16, n16, d16, l16, h16⟩ := (unhide HJ).val 16 (rg_dep hi 16 (by kernel_rfl))
      obtain ⟨M19, n19, d19, l19, h19⟩ := (unhide HJ).val 19 (rg_dep hi 19 (by kernel_rfl))
      have n01 : M11 ≠ M12 := bk_ne ((unhide HJ).ap 11 12 rfl rfl (by decide) (rg_dep hi 11 (by kernel_rfl)) (rg_dep hi 12 (by kernel_rfl))) d11 d12
      have n02 : M11 ≠ M13 := bk_ne ((unhide HJ).ap 11 13 rfl rfl (by decide) (rg_dep hi 11 (by kernel_rfl)) (rg_dep hi 13 (by kernel_rfl))) d11 d13
      have n03 : M11 ≠ M16 := bk_ne ((unhide HJ).ap 11 16 rfl rfl (by decide) (rg_dep hi 11 (by kernel_rfl)) (rg_dep hi 16 (by kernel_rfl))) d11 d16
      have n04 : M11 ≠ M19 := bk_ne ((unhide HJ).ap 11 19 rfl rfl (by decide) (rg_dep hi 11 (by kernel_rfl)) (rg_dep hi 19 (by kernel_rfl))) d11 d19
      have n12 : M12 ≠ M13 := bk_ne ((unhide HJ).ap 12 13 rfl rfl (by decide) (rg_dep hi 12 (by kernel_rfl)) (rg_dep hi 13 (by kernel_rfl))) d12 d13
      have n13 : M12 ≠ M16 := bk_ne ((unhide HJ).ap 12 16 rfl rfl (by decide) (rg_dep hi 12 (by kernel_rfl)) (rg_dep hi 16 (by kernel_rfl))) d12 d16
      have n14 : M12 ≠ M19 := bk_ne ((unhide HJ).ap 12 19 rfl rfl (by decide) (rg_dep hi 12 (by kernel_rfl)) (rg_dep hi 19 (by kernel_rfl))) d12 d19
      have n23 : M13 ≠ M16 := bk_ne ((unhide HJ).ap 13 16 rfl rfl (by decide) (rg_dep hi 13 (by kernel_rfl)) (rg_dep hi 16 (by kernel_rfl))) d13 d16
      have n24 : M13 ≠ M19 := bk_ne ((unhide HJ).ap 13 19 rfl rfl (by decide) (rg_dep hi 13 (by kernel_rfl)) (rg_dep hi 19 (by kernel_rfl))) d13 d19
      have n34 : M16 ≠ M19 := bk_ne ((unhide HJ).ap 16 19 rfl rfl (by decide) (rg_dep hi 16 (by kernel_rfl)) (rg_dep hi 19 (by kernel_rfl))) d16 d19
      have HK : Hz (BkC w wz.drew.heap.size T t0 t1 t2 t3 t4 t5 t6 t7 B4 B7 B10 M11 M12 M13 M16 n16 M19 n19) := hide ⟨unhide HT1, h4, h7, h10, h11, h12, h13, h16, h19, ⟨l11, l12, l13, l16, l19⟩, n01, n02, n03, n04, n12, n13, n14, n23, n24, n34⟩
      clear HT1 h4 h7 h10 h11 h12 h13 h16 h19 n01 n02 n03 n04 n12 n13 n14 n23 n24 n34
      go_simp
      exact hK _ _ ⟨slotPut U 20 _, (by rw [slotEq d1, slotEq d4, slotEq d7, slotEq d10, slotEq d11, slotEq d12, slotEq d13, slotEq d16, slotEq d19]; rfl), (unhide HJ).put 20 _ h0 (Below.refl _ _) (boD_st (Below.refl _ _)) ⟨t0, t1, t2, t3, t4, t5, t6, t7, B4, B7, B10, M11, M12, M13, M16, n16, M19, n19, rfl, unhide HK⟩ boD_lt (fun h => absurd h (by decide))⟩
    · refine wpOp_step rfl (fun K hK => ?_)
      clear hlt hif
      obtain ⟨t0, t1, t2, t3, t4, t5, t6, t7, Bc, Bd, Ba, M5, M6, M7, MF, nF, ML, nL, d20, hK20⟩ := (unhide HJ).val 20 (rg_dep hi 20 (by kernel_rfl))
      have HK := hide hK20
      clear hK20
      go_simp
      exact hK _ _ ⟨slotPut U 21 _, (by rw [slotEq d20]; rfl), (unhide HJ).put 21 _ h0 ((Below.refl _ w).alloc (Nat.le_refl _) _) (boD_st ((Below.refl _ w).alloc (Nat.le_refl _) _)) ⟨_, t0, t1, t2, t3, t4, t5, t6, t7, Bc, Bd, Ba, M5, M6, M7, MF, nF, ML, nL, rfl, (unhide HJ).sz, Blk.new w _ _, (unhide HK).below ((Below.refl _ w).alloc (Nat.le_refl _) _)⟩ boD_lt (fun h => absurd h (by decide))⟩
  · rintro l a w ⟨V, rfl, hJ⟩ hall
    obtain ⟨B, t0, t1, t2, t3, t4, t5, t6, t7, Bc, Bd, Ba, M5, M6, M7, MF, nF, ML, nL, d21, hloB, hBk, hK⟩ := hJ.val 21 (hall 21 (by decide) (by decide))
    have hBW : Below W.heap.size W w := (unhide HB0).trans (hJ.bel.mono (by have := unhide HS1; omega))
    have hF1 := unhide HF w hJ.bel
    have HP := hide hF1
    have e0 := hF1.bx.cell 0
    have hWB : W.heap.size + 1 ≤ B := by have := unhide HS1; omega
    have H0 : Hz (ScSt w w B T t0 t1 t2 t3 t4 t5 t6 t7 Bc Bd Ba M5 M6 M7 MF ML 0 (.slice none 0 0) []) := hide ⟨hBk, rfl, World.ownsRow_nil _ _ _ _, fun j s b _ hb => by simp at hb, KeptX.refl _ _⟩
    have H1 := hide (And.intro hK (And.intro hBW (And.intro hWB hBk.lt)))
    have HB1 := hide hBk
    have HW : Hz (W.heap.size + 1 ≤ wz.drew.heap.size) := hide (Nat.le_of_eq (unhide HS1).symm)
    have HLo : Hz (wz.drew.heap.size ≤ w.heap.size) := hide hJ.bel.size
    clear hJ hall hF1 hBk hK hBW hloB hWB
    refine wpOp_step rfl (fun K hK => ?_)
    go_simp
    refine hK _ _ ?_
    clear hK HF HB0 HS1
    go_step
    go_step
    refine wp_seq_k (fun K2 hK2 => ?_)
    have HK2 := hide hK2
    clear hK2
    go_wp2_with fail
    go_loopw [5, 36] (fun _ s36 wr => ∃ (k : Nat) (sv : Value) (bs : List Nat), k ≤ T.sc.length ∧ s36 = .int .i64 k ∧ Hz (ScSt w wr B T t0 t1 t2 t3 t4 t5 t6 t7 Bc Bd Ba M5 M6 M7 MF ML k sv bs)) (fun _ s36 _ => T.sc.length - (intOf s36).toNat)
    case atStart => exact ⟨0, _, _, Nat.zero_le _, rfl, H0⟩
    case round =>
      obtain ⟨k, sv, bs, hk, rfl, HS⟩ := hrel
      clear H0
      by_cases hkn : k < T.sc.length
      · obtain ⟨s, hs⟩ : ∃ s, T.sc[k]? = some s := ⟨_, List.getElem?_eq_getElem hkn⟩
        obtain ⟨u, hu⟩ : ∃ u, us[k]? = some u := ⟨_, List.getElem?_eq_getElem (by have := (unhide HT).lu; omega)⟩
        obtain ⟨b, d, rfl, hrc⟩ := (unhide HT).rs k s u hs hu
        have hlen : 0 < (encSc T.sc us).length := by have := (List.getElem?_eq_some_iff.1 (encSc_nm T.sc us (unhide HT).lu k s hs)).1; omega
        obtain ⟨g, q, rfl, hg, hc⟩ := (unhide HT).r0 hlen
        have n0 := encSc_nm T.sc us (unhide HT).lu k s hs
        have n1 : (encSc T.sc us)[k * 2 + 1]? = some (.slice b s.2.length d) := by rw [show k * 2 + 1 = 2 * k + 1 by omega, encSc_at _ _ (unhide HT).lu]; exact hu
        have hgw : g < w.heap.size := Nat.lt_of_lt_of_le hg (unhide H1).2.1.size
        have hgB : ¬ g = B := by have := (unhide H1).2.2.1; omega
        have kc0 : wr.cell? ⟨g, q + k * 2, none⟩ = some (.string s.1) := ((unhide HS).kp.cell (p := ⟨g, q + k * 2, none⟩) hgw hgB).trans (((unhide H1).2.1.cell (p := ⟨g, q + k * 2, none⟩) hg).trans (hc _ _ n0))
        have kc1 : wr.cell? ⟨g, q + k * 2 + 1, none⟩ = some (.slice b s.2.length d) := ((unhide HS).kp.cell (p := ⟨g, q + k * 2 + 1, none⟩) hgw hgB).trans (((unhide H1).2.1.cell (p := ⟨g, q + k * 2 + 1, none⟩) hg).trans (hc _ _ n1))
        have hrw : RowC wr w.heap.size b (encS2 s.2) := fun h0 => by
          obtain ⟨g2, o2, e2, hg2, hc2⟩ := hrc h0
          have h3 : g2 < w.heap.size := Nat.lt_of_lt_of_le hg2 (unhide H1).2.1.size
          exact ⟨g2, o2, e2, h3, fun j v hv => ((unhide HS).kp.cell (p := ⟨g2, o2 + j, none⟩) h3 (show ¬ g2 = B by have := (unhide H1).2.2.1; omega)).trans (((unhide H1).2.1.cell (p := ⟨g2, o2 + j, none⟩) hg2).trans (hc2 j v hv))⟩
        have hk1 : (k : Int) < (T.sc.length : Int) := by omega
        have HKN : Hz (k + 1 ≤ T.sc.length) := hide hkn
        have hkn0 : k ≤ T.sc.length := hk
        have hk2 : ((k : Nat) : Int).toNat = k := by omega
        have HX := hide (And.intro hs (And.intro ((unhide HO).rs s (List.mem_of_getElem? hs)) (And.intro ((unhide HO).ok.z0 s (List.mem_of_getElem? hs)).2 hrw)))
        obtain ⟨s1, s2⟩ := s
        dsimp only at kc0 kc1 HX
        clear hs hu hrc hc n0 n1 hgw hgB hrw hlen hg
        have HF : Hz (∀ w2, KeptX (fun x => sv.ownBlock = some x) (wr.alloc (.cells #[.string s1, .slice b s2.length d] 70)).drew w2 → Blk w2 wr.heap.size #[.string s1, .slice b s2.length d] 70 ∧ Blk w2 B (bkCs t0 t1 t2 t3 t4 t5 t6 t7 sv Bc Bd Ba M5 M6 M7 MF ML) 82 ∧ RowC w2 w.heap.size b (encS2 s2)) := hide (fun w2 h2 => by
          have hb : Below wr.heap.size wr (wr.alloc (.cells #[.string s1, .slice b s2.length d] 70)).drew := ((Below.refl _ wr).alloc (Nat.le_refl _) _).trans ⟨rfl, rfl, rfl, Nat.le_refl _, fun _ _ => rfl⟩
          have hlow : ∀ x, sv.ownBlock = some x → w.heap.size ≤ x ∧ x < wr.heap.size := fun x e => ⟨rd_from (unhide HS).row x e, own_ltW (unhide HS).row x e⟩
          refine ⟨h2.blk (Blk.new wr _ _) (fun e => by have := hlow _ e; omega), h2.blk ((unhide HS).bx.below hb (unhide HS).bx.lt) (fun e => by have := hlow _ e; have := (unhide H1).2.2.2; omega), fun h0 => ?_⟩
          obtain ⟨g2, o2, e2, hg2, hc2⟩ := (unhide HX).2.2.2 h0
          have h3 : g2 < wr.heap.size := Nat.lt_of_lt_of_le hg2 (unhide HS).kp.size
          exact ⟨g2, o2, e2, hg2, fun j v hv => (h2.cell (p := ⟨g2, o2 + j, none⟩) (Nat.lt_of_lt_of_le h3 hb.size) (show ¬ sv.ownBlock = some g2 from fun e => by have := hlow g2 e; omega)).trans ((hb.cell (p := ⟨g2, o2 + j, none⟩) h3).trans (hc2 j v hv))⟩)
        have HZ : Hz (Below wr.heap.size wr (wr.alloc (.cells #[.string s1, .slice b s2.length d] 70)).drew ∧ w.heap.size ≤ (wr.alloc (.cells #[.string s1, .slice b s2.length d] 70)).drew.heap.size ∧ (∀ x, sv.ownBlock = some x → x < (wr.alloc (.cells #[.string s1, .slice b s2.length d] 70)).drew.heap.size) ∧ B < w.heap.size) := hide (by
          have hb : Below wr.heap.size wr (wr.alloc (.cells #[.string s1, .slice b s2.length d] 70)).drew := ((Below.refl _ wr).alloc (Nat.le_refl _) _).trans ⟨rfl, rfl, rfl, Nat.le_refl _, fun _ _ => rfl⟩
          exact ⟨hb, Nat.le_trans (unhide HS).kp.size hb.size, fun x e => Nat.lt_of_lt_of_le (own_ltW (unhide HS).row x e) hb.size, (unhide H1).2.2.2⟩)
        go_wp2_with fail
        generalize (wr.alloc (.cells #[.string s1, .slice b s2.length d] 70)) = wb at *
        refine reg5_any hmx HS HF HX HZ (unhide HO).ok.n0 hkn0 ?_
        intro U wn sv2 bs2 HN
        have hkb : k + 1 ≤ 1000000 := by have := (unhide HO).ok.n0; have := unhide HKN; omega
        go_wp2_with fail
        exact ⟨⟨k + 1, _, _, unhide HKN, by go_num, HN⟩, by have := unhide HKN; simp [intOf]; omega⟩
      · have hk1 : ¬ (k : Int) < (T.sc.length : Int) := by omega
        obtain rfl : k = T.sc.length := by omega
        have hPB : ¬ W.heap.size = B := by have := (unhide H1).2.2.1; omega
        have HE : Hz (∀ g j, g < W.heap.size → wr.cell? ⟨g, j, none⟩ = W.cell? ⟨g, j, none⟩) := hide (fun g j hg => ((unhide HS).kp.cell (p := ⟨g, j, none⟩) (Nat.lt_of_lt_of_le hg (unhide H1).2.1.size) (show ¬ g = B by have := (unhide H1).2.2.1; omega)).trans ((unhide H1).2.1.cell (p := ⟨g, j, none⟩) hg))
        have HPb := hide ((unhide HS).kp.blk (unhide HP).bx hPB)
        clear hPB
        go_wp2_with fail
        have l5 : W.heap.size + 1 ≤ M5 := by have := (unhide H1).1.lows.1; have := unhide HW; omega
        have l6 : W.heap.size + 1 ≤ M6 := by have := (unhide H1).1.lows.2.1; have := unhide HW; omega
        have l7 : W.heap.size + 1 ≤ M7 := by have := (unhide H1).1.lows.2.2.1; have := unhide HW; omega
        have lB := (unhide H1).2.2.1
        have m5 := mp_ne_blk ((unhide H1).1.m5 21 (plainElem Tryz.prog 3)) (unhide HB1)
        have m6 := mp_ne_blk ((unhide H1).1.m6 21 twoElem) (unhide HB1)
        have m7 := mp_ne_blk ((unhide H1).1.m7 85 (plainElem Tryz.prog 21)) (unhide HB1)
        have hsz : W.heap.size ≤ wr.heap.size := Nat.le_trans (unhide H1).2.1.size (unhide HS).kp.size
        refine unhide HK2 _ _ (tail2_any T (unhide HO).ok.n2 (fun x hx => ⟨(unhide HO).z2 x hx, (unhide HO).ok.z2 x hx⟩) (lo := W.heap.size) (M5 := M5) hmx ((unhide HPb).cell 2) (hide ⟨rowC_to (unhide HT).r2 (unhide HE), hsz, by omega, (unhide HS).bx.lt, fun e => m5 e.symm, (unhide HS).bx.cell 12⟩) (hide ⟨⟨_, (unhide HS).kp.mp ((unhide H1).1.m5 _ _) m5, fun r _ => .inl ⟨fun x hx => by simp at hx, rfl⟩⟩, KeptX.refl _ _⟩) ?_)
        intro v7 v53 v54 v55 v56 v57 v58 v59 v60 v61 v62 v63 v64 v65 v66 v67 v68 wn HN
        have hk2 := (unhide HN).2
        have hc2 : ∀ g j, g < wr.heap.size → g ≠ M5 → wn.cell? ⟨g, j, none⟩ = wr.cell? ⟨g, j, none⟩ := fun g j hg hne => hk2.cell (p := ⟨g, j, none⟩) hg hne
        refine tail3_any T (unhide HO).ok.n3 (unhide HO).z3 (lo := W.heap.size) (M6 := M6) (M7 := M7) hmx ((hc2 _ 3 (unhide HPb).lt (by omega)).trans ((unhide HPb).cell 3)) (hide ⟨rowC_to (unhide HT).r3 (fun g j hg => (hc2 g j (by omega) (by omega)).trans (unhide HE g j hg)), Nat.le_trans hsz hk2.size, by omega, by omega, (unhide H1).1.n67, Nat.lt_of_lt_of_le (unhide HS).bx.lt hk2.size, fun e => m6 e.symm, fun e => m7 e.symm, (hc2 B 13 (unhide HS).bx.lt (fun e => m5 e.symm)).trans ((unhide HS).bx.cell 13), (hc2 B 14 (unhide HS).bx.lt (fun e => m5 e.symm)).trans ((unhide HS).bx.cell 14)⟩) (hide ⟨⟨_, hk2.mp ((unhide HS).kp.mp ((unhide H1).1.m6 _ _) m6) (fun e => (unhide H1).1.n56 e.symm), fun r _ => .inl ⟨fun x hx => by simp at hx, rfl⟩⟩, ⟨_, hk2.mp ((unhide HS).kp.mp ((unhide H1).1.m7 _ _) m7) (fun e => (unhide H1).1.n57 e.symm), fun a b k _ => .inl ⟨fun x hx => by simp at hx, rfl⟩⟩, KeptX.refl _ _⟩) ?_
        intro af wq h2 hd HQ
        refine bodyPost_ret (v := .pointer (some ⟨B, 0, none⟩)) (by rw [← h2]; exact results_tmp rfl _ _ _) hd ?_
        refine ⟨B, rfl, by omega, book_fin (unhide H1).1 (unhide HB1) (unhide HLo) (unhide HS) (unhide HN).1 hk2 (unhide HQ).1 (unhide HQ).2.1 (unhide HQ).2.2, ?_⟩
        exact below_keptX (below_keptX (below_keptX (unhide H1).2.1 (unhide HS).kp (fun g e => by subst e; omega) (Nat.le_refl _)) hk2 (fun g e => by subst e; omega) (Nat.le_refl _)) (unhide HQ).2.2 (fun g e => by rcases e with e | e <;> (subst e; omega)) (Nat.le_refl _)
end Go.Proofs.YtnnbaodillnkkaaGreat
