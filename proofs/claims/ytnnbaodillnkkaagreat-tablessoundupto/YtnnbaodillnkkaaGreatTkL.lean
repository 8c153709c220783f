/- Which tables are right: rows that are misformed. -/
import Derived.Test.YtnnbaodillnkkaaGreatTkK
namespace Go.Proofs.YtnnbaodillnkkaaGreat
open Go.RowKit Go.Shelf
set_option linter.unusedVariables false
def mfD (B : Nat) (T : TV) (a0 : Option Addr) (a1 : Option Addr) (a2 : Option Addr) (a3 : Option Addr) (a4 : Option Addr) (a5 : Option Addr) (a6 : Option Addr) (a7 : Option Addr) (c0 : Nat) (c1 : Nat) (c2 : Nat) (c3 : Nat) (c4 : Nat) (c5 : Nat) (c6 : Nat) (c7 : Nat) (x0 : Int × Int × Int) (x1 : Int × Int × Int) (x2 : Int × Int × Int) (x3 : Int × Int × Int) (x4 : Int × Int × Int) (x5 : Int × Int × Int) (x6 : Int × Int × Int) (x7 : Int × Int × Int) : Nat → Value → World → Prop
  | 0, v, w => v = .pointer (some ⟨B, 0, none⟩)
  | 1, v, w => v = .slice a0 T.sc.length c0
  | 2, v, w => v = wrV x0
  | 3, v, w => v = .pointer (some ⟨B, 1, none⟩)
  | 4, v, w => v = .slice a1 T.co.length c1
  | 5, v, w => v = wrV x1
  | 6, v, w => v = .pointer (some ⟨B, 2, none⟩)
  | 7, v, w => v = .slice a2 T.ma.length c2
  | 8, v, w => v = wrV x2
  | 9, v, w => v = .pointer (some ⟨B, 3, none⟩)
  | 10, v, w => v = .slice a3 T.pr.length c3
  | 11, v, w => v = wrV x3
  | 12, v, w => v = .pointer (some ⟨B, 4, none⟩)
  | 13, v, w => v = .slice a4 T.fo.length c4
  | 14, v, w => v = wrV x4
  | 15, v, w => v = .pointer (some ⟨B, 5, none⟩)
  | 16, v, w => v = .slice a5 T.lk.length c5
  | 17, v, w => v = wrV x5
  | 18, v, w => v = .pointer (some ⟨B, 6, none⟩)
  | 19, v, w => v = .slice a6 T.dr.length c6
  | 20, v, w => v = wrV x6
  | 21, v, w => v = .pointer (some ⟨B, 7, none⟩)
  | 22, v, w => v = .slice a7 T.al.length c7
  | 23, v, w => v = wrV x7
  | 24, v, w => ∃ g, v = .slice (some ⟨g, 0, none⟩) 8 8 ∧ g < w.heap.size ∧ RwW w g 0 [x0, x1, x2, x3, x4, x5, x6, x7]
  | 25, v, w => v = wrV (orW [x0, x1, x2, x3, x4, x5, x6, x7])
  | _, v, w => True
def mfDM (j : Nat) : Bool := false
theorem mfD_st {B : Nat} {T : TV} {a0 : Option Addr} {a1 : Option Addr} {a2 : Option Addr} {a3 : Option Addr} {a4 : Option Addr} {a5 : Option Addr} {a6 : Option Addr} {a7 : Option Addr} {c0 : Nat} {c1 : Nat} {c2 : Nat} {c3 : Nat} {c4 : Nat} {c5 : Nat} {c6 : Nat} {c7 : Nat} {x0 : Int × Int × Int} {x1 : Int × Int × Int} {x2 : Int × Int × Int} {x3 : Int × Int × Int} {x4 : Int × Int × Int} {x5 : Int × Int × Int} {x6 : Int × Int × Int} {x7 : Int × Int × Int} {w w' : World} (hb : Below w.heap.size w w') : ∀ (j : Nat) (v : Value), mfD B T a0 a1 a2 a3 a4 a5 a6 a7 c0 c1 c2 c3 c4 c5 c6 c7 x0 x1 x2 x3 x4 x5 x6 x7 j v w → mfD B T a0 a1 a2 a3 a4 a5 a6 a7 c0 c1 c2 c3 c4 c5 c6 c7 x0 x1 x2 x3 x4 x5 x6 x7 j v w'
  | 0, v, h => h
  | 1, v, h => h
  | 2, v, h => h
  | 3, v, h => h
  | 4, v, h => h
  | 5, v, h => h
  | 6, v, h => h
  | 7, v, h => h
  | 8, v, h => h
  | 9, v, h => h
  | 10, v, h => h
  | 11, v, h => h
  | 12, v, h => h
  | 13, v, h => h
  | 14, v, h => h
  | 15, v, h => h
  | 16, v, h => h
  | 17, v, h => h
  | 18, v, h => h
  | 19, v, h => h
  | 20, v, h => h
  | 21, v, h => h
  | 22, v, h => h
  | 23, v, h => h
  | 24, v, h => let ⟨g, e, h1, h2⟩ := h; ⟨g, e, Nat.lt_of_lt_of_le h1 hb.size, h2.below h1 hb⟩
  | 25, v, h => h
  | _ + 26, v, h => h
theorem mfD_lt {B : Nat} {T : TV} {a0 : Option Addr} {a1 : Option Addr} {a2 : Option Addr} {a3 : Option Addr} {a4 : Option Addr} {a5 : Option Addr} {a6 : Option Addr} {a7 : Option Addr} {c0 : Nat} {c1 : Nat} {c2 : Nat} {c3 : Nat} {c4 : Nat} {c5 : Nat} {c6 : Nat} {c7 : Nat} {x0 : Int × Int × Int} {x1 : Int × Int × Int} {x2 : Int × Int × Int} {x3 : Int × Int × Int} {x4 : Int × Int × Int} {x5 : Int × Int × Int} {x6 : Int × Int × Int} {x7 : Int × Int × Int} {w : World} (j : Nat) (v : Value) (hm : mfDM j = true) (h : mfD B T a0 a1 a2 a3 a4 a5 a6 a7 c0 c1 c2 c3 c4 c5 c6 c7 x0 x1 x2 x3 x4 x5 x6 x7 j v w) : ∀ b, v.ownBlock = some b → b < w.heap.size := by
  cases hm
set_option maxRecDepth 100000 in
set_option maxHeartbeats 8000000 in
theorem misformed_any (T : TV) (hO : TabOk T) (a0 a1 a2 a3 a4 a5 a6 a7 : Option Addr) (c0 c1 c2 c3 c4 c5 c6 c7 : Nat) (us : List Value) (W : World) (hT : TabIn W T a0 a1 a2 a3 a4 a5 a6 a7 us) :
    Calls Tryz.prog 50 #[.agg #[.slice a0 T.sc.length c0, .slice a1 T.co.length c1, .slice a2 T.ma.length c2, .slice a3 T.pr.length c3, .slice a4 T.fo.length c4, .slice a5 T.lk.length c5, .slice a6 T.dr.length c6, .slice a7 T.al.length c7]] W fun e w' => e = .returned (wrV (formsV T)) ∧ Below W.heap.size W w' := by
  have hmx : Tryz.prog.follows .mixedOrders = true := by kernel_rfl
  have hB0 : Below W.heap.size W ((W.alloc (.cells #[.slice a0 T.sc.length c0, .slice a1 T.co.length c1, .slice a2 T.ma.length c2, .slice a3 T.pr.length c3, .slice a4 T.fo.length c4, .slice a5 T.lk.length c5, .slice a6 T.dr.length c6, .slice a7 T.al.length c7] 32)).alloc (.cells #[.int .i64 0, .int .i64 0, .int .i64 0] 37)).drew := (((Below.refl _ W).alloc (Nat.le_refl _) _).alloc (by simp) _).trans ⟨rfl, rfl, rfl, Nat.le_refl _, fun _ _ => rfl⟩
  have bA : Blk ((W.alloc (.cells #[.slice a0 T.sc.length c0, .slice a1 T.co.length c1, .slice a2 T.ma.length c2, .slice a3 T.pr.length c3, .slice a4 T.fo.length c4, .slice a5 T.lk.length c5, .slice a6 T.dr.length c6, .slice a7 T.al.length c7] 32)).alloc (.cells #[.int .i64 0, .int .i64 0, .int .i64 0] 37)).drew W.heap.size #[.slice a0 T.sc.length c0, .slice a1 T.co.length c1, .slice a2 T.ma.length c2, .slice a3 T.pr.length c3, .slice a4 T.fo.length c4, .slice a5 T.lk.length c5, .slice a6 T.dr.length c6, .slice a7 T.al.length c7] 32 := (Blk.new W #[.slice a0 T.sc.length c0, .slice a1 T.co.length c1, .slice a2 T.ma.length c2, .slice a3 T.pr.length c3, .slice a4 T.fo.length c4, .slice a5 T.lk.length c5, .slice a6 T.dr.length c6, .slice a7 T.al.length c7] 32).alloc _
  have bR : Blk ((W.alloc (.cells #[.slice a0 T.sc.length c0, .slice a1 T.co.length c1, .slice a2 T.ma.length c2, .slice a3 T.pr.length c3, .slice a4 T.fo.length c4, .slice a5 T.lk.length c5, .slice a6 T.dr.length c6, .slice a7 T.al.length c7] 32)).alloc (.cells #[.int .i64 0, .int .i64 0, .int .i64 0] 37)).drew (W.heap.size + 1) #[.int .i64 0, .int .i64 0, .int .i64 0] 37 := by
    have h := Blk.new (W.alloc (.cells #[.slice a0 T.sc.length c0, .slice a1 T.co.length c1, .slice a2 T.ma.length c2, .slice a3 T.pr.length c3, .slice a4 T.fo.length c4, .slice a5 T.lk.length c5, .slice a6 T.dr.length c6, .slice a7 T.al.length c7] 32)) #[.int .i64 0, .int .i64 0, .int .i64 0] 37
    rw [World.size_alloc] at h
    exact h
  have hTF : TbF ((W.alloc (.cells #[.slice a0 T.sc.length c0, .slice a1 T.co.length c1, .slice a2 T.ma.length c2, .slice a3 T.pr.length c3, .slice a4 T.fo.length c4, .slice a5 T.lk.length c5, .slice a6 T.dr.length c6, .slice a7 T.al.length c7] 32)).alloc (.cells #[.int .i64 0, .int .i64 0, .int .i64 0] 37)).drew W.heap.size (W.heap.size + 1) T a0 a1 a2 a3 a4 a5 a6 a7 c0 c1 c2 c3 c4 c5 c6 c7 us := ⟨bA, bR, hT.lower hB0⟩
  have HF : Hz (∀ w1, Below ((W.alloc (.cells #[.slice a0 T.sc.length c0, .slice a1 T.co.length c1, .slice a2 T.ma.length c2, .slice a3 T.pr.length c3, .slice a4 T.fo.length c4, .slice a5 T.lk.length c5, .slice a6 T.dr.length c6, .slice a7 T.al.length c7] 32)).alloc (.cells #[.int .i64 0, .int .i64 0, .int .i64 0] 37)).drew.heap.size ((W.alloc (.cells #[.slice a0 T.sc.length c0, .slice a1 T.co.length c1, .slice a2 T.ma.length c2, .slice a3 T.pr.length c3, .slice a4 T.fo.length c4, .slice a5 T.lk.length c5, .slice a6 T.dr.length c6, .slice a7 T.al.length c7] 32)).alloc (.cells #[.int .i64 0, .int .i64 0, .int .i64 0] 37)).drew w1 → TbF w1 W.heap.size (W.heap.size + 1) T a0 a1 a2 a3 a4 a5 a6 a7 c0 c1 c2 c3 c4 c5 c6 c7 us) := hide (fun w1 h => hTF.below h)
  have HB := hide hB0
  clear hB0 bA bR hTF hT
  obtain ⟨x0, hx0⟩ : ∃ x, eachW 1 T.sc sc0 scF = x := ⟨_, rfl⟩
  obtain ⟨x1, hx1⟩ : ∃ x, spW 2 T.co = x := ⟨_, rfl⟩
  obtain ⟨x2, hx2⟩ : ∃ x, eachW 3 T.ma ma0 maF = x := ⟨_, rfl⟩
  obtain ⟨x3, hx3⟩ : ∃ x, eachW 4 T.pr pr0 prF = x := ⟨_, rfl⟩
  obtain ⟨x4, hx4⟩ : ∃ x, eachW 5 T.fo mp0 mpF = x := ⟨_, rfl⟩
  obtain ⟨x5, hx5⟩ : ∃ x, eachW 6 T.lk mp0 mpF = x := ⟨_, rfl⟩
  obtain ⟨x6, hx6⟩ : ∃ x, spW 7 T.dr = x := ⟨_, rfl⟩
  obtain ⟨x7, hx7⟩ : ∃ x, spW 8 T.al = x := ⟨_, rfl⟩
  have HOK : Hz (∀ x ∈ [x0, x1, x2, x3, x4, x5, x6, x7], OkW x) := hide (by
    intro x hx
    simp only [List.mem_cons, List.not_mem_nil, or_false] at hx
    rcases hx with rfl | rfl | rfl | rfl | rfl | rfl | rfl | rfl
    · rw [← hx0]; exact eachW_okW _ _ _ _
    · rw [← hx1]; exact spW_okW _ _
    · rw [← hx2]; exact eachW_okW _ _ _ _
    · rw [← hx3]; exact eachW_okW _ _ _ _
    · rw [← hx4]; exact eachW_okW _ _ _ _
    · rw [← hx5]; exact eachW_okW _ _ _ _
    · rw [← hx6]; exact spW_okW _ _
    · rw [← hx7]; exact spW_okW _ _)
  have hfin : formsV T = orW [x0, x1, x2, x3, x4, x5, x6, x7] := by
    unfold formsV
    rw [hx0, hx1, hx2, hx3, hx4, hx5, hx6, hx7]
  rw [hfin]
  have HX0 := hide hx0
  have HX1 := hide hx1
  have HX2 := hide hx2
  have HX3 := hide hx3
  have HX4 := hide hx4
  have HX5 := hide hx5
  have HX6 := hide hx6
  have HX7 := hide hx7
  clear hfin hx0 hx1 hx2 hx3 hx4 hx5 hx6 hx7
  go_enter Tryz.func50, Tryz.ntmps50
  go_wp2_with fail
  generalize (W.alloc (.cells #[.slice a0 T.sc.length c0, .slice a1 T.co.length c1, .slice a2 T.ma.length c2, .slice a3 T.pr.length c3, .slice a4 T.fo.length c4, .slice a5 T.lk.length c5, .slice a6 T.dr.length c6, .slice a7 T.al.length c7] 32)).alloc (.cells #[.int .i64 0, .int .i64 0, .int .i64 0] 37) = w0 at *
  refine wp_region_inv hmx 26 (by decide) (by kernel_rfl) (by kernel_rfl) (fun l a w => ∃ U : Nat → Value, a = { tmps := #[.agg #[.slice a0 T.sc.length c0, .slice a1 T.co.length c1, .slice a2 T.ma.length c2, .slice a3 T.pr.length c3, .slice a4 T.fo.length c4, .slice a5 T.lk.length c5, .slice a6 T.dr.length c6, .slice a7 T.al.length c7], .pointer (some ⟨W.heap.size, 0, none⟩), .pointer (some ⟨W.heap.size + 1, 0, none⟩), U 0, U 1, U 2, U 3, U 4, U 5, U 6, U 7, U 8, U 9, U 10, U 11, U 12, U 13, U 14, U 15, U 16, U 17, U 18, U 19, U 20, U 21, U 22, U 23, U 24, U 25], defers := [] } ∧ RgJ (w0.drew) (w0.drew.heap.size) (mfD W.heap.size T a0 a1 a2 a3 a4 a5 a6 a7 c0 c1 c2 c3 c4 c5 c6 c7 x0 x1 x2 x3 x4 x5 x6 x7) mfDM l U w) ⟨fun _ => undef, rfl, RgJ.start _ _ (Nat.le_refl _)⟩ ?_ ?_
  · rintro l a w i ⟨U, rfl, hJ⟩ hl hi hif
    have h0 := (mem_ready.1 hi).1
    have hlt := rg_lt hl h0
    have HJ := hide hJ
    clear hJ hl
    replace hlt : i < 27 := hlt
    obtain rfl | rfl | rfl | rfl | rfl | rfl | rfl | rfl | rfl | rfl | rfl | rfl | rfl | rfl | rfl | rfl | rfl | rfl | rfl | rfl | rfl | rfl | rfl | rfl | rfl | rfl : i = 0 ∨ i = 1 ∨ i = 2 ∨ i = 3 ∨ i = 4 ∨ i = 5 ∨ i = 6 ∨ i = 7 ∨ i = 8 ∨ i = 9 ∨ i = 10 ∨ i = 11 ∨ i = 12 ∨ i = 13 ∨ i = 14 ∨ i = 15 ∨ i = 16 ∨ i = 17 ∨ i = 18 ∨ i = 19 ∨ i = 20 ∨ i = 21 ∨ i = 22 ∨ i = 23 ∨ i = 24 ∨ i = 25 := by omega
    · refine wpOp_step rfl (fun K hK => ?_)
      clear hlt hif
      go_simp
      exact hK _ _ ⟨slotPut U 0 _, rfl, (unhide HJ).put 0 _ h0 (Below.refl _ _) (mfD_st (Below.refl _ _)) rfl mfD_lt (fun h => absurd h (by decide))⟩
    · refine wpOp_step rfl (fun K hK => ?_)
      clear hlt hif
      have d0 : U 0 = .pointer (some ⟨W.heap.size, 0, none⟩) := (unhide HJ).val 0 (rg_dep hi 0 (by kernel_rfl))
      have q0 := (unhide HF w (unhide HJ).bel).bx.cell 0
      go_simp
      exact hK _ _ ⟨slotPut U 1 _, (by rw [slotEq d0]; rfl), (unhide HJ).put 1 _ h0 (Below.refl _ _) (mfD_st (Below.refl _ _)) rfl mfD_lt (fun h => absurd h (by decide))⟩
    · refine wpOp_step rfl (fun K hK => ?_)
      clear hlt hif
      have d1 : U 1 = .slice a0 T.sc.length c0 := (unhide HJ).val 1 (rg_dep hi 1 (by kernel_rfl))
      have hf := unhide HF w (unhide HJ).bel
      go_simp
      refine (fr_script T.sc us hf.ti.lu hO.n0 hO.z0 _ _ _ hf.ti.r0 hf.ti.rs).mono ?_
      rw [unhide HX0]
      rintro e w' ⟨rfl, hb⟩
      exact hK _ _ ⟨slotPut U 2 _, (by rw [slotEq d1]; rfl), (unhide HJ).put 2 _ h0 hb (mfD_st hb) rfl mfD_lt (fun h => absurd h (by decide))⟩
    · refine wpOp_step rfl (fun K hK => ?_)
      clear hlt hif
      go_simp
      exact hK _ _ ⟨slotPut U 3 _, rfl, (unhide HJ).put 3 _ h0 (Below.refl _ _) (mfD_st (Below.refl _ _)) rfl mfD_lt (fun h => absurd h (by decide))⟩
    · refine wpOp_step rfl (fun K hK => ?_)
      clear hlt hif
      have d3 : U 3 = .pointer (some ⟨W.heap.size, 1, none⟩) := (unhide HJ).val 3 (rg_dep hi 3 (by kernel_rfl))
      have q0 := (unhide HF w (unhide HJ).bel).bx.cell 1
      go_simp
      exact hK _ _ ⟨slotPut U 4 _, (by rw [slotEq d3]; rfl), (unhide HJ).put 4 _ h0 (Below.refl _ _) (mfD_st (Below.refl _ _)) rfl mfD_lt (fun h => absurd h (by decide))⟩
    · refine wpOp_step rfl (fun K hK => ?_)
      clear hlt hif
      have d4 : U 4 = .slice a1 T.co.length c1 := (unhide HJ).val 4 (rg_dep hi 4 (by kernel_rfl))
      have hf := unhide HF w (unhide HJ).bel
      go_simp
      refine (spansWrong_any 2 T.co hO.n1 _ _ _ (rowP_of hf.ti.r1 (Nat.le_refl _))).mono ?_
      rw [unhide HX1]
      rintro e w' ⟨rfl, hb⟩
      exact hK _ _ ⟨slotPut U 5 _, (by rw [slotEq d4]; rfl), (unhide HJ).put 5 _ h0 hb (mfD_st hb) rfl mfD_lt (fun h => absurd h (by decide))⟩
    · refine wpOp_step rfl (fun K hK => ?_)
      clear hlt hif
      go_simp
      exact hK _ _ ⟨slotPut U 6 _, rfl, (unhide HJ).put 6 _ h0 (Below.refl _ _) (mfD_st (Below.refl _ _)) rfl mfD_lt (fun h => absurd h (by decide))⟩
    · refine wpOp_step rfl (fun K hK => ?_)
      clear hlt hif
      have d6 : U 6 = .pointer (some ⟨W.heap.size, 2, none⟩) := (unhide HJ).val 6 (rg_dep hi 6 (by kernel_rfl))
      have q0 := (unhide HF w (unhide HJ).bel).bx.cell 2
      go_simp
      exact hK _ _ ⟨slotPut U 7 _, (by rw [slotEq d6]; rfl), (unhide HJ).put 7 _ h0 (Below.refl _ _) (mfD_st (Below.refl _ _)) rfl mfD_lt (fun h => absurd h (by decide))⟩
    · refine wpOp_step rfl (fun K hK => ?_)
      clear hlt hif
      have d7 : U 7 = .slice a2 T.ma.length c2 := (unhide HJ).val 7 (rg_dep hi 7 (by kernel_rfl))
      have hf := unhide HF w (unhide HJ).bel
      go_simp
      refine (fr_mark T.ma hO.n2 _ _ _ hf.ti.r2).mono ?_
      rw [unhide HX2]
      rintro e w' ⟨rfl, hb⟩
      exact hK _ _ ⟨slotPut U 8 _, (by rw [slotEq d7]; rfl), (unhide HJ).put 8 _ h0 hb (mfD_st hb) rfl mfD_lt (fun h => absurd h (by decide))⟩
    · refine wpOp_step rfl (fun K hK => ?_)
      clear hlt hif
      go_simp
      exact hK _ _ ⟨slotPut U 9 _, rfl, (unhide HJ).put 9 _ h0 (Below.refl _ _) (mfD_st (Below.refl _ _)) rfl mfD_lt (fun h => absurd h (by decide))⟩
    · refine wpOp_step rfl (fun K hK => ?_)
      clear hlt hif
      have d9 : U 9 = .pointer (some ⟨W.heap.size, 3, none⟩) := (unhide HJ).val 9 (rg_dep hi 9 (by kernel_rfl))
      have q0 := (unhide HF w (unhide HJ).bel).bx.cell 3
      go_simp
      exact hK _ _ ⟨slotPut U 10 _, (by rw [slotEq d9]; rfl), (unhide HJ).put 10 _ h0 (Below.refl _ _) (mfD_st (Below.refl _ _)) rfl mfD_lt (fun h => absurd h (by decide))⟩
    · refine wpOp_step rfl (fun K hK => ?_)
      clear hlt hif
      have d10 : U 10 = .slice a3 T.pr.length c3 := (unhide HJ).val 10 (rg_dep hi 10 (by kernel_rfl))
      have hf := unhide HF w (unhide HJ).bel
      go_simp
      refine (fr_pair T.pr hO.n3 _ _ _ hf.ti.r3).mono ?_
      rw [unhide HX3]
      rintro e w' ⟨rfl, hb⟩
      exact hK _ _ ⟨slotPut U 11 _, (by rw [slotEq d10]; rfl), (unhide HJ).put 11 _ h0 hb (mfD_st hb) rfl mfD_lt (fun h => absurd h (by decide))⟩
    · refine wpOp_step rfl (fun K hK => ?_)
      clear hlt hif
      go_simp
      exact hK _ _ ⟨slotPut U 12 _, rfl, (unhide HJ).put 12 _ h0 (Below.refl _ _) (mfD_st (Below.refl _ _)) rfl mfD_lt (fun h => absurd h (by decide))⟩
    · refine wpOp_step rfl (fun K hK => ?_)
      clear hlt hif
      have d12 : U 12 = .pointer (some ⟨W.heap.size, 4, none⟩) := (unhide HJ).val 12 (rg_dep hi 12 (by kernel_rfl))
      have q0 := (unhide HF w (unhide HJ).bel).bx.cell 4
      go_simp
      exact hK _ _ ⟨slotPut U 13 _, (by rw [slotEq d12]; rfl), (unhide HJ).put 13 _ h0 (Below.refl _ _) (mfD_st (Below.refl _ _)) rfl mfD_lt (fun h => absurd h (by decide))⟩
    · refine wpOp_step rfl (fun K hK => ?_)
      clear hlt hif
      have d13 : U 13 = .slice a4 T.fo.length c4 := (unhide HJ).val 13 (rg_dep hi 13 (by kernel_rfl))
      have hf := unhide HF w (unhide HJ).bel
      go_simp
      refine (fr_map 5 T.fo hO.n4 hO.z4 _ _ _ hf.ti.r4).mono ?_
      rw [unhide HX4]
      rintro e w' ⟨rfl, hb⟩
      exact hK _ _ ⟨slotPut U 14 _, (by rw [slotEq d13]; rfl), (unhide HJ).put 14 _ h0 hb (mfD_st hb) rfl mfD_lt (fun h => absurd h (by decide))⟩
    · refine wpOp_step rfl (fun K hK => ?_)
      clear hlt hif
      go_simp
      exact hK _ _ ⟨slotPut U 15 _, rfl, (unhide HJ).put 15 _ h0 (Below.refl _ _) (mfD_st (Below.refl _ _)) rfl mfD_lt (fun h => absurd h (by decide))⟩
    · refine wpOp_step rfl (fun K hK => ?_)
      clear hlt hif
      have d15 : U 15 = .pointer (some ⟨W.heap.size, 5, none⟩) := (unhide HJ).val 15 (rg_dep hi 15 (by kernel_rfl))
      have q0 := (unhide HF w (unhide HJ).bel).bx.cell 5
      go_simp
      exact hK _ _ ⟨slotPut U 16 _, (by rw [slotEq d15]; rfl), (unhide HJ).put 16 _ h0 (Below.refl _ _) (mfD_st (Below.refl _ _)) rfl mfD_lt (fun h => absurd h (by decide))⟩
    · refine wpOp_step rfl (fun K hK => ?_)
      clear hlt hif
      have d16 : U 16 = .slice a5 T.lk.length c5 := (unhide HJ).val 16 (rg_dep hi 16 (by kernel_rfl))
      have hf := unhide HF w (unhide HJ).bel
      go_simp
      refine (fr_map 6 T.lk hO.n5 hO.z5 _ _ _ hf.ti.r5).mono ?_
      rw [unhide HX5]
      rintro e w' ⟨rfl, hb⟩
      exact hK _ _ ⟨slotPut U 17 _, (by rw [slotEq d16]; rfl), (unhide HJ).put 17 _ h0 hb (mfD_st hb) rfl mfD_lt (fun h => absurd h (by decide))⟩
    · refine wpOp_step rfl (fun K hK => ?_)
      clear hlt hif
      go_simp
      exact hK _ _ ⟨slotPut U 18 _, rfl, (unhide HJ).put 18 _ h0 (Below.refl _ _) (mfD_st (Below.refl _ _)) rfl mfD_lt (fun h => absurd h (by decide))⟩
    · refine wpOp_step rfl (fun K hK => ?_)
      clear hlt hif
      have d18 : U 18 = .pointer (some ⟨W.heap.size, 6, none⟩) := (unhide HJ).val 18 (rg_dep hi 18 (by kernel_rfl))
      have q0 := (unhide HF w (unhide HJ).bel).bx.cell 6
      go_simp
      exact hK _ _ ⟨slotPut U 19 _, (by rw [slotEq d18]; rfl), (unhide HJ).put 19 _ h0 (Below.refl _ _) (mfD_st (Below.refl _ _)) rfl mfD_lt (fun h => absurd h (by decide))⟩
    · refine wpOp_step rfl (fun K hK => ?_)
      clear hlt hif
      have d19 : U 19 = .slice a6 T.dr.length c6 := (unhide HJ).val 19 (rg_dep hi 19 (by kernel_rfl))
      have hf := unhide HF w (unhide HJ).bel
      go_simp
      refine (spansWrong_any 7 T.dr hO.n6 _ _ _ (rowP_of hf.ti.r6 (Nat.le_refl _))).mono ?_
      rw [unhide HX6]
      rintro e w' ⟨rfl, hb⟩
      exact hK _ _ ⟨slotPut U 20 _, (by rw [slotEq d19]; rfl), (unhide HJ).put 20 _ h0 hb (mfD_st hb) rfl mfD_lt (fun h => absurd h (by decide))⟩
    · refine wpOp_step rfl (fun K hK => ?_)
      clear hlt hif
      go_simp
      exact hK _ _ ⟨slotPut U 21 _, rfl, (unhide HJ).put 21 _ h0 (Below.refl _ _) (mfD_st (Below.refl _ _)) rfl mfD_lt (fun h => absurd h (by decide))⟩
    · refine wpOp_step rfl (fun K hK => ?_)
      clear hlt hif
      have d21 : U 21 = .pointer (some ⟨W.heap.size, 7, none⟩) := (unhide HJ).val 21 (rg_dep hi 21 (by kernel_rfl))
      have q0 := (unhide HF w (unhide HJ).bel).bx.cell 7
      go_simp
      exact hK _ _ ⟨slotPut U 22 _, (by rw [slotEq d21]; rfl), (unhide HJ).put 22 _ h0 (Below.refl _ _) (mfD_st (Below.refl _ _)) rfl mfD_lt (fun h => absurd h (by decide))⟩
    · refine wpOp_step rfl (fun K hK => ?_)
      clear hlt hif
      have d22 : U 22 = .slice a7 T.al.length c7 := (unhide HJ).val 22 (rg_dep hi 22 (by kernel_rfl))
      have hf := unhide HF w (unhide HJ).bel
      go_simp
      refine (spansWrong_any 8 T.al hO.n7 _ _ _ (rowP_of hf.ti.r7 (Nat.le_refl _))).mono ?_
      rw [unhide HX7]
      rintro e w' ⟨rfl, hb⟩
      exact hK _ _ ⟨slotPut U 23 _, (by rw [slotEq d22]; rfl), (unhide HJ).put 23 _ h0 hb (mfD_st hb) rfl mfD_lt (fun h => absurd h (by decide))⟩
    · refine wpOp_step rfl (fun K hK => ?_)
      clear hlt hif
      have d2 : U 2 = wrV x0 := (unhide HJ).val 2 (rg_dep hi 2 (by kernel_rfl))
      have d5 : U 5 = wrV x1 := (unhide HJ).val 5 (rg_dep hi 5 (by kernel_rfl))
      have d8 : U 8 = wrV x2 := (unhide HJ).val 8 (rg_dep hi 8 (by kernel_rfl))
      have d11 : U 11 = wrV x3 := (unhide HJ).val 11 (rg_dep hi 11 (by kernel_rfl))
      have d14 : U 14 = wrV x4 := (unhide HJ).val 14 (rg_dep hi 14 (by kernel_rfl))
      have d17 : U 17 = wrV x5 := (unhide HJ).val 17 (rg_dep hi 17 (by kernel_rfl))
      have d20 : U 20 = wrV x6 := (unhide HJ).val 20 (rg_dep hi 20 (by kernel_rfl))
      have d23 : U 23 = wrV x7 := (unhide HJ).val 23 (rg_dep hi 23 (by kernel_rfl))
      unfold wrV at d2 d5 d8 d11 d14 d17 d20 d23
      go_simp
      exact hK _ _ ⟨slotPut U 24 _, (by rw [slotEq d2, slotEq d5, slotEq d8, slotEq d11, slotEq d14, slotEq d17, slotEq d20, slotEq d23]; rfl), (unhide HJ).put 24 _ h0 ((Below.refl _ _).alloc (Nat.le_refl _) _) (mfD_st ((Below.refl _ _).alloc (Nat.le_refl _) _)) ⟨_, rfl, by simp, rwW_alloc w _ [x0, x1, x2, x3, x4, x5, x6, x7] _ _ rfl rfl⟩ mfD_lt (fun h => absurd h (by decide))⟩
    · refine wpOp_step rfl (fun K hK => ?_)
      clear hlt hif
      obtain ⟨g24, d24, l24, h24⟩ := (unhide HJ).val 24 (rg_dep hi 24 (by kernel_rfl))
      go_simp
      refine (orWrong_any [x0, x1, x2, x3, x4, x5, x6, x7] (by simp) (unhide HOK) _ 0 _ _ l24 h24).mono ?_
      rintro e w' ⟨rfl, hb⟩
      exact hK _ _ ⟨slotPut U 25 _, (by rw [slotEq d24]; rfl), (unhide HJ).put 25 _ h0 hb (mfD_st hb) rfl mfD_lt (fun h => absurd h (by decide))⟩
  · rintro l a w ⟨U, rfl, hJ⟩ hall
    have d25 : U 25 = wrV (orW [x0, x1, x2, x3, x4, x5, x6, x7]) := hJ.val 25 (hall 25 (by decide) (by decide))
    have HBJ := hide (And.intro ((unhide HB).trans (hJ.bel.mono (unhide HB).size)) (unhide HF w hJ.bel).rs)
    clear hJ hall
    refine wpOp_step rfl (fun K hK => ?_)
    obtain ⟨y, hy⟩ : ∃ y, orW [x0, x1, x2, x3, x4, x5, x6, x7] = y := ⟨_, rfl⟩
    rw [hy] at d25
    have HY := hide hy
    clear hy
    obtain ⟨y0, y1, y2⟩ := y
    unfold wrV at d25
    have r0 := (unhide HBJ).2.cell 0
    have f0 := (unhide HBJ).2.frozen 0
    have r1 := (unhide HBJ).2.cell 1
    have f1 := (unhide HBJ).2.frozen 1
    have r2 := (unhide HBJ).2.cell 2
    have f2 := (unhide HBJ).2.frozen 2
    go_simp
    refine hK _ _ ?_
    clear hK
    go_wp2_with fail
    exact bodyPost_ret (v := wrV (y0, y1, y2)) (ret3 Tryz.results50 rfl (blk3 (unhide HBJ).2 _ _ _) rfl) rfl ⟨by rw [unhide HY], below3 (unhide HBJ).1 (by omega) (unhide HBJ).1.size _ _ _⟩
end Go.Proofs.YtnnbaodillnkkaaGreat
