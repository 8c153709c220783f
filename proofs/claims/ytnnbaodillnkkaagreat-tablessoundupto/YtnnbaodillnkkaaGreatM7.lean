/- Texts of this claim, one behind the other. -/
import Derived.Test.YtnnbaodillnkkaaGreatM6
import Derived.Test.YtnnbaodillnkkaaGreatM1
/- Which tables are right: a mark's row. -/
namespace Go.Proofs.YtnnbaodillnkkaaGreat
open Go.RowKit Go.Shelf
set_option linter.unusedVariables false
theorem RnC.below {w w' : World} {a : Option Addr} {zs : List Int} (h : RnC w w.heap.size a zs) (hb : Below w.heap.size w w') : RnC w' w'.heap.size a zs := fun h0 => by
  obtain ⟨g, o, e, hg, hc⟩ := h h0
  exact ⟨g, o, e, Nat.lt_of_lt_of_le hg hb.size, fun j x hx => (hb.cell (p := ⟨g, o + j, none⟩) hg).trans (hc j x hx)⟩
theorem two_blk {w : World} {g : Nat} {x y : Int} {t : TypeId} (b : Blk w g #[.int .i64 x, .int .i64 y] t) : ∀ (j : Nat) (z : Int), [x, y][j]? = some z → w.cell? ⟨g, 0 + j, none⟩ = some (.int .i64 z) := fun j z hj => by
  rcases j with _ | _ | j
  · obtain rfl : x = z := by simpa using hj
    exact b.cell 0
  · obtain rfl : y = z := by simpa using hj
    exact b.cell 1
  · simp at hj
def mwD0 (B : Nat) (r : Int) (c : Int) (e1 : Int) : Nat → Value → World → Prop
  | 0, v, w => v = .pointer (some ⟨B, 0, none⟩)
  | 1, v, w => v = .int .i32 r
  | 2, v, w => ∃ g, v = .slice (some ⟨g, 0, none⟩) 1 1 ∧ RnC w w.heap.size (some ⟨g, 0, none⟩) [r]
  | 3, v, w => v = .int .i64 e1
  | 4, v, w => v = .pointer (some ⟨B, 1, none⟩)
  | 5, v, w => v = .int .i64 c
  | 6, v, w => v = .bool true
  | 7, v, w => v = .bool true
  | 8, v, w => v = undef
  | 9, v, w => v = undef
  | 10, v, w => v = undef
  | 11, v, w => v = .bool true
  | 12, v, w => v = .int .i64 30
  | 13, v, w => ∃ g, v = .slice (some ⟨g, 0, none⟩) 2 2 ∧ Blk w g #[.int .i64 e1, .int .i64 30] 22
  | 14, v, w => v = .int .i64 (orE [e1, 30])
  | _, v, w => True
def mwD0M (j : Nat) : Bool := false
theorem mwD0_st {B : Nat} {r : Int} {c : Int} {e1 : Int} {w w' : World} (hb : Below w.heap.size w w') : ∀ (j : Nat) (v : Value), mwD0 B r c e1 j v w → mwD0 B r c e1 j v w'
  | 0, v, h => h
  | 1, v, h => h
  | 2, v, h => let ⟨g, e, h2⟩ := h; ⟨g, e, h2.below hb⟩
  | 3, v, h => h
  | 4, v, h => h
  | 5, v, h => h
  | 6, v, h => h
  | 7, v, h => h
  | 8, v, h => h
  | 9, v, h => h
  | 10, v, h => h
  | 11, v, h => h
  | 12, v, h => h
  | 13, v, h => let ⟨g, e, h2⟩ := h; ⟨g, e, h2.below hb h2.lt⟩
  | 14, v, h => h
  | _ + 15, v, h => h
theorem mwD0_lt {B : Nat} {r : Int} {c : Int} {e1 : Int} {w : World} (j : Nat) (v : Value) (hm : mwD0M j = true) (h : mwD0 B r c e1 j v w) : ∀ b, v.ownBlock = some b → b < w.heap.size := by
  cases hm
def mwD1 (B : Nat) (r : Int) (c : Int) (e1 : Int) : Nat → Value → World → Prop
  | 0, v, w => v = .pointer (some ⟨B, 0, none⟩)
  | 1, v, w => v = .int .i32 r
  | 2, v, w => ∃ g, v = .slice (some ⟨g, 0, none⟩) 1 1 ∧ RnC w w.heap.size (some ⟨g, 0, none⟩) [r]
  | 3, v, w => v = .int .i64 e1
  | 4, v, w => v = .pointer (some ⟨B, 1, none⟩)
  | 5, v, w => v = .int .i64 c
  | 6, v, w => v = .bool false
  | 7, v, w => v = .bool false
  | 8, v, w => v = .pointer (some ⟨B, 1, none⟩)
  | 9, v, w => v = .int .i64 c
  | 10, v, w => v = .bool true
  | 11, v, w => v = .bool true
  | 12, v, w => v = .int .i64 30
  | 13, v, w => ∃ g, v = .slice (some ⟨g, 0, none⟩) 2 2 ∧ Blk w g #[.int .i64 e1, .int .i64 30] 22
  | 14, v, w => v = .int .i64 (orE [e1, 30])
  | _, v, w => True
def mwD1M (j : Nat) : Bool := false
theorem mwD1_st {B : Nat} {r : Int} {c : Int} {e1 : Int} {w w' : World} (hb : Below w.heap.size w w') : ∀ (j : Nat) (v : Value), mwD1 B r c e1 j v w → mwD1 B r c e1 j v w'
  | 0, v, h => h
  | 1, v, h => h
  | 2, v, h => let ⟨g, e, h2⟩ := h; ⟨g, e, h2.below hb⟩
  | 3, v, h => h
  | 4, v, h => h
  | 5, v, h => h
  | 6, v, h => h
  | 7, v, h => h
  | 8, v, h => h
  | 9, v, h => h
  | 10, v, h => h
  | 11, v, h => h
  | 12, v, h => h
  | 13, v, h => let ⟨g, e, h2⟩ := h; ⟨g, e, h2.below hb h2.lt⟩
  | 14, v, h => h
  | _ + 15, v, h => h
theorem mwD1_lt {B : Nat} {r : Int} {c : Int} {e1 : Int} {w : World} (j : Nat) (v : Value) (hm : mwD1M j = true) (h : mwD1 B r c e1 j v w) : ∀ b, v.ownBlock = some b → b < w.heap.size := by
  cases hm
def mwD2 (B : Nat) (r : Int) (c : Int) (e1 : Int) : Nat → Value → World → Prop
  | 0, v, w => v = .pointer (some ⟨B, 0, none⟩)
  | 1, v, w => v = .int .i32 r
  | 2, v, w => ∃ g, v = .slice (some ⟨g, 0, none⟩) 1 1 ∧ RnC w w.heap.size (some ⟨g, 0, none⟩) [r]
  | 3, v, w => v = .int .i64 e1
  | 4, v, w => v = .pointer (some ⟨B, 1, none⟩)
  | 5, v, w => v = .int .i64 c
  | 6, v, w => v = .bool false
  | 7, v, w => v = .bool false
  | 8, v, w => v = .pointer (some ⟨B, 1, none⟩)
  | 9, v, w => v = .int .i64 c
  | 10, v, w => v = .bool false
  | 11, v, w => v = .bool false
  | 12, v, w => v = .int .i64 0
  | 13, v, w => ∃ g, v = .slice (some ⟨g, 0, none⟩) 2 2 ∧ Blk w g #[.int .i64 e1, .int .i64 0] 22
  | 14, v, w => v = .int .i64 (orE [e1, 0])
  | _, v, w => True
def mwD2M (j : Nat) : Bool := false
theorem mwD2_st {B : Nat} {r : Int} {c : Int} {e1 : Int} {w w' : World} (hb : Below w.heap.size w w') : ∀ (j : Nat) (v : Value), mwD2 B r c e1 j v w → mwD2 B r c e1 j v w'
  | 0, v, h => h
  | 1, v, h => h
  | 2, v, h => let ⟨g, e, h2⟩ := h; ⟨g, e, h2.below hb⟩
  | 3, v, h => h
  | 4, v, h => h
  | 5, v, h => h
  | 6, v, h => h
  | 7, v, h => h
  | 8, v, h => h
  | 9, v, h => h
  | 10, v, h => h
  | 11, v, h => h
  | 12, v, h => h
  | 13, v, h => let ⟨g, e, h2⟩ := h; ⟨g, e, h2.below hb h2.lt⟩
  | 14, v, h => h
  | _ + 15, v, h => h
theorem mwD2_lt {B : Nat} {r : Int} {c : Int} {e1 : Int} {w : World} (j : Nat) (v : Value) (hm : mwD2M j = true) (h : mwD2 B r c e1 j v w) : ∀ b, v.ownBlock = some b → b < w.heap.size := by
  cases hm
set_option maxRecDepth 100000 in
set_option maxHeartbeats 4000000 in
theorem markWrong_any (r c : Int) (W : World) : Calls Tryz.prog 77 #[.agg #[.int .i32 r, .int .i64 c]] W fun e w' => e = .returned (.int .i64 (maF (r, c))) ∧ Below W.heap.size W w' := by
  have hmx : Tryz.prog.follows .mixedOrders = true := by kernel_rfl
  have hB0 : Below W.heap.size W (W.alloc (.cells #[.int .i32 r, .int .i64 c] 53)).drew := ((Below.refl _ W).alloc (Nat.le_refl _) _).trans ⟨rfl, rfl, rfl, Nat.le_refl _, fun _ _ => rfl⟩
  have bA : Blk (W.alloc (.cells #[.int .i32 r, .int .i64 c] 53)).drew W.heap.size #[.int .i32 r, .int .i64 c] 53 := Blk.new W #[.int .i32 r, .int .i64 c] 53
  have HF : Hz (∀ w1, Below (W.alloc (.cells #[.int .i32 r, .int .i64 c] 53)).drew.heap.size (W.alloc (.cells #[.int .i32 r, .int .i64 c] 53)).drew w1 → Blk w1 W.heap.size #[.int .i32 r, .int .i64 c] 53) := hide (fun w1 h => bA.below h bA.lt)
  have HB := hide hB0
  clear hB0 bA
  rw [maF_cases]
  obtain ⟨e1, he1⟩ : ∃ e1 : Int, (if ([r] : List Int).all runeB then 0 else 12) = e1 := ⟨_, rfl⟩
  rw [he1]
  have HE := hide he1
  clear he1
  generalize hq : decide (c < 1 ∨ 254 < c) = q
  have hc3 : (decide (c < 1) = true ∧ decide (c < 1) = true ∧ q = true) ∨ (decide (c < 1) = false ∧ decide (254 < c) = true ∧ q = true) ∨ (decide (c < 1) = false ∧ decide (254 < c) = false ∧ q = false) := by
    subst hq
    by_cases h1 : c < 1
    · simp [h1]
    · by_cases h2 : 254 < c <;> simp [h1, h2]
  clear hq
  rcases hc3 with ⟨h1, h2, rfl⟩ | ⟨h1, h2, rfl⟩ | ⟨h1, h2, rfl⟩
  · have H1 := hide h1
    have H2 := hide h2
    clear h1 h2
    go_enter Tryz.func77, Tryz.ntmps77
    go_wp2_with fail
    generalize W.alloc (.cells #[.int .i32 r, .int .i64 c] 53) = w0 at *
    refine wp_region_inv hmx 15 (by decide) (by kernel_rfl) (by kernel_rfl) (fun l a w => ∃ U : Nat → Value, a = { tmps := #[.agg #[.int .i32 r, .int .i64 c], .pointer (some ⟨W.heap.size, 0, none⟩), .int .i64 0, U 0, U 1, U 2, U 3, U 4, U 5, U 6, U 7, U 8, U 9, U 10, U 11, U 12, U 13, U 14], defers := [] } ∧ RgJ (w0.drew) (w0.drew.heap.size) (mwD0 W.heap.size r c e1) mwD0M l U w) ⟨fun _ => undef, rfl, RgJ.start _ _ (Nat.le_refl _)⟩ ?_ ?_
    · rintro l a w i ⟨U, rfl, hJ⟩ hl hi hif
      have h0 := (mem_ready.1 hi).1
      have hlt := rg_lt hl h0
      have HJ := hide hJ
      clear hJ hl
      replace hlt : i < 16 := hlt
      obtain rfl | rfl | rfl | rfl | rfl | rfl | rfl | rfl | rfl | rfl | rfl | rfl | rfl | rfl | rfl : i = 0 ∨ i = 1 ∨ i = 2 ∨ i = 3 ∨ i = 4 ∨ i = 5 ∨ i = 6 ∨ i = 7 ∨ i = 8 ∨ i = 9 ∨ i = 10 ∨ i = 11 ∨ i = 12 ∨ i = 13 ∨ i = 14 := by omega
      · refine wpOp_step rfl (fun K hK => ?_)
        clear hlt hif
        go_simp
        exact hK _ _ ⟨slotPut U 0 _, rfl, (unhide HJ).put 0 _ h0 (Below.refl _ _) (mwD0_st (Below.refl _ _)) rfl mwD0_lt (fun h => absurd h (by decide))⟩
      · refine wpOp_step rfl (fun K hK => ?_)
        clear hlt hif
        have d0 : U 0 = .pointer (some ⟨W.heap.size, 0, none⟩) := (unhide HJ).val 0 (rg_dep hi 0 (by kernel_rfl))
        have q0 := (unhide HF w (unhide HJ).bel).cell 0
        go_simp
        exact hK _ _ ⟨slotPut U 1 _, (by rw [slotEq d0]; rfl), (unhide HJ).put 1 _ h0 (Below.refl _ _) (mwD0_st (Below.refl _ _)) rfl mwD0_lt (fun h => absurd h (by decide))⟩
      · refine wpOp_step rfl (fun K hK => ?_)
        clear hlt hif
        have d1 : U 1 = .int .i32 r := (unhide HJ).val 1 (rg_dep hi 1 (by kernel_rfl))
        go_simp
        exact hK _ _ ⟨slotPut U 2 _, (by rw [slotEq d1]; rfl), (unhide HJ).put 2 _ h0 ((Below.refl _ _).alloc (Nat.le_refl _) _) (mwD0_st ((Below.refl _ _).alloc (Nat.le_refl _) _)) ⟨_, rfl, one_rn w _ r _ rfl⟩ mwD0_lt (fun h => absurd h (by decide))⟩
      · refine wpOp_step rfl (fun K hK => ?_)
        clear hlt hif
        obtain ⟨g2, d2, h2⟩ := (unhide HJ).val 2 (rg_dep hi 2 (by kernel_rfl))
        go_simp
        refine (noRune_any [r] (by simp) _ _ _ h2).mono ?_
        rw [unhide HE]
        rintro e w' ⟨rfl, hb⟩
        exact hK _ _ ⟨slotPut U 3 _, (by rw [slotEq d2]; rfl), (unhide HJ).put 3 _ h0 hb (mwD0_st hb) rfl mwD0_lt (fun h => absurd h (by decide))⟩
      · refine wpOp_step rfl (fun K hK => ?_)
        clear hlt hif
        go_simp
        exact hK _ _ ⟨slotPut U 4 _, rfl, (unhide HJ).put 4 _ h0 (Below.refl _ _) (mwD0_st (Below.refl _ _)) rfl mwD0_lt (fun h => absurd h (by decide))⟩
      · refine wpOp_step rfl (fun K hK => ?_)
        clear hlt hif
        have d4 : U 4 = .pointer (some ⟨W.heap.size, 1, none⟩) := (unhide HJ).val 4 (rg_dep hi 4 (by kernel_rfl))
        have q1 := (unhide HF w (unhide HJ).bel).cell 1
        go_simp
        exact hK _ _ ⟨slotPut U 5 _, (by rw [slotEq d4]; rfl), (unhide HJ).put 5 _ h0 (Below.refl _ _) (mwD0_st (Below.refl _ _)) rfl mwD0_lt (fun h => absurd h (by decide))⟩
      · refine wpOp_step rfl (fun K hK => ?_)
        clear hlt hif
        have d5 : U 5 = .int .i64 c := (unhide HJ).val 5 (rg_dep hi 5 (by kernel_rfl))
        have hc1 := unhide H1
        go_simp
        exact hK _ _ ⟨slotPut U 6 _, (by rw [slotEq d5]; rfl), (unhide HJ).put 6 _ h0 (Below.refl _ _) (mwD0_st (Below.refl _ _)) rfl mwD0_lt (fun h => absurd h (by decide))⟩
      · refine wpOp_step rfl (fun K hK => ?_)
        clear hlt hif
        have d6 : U 6 = .bool true := (unhide HJ).val 6 (rg_dep hi 6 (by kernel_rfl))
        go_simp
        exact hK _ _ ⟨slotPut U 7 _, (by rw [slotEq d6]; rfl), (unhide HJ).put 7 _ h0 (Below.refl _ _) (mwD0_st (Below.refl _ _)) rfl mwD0_lt (fun h => absurd h (by decide))⟩
      · refine wpOp_step rfl (fun K hK => ?_)
        clear hlt hif
        have d7 : U 7 = .bool true := (unhide HJ).val 7 (rg_dep hi 7 (by kernel_rfl))
        go_simp
        exact hK _ _ ⟨slotPut U 8 _, (by rw [slotEq d7]; rfl), (unhide HJ).put 8 _ h0 (Below.refl _ _) (mwD0_st (Below.refl _ _)) rfl mwD0_lt (fun h => absurd h (by decide))⟩
      · refine wpOp_step rfl (fun K hK => ?_)
        clear hlt hif
        have d7 : U 7 = .bool true := (unhide HJ).val 7 (rg_dep hi 7 (by kernel_rfl))
        have d8 : U 8 = undef := (unhide HJ).val 8 (rg_dep hi 8 (by kernel_rfl))
        go_simp
        exact hK _ _ ⟨slotPut U 9 _, (by rw [slotEq d7, slotEq d8]; rfl), (unhide HJ).put 9 _ h0 (Below.refl _ _) (mwD0_st (Below.refl _ _)) rfl mwD0_lt (fun h => absurd h (by decide))⟩
      · refine wpOp_step rfl (fun K hK => ?_)
        clear hlt hif
        have d7 : U 7 = .bool true := (unhide HJ).val 7 (rg_dep hi 7 (by kernel_rfl))
        have d9 : U 9 = undef := (unhide HJ).val 9 (rg_dep hi 9 (by kernel_rfl))
        go_simp
        exact hK _ _ ⟨slotPut U 10 _, (by rw [slotEq d7, slotEq d9]; rfl), (unhide HJ).put 10 _ h0 (Below.refl _ _) (mwD0_st (Below.refl _ _)) rfl mwD0_lt (fun h => absurd h (by decide))⟩
      · refine wpOp_step rfl (fun K hK => ?_)
        clear hlt hif
        have d7 : U 7 = .bool true := (unhide HJ).val 7 (rg_dep hi 7 (by kernel_rfl))
        have d10 : U 10 = undef := (unhide HJ).val 10 (rg_dep hi 10 (by kernel_rfl))
        go_simp
        exact hK _ _ ⟨slotPut U 11 _, (by rw [slotEq d7, slotEq d10]; rfl), (unhide HJ).put 11 _ h0 (Below.refl _ _) (mwD0_st (Below.refl _ _)) rfl mwD0_lt (fun h => absurd h (by decide))⟩
      · refine wpOp_step rfl (fun K hK => ?_)
        clear hlt hif
        have d11 : U 11 = .bool true := (unhide HJ).val 11 (rg_dep hi 11 (by kernel_rfl))
        go_simp
        refine (when_any true 30 _).mono ?_
        rintro e w' ⟨rfl, rfl⟩
        exact hK _ _ ⟨slotPut U 12 _, (by rw [slotEq d11]; rfl), (unhide HJ).put 12 _ h0 (Below.refl _ _) (mwD0_st (Below.refl _ _)) rfl mwD0_lt (fun h => absurd h (by decide))⟩
      · refine wpOp_step rfl (fun K hK => ?_)
        clear hlt hif
        have d3 : U 3 = .int .i64 e1 := (unhide HJ).val 3 (rg_dep hi 3 (by kernel_rfl))
        have d12 : U 12 = .int .i64 30 := (unhide HJ).val 12 (rg_dep hi 12 (by kernel_rfl))
        go_simp
        exact hK _ _ ⟨slotPut U 13 _, (by rw [slotEq d3, slotEq d12]; rfl), (unhide HJ).put 13 _ h0 ((Below.refl _ _).alloc (Nat.le_refl _) _) (mwD0_st ((Below.refl _ _).alloc (Nat.le_refl _) _)) ⟨_, rfl, Blk.new w _ _⟩ mwD0_lt (fun h => absurd h (by decide))⟩
      · refine wpOp_step rfl (fun K hK => ?_)
        clear hlt hif
        obtain ⟨g13, d13, h13⟩ := (unhide HJ).val 13 (rg_dep hi 13 (by kernel_rfl))
        go_simp
        refine (orErrno_any [e1, 30] (by simp) _ 0 _ _ (two_blk h13)).mono ?_
        rintro e w' ⟨rfl, rfl⟩
        exact hK _ _ ⟨slotPut U 14 _, (by rw [slotEq d13]; rfl), (unhide HJ).put 14 _ h0 (Below.refl _ _) (mwD0_st (Below.refl _ _)) rfl mwD0_lt (fun h => absurd h (by decide))⟩
    · rintro l a w ⟨U, rfl, hJ⟩ hall
      have d14 : U 14 = .int .i64 (orE [e1, 30]) := hJ.val 14 (hall 14 (by decide) (by decide))
      have HBJ := hide ((unhide HB).trans (hJ.bel.mono (unhide HB).size))
      clear hJ hall
      refine wpOp_step rfl (fun K hK => ?_)
      go_simp
      refine hK _ _ ?_
      clear hK
      go_wp2_with fail
      go_ret
      exact ⟨by first | rfl | simp, unhide HBJ⟩
  · have H1 := hide h1
    have H2 := hide h2
    clear h1 h2
    go_enter Tryz.func77, Tryz.ntmps77
    go_wp2_with fail
    generalize W.alloc (.cells #[.int .i32 r, .int .i64 c] 53) = w0 at *
    refine wp_region_inv hmx 15 (by decide) (by kernel_rfl) (by kernel_rfl) (fun l a w => ∃ U : Nat → Value, a = { tmps := #[.agg #[.int .i32 r, .int .i64 c], .pointer (some ⟨W.heap.size, 0, none⟩), .int .i64 0, U 0, U 1, U 2, U 3, U 4, U 5, U 6, U 7, U 8, U 9, U 10, U 11, U 12, U 13, U 14], defers := [] } ∧ RgJ (w0.drew) (w0.drew.heap.size) (mwD1 W.heap.size r c e1) mwD1M l U w) ⟨fun _ => undef, rfl, RgJ.start _ _ (Nat.le_refl _)⟩ ?_ ?_
    · rintro l a w i ⟨U, rfl, hJ⟩ hl hi hif
      have h0 := (mem_ready.1 hi).1
      have hlt := rg_lt hl h0
      have HJ := hide hJ
      clear hJ hl
      replace hlt : i < 16 := hlt
      obtain rfl | rfl | rfl | rfl | rfl | rfl | rfl | rfl | rfl | rfl | rfl | rfl | rfl | rfl | rfl : i = 0 ∨ i = 1 ∨ i = 2 ∨ i = 3 ∨ i = 4 ∨ i = 5 ∨ i = 6 ∨ i = 7 ∨ i = 8 ∨ i = 9 ∨ i = 10 ∨ i = 11 ∨ i = 12 ∨ i = 13 ∨ i = 14 := by omega
      · refine wpOp_step rfl (fun K hK => ?_)
        clear hlt hif
        go_simp
        exact hK _ _ ⟨slotPut U 0 _, rfl, (unhide HJ).put 0 _ h0 (Below.refl _ _) (mwD1_st (Below.refl _ _)) rfl mwD1_lt (fun h => absurd h (by decide))⟩
      · refine wpOp_step rfl (fun K hK => ?_)
        clear hlt hif
        have d0 : U 0 = .pointer (some ⟨W.heap.size, 0, none⟩) := (unhide HJ).val 0 (rg_dep hi 0 (by kernel_rfl))
        have q0 := (unhide HF w (unhide HJ).bel).cell 0
        go_simp
        exact hK _ _ ⟨slotPut U 1 _, (by rw [slotEq d0]; rfl), (unhide HJ).put 1 _ h0 (Below.refl _ _) (mwD1_st (Below.refl _ _)) rfl mwD1_lt (fun h => absurd h (by decide))⟩
      · refine wpOp_step rfl (fun K hK => ?_)
        clear hlt hif
        have d1 : U 1 = .int .i32 r := (unhide HJ).val 1 (rg_dep hi 1 (by kernel_rfl))
        go_simp
        exact hK _ _ ⟨slotPut U 2 _, (by rw [slotEq d1]; rfl), (unhide HJ).put 2 _ h0 ((Below.refl _ _).alloc (Nat.le_refl _) _) (mwD1_st ((Below.refl _ _).alloc (Nat.le_refl _) _)) ⟨_, rfl, one_rn w _ r _ rfl⟩ mwD1_lt (fun h => absurd h (by decide))⟩
      · refine wpOp_step rfl (fun K hK => ?_)
        clear hlt hif
        obtain ⟨g2, d2, h2⟩ := (unhide HJ).val 2 (rg_dep hi 2 (by kernel_rfl))
        go_simp
        refine (noRune_any [r] (by simp) _ _ _ h2).mono ?_
        rw [unhide HE]
        rintro e w' ⟨rfl, hb⟩
        exact hK _ _ ⟨slotPut U 3 _, (by rw [slotEq d2]; rfl), (unhide HJ).put 3 _ h0 hb (mwD1_st hb) rfl mwD1_lt (fun h => absurd h (by decide))⟩
      · refine wpOp_step rfl (fun K hK => ?_)
        clear hlt hif
        go_simp
        exact hK _ _ ⟨slotPut U 4 _, rfl, (unhide HJ).put 4 _ h0 (Below.refl _ _) (mwD1_st (Below.refl _ _)) rfl mwD1_lt (fun h => absurd h (by decide))⟩
      · refine wpOp_step rfl (fun K hK => ?_)
        clear hlt hif
        have d4 : U 4 = .pointer (some ⟨W.heap.size, 1, none⟩) := (unhide HJ).val 4 (rg_dep hi 4 (by kernel_rfl))
        have q1 := (unhide HF w (unhide HJ).bel).cell 1
        go_simp
        exact hK _ _ ⟨slotPut U 5 _, (by rw [slotEq d4]; rfl), (unhide HJ).put 5 _ h0 (Below.refl _ _) (mwD1_st (Below.refl _ _)) rfl mwD1_lt (fun h => absurd h (by decide))⟩
      · refine wpOp_step rfl (fun K hK => ?_)
        clear hlt hif
        have d5 : U 5 = .int .i64 c := (unhide HJ).val 5 (rg_dep hi 5 (by kernel_rfl))
        have hc1 := unhide H1
        go_simp
        exact hK _ _ ⟨slotPut U 6 _, (by rw [slotEq d5]; rfl), (unhide HJ).put 6 _ h0 (Below.refl _ _) (mwD1_st (Below.refl _ _)) rfl mwD1_lt (fun h => absurd h (by decide))⟩
      · refine wpOp_step rfl (fun K hK => ?_)
        clear hlt hif
        have d6 : U 6 = .bool false := (unhide HJ).val 6 (rg_dep hi 6 (by kernel_rfl))
        go_simp
        exact hK _ _ ⟨slotPut U 7 _, (by rw [slotEq d6]; rfl), (unhide HJ).put 7 _ h0 (Below.refl _ _) (mwD1_st (Below.refl _ _)) rfl mwD1_lt (fun h => absurd h (by decide))⟩
      · refine wpOp_step rfl (fun K hK => ?_)
        clear hlt hif
        have d7 : U 7 = .bool false := (unhide HJ).val 7 (rg_dep hi 7 (by kernel_rfl))
        go_simp
        exact hK _ _ ⟨slotPut U 8 _, (by rw [slotEq d7]; rfl), (unhide HJ).put 8 _ h0 (Below.refl _ _) (mwD1_st (Below.refl _ _)) rfl mwD1_lt (fun h => absurd h (by decide))⟩
      · refine wpOp_step rfl (fun K hK => ?_)
        clear hlt hif
        have d8 : U 8 = .pointer (some ⟨W.heap.size, 1, none⟩) := (unhide HJ).val 8 (rg_dep hi 8 (by kernel_rfl))
        have d7 : U 7 = .bool false := (unhide HJ).val 7 (rg_dep hi 7 (by kernel_rfl))
        have q1 := (unhide HF w (unhide HJ).bel).cell 1
        go_simp
        exact hK _ _ ⟨slotPut U 9 _, (by rw [slotEq d8, slotEq d7]; rfl), (unhide HJ).put 9 _ h0 (Below.refl _ _) (mwD1_st (Below.refl _ _)) rfl mwD1_lt (fun h => absurd h (by decide))⟩
      · refine wpOp_step rfl (fun K hK => ?_)
        clear hlt hif
        have d9 : U 9 = .int .i64 c := (unhide HJ).val 9 (rg_dep hi 9 (by kernel_rfl))
        have d7 : U 7 = .bool false := (unhide HJ).val 7 (rg_dep hi 7 (by kernel_rfl))
        have hc2 := unhide H2
        go_simp
        exact hK _ _ ⟨slotPut U 10 _, (by rw [slotEq d9, slotEq d7]; rfl), (unhide HJ).put 10 _ h0 (Below.refl _ _) (mwD1_st (Below.refl _ _)) rfl mwD1_lt (fun h => absurd h (by decide))⟩
      · refine wpOp_step rfl (fun K hK => ?_)
        clear hlt hif
        have d7 : U 7 = .bool false := (unhide HJ).val 7 (rg_dep hi 7 (by kernel_rfl))
        have d10 : U 10 = .bool true := (unhide HJ).val 10 (rg_dep hi 10 (by kernel_rfl))
        go_simp
        exact hK _ _ ⟨slotPut U 11 _, (by rw [slotEq d7, slotEq d10]; rfl), (unhide HJ).put 11 _ h0 (Below.refl _ _) (mwD1_st (Below.refl _ _)) rfl mwD1_lt (fun h => absurd h (by decide))⟩
      · refine wpOp_step rfl (fun K hK => ?_)
        clear hlt hif
        have d11 : U 11 = .bool true := (unhide HJ).val 11 (rg_dep hi 11 (by kernel_rfl))
        go_simp
        refine (when_any true 30 _).mono ?_
        rintro e w' ⟨rfl, rfl⟩
        exact hK _ _ ⟨slotPut U 12 _, (by rw [slotEq d11]; rfl), (unhide HJ).put 12 _ h0 (Below.refl _ _) (mwD1_st (Below.refl _ _)) rfl mwD1_lt (fun h => absurd h (by decide))⟩
      · refine wpOp_step rfl (fun K hK => ?_)
        clear hlt hif
        have d3 : U 3 = .int .i64 e1 := (unhide HJ).val 3 (rg_dep hi 3 (by kernel_rfl))
        have d12 : U 12 = .int .i64 30 := (unhide HJ).val 12 (rg_dep hi 12 (by kernel_rfl))
        go_simp
        exact hK _ _ ⟨slotPut U 13 _, (by rw [slotEq d3, slotEq d12]; rfl), (unhide HJ).put 13 _ h0 ((Below.refl _ _).alloc (Nat.le_refl _) _) (mwD1_st ((Below.refl _ _).alloc (Nat.le_refl _) _)) ⟨_, rfl, Blk.new w _ _⟩ mwD1_lt (fun h => absurd h (by decide))⟩
      · refine wpOp_step rfl (fun K hK => ?_)
        clear hlt hif
        obtain ⟨g13, d13, h13⟩ := (unhide HJ).val 13 (rg_dep hi 13 (by kernel_rfl))
        go_simp
        refine (orErrno_any [e1, 30] (by simp) _ 0 _ _ (two_blk h13)).mono ?_
        rintro e w' ⟨rfl, rfl⟩
        exact hK _ _ ⟨slotPut U 14 _, (by rw [slotEq d13]; rfl), (unhide HJ).put 14 _ h0 (Below.refl _ _) (mwD1_st (Below.refl _ _)) rfl mwD1_lt (fun h => absurd h (by decide))⟩
    · rintro l a w ⟨U, rfl, hJ⟩ hall
      have d14 : U 14 = .int .i64 (orE [e1, 30]) := hJ.val 14 (hall 14 (by decide) (by decide))
      have HBJ := hide ((unhide HB).trans (hJ.bel.mono (unhide HB).size))
      clear hJ hall
      refine wpOp_step rfl (fun K hK => ?_)
      go_simp
      refine hK _ _ ?_
      clear hK
      go_wp2_with fail
      go_ret
      exact ⟨by first | rfl | simp, unhide HBJ⟩
  · have H1 := hide h1
    have H2 := hide h2
    clear h1 h2
    go_enter Tryz.func77, Tryz.ntmps77
    go_wp2_with fail
    generalize W.alloc (.cells #[.int .i32 r, .int .i64 c] 53) = w0 at *
    refine wp_region_inv hmx 15 (by decide) (by kernel_rfl) (by kernel_rfl) (fun l a w => ∃ U : Nat → Value, a = { tmps := #[.agg #[.int .i32 r, .int .i64 c], .pointer (some ⟨W.heap.size, 0, none⟩), .int .i64 0, U 0, U 1, U 2, U 3, U 4, U 5, U 6, U 7, U 8, U 9, U 10, U 11, U 12, U 13, U 14], defers := [] } ∧ RgJ (w0.drew) (w0.drew.heap.size) (mwD2 W.heap.size r c e1) mwD2M l U w) ⟨fun _ => undef, rfl, RgJ.start _ _ (Nat.le_refl _)⟩ ?_ ?_
    · rintro l a w i ⟨U, rfl, hJ⟩ hl hi hif
      have h0 := (mem_ready.1 hi).1
      have hlt := rg_lt hl h0
      have HJ := hide hJ
      clear hJ hl
      replace hlt : i < 16 := hlt
      obtain rfl | rfl | rfl | rfl | rfl | rfl | rfl | rfl | rfl | rfl | rfl | rfl | rfl | rfl | rfl : i = 0 ∨ i = 1 ∨ i = 2 ∨ i = 3 ∨ i = 4 ∨ i = 5 ∨ i = 6 ∨ i = 7 ∨ i = 8 ∨ i = 9 ∨ i = 10 ∨ i = 11 ∨ i = 12 ∨ i = 13 ∨ i = 14 := by omega
      · refine wpOp_step rfl (fun K hK => ?_)
        clear hlt hif
        go_simp
        exact hK _ _ ⟨slotPut U 0 _, rfl, (unhide HJ).put 0 _ h0 (Below.refl _ _) (mwD2_st (Below.refl _ _)) rfl mwD2_lt (fun h => absurd h (by decide))⟩
      · refine wpOp_step rfl (fun K hK => ?_)
        clear hlt hif
        have d0 : U 0 = .pointer (some ⟨W.heap.size, 0, none⟩) := (unhide HJ).val 0 (rg_dep hi 0 (by kernel_rfl))
        have q0 := (unhide HF w (unhide HJ).bel).cell 0
        go_simp
        exact hK _ _ ⟨slotPut U 1 _, (by rw [slotEq d0]; rfl), (unhide HJ).put 1 _ h0 (Below.refl _ _) (mwD2_st (Below.refl _ _)) rfl mwD2_lt (fun h => absurd h (by decide))⟩
      · refine wpOp_step rfl (fun K hK => ?_)
        clear hlt hif
        have d1 : U 1 = .int .i32 r := (unhide HJ).val 1 (rg_dep hi 1 (by kernel_rfl))
        go_simp
        exact hK _ _ ⟨slotPut U 2 _, (by rw [slotEq d1]; rfl), (unhide HJ).put 2 _ h0 ((Below.refl _ _).alloc (Nat.le_refl _) _) (mwD2_st ((Below.refl _ _).alloc (Nat.le_refl _) _)) ⟨_, rfl, one_rn w _ r _ rfl⟩ mwD2_lt (fun h => absurd h (by decide))⟩
      · refine wpOp_step rfl (fun K hK => ?_)
        clear hlt hif
        obtain ⟨g2, d2, h2⟩ := (unhide HJ).val 2 (rg_dep hi 2 (by kernel_rfl))
        go_simp
        refine (noRune_any [r] (by simp) _ _ _ h2).mono ?_
        rw [unhide HE]
        rintro e w' ⟨rfl, hb⟩
        exact hK _ _ ⟨slotPut U 3 _, (by rw [slotEq d2]; rfl), (unhide HJ).put 3 _ h0 hb (mwD2_st hb) rfl mwD2_lt (fun h => absurd h (by decide))⟩
      · refine wpOp_step rfl (fun K hK => ?_)
        clear hlt hif
        go_simp
        exact hK _ _ ⟨slotPut U 4 _, rfl, (unhide HJ).put 4 _ h0 (Below.refl _ _) (mwD2_st (Below.refl _ _)) rfl mwD2_lt (fun h => absurd h (by decide))⟩
      · refine wpOp_step rfl (fun K hK => ?_)
        clear hlt hif
        have d4 : U 4 = .pointer (some ⟨W.heap.size, 1, none⟩) := (unhide HJ).val 4 (rg_dep hi 4 (by kernel_rfl))
        have q1 := (unhide HF w (unhide HJ).bel).cell 1
        go_simp
        exact hK _ _ ⟨slotPut U 5 _, (by rw [slotEq d4]; rfl), (unhide HJ).put 5 _ h0 (Below.refl _ _) (mwD2_st (Below.refl _ _)) rfl mwD2_lt (fun h => absurd h (by decide))⟩
      · refine wpOp_step rfl (fun K hK => ?_)
        clear hlt hif
        have d5 : U 5 = .int .i64 c := (unhide HJ).val 5 (rg_dep hi 5 (by kernel_rfl))
        have hc1 := unhide H1
        go_simp
        exact hK _ _ ⟨slotPut U 6 _, (by rw [slotEq d5]; rfl), (unhide HJ).put 6 _ h0 (Below.refl _ _) (mwD2_st (Below.refl _ _)) rfl mwD2_lt (fun h => absurd h (by decide))⟩
      · refine wpOp_step rfl (fun K hK => ?_)
        clear hlt hif
        have d6 : U 6 = .bool false := (unhide HJ).val 6 (rg_dep hi 6 (by kernel_rfl))
        go_simp
        exact hK _ _ ⟨slotPut U 7 _, (by rw [slotEq d6]; rfl), (unhide HJ).put 7 _ h0 (Below.refl _ _) (mwD2_st (Below.refl _ _)) rfl mwD2_lt (fun h => absurd h (by decide))⟩
      · refine wpOp_step rfl (fun K hK => ?_)
        clear hlt hif
        have d7 : U 7 = .bool false := (unhide HJ).val 7 (rg_dep hi 7 (by kernel_rfl))
        go_simp
        exact hK _ _ ⟨slotPut U 8 _, (by rw [slotEq d7]; rfl), (unhide HJ).put 8 _ h0 (Below.refl _ _) (mwD2_st (Below.refl _ _)) rfl mwD2_lt (fun h => absurd h (by decide))⟩
      · refine wpOp_step rfl (fun K hK => ?_)
        clear hlt hif
        have d8 : U 8 = .pointer (some ⟨W.heap.size, 1, none⟩) := (unhide HJ).val 8 (rg_dep hi 8 (by kernel_rfl))
        have d7 : U 7 = .bool false := (unhide HJ).val 7 (rg_dep hi 7 (by kernel_rfl))
        have q1 := (unhide HF w (unhide HJ).bel).cell 1
        go_simp
        exact hK _ _ ⟨slotPut U 9 _, (by rw [slotEq d8, slotEq d7]; rfl), (unhide HJ).put 9 _ h0 (Below.refl _ _) (mwD2_st (Below.refl _ _)) rfl mwD2_lt (fun h => absurd h (by decide))⟩
      · refine wpOp_step rfl (fun K hK => ?_)
        clear hlt hif
        have d9 : U 9 = .int .i64 c := (unhide HJ).val 9 (rg_dep hi 9 (by kernel_rfl))
        have d7 : U 7 = .bool false := (unhide HJ).val 7 (rg_dep hi 7 (by kernel_rfl))
        have hc2 := unhide H2
        go_simp
        exact hK _ _ ⟨slotPut U 10 _, (by rw [slotEq d9, slotEq d7]; rfl), (unhide HJ).put 10 _ h0 (Below.refl _ _) (mwD2_st (Below.refl _ _)) rfl mwD2_lt (fun h => absurd h (by decide))⟩
      · refine wpOp_step rfl (fun K hK => ?_)
        clear hlt hif
        have d7 : U 7 = .bool false := (unhide HJ).val 7 (rg_dep hi 7 (by kernel_rfl))
        have d10 : U 10 = .bool false := (unhide HJ).val 10 (rg_dep hi 10 (by kernel_rfl))
        go_simp
        exact hK _ _ ⟨slotPut U 11 _, (by rw [slotEq d7, slotEq d10]; rfl), (unhide HJ).put 11 _ h0 (Below.refl _ _) (mwD2_st (Below.refl _ _)) rfl mwD2_lt (fun h => absurd h (by decide))⟩
      · refine wpOp_step rfl (fun K hK => ?_)
        clear hlt hif
        have d11 : U 11 = .bool false := (unhide HJ).val 11 (rg_dep hi 11 (by kernel_rfl))
        go_simp
        refine (when_any false 30 _).mono ?_
        rintro e w' ⟨rfl, rfl⟩
        exact hK _ _ ⟨slotPut U 12 _, (by rw [slotEq d11]; rfl), (unhide HJ).put 12 _ h0 (Below.refl _ _) (mwD2_st (Below.refl _ _)) rfl mwD2_lt (fun h => absurd h (by decide))⟩
      · refine wpOp_step rfl (fun K hK => ?_)
        clear hlt hif
        have d3 : U 3 = .int .i64 e1 := (unhide HJ).val 3 (rg_dep hi 3 (by kernel_rfl))
        have d12 : U 12 = .int .i64 0 := (unhide HJ).val 12 (rg_dep hi 12 (by kernel_rfl))
        go_simp
        exact hK _ _ ⟨slotPut U 13 _, (by rw [slotEq d3, slotEq d12]; rfl), (unhide HJ).put 13 _ h0 ((Below.refl _ _).alloc (Nat.le_refl _) _) (mwD2_st ((Below.refl _ _).alloc (Nat.le_refl _) _)) ⟨_, rfl, Blk.new w _ _⟩ mwD2_lt (fun h => absurd h (by decide))⟩
      · refine wpOp_step rfl (fun K hK => ?_)
        clear hlt hif
        obtain ⟨g13, d13, h13⟩ := (unhide HJ).val 13 (rg_dep hi 13 (by kernel_rfl))
        go_simp
        refine (orErrno_any [e1, 0] (by simp) _ 0 _ _ (two_blk h13)).mono ?_
        rintro e w' ⟨rfl, rfl⟩
        exact hK _ _ ⟨slotPut U 14 _, (by rw [slotEq d13]; rfl), (unhide HJ).put 14 _ h0 (Below.refl _ _) (mwD2_st (Below.refl _ _)) rfl mwD2_lt (fun h => absurd h (by decide))⟩
    · rintro l a w ⟨U, rfl, hJ⟩ hall
      have d14 : U 14 = .int .i64 (orE [e1, 0]) := hJ.val 14 (hall 14 (by decide) (by decide))
      have HBJ := hide ((unhide HB).trans (hJ.bel.mono (unhide HB).size))
      clear hJ hall
      refine wpOp_step rfl (fun K hK => ?_)
      go_simp
      refine hK _ _ ?_
      clear hK
      go_wp2_with fail
      go_ret
      exact ⟨by first | rfl | simp, unhide HBJ⟩
end Go.Proofs.YtnnbaodillnkkaaGreat
namespace Go.Proofs.YtnnbaodillnkkaaGreat
open Go.RowKit Go.Shelf
attribute [local go_sem] Oper.semAt_some
set_option linter.unusedVariables false
theorem toB_bad {s : ByteArray} {x : Nat} (hx : x ∈ starts s) (hb : badB s x = true) : toB s = false := by
  unfold toB
  rw [Bool.and_eq_false_iff]
  left
  cases h : okU s with
  | false => rfl
  | true => rw [okU_iff.1 h x hx] at hb; cases hb
theorem toB_long {s : ByteArray} (h : 4 < (starts s).length) : toB s = false := by
  unfold toB
  rw [Bool.and_eq_false_iff]
  right
  rw [runesL_length]
  simp
  omega
theorem toB_all {s : ByteArray} (h : ∀ p ∈ starts s, badB s p = false) (hl : (starts s).length ≤ 4) : toB s = decide (0 < (starts s).length) := by
  unfold toB
  rw [okU_iff.2 h, runesL_length, Bool.true_and]
  by_cases h0 : 0 < (starts s).length
  · rw [decide_eq_true h0, decide_eq_true ⟨h0, hl⟩]
  · rw [decide_eq_false h0, decide_eq_false (fun q => h0 q.1)]
set_option maxRecDepth 100000 in
set_option maxHeartbeats 4000000 in
theorem isTo_in (n : Nat) (hn : 3 ≤ n) (s : ByteArray) (hs : s.size ≤ maxLen) (w : World) :
    CallsIn Fence.wide n Tryz.prog 141 #[.string s] w fun e W' => e = .returned (.bool (toB s)) ∧ Below w.heap.size w W' := by
  have h1 : 1 ≤ n := by omega
  refine callsIn_of_wp_marks Tryz.func141 rfl trivial ?_ rfl
  simp only [Tryz.ntmps141, List.size_toArray, List.length_cons, List.length_nil, Nat.reduceAdd, Nat.reduceSub, Array.replicate_succ, Array.replicate_zero, List.push_toArray, List.append_toArray, List.nil_append, List.cons_append]
  gi_wp2_with (refine ⟨trivial, ?_⟩; gi_at_call 170; refine (callsIn_wide.2 (spots_any _ _)).mono ?_; rintro e w' ⟨rfl, rfl⟩)
  have hb3 := ((Blk.new w #[.bool false] 4).alloc (.cells #[.int .i64 0] 3)).alloc (.cells #[.string s] 9)
  have hb4 := (Blk.new (w.alloc (.cells #[.bool false] 4)) #[.int .i64 0] 3).alloc (.cells #[.string s] 9)
  have hbS := Blk.new ((w.alloc (.cells #[.bool false] 4)).alloc (.cells #[.int .i64 0] 3)) #[.string s] 9
  simp only [World.size_alloc] at hb4 hbS
  have hB0 : Below w.heap.size w (((w.alloc (.cells #[.bool false] 4)).alloc (.cells #[.int .i64 0] 3)).alloc (.cells #[.string s] 9)) := (((Below.refl _ w).alloc (Nat.le_refl _) _).alloc (by simp) _).alloc (by simp; omega) _
  have hsz : (((w.alloc (.cells #[.bool false] 4)).alloc (.cells #[.int .i64 0] 3)).alloc (.cells #[.string s] 9)).heap.size = w.heap.size + 3 := by simp
  obtain ⟨W0, hW0⟩ : ∃ W0, ((w.alloc (.cells #[.bool false] 4)).alloc (.cells #[.int .i64 0] 3)).alloc (.cells #[.string s] 9) = W0 := ⟨_, rfl⟩
  rw [hW0] at hb3 hb4 hbS hB0 hsz ⊢
  clear hW0
  refine wpIn_rangeFunc_ownH rfl h1 (gf := 179) (lb := #[.pointer (some ⟨w.heap.size + 1 + 1, 0, none⟩)]) rfl trivial (enters_of Tryz.func179 (by kernel_rfl) rfl)
    (spots_stops (n - 1) (w.heap.size + 1 + 1) (by omega) s hs W0 (hbS.cell 0)) KpS_t (KpS_b (by omega)) (Below.refl _ _) (fun _ => rfl)
    (fun pre W => (Hz ((∀ i ∈ pre, badB s i = false) ∧ pre.length ≤ 4) ∧ Blk W w.heap.size #[.bool false] 4 ∧ Blk W (w.heap.size + 1) #[.int .i64 pre.length] 3 ∧ Blk W (w.heap.size + 1 + 1) #[.string s] 9) ∧ Below w.heap.size w W)
    (fun c pre W => (c = .ret ∧ (∃ (q : List Nat) (x : Nat), pre = q ++ [x] ∧ (badB s x = true ∨ 4 < q.length + 1)) ∧ Blk W w.heap.size #[.bool false] 4) ∧ Below w.heap.size w W)
    (OwnFrom.and (Own.from (fun s A B row hs hg hr => ⟨hs.1, Blk.own _ (fun _ => _) _ () A B row hs.2.1 hg hr, Blk.own _ (fun _ => _) _ () A B row hs.2.2.1 hg hr, Blk.own _ (fun _ => _) _ () A B row hs.2.2.2 hg hr⟩) _) (ownFrom_below (Nat.le_refl _) (by omega)))
    (fun c => OwnFrom.and (Own.from (fun s A B row hs hg hr => ⟨hs.1, hs.2.1, Blk.own _ (fun _ => _) _ () A B row hs.2.2 hg hr⟩) _) (ownFrom_below (Nat.le_refl _) (by omega)))
    ⟨⟨hide ⟨fun i hi => (by cases hi), by simp⟩, hb3, hb4, hbS⟩, hB0⟩
    (fun x a' W => ∃ Bx, w.heap.size + 1 + 1 < Bx ∧ Blk W Bx (spotCells (spotV s x)) 194 ∧ a' = { tmps := #[.string s, undef, .pointer (some ⟨w.heap.size, 0, none⟩), .pointer (some ⟨w.heap.size + 1, 0, none⟩), undef, .pointer (some ⟨Bx, 0, none⟩), .string s, .func (.func 179) #[] #[.pointer (some ⟨w.heap.size + 1 + 1, 0, none⟩)], .int .i64 x, encSpot (spotV s x), undef, undef, undef, undef, undef, undef, undef, undef, undef, undef], defers := [] })
    (fun x a' => Own.from (fun u A B row hs hg hr => by
      obtain ⟨Bx, h1, h2, h3⟩ := hs
      exact ⟨Bx, h1, Blk.own _ (fun _ => _) _ () A B row h2 hg hr, h3⟩) _)
    ?assign ?body ?done ?stop
  case assign =>
    rintro l pre x W K ⟨⟨hp, k3, k4, kS⟩, hB⟩ hK
    gi_wp2
    exact hK _ _ ((KeepsOthers.alloc _ _).from _) ⟨(kS.alloc _).cell 0 |>.trans (kS.cell 0).symm, KeepsWalks.alloc _ _⟩ ⟨⟨hp, k3.alloc _, k4.alloc _, kS.alloc _⟩, hB.alloc hB.size _⟩ ⟨W.heap.size, kS.lt, Blk.new W _ 194, rfl⟩
  case body =>
    rintro l pre x a' W hl ⟨r, hr⟩ ⟨⟨hp, k3, k4, kS⟩, hB⟩ ⟨Bx, hBx, bX, rfl⟩ hlt
    have x2 : W.cell? ⟨Bx, 2, none⟩ = some (.bool (badB s x)) := bX.cell 2
    have x2s : ∀ v, (W.setCell ⟨w.heap.size + 1, 0, none⟩ v).cell? ⟨Bx, 2, none⟩ = some (.bool (badB s x)) := fun v => (bX.other (by omega) v).cell 2
    have c3 := k3.cell 0
    have c4 := k4.cell 0
    have f3 := k3.frozen
    have f4 := k4.frozen
    have hpl := (unhide hp).2
    cases hbx : badB s x with
    | true =>
      rw [hbx] at x2 x2s
      have HBX := hide hbx
      clear hbx
      gi_wp2
      refine ⟨((KeepsOthers.setCell _ _ _).trans (KeepsOthers.setCell _ _ _)).from _, ⟨rfl, ⟨pre, x, rfl, .inl (unhide HBX)⟩, ?_⟩, ?_⟩
      · exact (k3.other (by omega) _).set 0 _
      · exact (hB.setCell (p := ⟨w.heap.size + 1, 0, none⟩) (by simp) _).setCell (p := ⟨w.heap.size, 0, none⟩) (Nat.le_refl _) _
    | false =>
      rw [hbx] at x2 x2s
      have HBX := hide hbx
      clear hbx
      by_cases h4 : pre.length < 4
      · have h4' : ¬ (4 : Int) < (pre.length : Int) + 1 := by omega
        gi_wp2
        refine ⟨(KeepsOthers.setCell _ _ _).from _, ⟨((kS.other (by omega) _).cell 0).trans (kS.cell 0).symm, (KeepsOthers.setCell _ _ _).walks⟩, ⟨hide ⟨fun i hi => ?_, ?_⟩, k3.other (by omega) _, ?_, kS.other (by omega) _⟩, hB.setCell (p := ⟨w.heap.size + 1, 0, none⟩) (by simp) _⟩
        · rcases List.mem_append.1 hi with h | h
          · exact (unhide hp).1 i h
          · simp at h; rw [h]; exact unhide HBX
        · rw [List.length_append]; simp; omega
        · rw [show (((pre ++ [x]).length : Nat) : Int) = (pre.length : Int) + 1 by simp]
          exact k4.set 0 _
      · have h4' : (4 : Int) < (pre.length : Int) + 1 := by omega
        gi_wp2
        refine ⟨((KeepsOthers.setCell _ _ _).trans (KeepsOthers.setCell _ _ _)).from _, ⟨rfl, ⟨pre, x, rfl, .inr (by omega)⟩, ?_⟩, ?_⟩
        · exact (k3.other (by omega) _).set 0 _
        · exact (hB.setCell (p := ⟨w.heap.size + 1, 0, none⟩) (by simp) _).setCell (p := ⟨w.heap.size, 0, none⟩) (Nat.le_refl _) _
  case done =>
    rintro D ys W hD hys ⟨⟨hne, k3, k4, _⟩, hB⟩ hK
    have hv : toB s = decide (0 < ys.length) := by
      rw [hys]
      exact toB_all (by rw [← hys]; exact (unhide hne).1) (by rw [← hys]; exact (unhide hne).2)
    have HV := hide hv
    have c3 := k3.cell 0
    have c4 := k4.cell 0
    have f3 := k3.frozen
    have hpl := (unhide hne).2
    clear hys hne hv
    have hdd : decide ((0 : Int) < (ys.length : Int)) = decide (0 < ys.length) := by simp
    gi_wp2
    rw [hdd] at *
    have hK' := (KeepsOthers.setCell W ⟨w.heap.size, 0, none⟩ (.bool (decide (0 < ys.length)))).same D _ hK rfl
    have k3' := k3.set 0 (.bool (decide (0 < ys.length)))
    have hB' := hB.setCell (p := ⟨w.heap.size, 0, none⟩) (Nat.le_refl _) (.bool (decide (0 < ys.length)))
    clear hK k3 hB c3 f3
    refine ⟨by simp, .inl ⟨_, _, rfl, run_takeDeferred hK', ?_⟩⟩
    have q3 := k3'.put (.deferred Option.none) hK' rfl
    have c3 := q3.cell 0
    refine ⟨.bool (decide (0 < ys.length)), ?_, by rw [unhide HV], hB'.trans (belowK_b (w := w) (Nat.le_refl _) _ D _ _ (by omega) hK' rfl rfl)⟩
    simp [results, Tryz.f141, go_sem, c3]
  case stop =>
    rintro D c pre W hD hpre ⟨⟨rfl, ⟨q, x, rfl, hbx⟩, k3⟩, hB⟩ hK
    obtain ⟨r, hr⟩ := hpre
    have hv : toB s = false := by
      rcases hbx with hbx | hbx
      · exact toB_bad (by rw [← hr]; simp) hbx
      · exact toB_long (by rw [← hr]; simp; omega)
    have HV := hide hv
    clear hv hr hbx
    gi_wp2
    refine ⟨by simp, .inl ⟨_, _, rfl, run_takeDeferred hK, ?_⟩⟩
    have q3 := k3.put (.deferred Option.none) hK rfl
    have c3 := q3.cell 0
    refine ⟨.bool false, ?_, by rw [unhide HV], hB.trans (belowK_b (w := w) (Nat.le_refl _) W D _ _ (by omega) hK rfl rfl)⟩
    simp [results, Tryz.f141, go_sem, c3]
theorem isTo_any (s : ByteArray) (hs : s.size ≤ maxLen) (w : World) : Calls Tryz.prog 141 #[.string s] w fun e W' => e = .returned (.bool (toB s)) ∧ Below w.heap.size w W' :=
  callsIn_wide.1 (isTo_in 3 (by omega) s hs w)
end Go.Proofs.YtnnbaodillnkkaaGreat
