/- lay of one span more that touches none: on any set that is being made. -/
import Derived.Test.YtnphbjhikapoeaaSetLayAny
namespace Go.Proofs.Ytnphbjhikapoeaa
open Go.RowKit Go.Shelf
set_option linter.unusedVariables false
theorem ahs_add (zs : List (Int × Int)) (x : Int × Int) : ahs zs ++ [.int .i64 (total zs)] = ahs (zs ++ [x]) := (ahs_snoc zs x).symm
set_option maxRecDepth 100000 in
set_option maxHeartbeats 8000000 in
theorem lay_apart (B lo0 : Nat) (ys : List (Int × Int)) (y x : Int × Int) (hn : ys.length ≤ 1000000) (hS : Spread (ys ++ [y])) (hx : endsB x = true) (ht : ¬ rankOf x.1 ≤ rankOf y.2 + 1) (w : World) (hm : Made w B lo0 (ys ++ [y])) (hl : lo0 ≤ w.heap.size) :
    Calls Try.prog 57 #[.pointer (some ⟨B, 0, none⟩), spanV x] w fun e w' => (∃ r, e = .returned r) ∧ Made w' B lo0 (layL (ys ++ [y]) x) ∧ Below lo0 w w' ∧ Frame w w' B := by
  rw [layL_apart _ _ _ ht]
  obtain ⟨va, vb, h1, h2, h3⟩ := hm.form
  have hlo := hm.lo
  have hy := (hS.ends y (by simp)).1
  obtain ⟨zs, hzs⟩ : ∃ zs, zs = ys ++ [y] := ⟨_, rfl⟩
  have hzl : zs.length = ys.length + 1 := by rw [hzs]; simp
  obtain ⟨b, cb, rfl, _, _⟩ := own_rowA h3
  obtain ⟨g, ca, rfl, hg0, hg⟩ := h2.form (by simp)
  have hex := endsB_iff hx
  have hey := endsB_iff hy
  have r1 := rank_range hex.1.1 hex.1.2.1
  have r2 := rank_range hey.2.1 hey.2.2.1
  obtain ⟨lo, hi⟩ := x
  obtain ⟨y0, y1⟩ := y
  simp only at ht hex hey r1 r2
  have k1 := h2.cellAt (ys.length * 2 + 1) (by simp; omega)
  rw [(encP_at (ys ++ [(y0, y1)]) ys.length (y0, y1) (by simp)).2] at k1
  rw [← hzs] at h1 h2 h3 hm hS ⊢
  obtain ⟨iI, hi0, hi1, hi2, hi3⟩ := info_parts infoI
  have HI := hide (And.intro hi0 (And.intro hi1 (And.intro hi2 hi3)))
  obtain ⟨iP, hi0, hi1, hi2, hi3⟩ := info_parts infoP
  have HP := hide (And.intro hi0 (And.intro hi1 (And.intro hi2 hi3)))
  clear hi0 hi1 hi2 hi3
  have HX := hide (Blk.new w #[.int .i32 lo, .int .i32 hi] 63)
  have HBm := hide ((Below.refl w.heap.size w).alloc (Nat.le_refl _) (.cells #[.int .i32 lo, .int .i32 hi] 63))
  have HB := hide (h1.alloc (.cells #[.int .i32 lo, .int .i32 hi] 63))
  have HA := hide (h2.alloc (.cells #[.int .i32 lo, .int .i32 hi] 63))
  have HV := hide (h3.alloc (.cells #[.int .i32 lo, .int .i32 hi] 63))
  have HS := hide (fun (k : Nat) => (show Made ((w.alloc (.cells #[.int .i32 lo, .int .i32 hi] 63)).drewN k) B lo0 zs from ⟨⟨_, _, unhide HB, unhide HA, unhide HV⟩, hlo⟩).set hS (by omega))
  have HB0 := hide h1
  have HNE : Hid (w.heap.size ≠ B) := hide (fun e => by have := h1.lt; omega)
  have c0 := (unhide HB).cell 0
  have c1 := alloc_cell (.cells #[.int .i32 lo, .int .i32 hi] 63) k1
  have q0 := (unhide HX).cell 0
  rw [hzl] at c0
  have HZL := hide hzl
  have HTB := hide (total_bound hS.ends)
  generalize ys.length = m at *
  have hm1 : ((m + 1 : Nat) : Int) - 1 = (m : Int) := by omega
  have hm2 : ((m : Nat) : Int).toNat = m := by omega
  have hlo2 : 0 ≤ lo ∧ lo ≤ 1114111 := ⟨hex.1.1, hex.1.2.1⟩
  have hhi2 : 0 ≤ y1 ∧ y1 ≤ 1114111 := ⟨hey.2.1, hey.2.2.1⟩
  clear h1 h2 h3 hm k1 hex hey hS hy hx hzs hzl
  go_enter Try.func57, Try.ntmps57
  go_wp2
  go_quiet ((go_at_call 59; exact Calls.quiet_of_same (rank_any _ (by omega) (by omega) _)))
  go_wp2
  have HBd : Hid (Blk ((w.alloc (.cells #[.int .i32 lo, .int .i32 hi] 63)).drewN nq).drew B _ 105) := hide (unhide HB)
  have HXd : Hid (Blk ((w.alloc (.cells #[.int .i32 lo, .int .i32 hi] 63)).drewN nq).drew w.heap.size #[.int .i32 lo, .int .i32 hi] 63) := hide (unhide HX)
  have HAd : Hid (((w.alloc (.cells #[.int .i32 lo, .int .i32 hi] 63)).drewN nq).drew.ownsRow lo0 63 2 _ _ _) := hide (unhide HA)
  have HVd : Hid (((w.alloc (.cells #[.int .i32 lo, .int .i32 hi] 63)).drewN nq).drew.ownsRow lo0 3 1 _ _ _) := hide (unhide HV)
  have HSd : Hid (SetAt ((w.alloc (.cells #[.int .i32 lo, .int .i32 hi] 63)).drewN nq).drew B zs) := hide (unhide HS (nq + 1))
  have HBmd : Hid (Below w.heap.size w ((w.alloc (.cells #[.int .i32 lo, .int .i32 hi] 63)).drewN nq).drew) := hide (below_drewN (unhide HBm) nq).drew
  clear HB HX HA HV HS HBm c0 c1 q0
  generalize (w.alloc (.cells #[.int .i32 lo, .int .i32 hi] 63)).drewN nq = wm at *
  have c0 := (show Blk wm B _ 105 from unhide HBd).cell 0
  have c1 := (show Blk wm B _ 105 from unhide HBd).cell 1
  have HS := hide (size_any B zs wm.drew (unhide HSd))
  have HLm : Hid (lo0 ≤ wm.drew.heap.size) := hide (Nat.le_trans hl (unhide HBmd).size)
  have hmx2 : Try.prog.follows .mixedOrders = true := by kernel_rfl
  go_region_law (first
    | (go_simp; refine (unhide HS).mono ?_; rintro e w2 ⟨rfl, hb⟩; have b2 := (unhide HBd).below hb (unhide HBd).lt; have d0 := b2.cell 0; have d1 := b2.cell 1; have d3 := (b2.alloc (.cells #[.int .i64 (total zs)] 3)).cell 1)
    | (refine step_append_lies _ (by rfl) _ _ _ (by rfl) lo0 3 iI (.int .i64 0) 1 8 Try.underlying85 (unhide HI).1 (unhide HI).2.1 (unhide HI).2.2.1 (unhide HI).2.2.2 rfl (by omega) (.slice b zs.length cb) zs.length (ahs zs) (by rfl) ((own_below (unhide HVd) hb).alloc _) ⟨w2.heap.size, 0, none⟩ 1 1 [.int .i64 (total zs)] (by rfl) (by simp) (one_cell w2 _) (by simp [Value.oneCell']) (by omega) (by have := unhide HZL; unfold maxLen; omega) (by have := unhide HZL; omega) (by have := hb.size; have := unhide HLm; simp; omega) (w2.heap.size + 1) (by simp) ?_; intro g1 cap1 w3 hown1 hgrow1 hat1 hlt1; have hm := mid_any (unhide HBd) (unhide HXd) (unhide HAd) (unhide HVd) hb hgrow1; have e0 := hm.1.cell 0; have e1 := hm.1.cell 1; have e2 := hm.1.frozen 1))
  all_goals
    obtain ⟨w4, h4, hb4, hx4, ho4, ha4, hB4, hF4⟩ := fst_end' (unhide HBd) (unhide HXd) (unhide HAd) (unhide HVd) (unhide HBmd) hb hgrow1 hlo hl (unhide HNE) hown1
    rw [← h4]
    rw [ahs_add zs (lo, hi)] at ho4
    have HB4 := hide hb4
    have HX4 := hide hx4
    have HO4 := hide ho4
    have HA4 := hide ha4
    have HL4 := hide hB4
    have HF4 := hide hF4
    have p0 := hb4.cell 0
    have p1 := (hb4.alloc (.cells #[.int .i32 lo, .int .i32 hi] 63)).cell 0
    have x0 := hx4.cell 0
    have x1 := hx4.cell 1
    clear h4 hb4 hx4 ho4 hB4 hF4 ha4 hown1 hgrow1 hat1 hlt1 hm e0 e1 e2 b2 d0 d1 d3 hb HS HBd HXd HAd HVd HSd HLm HBmd c0 c1
    go_wp2
    go_region_law (first
      | (refine step_append_lies _ (by rfl) _ _ _ (by rfl) lo0 63 iP (.agg #[.int .i32 0, .int .i32 0]) 2 8 Try.underlying65 (unhide HP).1 (unhide HP).2.1 (unhide HP).2.2.1 (unhide HP).2.2.2 rfl (by omega) (.slice (some ⟨g, 0, none⟩) zs.length ca) zs.length (encP zs) (by rfl) ((unhide HA4).alloc _) ⟨w4.heap.size, 0, none⟩ 1 1 (encP [(lo, hi)]) (by rfl) (by simp [encP]) (two_cell w4 (lo, hi)) (encP_one _) (by omega) (by have := unhide HZL; unfold maxLen; omega) (by have := unhide HZL; omega) (by have := (unhide HL4).size; simp; omega) (w4.heap.size + 1) (by simp) ?_; intro g5 cap5 w5 hown5 hgrow5 hat5 hlt5; have hm5 := (show Blk (w4.alloc (.cells #[.int .i32 lo, .int .i32 hi] 63)).drew B _ 105 from (unhide HB4).alloc (.cells #[.int .i32 lo, .int .i32 hi] 63)).kept hgrow5 (own_ne (show (w4.alloc (.cells #[.int .i32 lo, .int .i32 hi] 63)).drew.ownsRow lo0 63 2 _ _ _ from (unhide HA4).alloc (.cells #[.int .i32 lo, .int .i32 hi] 63)) (show Blk (w4.alloc (.cells #[.int .i32 lo, .int .i32 hi] 63)).drew B _ 105 from (unhide HB4).alloc (.cells #[.int .i32 lo, .int .i32 hi] 63)) (by decide)); have y0 := hm5.cell 0; have y1 := hm5.frozen 0))
    all_goals
      have HE := hide (snd_end' (x := (lo, hi)) (unhide HB4) (unhide HO4) (unhide HA4) (unhide HL4) hl hlo hgrow5 hown5 (Pv := fun X => (Value.slice b zs.length cb).ownBlock ≠ some X) (unhide HF4))
      go_end0
      exact ⟨⟨_, rfl⟩, (unhide HE).1, (unhide HE).2.1, fun X hX hXB hv => (unhide HE).2.2 X hX hXB (hv _ _ (unhide HB0)).2 (hv _ _ (unhide HB0)).1⟩
end Go.Proofs.Ytnphbjhikapoeaa
