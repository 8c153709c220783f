/- Texts of this claim, one behind the other. -/
import Derived.Test.YtnnbaodillnkkaaGreatM10
import Derived.LoopN
import Derived.Test.YtnnbaodillnkkaaGreatM2
import Derived.Test.YtnnbaodillnkkaaGreatM6
import Derived.Deep.AppendLies
import Derived.Deep.RegionLaw
import Derived.Deep.RegionWith
/- Which tables are right: rows one by one, and rows that are there twice. -/
namespace Go.Proofs.YtnnbaodillnkkaaGreat
open Go.RowKit Go.Shelf
set_option linter.unusedVariables false
structure RwS (W w : World) (T : TV) (a0 a1 a2 a3 a4 a5 a6 a7 : Option Addr) (c0 c1 c2 c3 c4 c5 c6 c7 : Nat) : Prop where
  tw : TwS W w T a0 a1 a2 a3 a4 a5 a6 a7 c0 c1 c2 c3 c4 c5 c6 c7
  fs : Blk w (W.heap.size + 2) #[.func (.func 49) #[] #[], .func (.func 50) #[] #[], .func (.func 51) #[] #[]] 72
theorem RwS.below {W w w' : World} {T : TV} {a0 a1 a2 a3 a4 a5 a6 a7 : Option Addr} {c0 c1 c2 c3 c4 c5 c6 c7 : Nat} (h : RwS W w T a0 a1 a2 a3 a4 a5 a6 a7 c0 c1 c2 c3 c4 c5 c6 c7) (hb : Below w.heap.size w w') : RwS W w' T a0 a1 a2 a3 a4 a5 a6 a7 c0 c1 c2 c3 c4 c5 c6 c7 := ⟨h.tw.below hb, h.fs.below hb h.fs.lt⟩
theorem orW3 (x y z : Int × Int × Int) (hz : OkW z) : orW [x, y, z] = if x.1 = 0 then (if y.1 = 0 then z else y) else x := by
  by_cases h1 : x.1 = 0
  · rw [orW_cons0 h1, if_pos h1]
    by_cases h2 : y.1 = 0
    · rw [orW_cons0 h2, if_pos h2]
      by_cases h3 : z.1 = 0
      · rw [orW_cons0 h3, hz h3]; rfl
      · rw [orW_cons1 h3]
    · rw [orW_cons1 h2, if_neg h2]
  · rw [orW_cons1 h1, if_neg h1]
set_option maxRecDepth 100000 in
set_option maxHeartbeats 8000000 in
theorem rowsWrong_any (T : TV) (hO : TabOk T) (hI : TabI T) (a0 a1 a2 a3 a4 a5 a6 a7 : Option Addr) (c0 c1 c2 c3 c4 c5 c6 c7 : Nat) (us : List Value) (W : World) (hT : TabIn W T a0 a1 a2 a3 a4 a5 a6 a7 us) :
    Calls Tryz.prog 28 #[.agg #[.slice a0 T.sc.length c0, .slice a1 T.co.length c1, .slice a2 T.ma.length c2, .slice a3 T.pr.length c3, .slice a4 T.fo.length c4, .slice a5 T.lk.length c5, .slice a6 T.dr.length c6, .slice a7 T.al.length c7]] W fun e w' => e = .returned (wrV (orW [longV T, formsV T, twiceV T])) ∧ Below W.heap.size W w' := by
  have hB0 : Below W.heap.size W (((W.alloc (.cells #[.slice a0 T.sc.length c0, .slice a1 T.co.length c1, .slice a2 T.ma.length c2, .slice a3 T.pr.length c3, .slice a4 T.fo.length c4, .slice a5 T.lk.length c5, .slice a6 T.dr.length c6, .slice a7 T.al.length c7] 32)).alloc (.cells #[.int .i64 0, .int .i64 0, .int .i64 0] 37)).alloc (.cells #[.func (.func 49) #[] #[], .func (.func 50) #[] #[], .func (.func 51) #[] #[]] 72)) := (((Below.refl _ W).alloc (Nat.le_refl _) _).alloc (by simp) _).alloc (by simp; omega) _
  have bR := Blk.new (W.alloc (.cells #[.slice a0 T.sc.length c0, .slice a1 T.co.length c1, .slice a2 T.ma.length c2, .slice a3 T.pr.length c3, .slice a4 T.fo.length c4, .slice a5 T.lk.length c5, .slice a6 T.dr.length c6, .slice a7 T.al.length c7] 32)) #[.int .i64 0, .int .i64 0, .int .i64 0] 37
  have bF := Blk.new ((W.alloc (.cells #[.slice a0 T.sc.length c0, .slice a1 T.co.length c1, .slice a2 T.ma.length c2, .slice a3 T.pr.length c3, .slice a4 T.fo.length c4, .slice a5 T.lk.length c5, .slice a6 T.dr.length c6, .slice a7 T.al.length c7] 32)).alloc (.cells #[.int .i64 0, .int .i64 0, .int .i64 0] 37)) #[.func (.func 49) #[] #[], .func (.func 50) #[] #[], .func (.func 51) #[] #[]] 72
  rw [World.size_alloc] at bR
  rw [World.size_alloc, World.size_alloc] at bF
  have H0 : Hz (RwS W _ T a0 a1 a2 a3 a4 a5 a6 a7 c0 c1 c2 c3 c4 c5 c6 c7) := hide ⟨⟨hB0, ((Blk.new W #[.slice a0 T.sc.length c0, .slice a1 T.co.length c1, .slice a2 T.ma.length c2, .slice a3 T.pr.length c3, .slice a4 T.fo.length c4, .slice a5 T.lk.length c5, .slice a6 T.dr.length c6, .slice a7 T.al.length c7] 32).alloc _).alloc _, bR.alloc _⟩, bF⟩
  have C0 : Hz (∀ w, Below W.heap.size W w → Calls Tryz.prog 49 #[.agg #[.slice a0 T.sc.length c0, .slice a1 T.co.length c1, .slice a2 T.ma.length c2, .slice a3 T.pr.length c3, .slice a4 T.fo.length c4, .slice a5 T.lk.length c5, .slice a6 T.dr.length c6, .slice a7 T.al.length c7]] w fun e w' => e = .returned (wrV (longV T)) ∧ Below w.heap.size w w') := hide (fun w hb => tooMany_any T hO.n0 a0 a1 a2 a3 a4 a5 a6 a7 c0 c1 c2 c3 c4 c5 c6 c7 us w (hT.lower hb))
  have C1 : Hz (∀ w, Below W.heap.size W w → Calls Tryz.prog 50 #[.agg #[.slice a0 T.sc.length c0, .slice a1 T.co.length c1, .slice a2 T.ma.length c2, .slice a3 T.pr.length c3, .slice a4 T.fo.length c4, .slice a5 T.lk.length c5, .slice a6 T.dr.length c6, .slice a7 T.al.length c7]] w fun e w' => e = .returned (wrV (formsV T)) ∧ Below w.heap.size w w') := hide (fun w hb => misformed_any T hO a0 a1 a2 a3 a4 a5 a6 a7 c0 c1 c2 c3 c4 c5 c6 c7 us w (hT.lower hb))
  have C2 : Hz (∀ w, Below W.heap.size W w → Calls Tryz.prog 51 #[.agg #[.slice a0 T.sc.length c0, .slice a1 T.co.length c1, .slice a2 T.ma.length c2, .slice a3 T.pr.length c3, .slice a4 T.fo.length c4, .slice a5 T.lk.length c5, .slice a6 T.dr.length c6, .slice a7 T.al.length c7]] w fun e w' => e = .returned (wrV (twiceV T)) ∧ Below w.heap.size w w') := hide (fun w hb => twice_any T hO hI a0 a1 a2 a3 a4 a5 a6 a7 c0 c1 c2 c3 c4 c5 c6 c7 us w (hT.lower hb))
  rw [orW3 (longV T) (formsV T) (twiceV T) (show OkW (twiceV T) from orW_okW _)]
  have HK : Hz (OkW (twiceV T)) := hide (show OkW (twiceV T) from orW_okW _)
  clear hB0 bR bF hO hI hT
  generalize longV T = x at *
  generalize formsV T = y at *
  generalize twiceV T = z at *
  obtain ⟨x0, x1, x2⟩ := x
  obtain ⟨y0, y1, y2⟩ := y
  obtain ⟨z0, z1, z2⟩ := z
  unfold wrV at C0 C1 C2
  dsimp only at C0 C1 C2 ⊢
  by_cases hx : x0 = 0
  · rw [if_pos hx]
    subst hx
    by_cases hy : y0 = 0
    · rw [if_pos hy]
      subst hy
      by_cases hz : z0 = 0
      · obtain ⟨rfl, hh⟩ := Prod.mk.inj (unhide HK hz)
        obtain ⟨rfl, rfl⟩ := Prod.mk.inj hh
        clear hz hh HK
        go_enter Tryz.func28, Tryz.ntmps28
        go_wp2_with fail
        generalize ((W.alloc (.cells #[.slice a0 T.sc.length c0, .slice a1 T.co.length c1, .slice a2 T.ma.length c2, .slice a3 T.pr.length c3, .slice a4 T.fo.length c4, .slice a5 T.lk.length c5, .slice a6 T.dr.length c6, .slice a7 T.al.length c7] 32)).alloc (.cells #[.int .i64 0, .int .i64 0, .int .i64 0] 37)).alloc (.cells #[.func (.func 49) #[] #[], .func (.func 50) #[] #[], .func (.func 51) #[] #[]] 72) = u0 at *
        refine wp_loop_rounds 4 ?_
        have c0 := (unhide H0).tw.bx.cell 0
        have c1 := (unhide H0).tw.bx.cell 1
        have c2 := (unhide H0).tw.bx.cell 2
        have c3 := (unhide H0).tw.bx.cell 3
        have c4 := (unhide H0).tw.bx.cell 4
        have c5 := (unhide H0).tw.bx.cell 5
        have c6 := (unhide H0).tw.bx.cell 6
        have c7 := (unhide H0).tw.bx.cell 7
        have g0 := (unhide H0).fs.cell 0
        have HC := hide (unhide C0 u0 (unhide H0).tw.bl)
        rw [rounds_succ]
        go_wp2_with (go_at_call 49; refine (unhide HC).mono ?_; rintro e v0 ⟨rfl, hb⟩; have H1 := hide (((unhide H0).below hb).below ((Below.refl _ v0).alloc (Nat.le_refl _) (.cells #[.int .i64 0, .int .i64 x1, .int .i64 x2] 37))); clear hb)
        clear HC g0 c0 c1 c2 c3 c4 c5 c6 c7
        generalize v0.alloc (.cells #[.int .i64 0, .int .i64 x1, .int .i64 x2] 37) = u1 at *
        have c0 := (unhide H1).tw.bx.cell 0
        have c1 := (unhide H1).tw.bx.cell 1
        have c2 := (unhide H1).tw.bx.cell 2
        have c3 := (unhide H1).tw.bx.cell 3
        have c4 := (unhide H1).tw.bx.cell 4
        have c5 := (unhide H1).tw.bx.cell 5
        have c6 := (unhide H1).tw.bx.cell 6
        have c7 := (unhide H1).tw.bx.cell 7
        have g0 := (unhide H1).fs.cell 1
        have HC := hide (unhide C1 u1 (unhide H1).tw.bl)
        rw [rounds_succ]
        go_wp2_with (go_at_call 50; refine (unhide HC).mono ?_; rintro e v1 ⟨rfl, hb⟩; have H2 := hide (((unhide H1).below hb).below ((Below.refl _ v1).alloc (Nat.le_refl _) (.cells #[.int .i64 0, .int .i64 y1, .int .i64 y2] 37))); clear hb)
        clear HC g0 c0 c1 c2 c3 c4 c5 c6 c7
        generalize v1.alloc (.cells #[.int .i64 0, .int .i64 y1, .int .i64 y2] 37) = u2 at *
        have c0 := (unhide H2).tw.bx.cell 0
        have c1 := (unhide H2).tw.bx.cell 1
        have c2 := (unhide H2).tw.bx.cell 2
        have c3 := (unhide H2).tw.bx.cell 3
        have c4 := (unhide H2).tw.bx.cell 4
        have c5 := (unhide H2).tw.bx.cell 5
        have c6 := (unhide H2).tw.bx.cell 6
        have c7 := (unhide H2).tw.bx.cell 7
        have g0 := (unhide H2).fs.cell 2
        have HC := hide (unhide C2 u2 (unhide H2).tw.bl)
        rw [rounds_succ]
        go_wp2_with (go_at_call 51; refine (unhide HC).mono ?_; rintro e v2 ⟨rfl, hb⟩; have H3 := hide (((unhide H2).below hb).below ((Below.refl _ v2).alloc (Nat.le_refl _) (.cells #[.int .i64 0, .int .i64 0, .int .i64 0] 37))); clear hb; have r0 := (unhide H3).tw.rs.cell 0; have r1 := (unhide H3).tw.rs.cell 1; have r2 := (unhide H3).tw.rs.cell 2; have e0 := (unhide H3).tw.rs.frozen 0; have e1 := (unhide H3).tw.rs.frozen 1; have e2 := (unhide H3).tw.rs.frozen 2)
        clear HC g0 c0 c1 c2 c3 c4 c5 c6 c7
        generalize v2.alloc (.cells #[.int .i64 0, .int .i64 0, .int .i64 0] 37) = u3 at *
        rw [rounds_succ]
        go_wp2_with fail
        exact bodyPost_ret (v := wrV (0, 0, 0)) (ret3 Tryz.results28 rfl (blk3 (unhide H3).tw.rs _ _ _) rfl) rfl ⟨rfl, below3 (unhide H3).tw.bl (by omega) (unhide H3).tw.bl.size _ _ _⟩
      · have hz1 : (z0 == 0) = false := by simpa using hz
        clear HK
        go_enter Tryz.func28, Tryz.ntmps28
        go_wp2_with fail
        generalize ((W.alloc (.cells #[.slice a0 T.sc.length c0, .slice a1 T.co.length c1, .slice a2 T.ma.length c2, .slice a3 T.pr.length c3, .slice a4 T.fo.length c4, .slice a5 T.lk.length c5, .slice a6 T.dr.length c6, .slice a7 T.al.length c7] 32)).alloc (.cells #[.int .i64 0, .int .i64 0, .int .i64 0] 37)).alloc (.cells #[.func (.func 49) #[] #[], .func (.func 50) #[] #[], .func (.func 51) #[] #[]] 72) = u0 at *
        refine wp_loop_rounds 4 ?_
        have c0 := (unhide H0).tw.bx.cell 0
        have c1 := (unhide H0).tw.bx.cell 1
        have c2 := (unhide H0).tw.bx.cell 2
        have c3 := (unhide H0).tw.bx.cell 3
        have c4 := (unhide H0).tw.bx.cell 4
        have c5 := (unhide H0).tw.bx.cell 5
        have c6 := (unhide H0).tw.bx.cell 6
        have c7 := (unhide H0).tw.bx.cell 7
        have g0 := (unhide H0).fs.cell 0
        have HC := hide (unhide C0 u0 (unhide H0).tw.bl)
        rw [rounds_succ]
        go_wp2_with (go_at_call 49; refine (unhide HC).mono ?_; rintro e v0 ⟨rfl, hb⟩; have H1 := hide (((unhide H0).below hb).below ((Below.refl _ v0).alloc (Nat.le_refl _) (.cells #[.int .i64 0, .int .i64 x1, .int .i64 x2] 37))); clear hb)
        clear HC g0 c0 c1 c2 c3 c4 c5 c6 c7
        generalize v0.alloc (.cells #[.int .i64 0, .int .i64 x1, .int .i64 x2] 37) = u1 at *
        have c0 := (unhide H1).tw.bx.cell 0
        have c1 := (unhide H1).tw.bx.cell 1
        have c2 := (unhide H1).tw.bx.cell 2
        have c3 := (unhide H1).tw.bx.cell 3
        have c4 := (unhide H1).tw.bx.cell 4
        have c5 := (unhide H1).tw.bx.cell 5
        have c6 := (unhide H1).tw.bx.cell 6
        have c7 := (unhide H1).tw.bx.cell 7
        have g0 := (unhide H1).fs.cell 1
        have HC := hide (unhide C1 u1 (unhide H1).tw.bl)
        rw [rounds_succ]
        go_wp2_with (go_at_call 50; refine (unhide HC).mono ?_; rintro e v1 ⟨rfl, hb⟩; have H2 := hide (((unhide H1).below hb).below ((Below.refl _ v1).alloc (Nat.le_refl _) (.cells #[.int .i64 0, .int .i64 y1, .int .i64 y2] 37))); clear hb)
        clear HC g0 c0 c1 c2 c3 c4 c5 c6 c7
        generalize v1.alloc (.cells #[.int .i64 0, .int .i64 y1, .int .i64 y2] 37) = u2 at *
        have c0 := (unhide H2).tw.bx.cell 0
        have c1 := (unhide H2).tw.bx.cell 1
        have c2 := (unhide H2).tw.bx.cell 2
        have c3 := (unhide H2).tw.bx.cell 3
        have c4 := (unhide H2).tw.bx.cell 4
        have c5 := (unhide H2).tw.bx.cell 5
        have c6 := (unhide H2).tw.bx.cell 6
        have c7 := (unhide H2).tw.bx.cell 7
        have g0 := (unhide H2).fs.cell 2
        have HC := hide (unhide C2 u2 (unhide H2).tw.bl)
        rw [rounds_succ]
        go_wp2_with (go_at_call 51; refine (unhide HC).mono ?_; rintro e v2 ⟨rfl, hb⟩; have H3 := hide (((unhide H2).below hb).below ((Below.refl _ v2).alloc (Nat.le_refl _) (.cells #[.int .i64 z0, .int .i64 z1, .int .i64 z2] 37))); clear hb; have r0 := (unhide H3).tw.rs.cell 0; have r1 := (unhide H3).tw.rs.cell 1; have r2 := (unhide H3).tw.rs.cell 2; have e0 := (unhide H3).tw.rs.frozen 0; have e1 := (unhide H3).tw.rs.frozen 1; have e2 := (unhide H3).tw.rs.frozen 2)
        exact bodyPost_ret (v := wrV (z0, z1, z2)) (ret3 Tryz.results28 rfl (blk3 (unhide H3).tw.rs _ _ _) rfl) rfl ⟨rfl, below3 (unhide H3).tw.bl (by omega) (unhide H3).tw.bl.size _ _ _⟩
    · rw [if_neg hy]
      have hy1 : (y0 == 0) = false := by simpa using hy
      clear HK
      go_enter Tryz.func28, Tryz.ntmps28
      go_wp2_with fail
      generalize ((W.alloc (.cells #[.slice a0 T.sc.length c0, .slice a1 T.co.length c1, .slice a2 T.ma.length c2, .slice a3 T.pr.length c3, .slice a4 T.fo.length c4, .slice a5 T.lk.length c5, .slice a6 T.dr.length c6, .slice a7 T.al.length c7] 32)).alloc (.cells #[.int .i64 0, .int .i64 0, .int .i64 0] 37)).alloc (.cells #[.func (.func 49) #[] #[], .func (.func 50) #[] #[], .func (.func 51) #[] #[]] 72) = u0 at *
      refine wp_loop_rounds 4 ?_
      have c0 := (unhide H0).tw.bx.cell 0
      have c1 := (unhide H0).tw.bx.cell 1
      have c2 := (unhide H0).tw.bx.cell 2
      have c3 := (unhide H0).tw.bx.cell 3
      have c4 := (unhide H0).tw.bx.cell 4
      have c5 := (unhide H0).tw.bx.cell 5
      have c6 := (unhide H0).tw.bx.cell 6
      have c7 := (unhide H0).tw.bx.cell 7
      have g0 := (unhide H0).fs.cell 0
      have HC := hide (unhide C0 u0 (unhide H0).tw.bl)
      rw [rounds_succ]
      go_wp2_with (go_at_call 49; refine (unhide HC).mono ?_; rintro e v0 ⟨rfl, hb⟩; have H1 := hide (((unhide H0).below hb).below ((Below.refl _ v0).alloc (Nat.le_refl _) (.cells #[.int .i64 0, .int .i64 x1, .int .i64 x2] 37))); clear hb)
      clear HC g0 c0 c1 c2 c3 c4 c5 c6 c7
      generalize v0.alloc (.cells #[.int .i64 0, .int .i64 x1, .int .i64 x2] 37) = u1 at *
      have c0 := (unhide H1).tw.bx.cell 0
      have c1 := (unhide H1).tw.bx.cell 1
      have c2 := (unhide H1).tw.bx.cell 2
      have c3 := (unhide H1).tw.bx.cell 3
      have c4 := (unhide H1).tw.bx.cell 4
      have c5 := (unhide H1).tw.bx.cell 5
      have c6 := (unhide H1).tw.bx.cell 6
      have c7 := (unhide H1).tw.bx.cell 7
      have g0 := (unhide H1).fs.cell 1
      have HC := hide (unhide C1 u1 (unhide H1).tw.bl)
      rw [rounds_succ]
      go_wp2_with (go_at_call 50; refine (unhide HC).mono ?_; rintro e v1 ⟨rfl, hb⟩; have H2 := hide (((unhide H1).below hb).below ((Below.refl _ v1).alloc (Nat.le_refl _) (.cells #[.int .i64 y0, .int .i64 y1, .int .i64 y2] 37))); clear hb; have r0 := (unhide H2).tw.rs.cell 0; have r1 := (unhide H2).tw.rs.cell 1; have r2 := (unhide H2).tw.rs.cell 2; have e0 := (unhide H2).tw.rs.frozen 0; have e1 := (unhide H2).tw.rs.frozen 1; have e2 := (unhide H2).tw.rs.frozen 2)
      exact bodyPost_ret (v := wrV (y0, y1, y2)) (ret3 Tryz.results28 rfl (blk3 (unhide H2).tw.rs _ _ _) rfl) rfl ⟨rfl, below3 (unhide H2).tw.bl (by omega) (unhide H2).tw.bl.size _ _ _⟩
  · rw [if_neg hx]
    have hx1 : (x0 == 0) = false := by simpa using hx
    clear HK
    go_enter Tryz.func28, Tryz.ntmps28
    go_wp2_with fail
    generalize ((W.alloc (.cells #[.slice a0 T.sc.length c0, .slice a1 T.co.length c1, .slice a2 T.ma.length c2, .slice a3 T.pr.length c3, .slice a4 T.fo.length c4, .slice a5 T.lk.length c5, .slice a6 T.dr.length c6, .slice a7 T.al.length c7] 32)).alloc (.cells #[.int .i64 0, .int .i64 0, .int .i64 0] 37)).alloc (.cells #[.func (.func 49) #[] #[], .func (.func 50) #[] #[], .func (.func 51) #[] #[]] 72) = u0 at *
    refine wp_loop_rounds 4 ?_
    have c0 := (unhide H0).tw.bx.cell 0
    have c1 := (unhide H0).tw.bx.cell 1
    have c2 := (unhide H0).tw.bx.cell 2
    have c3 := (unhide H0).tw.bx.cell 3
    have c4 := (unhide H0).tw.bx.cell 4
    have c5 := (unhide H0).tw.bx.cell 5
    have c6 := (unhide H0).tw.bx.cell 6
    have c7 := (unhide H0).tw.bx.cell 7
    have g0 := (unhide H0).fs.cell 0
    have HC := hide (unhide C0 u0 (unhide H0).tw.bl)
    rw [rounds_succ]
    go_wp2_with (go_at_call 49; refine (unhide HC).mono ?_; rintro e v0 ⟨rfl, hb⟩; have H1 := hide (((unhide H0).below hb).below ((Below.refl _ v0).alloc (Nat.le_refl _) (.cells #[.int .i64 x0, .int .i64 x1, .int .i64 x2] 37))); clear hb; have r0 := (unhide H1).tw.rs.cell 0; have r1 := (unhide H1).tw.rs.cell 1; have r2 := (unhide H1).tw.rs.cell 2; have e0 := (unhide H1).tw.rs.frozen 0; have e1 := (unhide H1).tw.rs.frozen 1; have e2 := (unhide H1).tw.rs.frozen 2)
    exact bodyPost_ret (v := wrV (x0, x1, x2)) (ret3 Tryz.results28 rfl (blk3 (unhide H1).tw.rs _ _ _) rfl) rfl ⟨rfl, below3 (unhide H1).tw.bl (by omega) (unhide H1).tw.bl.size _ _ _⟩

def firstAt (p : Int × Int → Bool) (zs : List (Int × Int)) : Int := match (List.range zs.length).find? (fun j => p (zs.getD j (0, 0))) with
  | some j => (j : Int)
  | none => -1
theorem firstAt_hit (p : Int × Int → Bool) (zs : List (Int × Int)) (k : Nat) (hk : k < zs.length) (h0 : ∀ i, i < k → p (zs.getD i (0, 0)) = false) (h1 : p (zs.getD k (0, 0)) = true) : firstAt p zs = k := by
  have : (List.range zs.length).find? (fun j => p (zs.getD j (0, 0))) = some k := by
    rw [List.find?_range_eq_some]
    exact ⟨h1, List.mem_range.2 hk, fun j hj => by simp only [h0 j hj]; rfl⟩
  unfold firstAt
  rw [this]
theorem firstAt_none (p : Int × Int → Bool) (zs : List (Int × Int)) (h0 : ∀ i, i < zs.length → p (zs.getD i (0, 0)) = false) : firstAt p zs = -1 := by
  have : (List.range zs.length).find? (fun j => p (zs.getD j (0, 0))) = none := by
    rw [List.find?_range_eq_none]
    intro j hj
    simp only [h0 j hj]; rfl
  unfold firstAt
  rw [this]
theorem firstAt_any (p : Int × Int → Bool) (zs : List (Int × Int)) : decide (0 ≤ firstAt p zs) = zs.any p := by
  cases h : zs.any p with
  | true =>
    unfold firstAt
    cases hf : (List.range zs.length).find? (fun j => p (zs.getD j (0, 0))) with
    | some j => simp
    | none =>
      exfalso
      rw [List.find?_range_eq_none] at hf
      obtain ⟨x, hx, hp⟩ := List.any_eq_true.1 h
      obtain ⟨i, hi, rfl⟩ := List.mem_iff_getElem.1 hx
      have := hf i hi
      simp [List.getD, hi, hp] at this
  | false =>
    rw [firstAt_none p zs]
    · decide
    · intro i hi
      have := List.any_eq_false.1 h zs[i] (List.getElem_mem hi)
      simpa [List.getD, hi] using this

set_option maxRecDepth 100000 in
set_option maxHeartbeats 4000000 in
theorem index_noRunes (a : Option Addr) (cap : Nat) (zs : List (Int × Int)) (hz : zs.length ≤ 1073741824) (w : World) (hr : RowP w a zs) :
    Calls Tryz.prog 171 #[.slice a zs.length cap, .func (.func 150) #[] #[]] w fun e w' => e = .returned (.int .i64 (firstAt (fun x => !endsB x) zs)) ∧ Below w.heap.size w w' := by
  have HR := hide hr
  have hzi : (zs.length : Int) ≤ 1073741824 := by omega
  clear hr
  go_enter Tryz.func171, Tryz.ntmps171
  go_wp2
  go_loopw [8] (fun i wr => ∃ k : Nat, i = .int .i64 k ∧ k ≤ zs.length ∧ Hz (∀ i, i < k → (fun x => !endsB x) (zs.getD i (0, 0)) = false) ∧ Hz (Below w.heap.size w wr)) (fun i _ => zs.length - (intOf i).toNat)
  case atStart => exact ⟨0, rfl, by omega, hide (fun i hi => by omega), hide (Below.refl _ _)⟩
  case round =>
    obtain ⟨k, rfl, hk, HZ, HB⟩ := hrel
    by_cases hkn : k < zs.length
    · have hk1 : (k : Int) < (zs.length : Int) := by omega
      have hk2 : ((k : Nat) : Int).toNat = k := by omega
      obtain ⟨x, hx⟩ : ∃ x, zs[k]? = some x := ⟨_, List.getElem?_eq_getElem hkn⟩
      have hgd : zs.getD k (0, 0) = x := by simp [List.getD, hx]
      obtain ⟨g, o, rfl, hg, hc⟩ := unhide HR (by omega)
      have c0 := ((unhide HB).cell (p := ⟨g, o + k * 2, none⟩) hg).trans (hc k x hx).1
      have c1 := ((unhide HB).cell (p := ⟨g, o + k * 2 + 1, none⟩) hg).trans (hc k x hx).2
      have HN := hide (fun w => noRunes_any x w)
      have HH := hide (fun h => firstAt_hit (fun x => !endsB x) zs k hkn (unhide HZ) h)
      rw [hgd] at HH
      have HG := hide hgd
      clear hc hx hgd
      cases hp : (!endsB x) with
      | true =>
        have HH1 := hide (unhide HH hp)
        rw [hp] at HN
        obtain ⟨lo, hi⟩ := x
        simp only at c0 c1
        clear hp
        go_wp2_with fail
        refine (unhide HN _).mono ?_
        rintro e w2 ⟨rfl, hb⟩
        have HB2 := hide ((unhide HB).trans (hb.mono (unhide HB).size))
        clear hb
        go_wp2
        go_ret
        exact ⟨by rw [unhide HH1]; rfl, unhide HB2⟩
      | false =>
        have HZ1 : Hz (∀ i, i < k + 1 → (fun x => !endsB x) (zs.getD i (0, 0)) = false) := hide (fun i hi => by
          by_cases e : i = k
          · subst e; rw [unhide HG]; exact hp
          · exact unhide HZ i (by omega))
        rw [hp] at HN
        obtain ⟨lo, hi⟩ := x
        simp only at c0 c1
        clear hp
        go_wp2_with fail
        refine (unhide HN _).mono ?_
        rintro e w2 ⟨rfl, hb⟩
        have HB2 := hide ((unhide HB).trans (hb.mono (unhide HB).size))
        clear hb
        go_wp2
        refine ⟨⟨k + 1, by simp, by omega, HZ1, HB2⟩, ?_⟩
        simp [intOf]; omega
    · have hk1 : ¬ (k : Int) < (zs.length : Int) := by omega
      obtain rfl : k = zs.length := by omega
      have HV := hide (firstAt_none (fun x => !endsB x) zs (unhide HZ))
      go_wp2
      go_ret
      exact ⟨by rw [unhide HV]; rfl, unhide HB⟩

set_option maxRecDepth 100000 in
theorem contains_noRunes (a : Option Addr) (cap : Nat) (zs : List (Int × Int)) (hz : zs.length ≤ 1073741824) (w : World) (hr : RowP w a zs) :
    Calls Tryz.prog 149 #[.slice a zs.length cap, .func (.func 150) #[] #[]] w fun e w' => e = .returned (.bool (zs.any (fun x => !endsB x))) ∧ Below w.heap.size w w' := by
  have HI := hide (index_noRunes a cap zs hz w hr)
  have HA := hide (firstAt_any (fun x => !endsB x) zs)
  clear hr
  generalize zs.any (fun x => !endsB x) = r at HA ⊢
  generalize firstAt (fun x => !endsB x) zs = i at HI HA
  go_enter Tryz.func149, Tryz.ntmps149
  go_wp2_with fail
  refine (unhide HI).mono ?_
  rintro e w2 ⟨rfl, hb⟩
  have HB := hide hb
  clear hb
  go_wp2
  go_ret
  exact ⟨by rw [← unhide HA]; rfl, unhide HB⟩

set_option maxRecDepth 100000 in
set_option maxHeartbeats 4000000 in
theorem index_falling (a : Option Addr) (cap : Nat) (zs : List (Int × Int)) (hz : zs.length ≤ 1073741824) (w : World) (hr : RowP w a zs) :
    Calls Tryz.prog 171 #[.slice a zs.length cap, .func (.func 151) #[] #[]] w fun e w' => e = .returned (.int .i64 (firstAt (fun x => decide (x.2 < x.1)) zs)) ∧ Below w.heap.size w w' := by
  have HR := hide hr
  have hzi : (zs.length : Int) ≤ 1073741824 := by omega
  clear hr
  go_enter Tryz.func171, Tryz.ntmps171
  go_wp2
  go_loopw [8] (fun i wr => ∃ k : Nat, i = .int .i64 k ∧ k ≤ zs.length ∧ Hz (∀ i, i < k → (fun x => decide (x.2 < x.1)) (zs.getD i (0, 0)) = false) ∧ Hz (Below w.heap.size w wr)) (fun i _ => zs.length - (intOf i).toNat)
  case atStart => exact ⟨0, rfl, by omega, hide (fun i hi => by omega), hide (Below.refl _ _)⟩
  case round =>
    obtain ⟨k, rfl, hk, HZ, HB⟩ := hrel
    by_cases hkn : k < zs.length
    · have hk1 : (k : Int) < (zs.length : Int) := by omega
      have hk2 : ((k : Nat) : Int).toNat = k := by omega
      obtain ⟨x, hx⟩ : ∃ x, zs[k]? = some x := ⟨_, List.getElem?_eq_getElem hkn⟩
      have hgd : zs.getD k (0, 0) = x := by simp [List.getD, hx]
      obtain ⟨g, o, rfl, hg, hc⟩ := unhide HR (by omega)
      have c0 := ((unhide HB).cell (p := ⟨g, o + k * 2, none⟩) hg).trans (hc k x hx).1
      have c1 := ((unhide HB).cell (p := ⟨g, o + k * 2 + 1, none⟩) hg).trans (hc k x hx).2
      have HN := hide (fun w => falling_any x w)
      have HH := hide (fun h => firstAt_hit (fun x => decide (x.2 < x.1)) zs k hkn (unhide HZ) h)
      rw [hgd] at HH
      have HG := hide hgd
      clear hc hx hgd
      cases hp : (decide (x.2 < x.1)) with
      | true =>
        have HH1 := hide (unhide HH hp)
        rw [hp] at HN
        obtain ⟨lo, hi⟩ := x
        simp only at c0 c1
        clear hp
        go_wp2_with fail
        refine (unhide HN _).mono ?_
        rintro e w2 ⟨rfl, hb⟩
        have HB2 := hide ((unhide HB).trans (hb.mono (unhide HB).size))
        clear hb
        go_wp2
        go_ret
        exact ⟨by rw [unhide HH1]; rfl, unhide HB2⟩
      | false =>
        have HZ1 : Hz (∀ i, i < k + 1 → (fun x => decide (x.2 < x.1)) (zs.getD i (0, 0)) = false) := hide (fun i hi => by
          by_cases e : i = k
          · subst e; rw [unhide HG]; exact hp
          · exact unhide HZ i (by omega))
        rw [hp] at HN
        obtain ⟨lo, hi⟩ := x
        simp only at c0 c1
        clear hp
        go_wp2_with fail
        refine (unhide HN _).mono ?_
        rintro e w2 ⟨rfl, hb⟩
        have HB2 := hide ((unhide HB).trans (hb.mono (unhide HB).size))
        clear hb
        go_wp2
        refine ⟨⟨k + 1, by simp, by omega, HZ1, HB2⟩, ?_⟩
        simp [intOf]; omega
    · have hk1 : ¬ (k : Int) < (zs.length : Int) := by omega
      obtain rfl : k = zs.length := by omega
      have HV := hide (firstAt_none (fun x => decide (x.2 < x.1)) zs (unhide HZ))
      go_wp2
      go_ret
      exact ⟨by rw [unhide HV]; rfl, unhide HB⟩

set_option maxRecDepth 100000 in
theorem contains_falling (a : Option Addr) (cap : Nat) (zs : List (Int × Int)) (hz : zs.length ≤ 1073741824) (w : World) (hr : RowP w a zs) :
    Calls Tryz.prog 149 #[.slice a zs.length cap, .func (.func 151) #[] #[]] w fun e w' => e = .returned (.bool (zs.any (fun x => decide (x.2 < x.1)))) ∧ Below w.heap.size w w' := by
  have HI := hide (index_falling a cap zs hz w hr)
  have HA := hide (firstAt_any (fun x => decide (x.2 < x.1)) zs)
  clear hr
  generalize zs.any (fun x => decide (x.2 < x.1)) = r at HA ⊢
  generalize firstAt (fun x => decide (x.2 < x.1)) zs = i at HI HA
  go_enter Tryz.func149, Tryz.ntmps149
  go_wp2_with fail
  refine (unhide HI).mono ?_
  rintro e w2 ⟨rfl, hb⟩
  have HB := hide hb
  clear hb
  go_wp2
  go_ret
  exact ⟨by rw [← unhide HA]; rfl, unhide HB⟩

theorem spread_nil : Spread [] := ⟨fun x h => by simp at h, fun i j x y _ h => by simp at h⟩
theorem infoI : (Tryz.prog.info? 3).map (fun i => (i.zero, i.size, i.bytes)) = some (some (.int .i64 0), 1, 8) := by kernel_rfl
theorem one_cell (w2 : World) (v : Value) : ∀ j u, [v][j]? = some u → (w2.alloc (.cells #[v] 3)).cell? ((⟨w2.heap.size, 0, none⟩ : Addr).add j) = some u := by
  intro j u hj
  rw [add_none']
  cases j with
  | zero =>
    simp at hj
    subst hj
    exact (Blk.new w2 #[v] 3).cell 0
  | succ j => simp at hj
theorem mid_first {wm w2 w3 : World} {B X : Nat} {cx : Array Value} {tmp : Obj} (hB : Blk wm B #[.slice none 0 0, .slice none 0 0] 107) (hX : Blk wm X cx 68) (hb : Below wm.heap.size wm w2) (hg : (w2.alloc tmp).grownBy w3 none) :
    Blk w3 B #[.slice none 0 0, .slice none 0 0] 107 ∧ Blk w3 X cx 68 :=
  ⟨((hB.below hb hB.lt).alloc tmp).kept hg (by simp), ((hX.below hb hX.lt).alloc tmp).kept hg (by simp)⟩
def Laid (W : World) (B lo0 : Nat) (x : Int × Int) : Prop := ∃ va vb, Blk W B #[va, vb] 107 ∧ W.ownsRow lo0 68 2 va 1 (encP [x]) ∧ W.ownsRow lo0 3 1 vb 1 [.int .i64 0]
theorem two_cell (w2 : World) (x : Int × Int) : ∀ j u, (encP [x])[j]? = some u → (w2.alloc (.cells #[.int .i32 x.1, .int .i32 x.2] 68)).cell? ((⟨w2.heap.size, 0, none⟩ : Addr).add j) = some u := by
  intro j u hj
  rw [add_none']
  have b := Blk.new w2 #[.int .i32 x.1, .int .i32 x.2] 68
  match j, hj with
  | 0, hj => simp [encP] at hj; subst hj; exact b.cell 0
  | 1, hj => simp [encP] at hj; subst hj; exact b.cell 1
  | j + 2, hj => simp [encP] at hj
theorem fst_end {w wm w2 w3 : World} {B lo0 X g1 cap1 : Nat} {cx : Array Value} {tmp : Obj} (hB : Blk wm B #[.slice none 0 0, .slice none 0 0] 107) (hX : Blk wm X cx 68) (hw : Below w.heap.size w wm) (hb : Below wm.heap.size wm w2) (hg : (w2.alloc tmp).grownBy w3 none) (h0 : lo0 ≤ B) (hl : lo0 ≤ w.heap.size) (hne : X ≠ B)
    (ho : w3.ownsRow lo0 3 1 (.slice (some ⟨g1, 0, none⟩) 1 cap1) 1 [.int .i64 0]) :
    ∃ w4, w4 = w3.setCell ⟨B, 1, none⟩ (.slice (some ⟨g1, 0, none⟩) 1 cap1) ∧ Blk w4 B #[.slice none 0 0, .slice (some ⟨g1, 0, none⟩) 1 cap1] 107 ∧ Blk w4 X cx 68 ∧ w4.ownsRow lo0 3 1 (.slice (some ⟨g1, 0, none⟩) 1 cap1) 1 [.int .i64 0] ∧ Below lo0 w w4 ∧ (∀ X, X < w.heap.size → X ≠ B → w4.heap[X]? = w.heap[X]?) := by
  have hm := mid_first hB hX hb hg
  refine ⟨_, rfl, by simpa using hm.1.set 1 (.slice (some ⟨g1, 0, none⟩) 1 cap1), hm.2.other hne _, ?_, ?_, fun X hX hXB => ?_⟩
  · refine ho.kept (grown_setCell' w3 ⟨B, 1, none⟩ _) (.inr ?_)
    intro e
    simp [Value.ownBlock] at e
    subst e
    rcases ho.2 with ⟨e, _⟩ | ⟨g, cap, cur, e, _, hg', _⟩
    · simp at e
    · simp at e
      obtain ⟨rfl, _⟩ := e
      have := (show w3.heap[g1]? = _ from hm.1).symm.trans hg'
      simp at this
  · have s1 := hw.size
    have s2 := hb.size
    exact ((((hw.mono hl).trans (hb.mono (by omega))).alloc (by omega) tmp).grown hg (by simp; omega) (fun k e => by cases e)).setCell (p := ⟨B, 1, none⟩) h0 _
  · have s1 := hw.size
    have s2 := hb.size
    rw [Below.heap_setCell w3 ⟨B, 1, none⟩ _ X hXB, hg.block X (by simp; omega) (by simp), Below.heap_alloc w2 tmp X (by omega), hb.block X (by omega), hw.block X hX]
theorem snd_end {w w4 w5 : World} {B lo0 g1 cap1 g5 cap5 : Nat} {x : Int × Int} {tmp : Obj} (hB : Blk w4 B #[.slice none 0 0, .slice (some ⟨g1, 0, none⟩) 1 cap1] 107) (ho : w4.ownsRow lo0 3 1 (.slice (some ⟨g1, 0, none⟩) 1 cap1) 1 [.int .i64 0]) (hL : Below lo0 w w4) (hl : lo0 ≤ w.heap.size) (h0 : lo0 ≤ B)
    (hg : (w4.alloc tmp).drew.grownBy w5 none) (ho5 : w5.ownsRow lo0 68 2 (.slice (some ⟨g5, 0, none⟩) 1 cap5) 1 (encP [x])) (hF : ∀ X, X < w.heap.size → X ≠ B → w4.heap[X]? = w.heap[X]?) :
    Laid (w5.setCell ⟨B, 0, none⟩ (.slice (some ⟨g5, 0, none⟩) 1 cap5)) B lo0 x ∧ Below lo0 w (w5.setCell ⟨B, 0, none⟩ (.slice (some ⟨g5, 0, none⟩) 1 cap5)) ∧ (∀ X, X < w.heap.size → X ≠ B → (w5.setCell ⟨B, 0, none⟩ (.slice (some ⟨g5, 0, none⟩) 1 cap5)).heap[X]? = w.heap[X]?) := by
  have hg' : (w4.alloc tmp).grownBy w5 none := ⟨hg.os, hg.tape, hg.output, hg.size, hg.block⟩
  have hm := (hB.alloc tmp).kept hg' (by simp)
  have own_ne : ∀ {E sz : Nat} {g cap n : Nat} {xs : List Value}, 107 ≠ E → w5.ownsRow lo0 E sz (.slice (some ⟨g, 0, none⟩) n cap) n xs → g ≠ B := by
    intro E sz g cap n xs hE h e
    subst e
    rcases h.2 with ⟨e, _⟩ | ⟨g', cap', cur, e, _, hg', _⟩
    · simp at e
    · simp at e
      obtain ⟨rfl, _⟩ := e
      have := (show w5.heap[g]? = _ from hm).symm.trans hg'
      simp at this
      exact hE this.2
  have ho1 : w5.ownsRow lo0 3 1 (.slice (some ⟨g1, 0, none⟩) 1 cap1) 1 [.int .i64 0] := (ho.kept (World.grownBy_alloc w4 tmp none) (by simp [Value.ownBlock])).kept hg' (by simp [Value.ownBlock])
  have n1 := own_ne (by decide) ho1
  have n5 := own_ne (by decide) ho5
  refine ⟨⟨_, _, by simpa using hm.set 0 (.slice (some ⟨g5, 0, none⟩) 1 cap5), ho5.kept (grown_setCell' w5 ⟨B, 0, none⟩ _) (.inr (by simpa [Value.ownBlock] using n5)), ho1.kept (grown_setCell' w5 ⟨B, 0, none⟩ _) (.inr (by simpa [Value.ownBlock] using n1))⟩, ?_, fun X hX hXB => ?_⟩
  · have s1 := hL.size
    exact ((hL.alloc (by omega) tmp).grown hg' (by simp; omega) (fun k e => by cases e)).setCell (p := ⟨B, 0, none⟩) h0 _
  · have s1 := hL.size
    rw [Below.heap_setCell w5 ⟨B, 0, none⟩ _ X hXB, hg'.block X (by simp; omega) (by simp), Below.heap_alloc w4 tmp X (by omega), hF X hX hXB]
set_option maxRecDepth 100000 in
set_option maxHeartbeats 4000000 in
theorem lay_first (B lo0 : Nat) (x : Int × Int) (w : World) (hB : Blk w B #[.slice none 0 0, .slice none 0 0] 107) (h0 : lo0 ≤ B) (hl : lo0 ≤ w.heap.size) :
    Calls Tryz.prog 155 #[.pointer (some ⟨B, 0, none⟩), spnV x] w fun e w' => (∃ r, e = .returned r) ∧ Laid w' B lo0 x ∧ Below lo0 w w' ∧ (∀ X, X < w.heap.size → X ≠ B → w'.heap[X]? = w.heap[X]?) := by
  obtain ⟨lo, hi⟩ := x
  obtain ⟨iI, hi0, hi1, hi2, hi3⟩ := info_parts infoI
  have HI := hide (And.intro hi0 (And.intro hi1 (And.intro hi2 hi3)))
  obtain ⟨iP, hi0, hi1, hi2, hi3⟩ := info_parts infoP
  have HP := hide (And.intro hi0 (And.intro hi1 (And.intro hi2 hi3)))
  clear hi0 hi1 hi2 hi3
  have HX := hide (Blk.new w #[.int .i32 lo, .int .i32 hi] 68)
  have HBm := hide ((Below.refl w.heap.size w).alloc (Nat.le_refl _) (.cells #[.int .i32 lo, .int .i32 hi] 68))
  have HB := hide (hB.alloc (.cells #[.int .i32 lo, .int .i32 hi] 68))
  have c0 := (unhide HB).cell 0
  have c1 := (unhide HB).cell 1
  go_enter Tryz.func155, Tryz.ntmps155
  go_wp2
  generalize w.alloc (.cells #[.int .i32 lo, .int .i32 hi] 68) = wm at *
  have HBd : Hz (Blk wm.drew B #[.slice none 0 0, .slice none 0 0] 107) := hide (unhide HB)
  have HXd : Hz (Blk wm.drew w.heap.size #[.int .i32 lo, .int .i32 hi] 68) := hide (unhide HX)
  have HS := hide (size_any B [] wm.drew ⟨⟨none, 0, none, 0, unhide HBd, fun h => by simp at h, fun h => by simp at h⟩, spread_nil, by simp⟩)
  have HLm : Hz (lo0 ≤ wm.drew.heap.size) := hide (Nat.le_trans hl (unhide HBm).size)
  have HNE : Hz (w.heap.size ≠ B) := hide (fun e => by have := hB.lt; omega)
  have HBmd : Hz (Below w.heap.size w wm.drew) := hide (unhide HBm).drew
  have hmx2 : Tryz.prog.follows .mixedOrders = true := by kernel_rfl
  go_region_law (first
    | (go_simp; refine (unhide HS).mono ?_; rintro e w2 ⟨rfl, hb⟩; have b2 := (unhide HBd).below hb (unhide HBd).lt; have d0 := b2.cell 0; have d1 := b2.cell 1; have d3 := (b2.alloc (.cells #[.int .i64 (total [])] 3)).cell 1)
    | (refine step_append_lies _ (by rfl) _ _ _ (by rfl) lo0 3 iI (.int .i64 0) 1 8 Tryz.underlying24 (unhide HI).1 (unhide HI).2.1 (unhide HI).2.2.1 (unhide HI).2.2.2 rfl (by omega) (.slice none 0 0) 0 [] (by rfl) (World.ownsRow_nil _ _ _ _) ⟨w2.heap.size, 0, none⟩ 1 1 [.int .i64 (total [])] (by rfl) (by simp) (one_cell w2 _) (by simp [Value.oneCell']) (by omega) (by unfold maxLen; omega) (by omega) (by have := hb.size; have := unhide HLm; simp; omega) (w2.heap.size + 1) (by simp) ?_; intro g1 cap1 w3 hown1 hgrow1 hat1 hlt1; have hm := mid_first (unhide HBd) (unhide HXd) hb hgrow1; have e0 := hm.1.cell 0; have e1 := hm.1.cell 1; have e2 := hm.1.frozen 1))
  all_goals
    obtain ⟨w4, h4, hb4, hx4, ho4, hB4, hF4⟩ := fst_end (unhide HBd) (unhide HXd) (unhide HBmd) hb hgrow1 h0 hl (unhide HNE) hown1
    rw [← h4]
    have HB4 := hide hb4
    have HX4 := hide hx4
    have HO4 := hide ho4
    have HL4 := hide hB4
    have HF4 := hide hF4
    have p0 := hb4.cell 0
    have p1 := (hb4.alloc (.cells #[.int .i32 lo, .int .i32 hi] 68)).cell 0
    have x0 := hx4.cell 0
    have x1 := hx4.cell 1
    clear h4 hb4 hx4 ho4 hB4 hF4 hown1 hgrow1 hat1 hlt1 hm e0 e1 e2 b2 d0 d1 d3 hb HS HBd HXd HB HX c0 c1 HLm HBm
    go_wp2
    go_region_law (first
      | (refine step_append_lies _ (by rfl) _ _ _ (by rfl) lo0 68 iP (.agg #[.int .i32 0, .int .i32 0]) 2 8 Tryz.underlying27 (unhide HP).1 (unhide HP).2.1 (unhide HP).2.2.1 (unhide HP).2.2.2 rfl (by omega) (.slice none 0 0) 0 [] (by rfl) (World.ownsRow_nil _ _ _ _) ⟨w4.heap.size, 0, none⟩ 1 1 (encP [(lo, hi)]) (by rfl) (by simp [encP]) (two_cell w4 (lo, hi)) (encP_one _) (by omega) (by unfold maxLen; omega) (by omega) (by have := (unhide HL4).size; simp; omega) (w4.heap.size + 1) (by simp) ?_; intro g5 cap5 w5 hown5 hgrow5 hat5 hlt5; have hm5 := (show Blk (w4.alloc (.cells #[.int .i32 lo, .int .i32 hi] 68)).drew B _ 107 from (unhide HB4).alloc (.cells #[.int .i32 lo, .int .i32 hi] 68)).kept hgrow5 (by simp [Value.ownBlock]); have y0 := hm5.cell 0; have y1 := hm5.frozen 0))
    all_goals
      have HE := hide (snd_end (x := (lo, hi)) (unhide HB4) (unhide HO4) (unhide HL4) hl h0 hgrow5 hown5 (unhide HF4))
      go_end0
      exact ⟨⟨_, rfl⟩, unhide HE⟩
end Go.Proofs.YtnnbaodillnkkaaGreat
