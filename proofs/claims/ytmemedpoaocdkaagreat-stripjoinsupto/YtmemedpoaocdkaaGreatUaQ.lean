/- What is wrong with a table, as the reference tells it. -/
import Derived.Test.YtmemedpoaocdkaaGreatM12
namespace Go.Proofs.YtmemedpoaocdkaaGreat
open Go.RowKit Go.Shelf
set_option linter.unusedVariables false
def zc0 (W:World) (v3:Value) (U:Nat→Value):Act:={ tmps:=#[U 0,.pointer (some ⟨W.heap.size,0,none⟩),.pointer (some ⟨W.heap.size+1,0,none⟩),v3,U 4,U 5,U 6,U 7,U 8,U 9,U 10,U 11,U 12,U 13,U 14,U 15,U 16,U 17,U 18,U 19,U 20,U 21,U 22,U 23,U 24,U 25,U 26,U 27,U 28,U 29,U 30,U 31,U 32,U 33,U 34,U 35,U 36],defers := [] }
noncomputable def uaCa:Code:=match Tryz.f37.body with
 | some (.seq _ (.seq _ (.seq c _))) =>c
 | _ =>.skip
set_option maxRecDepth 100000 in
set_option maxHeartbeats 8000000 in
theorem zoN (T:TV) (A:TbA) (W w:World) (B:Nat) (hTW:zhK W T A) (l:List (Int × Int × Int)) (y:Int × Int × Int) (hy:OkW y) (hC:(orW l).1=0→∀ w1,TbV w1 T (.agg #[.slice A.a0 T.sc.length A.c0,.slice A.a1 T.co.length A.c1,.slice A.a2 T.ma.length A.c2,.slice A.a3 T.pr.length A.c3,.slice A.a4 T.fo.length A.c4,.slice A.a5 T.lk.length A.c5,.slice A.a6 T.dr.length A.c6,.slice A.a7 T.al.length A.c7])→Calls Tryz.prog 55 #[.agg #[.slice A.a0 T.sc.length A.c0,.slice A.a1 T.co.length A.c1,.slice A.a2 T.ma.length A.c2,.slice A.a3 T.pr.length A.c3,.slice A.a4 T.fo.length A.c4,.slice A.a5 T.lk.length A.c5,.slice A.a6 T.dr.length A.c6,.slice A.a7 T.al.length A.c7]] w1 fun e w' =>e=.returned (wrV y)∧Below w1.heap.size w1 w')
  (h:CkS W w B T A (orW l)) (U:Nat→Value) {Q:Exit→Act→World→Prop}
  (hQ:∀ (a:Act) (wn:World),(∃ U',a=zc0 W (.pointer (some ⟨B,0,none⟩)) U')→Hz (CkS W wn B T A (orW (l++[y])))→Q .normal a wn) :
  Code.wp Tryz.prog uaCa Q (zc0 W (.pointer (some ⟨B,0,none⟩)) U) w:=by
 have HQ:=kz hQ
 have HX:=kz h
 have HC:=kz hC
 have HTW:=kz hTW
 have HV:=kz (zcG (l:=l) (y:=y) hy)
 obtain ⟨x,hx⟩:∃ x,orW l=x:=⟨_,rfl⟩
 rw [hx] at HX HV HC
 rw [oz HV] at HQ
 clear HV hQ h hx hy hC hTW
 obtain ⟨x0,x1,x2⟩:=x
 obtain ⟨y0,y1,y2⟩:=y
 unfold wrV at HC
 dsimp only at HC HQ HX
 delta uaCa Tryz.f37 zc0 at *
 dsimp only
 by_cases hx0:x0=0
 ·subst hx0
  rw [if_pos rfl] at HQ
  have s0:=(oz HX).bw.cell 0
  have g0:=(oz HX).bw.frozen 0
  have s1:=(oz HX).bw.cell 1
  have g1:=(oz HX).bw.frozen 1
  have s2:=(oz HX).bw.cell 2
  have g2:=(oz HX).bw.frozen 2
  have z0:=(oz HX).bx.cell 0
  have z1:=(oz HX).bx.cell 1
  have z2:=(oz HX).bx.cell 2
  have z3:=(oz HX).bx.cell 3
  have z4:=(oz HX).bx.cell 4
  have z5:=(oz HX).bx.cell 5
  have z6:=(oz HX).bx.cell 6
  have z7:=(oz HX).bx.cell 7
  go_wp2_with fail
  refine (oz HC (by first | trivial | rfl) _ ((oz HX).rx (oz HTW)).tb.tv).mono ?_
  rintro e w2 ⟨rfl,hb⟩
  have HX2:=kz ((oz HX).below hb)
  clear hb HC HX z0 z1 z2 z3 z4 z5 z6 z7
  clear s0 s1 s2 g0 g1 g2
  have s0:=(oz HX2).bw.cell 0
  have g0:=(oz HX2).bw.frozen 0
  have s1:=(oz HX2).bw.cell 1
  have g1:=(oz HX2).bw.frozen 1
  have s2:=(oz HX2).bw.cell 2
  have g2:=(oz HX2).bw.frozen 2
  go_wp2_with fail
  exact oz HQ _ _ (zax rfl) (kz ((oz HX2).put (y0,y1,y2)))
 ·rw [if_neg hx0] at HQ
  have q:(x0 == 0)=false:=by simpa using hx0
  have s0:=(oz HX).bw.cell 0
  have g0:=(oz HX).bw.frozen 0
  have s1:=(oz HX).bw.cell 1
  have g1:=(oz HX).bw.frozen 1
  have s2:=(oz HX).bw.cell 2
  have g2:=(oz HX).bw.frozen 2
  go_wp2_with fail
  exact oz HQ _ _ (zax rfl) HX
noncomputable def uaCb:Code:=match Tryz.f37.body with
 | some (.seq _ (.seq _ (.seq _ (.seq c _)))) =>c
 | _ =>.skip
set_option maxRecDepth 100000 in
set_option maxHeartbeats 8000000 in
theorem zoM (T:TV) (A:TbA) (W w:World) (B:Nat) (hTW:zhK W T A) (l:List (Int × Int × Int)) (y:Int × Int × Int) (hy:OkW y) (hC:(orW l).1=0→∀ w1,TbV w1 T (.agg #[.slice A.a0 T.sc.length A.c0,.slice A.a1 T.co.length A.c1,.slice A.a2 T.ma.length A.c2,.slice A.a3 T.pr.length A.c3,.slice A.a4 T.fo.length A.c4,.slice A.a5 T.lk.length A.c5,.slice A.a6 T.dr.length A.c6,.slice A.a7 T.al.length A.c7])→Calls Tryz.prog 56 #[.agg #[.slice A.a0 T.sc.length A.c0,.slice A.a1 T.co.length A.c1,.slice A.a2 T.ma.length A.c2,.slice A.a3 T.pr.length A.c3,.slice A.a4 T.fo.length A.c4,.slice A.a5 T.lk.length A.c5,.slice A.a6 T.dr.length A.c6,.slice A.a7 T.al.length A.c7]] w1 fun e w' =>e=.returned (wrV y)∧Below w1.heap.size w1 w')
  (h:CkS W w B T A (orW l)) (U:Nat→Value) {Q:Exit→Act→World→Prop}
  (hQ:∀ (a:Act) (wn:World),(∃ U',a=zc0 W (.pointer (some ⟨B,0,none⟩)) U')→Hz (CkS W wn B T A (orW (l++[y])))→Q .normal a wn) :
  Code.wp Tryz.prog uaCb Q (zc0 W (.pointer (some ⟨B,0,none⟩)) U) w:=by
 have HQ:=kz hQ
 have HX:=kz h
 have HC:=kz hC
 have HTW:=kz hTW
 have HV:=kz (zcG (l:=l) (y:=y) hy)
 obtain ⟨x,hx⟩:∃ x,orW l=x:=⟨_,rfl⟩
 rw [hx] at HX HV HC
 rw [oz HV] at HQ
 clear HV hQ h hx hy hC hTW
 obtain ⟨x0,x1,x2⟩:=x
 obtain ⟨y0,y1,y2⟩:=y
 unfold wrV at HC
 dsimp only at HC HQ HX
 delta uaCb Tryz.f37 zc0 at *
 dsimp only
 by_cases hx0:x0=0
 ·subst hx0
  rw [if_pos rfl] at HQ
  have s0:=(oz HX).bw.cell 0
  have g0:=(oz HX).bw.frozen 0
  have s1:=(oz HX).bw.cell 1
  have g1:=(oz HX).bw.frozen 1
  have s2:=(oz HX).bw.cell 2
  have g2:=(oz HX).bw.frozen 2
  have z0:=(oz HX).bx.cell 0
  have z1:=(oz HX).bx.cell 1
  have z2:=(oz HX).bx.cell 2
  have z3:=(oz HX).bx.cell 3
  have z4:=(oz HX).bx.cell 4
  have z5:=(oz HX).bx.cell 5
  have z6:=(oz HX).bx.cell 6
  have z7:=(oz HX).bx.cell 7
  go_wp2_with fail
  refine (oz HC (by first | trivial | rfl) _ ((oz HX).rx (oz HTW)).tb.tv).mono ?_
  rintro e w2 ⟨rfl,hb⟩
  have HX2:=kz ((oz HX).below hb)
  clear hb HC HX z0 z1 z2 z3 z4 z5 z6 z7
  clear s0 s1 s2 g0 g1 g2
  have s0:=(oz HX2).bw.cell 0
  have g0:=(oz HX2).bw.frozen 0
  have s1:=(oz HX2).bw.cell 1
  have g1:=(oz HX2).bw.frozen 1
  have s2:=(oz HX2).bw.cell 2
  have g2:=(oz HX2).bw.frozen 2
  go_wp2_with fail
  exact oz HQ _ _ (zax rfl) (kz ((oz HX2).put (y0,y1,y2)))
 ·rw [if_neg hx0] at HQ
  have q:(x0 == 0)=false:=by simpa using hx0
  have s0:=(oz HX).bw.cell 0
  have g0:=(oz HX).bw.frozen 0
  have s1:=(oz HX).bw.cell 1
  have g1:=(oz HX).bw.frozen 1
  have s2:=(oz HX).bw.cell 2
  have g2:=(oz HX).bw.frozen 2
  go_wp2_with fail
  exact oz HQ _ _ (zax rfl) HX
noncomputable def uaCc:Code:=match Tryz.f37.body with
 | some (.seq _ (.seq _ (.seq _ (.seq _ (.seq c _))))) =>c
 | _ =>.skip
set_option maxRecDepth 100000 in
set_option maxHeartbeats 8000000 in
theorem zoL (T:TV) (A:TbA) (W w:World) (B:Nat) (hTW:zhK W T A) (l:List (Int × Int × Int)) (y:Int × Int × Int) (hy:OkW y) (hC:(orW l).1=0→∀ w1,TbV w1 T (.agg #[.slice A.a0 T.sc.length A.c0,.slice A.a1 T.co.length A.c1,.slice A.a2 T.ma.length A.c2,.slice A.a3 T.pr.length A.c3,.slice A.a4 T.fo.length A.c4,.slice A.a5 T.lk.length A.c5,.slice A.a6 T.dr.length A.c6,.slice A.a7 T.al.length A.c7])→Calls Tryz.prog 57 #[.agg #[.slice A.a0 T.sc.length A.c0,.slice A.a1 T.co.length A.c1,.slice A.a2 T.ma.length A.c2,.slice A.a3 T.pr.length A.c3,.slice A.a4 T.fo.length A.c4,.slice A.a5 T.lk.length A.c5,.slice A.a6 T.dr.length A.c6,.slice A.a7 T.al.length A.c7]] w1 fun e w' =>e=.returned (wrV y)∧Below w1.heap.size w1 w')
  (h:CkS W w B T A (orW l)) (U:Nat→Value) {Q:Exit→Act→World→Prop}
  (hQ:∀ (a:Act) (wn:World),(∃ U',a=zc0 W (.pointer (some ⟨B,0,none⟩)) U')→Hz (CkS W wn B T A (orW (l++[y])))→Q .normal a wn) :
  Code.wp Tryz.prog uaCc Q (zc0 W (.pointer (some ⟨B,0,none⟩)) U) w:=by
 have HQ:=kz hQ
 have HX:=kz h
 have HC:=kz hC
 have HTW:=kz hTW
 have HV:=kz (zcG (l:=l) (y:=y) hy)
 obtain ⟨x,hx⟩:∃ x,orW l=x:=⟨_,rfl⟩
 rw [hx] at HX HV HC
 rw [oz HV] at HQ
 clear HV hQ h hx hy hC hTW
 obtain ⟨x0,x1,x2⟩:=x
 obtain ⟨y0,y1,y2⟩:=y
 unfold wrV at HC
 dsimp only at HC HQ HX
 delta uaCc Tryz.f37 zc0 at *
 dsimp only
 by_cases hx0:x0=0
 ·subst hx0
  rw [if_pos rfl] at HQ
  have s0:=(oz HX).bw.cell 0
  have g0:=(oz HX).bw.frozen 0
  have s1:=(oz HX).bw.cell 1
  have g1:=(oz HX).bw.frozen 1
  have s2:=(oz HX).bw.cell 2
  have g2:=(oz HX).bw.frozen 2
  have z0:=(oz HX).bx.cell 0
  have z1:=(oz HX).bx.cell 1
  have z2:=(oz HX).bx.cell 2
  have z3:=(oz HX).bx.cell 3
  have z4:=(oz HX).bx.cell 4
  have z5:=(oz HX).bx.cell 5
  have z6:=(oz HX).bx.cell 6
  have z7:=(oz HX).bx.cell 7
  go_wp2_with fail
  refine (oz HC (by first | trivial | rfl) _ ((oz HX).rx (oz HTW)).tb.tv).mono ?_
  rintro e w2 ⟨rfl,hb⟩
  have HX2:=kz ((oz HX).below hb)
  clear hb HC HX z0 z1 z2 z3 z4 z5 z6 z7
  clear s0 s1 s2 g0 g1 g2
  have s0:=(oz HX2).bw.cell 0
  have g0:=(oz HX2).bw.frozen 0
  have s1:=(oz HX2).bw.cell 1
  have g1:=(oz HX2).bw.frozen 1
  have s2:=(oz HX2).bw.cell 2
  have g2:=(oz HX2).bw.frozen 2
  go_wp2_with fail
  exact oz HQ _ _ (zax rfl) (kz ((oz HX2).put (y0,y1,y2)))
 ·rw [if_neg hx0] at HQ
  have q:(x0 == 0)=false:=by simpa using hx0
  have s0:=(oz HX).bw.cell 0
  have g0:=(oz HX).bw.frozen 0
  have s1:=(oz HX).bw.cell 1
  have g1:=(oz HX).bw.frozen 1
  have s2:=(oz HX).bw.cell 2
  have g2:=(oz HX).bw.frozen 2
  go_wp2_with fail
  exact oz HQ _ _ (zax rfl) HX
noncomputable def uaCd:Code:=match Tryz.f37.body with
 | some (.seq _ (.seq _ (.seq _ (.seq _ (.seq _ (.seq c _)))))) =>c
 | _ =>.skip
set_option maxRecDepth 100000 in
set_option maxHeartbeats 8000000 in
theorem zoK (T:TV) (A:TbA) (W w:World) (B:Nat) (hTW:zhK W T A) (l:List (Int × Int × Int)) (y:Int × Int × Int) (hy:OkW y) (hC:(orW l).1=0→∀ w1,TbV w1 T (.agg #[.slice A.a0 T.sc.length A.c0,.slice A.a1 T.co.length A.c1,.slice A.a2 T.ma.length A.c2,.slice A.a3 T.pr.length A.c3,.slice A.a4 T.fo.length A.c4,.slice A.a5 T.lk.length A.c5,.slice A.a6 T.dr.length A.c6,.slice A.a7 T.al.length A.c7])→Calls Tryz.prog 58 #[.agg #[.slice A.a0 T.sc.length A.c0,.slice A.a1 T.co.length A.c1,.slice A.a2 T.ma.length A.c2,.slice A.a3 T.pr.length A.c3,.slice A.a4 T.fo.length A.c4,.slice A.a5 T.lk.length A.c5,.slice A.a6 T.dr.length A.c6,.slice A.a7 T.al.length A.c7]] w1 fun e w' =>e=.returned (wrV y)∧Below w1.heap.size w1 w')
  (h:CkS W w B T A (orW l)) (U:Nat→Value) {Q:Exit→Act→World→Prop}
  (hQ:∀ (a:Act) (wn:World),(∃ U',a=zc0 W (.pointer (some ⟨B,0,none⟩)) U')→Hz (CkS W wn B T A (orW (l++[y])))→Q .normal a wn) :
  Code.wp Tryz.prog uaCd Q (zc0 W (.pointer (some ⟨B,0,none⟩)) U) w:=by
 have HQ:=kz hQ
 have HX:=kz h
 have HC:=kz hC
 have HTW:=kz hTW
 have HV:=kz (zcG (l:=l) (y:=y) hy)
 obtain ⟨x,hx⟩:∃ x,orW l=x:=⟨_,rfl⟩
 rw [hx] at HX HV HC
 rw [oz HV] at HQ
 clear HV hQ h hx hy hC hTW
 obtain ⟨x0,x1,x2⟩:=x
 obtain ⟨y0,y1,y2⟩:=y
 unfold wrV at HC
 dsimp only at HC HQ HX
 delta uaCd Tryz.f37 zc0 at *
 dsimp only
 by_cases hx0:x0=0
 ·subst hx0
  rw [if_pos rfl] at HQ
  have s0:=(oz HX).bw.cell 0
  have g0:=(oz HX).bw.frozen 0
  have s1:=(oz HX).bw.cell 1
  have g1:=(oz HX).bw.frozen 1
  have s2:=(oz HX).bw.cell 2
  have g2:=(oz HX).bw.frozen 2
  have z0:=(oz HX).bx.cell 0
  have z1:=(oz HX).bx.cell 1
  have z2:=(oz HX).bx.cell 2
  have z3:=(oz HX).bx.cell 3
  have z4:=(oz HX).bx.cell 4
  have z5:=(oz HX).bx.cell 5
  have z6:=(oz HX).bx.cell 6
  have z7:=(oz HX).bx.cell 7
  go_wp2_with fail
  refine (oz HC (by first | trivial | rfl) _ ((oz HX).rx (oz HTW)).tb.tv).mono ?_
  rintro e w2 ⟨rfl,hb⟩
  have HX2:=kz ((oz HX).below hb)
  clear hb HC HX z0 z1 z2 z3 z4 z5 z6 z7
  clear s0 s1 s2 g0 g1 g2
  have s0:=(oz HX2).bw.cell 0
  have g0:=(oz HX2).bw.frozen 0
  have s1:=(oz HX2).bw.cell 1
  have g1:=(oz HX2).bw.frozen 1
  have s2:=(oz HX2).bw.cell 2
  have g2:=(oz HX2).bw.frozen 2
  go_wp2_with fail
  exact oz HQ _ _ (zax rfl) (kz ((oz HX2).put (y0,y1,y2)))
 ·rw [if_neg hx0] at HQ
  have q:(x0 == 0)=false:=by simpa using hx0
  have s0:=(oz HX).bw.cell 0
  have g0:=(oz HX).bw.frozen 0
  have s1:=(oz HX).bw.cell 1
  have g1:=(oz HX).bw.frozen 1
  have s2:=(oz HX).bw.cell 2
  have g2:=(oz HX).bw.frozen 2
  go_wp2_with fail
  exact oz HQ _ _ (zax rfl) HX
noncomputable def uaCe:Code:=match Tryz.f37.body with
 | some (.seq _ (.seq _ (.seq _ (.seq _ (.seq _ (.seq _ (.seq c _))))))) =>c
 | _ =>.skip
set_option maxRecDepth 100000 in
set_option maxHeartbeats 8000000 in
theorem zoJ (T:TV) (A:TbA) (W w:World) (B:Nat) (hTW:zhK W T A) (l:List (Int × Int × Int)) (y:Int × Int × Int) (hy:OkW y) (hC:(orW l).1=0→∀ w1,TbV w1 T (.agg #[.slice A.a0 T.sc.length A.c0,.slice A.a1 T.co.length A.c1,.slice A.a2 T.ma.length A.c2,.slice A.a3 T.pr.length A.c3,.slice A.a4 T.fo.length A.c4,.slice A.a5 T.lk.length A.c5,.slice A.a6 T.dr.length A.c6,.slice A.a7 T.al.length A.c7])→Calls Tryz.prog 59 #[.agg #[.slice A.a0 T.sc.length A.c0,.slice A.a1 T.co.length A.c1,.slice A.a2 T.ma.length A.c2,.slice A.a3 T.pr.length A.c3,.slice A.a4 T.fo.length A.c4,.slice A.a5 T.lk.length A.c5,.slice A.a6 T.dr.length A.c6,.slice A.a7 T.al.length A.c7]] w1 fun e w' =>e=.returned (wrV y)∧Below w1.heap.size w1 w')
  (h:CkS W w B T A (orW l)) (U:Nat→Value) {Q:Exit→Act→World→Prop}
  (hQ:∀ (a:Act) (wn:World),(∃ U',a=zc0 W (.pointer (some ⟨B,0,none⟩)) U')→Hz (CkS W wn B T A (orW (l++[y])))→Q .normal a wn) :
  Code.wp Tryz.prog uaCe Q (zc0 W (.pointer (some ⟨B,0,none⟩)) U) w:=by
 have HQ:=kz hQ
 have HX:=kz h
 have HC:=kz hC
 have HTW:=kz hTW
 have HV:=kz (zcG (l:=l) (y:=y) hy)
 obtain ⟨x,hx⟩:∃ x,orW l=x:=⟨_,rfl⟩
 rw [hx] at HX HV HC
 rw [oz HV] at HQ
 clear HV hQ h hx hy hC hTW
 obtain ⟨x0,x1,x2⟩:=x
 obtain ⟨y0,y1,y2⟩:=y
 unfold wrV at HC
 dsimp only at HC HQ HX
 delta uaCe Tryz.f37 zc0 at *
 dsimp only
 by_cases hx0:x0=0
 ·subst hx0
  rw [if_pos rfl] at HQ
  have s0:=(oz HX).bw.cell 0
  have g0:=(oz HX).bw.frozen 0
  have s1:=(oz HX).bw.cell 1
  have g1:=(oz HX).bw.frozen 1
  have s2:=(oz HX).bw.cell 2
  have g2:=(oz HX).bw.frozen 2
  have z0:=(oz HX).bx.cell 0
  have z1:=(oz HX).bx.cell 1
  have z2:=(oz HX).bx.cell 2
  have z3:=(oz HX).bx.cell 3
  have z4:=(oz HX).bx.cell 4
  have z5:=(oz HX).bx.cell 5
  have z6:=(oz HX).bx.cell 6
  have z7:=(oz HX).bx.cell 7
  go_wp2_with fail
  refine (oz HC (by first | trivial | rfl) _ ((oz HX).rx (oz HTW)).tb.tv).mono ?_
  rintro e w2 ⟨rfl,hb⟩
  have HX2:=kz ((oz HX).below hb)
  clear hb HC HX z0 z1 z2 z3 z4 z5 z6 z7
  clear s0 s1 s2 g0 g1 g2
  have s0:=(oz HX2).bw.cell 0
  have g0:=(oz HX2).bw.frozen 0
  have s1:=(oz HX2).bw.cell 1
  have g1:=(oz HX2).bw.frozen 1
  have s2:=(oz HX2).bw.cell 2
  have g2:=(oz HX2).bw.frozen 2
  go_wp2_with fail
  exact oz HQ _ _ (zax rfl) (kz ((oz HX2).put (y0,y1,y2)))
 ·rw [if_neg hx0] at HQ
  have q:(x0 == 0)=false:=by simpa using hx0
  have s0:=(oz HX).bw.cell 0
  have g0:=(oz HX).bw.frozen 0
  have s1:=(oz HX).bw.cell 1
  have g1:=(oz HX).bw.frozen 1
  have s2:=(oz HX).bw.cell 2
  have g2:=(oz HX).bw.frozen 2
  go_wp2_with fail
  exact oz HQ _ _ (zax rfl) HX
noncomputable def uaCf:Code:=match Tryz.f37.body with
 | some (.seq _ (.seq _ (.seq _ (.seq _ (.seq _ (.seq _ (.seq _ (.seq c _)))))))) =>c
 | _ =>.skip
set_option maxRecDepth 100000 in
set_option maxHeartbeats 8000000 in
theorem zoI (T:TV) (A:TbA) (W w:World) (B:Nat) (hTW:zhK W T A) (l:List (Int × Int × Int)) (y:Int × Int × Int) (hy:OkW y) (hC:(orW l).1=0→∀ w1,TbV w1 T (.agg #[.slice A.a0 T.sc.length A.c0,.slice A.a1 T.co.length A.c1,.slice A.a2 T.ma.length A.c2,.slice A.a3 T.pr.length A.c3,.slice A.a4 T.fo.length A.c4,.slice A.a5 T.lk.length A.c5,.slice A.a6 T.dr.length A.c6,.slice A.a7 T.al.length A.c7])→Calls Tryz.prog 60 #[.agg #[.slice A.a0 T.sc.length A.c0,.slice A.a1 T.co.length A.c1,.slice A.a2 T.ma.length A.c2,.slice A.a3 T.pr.length A.c3,.slice A.a4 T.fo.length A.c4,.slice A.a5 T.lk.length A.c5,.slice A.a6 T.dr.length A.c6,.slice A.a7 T.al.length A.c7]] w1 fun e w' =>e=.returned (wrV y)∧Below w1.heap.size w1 w')
  (h:CkS W w B T A (orW l)) (U:Nat→Value) {Q:Exit→Act→World→Prop}
  (hQ:∀ (a:Act) (wn:World),(∃ U',a=zc0 W (.pointer (some ⟨B,0,none⟩)) U')→Hz (CkS W wn B T A (orW (l++[y])))→Q .normal a wn) :
  Code.wp Tryz.prog uaCf Q (zc0 W (.pointer (some ⟨B,0,none⟩)) U) w:=by
 have HQ:=kz hQ
 have HX:=kz h
 have HC:=kz hC
 have HTW:=kz hTW
 have HV:=kz (zcG (l:=l) (y:=y) hy)
 obtain ⟨x,hx⟩:∃ x,orW l=x:=⟨_,rfl⟩
 rw [hx] at HX HV HC
 rw [oz HV] at HQ
 clear HV hQ h hx hy hC hTW
 obtain ⟨x0,x1,x2⟩:=x
 obtain ⟨y0,y1,y2⟩:=y
 unfold wrV at HC
 dsimp only at HC HQ HX
 delta uaCf Tryz.f37 zc0 at *
 dsimp only
 by_cases hx0:x0=0
 ·subst hx0
  rw [if_pos rfl] at HQ
  have s0:=(oz HX).bw.cell 0
  have g0:=(oz HX).bw.frozen 0
  have s1:=(oz HX).bw.cell 1
  have g1:=(oz HX).bw.frozen 1
  have s2:=(oz HX).bw.cell 2
  have g2:=(oz HX).bw.frozen 2
  have z0:=(oz HX).bx.cell 0
  have z1:=(oz HX).bx.cell 1
  have z2:=(oz HX).bx.cell 2
  have z3:=(oz HX).bx.cell 3
  have z4:=(oz HX).bx.cell 4
  have z5:=(oz HX).bx.cell 5
  have z6:=(oz HX).bx.cell 6
  have z7:=(oz HX).bx.cell 7
  go_wp2_with fail
  refine (oz HC (by first | trivial | rfl) _ ((oz HX).rx (oz HTW)).tb.tv).mono ?_
  rintro e w2 ⟨rfl,hb⟩
  have HX2:=kz ((oz HX).below hb)
  clear hb HC HX z0 z1 z2 z3 z4 z5 z6 z7
  clear s0 s1 s2 g0 g1 g2
  have s0:=(oz HX2).bw.cell 0
  have g0:=(oz HX2).bw.frozen 0
  have s1:=(oz HX2).bw.cell 1
  have g1:=(oz HX2).bw.frozen 1
  have s2:=(oz HX2).bw.cell 2
  have g2:=(oz HX2).bw.frozen 2
  go_wp2_with fail
  exact oz HQ _ _ (zax rfl) (kz ((oz HX2).put (y0,y1,y2)))
 ·rw [if_neg hx0] at HQ
  have q:(x0 == 0)=false:=by simpa using hx0
  have s0:=(oz HX).bw.cell 0
  have g0:=(oz HX).bw.frozen 0
  have s1:=(oz HX).bw.cell 1
  have g1:=(oz HX).bw.frozen 1
  have s2:=(oz HX).bw.cell 2
  have g2:=(oz HX).bw.frozen 2
  go_wp2_with fail
  exact oz HQ _ _ (zax rfl) HX
theorem zl0 (T:TV):orW [zbU T,zbl T,zbd T,orW [zbR T,zdA T],zcl T,orW [zcr T,zit T],zdt T]=zdI T:=by
 have e1:orW [zbU T,zbl T,zbd T,orW [zbR T,zdA T],zcl T,orW [zcr T,zit T],zdt T]=orW ([zbU T,zbl T,zbd T]++([orW [zbR T,zdA T]]++([zcl T]++([orW [zcr T,zit T]]++[zdt T])))):=rfl
 have e2:zdI T=orW ([zbU T,zbl T,zbd T]++([zbR T,zdA T]++([zcl T]++([zcr T,zit T]++[zdt T])))):=rfl
 rw [e1,e2,za5,za5 (l := [zbU T,zbl T,zbd T])]
 rw [za5 [orW [zbR T,zdA T]],za5 [zbR T,zdA T],zgh (zbA [zbR T,zdA T])]
 rw [za5 [zcl T],za5 [zcl T]]
 rw [za5 [orW [zcr T,zit T]],za5 [zcr T,zit T],zgh (zbA [zcr T,zit T])]
theorem zje {T:TV} {m:List (Int × Int × Int)} (h:(orW ([zbU T,zbl T,zbd T]++m)).1=0):zam T:=by
 refine zjf ?_
 rw [za5] at h
 by_cases e:(orW [zbU T,zbl T,zbd T]).1=0
 ·exact e
 ·rw [if_neg e] at h;exact absurd h e
set_option maxRecDepth 100000 in
set_option maxHeartbeats 8000000 in
theorem zkc (T:TV) (hT:TabB T) (v:Value) (W:World) (hv:TbV W T v) :
  Calls Tryz.prog 37 #[v] W fun e w' =>e=.returned (wrV (zdI T))∧Below W.heap.size W w':=by
 obtain ⟨A,rfl,hA⟩:=hv
 have HX:=kz (RxS.start hA)
 have HT:=kz hT
 have HTW:=kz hA
 have HV:∃ mb,Hz (orW [zbU T,zbl T,zbd T,orW [zbR T,zdA T],zcl T,orW [zcr T,zit T],zdt T]=mb):=⟨_,kz rfl⟩
 obtain ⟨mb,HV⟩:=HV
 rw [← zl0,oz HV]
 have HC:=kz (fun w (hv:TbV w T (.agg #[.slice A.a0 T.sc.length A.c0,.slice A.a1 T.co.length A.c1,.slice A.a2 T.ma.length A.c2,.slice A.a3 T.pr.length A.c3,.slice A.a4 T.fo.length A.c4,.slice A.a5 T.lk.length A.c5,.slice A.a6 T.dr.length A.c6,.slice A.a7 T.al.length A.c7])) =>zlF T hT _ w hv)
 obtain ⟨x,hx⟩:∃ x,zbU T=x:=⟨_,rfl⟩
 rw [hx] at HC
 have HXE:=kz hx
 clear hA hT hx
 obtain ⟨x0,x1,x2⟩:=x
 go_enter Tryz.func37,Tryz.ntmps37
 refine wp_seq_k (fun K0 hK0 =>?_)
 have HK0:=kz hK0
 clear hK0
 go_wp2_with fail
 refine oz HK0 _ _ ?_
 clear HK0 K0
 generalize (W.alloc (.cells #[.slice A.a0 T.sc.length A.c0,.slice A.a1 T.co.length A.c1,.slice A.a2 T.ma.length A.c2,.slice A.a3 T.pr.length A.c3,.slice A.a4 T.fo.length A.c4,.slice A.a5 T.lk.length A.c5,.slice A.a6 T.dr.length A.c6,.slice A.a7 T.al.length A.c7] 28)).alloc (.cells #[.int .i64 0,.int .i64 0,.int .i64 0] 76)=w0 at *
 have hR:∀ (y l k:Int),mb=(y,l,k)→∀ (a:Act) (wn:World),a.tmps.getD 2 undef=.pointer (some ⟨W.heap.size+1,0,none⟩)→a.defers=[]→Hz (RxD W wn (y,l,k))→bodyPost Tryz.prog Tryz.f37 (fun e w' =>e=.returned (wrV mb)∧Below W.heap.size W w') .ret a wn:=fun y l k e a wn h1 h2 h3 =>by
  subst e
  exact bodyPost_ret (v:=wrV (y,l,k)) (zco Tryz.results37 h1 (oz h3).rs rfl) h2 ⟨rfl,(oz h3).bl⟩
 refine wp_seq_k (fun Ka hKa =>?_)
 have HKa:=kz hKa
 have HRR:=kz hR
 clear hKa hR
 have z0:=(oz HX).tb.z0
 have z1:=(oz HX).tb.z1
 have z2:=(oz HX).tb.z2
 have z3:=(oz HX).tb.z3
 have z4:=(oz HX).tb.z4
 have z5:=(oz HX).tb.z5
 have z6:=(oz HX).tb.z6
 have z7:=(oz HX).tb.z7
 go_wp2_with fail
 refine (oz HC _ (oz HX).tb.tv).mono ?_
 rintro e w2 ⟨rfl,hb⟩
 have HX2:=kz ((oz HX).below hb)
 have HK2:=kz (CkS.start (oz HX2) (x0,x1,x2))
 clear hb HC HX z0 z1 z2 z3 z4 z5 z6 z7
 unfold wrV
 have s0:=(oz HK2).bw.cell 0
 have s1:=(oz HK2).bw.cell 1
 have s2:=(oz HK2).bw.cell 2
 unfold wrC at *
 dsimp only at HK2 s0 s1 s2
 go_wp2_with fail
 refine oz HKa _ _ ?_
 clear HKa Ka s0 s1 s2
 obtain ⟨B,hB⟩:∃ B,B=w2.heap.size:=⟨_,rfl⟩
 rw [← hB] at HK2 ⊢
 generalize w2.alloc (.cells #[.int .i64 x0,.int .i64 x1,.int .i64 x2] 76)=w3 at *
 have HS0:Hz (CkS W w3 B T A (orW [zbU T])):=kz (by
  rw [zgh (show OkW (zbU T) from zbA _),oz HXE]
  exact oz HK2)
 clear hB HX2 HK2 HXE
 refine wp_seq_k (fun K1 hK1 =>?_)
 refine zaO (F:=zc0 W (.pointer (some ⟨B,0,none⟩))) (zax rfl) (fun U =>?_)
 refine zoN T A W _ B (oz HTW) [zbU T] (zbl T) (zbA _) (fun h0 w1 h1 =>zka T (oz HT) _ w1 h1) (oz HS0) U ?_
 intro a w4 ⟨U1,hU⟩ HS1
 subst hU
 refine hK1 _ _ ?_
 clear hK1 K1 HS0
 refine wp_seq_k (fun K2 hK2 =>?_)
 refine zaO (F:=zc0 W (.pointer (some ⟨B,0,none⟩))) ⟨U1,rfl⟩ (fun U =>?_)
 refine zoM T A W _ B (oz HTW) [zbU T,zbl T] (zbd T) (zbA _) (fun h0 w1 h1 =>zj7 T (oz HT) _ w1 h1) (oz HS1) U ?_
 intro a w5 ⟨U2,hU⟩ HS2
 subst hU
 refine hK2 _ _ ?_
 clear hK2 K2 HS1
 refine wp_seq_k (fun K3 hK3 =>?_)
 refine zaO (F:=zc0 W (.pointer (some ⟨B,0,none⟩))) ⟨U2,rfl⟩ (fun U =>?_)
 refine zoL T A W _ B (oz HTW) [zbU T,zbl T,zbd T] (orW [zbR T,zdA T]) (zbA _) (fun h0 w1 h1 =>zj8 T (oz HT) _ w1 h1) (oz HS2) U ?_
 intro a w6 ⟨U3,hU⟩ HS3
 subst hU
 refine hK3 _ _ ?_
 clear hK3 K3 HS2
 refine wp_seq_k (fun K4 hK4 =>?_)
 refine zaO (F:=zc0 W (.pointer (some ⟨B,0,none⟩))) ⟨U3,rfl⟩ (fun U =>?_)
 refine zoK T A W _ B (oz HTW) [zbU T,zbl T,zbd T,orW [zbR T,zdA T]] (zcl T) (zbA _) (fun h0 w1 h1 =>zkb T (oz HT) _ w1 h1) (oz HS3) U ?_
 intro a w7 ⟨U4,hU⟩ HS4
 subst hU
 refine hK4 _ _ ?_
 clear hK4 K4 HS3
 refine wp_seq_k (fun K5 hK5 =>?_)
 refine zaO (F:=zc0 W (.pointer (some ⟨B,0,none⟩))) ⟨U4,rfl⟩ (fun U =>?_)
 refine zoJ T A W _ B (oz HTW) [zbU T,zbl T,zbd T,orW [zbR T,zdA T],zcl T] (orW [zcr T,zit T]) (zbA _) (fun h0 w1 h1 =>by rw [zoR];exact zmR T (oz HT) (zje (m := [orW [zbR T,zdA T],zcl T]) h0) _ w1 h1) (oz HS4) U ?_
 intro a w8 ⟨U5,hU⟩ HS5
 subst hU
 refine hK5 _ _ ?_
 clear hK5 K5 HS4
 refine wp_seq_k (fun K6 hK6 =>?_)
 refine zaO (F:=zc0 W (.pointer (some ⟨B,0,none⟩))) ⟨U5,rfl⟩ (fun U =>?_)
 refine zoI T A W _ B (oz HTW) [zbU T,zbl T,zbd T,orW [zbR T,zdA T],zcl T,orW [zcr T,zit T]] (zdt T) (zbA _) (fun h0 w1 h1 =>zj9 T (oz HT) (zje (m := [orW [zbR T,zdA T],zcl T,orW [zcr T,zit T]]) h0) _ w1 h1) (oz HS5) U ?_
 intro a w9 ⟨U6,hU⟩ HS6
 subst hU
 refine hK6 _ _ ?_
 clear hK6 K6 HS5
 have HK10:Hz (CkS W w9 B T A mb):=kz (by
  have:=oz HS6
  rw [← oz HV]
  exact this)
 obtain ⟨m0,m1,m2⟩:=mb
 clear HV HS6
 unfold zc0
 have s0:=(oz HK10).bw.cell 0
 have s1:=(oz HK10).bw.cell 1
 have s2:=(oz HK10).bw.cell 2
 have r0:=(oz HK10).rs.cell 0
 have f0:=(oz HK10).rs.frozen 0
 have r1:=(oz HK10).rs.cell 1
 have f1:=(oz HK10).rs.frozen 1
 have r2:=(oz HK10).rs.cell 2
 have f2:=(oz HK10).rs.frozen 2
 go_wp2_with fail
 exact oz HRR _ _ _ rfl _ _ rfl rfl (kz (oz HK10).end)
end Go.Proofs.YtmemedpoaocdkaaGreat
