/- Texts of this claim, one behind the other. -/
import Derived.Test.YthchopdfmchpkaaGreatM10
import Derived.Laws.AppendOwn
import Derived.Laws.MakeOwn
import Derived.Lib.SliceRun
import Derived.Lib.Walk
import Derived.Shelf.RegionOpenPlain
namespace Go.Proofs.YthchopdfmchpkaaGreat
set_option linter.unusedVariables false
section
open Go.RowKit Go.Shelf
set_option maxRecDepth 100000
set_option maxHeartbeats 8000000
def qY (W:World) (v3:Value) (U:Nat→Value):Act:={ tmps:=#[U 0,.pointer (some ⟨W.heap.size,0,none⟩),.pointer (some ⟨W.heap.size+1,0,none⟩),v3,U 4,U 5,U 6,U 7,U 8,U 9,U 10,U 11,U 12,U 13,U 14,U 15,U 16,U 17,U 18,U 19,U 20,U 21,U 22,U 23,U 24,U 25,U 26,U 27,U 28,U 29,U 30,U 31,U 32,U 33,U 34,U 35,U 36],defers := [] }
noncomputable def uaCa:Code:=match Tryz.f39.body with
 | some (.seq _ (.seq _ (.seq c _))) =>c
 | _ =>.skip
theorem zhm (T:TV) (A:TbA) (W w:World) (B:Nat) (hTW:Yb W T A) (l:List (Int × Int × Int)) (y:Int × Int × Int) (hy:OkW y) (hC:(orW l).1=0→∀ w1,TbV w1 T (.agg #[.slice A.a0 T.sc.length A.c0,.slice A.a1 T.co.length A.c1,.slice A.a2 T.ma.length A.c2,.slice A.a3 T.pr.length A.c3,.slice A.a4 T.fo.length A.c4,.slice A.a5 T.lk.length A.c5,.slice A.a6 T.dr.length A.c6,.slice A.a7 T.al.length A.c7])→Calls Tryz.prog 62 #[.agg #[.slice A.a0 T.sc.length A.c0,.slice A.a1 T.co.length A.c1,.slice A.a2 T.ma.length A.c2,.slice A.a3 T.pr.length A.c3,.slice A.a4 T.fo.length A.c4,.slice A.a5 T.lk.length A.c5,.slice A.a6 T.dr.length A.c6,.slice A.a7 T.al.length A.c7]] w1 fun e w' =>e=.returned (wrV y)∧Below w1.heap.size w1 w')
  (h:CkS W w B T A (orW l)) (U:Nat→Value) {Q:Exit→Act→World→Prop}
  (hQ:∀ (a:Act) (wn:World),(∃ U',a=qY W (.pointer (some ⟨B,0,none⟩)) U')→Hz (CkS W wn B T A (orW (l++[y])))→Q .normal a wn) :
  Code.wp Tryz.prog uaCa Q (qY W (.pointer (some ⟨B,0,none⟩)) U) w:=by
 have HQ:=kz hQ;have HX:=kz h;have HC:=kz hC;have HTW:=kz hTW;have HV:=kz (Xi (l:=l) (y:=y) hy);obtain ⟨x,hx⟩:∃ x,orW l=x:=⟨_,rfl⟩;rw [hx] at HX HV HC;rw [oz HV] at HQ;clear HV hQ h hx hy hC hTW;obtain ⟨x0,x1,x2⟩:=x;obtain ⟨y0,y1,y2⟩:=y;unfold wrV at HC;dsimp only at HC HQ HX
 delta uaCa Tryz.f39 qY at *
 dsimp only;by_cases hx0:x0=0
 ·subst hx0;rw [if_pos rfl] at HQ;have s0:=(oz HX).bw.cell 0;have g0:=(oz HX).bw.frozen 0;have s1:=(oz HX).bw.cell 1;have g1:=(oz HX).bw.frozen 1;have s2:=(oz HX).bw.cell 2;have g2:=(oz HX).bw.frozen 2;have z0:=(oz HX).bx.cell 0;have z1:=(oz HX).bx.cell 1;have z2:=(oz HX).bx.cell 2;have z3:=(oz HX).bx.cell 3;have z4:=(oz HX).bx.cell 4;have z5:=(oz HX).bx.cell 5;have z6:=(oz HX).bx.cell 6;have z7:=(oz HX).bx.cell 7;go_wp2_with fail
  refine (oz HC (by first | trivial | rfl) _ ((oz HX).rx (oz HTW)).tb.tv).mono ?_;rintro e w2 ⟨rfl,hb⟩;have HX2:=kz ((oz HX).below hb);clear hb HC HX z0 z1 z2 z3 z4 z5 z6 z7;clear s0 s1 s2 g0 g1 g2;have s0:=(oz HX2).bw.cell 0;have g0:=(oz HX2).bw.frozen 0;have s1:=(oz HX2).bw.cell 1;have g1:=(oz HX2).bw.frozen 1;have s2:=(oz HX2).bw.cell 2;have g2:=(oz HX2).bw.frozen 2;go_wp2_with fail
  exact oz HQ _ _ (zq rfl) (kz ((oz HX2).put (y0,y1,y2)))
 ·rw [if_neg hx0] at HQ;have q:(x0 == 0)=false:=by simpa using hx0
  have s0:=(oz HX).bw.cell 0;have g0:=(oz HX).bw.frozen 0;have s1:=(oz HX).bw.cell 1;have g1:=(oz HX).bw.frozen 1;have s2:=(oz HX).bw.cell 2;have g2:=(oz HX).bw.frozen 2;go_wp2_with fail
  exact oz HQ _ _ (zq rfl) HX
noncomputable def uaCb:Code:=match Tryz.f39.body with
 | some (.seq _ (.seq _ (.seq _ (.seq c _)))) =>c
 | _ =>.skip
theorem zhl (T:TV) (A:TbA) (W w:World) (B:Nat) (hTW:Yb W T A) (l:List (Int × Int × Int)) (y:Int × Int × Int) (hy:OkW y) (hC:(orW l).1=0→∀ w1,TbV w1 T (.agg #[.slice A.a0 T.sc.length A.c0,.slice A.a1 T.co.length A.c1,.slice A.a2 T.ma.length A.c2,.slice A.a3 T.pr.length A.c3,.slice A.a4 T.fo.length A.c4,.slice A.a5 T.lk.length A.c5,.slice A.a6 T.dr.length A.c6,.slice A.a7 T.al.length A.c7])→Calls Tryz.prog 63 #[.agg #[.slice A.a0 T.sc.length A.c0,.slice A.a1 T.co.length A.c1,.slice A.a2 T.ma.length A.c2,.slice A.a3 T.pr.length A.c3,.slice A.a4 T.fo.length A.c4,.slice A.a5 T.lk.length A.c5,.slice A.a6 T.dr.length A.c6,.slice A.a7 T.al.length A.c7]] w1 fun e w' =>e=.returned (wrV y)∧Below w1.heap.size w1 w')
  (h:CkS W w B T A (orW l)) (U:Nat→Value) {Q:Exit→Act→World→Prop}
  (hQ:∀ (a:Act) (wn:World),(∃ U',a=qY W (.pointer (some ⟨B,0,none⟩)) U')→Hz (CkS W wn B T A (orW (l++[y])))→Q .normal a wn) :
  Code.wp Tryz.prog uaCb Q (qY W (.pointer (some ⟨B,0,none⟩)) U) w:=by
 have HQ:=kz hQ;have HX:=kz h;have HC:=kz hC;have HTW:=kz hTW;have HV:=kz (Xi (l:=l) (y:=y) hy);obtain ⟨x,hx⟩:∃ x,orW l=x:=⟨_,rfl⟩;rw [hx] at HX HV HC;rw [oz HV] at HQ;clear HV hQ h hx hy hC hTW;obtain ⟨x0,x1,x2⟩:=x;obtain ⟨y0,y1,y2⟩:=y;unfold wrV at HC;dsimp only at HC HQ HX
 delta uaCb Tryz.f39 qY at *
 dsimp only;by_cases hx0:x0=0
 ·subst hx0;rw [if_pos rfl] at HQ;have s0:=(oz HX).bw.cell 0;have g0:=(oz HX).bw.frozen 0;have s1:=(oz HX).bw.cell 1;have g1:=(oz HX).bw.frozen 1;have s2:=(oz HX).bw.cell 2;have g2:=(oz HX).bw.frozen 2;have z0:=(oz HX).bx.cell 0;have z1:=(oz HX).bx.cell 1;have z2:=(oz HX).bx.cell 2;have z3:=(oz HX).bx.cell 3;have z4:=(oz HX).bx.cell 4;have z5:=(oz HX).bx.cell 5;have z6:=(oz HX).bx.cell 6;have z7:=(oz HX).bx.cell 7;go_wp2_with fail
  refine (oz HC (by first | trivial | rfl) _ ((oz HX).rx (oz HTW)).tb.tv).mono ?_;rintro e w2 ⟨rfl,hb⟩;have HX2:=kz ((oz HX).below hb);clear hb HC HX z0 z1 z2 z3 z4 z5 z6 z7;clear s0 s1 s2 g0 g1 g2;have s0:=(oz HX2).bw.cell 0;have g0:=(oz HX2).bw.frozen 0;have s1:=(oz HX2).bw.cell 1;have g1:=(oz HX2).bw.frozen 1;have s2:=(oz HX2).bw.cell 2;have g2:=(oz HX2).bw.frozen 2;go_wp2_with fail
  exact oz HQ _ _ (zq rfl) (kz ((oz HX2).put (y0,y1,y2)))
 ·rw [if_neg hx0] at HQ;have q:(x0 == 0)=false:=by simpa using hx0
  have s0:=(oz HX).bw.cell 0;have g0:=(oz HX).bw.frozen 0;have s1:=(oz HX).bw.cell 1;have g1:=(oz HX).bw.frozen 1;have s2:=(oz HX).bw.cell 2;have g2:=(oz HX).bw.frozen 2;go_wp2_with fail
  exact oz HQ _ _ (zq rfl) HX
noncomputable def uaCc:Code:=match Tryz.f39.body with
 | some (.seq _ (.seq _ (.seq _ (.seq _ (.seq c _))))) =>c
 | _ =>.skip
theorem zhk (T:TV) (A:TbA) (W w:World) (B:Nat) (hTW:Yb W T A) (l:List (Int × Int × Int)) (y:Int × Int × Int) (hy:OkW y) (hC:(orW l).1=0→∀ w1,TbV w1 T (.agg #[.slice A.a0 T.sc.length A.c0,.slice A.a1 T.co.length A.c1,.slice A.a2 T.ma.length A.c2,.slice A.a3 T.pr.length A.c3,.slice A.a4 T.fo.length A.c4,.slice A.a5 T.lk.length A.c5,.slice A.a6 T.dr.length A.c6,.slice A.a7 T.al.length A.c7])→Calls Tryz.prog 64 #[.agg #[.slice A.a0 T.sc.length A.c0,.slice A.a1 T.co.length A.c1,.slice A.a2 T.ma.length A.c2,.slice A.a3 T.pr.length A.c3,.slice A.a4 T.fo.length A.c4,.slice A.a5 T.lk.length A.c5,.slice A.a6 T.dr.length A.c6,.slice A.a7 T.al.length A.c7]] w1 fun e w' =>e=.returned (wrV y)∧Below w1.heap.size w1 w')
  (h:CkS W w B T A (orW l)) (U:Nat→Value) {Q:Exit→Act→World→Prop}
  (hQ:∀ (a:Act) (wn:World),(∃ U',a=qY W (.pointer (some ⟨B,0,none⟩)) U')→Hz (CkS W wn B T A (orW (l++[y])))→Q .normal a wn) :
  Code.wp Tryz.prog uaCc Q (qY W (.pointer (some ⟨B,0,none⟩)) U) w:=by
 have HQ:=kz hQ;have HX:=kz h;have HC:=kz hC;have HTW:=kz hTW;have HV:=kz (Xi (l:=l) (y:=y) hy);obtain ⟨x,hx⟩:∃ x,orW l=x:=⟨_,rfl⟩;rw [hx] at HX HV HC;rw [oz HV] at HQ;clear HV hQ h hx hy hC hTW;obtain ⟨x0,x1,x2⟩:=x;obtain ⟨y0,y1,y2⟩:=y;unfold wrV at HC;dsimp only at HC HQ HX
 delta uaCc Tryz.f39 qY at *
 dsimp only;by_cases hx0:x0=0
 ·subst hx0;rw [if_pos rfl] at HQ;have s0:=(oz HX).bw.cell 0;have g0:=(oz HX).bw.frozen 0;have s1:=(oz HX).bw.cell 1;have g1:=(oz HX).bw.frozen 1;have s2:=(oz HX).bw.cell 2;have g2:=(oz HX).bw.frozen 2;have z0:=(oz HX).bx.cell 0;have z1:=(oz HX).bx.cell 1;have z2:=(oz HX).bx.cell 2;have z3:=(oz HX).bx.cell 3;have z4:=(oz HX).bx.cell 4;have z5:=(oz HX).bx.cell 5;have z6:=(oz HX).bx.cell 6;have z7:=(oz HX).bx.cell 7;go_wp2_with fail
  refine (oz HC (by first | trivial | rfl) _ ((oz HX).rx (oz HTW)).tb.tv).mono ?_;rintro e w2 ⟨rfl,hb⟩;have HX2:=kz ((oz HX).below hb);clear hb HC HX z0 z1 z2 z3 z4 z5 z6 z7;clear s0 s1 s2 g0 g1 g2;have s0:=(oz HX2).bw.cell 0;have g0:=(oz HX2).bw.frozen 0;have s1:=(oz HX2).bw.cell 1;have g1:=(oz HX2).bw.frozen 1;have s2:=(oz HX2).bw.cell 2;have g2:=(oz HX2).bw.frozen 2;go_wp2_with fail
  exact oz HQ _ _ (zq rfl) (kz ((oz HX2).put (y0,y1,y2)))
 ·rw [if_neg hx0] at HQ;have q:(x0 == 0)=false:=by simpa using hx0
  have s0:=(oz HX).bw.cell 0;have g0:=(oz HX).bw.frozen 0;have s1:=(oz HX).bw.cell 1;have g1:=(oz HX).bw.frozen 1;have s2:=(oz HX).bw.cell 2;have g2:=(oz HX).bw.frozen 2;go_wp2_with fail
  exact oz HQ _ _ (zq rfl) HX
noncomputable def uaCd:Code:=match Tryz.f39.body with
 | some (.seq _ (.seq _ (.seq _ (.seq _ (.seq _ (.seq c _)))))) =>c
 | _ =>.skip
theorem zhj (T:TV) (A:TbA) (W w:World) (B:Nat) (hTW:Yb W T A) (l:List (Int × Int × Int)) (y:Int × Int × Int) (hy:OkW y) (hC:(orW l).1=0→∀ w1,TbV w1 T (.agg #[.slice A.a0 T.sc.length A.c0,.slice A.a1 T.co.length A.c1,.slice A.a2 T.ma.length A.c2,.slice A.a3 T.pr.length A.c3,.slice A.a4 T.fo.length A.c4,.slice A.a5 T.lk.length A.c5,.slice A.a6 T.dr.length A.c6,.slice A.a7 T.al.length A.c7])→Calls Tryz.prog 65 #[.agg #[.slice A.a0 T.sc.length A.c0,.slice A.a1 T.co.length A.c1,.slice A.a2 T.ma.length A.c2,.slice A.a3 T.pr.length A.c3,.slice A.a4 T.fo.length A.c4,.slice A.a5 T.lk.length A.c5,.slice A.a6 T.dr.length A.c6,.slice A.a7 T.al.length A.c7]] w1 fun e w' =>e=.returned (wrV y)∧Below w1.heap.size w1 w')
  (h:CkS W w B T A (orW l)) (U:Nat→Value) {Q:Exit→Act→World→Prop}
  (hQ:∀ (a:Act) (wn:World),(∃ U',a=qY W (.pointer (some ⟨B,0,none⟩)) U')→Hz (CkS W wn B T A (orW (l++[y])))→Q .normal a wn) :
  Code.wp Tryz.prog uaCd Q (qY W (.pointer (some ⟨B,0,none⟩)) U) w:=by
 have HQ:=kz hQ;have HX:=kz h;have HC:=kz hC;have HTW:=kz hTW;have HV:=kz (Xi (l:=l) (y:=y) hy);obtain ⟨x,hx⟩:∃ x,orW l=x:=⟨_,rfl⟩;rw [hx] at HX HV HC;rw [oz HV] at HQ;clear HV hQ h hx hy hC hTW;obtain ⟨x0,x1,x2⟩:=x;obtain ⟨y0,y1,y2⟩:=y;unfold wrV at HC;dsimp only at HC HQ HX
 delta uaCd Tryz.f39 qY at *
 dsimp only;by_cases hx0:x0=0
 ·subst hx0;rw [if_pos rfl] at HQ;have s0:=(oz HX).bw.cell 0;have g0:=(oz HX).bw.frozen 0;have s1:=(oz HX).bw.cell 1;have g1:=(oz HX).bw.frozen 1;have s2:=(oz HX).bw.cell 2;have g2:=(oz HX).bw.frozen 2;have z0:=(oz HX).bx.cell 0;have z1:=(oz HX).bx.cell 1;have z2:=(oz HX).bx.cell 2;have z3:=(oz HX).bx.cell 3;have z4:=(oz HX).bx.cell 4;have z5:=(oz HX).bx.cell 5;have z6:=(oz HX).bx.cell 6;have z7:=(oz HX).bx.cell 7;go_wp2_with fail
  refine (oz HC (by first | trivial | rfl) _ ((oz HX).rx (oz HTW)).tb.tv).mono ?_;rintro e w2 ⟨rfl,hb⟩;have HX2:=kz ((oz HX).below hb);clear hb HC HX z0 z1 z2 z3 z4 z5 z6 z7;clear s0 s1 s2 g0 g1 g2;have s0:=(oz HX2).bw.cell 0;have g0:=(oz HX2).bw.frozen 0;have s1:=(oz HX2).bw.cell 1;have g1:=(oz HX2).bw.frozen 1;have s2:=(oz HX2).bw.cell 2;have g2:=(oz HX2).bw.frozen 2;go_wp2_with fail
  exact oz HQ _ _ (zq rfl) (kz ((oz HX2).put (y0,y1,y2)))
 ·rw [if_neg hx0] at HQ;have q:(x0 == 0)=false:=by simpa using hx0
  have s0:=(oz HX).bw.cell 0;have g0:=(oz HX).bw.frozen 0;have s1:=(oz HX).bw.cell 1;have g1:=(oz HX).bw.frozen 1;have s2:=(oz HX).bw.cell 2;have g2:=(oz HX).bw.frozen 2;go_wp2_with fail
  exact oz HQ _ _ (zq rfl) HX
noncomputable def uaCe:Code:=match Tryz.f39.body with
 | some (.seq _ (.seq _ (.seq _ (.seq _ (.seq _ (.seq _ (.seq c _))))))) =>c
 | _ =>.skip
theorem zhi (T:TV) (A:TbA) (W w:World) (B:Nat) (hTW:Yb W T A) (l:List (Int × Int × Int)) (y:Int × Int × Int) (hy:OkW y) (hC:(orW l).1=0→∀ w1,TbV w1 T (.agg #[.slice A.a0 T.sc.length A.c0,.slice A.a1 T.co.length A.c1,.slice A.a2 T.ma.length A.c2,.slice A.a3 T.pr.length A.c3,.slice A.a4 T.fo.length A.c4,.slice A.a5 T.lk.length A.c5,.slice A.a6 T.dr.length A.c6,.slice A.a7 T.al.length A.c7])→Calls Tryz.prog 66 #[.agg #[.slice A.a0 T.sc.length A.c0,.slice A.a1 T.co.length A.c1,.slice A.a2 T.ma.length A.c2,.slice A.a3 T.pr.length A.c3,.slice A.a4 T.fo.length A.c4,.slice A.a5 T.lk.length A.c5,.slice A.a6 T.dr.length A.c6,.slice A.a7 T.al.length A.c7]] w1 fun e w' =>e=.returned (wrV y)∧Below w1.heap.size w1 w')
  (h:CkS W w B T A (orW l)) (U:Nat→Value) {Q:Exit→Act→World→Prop}
  (hQ:∀ (a:Act) (wn:World),(∃ U',a=qY W (.pointer (some ⟨B,0,none⟩)) U')→Hz (CkS W wn B T A (orW (l++[y])))→Q .normal a wn) :
  Code.wp Tryz.prog uaCe Q (qY W (.pointer (some ⟨B,0,none⟩)) U) w:=by
 have HQ:=kz hQ;have HX:=kz h;have HC:=kz hC;have HTW:=kz hTW;have HV:=kz (Xi (l:=l) (y:=y) hy);obtain ⟨x,hx⟩:∃ x,orW l=x:=⟨_,rfl⟩;rw [hx] at HX HV HC;rw [oz HV] at HQ;clear HV hQ h hx hy hC hTW;obtain ⟨x0,x1,x2⟩:=x;obtain ⟨y0,y1,y2⟩:=y;unfold wrV at HC;dsimp only at HC HQ HX
 delta uaCe Tryz.f39 qY at *
 dsimp only;by_cases hx0:x0=0
 ·subst hx0;rw [if_pos rfl] at HQ;have s0:=(oz HX).bw.cell 0;have g0:=(oz HX).bw.frozen 0;have s1:=(oz HX).bw.cell 1;have g1:=(oz HX).bw.frozen 1;have s2:=(oz HX).bw.cell 2;have g2:=(oz HX).bw.frozen 2;have z0:=(oz HX).bx.cell 0;have z1:=(oz HX).bx.cell 1;have z2:=(oz HX).bx.cell 2;have z3:=(oz HX).bx.cell 3;have z4:=(oz HX).bx.cell 4;have z5:=(oz HX).bx.cell 5;have z6:=(oz HX).bx.cell 6;have z7:=(oz HX).bx.cell 7;go_wp2_with fail
  refine (oz HC (by first | trivial | rfl) _ ((oz HX).rx (oz HTW)).tb.tv).mono ?_;rintro e w2 ⟨rfl,hb⟩;have HX2:=kz ((oz HX).below hb);clear hb HC HX z0 z1 z2 z3 z4 z5 z6 z7;clear s0 s1 s2 g0 g1 g2;have s0:=(oz HX2).bw.cell 0;have g0:=(oz HX2).bw.frozen 0;have s1:=(oz HX2).bw.cell 1;have g1:=(oz HX2).bw.frozen 1;have s2:=(oz HX2).bw.cell 2;have g2:=(oz HX2).bw.frozen 2;go_wp2_with fail
  exact oz HQ _ _ (zq rfl) (kz ((oz HX2).put (y0,y1,y2)))
 ·rw [if_neg hx0] at HQ;have q:(x0 == 0)=false:=by simpa using hx0
  have s0:=(oz HX).bw.cell 0;have g0:=(oz HX).bw.frozen 0;have s1:=(oz HX).bw.cell 1;have g1:=(oz HX).bw.frozen 1;have s2:=(oz HX).bw.cell 2;have g2:=(oz HX).bw.frozen 2;go_wp2_with fail
  exact oz HQ _ _ (zq rfl) HX
noncomputable def uaCf:Code:=match Tryz.f39.body with
 | some (.seq _ (.seq _ (.seq _ (.seq _ (.seq _ (.seq _ (.seq _ (.seq c _)))))))) =>c
 | _ =>.skip
theorem zhh (T:TV) (A:TbA) (W w:World) (B:Nat) (hTW:Yb W T A) (l:List (Int × Int × Int)) (y:Int × Int × Int) (hy:OkW y) (hC:(orW l).1=0→∀ w1,TbV w1 T (.agg #[.slice A.a0 T.sc.length A.c0,.slice A.a1 T.co.length A.c1,.slice A.a2 T.ma.length A.c2,.slice A.a3 T.pr.length A.c3,.slice A.a4 T.fo.length A.c4,.slice A.a5 T.lk.length A.c5,.slice A.a6 T.dr.length A.c6,.slice A.a7 T.al.length A.c7])→Calls Tryz.prog 67 #[.agg #[.slice A.a0 T.sc.length A.c0,.slice A.a1 T.co.length A.c1,.slice A.a2 T.ma.length A.c2,.slice A.a3 T.pr.length A.c3,.slice A.a4 T.fo.length A.c4,.slice A.a5 T.lk.length A.c5,.slice A.a6 T.dr.length A.c6,.slice A.a7 T.al.length A.c7]] w1 fun e w' =>e=.returned (wrV y)∧Below w1.heap.size w1 w')
  (h:CkS W w B T A (orW l)) (U:Nat→Value) {Q:Exit→Act→World→Prop}
  (hQ:∀ (a:Act) (wn:World),(∃ U',a=qY W (.pointer (some ⟨B,0,none⟩)) U')→Hz (CkS W wn B T A (orW (l++[y])))→Q .normal a wn) :
  Code.wp Tryz.prog uaCf Q (qY W (.pointer (some ⟨B,0,none⟩)) U) w:=by
 have HQ:=kz hQ;have HX:=kz h;have HC:=kz hC;have HTW:=kz hTW;have HV:=kz (Xi (l:=l) (y:=y) hy);obtain ⟨x,hx⟩:∃ x,orW l=x:=⟨_,rfl⟩;rw [hx] at HX HV HC;rw [oz HV] at HQ;clear HV hQ h hx hy hC hTW;obtain ⟨x0,x1,x2⟩:=x;obtain ⟨y0,y1,y2⟩:=y;unfold wrV at HC;dsimp only at HC HQ HX
 delta uaCf Tryz.f39 qY at *
 dsimp only;by_cases hx0:x0=0
 ·subst hx0;rw [if_pos rfl] at HQ;have s0:=(oz HX).bw.cell 0;have g0:=(oz HX).bw.frozen 0;have s1:=(oz HX).bw.cell 1;have g1:=(oz HX).bw.frozen 1;have s2:=(oz HX).bw.cell 2;have g2:=(oz HX).bw.frozen 2;have z0:=(oz HX).bx.cell 0;have z1:=(oz HX).bx.cell 1;have z2:=(oz HX).bx.cell 2;have z3:=(oz HX).bx.cell 3;have z4:=(oz HX).bx.cell 4;have z5:=(oz HX).bx.cell 5;have z6:=(oz HX).bx.cell 6;have z7:=(oz HX).bx.cell 7;go_wp2_with fail
  refine (oz HC (by first | trivial | rfl) _ ((oz HX).rx (oz HTW)).tb.tv).mono ?_;rintro e w2 ⟨rfl,hb⟩;have HX2:=kz ((oz HX).below hb);clear hb HC HX z0 z1 z2 z3 z4 z5 z6 z7;clear s0 s1 s2 g0 g1 g2;have s0:=(oz HX2).bw.cell 0;have g0:=(oz HX2).bw.frozen 0;have s1:=(oz HX2).bw.cell 1;have g1:=(oz HX2).bw.frozen 1;have s2:=(oz HX2).bw.cell 2;have g2:=(oz HX2).bw.frozen 2;go_wp2_with fail
  exact oz HQ _ _ (zq rfl) (kz ((oz HX2).put (y0,y1,y2)))
 ·rw [if_neg hx0] at HQ;have q:(x0 == 0)=false:=by simpa using hx0
  have s0:=(oz HX).bw.cell 0;have g0:=(oz HX).bw.frozen 0;have s1:=(oz HX).bw.cell 1;have g1:=(oz HX).bw.frozen 1;have s2:=(oz HX).bw.cell 2;have g2:=(oz HX).bw.frozen 2;go_wp2_with fail
  exact oz HQ _ _ (zq rfl) HX
theorem zeo (T:TV):orW [jL T,yT T,yQ T,orW [jQ T,XH T],qC T,orW [qP T,JI T],XK T]=XZ T:=by
 have e1:orW [jL T,yT T,yQ T,orW [jQ T,XH T],qC T,orW [qP T,JI T],XK T]=orW ([jL T,yT T,yQ T]++([orW [jQ T,XH T]]++([qC T]++([orW [qP T,JI T]]++[XK T])))):=rfl;have e2:XZ T=orW ([jL T,yT T,yQ T]++([jQ T,XH T]++([qC T]++([qP T,JI T]++[XK T])))):=rfl;rw [e1,e2,yM,yM (l := [jL T,yT T,yQ T])];rw [yM [orW [jQ T,XH T]],yM [jQ T,XH T],Jv (jJ [jQ T,XH T])];rw [yM [qC T],yM [qC T]];rw [yM [orW [qP T,JI T]],yM [qP T,JI T],Jv (jJ [qP T,JI T])]
theorem za6 {T:TV} {m:List (Int × Int × Int)} (h:(orW ([jL T,yT T,yQ T]++m)).1=0):zx T:=by
 refine za7 ?_;rw [yM] at h;by_cases e:(orW [jL T,yT T,yQ T]).1=0
 ·exact e
 ·rw [if_neg e] at h;exact absurd h e
theorem zcs (T:TV) (hT:TabB T) (v:Value) (W:World) (hv:TbV W T v) :
  Calls Tryz.prog 39 #[v] W fun e w' =>e=.returned (wrV (XZ T))∧Below W.heap.size W w':=by
 obtain ⟨A,rfl,hA⟩:=hv;have HX:=kz (RxS.start hA);have HT:=kz hT;have HTW:=kz hA;have HV:∃ mb,Hz (orW [jL T,yT T,yQ T,orW [jQ T,XH T],qC T,orW [qP T,JI T],XK T]=mb):=⟨_,kz rfl⟩;obtain ⟨mb,HV⟩:=HV;rw [← zeo,oz HV];have HC:=kz (fun w (hv:TbV w T (.agg #[.slice A.a0 T.sc.length A.c0,.slice A.a1 T.co.length A.c1,.slice A.a2 T.ma.length A.c2,.slice A.a3 T.pr.length A.c3,.slice A.a4 T.fo.length A.c4,.slice A.a5 T.lk.length A.c5,.slice A.a6 T.dr.length A.c6,.slice A.a7 T.al.length A.c7])) =>zd0 T hT _ w hv);obtain ⟨x,hx⟩:∃ x,jL T=x:=⟨_,rfl⟩;rw [hx] at HC;have HXE:=kz hx;clear hA hT hx;obtain ⟨x0,x1,x2⟩:=x;go_enter Tryz.func39,Tryz.ntmps39;refine wp_seq_k (fun K0 hK0 =>?_);have HK0:=kz hK0;clear hK0;go_wp2_with fail
 refine oz HK0 _ _ ?_;clear HK0 K0;generalize (W.alloc _).alloc _=w0 at *;have hR:∀ (y l k:Int),mb=(y,l,k)→∀ (a:Act) (wn:World),a.tmps.getD 2 undef=.pointer (some ⟨W.heap.size+1,0,none⟩)→a.defers=[]→Hz (RxD W wn (y,l,k))→bodyPost Tryz.prog Tryz.f39 (fun e w' =>e=.returned (wrV mb)∧Below W.heap.size W w') .ret a wn:=fun y l k e a wn h1 h2 h3 =>by
  subst e;exact XS (v:=wrV (y,l,k)) (jA Tryz.results39 h1 (oz h3).rs rfl) h2 ⟨rfl,(oz h3).bl⟩
 refine wp_seq_k (fun Ka hKa =>?_);have HKa:=kz hKa;have HRR:=kz hR;clear hKa hR;have z0:=(oz HX).tb.z0;have z1:=(oz HX).tb.z1;have z2:=(oz HX).tb.z2;have z3:=(oz HX).tb.z3;have z4:=(oz HX).tb.z4;have z5:=(oz HX).tb.z5;have z6:=(oz HX).tb.z6;have z7:=(oz HX).tb.z7;go_wp2_with fail
 refine (oz HC _ (oz HX).tb.tv).mono ?_;rintro e w2 ⟨rfl,hb⟩;have HX2:=kz ((oz HX).below hb);have HK2:=kz (CkS.start (oz HX2) (x0,x1,x2));clear hb HC HX z0 z1 z2 z3 z4 z5 z6 z7;unfold wrV;have s0:=(oz HK2).bw.cell 0;have s1:=(oz HK2).bw.cell 1;have s2:=(oz HK2).bw.cell 2;unfold wrC at *;dsimp only at HK2 s0 s1 s2;go_wp2_with fail
 refine oz HKa _ _ ?_;clear HKa Ka s0 s1 s2;obtain ⟨B,hB⟩:∃ B,B=w2.heap.size:=⟨_,rfl⟩;rw [← hB] at HK2 ⊢;generalize w2.alloc _=w3 at *;have HS0:Hz (CkS W w3 B T A (orW [jL T])):=kz (by
  rw [Jv (show OkW (jL T) from jJ _),oz HXE];exact oz HK2)
 clear hB HX2 HK2 HXE;refine wp_seq_k (fun K1 hK1 =>?_);refine zN (F:=qY W (.pointer (some ⟨B,0,none⟩))) (zq rfl) (fun U =>?_);refine zhm T A W _ B (oz HTW) [jL T] (yT T) (jJ _) (fun h0 w1 h1 =>zcp T (oz HT) _ w1 h1) (oz HS0) U ?_;intro a w4 ⟨U1,hU⟩ HS1;subst hU;refine hK1 _ _ ?_;clear hK1 K1 HS0;refine wp_seq_k (fun K2 hK2 =>?_);refine zN (F:=qY W (.pointer (some ⟨B,0,none⟩))) ⟨U1,rfl⟩ (fun U =>?_);refine zhl T A W _ B (oz HTW) [jL T,yT T] (yQ T) (jJ _) (fun h0 w1 h1 =>zcm T (oz HT) _ w1 h1) (oz HS1) U ?_;intro a w5 ⟨U2,hU⟩ HS2;subst hU;refine hK2 _ _ ?_;clear hK2 K2 HS1;refine wp_seq_k (fun K3 hK3 =>?_);refine zN (F:=qY W (.pointer (some ⟨B,0,none⟩))) ⟨U2,rfl⟩ (fun U =>?_);refine zhk T A W _ B (oz HTW) [jL T,yT T,yQ T] (orW [jQ T,XH T]) (jJ _) (fun h0 w1 h1 =>zcn T (oz HT) _ w1 h1) (oz HS2) U ?_;intro a w6 ⟨U3,hU⟩ HS3;subst hU;refine hK3 _ _ ?_;clear hK3 K3 HS2;refine wp_seq_k (fun K4 hK4 =>?_);refine zN (F:=qY W (.pointer (some ⟨B,0,none⟩))) ⟨U3,rfl⟩ (fun U =>?_);refine zhj T A W _ B (oz HTW) [jL T,yT T,yQ T,orW [jQ T,XH T]] (qC T) (jJ _) (fun h0 w1 h1 =>zcq T (oz HT) _ w1 h1) (oz HS3) U ?_;intro a w7 ⟨U4,hU⟩ HS4;subst hU;refine hK4 _ _ ?_;clear hK4 K4 HS3;refine wp_seq_k (fun K5 hK5 =>?_);refine zN (F:=qY W (.pointer (some ⟨B,0,none⟩))) ⟨U4,rfl⟩ (fun U =>?_);refine zhi T A W _ B (oz HTW) [jL T,yT T,yQ T,orW [jQ T,XH T],qC T] (orW [qP T,JI T]) (jJ _) (fun h0 w1 h1 =>by rw [zhp];exact zfL T (oz HT) (za6 (m := [orW [jQ T,XH T],qC T]) h0) _ w1 h1) (oz HS4) U ?_;intro a w8 ⟨U5,hU⟩ HS5;subst hU;refine hK5 _ _ ?_;clear hK5 K5 HS4;refine wp_seq_k (fun K6 hK6 =>?_);refine zN (F:=qY W (.pointer (some ⟨B,0,none⟩))) ⟨U5,rfl⟩ (fun U =>?_);refine zhh T A W _ B (oz HTW) [jL T,yT T,yQ T,orW [jQ T,XH T],qC T,orW [qP T,JI T]] (XK T) (jJ _) (fun h0 w1 h1 =>zco T (oz HT) (za6 (m := [orW [jQ T,XH T],qC T,orW [qP T,JI T]]) h0) _ w1 h1) (oz HS5) U ?_;intro a w9 ⟨U6,hU⟩ HS6;subst hU;refine hK6 _ _ ?_;clear hK6 K6 HS5;have HK10:Hz (CkS W w9 B T A mb):=kz (by
  have:=oz HS6;rw [← oz HV];exact this)
 obtain ⟨m0,m1,m2⟩:=mb;clear HV HS6;unfold qY;have s0:=(oz HK10).bw.cell 0;have s1:=(oz HK10).bw.cell 1;have s2:=(oz HK10).bw.cell 2;have r0:=(oz HK10).rs.cell 0;have f0:=(oz HK10).rs.frozen 0;have r1:=(oz HK10).rs.cell 1;have f1:=(oz HK10).rs.frozen 1;have r2:=(oz HK10).rs.cell 2;have f2:=(oz HK10).rs.frozen 2;go_wp2_with fail
 exact oz HRR _ _ _ rfl _ _ rfl rfl (kz (oz HK10).end)
set_option maxRecDepth 100000
set_option maxHeartbeats 8000000
structure KeptX (X:Nat→Prop) (w w':World):Prop where
 os:w'.os=w.os
 tape:w'.tape=w.tape
 output:w'.output=w.output
 size:w.heap.size≤w'.heap.size
 block:∀ k,k < w.heap.size→¬ X k→w'.heap[k]?=w.heap[k]?
theorem KeptX.refl (X:Nat→Prop) (w:World):KeptX X w w:=⟨rfl,rfl,rfl,zD,fun _ _ _ =>rfl⟩
theorem KeptX.trans {X:Nat→Prop} {a b c:World} (h:KeptX X a b) (g:KeptX X b c):KeptX X a c :=
 ⟨g.os.trans h.os,g.tape.trans h.tape,g.output.trans h.output,Nat.le_trans h.size g.size,fun k hk hx =>(g.block k (zaY hk h.size) hx).trans (h.block k hk hx)⟩
theorem zt {w w':World} (h:Below w.heap.size w w') (X:Nat→Prop):KeptX X w w':=⟨h.os,h.tape,h.output,h.size,fun k hk _ =>h.block k hk⟩
theorem KeptX.below {w w':World} (h:KeptX (fun _ =>False) w w'):Below w.heap.size w w':=⟨h.os,h.tape,h.output,h.size,fun k hk =>h.block k hk (fun q =>q)⟩
theorem KeptX.mono {X Y:Nat→Prop} {w w':World} (h:KeptX X w w') (g:∀ k,X k→Y k):KeptX Y w w':=⟨h.os,h.tape,h.output,h.size,fun k hk hx =>h.block k hk (fun q =>hx (g k q))⟩
theorem KeptX.cell {X:Nat→Prop} {w w':World} (h:KeptX X w w') {p:Addr} (hp:p.block < w.heap.size) (hx:¬ X p.block):w'.cell? p=w.cell? p:=by
 have e:=h.block p.block hp hx;unfold World.cell?;rw [e]
theorem KeptX.blk {X:Nat→Prop} {w w':World} (h:KeptX X w w') {B:Nat} {cs:Array Value} {t:TypeId} (hb:Blk w B cs t) (hx:¬ X B):Blk w' B cs t:=by
 have:=h.block B hb.lt hx;unfold Blk at hb ⊢;rw [this];exact hb
theorem KeptX.grown {X:Nat→Prop} {W w w':World} {R:Nat} (h:KeptX X W w) (hg:w.grownBy w' (some R)) (hR:W.heap.size≤R):KeptX X W w' :=
 ⟨hg.os.trans h.os,hg.tape.trans h.tape,hg.output.trans h.output,Nat.le_trans h.size hg.size,fun k hk hx =>(hg.block k (zaY hk h.size) (fun e =>by have:=Zo e;omega)).trans (h.block k hk hx)⟩
theorem KeptX.set3 {X:Nat→Prop} {W w:World} {R:Nat} (h:KeptX X W w) (hR:W.heap.size≤R) (x y z:Value):KeptX X W (((w.setCell ⟨R,0,none⟩ x).setCell ⟨R,1,none⟩ y).setCell ⟨R,2,none⟩ z) :=
 ((h.grown (yA w R 0 x) hR).grown (yA _ R 1 y) hR).grown (yA _ R 2 z) hR
theorem Ye (list:Int) (zs:List (ByteArray × List (Int × Int))) (us:List Value) (hus:us.length=zs.length) (hsl:∀ (j:Nat) (u:Value),us[j]?=some u→∃ p n d,u=Value.slice p n d) (hn:zs.length≤1000000) (a:Option Addr) (c G:Nat) (lb:Array Value) (eg:∀ args w,(callFunc G args).run Tryz.prog w=.ok (.enter G args) w)
  (f:Nat→Int) (X:Nat→Prop) (J:Nat→World→Prop) (lo:Nat) (W:World) (hlo:lo≤W.heap.size) (hX:∀ b,X b→lo≤b∧b < W.heap.size) (hr:RowC W lo a (jE zs us)) (h0:J 0 W)
  (hst:∀ i w w',J i w→Below w.heap.size w w'→J i w')
  (hcall:∀ (i:Nat) (x:(ByteArray × List (Int × Int))) (u:Value) (w:World),zs[i]?=some x→us[i]?=some u→KeptX X W w→J i w→Calls Tryz.prog G (#[.agg #[.string x.1,u]]++lb) w fun e w' =>e=.returned (.int .i64 (f i))∧J (i+1) w'∧KeptX X w w') :
  Calls Tryz.prog 122 #[.int .i64 list,.slice a zs.length c,.func (.func G) #[] lb] W fun e w' =>e=.returned (wrV (zG list zs.length f))∧KeptX X W w':=by
 have hB0:Below W.heap.size W (W.alloc (.cells #[.int .i64 0,.int .i64 0,.int .i64 0] 89)):=(Below.refl _ W).alloc zD _;have HS0:=kz (yB (zt hB0 X) (yB (Blk.new W #[.int .i64 0,.int .i64 0,.int .i64 0] 89) (hst 0 _ _ h0 hB0)));have HA:=kz hr;have HX:=kz (yB hlo hX);have HC:=kz (yB hst hcall);clear hB0 hr hlo hX hst hcall h0;go_enter Tryz.func122,Tryz.ntmps122;go_wp2;generalize W.alloc _=w1 at *;go_loopw [7,8,9,12] (fun _ _ _ s12 wr => ∃ k:Nat,k≤zs.length∧s12=.int .i64 k∧Hz (∀ i,i < k→f i=0)∧Hz (KeptX X W wr∧Blk wr W.heap.size #[.int .i64 0,.int .i64 0,.int .i64 0] 89∧J k wr)) (fun _ _ _ s12 _ =>zs.length - (intOf s12).toNat)
 case atStart =>exact ⟨0,Zn _,rfl,kz (fun i hi =>absurd hi (Nat.not_lt_zero _)),HS0⟩
 case round =>
  obtain ⟨k,hk,rfl,HF,HS⟩:=hrel;clear HS0;by_cases hkn:k < zs.length
  ·obtain ⟨x,hx⟩:∃ x,zs[k]?=some x:=⟨_,qR hkn⟩;obtain ⟨u,hu⟩:∃ u,us[k]?=some u:=⟨_,qR (by omega)⟩;obtain ⟨pu,nu,du,rfl⟩:=hsl k u hu;obtain ⟨g,q,rfl,hg,hc⟩:=oz HA (by rw [Zu zs us hus];omega);have e0:W.cell? ⟨g,q+k*2,none⟩=some (.string x.1):=hc _ _ (zbp zs us hus k x hx);have e1:W.cell? ⟨g,q+k*2+1,none⟩=some (.slice pu nu du):=by
    have h1:=hc (2*k+1) _ ((Zm zs us hus k).trans hu)
    rwa [show q+(2*k+1)=q+k*2+1 by omega] at h1
   have hgX:¬ X g:=fun q =>by have:=(oz HX).2 g q;omega
   have hgW:g < W.heap.size:=by have:=(oz HX).1;omega
   have c0:wr.cell? ⟨g,q+k*2,none⟩=some (.string x.1):=((oz HS).1.cell (p:=⟨g,q+k*2,none⟩) hgW hgX).trans e0;have c1:wr.cell? ⟨g,q+k*2+1,none⟩=some (.slice pu nu du):=((oz HS).1.cell (p:=⟨g,q+k*2+1,none⟩) hgW hgX).trans e1;have hB:Below wr.heap.size wr (wr.alloc (.cells #[.string x.1,.slice pu nu du] 96)):=(Below.refl _ wr).alloc zD _;have HL:=kz (oz HC).2;have HCL:=kz (oz HL k x _ (wr.alloc (.cells #[.string x.1,.slice pu nu du] 96)) hx hu ((oz HS).1.trans (zt hB X)) ((oz HC).1 k _ _ (oz HS).2.2 hB));have HR:=kz (((oz HS).1.trans (zt hB X)));have HRB:=kz ((oz HS).2.1.alloc (.cells #[.string x.1,.slice pu nu du] 96));have HRX:Hz (¬ X W.heap.size):=kz (fun q =>by have:=(oz HX).2 _ q;omega);have hk1:(k:Int) < (zs.length:Int):=by omega
   have hk2:=Zp k
   have HFK:Hz (f k=0→∀ i,i < k+1→f i=0):=kz (fun h i hi =>by
    rcases Nat.lt_or_ge i k with h1 | h1
    ·exact oz HF i h1
    ·obtain rfl:i=k:=by omega
     exact h)
   have HFB:Hz (f k≠0→zG list zs.length f=(f k,list,(k:Int))):=kz (fun h =>yU k hkn (oz HF) h);obtain ⟨x1,x2⟩:=x;dsimp only at c0 c1 HCL HR HRB;clear hx hu hc hB HL HS HF e0 e1 hgX hgW hg;generalize f k=y at *;by_cases hy:y=0
   ·subst hy;have HFK2:=kz (oz HFK rfl);clear HFK HFB;go_wp2_with (go_at_fn G;refine (oz HCL).mono ?_;rintro e w' ⟨rfl,hj',hk'⟩)
    exact ⟨⟨k+1,by omega,by go_num,HFK2,kz ⟨(oz HR).trans hk',hk'.blk (oz HRB) (oz HRX),hj'⟩⟩,by simp [intOf];omega⟩
   ·have hy1:(y == 0)=false:=by simpa using hy
    have HFB2:=kz (oz HFB hy);clear HFK HFB;go_wp2_with (go_at_fn G;refine (oz HCL).mono ?_;rintro e w' ⟨rfl,hj',hk'⟩;have HRB2:=kz (hk'.blk (oz HRB) (oz HRX));have r0:=(oz HRB2).cell 0;have r1:=(oz HRB2).cell 1;have r2:=(oz HRB2).cell 2;have f0:=(oz HRB2).frozen 0;have f1:=(oz HRB2).frozen 1;have f2:=(oz HRB2).frozen 2)
    rw [oz HFB2];exact XS (v:=wrV (y,list,(k:Int))) (jA Tryz.results122 rfl (jG (oz HRB2) _ _ _) rfl) rfl ⟨rfl,((oz HR).trans hk').set3 zD _ _ _⟩
  ·have hk1:¬ (k:Int) < (zs.length:Int):=by omega
   have HO2:Hz (zG list zs.length f=(0,0,0)):=kz (jW (fun i hi =>oz HF i (by omega)));have r0:=(oz HS).2.1.cell 0;have r1:=(oz HS).2.1.cell 1;have r2:=(oz HS).2.1.cell 2;have f0:=(oz HS).2.1.frozen 0;have f1:=(oz HS).2.1.frozen 1;have f2:=(oz HS).2.1.frozen 2;go_wp2_with fail
   rw [oz HO2];exact XS (v:=wrV (0,0,0)) (jA Tryz.results122 rfl (jG (oz HS).2.1 _ _ _) rfl) rfl ⟨rfl,(oz HS).1.set3 zD _ _ _⟩
theorem Y2 (list:Int) (zs:List (Int × Int)) (hn:zs.length≤1000000) (a:Option Addr) (c G:Nat) (lb:Array Value) (eg:∀ args w,(callFunc G args).run Tryz.prog w=.ok (.enter G args) w)
  (f:Nat→Int) (X:Nat→Prop) (J:Nat→World→Prop) (lo:Nat) (W:World) (hlo:lo≤W.heap.size) (hX:∀ b,X b→lo≤b∧b < W.heap.size) (hr:RowC W lo a (XP zs)) (h0:J 0 W)
  (hst:∀ i w w',J i w→Below w.heap.size w w'→J i w')
  (hcall:∀ (i:Nat) (x:(Int × Int)) (w:World),zs[i]?=some x→KeptX X W w→J i w→Calls Tryz.prog G (#[.agg #[.int .i32 x.1,.int .i64 x.2]]++lb) w fun e w' =>e=.returned (.int .i64 (f i))∧J (i+1) w'∧KeptX X w w') :
  Calls Tryz.prog 127 #[.int .i64 list,.slice a zs.length c,.func (.func G) #[] lb] W fun e w' =>e=.returned (wrV (zG list zs.length f))∧KeptX X W w':=by
 have hB0:Below W.heap.size W (W.alloc (.cells #[.int .i64 0,.int .i64 0,.int .i64 0] 89)):=(Below.refl _ W).alloc zD _;have HS0:=kz (yB (zt hB0 X) (yB (Blk.new W #[.int .i64 0,.int .i64 0,.int .i64 0] 89) (hst 0 _ _ h0 hB0)));have HA:=kz hr;have HX:=kz (yB hlo hX);have HC:=kz (yB hst hcall);clear hB0 hr hlo hX hst hcall h0;go_enter Tryz.func127,Tryz.ntmps127;go_wp2;generalize W.alloc _=w1 at *;go_loopw [7,8,9,12] (fun _ _ _ s12 wr => ∃ k:Nat,k≤zs.length∧s12=.int .i64 k∧Hz (∀ i,i < k→f i=0)∧Hz (KeptX X W wr∧Blk wr W.heap.size #[.int .i64 0,.int .i64 0,.int .i64 0] 89∧J k wr)) (fun _ _ _ s12 _ =>zs.length - (intOf s12).toNat)
 case atStart =>exact ⟨0,Zn _,rfl,kz (fun i hi =>absurd hi (Nat.not_lt_zero _)),HS0⟩
 case round =>
  obtain ⟨k,hk,rfl,HF,HS⟩:=hrel;clear HS0;by_cases hkn:k < zs.length
  ·obtain ⟨x,hx⟩:∃ x,zs[k]?=some x:=⟨_,qR hkn⟩;obtain ⟨g,q,rfl,hg,hc⟩:=oz HA (by rw [J3];omega);have e0:W.cell? ⟨g,q+k*2,none⟩=some (.int .i32 x.1):=hc _ _ (Qr _ k x hx).1;have e1:W.cell? ⟨g,q+k*2+1,none⟩=some (.int .i64 x.2):=hc _ _ (Qr _ k x hx).2;have hgX:¬ X g:=fun q =>by have:=(oz HX).2 g q;omega
   have hgW:g < W.heap.size:=by have:=(oz HX).1;omega
   have c0:wr.cell? ⟨g,q+k*2,none⟩=some (.int .i32 x.1):=((oz HS).1.cell (p:=⟨g,q+k*2,none⟩) hgW hgX).trans e0;have c1:wr.cell? ⟨g,q+k*2+1,none⟩=some (.int .i64 x.2):=((oz HS).1.cell (p:=⟨g,q+k*2+1,none⟩) hgW hgX).trans e1;have hB:Below wr.heap.size wr (wr.alloc (.cells #[.int .i32 x.1,.int .i64 x.2] 98)):=(Below.refl _ wr).alloc zD _;have HL:=kz (oz HC).2;have HCL:=kz (oz HL k x (wr.alloc (.cells #[.int .i32 x.1,.int .i64 x.2] 98)) hx ((oz HS).1.trans (zt hB X)) ((oz HC).1 k _ _ (oz HS).2.2 hB));have HR:=kz (((oz HS).1.trans (zt hB X)));have HRB:=kz ((oz HS).2.1.alloc (.cells #[.int .i32 x.1,.int .i64 x.2] 98));have HRX:Hz (¬ X W.heap.size):=kz (fun q =>by have:=(oz HX).2 _ q;omega);have hk1:(k:Int) < (zs.length:Int):=by omega
   have hk2:=Zp k
   have HFK:Hz (f k=0→∀ i,i < k+1→f i=0):=kz (fun h i hi =>by
    rcases Nat.lt_or_ge i k with h1 | h1
    ·exact oz HF i h1
    ·obtain rfl:i=k:=by omega
     exact h)
   have HFB:Hz (f k≠0→zG list zs.length f=(f k,list,(k:Int))):=kz (fun h =>yU k hkn (oz HF) h);obtain ⟨x1,x2⟩:=x;dsimp only at c0 c1 HCL HR HRB;clear hx hc hB HL HS HF e0 e1 hgX hgW hg;generalize f k=y at *;by_cases hy:y=0
   ·subst hy;have HFK2:=kz (oz HFK rfl);clear HFK HFB;go_wp2_with (go_at_fn G;refine (oz HCL).mono ?_;rintro e w' ⟨rfl,hj',hk'⟩)
    exact ⟨⟨k+1,by omega,by go_num,HFK2,kz ⟨(oz HR).trans hk',hk'.blk (oz HRB) (oz HRX),hj'⟩⟩,by simp [intOf];omega⟩
   ·have hy1:(y == 0)=false:=by simpa using hy
    have HFB2:=kz (oz HFB hy);clear HFK HFB;go_wp2_with (go_at_fn G;refine (oz HCL).mono ?_;rintro e w' ⟨rfl,hj',hk'⟩;have HRB2:=kz (hk'.blk (oz HRB) (oz HRX));have r0:=(oz HRB2).cell 0;have r1:=(oz HRB2).cell 1;have r2:=(oz HRB2).cell 2;have f0:=(oz HRB2).frozen 0;have f1:=(oz HRB2).frozen 1;have f2:=(oz HRB2).frozen 2)
    rw [oz HFB2];exact XS (v:=wrV (y,list,(k:Int))) (jA Tryz.results127 rfl (jG (oz HRB2) _ _ _) rfl) rfl ⟨rfl,((oz HR).trans hk').set3 zD _ _ _⟩
  ·have hk1:¬ (k:Int) < (zs.length:Int):=by omega
   have HO2:Hz (zG list zs.length f=(0,0,0)):=kz (jW (fun i hi =>oz HF i (by omega)));have r0:=(oz HS).2.1.cell 0;have r1:=(oz HS).2.1.cell 1;have r2:=(oz HS).2.1.cell 2;have f0:=(oz HS).2.1.frozen 0;have f1:=(oz HS).2.1.frozen 1;have f2:=(oz HS).2.1.frozen 2;go_wp2_with fail
   rw [oz HO2];exact XS (v:=wrV (0,0,0)) (jA Tryz.results127 rfl (jG (oz HS).2.1 _ _ _) rfl) rfl ⟨rfl,(oz HS).1.set3 zD _ _ _⟩
theorem Y1 (list:Int) (zs:List (Int × Int × Int)) (hn:zs.length≤1000000) (a:Option Addr) (c G:Nat) (lb:Array Value) (eg:∀ args w,(callFunc G args).run Tryz.prog w=.ok (.enter G args) w)
  (f:Nat→Int) (X:Nat→Prop) (J:Nat→World→Prop) (lo:Nat) (W:World) (hlo:lo≤W.heap.size) (hX:∀ b,X b→lo≤b∧b < W.heap.size) (hr:RowC W lo a (Xh zs)) (h0:J 0 W)
  (hst:∀ i w w',J i w→Below w.heap.size w w'→J i w')
  (hcall:∀ (i:Nat) (x:(Int × Int × Int)) (w:World),zs[i]?=some x→KeptX X W w→J i w→Calls Tryz.prog G (#[.agg #[.int .i32 x.1,.int .i32 x.2.1,.int .i32 x.2.2]]++lb) w fun e w' =>e=.returned (.int .i64 (f i))∧J (i+1) w'∧KeptX X w w') :
  Calls Tryz.prog 129 #[.int .i64 list,.slice a zs.length c,.func (.func G) #[] lb] W fun e w' =>e=.returned (wrV (zG list zs.length f))∧KeptX X W w':=by
 have hB0:Below W.heap.size W (W.alloc (.cells #[.int .i64 0,.int .i64 0,.int .i64 0] 89)):=(Below.refl _ W).alloc zD _;have HS0:=kz (yB (zt hB0 X) (yB (Blk.new W #[.int .i64 0,.int .i64 0,.int .i64 0] 89) (hst 0 _ _ h0 hB0)));have HA:=kz hr;have HX:=kz (yB hlo hX);have HC:=kz (yB hst hcall);clear hB0 hr hlo hX hst hcall h0;go_enter Tryz.func129,Tryz.ntmps129;go_wp2;generalize W.alloc _=w1 at *;go_loopw [7,8,9,12] (fun _ _ _ s12 wr => ∃ k:Nat,k≤zs.length∧s12=.int .i64 k∧Hz (∀ i,i < k→f i=0)∧Hz (KeptX X W wr∧Blk wr W.heap.size #[.int .i64 0,.int .i64 0,.int .i64 0] 89∧J k wr)) (fun _ _ _ s12 _ =>zs.length - (intOf s12).toNat)
 case atStart =>exact ⟨0,Zn _,rfl,kz (fun i hi =>absurd hi (Nat.not_lt_zero _)),HS0⟩
 case round =>
  obtain ⟨k,hk,rfl,HF,HS⟩:=hrel;clear HS0;by_cases hkn:k < zs.length
  ·obtain ⟨x,hx⟩:∃ x,zs[k]?=some x:=⟨_,qR hkn⟩;obtain ⟨g,q,rfl,hg,hc⟩:=oz HA (by rw [Zw];omega);have e0:W.cell? ⟨g,q+k*3,none⟩=some (.int .i32 x.1):=hc _ _ (Yk _ k x hx).1;have e1:W.cell? ⟨g,q+k*3+1,none⟩=some (.int .i32 x.2.1):=hc _ _ (Yk _ k x hx).2.1;have e2:W.cell? ⟨g,q+k*3+2,none⟩=some (.int .i32 x.2.2):=hc _ _ (Yk _ k x hx).2.2;have hgX:¬ X g:=fun q =>by have:=(oz HX).2 g q;omega
   have hgW:g < W.heap.size:=by have:=(oz HX).1;omega
   have c0:wr.cell? ⟨g,q+k*3,none⟩=some (.int .i32 x.1):=((oz HS).1.cell (p:=⟨g,q+k*3,none⟩) hgW hgX).trans e0;have c1:wr.cell? ⟨g,q+k*3+1,none⟩=some (.int .i32 x.2.1):=((oz HS).1.cell (p:=⟨g,q+k*3+1,none⟩) hgW hgX).trans e1;have c2:wr.cell? ⟨g,q+k*3+2,none⟩=some (.int .i32 x.2.2):=((oz HS).1.cell (p:=⟨g,q+k*3+2,none⟩) hgW hgX).trans e2;have hB:Below wr.heap.size wr (wr.alloc (.cells #[.int .i32 x.1,.int .i32 x.2.1,.int .i32 x.2.2] 100)):=(Below.refl _ wr).alloc zD _;have HL:=kz (oz HC).2;have HCL:=kz (oz HL k x (wr.alloc (.cells #[.int .i32 x.1,.int .i32 x.2.1,.int .i32 x.2.2] 100)) hx ((oz HS).1.trans (zt hB X)) ((oz HC).1 k _ _ (oz HS).2.2 hB));have HR:=kz (((oz HS).1.trans (zt hB X)));have HRB:=kz ((oz HS).2.1.alloc (.cells #[.int .i32 x.1,.int .i32 x.2.1,.int .i32 x.2.2] 100));have HRX:Hz (¬ X W.heap.size):=kz (fun q =>by have:=(oz HX).2 _ q;omega);have hk1:(k:Int) < (zs.length:Int):=by omega
   have hk2:=Zp k
   have HFK:Hz (f k=0→∀ i,i < k+1→f i=0):=kz (fun h i hi =>by
    rcases Nat.lt_or_ge i k with h1 | h1
    ·exact oz HF i h1
    ·obtain rfl:i=k:=by omega
     exact h)
   have HFB:Hz (f k≠0→zG list zs.length f=(f k,list,(k:Int))):=kz (fun h =>yU k hkn (oz HF) h);obtain ⟨x1,x2,x3⟩:=x;dsimp only at c0 c1 c2 HCL HR HRB;clear hx hc hB HL HS HF e0 e1 e2 hgX hgW hg;generalize f k=y at *;by_cases hy:y=0
   ·subst hy;have HFK2:=kz (oz HFK rfl);clear HFK HFB;go_wp2_with (go_at_fn G;refine (oz HCL).mono ?_;rintro e w' ⟨rfl,hj',hk'⟩)
    exact ⟨⟨k+1,by omega,by go_num,HFK2,kz ⟨(oz HR).trans hk',hk'.blk (oz HRB) (oz HRX),hj'⟩⟩,by simp [intOf];omega⟩
   ·have hy1:(y == 0)=false:=by simpa using hy
    have HFB2:=kz (oz HFB hy);clear HFK HFB;go_wp2_with (go_at_fn G;refine (oz HCL).mono ?_;rintro e w' ⟨rfl,hj',hk'⟩;have HRB2:=kz (hk'.blk (oz HRB) (oz HRX));have r0:=(oz HRB2).cell 0;have r1:=(oz HRB2).cell 1;have r2:=(oz HRB2).cell 2;have f0:=(oz HRB2).frozen 0;have f1:=(oz HRB2).frozen 1;have f2:=(oz HRB2).frozen 2)
    rw [oz HFB2];exact XS (v:=wrV (y,list,(k:Int))) (jA Tryz.results129 rfl (jG (oz HRB2) _ _ _) rfl) rfl ⟨rfl,((oz HR).trans hk').set3 zD _ _ _⟩
  ·have hk1:¬ (k:Int) < (zs.length:Int):=by omega
   have HO2:Hz (zG list zs.length f=(0,0,0)):=kz (jW (fun i hi =>oz HF i (by omega)));have r0:=(oz HS).2.1.cell 0;have r1:=(oz HS).2.1.cell 1;have r2:=(oz HS).2.1.cell 2;have f0:=(oz HS).2.1.frozen 0;have f1:=(oz HS).2.1.frozen 1;have f2:=(oz HS).2.1.frozen 2;go_wp2_with fail
   rw [oz HO2];exact XS (v:=wrV (0,0,0)) (jA Tryz.results129 rfl (jG (oz HS).2.1 _ _ _) rfl) rfl ⟨rfl,(oz HS).1.set3 zD _ _ _⟩
theorem Zs (list:Int) (zs:List (Int × ByteArray)) (hn:zs.length≤1000000) (a:Option Addr) (c G:Nat) (lb:Array Value) (eg:∀ args w,(callFunc G args).run Tryz.prog w=.ok (.enter G args) w)
  (f:Nat→Int) (X:Nat→Prop) (J:Nat→World→Prop) (lo:Nat) (W:World) (hlo:lo≤W.heap.size) (hX:∀ b,X b→lo≤b∧b < W.heap.size) (hr:RowC W lo a (yW zs)) (h0:J 0 W)
  (hst:∀ i w w',J i w→Below w.heap.size w w'→J i w')
  (hcall:∀ (i:Nat) (x:(Int × ByteArray)) (w:World),zs[i]?=some x→KeptX X W w→J i w→Calls Tryz.prog G (#[.agg #[.int .i32 x.1,.string x.2]]++lb) w fun e w' =>e=.returned (.int .i64 (f i))∧J (i+1) w'∧KeptX X w w') :
  Calls Tryz.prog 131 #[.int .i64 list,.slice a zs.length c,.func (.func G) #[] lb] W fun e w' =>e=.returned (wrV (zG list zs.length f))∧KeptX X W w':=by
 have hB0:Below W.heap.size W (W.alloc (.cells #[.int .i64 0,.int .i64 0,.int .i64 0] 89)):=(Below.refl _ W).alloc zD _;have HS0:=kz (yB (zt hB0 X) (yB (Blk.new W #[.int .i64 0,.int .i64 0,.int .i64 0] 89) (hst 0 _ _ h0 hB0)));have HA:=kz hr;have HX:=kz (yB hlo hX);have HC:=kz (yB hst hcall);clear hB0 hr hlo hX hst hcall h0;go_enter Tryz.func131,Tryz.ntmps131;go_wp2;generalize W.alloc _=w1 at *;go_loopw [7,8,9,12] (fun _ _ _ s12 wr => ∃ k:Nat,k≤zs.length∧s12=.int .i64 k∧Hz (∀ i,i < k→f i=0)∧Hz (KeptX X W wr∧Blk wr W.heap.size #[.int .i64 0,.int .i64 0,.int .i64 0] 89∧J k wr)) (fun _ _ _ s12 _ =>zs.length - (intOf s12).toNat)
 case atStart =>exact ⟨0,Zn _,rfl,kz (fun i hi =>absurd hi (Nat.not_lt_zero _)),HS0⟩
 case round =>
  obtain ⟨k,hk,rfl,HF,HS⟩:=hrel;clear HS0;by_cases hkn:k < zs.length
  ·obtain ⟨x,hx⟩:∃ x,zs[k]?=some x:=⟨_,qR hkn⟩;obtain ⟨g,q,rfl,hg,hc⟩:=oz HA (by rw [Zx];omega);have e0:W.cell? ⟨g,q+k*2,none⟩=some (.int .i32 x.1):=hc _ _ (YI _ k x hx).1;have e1:W.cell? ⟨g,q+k*2+1,none⟩=some (.string x.2):=hc _ _ (YI _ k x hx).2;have hgX:¬ X g:=fun q =>by have:=(oz HX).2 g q;omega
   have hgW:g < W.heap.size:=by have:=(oz HX).1;omega
   have c0:wr.cell? ⟨g,q+k*2,none⟩=some (.int .i32 x.1):=((oz HS).1.cell (p:=⟨g,q+k*2,none⟩) hgW hgX).trans e0;have c1:wr.cell? ⟨g,q+k*2+1,none⟩=some (.string x.2):=((oz HS).1.cell (p:=⟨g,q+k*2+1,none⟩) hgW hgX).trans e1;have hB:Below wr.heap.size wr (wr.alloc (.cells #[.int .i32 x.1,.string x.2] 102)):=(Below.refl _ wr).alloc zD _;have HL:=kz (oz HC).2;have HCL:=kz (oz HL k x (wr.alloc (.cells #[.int .i32 x.1,.string x.2] 102)) hx ((oz HS).1.trans (zt hB X)) ((oz HC).1 k _ _ (oz HS).2.2 hB));have HR:=kz (((oz HS).1.trans (zt hB X)));have HRB:=kz ((oz HS).2.1.alloc (.cells #[.int .i32 x.1,.string x.2] 102));have HRX:Hz (¬ X W.heap.size):=kz (fun q =>by have:=(oz HX).2 _ q;omega);have hk1:(k:Int) < (zs.length:Int):=by omega
   have hk2:=Zp k
   have HFK:Hz (f k=0→∀ i,i < k+1→f i=0):=kz (fun h i hi =>by
    rcases Nat.lt_or_ge i k with h1 | h1
    ·exact oz HF i h1
    ·obtain rfl:i=k:=by omega
     exact h)
   have HFB:Hz (f k≠0→zG list zs.length f=(f k,list,(k:Int))):=kz (fun h =>yU k hkn (oz HF) h);obtain ⟨x1,x2⟩:=x;dsimp only at c0 c1 HCL HR HRB;clear hx hc hB HL HS HF e0 e1 hgX hgW hg;generalize f k=y at *;by_cases hy:y=0
   ·subst hy;have HFK2:=kz (oz HFK rfl);clear HFK HFB;go_wp2_with (go_at_fn G;refine (oz HCL).mono ?_;rintro e w' ⟨rfl,hj',hk'⟩)
    exact ⟨⟨k+1,by omega,by go_num,HFK2,kz ⟨(oz HR).trans hk',hk'.blk (oz HRB) (oz HRX),hj'⟩⟩,by simp [intOf];omega⟩
   ·have hy1:(y == 0)=false:=by simpa using hy
    have HFB2:=kz (oz HFB hy);clear HFK HFB;go_wp2_with (go_at_fn G;refine (oz HCL).mono ?_;rintro e w' ⟨rfl,hj',hk'⟩;have HRB2:=kz (hk'.blk (oz HRB) (oz HRX));have r0:=(oz HRB2).cell 0;have r1:=(oz HRB2).cell 1;have r2:=(oz HRB2).cell 2;have f0:=(oz HRB2).frozen 0;have f1:=(oz HRB2).frozen 1;have f2:=(oz HRB2).frozen 2)
    rw [oz HFB2];exact XS (v:=wrV (y,list,(k:Int))) (jA Tryz.results131 rfl (jG (oz HRB2) _ _ _) rfl) rfl ⟨rfl,((oz HR).trans hk').set3 zD _ _ _⟩
  ·have hk1:¬ (k:Int) < (zs.length:Int):=by omega
   have HO2:Hz (zG list zs.length f=(0,0,0)):=kz (jW (fun i hi =>oz HF i (by omega)));have r0:=(oz HS).2.1.cell 0;have r1:=(oz HS).2.1.cell 1;have r2:=(oz HS).2.1.cell 2;have f0:=(oz HS).2.1.frozen 0;have f1:=(oz HS).2.1.frozen 1;have f2:=(oz HS).2.1.frozen 2;go_wp2_with fail
   rw [oz HO2];exact XS (v:=wrV (0,0,0)) (jA Tryz.results131 rfl (jG (oz HS).2.1 _ _ _) rfl) rfl ⟨rfl,(oz HS).1.set3 zD _ _ _⟩
theorem zaL (list:Int) (zs:List (Int × Int)) (hn:zs.length≤1000000) (a:Option Addr) (c G:Nat) (lb:Array Value) (eg:∀ args w,(callFunc G args).run Tryz.prog w=.ok (.enter G args) w)
  (f:Nat→Int) (X:Nat→Prop) (J:Nat→World→Prop) (lo:Nat) (W:World) (hlo:lo≤W.heap.size) (hX:∀ b,X b→lo≤b∧b < W.heap.size) (hr:RowC W lo a (zM zs)) (h0:J 0 W)
  (hst:∀ i w w',J i w→Below w.heap.size w w'→J i w')
  (hcall:∀ (i:Nat) (x:(Int × Int)) (w:World),zs[i]?=some x→KeptX X W w→J i w→Calls Tryz.prog G (#[.agg #[.int .i32 x.1,.int .i32 x.2]]++lb) w fun e w' =>e=.returned (.int .i64 (f i))∧J (i+1) w'∧KeptX X w w') :
  Calls Tryz.prog 175 #[.int .i64 list,.slice a zs.length c,.func (.func G) #[] lb] W fun e w' =>e=.returned (wrV (zG list zs.length f))∧KeptX X W w':=by
 have hB0:Below W.heap.size W (W.alloc (.cells #[.int .i64 0,.int .i64 0,.int .i64 0] 89)):=(Below.refl _ W).alloc zD _;have HS0:=kz (yB (zt hB0 X) (yB (Blk.new W #[.int .i64 0,.int .i64 0,.int .i64 0] 89) (hst 0 _ _ h0 hB0)));have HA:=kz hr;have HX:=kz (yB hlo hX);have HC:=kz (yB hst hcall);clear hB0 hr hlo hX hst hcall h0;go_enter Tryz.func175,Tryz.ntmps175;go_wp2;generalize W.alloc _=w1 at *;go_loopw [7,8,9,12] (fun _ _ _ s12 wr => ∃ k:Nat,k≤zs.length∧s12=.int .i64 k∧Hz (∀ i,i < k→f i=0)∧Hz (KeptX X W wr∧Blk wr W.heap.size #[.int .i64 0,.int .i64 0,.int .i64 0] 89∧J k wr)) (fun _ _ _ s12 _ =>zs.length - (intOf s12).toNat)
 case atStart =>exact ⟨0,Zn _,rfl,kz (fun i hi =>absurd hi (Nat.not_lt_zero _)),HS0⟩
 case round =>
  obtain ⟨k,hk,rfl,HF,HS⟩:=hrel;clear HS0;by_cases hkn:k < zs.length
  ·obtain ⟨x,hx⟩:∃ x,zs[k]?=some x:=⟨_,qR hkn⟩;obtain ⟨g,q,rfl,hg,hc⟩:=oz HA (by rw [Zv];omega);have e0:W.cell? ⟨g,q+k*2,none⟩=some (.int .i32 x.1):=hc _ _ (Z5 _ k x hx).1;have e1:W.cell? ⟨g,q+k*2+1,none⟩=some (.int .i32 x.2):=hc _ _ (Z5 _ k x hx).2;have hgX:¬ X g:=fun q =>by have:=(oz HX).2 g q;omega
   have hgW:g < W.heap.size:=by have:=(oz HX).1;omega
   have c0:wr.cell? ⟨g,q+k*2,none⟩=some (.int .i32 x.1):=((oz HS).1.cell (p:=⟨g,q+k*2,none⟩) hgW hgX).trans e0;have c1:wr.cell? ⟨g,q+k*2+1,none⟩=some (.int .i32 x.2):=((oz HS).1.cell (p:=⟨g,q+k*2+1,none⟩) hgW hgX).trans e1;have hB:Below wr.heap.size wr (wr.alloc (.cells #[.int .i32 x.1,.int .i32 x.2] 94)):=(Below.refl _ wr).alloc zD _;have HL:=kz (oz HC).2;have HCL:=kz (oz HL k x (wr.alloc (.cells #[.int .i32 x.1,.int .i32 x.2] 94)) hx ((oz HS).1.trans (zt hB X)) ((oz HC).1 k _ _ (oz HS).2.2 hB));have HR:=kz (((oz HS).1.trans (zt hB X)));have HRB:=kz ((oz HS).2.1.alloc (.cells #[.int .i32 x.1,.int .i32 x.2] 94));have HRX:Hz (¬ X W.heap.size):=kz (fun q =>by have:=(oz HX).2 _ q;omega);have hk1:(k:Int) < (zs.length:Int):=by omega
   have hk2:=Zp k
   have HFK:Hz (f k=0→∀ i,i < k+1→f i=0):=kz (fun h i hi =>by
    rcases Nat.lt_or_ge i k with h1 | h1
    ·exact oz HF i h1
    ·obtain rfl:i=k:=by omega
     exact h)
   have HFB:Hz (f k≠0→zG list zs.length f=(f k,list,(k:Int))):=kz (fun h =>yU k hkn (oz HF) h);obtain ⟨x1,x2⟩:=x;dsimp only at c0 c1 HCL HR HRB;clear hx hc hB HL HS HF e0 e1 hgX hgW hg;generalize f k=y at *;by_cases hy:y=0
   ·subst hy;have HFK2:=kz (oz HFK rfl);clear HFK HFB;go_wp2_with (go_at_fn G;refine (oz HCL).mono ?_;rintro e w' ⟨rfl,hj',hk'⟩)
    exact ⟨⟨k+1,by omega,by go_num,HFK2,kz ⟨(oz HR).trans hk',hk'.blk (oz HRB) (oz HRX),hj'⟩⟩,by simp [intOf];omega⟩
   ·have hy1:(y == 0)=false:=by simpa using hy
    have HFB2:=kz (oz HFB hy);clear HFK HFB;go_wp2_with (go_at_fn G;refine (oz HCL).mono ?_;rintro e w' ⟨rfl,hj',hk'⟩;have HRB2:=kz (hk'.blk (oz HRB) (oz HRX));have r0:=(oz HRB2).cell 0;have r1:=(oz HRB2).cell 1;have r2:=(oz HRB2).cell 2;have f0:=(oz HRB2).frozen 0;have f1:=(oz HRB2).frozen 1;have f2:=(oz HRB2).frozen 2)
    rw [oz HFB2];exact XS (v:=wrV (y,list,(k:Int))) (jA Tryz.results175 rfl (jG (oz HRB2) _ _ _) rfl) rfl ⟨rfl,((oz HR).trans hk').set3 zD _ _ _⟩
  ·have hk1:¬ (k:Int) < (zs.length:Int):=by omega
   have HO2:Hz (zG list zs.length f=(0,0,0)):=kz (jW (fun i hi =>oz HF i (by omega)));have r0:=(oz HS).2.1.cell 0;have r1:=(oz HS).2.1.cell 1;have r2:=(oz HS).2.1.cell 2;have f0:=(oz HS).2.1.frozen 0;have f1:=(oz HS).2.1.frozen 1;have f2:=(oz HS).2.1.frozen 2;go_wp2_with fail
   rw [oz HO2];exact XS (v:=wrV (0,0,0)) (jA Tryz.results175 rfl (jG (oz HS).2.1 _ _ _) rfl) rfl ⟨rfl,(oz HS).1.set3 zD _ _ _⟩
set_option maxRecDepth 100000
set_option maxHeartbeats 8000000
def orE:List Int→Int
 | [] =>0
 | x::r =>if x=0 then orE r else x
theorem X2 {x:Int} {r:List Int} (h:x=0):orE (x::r)=orE r:=by
 show (if x=0 then orE r else x)=orE r;rw [if_pos h]
theorem X1 {x:Int} {r:List Int} (h:x≠0):orE (x::r)=x:=by
 show (if x=0 then orE r else x)=x;rw [if_neg h]
theorem jK (l:List Int) (hl:l.length≤100) (g o c:Nat) (w:World) (hc:∀ (j:Nat) (x:Int),l[j]?=some x→w.cell? ⟨g,o+j,none⟩=some (.int .i64 x)) :
  Calls Tryz.prog 143 #[.slice (some ⟨g,o,none⟩) l.length c] w fun e w' =>e=.returned (.int .i64 (orE l))∧w'=w:=by
 have HC:=kz hc;clear hc;go_enter Tryz.func143,Tryz.ntmps143;go_wp2;go_loopw [5,8] (fun _ s8 wr => ∃ k:Nat,k≤l.length∧s8=.int .i64 k∧Hz (orE l=orE (l.drop k))∧wr=w) (fun _ s8 _ =>l.length - (intOf s8).toNat)
 case atStart =>exact ⟨0,by omega,rfl,kz (by rw [List.drop_zero]),rfl⟩
 case round =>
  obtain ⟨k,hkl,rfl,HO,rfl⟩:=hrel;by_cases hkn:k < l.length
  ·obtain ⟨x,hx⟩:∃ x,l[k]?=some x:=⟨_,qR hkn⟩;have hd:l.drop k=x::l.drop (k+1):=by
    rw [List.drop_eq_getElem_cons hkn]
    congr 1
    exact Zo ((qR hkn).symm.trans hx)
   have c0:=oz HC k x hx;have hk1:(k:Int) < (l.length:Int):=by omega
   have hk2:=Zp k
   by_cases hx0:x=0
   ·have HO2:Hz (orE l=orE (l.drop (k+1))):=kz (by rw [oz HO,hd,X2 hx0]);subst hx0;clear hx hd HO;go_wp2_with fail
    exact ⟨⟨k+1,by omega,by go_num,HO2,by trivial⟩,by simp [intOf];omega⟩
   ·have HO2:Hz (orE l=x):=kz (by rw [oz HO,hd,X1 hx0]);have q0:(x == 0)=false:=by simpa using hx0
    clear hx hd HO;go_wp2_with fail
    rw [oz HO2];go_ret;exact ⟨rfl,rfl⟩
  ·have hk1:¬ (k:Int) < (l.length:Int):=by omega
   have HO2:Hz (orE l=0):=kz (by rw [oz HO,List.drop_of_length_le (by omega)];rfl);go_wp2_with fail
   rw [oz HO2];go_ret;exact ⟨rfl,rfl⟩
def RnC (W:World) (lo:Nat) (a:Option Addr) (zs:List Int):Prop:=0 < zs.length→∃ g o,a=some ⟨g,o,none⟩∧g < lo∧∀ (j:Nat) (x:Int),zs[j]?=some x→W.cell? ⟨g,o+j,none⟩=some (.int .i32 x)
theorem zee (zs:List Int) (hn:zs.length≤1000000) (a:Option Addr) (c G:Nat) (fs lb:Array Value) (eg:∀ args w,(callFunc G args).run Tryz.prog w=.ok (.enter G args) w) (p:Int→Bool) (W:World) (hr:RnC W W.heap.size a zs)
  (hcall:∀ x ∈ zs, ∀ w,Below W.heap.size W w→Calls Tryz.prog G (fs++#[.int .i32 x]++lb) w fun e w' =>e=.returned (.bool (p x))∧Below W.heap.size W w') :
  Calls Tryz.prog 215 #[.slice a zs.length c,.func (.func G) fs lb] W fun e w' =>(∃ i:Int,e=.returned (.int .i64 i)∧decide (0≤i)=zs.any p)∧Below W.heap.size W w':=by
 have HA:=kz hr;have HC:=kz hcall;clear hr hcall;go_enter Tryz.func215,Tryz.ntmps215;go_wp2;go_loopw [5,8] (fun _ s8 wr => ∃ k:Nat,k≤zs.length∧s8=.int .i64 k∧Hz (∀ x ∈ zs.take k,p x=false)∧Hz (Below W.heap.size W wr)) (fun _ s8 _ =>zs.length - (intOf s8).toNat)
 case atStart =>exact ⟨0,by omega,rfl,kz (fun x hx =>by simp at hx),kz zl⟩
 case round =>
  obtain ⟨k,hkl,rfl,HO,HS⟩:=hrel;by_cases hkn:k < zs.length
  ·obtain ⟨x,hx⟩:∃ x,zs[k]?=some x:=⟨_,qR hkn⟩;obtain ⟨g,q,rfl,hg,hc⟩:=oz HA (by omega);have c0:wr.cell? ⟨g,q+k,none⟩=some (.int .i32 x):=((oz HS).cell (p:=⟨g,q+k,none⟩) hg).trans (hc k x hx);have HCL:=kz (oz HC x (YH hx) wr (oz HS));have hk1:(k:Int) < (zs.length:Int):=by omega
   have hk2:=Zp k
   have HX:=kz hx;have HT:Hz (p x=true→zs.any p=true):=kz (fun h =>List.any_eq_true.2 ⟨x,YH hx,h⟩);have HN:Hz (p x=false→∀ y ∈ zs.take (k+1),p y=false):=kz (fun h y hy =>by
    rw [List.take_add_one,hx] at hy;rcases List.mem_append.1 hy with h1 | h1
    ·exact oz HO y h1
    ·obtain rfl:y=x:=by simpa using h1
     exact h)
   clear hx hc HO hg;generalize p x=y at *;cases y with
   | false =>
    have HN2:=kz (oz HN rfl);clear HN HT;go_wp2_with (go_at_fn G;refine (oz HCL).mono ?_;rintro e w' ⟨rfl,hb'⟩)
    exact ⟨⟨k+1,by omega,by go_num,HN2,kz hb'⟩,by simp [intOf];omega⟩
   | true =>
    have HT2:=kz (oz HT rfl);clear HN HT;go_wp2_with (go_at_fn G;refine (oz HCL).mono ?_;rintro e w' ⟨rfl,hb'⟩)
    go_ret;exact ⟨⟨_,rfl,by rw [oz HT2];simp⟩,hb'⟩
  ·have hk1:¬ (k:Int) < (zs.length:Int):=by omega
   have HO2:Hz (zs.any p=false):=kz (by
    rw [List.any_eq_false];intro x hx;have:=oz HO x (by rw [List.take_of_length_le (by omega)];exact hx);simp [this])
   go_wp2_with fail
   go_ret;exact ⟨⟨_,rfl,by rw [oz HO2];rfl⟩,oz HS⟩
theorem Xe (zs:List Int) (hn:zs.length≤1000000) (a:Option Addr) (c G:Nat) (fs lb:Array Value) (eg:∀ args w,(callFunc G args).run Tryz.prog w=.ok (.enter G args) w) (p:Int→Bool) (W:World) (hr:RnC W W.heap.size a zs)
  (hcall:∀ x ∈ zs, ∀ w,Below W.heap.size W w→Calls Tryz.prog G (fs++#[.int .i32 x]++lb) w fun e w' =>e=.returned (.bool (p x))∧Below W.heap.size W w') :
  Calls Tryz.prog 165 #[.slice a zs.length c,.func (.func G) fs lb] W fun e w' =>e=.returned (.bool (zs.any p))∧Below W.heap.size W w':=by
 have HI:=kz (zee zs hn a c G fs lb eg p W hr hcall);clear hr hcall;go_enter Tryz.func165,Tryz.ntmps165;go_wp2_with fail
 refine (oz HI).mono ?_;rintro e w' ⟨⟨i,rfl,hi⟩,hb⟩;have HI2:=kz (yB hi hb);clear hi hb HI;go_wp2_with fail
 go_ret;exact ⟨by rw [← (oz HI2).1];rfl,(oz HI2).2⟩
theorem zcw (r:Int) (w:World):Calls Tryz.prog 225 #[.int .i32 r] w fun e w' =>e=.returned (.bool (!zm r))∧w'=w:=by
 go_enter Tryz.func225,Tryz.ntmps225;go_wp2_with fail
 refine (qX r w).mono ?_;rintro e w' ⟨rfl,rfl⟩;go_wp2_with fail
 go_ret;exact ⟨by rw [← XT];rfl,rfl⟩
theorem zjx:∀ args w,(callFunc 225 args).run Tryz.prog w=.ok (.enter 225 args) w:=enters_of Tryz.func225 (by kernel_rfl) rfl
theorem YC (zs:List Int) (hn:zs.length≤1000000) (a:Option Addr) (c:Nat) (W:World) (hr:RnC W W.heap.size a zs) :
  Calls Tryz.prog 197 #[.slice a zs.length c] W fun e w' =>e=.returned (.int .i64 (if zs.all zm then 0 else 12))∧Below W.heap.size W w':=by
 have HI:=kz (Xe zs hn a c 225 #[] #[] zjx (fun r => !zm r) W hr (fun x _ w hb =>(zcw x w).mono (fun e w' ⟨he,hw⟩ =>⟨he,hw ▸ hb⟩)));have hq:zs.any (fun r => !zm r) = !zs.all zm:=by simp [List.any_eq_not_all_not]
 rw [hq] at HI;clear hr hq;generalize zs.all zm=b at *;go_enter Tryz.func197,Tryz.ntmps197;go_wp2_with fail
 refine (oz HI).mono ?_;rintro e w' ⟨rfl,hb⟩;have HB:=kz hb;clear hb HI;go_wp2_with fail
 refine (zK (!b) 12 w').mono ?_;rintro e w2 ⟨rfl,rfl⟩;cases b
 all_goals
  go_wp2_with fail
  go_ret;exact ⟨rfl,oz HB⟩
end
section
open Go.RowKit Go.Shelf Go.Lib
set_option maxRecDepth 100000
set_option maxHeartbeats 8000000
def qS:List (Int × Int)→List Value
 | [] => []
 | x::zs =>.int .i32 x.1::.int .i32 x.2::qS zs
theorem jZ (zs:List (Int × Int)):(qS zs).length=zs.length*2:=by
 induction zs with
 | nil =>rfl
 | cons x zs ih =>simp only [qS,List.length_cons,ih];omega
theorem QB (zs:List (Int × Int)) (j:Nat) (x:Int × Int) (h:zs[j]?=some x):(qS zs)[j*2]?=some (.int .i32 x.1)∧(qS zs)[j*2+1]?=some (.int .i32 x.2):=by
 induction zs generalizing j with
 | nil =>simp at h
 | cons y zs ih =>
  cases j with
  | zero =>simp at h;subst h;simp [qS]
  | succ j =>
   simp at h;have:=ih j h;rw [show (j+1)*2=j*2+1+1 by omega];simpa [qS] using this
theorem YT (xs ys:List (Int × Int)):qS (xs++ys)=qS xs++qS ys:=by
 induction xs with
 | nil =>rfl
 | cons x xs ih =>simp only [List.cons_append,qS,ih]
theorem Qq (zs:List (Int × Int)):∀ u ∈ qS zs,u.oneCell'=true:=by
 induction zs with
 | nil =>simp [qS]
 | cons x zs ih =>
  intro u hu;simp only [qS,List.mem_cons] at hu;rcases hu with rfl | rfl | hu
  ·rfl
  ·rfl
  ·exact ih u hu
theorem KY {W:World} {g o:Nat} {zs:List (Int × Int)} (hc:∀ j x,zs[j]?=some x→W.cell? ⟨g,o+j*2,none⟩=some (.int .i32 x.1)∧W.cell? ⟨g,o+j*2+1,none⟩=some (.int .i32 x.2)) (j:Nat) (u:Value) (hu:(qS zs)[j]?=some u):W.cell? ⟨g,o+j,none⟩=some u:=by
 have hl:=(Ze.1 hu).1;rw [jZ] at hl;obtain ⟨x,hx⟩:∃ x,zs[j / 2]?=some x:=⟨_,qR (by omega)⟩;have h1:=QB zs _ x hx;have h2:=hc _ x hx;rcases Nat.mod_two_eq_zero_or_one j with e | e
 ·have:j=j / 2*2:=by omega
  rw [← this] at h1 h2;rw [h1.1] at hu;cases hu
  exact h2.1
 ·have:j=j / 2*2+1:=by omega
  rw [show o+j / 2*2+1=o+j by omega] at h2;rw [← this] at h1;rw [h1.2] at hu;cases hu
  exact h2.2
theorem KO {W:World} {base n:Nat} {v:Value} {zs:List (Int × Int)} (h:W.ownsRow base 94 2 v n (qS zs)):∃ a c,v=.slice a zs.length c∧RowP W a zs∧n=zs.length∧zs.length≤c:=by
 obtain ⟨hl,h⟩:=h;rw [jZ] at hl;have hn:n=zs.length:=by omega
 subst hn;rcases h with ⟨rfl,h0⟩ | ⟨g,cap,cur,rfl,hb,hg,h1,h2,h3,h4⟩
 ·exact ⟨none,0,by rw [h0],fun h =>by omega,rfl,by omega⟩
 ·refine ⟨_,cap,rfl,fun h0 =>⟨g,0,rfl,(zeI.1 hg).1,fun j x hj =>?_⟩,rfl,h1⟩;have hbk:Blk W g cur 94:=hg;have e:=QB zs j x hj;rw [← h4] at e;have hjl:=(Ze.1 hj).1;rw [List.getElem?_take,if_pos (by omega),List.getElem?_take,if_pos (by omega)] at e;rw [Nat.zero_add,Blk.cell hbk,Blk.cell hbk];simpa using e
theorem yK {w:World} {a:Addr} {v:Value} (o:Obj) (h:w.cell? a=some v):(w.alloc o).cell? a=some v:=Lib.cell?_alloc_some _ h
theorem zed:(Tryz.prog.info? 94).map (fun i =>(i.zero,i.size,i.bytes))=some (some (.agg #[.int .i32 0,.int .i32 0]),2,8):=by kernel_rfl
theorem zen (a:Option Addr) (cap:Nat) (zs:List (Int × Int)) (hz:zs.length≤1073741824) (w:World) (hr:RowP w a zs) :
  Calls Tryz.prog 209 #[.slice a zs.length cap] w fun e w' => ∃ v,e=.returned v∧w'.ownsRow w.heap.size 94 2 v zs.length (qS zs)∧Below w.heap.size w w':=by
 have q22:∀ (w:World) (a:Option Addr) (n c n' c':Nat),(binOp .eql 26 (.slice a n c) (.slice none n' c')).run Tryz.prog w=.ok (.bool a.isNone) w:=fun w a n c n' c' =>Lib.run_eql_slice_nil w _ _ a n c n' c' Tryz.underlying26
 obtain ⟨i0,hi,hz0,hz1,hz2⟩:=info_parts zed;have HI:=kz (show _∧_∧_∧_ from ⟨hi,hz0,hz1,hz2⟩);have HR:=kz hr;clear hi hz0 hz1 hz2 hr;cases a with
 | none =>
  have h0:zs=[]:=by
   by_cases e:0 < zs.length
   ·obtain ⟨g,o,h,_⟩:=oz HR e;cases h
   ·exact List.eq_nil_of_length_eq_zero (by omega)
  subst h0;go_enter Tryz.func209,Tryz.ntmps209;go_wp2;go_ret;exact ⟨_,rfl,World.ownsRow_nil _ _ _ _,zl⟩
 | some p =>
  have HN:Hz (∀ j u,(qS zs)[j]?=some u→w.cell? (p.add j)=some u):=kz (fun j u hu =>by
   have hl:=(Ze.1 hu).1;rw [jZ] at hl;obtain ⟨g,o,h,hg,hc⟩:=oz HR (by omega);cases h
   rw [Xb];exact KY hc j u hu)
  have hb8:zs.length*8≤140737488355328:=by omega
  go_enter Tryz.func209,Tryz.ntmps209;go_wp2_with (at_builtin;refine wpList_append_own _ rfl _ _ 26 rfl w.heap.size 94 i0 (.agg #[.int .i32 0,.int .i32 0]) 2 8 Tryz.underlying26 (oz HI).1 (oz HI).2.1 (oz HI).2.2.1 (oz HI).2.2.2 rfl (by decide) _ _ _ rfl (World.ownsRow_made w #[] 0 zD (Zn _) (by simp)) p zs.length cap (qS zs) rfl ?qc1 ?qc2 ?qc3 ?qc4 ?qc5 ?qc6 ?_)
  case qc1 =>exact jZ zs
  case qc2 =>exact fun j u hj =>yK _ (oz HN j u hj)
  case qc3 =>exact Qq zs
  case qc4 =>rw [Nat.zero_add];unfold maxLen;omega
  case qc5 =>rw [Nat.zero_add];exact hb8
  case qc6 =>simp
  intro v' w1 hown hgrow hnil;have HO:=kz hown;have HG:=kz hgrow;clear hown hgrow hnil;go_wp2;go_ret;refine ⟨v',rfl,by simpa using oz HO, ?_⟩;exact ((Below.refl _ w).alloc zD _).grown (oz HG) (by simp) (by intro k hk;simp [Value.ownBlock] at hk;omega)
end
end Go.Proofs.YthchopdfmchpkaaGreat
