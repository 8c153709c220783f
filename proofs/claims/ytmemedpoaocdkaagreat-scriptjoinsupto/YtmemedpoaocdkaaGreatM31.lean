/- Texts of this claim, one behind the other. -/
import Derived.Test.YtmemedpoaocdkaaGreatM29
import Derived.Test.YtmemedpoaocdkaaGreatM30
import Derived.Test.YtmemedpoaocdkaaGreatM12
import Derived.Test.YtmemedpoaocdkaaGreatM2
import Derived.Test.YtmemedpoaocdkaaGreatM26
import Derived.Test.YtmemedpoaocdkaaGreatM1
import Derived.Test.YtmemedpoaocdkaaGreatM4
import Derived.OwnWalk
import Derived.Test.YtmemedpoaocdkaaGreatRows
import Derived.ProofKit
import Derived.OpenShut
import Derived.ChangeOld
import Derived.Laws.CopyOwn
import Derived.Laws.MakeOwn
import Derived.Laws.OwnMore
/- A Book of tables, or what is wrong. -/
namespace Go.Proofs.YtmemedpoaocdkaaGreat
open Go.RowKit Go.Shelf Go.Maps
set_option linter.unusedVariables false
theorem zoq {fn:Func} {u p:Tmp} {tmps:Array Value} {w:World} {R:Nat} {cs:Array Value} (h:fn.results=#[.tmp u,.cell p 76]) (hp:tmps.getD p undef=.pointer (some ⟨R,0,none⟩)) (hb:Blk w R cs 76) (hc:cs.size=3):(results fn tmps).run Tryz.prog w=.ok (.tuple #[tmps.getD u undef,.agg cs]) w:=by
 have hp':tmps[p]?.getD undef=.pointer (some ⟨R,0,none⟩):=by simpa using hp
 have hl:=run_loadVar_row (P:=Tryz.prog) w R _ 76 cs _ _ hb Tryz.underlying76 rfl (by rw [hc];kernel_rfl)
 simp only [results,h]
 simp [Result.andThen,hp',asAddr,hl]
theorem zmA (T:TV) (us:List Value) (l:Ln) (hl:l ∈ zl1 T us):l.E≠76:=by
 have key:l.E=109∨l.E=113∨l.E=115∨l.E=117∨l.E=119:=by
  unfold zl1 at hl
  simp only [List.mem_append,List.mem_cons,List.mem_map,List.not_mem_nil,or_false] at hl
  rcases hl with ((((((((h | ⟨_,_,h⟩) | h) | h) | h) | h) | h) | h) | h)
  ·rw [h];exact .inl rfl
  ·rw [← h];exact .inr (.inl rfl)
  ·rw [h];exact .inr (.inl rfl)
  ·rw [h];exact .inr (.inr (.inl rfl))
  ·rw [h];exact .inr (.inr (.inr (.inl rfl)))
  ·rw [h];exact .inr (.inr (.inr (.inr rfl)))
  ·rw [h];exact .inr (.inr (.inr (.inr rfl)))
  ·rw [h];exact .inr (.inl rfl)
  ·rw [h];exact .inr (.inl rfl)
 generalize l.E=x at key
 rcases key with rfl | rfl | rfl | rfl | rfl
 all_goals decide
theorem zgr {lo R:Nat} {W w:World} (h:Below lo W w) (hl:lo≤R) (hs:lo≤w.heap.size) (x y z:Value):Below lo W (((w.drew.setCell ⟨R,0,none⟩ x).setCell ⟨R,1,none⟩ y).setCell ⟨R,2,none⟩ z):=za3 (w:=w.drew) (h.trans (show Below lo w w.drew from ⟨rfl,rfl,rfl,Nat.le_refl _,fun _ _ =>rfl⟩)) hl hs x y z
theorem zqq {w:World} {R:Nat} {cs:Array Value} (b:Blk w R cs 76) {g:Nat} {cur:Array Value} {t:TypeId} (hb:Blk w g cur t) (ht:t≠76):¬ g=R:=by
 rintro rfl
 unfold Blk at b hb
 rw [b] at hb
 injection hb with e
 injection e with _ e
 exact ht e.symm
theorem zkk {w w':World} {B R:Nat} {T:TV} {cs:Array Value} (h:BookAt w B T) (b:Blk w R cs 76) (k:KeptX (fun g =>g=R) w w') (hints:∀ (j:Nat) (y:Int),cs[j]?≠some (.int .i32 y)):BookAt w' B T:=by
 obtain ⟨lo,t0,t1,t2,t3,t4,t5,t6,t7,sv,bs,Bc,Bd,Ba,M5,n5,M6,n6,M7,n7,MF,nF,ML,nL,h⟩:=h
 have row:∀ {lo E sz n:Nat} {v:Value} {xs:List Value},w.ownsRow lo E sz v n xs→E≠76→w'.ownsRow lo E sz v n xs:=fun {lo E sz n v xs} h hE =>by
  rcases h.2 with ⟨e,h0⟩ | ⟨g,cap,cur,e,hb,hg,r⟩
  ·exact ⟨h.1,.inl ⟨e,h0⟩⟩
  ·exact ⟨h.1,.inr ⟨g,cap,cur,e,hb,k.blk hg (zqq b hg hE),r⟩⟩
 have setv:∀ l C,SetV w l C→SetV w' l C:=fun l C ⟨zs,lo0,h1,h2⟩ =>by
  obtain ⟨va,vb,f1,f2,f3⟩:=h1.form
  exact ⟨zs,lo0,⟨⟨va,vb,k.blk f1 (zqq b f1 (by decide)),row f2 (by decide),row f3 (by decide)⟩,h1.lo⟩,h2⟩
 have mpx:∀ {kt:TypeId} {Rd:Value→Option (DataW Unit × List MemPlace)} {M n:Nat} {G:Lit→Option (DataW Unit)},MpAt w kt Rd M n G→MpAt w' kt Rd M n G:=fun {kt Rd M n G} hm =>k.mp hm (zcq hm b)
 have foa:∀ M n l,FoAt w M n l→FoAt w' M n l:=fun M n l hf =>by
  obtain ⟨G,h1,h2⟩:=hf.mp
  refine ⟨G,mpx h1,fun r hr =>?_⟩
  rcases h2 r hr with h3 | ⟨x,hx,e,g,c,h4,h5,h6⟩
  ·exact .inl h3
  ·refine .inr ⟨x,hx,e,g,c,h4,h5,Nat.lt_of_lt_of_le h6.1 k.size,fun j y hy =>(k.cell (p:=⟨g,j,none⟩) h6.1 (fun e =>?_)).trans (h6.2 j y hy)⟩
   have e:g=R:=e
   subst e
   have:=h6.2 j y hy
   rw [b.cell j] at this
   exact hints _ _ this
 exact ⟨lo, t0, t1, t2, t3, t4, t5, t6, t7, sv, bs, Bc, Bd, Ba, M5, n5, M6, n6, M7, n7, MF, nF, ML, nL,
   { bx := k.blk h.bx (zqq b h.bx (by decide))
     tb:=by
       obtain ⟨v0,us,v1,v2,v3,v4,v5,v6,v7,e,hl,h1⟩:=h.tb
       exact ⟨v0,us,v1,v2,v3,v4,v5,v6,v7,e,hl,h1.ll,fun i v l hv hl =>row (h1.own i v l hv hl) (zmA T us l (List.mem_of_getElem? hl)),h1.apart⟩
     len:=h.len
     row:=row h.row (by decide)
     sets:=fun j s b h1 h2 =>setv _ _ (h.sets j s b h1 h2)
     co:=setv _ _ h.co
     dr:=setv _ _ h.dr
     al:=setv _ _ h.al
     cl:=let ⟨G,g1,g2⟩:=h.cl.mp; ⟨G,mpx g1,g2⟩
     pa:=let ⟨G,g1,g2⟩:=h.pa.mp; ⟨G,mpx g1,g2⟩
     jo:=let ⟨G,g1,g2⟩:=h.jo.mp; ⟨G,mpx g1,g2⟩
     fo:=foa _ _ _ h.fo
     lk:=foa _ _ _ h.lk }⟩
theorem ziW (w:World) (R:Nat) (x y z:Value):KeptX (fun g =>g=R) w (((w.setCell ⟨R,0,none⟩ x).setCell ⟨R,1,none⟩ y).setCell ⟨R,2,none⟩ z):=((zeT w R 0 x).trans (zeT _ R 1 y)).trans (zeT _ R 2 z)
theorem zlV {w:World} {B R:Nat} {T:TV} (h:BookAt w B T) (b:Blk w R #[.int .i64 0,.int .i64 0,.int .i64 0] 76) (x y z:Value):BookAt (((w.setCell ⟨R,0,none⟩ x).setCell ⟨R,1,none⟩ y).setCell ⟨R,2,none⟩ z) B T :=
 zkk h b (ziW w R x y z) (fun j y e =>by
  rcases j with _ | _ | _ | j
  ·injection e with e;cases e
  ·injection e with e;cases e
  ·injection e with e;cases e
  ·simp at e)
theorem zf2 (s:ByteArray):∀ f i,s.size≤i+f→s.size≤i+4*(zag s f i).length
 | 0,i,h =>by simp only [zag,List.length_nil];omega
 | f+1,i,h =>by
  by_cases hi:i < s.size
  ·rw [zaq s f i hi,List.length_cons]
   have h1:=zcc s i
   have h2:=zhb s i
   have:=zf2 s f (i+wd s i) (by omega)
   omega
  ·rw [zau s _ i hi];simp;omega
theorem zfL {s:ByteArray} (h:toB s=true):s.size≤1048576:=by
 have h1:=(zn6 h).2.2
 have h2:=zf2 s s.size 0 (by omega)
 unfold zai zah at h1
 rw [List.length_map] at h1
 omega
theorem zj5 {s:ByteArray} (h:zc6 s=true):s.size≤1048576:=by
 unfold zc6 at h
 rw [Bool.and_eq_true,decide_eq_true_eq] at h
 omega
theorem zoX {T:TV} (hO:zgy T) (hR:zap T):zqS T :=
 ⟨hO,fun x hx =>zj5 (hR.f0 x hx).1,fun x hx =>⟨zfL (hR.f4 x hx).2,zeM (hR.f4 x hx).1⟩,fun x hx =>⟨zfL (hR.f5 x hx).2,zeM (hR.f5 x hx).1⟩,fun x hx =>zeM (hR.f2 x hx).1,fun x hx =>⟨zeM (hR.f3 x hx).1,zeM (hR.f3 x hx).2.1,zeM (hR.f3 x hx).2.2⟩,hR.f1,hR.f6,hR.f7,fun x hx =>(hR.f0 x hx).2⟩
theorem znt (T:TV):zeb T=if (orW [zfh T,zcW T,zcd T]).1=0 then orW (wrL T) else orW [zfh T,zcW T,zcd T]:=zdr [zfh T,zcW T,zcd T] (wrL T)
structure zq7 (W w:World) (T:TV) (p:Option Addr):Prop where
 bl:Below W.heap.size W w
 ok:(zeb T).1=0→zap T∧∃ B,p=some ⟨B,0,none⟩∧W.heap.size≤B∧BookAt w B T
 no:(zeb T).1≠0→p=none
structure NwS (W w:World) (T:TV) (a0 a1 a2 a3 a4 a5 a6 a7:Option Addr) (c0 c1 c2 c3 c4 c5 c6 c7:Nat) (us:List Value):Prop where
 bl:Below W.heap.size W w
 bx:Blk w W.heap.size #[.slice a0 T.sc.length c0,.slice a1 T.co.length c1,.slice a2 T.ma.length c2,.slice a3 T.pr.length c3,.slice a4 T.fo.length c4,.slice a5 T.lk.length c5,.slice a6 T.dr.length c6,.slice a7 T.al.length c7] 28
 rs:Blk w (W.heap.size+1) #[.int .i64 0,.int .i64 0,.int .i64 0] 76
 ti:TabIn w T a0 a1 a2 a3 a4 a5 a6 a7 us
theorem NwS.below {W w w':World} {T:TV} {a0 a1 a2 a3 a4 a5 a6 a7:Option Addr} {c0 c1 c2 c3 c4 c5 c6 c7:Nat} {us:List Value} (h:NwS W w T a0 a1 a2 a3 a4 a5 a6 a7 c0 c1 c2 c3 c4 c5 c6 c7 us) (hb:Below w.heap.size w w'):NwS W w' T a0 a1 a2 a3 a4 a5 a6 a7 c0 c1 c2 c3 c4 c5 c6 c7 us:=⟨h.bl.trans (hb.mono h.bl.size),h.bx.below hb h.bx.lt,h.rs.below hb h.rs.lt,h.ti.lower hb⟩
set_option maxRecDepth 100000 in
set_option maxHeartbeats 8000000 in
theorem zm3 (T:TV) (hOk:zgy T) (hI:zjG T) (a0 a1 a2 a3 a4 a5 a6 a7:Option Addr) (c0 c1 c2 c3 c4 c5 c6 c7:Nat) (us:List Value) (W:World) (hT:TabIn W T a0 a1 a2 a3 a4 a5 a6 a7 us) :
  Calls Tryz.prog 36 #[.agg #[.slice a0 T.sc.length c0,.slice a1 T.co.length c1,.slice a2 T.ma.length c2,.slice a3 T.pr.length c3,.slice a4 T.fo.length c4,.slice a5 T.lk.length c5,.slice a6 T.dr.length c6,.slice a7 T.al.length c7]] W fun e w' => ∃ p,e=.returned (.tuple #[.pointer p,wrV (zeb T)])∧zq7 W w' T p:=by
 have hmx:Tryz.prog.follows .mixedOrders=true:=by kernel_rfl
 have hB0:Below W.heap.size W ((W.alloc (.cells #[.slice a0 T.sc.length c0,.slice a1 T.co.length c1,.slice a2 T.ma.length c2,.slice a3 T.pr.length c3,.slice a4 T.fo.length c4,.slice a5 T.lk.length c5,.slice a6 T.dr.length c6,.slice a7 T.al.length c7] 28)).alloc (.cells #[.int .i64 0,.int .i64 0,.int .i64 0] 76)):=((Below.refl _ W).alloc (Nat.le_refl _) _).alloc (by simp) _
 have bR:Blk ((W.alloc (.cells #[.slice a0 T.sc.length c0,.slice a1 T.co.length c1,.slice a2 T.ma.length c2,.slice a3 T.pr.length c3,.slice a4 T.fo.length c4,.slice a5 T.lk.length c5,.slice a6 T.dr.length c6,.slice a7 T.al.length c7] 28)).alloc (.cells #[.int .i64 0,.int .i64 0,.int .i64 0] 76)) (W.heap.size+1) #[.int .i64 0,.int .i64 0,.int .i64 0] 76:=by
  have h:=Blk.new (W.alloc (.cells #[.slice a0 T.sc.length c0,.slice a1 T.co.length c1,.slice a2 T.ma.length c2,.slice a3 T.pr.length c3,.slice a4 T.fo.length c4,.slice a5 T.lk.length c5,.slice a6 T.dr.length c6,.slice a7 T.al.length c7] 28)) #[.int .i64 0,.int .i64 0,.int .i64 0] 76
  rw [World.size_alloc] at h
  exact h
 have hS:NwS W ((W.alloc (.cells #[.slice a0 T.sc.length c0,.slice a1 T.co.length c1,.slice a2 T.ma.length c2,.slice a3 T.pr.length c3,.slice a4 T.fo.length c4,.slice a5 T.lk.length c5,.slice a6 T.dr.length c6,.slice a7 T.al.length c7] 28)).alloc (.cells #[.int .i64 0,.int .i64 0,.int .i64 0] 76)) T a0 a1 a2 a3 a4 a5 a6 a7 c0 c1 c2 c3 c4 c5 c6 c7 us:=⟨hB0,(Blk.new W _ _).alloc _,bR,hT.lower hB0⟩
 have HR:=kz (zhh T hOk hI a0 a1 a2 a3 a4 a5 a6 a7 c0 c1 c2 c3 c4 c5 c6 c7 us ((W.alloc (.cells #[.slice a0 T.sc.length c0,.slice a1 T.co.length c1,.slice a2 T.ma.length c2,.slice a3 T.pr.length c3,.slice a4 T.fo.length c4,.slice a5 T.lk.length c5,.slice a6 T.dr.length c6,.slice a7 T.al.length c7] 28)).alloc (.cells #[.int .i64 0,.int .i64 0,.int .i64 0] 76)) hS.ti)
 have HOk:=kz (And.intro hOk hI)
 have HCE:=kz (znt T)
 have HRO:=kz (zkP (T:=T))
 have HS:=kz hS
 have q0:=hS.bx.cell 0
 have q1:=hS.bx.cell 1
 have q2:=hS.bx.cell 2
 have q3:=hS.bx.cell 3
 have q4:=hS.bx.cell 4
 have q5:=hS.bx.cell 5
 have q6:=hS.bx.cell 6
 have q7:=hS.bx.cell 7
 clear hB0 bR hS hT hOk hI
 generalize orW [zfh T,zcW T,zcd T]=x at *
 obtain ⟨x0,x1,x2⟩:=x
 unfold wrV at HR
 dsimp only at HR HCE HRO
 by_cases hx:x0=0
 ·have hx1:=hx
  obtain ⟨y,hy⟩:∃ y,orW (wrL T)=y:=⟨_,rfl⟩
  have HC:Hz (zeb T=y):=kz (by rw [oz HCE,if_pos hx1,hy])
  have hR:=oz HRO hx1
  subst hx
  have HBo:=kz (fun w (ti:TabIn w T a0 a1 a2 a3 a4 a5 a6 a7 us) =>zkl T (zoX (oz HOk).1 hR) a0 a1 a2 a3 a4 a5 a6 a7 c0 c1 c2 c3 c4 c5 c6 c7 us w ti)
  have HWr:=kz (fun B w (h:BookAt w B T) =>zi7 hR ⟨fun x hx =>zfL (hR.f4 x hx).2,fun x hx =>zfL (hR.f5 x hx).2⟩ B w h)
  rw [hy] at HWr
  have HRw:=kz hR
  clear hx1 hR HCE HRO hy
  obtain ⟨y0,y1,y2⟩:=y
  unfold wrV at HWr
  dsimp only at HWr
  rw [oz HC]
  unfold wrV
  dsimp only
  go_enter Tryz.func36,Tryz.ntmps36
  go_wp2_with fail
  refine (oz HR).mono ?_
  rintro e w1 ⟨rfl,hb⟩
  have HS1:=kz (((oz HS).below hb).below (al1 w1 (.cells #[.int .i64 0,.int .i64 x1,.int .i64 x2] 76)))
  clear hb HR HS q0 q1 q2 q3 q4 q5 q6 q7
  have q0:=(oz HS1).bx.cell 0
  have q1:=(oz HS1).bx.cell 1
  have q2:=(oz HS1).bx.cell 2
  have q3:=(oz HS1).bx.cell 3
  have q4:=(oz HS1).bx.cell 4
  have q5:=(oz HS1).bx.cell 5
  have q6:=(oz HS1).bx.cell 6
  have q7:=(oz HS1).bx.cell 7
  go_wp2_with fail
  refine (oz HBo _ (oz HS1).ti).mono ?_
  rintro e w2 ⟨B,rfl,hlB,hbk,hb⟩
  have HS2:=kz (And.intro ((oz HS1).below hb) (And.intro hbk (Nat.le_trans (oz HS1).bl.size hlB)))
  clear hb hbk hlB HS1 HBo q0 q1 q2 q3 q4 q5 q6 q7
  go_wp2_with fail
  refine (oz HWr B w2 (oz HS2).2.1).mono ?_
  rintro e w3 ⟨rfl,hb⟩
  have hn:=al1 w3 (.cells #[.int .i64 y0,.int .i64 y1,.int .i64 y2] 76)
  have HS3:=kz (And.intro (((oz HS2).1.below hb).below hn) (And.intro (((oz HS2).2.1.below hb).below hn) (oz HS2).2.2))
  have bY:=Blk.new w3 #[.int .i64 y0,.int .i64 y1,.int .i64 y2] 76
  have s0:=bY.cell 0
  have s1:=bY.cell 1
  have s2:=bY.cell 2
  have r0:=(oz HS3).1.rs.cell 0
  have r1:=(oz HS3).1.rs.cell 1
  have r2:=(oz HS3).1.rs.cell 2
  have f0:=(oz HS3).1.rs.frozen 0
  have f1:=(oz HS3).1.rs.frozen 1
  have f2:=(oz HS3).1.rs.frozen 2
  clear hb hn HWr HS2 bY
  by_cases hy0:y0=0
  ·have HY:Hz ((0,y1,y2)=((0:Int),(0:Int),(0:Int))):=kz (by
    subst hy0
    have:=zg1 T
    rw [oz HC] at this
    exact this rfl)
   subst hy0
   obtain ⟨_,hh⟩:=Prod.mk.inj (oz HY)
   obtain ⟨rfl,rfl⟩:=Prod.mk.inj hh
   clear hh HY
   go_wp2_with fail
   refine bodyPost_ret (v := .tuple #[.pointer (some ⟨B,0,none⟩),.agg #[.int .i64 0,.int .i64 0,.int .i64 0]]) (zoq Tryz.results36 rfl (zcI (oz HS3).1.rs _ _ _) rfl) rfl ⟨_,rfl, ?_⟩
   refine ⟨za3 (oz HS3).1.bl (by omega) (oz HS3).1.bl.size _ _ _,fun _ =>⟨oz HRw,B,rfl,(oz HS3).2.2,zlV (oz HS3).2.1 (oz HS3).1.rs _ _ _⟩,fun q =>absurd (by rw [oz HC]) q⟩
  ·have n0:(y0 == 0)=false:=by simpa using hy0
   have n1:(y0 != 0)=true:=by simpa using hy0
   go_wp2_with fail
   go_region_with (fail)
   all_goals
    go_wp2_with fail
    refine bodyPost_ret (v := .tuple #[.pointer none,.agg #[.int .i64 y0,.int .i64 y1,.int .i64 y2]]) (zoq Tryz.results36 rfl (zcI (show Blk _ _ _ _ from (oz HS3).1.rs) _ _ _) rfl) rfl ⟨_,rfl, ?_⟩
    exact ⟨zgr (oz HS3).1.bl (by omega) (oz HS3).1.bl.size _ _ _,fun q =>absurd (by rw [oz HC] at q;exact q) hy0,fun _ =>rfl⟩
 ·have HC:Hz (zeb T=(x0,x1,x2)):=kz (by rw [oz HCE,if_neg hx])
  have n0:(x0 == 0)=false:=by simpa using hx
  have n1:(x0 != 0)=true:=by simpa using hx
  rw [oz HC]
  unfold wrV
  dsimp only
  clear HCE HRO
  go_enter Tryz.func36,Tryz.ntmps36
  go_wp2_with fail
  refine (oz HR).mono ?_
  rintro e w1 ⟨rfl,hb⟩
  have HS1:=kz (((oz HS).below hb).below (al1 w1 (.cells #[.int .i64 x0,.int .i64 x1,.int .i64 x2] 76)))
  have bY:=Blk.new w1 #[.int .i64 x0,.int .i64 x1,.int .i64 x2] 76
  have s0:=bY.cell 0
  have s1:=bY.cell 1
  have s2:=bY.cell 2
  have r0:=(oz HS1).rs.cell 0
  have r1:=(oz HS1).rs.cell 1
  have r2:=(oz HS1).rs.cell 2
  have f0:=(oz HS1).rs.frozen 0
  have f1:=(oz HS1).rs.frozen 1
  have f2:=(oz HS1).rs.frozen 2
  clear hb HR HS q0 q1 q2 q3 q4 q5 q6 q7 bY
  go_wp2_with fail
  go_region_with (fail)
  all_goals
   go_wp2_with fail
   refine bodyPost_ret (v := .tuple #[.pointer none,.agg #[.int .i64 x0,.int .i64 x1,.int .i64 x2]]) (zoq Tryz.results36 rfl (zcI (show Blk _ _ _ _ from (oz HS1).rs) _ _ _) rfl) rfl ⟨_,rfl, ?_⟩
   exact ⟨zgr (oz HS1).bl (by omega) (oz HS1).bl.size _ _ _,fun q =>absurd (by rw [oz HC] at q;exact q) hx,fun _ =>rfl⟩
def upB (T:TV):Bool := !zfs T && decide ((zeb T).1=0)
structure OfV (W w:World) (T:TV) (p:Option Addr):Prop where
 bl:Below W.heap.size W w
 ok:upB T=true→(zeb T).1=0∧zap T∧∃ B,p=some ⟨B,0,none⟩∧W.heap.size≤B∧BookAt w B T
set_option maxRecDepth 100000 in
set_option maxHeartbeats 8000000 in
theorem zjt (T:TV) (hT:TabB T) (hI:zjG T) (v:Value) (W:World) (hv:TbV W T v) :
  Calls Tryz.prog 9 #[v] W fun e w' => ∃ p,e=.returned (.tuple #[.pointer p,.bool (upB T),.bool true])∧OfV W w' T p:=by
 have hmx:Tryz.prog.follows .mixedOrders=true:=by kernel_rfl
 obtain ⟨A,rfl,hA⟩:=hv
 have HX:=kz (TbX.start hA)
 have HL:=kz (zls T hT A.a0 A.a1 A.a2 A.a3 A.a4 A.a5 A.a6 A.a7 A.c0 A.c1 A.c2 A.c3 A.c4 A.c5 A.c6 A.c7 A.us _ (TbX.start hA).ti)
 have HC:=kz (fun w (hv:TbV w T (.agg #[.slice A.a0 T.sc.length A.c0,.slice A.a1 T.co.length A.c1,.slice A.a2 T.ma.length A.c2,.slice A.a3 T.pr.length A.c3,.slice A.a4 T.fo.length A.c4,.slice A.a5 T.lk.length A.c5,.slice A.a6 T.dr.length A.c6,.slice A.a7 T.al.length A.c7])) =>rfCheck_any T hT _ w hv)
 have HTT:=kz hT
 have HN:=kz (fun (hO:zgy T) w (hv:zjf w T A) =>zm3 T hO hI A.a0 A.a1 A.a2 A.a3 A.a4 A.a5 A.a6 A.a7 A.c0 A.c1 A.c2 A.c3 A.c4 A.c5 A.c6 A.c7 A.us w hv)
 have HOK:=kz (zg1 T)
 unfold zl2 at HL
 clear hA hT hI
 cases hl:zfs T with
 | true =>
  have hu:upB T=false:=by unfold upB;rw [hl];rfl
  have HU:=kz hu
  rw [hl] at HL
  rw [hu]
  clear hl hu HC HN
  go_enter Tryz.func9,Tryz.ntmps9
  have z0:=(oz HX).z0
  have z1:=(oz HX).z1
  have z2:=(oz HX).z2
  have z3:=(oz HX).z3
  have z4:=(oz HX).z4
  have z5:=(oz HX).z5
  have z6:=(oz HX).z6
  have z7:=(oz HX).z7
  go_wp2_with fail
  generalize W.alloc (.cells #[.slice A.a0 T.sc.length A.c0,.slice A.a1 T.co.length A.c1,.slice A.a2 T.ma.length A.c2,.slice A.a3 T.pr.length A.c3,.slice A.a4 T.fo.length A.c4,.slice A.a5 T.lk.length A.c5,.slice A.a6 T.dr.length A.c6,.slice A.a7 T.al.length A.c7] 28)=w0 at *
  refine (oz HL).mono ?_
  rintro e w1 ⟨rfl,hb⟩
  have HX1:=kz ((oz HX).below hb)
  clear hb HX HL
  go_wp2_with fail
  go_ret3
  exact ⟨none,rfl,(oz HX1).bl,fun e =>absurd ((oz HU).symm.trans e) (by decide)⟩
 | false =>
  have HLF:=kz hl
  rw [hl] at HL
  clear hl
  have HN2:=kz (fun w (hv:zjf w T A) =>oz HN ((oz HTT).ok (oz HLF)) w hv)
  obtain ⟨x0,x1,x2,hx⟩:∃ x0 x1 x2,zeb T=(x0,x1,x2):=⟨_,_,_,rfl⟩
  have HXE:=kz hx
  rw [hx] at HC HOK
  unfold wrV at HC HN2
  rw [hx] at HN2
  dsimp only at HC HN2
  clear HN hx HTT
  by_cases hx0:x0=0
  ·have e:=oz HOK hx0
   obtain ⟨rfl,hh⟩:=Prod.mk.inj e
   obtain ⟨rfl,rfl⟩:=Prod.mk.inj hh
   have hu:upB T=true:=by unfold upB;rw [oz HLF,oz HXE];rfl
   have HU:=kz hu
   rw [hu]
   clear HOK e hh hx0 hu
   go_enter Tryz.func9,Tryz.ntmps9
   have z0:=(oz HX).z0
   have z1:=(oz HX).z1
   have z2:=(oz HX).z2
   have z3:=(oz HX).z3
   have z4:=(oz HX).z4
   have z5:=(oz HX).z5
   have z6:=(oz HX).z6
   have z7:=(oz HX).z7
   go_wp2_with fail
   generalize W.alloc (.cells #[.slice A.a0 T.sc.length A.c0,.slice A.a1 T.co.length A.c1,.slice A.a2 T.ma.length A.c2,.slice A.a3 T.pr.length A.c3,.slice A.a4 T.fo.length A.c4,.slice A.a5 T.lk.length A.c5,.slice A.a6 T.dr.length A.c6,.slice A.a7 T.al.length A.c7] 28)=w0 at *
   refine (oz HL).mono ?_
   rintro e w1 ⟨rfl,hb⟩
   have HX1:=kz ((oz HX).below hb)
   clear hb HX HL
   clear z0 z1 z2 z3 z4 z5 z6 z7
   have z0:=(oz HX1).z0
   have z1:=(oz HX1).z1
   have z2:=(oz HX1).z2
   have z3:=(oz HX1).z3
   have z4:=(oz HX1).z4
   have z5:=(oz HX1).z5
   have z6:=(oz HX1).z6
   have z7:=(oz HX1).z7
   go_wp2_with fail
   refine (oz HN2 _ (oz HX1).ti).mono ?_
   rintro e w2 ⟨p,rfl,hnv⟩
   have HX2:=kz ((oz HX1).below hnv.bl)
   have HLW:=kz (oz HX1).bl
   have HNV:=kz hnv
   clear HX1 HN2 hnv
   clear z0 z1 z2 z3 z4 z5 z6 z7
   have HX3:=kz ((oz HX2).below (zko w2 (.cells #[.int .i64 0,.int .i64 0,.int .i64 0] 76)))
   have b6:=Blk.new w2 #[.int .i64 0,.int .i64 0,.int .i64 0] 76
   have z0:=(oz HX3).z0
   have z1:=(oz HX3).z1
   have z2:=(oz HX3).z2
   have z3:=(oz HX3).z3
   have z4:=(oz HX3).z4
   have z5:=(oz HX3).z5
   have z6:=(oz HX3).z6
   have z7:=(oz HX3).z7
   go_wp2_with fail
   refine (oz HC _ (oz HX3).tv).mono ?_
   rintro e w3 ⟨rfl,hb⟩
   have HX4:=kz (((oz HX3).below hb).below (zko w3 (.cells #[.int .i64 0,.int .i64 0,.int .i64 0] 76)))
   have HB6:=kz ((b6.below hb b6.lt).alloc (.cells #[.int .i64 0,.int .i64 0,.int .i64 0] 76))
   have HHB:=kz hb
   have b7:=Blk.new w3 #[.int .i64 0,.int .i64 0,.int .i64 0] 76
   clear hb HC b6
   clear z0 z1 z2 z3 z4 z5 z6 z7
   have q0:=(oz HB6).cell 0
   have q1:=(oz HB6).cell 1
   have q2:=(oz HB6).cell 2
   have s0:=b7.cell 0
   have s1:=b7.cell 1
   have s2:=b7.cell 2
   clear b7
   obtain ⟨hO,B,rfl,hBl,hbk⟩:=(oz HNV).ok (by rw [oz HXE])
   have HBK:Hz (BookAt (w3.alloc (.cells #[.int .i64 0,.int .i64 0,.int .i64 0] 76)) B T):=kz (((hbk.below (zko w2 (.cells #[.int .i64 0,.int .i64 0,.int .i64 0] 76))).below (oz HHB)).below (zko w3 _))
   have HOB:=kz (And.intro hO (Nat.le_trans (oz HX2).bl.size (show w2.heap.size≤w2.heap.size from Nat.le_refl _)))
   have HBL:Hz (W.heap.size≤B):=kz (by have:=(oz HLW).size;omega)
   clear hO hBl hbk HNV HX2 HX3 HHB
   go_wp2_with fail
   go_ret3
   exact ⟨_,rfl,(oz HX4).bl,fun _ =>⟨by rw [oz HXE],(oz HOB).1,B,rfl,oz HBL,oz HBK⟩⟩
  ·have hu:upB T=false:=by unfold upB;rw [oz HXE,decide_eq_false hx0];simp
   have HU:=kz hu
   have n1:(x0 != 0)=true:=by simpa using hx0
   have n0:(x0 == 0)=false:=by simpa using hx0
   have e0:(x0 == x0)=true:=by simp
   have e1:(x1 == x1)=true:=by simp
   have e2:(x2 == x2)=true:=by simp
   rw [hu]
   clear HOK hu
   go_enter Tryz.func9,Tryz.ntmps9
   have z0:=(oz HX).z0
   have z1:=(oz HX).z1
   have z2:=(oz HX).z2
   have z3:=(oz HX).z3
   have z4:=(oz HX).z4
   have z5:=(oz HX).z5
   have z6:=(oz HX).z6
   have z7:=(oz HX).z7
   go_wp2_with fail
   generalize W.alloc (.cells #[.slice A.a0 T.sc.length A.c0,.slice A.a1 T.co.length A.c1,.slice A.a2 T.ma.length A.c2,.slice A.a3 T.pr.length A.c3,.slice A.a4 T.fo.length A.c4,.slice A.a5 T.lk.length A.c5,.slice A.a6 T.dr.length A.c6,.slice A.a7 T.al.length A.c7] 28)=w0 at *
   refine (oz HL).mono ?_
   rintro e w1 ⟨rfl,hb⟩
   have HX1:=kz ((oz HX).below hb)
   clear hb HX HL
   clear z0 z1 z2 z3 z4 z5 z6 z7
   have z0:=(oz HX1).z0
   have z1:=(oz HX1).z1
   have z2:=(oz HX1).z2
   have z3:=(oz HX1).z3
   have z4:=(oz HX1).z4
   have z5:=(oz HX1).z5
   have z6:=(oz HX1).z6
   have z7:=(oz HX1).z7
   go_wp2_with fail
   refine (oz HN2 _ (oz HX1).ti).mono ?_
   rintro e w2 ⟨p,rfl,hnv⟩
   have HX2:=kz ((oz HX1).below hnv.bl)
   have HNV:=kz hnv
   clear HX1 HN2 hnv
   clear z0 z1 z2 z3 z4 z5 z6 z7
   have HX3:=kz ((oz HX2).below (zko w2 (.cells #[.int .i64 x0,.int .i64 x1,.int .i64 x2] 76)))
   have b6:=Blk.new w2 #[.int .i64 x0,.int .i64 x1,.int .i64 x2] 76
   have z0:=(oz HX3).z0
   have z1:=(oz HX3).z1
   have z2:=(oz HX3).z2
   have z3:=(oz HX3).z3
   have z4:=(oz HX3).z4
   have z5:=(oz HX3).z5
   have z6:=(oz HX3).z6
   have z7:=(oz HX3).z7
   go_wp2_with fail
   refine (oz HC _ (oz HX3).tv).mono ?_
   rintro e w3 ⟨rfl,hb⟩
   have HX4:=kz (((oz HX3).below hb).below (zko w3 (.cells #[.int .i64 x0,.int .i64 x1,.int .i64 x2] 76)))
   have HB6:=kz ((b6.below hb b6.lt).alloc (.cells #[.int .i64 x0,.int .i64 x1,.int .i64 x2] 76))
   have HHB:=kz hb
   have b7:=Blk.new w3 #[.int .i64 x0,.int .i64 x1,.int .i64 x2] 76
   clear hb HC b6
   clear z0 z1 z2 z3 z4 z5 z6 z7
   have q0:=(oz HB6).cell 0
   have q1:=(oz HB6).cell 1
   have q2:=(oz HB6).cell 2
   have s0:=b7.cell 0
   have s1:=b7.cell 1
   have s2:=b7.cell 2
   clear b7
   obtain rfl:=(oz HNV).no (by rw [oz HXE];exact hx0)
   clear HNV HX2 HX3 HHB HB6 hx0
   have y0:=cell_regrown q0
   have y1:=cell_regrown q1
   have y2:=cell_regrown q2
   have t0:=cell_regrown s0
   have t1:=cell_regrown s1
   have t2:=cell_regrown s2
   have HBX:=kz (oz HX4).bl
   go_wp2_with fail
   generalize w3.alloc (.cells #[.int .i64 x0,.int .i64 x1,.int .i64 x2] 76)=w4 at *
   clear q0 q1 q2 s0 s1 s2
   refine wp_region_quiet_below (by kernel_rfl) (by kernel_rfl) ?_
   repeat (go_big_quiet_step (fail))
   first | refine wpQuiet_nil ?_ | skip
   rintro w' ⟨p,rfl⟩
   have HBq:=kz (below_regrown w4 p.d p.os)
   generalize Go.Sort.grow (redrawn w4 p.d) p.os=w5 at *
   clear y0 y1 y2 t0 t1 t2
   go_wp2_with fail
   go_ret3
   exact ⟨none,rfl,(oz HBX).trans ((oz HBq).mono (oz HBX).size),fun e =>absurd ((oz HU).symm.trans e) (by decide)⟩
def HT:TV:={ sc := [((ByteArray.mk #[108,97,116,105,110]),[(65,90),(97,122),(232,234),(7865,7871)]),((ByteArray.mk #[103,114,101,101,107]),[(945,969)]),((ByteArray.mk #[99,121,114,105,108,108,105,99]),[(1072,1103)])],co := [(45,57)],ma := [(769,230),(770,230),(803,220)],pr := [(233,101,769),(234,101,770),(7865,101,803),(7871,234,769)],fo := [(65,(ByteArray.mk #[97])),(69,(ByteArray.mk #[101]))],lk := [(1072,(ByteArray.mk #[97])),(49,(ByteArray.mk #[108])),(109,(ByteArray.mk #[114,110]))],dr := [(8205,8205)],al := [(45,45),(48,57),(97,122),(232,234),(769,770),(803,803),(945,969),(1072,1103),(7865,7871)],r1 := [],r2 := [],r3 := [],r4 := [],r5 := [],r6 := [],r7 := [],r8 := [] }
theorem znk:zeb HT=(0,0,0):=by decide +kernel
theorem znj:zfs HT=false:=by decide +kernel
theorem zpP:upB HT=true:=by unfold upB;rw [znj,znk];rfl
theorem zqZ:TabB HT:=⟨by decide,by decide,by decide,by decide,by decide,by decide,by decide,by decide,by decide +kernel,by decide +kernel,by decide +kernel,by decide +kernel⟩
theorem zqY:zjG HT:=by
 refine ⟨?_, ?_, ?_, ?_, ?_, ?_, ?_, ?_⟩
 all_goals
  unfold R32
  decide +kernel
theorem zbV {w:World} {g:Nat} {cs:Array Value} {t:TypeId} (b:Blk w g cs t) (xs:List Value) (e:cs=xs.toArray):RowC w w.heap.size (some ⟨g,0,none⟩) xs:=fun _ =>⟨g,0,rfl,b.lt,fun j v hv =>by
 rw [Nat.zero_add,b.cell j,e,List.getElem?_toArray]
 exact hv⟩
def zqp (W:World) (l:List (Array Value × TypeId)):World:=l.foldl (fun w x =>w.alloc (.cells x.1 x.2)) W
theorem zim {g:Nat} {cs:Array Value} {t:TypeId}:∀ (l:List (Array Value × TypeId)) (W:World),Blk W g cs t→Blk (zqp W l) g cs t
 | [],W,h =>h
 | x::l,W,h =>zim l (W.alloc (.cells x.1 x.2)) (h.alloc _)
theorem zjF {cs:Array Value} {t:TypeId}:∀ (l:List (Array Value × TypeId)) (W:World) (k:Nat),l[k]?=some (cs,t)→Blk (zqp W l) (W.heap.size+k) cs t
 | [],W,k,h =>by simp at h
 | x::l,W,0,h =>by
  cases h
  exact zim l (W.alloc (.cells cs t)) (Blk.new W cs t)
 | x::l,W,k+1,h =>by
  have:=zjF l (W.alloc (.cells x.1 x.2)) k h
  rw [World.size_alloc,Nat.add_right_comm] at this
  exact this
theorem zha {W0:World}:∀ (l:List (Array Value × TypeId)) (W:World),Below W0.heap.size W0 W→Below W0.heap.size W0 (zqp W l)
 | [],W,h =>h
 | x::l,W,h =>zha l (W.alloc (.cells x.1 x.2)) (h.alloc h.size _)
def hsL (W:World):List (Array Value × TypeId) := [(#[.slice (some ⟨W.heap.size+1+1+1+1,0,none⟩) 3 3,.slice (some ⟨W.heap.size+1+1+1+1+1,0,none⟩) 1 1,.slice (some ⟨W.heap.size+1+1+1+1+1+1,0,none⟩) 3 3,.slice (some ⟨W.heap.size+1+1+1+1+1+1+1,0,none⟩) 4 4,.slice (some ⟨W.heap.size+1+1+1+1+1+1+1+1,0,none⟩) 2 2,.slice (some ⟨W.heap.size+1+1+1+1+1+1+1+1+1,0,none⟩) 3 3,.slice (some ⟨W.heap.size+1+1+1+1+1+1+1+1+1+1,0,none⟩) 1 1,.slice (some ⟨W.heap.size+1+1+1+1+1+1+1+1+1+1+1,0,none⟩) 9 9],28),(#[.int .i32 65,.int .i32 90,.int .i32 97,.int .i32 122,.int .i32 232,.int .i32 234,.int .i32 7865,.int .i32 7871],113),(#[.int .i32 945,.int .i32 969],113),(#[.int .i32 1072,.int .i32 1103],113),(#[.string (ByteArray.mk #[108,97,116,105,110]),.slice (some ⟨W.heap.size+1,0,none⟩) 4 4,.string (ByteArray.mk #[103,114,101,101,107]),.slice (some ⟨W.heap.size+1+1,0,none⟩) 1 1,.string (ByteArray.mk #[99,121,114,105,108,108,105,99]),.slice (some ⟨W.heap.size+1+1+1,0,none⟩) 1 1],109),(#[.int .i32 45,.int .i32 57],113),(#[.int .i32 769,.int .i64 230,.int .i32 770,.int .i64 230,.int .i32 803,.int .i64 220],115),(#[.int .i32 233,.int .i32 101,.int .i32 769,.int .i32 234,.int .i32 101,.int .i32 770,.int .i32 7865,.int .i32 101,.int .i32 803,.int .i32 7871,.int .i32 234,.int .i32 769],117),(#[.int .i32 65,.string (ByteArray.mk #[97]),.int .i32 69,.string (ByteArray.mk #[101])],119),(#[.int .i32 1072,.string (ByteArray.mk #[97]),.int .i32 49,.string (ByteArray.mk #[108]),.int .i32 109,.string (ByteArray.mk #[114,110])],119),(#[.int .i32 8205,.int .i32 8205],113),(#[.int .i32 45,.int .i32 45,.int .i32 48,.int .i32 57,.int .i32 97,.int .i32 122,.int .i32 232,.int .i32 234,.int .i32 769,.int .i32 770,.int .i32 803,.int .i32 803,.int .i32 945,.int .i32 969,.int .i32 1072,.int .i32 1103,.int .i32 7865,.int .i32 7871],113)]
def hsW (W:World):World:=zqp W (hsL W)
theorem hsB (W:World) (k:Nat) {cs:Array Value} {t:TypeId} (h:(hsL W)[k]?=some (cs,t)):Blk (hsW W) (W.heap.size+k) cs t:=zjF _ W k h
theorem hs0 (W:World):Blk (hsW W) W.heap.size #[.slice (some ⟨W.heap.size+1+1+1+1,0,none⟩) 3 3,.slice (some ⟨W.heap.size+1+1+1+1+1,0,none⟩) 1 1,.slice (some ⟨W.heap.size+1+1+1+1+1+1,0,none⟩) 3 3,.slice (some ⟨W.heap.size+1+1+1+1+1+1+1,0,none⟩) 4 4,.slice (some ⟨W.heap.size+1+1+1+1+1+1+1+1,0,none⟩) 2 2,.slice (some ⟨W.heap.size+1+1+1+1+1+1+1+1+1,0,none⟩) 3 3,.slice (some ⟨W.heap.size+1+1+1+1+1+1+1+1+1+1,0,none⟩) 1 1,.slice (some ⟨W.heap.size+1+1+1+1+1+1+1+1+1+1+1,0,none⟩) 9 9] 28:=hsB W 0 rfl
theorem znl (W:World):Below W.heap.size W (hsW W):=zha _ W (Below.refl _ _)
theorem zpQ (W:World):TbV (hsW W) HT (.agg #[.slice (some ⟨W.heap.size+1+1+1+1,0,none⟩) 3 3,.slice (some ⟨W.heap.size+1+1+1+1+1,0,none⟩) 1 1,.slice (some ⟨W.heap.size+1+1+1+1+1+1,0,none⟩) 3 3,.slice (some ⟨W.heap.size+1+1+1+1+1+1+1,0,none⟩) 4 4,.slice (some ⟨W.heap.size+1+1+1+1+1+1+1+1,0,none⟩) 2 2,.slice (some ⟨W.heap.size+1+1+1+1+1+1+1+1+1,0,none⟩) 3 3,.slice (some ⟨W.heap.size+1+1+1+1+1+1+1+1+1+1,0,none⟩) 1 1,.slice (some ⟨W.heap.size+1+1+1+1+1+1+1+1+1+1+1,0,none⟩) 9 9]):=by
 refine ⟨⟨some ⟨W.heap.size+1+1+1+1,0,none⟩,some ⟨W.heap.size+1+1+1+1+1,0,none⟩,some ⟨W.heap.size+1+1+1+1+1+1,0,none⟩,some ⟨W.heap.size+1+1+1+1+1+1+1,0,none⟩,some ⟨W.heap.size+1+1+1+1+1+1+1+1,0,none⟩,some ⟨W.heap.size+1+1+1+1+1+1+1+1+1,0,none⟩,some ⟨W.heap.size+1+1+1+1+1+1+1+1+1+1,0,none⟩,some ⟨W.heap.size+1+1+1+1+1+1+1+1+1+1+1,0,none⟩,3,1,3,4,2,3,1,9,[.slice (some ⟨W.heap.size+1,0,none⟩) 4 4,.slice (some ⟨W.heap.size+1+1,0,none⟩) 1 1,.slice (some ⟨W.heap.size+1+1+1,0,none⟩) 1 1]⟩,rfl, ?_⟩
 refine ⟨rfl,zbV (hsB W 4 rfl) _ rfl,zbV (hsB W 5 rfl) _ rfl,zbV (hsB W 6 rfl) _ rfl,zbV (hsB W 7 rfl) _ rfl,zbV (hsB W 8 rfl) _ rfl,zbV (hsB W 9 rfl) _ rfl,zbV (hsB W 10 rfl) _ rfl,zbV (hsB W 11 rfl) _ rfl, ?_⟩
 intro j x u hx hu
 rcases j with _ | _ | _ | j
 ·injection hx with hx
  injection hu with hu
  subst hx hu
  exact ⟨_,_,rfl,zbV (hsB W 1 rfl) _ rfl⟩
 ·injection hx with hx
  injection hu with hu
  subst hx hu
  exact ⟨_,_,rfl,zbV (hsB W 2 rfl) _ rfl⟩
 ·injection hx with hx
  injection hu with hu
  subst hx hu
  exact ⟨_,_,rfl,zbV (hsB W 3 rfl) _ rfl⟩
 ·have hx:=(List.getElem?_eq_some_iff.1 hx).1
  have:HT.sc.length=3:=rfl
  omega
set_option maxRecDepth 100000 in
set_option maxHeartbeats 8000000 in
theorem zeV (W:World):Calls Tryz.prog 38 #[] W fun e w' => ∃ v,e=.returned v∧TbV w' HT v∧Below W.heap.size W w':=by
 have HB:=kz (hs0 W)
 go_enter Tryz.func38,Tryz.ntmps38
 go_wp2_with fail
 exact bodyPost_ret (v := .agg #[.slice (some ⟨W.heap.size+1+1+1+1,0,none⟩) 3 3,.slice (some ⟨W.heap.size+1+1+1+1+1,0,none⟩) 1 1,.slice (some ⟨W.heap.size+1+1+1+1+1+1,0,none⟩) 3 3,.slice (some ⟨W.heap.size+1+1+1+1+1+1+1,0,none⟩) 4 4,.slice (some ⟨W.heap.size+1+1+1+1+1+1+1+1,0,none⟩) 2 2,.slice (some ⟨W.heap.size+1+1+1+1+1+1+1+1+1,0,none⟩) 3 3,.slice (some ⟨W.heap.size+1+1+1+1+1+1+1+1+1+1,0,none⟩) 1 1,.slice (some ⟨W.heap.size+1+1+1+1+1+1+1+1+1+1+1,0,none⟩) 9 9]) (results_cell_row Tryz.results38 _ _ _ _ _ _ _ rfl (oz HB) Tryz.underlying28 rfl (by kernel_rfl)) rfl ⟨_,rfl,zpQ W,znl W⟩
theorem zdJ (v:Value) (W:World) (hv:TbV W HT v):Calls Tryz.prog 9 #[v] W fun e w' => ∃ B,e=.returned (.tuple #[.pointer (some ⟨B,0,none⟩),.bool true,.bool true])∧zap HT∧W.heap.size≤B∧BookAt w' B HT∧Below W.heap.size W w':=by
 refine (zjt HT zqZ zqY v W hv).mono ?_
 rintro e w' ⟨p,rfl,h⟩
 rw [zpP]
 obtain ⟨_,hO,B,rfl,hB,hb⟩:=h.ok zpP
 exact ⟨B,rfl,hO,hB,hb,h.bl⟩
end Go.Proofs.YtmemedpoaocdkaaGreat
namespace Go.Proofs.YtmemedpoaocdkaaGreat
open Go.RowKit Go.Shelf
attribute [local go_sem] Oper.semAt_some
set_option linter.unusedVariables false
attribute [local go_sem] Oper.semAt_some
set_option linter.unusedVariables false
theorem zfA {B:Nat} (W:World) (k:Nat) (s:ByteArray) (pos:Nat) (h:B≤k):Below B W (W.iterAt k s pos) :=
 ⟨rfl,rfl,rfl,by rw [Lib.iterAt_size];exact Nat.le_refl _,fun i hi =>Lib.iterAt_other W k i s pos (by omega)⟩
end Go.Proofs.YtmemedpoaocdkaaGreat
namespace Go.Proofs.YtmemedpoaocdkaaGreat
open Go.RowKit Go.Shelf
set_option linter.unusedVariables false


def zfW (zs:List Int):Bool:=zs.all (fun z => !(zax z == 0))
def zdE (zs:List Int):Value:=if zfW zs then .tuple #[.string (runesBytes zs),.int .i64 0] else .tuple #[.string ⟨#[]⟩,.int .i64 12]

set_option maxRecDepth 100000 in
set_option maxHeartbeats 2000000 in
theorem zmG (g o cap:Nat) (zs:List Int) (hz:zs.length≤9223372036854775807) (w:World) (hc:∀ j,j < zs.length→w.cell? ⟨g,o+j,none⟩=some (.int .i32 (zs.getD j 0))) :
  Calls Tryz.prog 43 #[.slice (some ⟨g,o,none⟩) zs.length cap] w fun e w' =>e=.returned (zdE zs)∧w'=w:=by
 have HC:=kz hc
 have kc:=run_convert_runes (P:=Tryz.prog) w 88 9 21 ⟨g,o,none⟩ zs.length cap zs (Nat.le_refl _) Tryz.underlying88 Tryz.underlying21 Tryz.underlying9 (fun j hj =>by
  rw [show (⟨g,o,none⟩:Addr).add j=⟨g,o+j,none⟩ by unfold Addr.add;split <;> simp_all]
  exact hc j hj)
 rw [List.take_length] at kc
 have HKC:=kz kc
 clear hc kc
 go_enter Tryz.func43,Tryz.ntmps43
 go_wp2
 go_loop [8] (fun i => ∃ k:Nat,k≤zs.length∧i=.int .i64 k∧Hz (∀ j,j < k→zax (zs.getD j 0)≠0)) (fun i =>zs.length - (intOf i).toNat)
 case atStart =>exact ⟨0,by omega,rfl,kz (fun j hj =>by omega)⟩
 case round =>
  obtain ⟨k,hk,rfl,H⟩:=hrel
  by_cases hkn:k < zs.length
  ·have hck:=oz HC k hkn
   have hk1:(k:Int) < (zs.length:Int):=by omega
   have hmem:zs.getD k 0 ∈ zs:=by rw [List.getD,List.getElem?_eq_getElem hkn];exact List.getElem_mem hkn
   have HM:=kz hmem
   clear hmem
   generalize hz:zs.getD k 0=z at *
   have HZ:=kz hz
   clear hz
   by_cases hw0:zax z=0
   ·have hb:(zax z == 0)=true:=by simp [hw0]
    have hv:zdE zs=.tuple #[.string ⟨#[]⟩,.int .i64 12]:=by
     unfold zdE
     rw [if_neg]
     unfold zfW
     intro h
     have:=List.all_eq_true.1 h z (oz HM)
     simp [hw0] at this
    have HV:=kz hv
    clear hv hw0
    go_wp2_with (go_at_call 66;refine (zbq _ _).mono ?_;rintro e w' ⟨rfl,rfl⟩)
    go_ret2
    exact ⟨by rw [oz HV];rfl,rfl⟩
   ·have hb:(zax z == 0)=false:=by simp [hw0]
    go_wp2_with (go_at_call 66;refine (zbq _ _).mono ?_;rintro e w' ⟨rfl,rfl⟩)
    go_round
    case rel =>
     refine ⟨k+1,by omega,by go_num,kz (fun j hj =>?_)⟩
     by_cases e:j=k
     ·subst e;rw [oz HZ];exact hw0
     ·exact oz H j (by omega)
    case measure =>simp [intOf];omega
  ·have hk1:¬ (k:Int) < (zs.length:Int):=by omega
   have hv:zdE zs=.tuple #[.string (runesBytes zs),.int .i64 0]:=by
    unfold zdE
    rw [if_pos]
    unfold zfW
    rw [List.all_eq_true]
    intro z hz
    obtain ⟨j,hj,rfl⟩:=List.getElem_of_mem hz
    have:=oz H j (by omega)
    rw [List.getD,List.getElem?_eq_getElem hj] at this
    simpa using this
   have HV:=kz hv
   clear hv
   have kc:=oz HKC
   go_wp2
   go_ret2
   exact ⟨by rw [oz HV];rfl,rfl⟩

theorem zbB {w:World} {ops:Array Oper} {rest:List Oper} {o:Oper} {a:Act} {Q:Exit→Act→World→Prop} (hgd:o.guard=none) (s x:Operand) (T E:TypeId)
  (ho:o.op=.call { callee := .builtin .append,args:=#[s,x],argTypes:=#[T,T] }) (i:TypeInfo) (z:Value) (bytes:Nat) (hT:Tryz.prog.underlying T=some (.slice E)) (hi:Tryz.prog.info? E=some i) (h1:i.zero=some z) (h2:i.size=1) (h3:i.bytes=bytes) (hzs:z.cells.size=1) (hb8:bytes≤64)
  (lo:Nat) (v:Value) (xs:List Value) (u:Value) (hs:a.eval s=v) (hl:xs.length≤900000) (W:World) (hW:w=W.alloc (.cells #[u] E)) (hu:u.oneCell'=true) (hv:W.ownsRow lo E 1 v xs.length xs) (hlo:lo≤W.heap.size) (n:Nat) (hn:n=W.heap.size) (hx:a.eval x=.slice (some ⟨n,0,none⟩) 1 1)
  (h:∀ v' w',w'.ownsRow lo E 1 v' (xs++[u]).length (xs++[u])→Below lo W w'→wpList Tryz.prog ops Q rest (a.put o.dst v') w'):wpList Tryz.prog ops Q (o::rest) a w:=by
 subst hW
 subst hn
 have b:=Blk.new W #[u] E
 refine wpList_append_own _ hgd s x T ho lo E i z 1 bytes hT hi h1 h2 h3 hzs (by decide) v xs.length xs hs (hv.alloc _) ⟨W.heap.size,0,none⟩ 1 1 [u] hx (by simp) (fun j y hj =>?_) (fun y hy =>by rw [List.mem_singleton.1 hy];exact hu) (by unfold maxLen;omega) ?_ (by simp;omega) (fun v' w' h4 h5 _ =>h v' w' (by rw [List.length_append,List.length_singleton];exact h4) ?_)
 ·match j,hj with
  | 0,hj =>cases hj;exact b.cell 0
  | j+1,hj =>simp at hj
 ·have:(xs.length+1)*bytes≤900001*64:=Nat.mul_le_mul (by omega) hb8
  omega
 ·exact ((Below.refl lo W).alloc hlo _).grown h5 (by simp;omega) (fun k e =>((hv.alloc (.cells #[u] E)).lt k e).1)
end Go.Proofs.YtmemedpoaocdkaaGreat
namespace Go.Proofs.YtmemedpoaocdkaaGreat
open Go.RowKit Go.Shelf Go.ChangeShapes
set_option linter.unusedVariables false

end Go.Proofs.YtmemedpoaocdkaaGreat
namespace Go.Proofs.YtmemedpoaocdkaaGreat
open Go.RowKit Go.Shelf
set_option linter.unusedVariables false

end Go.Proofs.YtmemedpoaocdkaaGreat
