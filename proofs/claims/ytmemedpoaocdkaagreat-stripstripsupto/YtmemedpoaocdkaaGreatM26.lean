/- Texts of this claim, one behind the other. -/
import Derived.Test.YtmemedpoaocdkaaGreatM25
import Derived.Test.YtmemedpoaocdkaaGreatM11
import Derived.Laws.BytesArg
namespace Go.Proofs.YtmemedpoaocdkaaGreat
set_option linter.unusedVariables false
section
open Go.RowKit Go.Shelf Go.Maps
set_option maxRecDepth 100000
set_option maxHeartbeats 8000000
theorem zpK {fn:Func} {u p:Tmp} {tmps:Array Value} {w:World} {R:Nat} {cs:Array Value} (h:fn.results=#[.tmp u,.cell p 76]) (hp:tmps.getD p undef=.pointer (some ⟨R,0,none⟩)) (hb:Blk w R cs 76) (hc:cs.size=3):(results fn tmps).run Tryz.prog w=.ok (.tuple #[tmps.getD u undef,.agg cs]) w:=by
 have hp':tmps[p]?.getD undef=.pointer (some ⟨R,0,none⟩):=by simpa using hp
 have hl:=run_loadVar_row (P:=Tryz.prog) w R _ 76 cs _ _ hb Tryz.underlying76 rfl (by rw [hc];kernel_rfl)
 simp only [results,h]
 simp [Result.andThen,hp',asAddr,hl]
theorem zol (T:TV) (us:List Value) (l:Ln) (hl:l ∈ zis T us):l.E≠76:=by
 have key:l.E=109∨l.E=113∨l.E=115∨l.E=117∨l.E=119:=by
  unfold zis at hl
  simp only [List.mem_append,List.mem_cons,List.mem_map,List.not_mem_nil,or_false] at hl
  rcases hl with ((((((((h | ⟨_,_,h⟩) | h) | h) | h) | h) | h) | h) | h)
  ·rw [h];exact .inl rfl
  ·rw [← h];exact .inr (.inl rfl)
  ·rw [h];exact .inr (.inl rfl)
  ·rw [h];exact .inr (.inr (.inl rfl))
  ·rw [h];exact .inr (.inr (.inr (.inl rfl)))
  ·rw [h];exact .inr (.inr (.inr (.inr rfl)))
  ·rw [h];exact .inr (.inr (.inr (.inr rfl)))
  ·rw [h];exact .inr (.inl rfl)
  ·rw [h];exact .inr (.inl rfl)
 generalize l.E=x at key
 rcases key with rfl | rfl | rfl | rfl | rfl
 all_goals decide
theorem zgQ {lo R:Nat} {W w:World} (h:Below lo W w) (hl:lo≤R) (hs:lo≤w.heap.size) (x y z:Value):Below lo W (((w.drew.setCell ⟨R,0,none⟩ x).setCell ⟨R,1,none⟩ y).setCell ⟨R,2,none⟩ z):=zaW (w:=w.drew) (h.trans (show Below lo w w.drew from ⟨rfl,rfl,rfl,Nat.le_refl _,fun _ _ =>rfl⟩)) hl hs x y z
theorem zre {w:World} {R:Nat} {cs:Array Value} (b:Blk w R cs 76) {g:Nat} {cur:Array Value} {t:TypeId} (hb:Blk w g cur t) (ht:t≠76):¬ g=R:=by
 rintro rfl
 unfold Blk at b hb
 rw [b] at hb
 injection hb with e
 injection e with _ e
 exact ht e.symm
theorem zln {w w':World} {B R:Nat} {T:TV} {cs:Array Value} (h:BookAt w B T) (b:Blk w R cs 76) (k:KeptX (fun g =>g=R) w w') (hints:∀ (j:Nat) (y:Int),cs[j]?≠some (.int .i32 y)):BookAt w' B T:=by
 obtain ⟨lo,t0,t1,t2,t3,t4,t5,t6,t7,sv,bs,Bc,Bd,Ba,M5,n5,M6,n6,M7,n7,MF,nF,ML,nL,h⟩:=h
 have row:∀ {lo E sz n:Nat} {v:Value} {xs:List Value},w.ownsRow lo E sz v n xs→E≠76→w'.ownsRow lo E sz v n xs:=fun {lo E sz n v xs} h hE =>by
  rcases h.2 with ⟨e,h0⟩ | ⟨g,cap,cur,e,hb,hg,r⟩
  ·exact ⟨h.1,.inl ⟨e,h0⟩⟩
  ·exact ⟨h.1,.inr ⟨g,cap,cur,e,hb,k.blk hg (zre b hg hE),r⟩⟩
 have setv:∀ l C,SetV w l C→SetV w' l C:=fun l C ⟨zs,lo0,h1,h2⟩ =>by
  obtain ⟨va,vb,f1,f2,f3⟩:=h1.form
  exact ⟨zs,lo0,⟨⟨va,vb,k.blk f1 (zre b f1 (by decide)),row f2 (by decide),row f3 (by decide)⟩,h1.lo⟩,h2⟩
 have mpx:∀ {kt:TypeId} {Rd:Value→Option (DataW Unit × List MemPlace)} {M n:Nat} {G:Lit→Option (DataW Unit)},MpAt w kt Rd M n G→MpAt w' kt Rd M n G:=fun {kt Rd M n G} hm =>k.mp hm (zcs hm b)
 have foa:∀ M n l,FoAt w M n l→FoAt w' M n l:=fun M n l hf =>by
  obtain ⟨G,h1,h2⟩:=hf.mp
  refine ⟨G,mpx h1,fun r hr =>?_⟩
  rcases h2 r hr with h3 | ⟨x,hx,e,g,c,h4,h5,h6⟩
  ·exact .inl h3
  ·refine .inr ⟨x,hx,e,g,c,h4,h5,Nat.lt_of_lt_of_le h6.1 k.size,fun j y hy =>(k.cell (p:=⟨g,j,none⟩) h6.1 (fun e =>?_)).trans (h6.2 j y hy)⟩
   have e:g=R:=e
   subst e
   have:=h6.2 j y hy
   rw [b.cell j] at this
   exact hints _ _ this
 exact ⟨lo, t0, t1, t2, t3, t4, t5, t6, t7, sv, bs, Bc, Bd, Ba, M5, n5, M6, n6, M7, n7, MF, nF, ML, nL,
   { bx := k.blk h.bx (zre b h.bx (by decide))
     tb:=by
       obtain ⟨v0,us,v1,v2,v3,v4,v5,v6,v7,e,hl,h1⟩:=h.tb
       exact ⟨v0,us,v1,v2,v3,v4,v5,v6,v7,e,hl,h1.ll,fun i v l hv hl =>row (h1.own i v l hv hl) (zol T us l (List.mem_of_getElem? hl)),h1.apart⟩
     len:=h.len
     row:=row h.row (by decide)
     sets:=fun j s b h1 h2 =>setv _ _ (h.sets j s b h1 h2)
     co:=setv _ _ h.co
     dr:=setv _ _ h.dr
     al:=setv _ _ h.al
     cl:=let ⟨G,g1,g2⟩:=h.cl.mp; ⟨G,mpx g1,g2⟩
     pa:=let ⟨G,g1,g2⟩:=h.pa.mp; ⟨G,mpx g1,g2⟩
     jo:=let ⟨G,g1,g2⟩:=h.jo.mp; ⟨G,mpx g1,g2⟩
     fo:=foa _ _ _ h.fo
     lk:=foa _ _ _ h.lk }⟩
theorem zjN (w:World) (R:Nat) (x y z:Value):KeptX (fun g =>g=R) w (((w.setCell ⟨R,0,none⟩ x).setCell ⟨R,1,none⟩ y).setCell ⟨R,2,none⟩ z):=((zdB w R 0 x).trans (zdB _ R 1 y)).trans (zdB _ R 2 z)
theorem znu {w:World} {B R:Nat} {T:TV} (h:BookAt w B T) (b:Blk w R #[.int .i64 0,.int .i64 0,.int .i64 0] 76) (x y z:Value):BookAt (((w.setCell ⟨R,0,none⟩ x).setCell ⟨R,1,none⟩ y).setCell ⟨R,2,none⟩ z) B T :=
 zln h b (zjN w R x y z) (fun j y e =>by
  rcases j with _ | _ | _ | j
  ·injection e with e;cases e
  ·injection e with e;cases e
  ·injection e with e;cases e
  ·simp at e)
theorem zgf (s:ByteArray):∀ f i,s.size≤i+f→s.size≤i+4*(zaj s f i).length
 | 0,i,h =>by simp only [zaj,List.length_nil];omega
 | f+1,i,h =>by
  by_cases hi:i < s.size
  ·rw [zar s f i hi,List.length_cons]
   have h1:=zbv s i
   have h2:=zps s i
   have:=zgf s f (i+wd s i) (by omega)
   omega
  ·rw [zaH s _ i hi];simp;omega
theorem zfW {s:ByteArray} (h:toB s=true):s.size≤1048576:=by
 have h1:=(zff h).2.2
 have h2:=zgf s s.size 0 (by omega)
 unfold zak zah at h1
 rw [List.length_map] at h1
 omega
theorem zk7 {s:ByteArray} (h:zdi s=true):s.size≤1048576:=by
 unfold zdi at h
 rw [Bool.and_eq_true,decide_eq_true_eq] at h
 omega
theorem zqk {T:TV} (hO:zfU T) (hR:zav T):zrK T :=
 ⟨hO,fun x hx =>zk7 (hR.f0 x hx).1,fun x hx =>⟨zfW (hR.f4 x hx).2,zcq (hR.f4 x hx).1⟩,fun x hx =>⟨zfW (hR.f5 x hx).2,zcq (hR.f5 x hx).1⟩,fun x hx =>zcq (hR.f2 x hx).1,fun x hx =>⟨zcq (hR.f3 x hx).1,zcq (hR.f3 x hx).2.1,zcq (hR.f3 x hx).2.2⟩,hR.f1,hR.f6,hR.f7,fun x hx =>(hR.f0 x hx).2⟩
theorem zo6 (T:TV):zcJ T=if (orW [zbL T,zbh T,za9 T]).1=0 then orW (wrL T) else orW [zbL T,zbh T,za9 T]:=za3 [zbL T,zbh T,za9 T] (wrL T)
structure zrY (W w:World) (T:TV) (p:Option Addr):Prop where
 bl:Below W.heap.size W w
 ok:(zcJ T).1=0→zav T∧∃ B,p=some ⟨B,0,none⟩∧W.heap.size≤B∧BookAt w B T
 no:(zcJ T).1≠0→p=none
structure NwS (W w:World) (T:TV) (a0 a1 a2 a3 a4 a5 a6 a7:Option Addr) (c0 c1 c2 c3 c4 c5 c6 c7:Nat) (us:List Value):Prop where
 bl:Below W.heap.size W w
 bx:Blk w W.heap.size #[.slice a0 T.sc.length c0,.slice a1 T.co.length c1,.slice a2 T.ma.length c2,.slice a3 T.pr.length c3,.slice a4 T.fo.length c4,.slice a5 T.lk.length c5,.slice a6 T.dr.length c6,.slice a7 T.al.length c7] 28
 rs:Blk w (W.heap.size+1) #[.int .i64 0,.int .i64 0,.int .i64 0] 76
 ti:TabIn w T a0 a1 a2 a3 a4 a5 a6 a7 us
theorem NwS.below {W w w':World} {T:TV} {a0 a1 a2 a3 a4 a5 a6 a7:Option Addr} {c0 c1 c2 c3 c4 c5 c6 c7:Nat} {us:List Value} (h:NwS W w T a0 a1 a2 a3 a4 a5 a6 a7 c0 c1 c2 c3 c4 c5 c6 c7 us) (hb:Below w.heap.size w w'):NwS W w' T a0 a1 a2 a3 a4 a5 a6 a7 c0 c1 c2 c3 c4 c5 c6 c7 us:=⟨h.bl.trans (hb.mono h.bl.size),h.bx.below hb h.bx.lt,h.rs.below hb h.rs.lt,h.ti.lower hb⟩
theorem zoK (T:TV) (hOk:zfU T) (hI:zlM T) (a0 a1 a2 a3 a4 a5 a6 a7:Option Addr) (c0 c1 c2 c3 c4 c5 c6 c7:Nat) (us:List Value) (W:World) (hT:TabIn W T a0 a1 a2 a3 a4 a5 a6 a7 us) :
  Calls Tryz.prog 36 #[.agg #[.slice a0 T.sc.length c0,.slice a1 T.co.length c1,.slice a2 T.ma.length c2,.slice a3 T.pr.length c3,.slice a4 T.fo.length c4,.slice a5 T.lk.length c5,.slice a6 T.dr.length c6,.slice a7 T.al.length c7]] W fun e w' => ∃ p,e=.returned (.tuple #[.pointer p,wrV (zcJ T)])∧zrY W w' T p:=by
 have hmx:Tryz.prog.follows .mixedOrders=true:=by kernel_rfl
 have hB0:Below W.heap.size W ((W.alloc (.cells #[.slice a0 T.sc.length c0,.slice a1 T.co.length c1,.slice a2 T.ma.length c2,.slice a3 T.pr.length c3,.slice a4 T.fo.length c4,.slice a5 T.lk.length c5,.slice a6 T.dr.length c6,.slice a7 T.al.length c7] 28)).alloc (.cells #[.int .i64 0,.int .i64 0,.int .i64 0] 76)):=((Below.refl _ W).alloc (Nat.le_refl _) _).alloc (by simp) _
 have bR:Blk ((W.alloc (.cells #[.slice a0 T.sc.length c0,.slice a1 T.co.length c1,.slice a2 T.ma.length c2,.slice a3 T.pr.length c3,.slice a4 T.fo.length c4,.slice a5 T.lk.length c5,.slice a6 T.dr.length c6,.slice a7 T.al.length c7] 28)).alloc (.cells #[.int .i64 0,.int .i64 0,.int .i64 0] 76)) (W.heap.size+1) #[.int .i64 0,.int .i64 0,.int .i64 0] 76:=by
  have h:=Blk.new (W.alloc (.cells #[.slice a0 T.sc.length c0,.slice a1 T.co.length c1,.slice a2 T.ma.length c2,.slice a3 T.pr.length c3,.slice a4 T.fo.length c4,.slice a5 T.lk.length c5,.slice a6 T.dr.length c6,.slice a7 T.al.length c7] 28)) #[.int .i64 0,.int .i64 0,.int .i64 0] 76
  rw [World.size_alloc] at h
  exact h
 have hS:NwS W ((W.alloc (.cells #[.slice a0 T.sc.length c0,.slice a1 T.co.length c1,.slice a2 T.ma.length c2,.slice a3 T.pr.length c3,.slice a4 T.fo.length c4,.slice a5 T.lk.length c5,.slice a6 T.dr.length c6,.slice a7 T.al.length c7] 28)).alloc (.cells #[.int .i64 0,.int .i64 0,.int .i64 0] 76)) T a0 a1 a2 a3 a4 a5 a6 a7 c0 c1 c2 c3 c4 c5 c6 c7 us:=⟨hB0,(Blk.new W _ _).alloc _,bR,hT.lower hB0⟩
 have HR:=kz (zhS T hOk hI a0 a1 a2 a3 a4 a5 a6 a7 c0 c1 c2 c3 c4 c5 c6 c7 us ((W.alloc (.cells #[.slice a0 T.sc.length c0,.slice a1 T.co.length c1,.slice a2 T.ma.length c2,.slice a3 T.pr.length c3,.slice a4 T.fo.length c4,.slice a5 T.lk.length c5,.slice a6 T.dr.length c6,.slice a7 T.al.length c7] 28)).alloc (.cells #[.int .i64 0,.int .i64 0,.int .i64 0] 76)) hS.ti)
 have HOk:=kz (And.intro hOk hI)
 have HCE:=kz (zo6 T)
 have HRO:=kz (ziz (T:=T))
 have HS:=kz hS
 have q0:=hS.bx.cell 0
 have q1:=hS.bx.cell 1
 have q2:=hS.bx.cell 2
 have q3:=hS.bx.cell 3
 have q4:=hS.bx.cell 4
 have q5:=hS.bx.cell 5
 have q6:=hS.bx.cell 6
 have q7:=hS.bx.cell 7
 clear hB0 bR hS hT hOk hI
 generalize orW [zbL T,zbh T,za9 T]=x at *
 obtain ⟨x0,x1,x2⟩:=x
 unfold wrV at HR
 dsimp only at HR HCE HRO
 by_cases hx:x0=0
 ·have hx1:=hx
  obtain ⟨y,hy⟩:∃ y,orW (wrL T)=y:=⟨_,rfl⟩
  have HC:Hz (zcJ T=y):=kz (by rw [oz HCE,if_pos hx1,hy])
  have hR:=oz HRO hx1
  subst hx
  have HBo:=kz (fun w (ti:TabIn w T a0 a1 a2 a3 a4 a5 a6 a7 us) =>zlo T (zqk (oz HOk).1 hR) a0 a1 a2 a3 a4 a5 a6 a7 c0 c1 c2 c3 c4 c5 c6 c7 us w ti)
  have HWr:=kz (fun B w (h:BookAt w B T) =>zj1 hR ⟨fun x hx =>zfW (hR.f4 x hx).2,fun x hx =>zfW (hR.f5 x hx).2⟩ B w h)
  rw [hy] at HWr
  have HRw:=kz hR
  clear hx1 hR HCE HRO hy
  obtain ⟨y0,y1,y2⟩:=y
  unfold wrV at HWr
  dsimp only at HWr
  rw [oz HC]
  unfold wrV
  dsimp only
  go_enter Tryz.func36,Tryz.ntmps36
  go_wp2_with fail
  refine (oz HR).mono ?_
  rintro e w1 ⟨rfl,hb⟩
  have HS1:=kz (((oz HS).below hb).below (al1 w1 (.cells #[.int .i64 0,.int .i64 x1,.int .i64 x2] 76)))
  clear hb HR HS q0 q1 q2 q3 q4 q5 q6 q7
  have q0:=(oz HS1).bx.cell 0
  have q1:=(oz HS1).bx.cell 1
  have q2:=(oz HS1).bx.cell 2
  have q3:=(oz HS1).bx.cell 3
  have q4:=(oz HS1).bx.cell 4
  have q5:=(oz HS1).bx.cell 5
  have q6:=(oz HS1).bx.cell 6
  have q7:=(oz HS1).bx.cell 7
  go_wp2_with fail
  refine (oz HBo _ (oz HS1).ti).mono ?_
  rintro e w2 ⟨B,rfl,hlB,hbk,hb⟩
  have HS2:=kz (And.intro ((oz HS1).below hb) (And.intro hbk (Nat.le_trans (oz HS1).bl.size hlB)))
  clear hb hbk hlB HS1 HBo q0 q1 q2 q3 q4 q5 q6 q7
  go_wp2_with fail
  refine (oz HWr B w2 (oz HS2).2.1).mono ?_
  rintro e w3 ⟨rfl,hb⟩
  have hn:=al1 w3 (.cells #[.int .i64 y0,.int .i64 y1,.int .i64 y2] 76)
  have HS3:=kz (And.intro (((oz HS2).1.below hb).below hn) (And.intro (((oz HS2).2.1.below hb).below hn) (oz HS2).2.2))
  have bY:=Blk.new w3 #[.int .i64 y0,.int .i64 y1,.int .i64 y2] 76
  have s0:=bY.cell 0
  have s1:=bY.cell 1
  have s2:=bY.cell 2
  have r0:=(oz HS3).1.rs.cell 0
  have r1:=(oz HS3).1.rs.cell 1
  have r2:=(oz HS3).1.rs.cell 2
  have f0:=(oz HS3).1.rs.frozen 0
  have f1:=(oz HS3).1.rs.frozen 1
  have f2:=(oz HS3).1.rs.frozen 2
  clear hb hn HWr HS2 bY
  by_cases hy0:y0=0
  ·have HY:Hz ((0,y1,y2)=((0:Int),(0:Int),(0:Int))):=kz (by
    subst hy0
    have:=zhw T
    rw [oz HC] at this
    exact this rfl)
   subst hy0
   obtain ⟨_,hh⟩:=Prod.mk.inj (oz HY)
   obtain ⟨rfl,rfl⟩:=Prod.mk.inj hh
   clear hh HY
   go_wp2_with fail
   refine bodyPost_ret (v := .tuple #[.pointer (some ⟨B,0,none⟩),.agg #[.int .i64 0,.int .i64 0,.int .i64 0]]) (zpK Tryz.results36 rfl (zcf (oz HS3).1.rs _ _ _) rfl) rfl ⟨_,rfl, ?_⟩
   refine ⟨zaW (oz HS3).1.bl (by omega) (oz HS3).1.bl.size _ _ _,fun _ =>⟨oz HRw,B,rfl,(oz HS3).2.2,znu (oz HS3).2.1 (oz HS3).1.rs _ _ _⟩,fun q =>absurd (by rw [oz HC]) q⟩
  ·have n0:(y0 == 0)=false:=by simpa using hy0
   have n1:(y0 != 0)=true:=by simpa using hy0
   go_wp2_with fail
   go_region_with (fail)
   all_goals
    go_wp2_with fail
    refine bodyPost_ret (v := .tuple #[.pointer none,.agg #[.int .i64 y0,.int .i64 y1,.int .i64 y2]]) (zpK Tryz.results36 rfl (zcf (show Blk _ _ _ _ from (oz HS3).1.rs) _ _ _) rfl) rfl ⟨_,rfl, ?_⟩
    exact ⟨zgQ (oz HS3).1.bl (by omega) (oz HS3).1.bl.size _ _ _,fun q =>absurd (by rw [oz HC] at q;exact q) hy0,fun _ =>rfl⟩
 ·have HC:Hz (zcJ T=(x0,x1,x2)):=kz (by rw [oz HCE,if_neg hx])
  have n0:(x0 == 0)=false:=by simpa using hx
  have n1:(x0 != 0)=true:=by simpa using hx
  rw [oz HC]
  unfold wrV
  dsimp only
  clear HCE HRO
  go_enter Tryz.func36,Tryz.ntmps36
  go_wp2_with fail
  refine (oz HR).mono ?_
  rintro e w1 ⟨rfl,hb⟩
  have HS1:=kz (((oz HS).below hb).below (al1 w1 (.cells #[.int .i64 x0,.int .i64 x1,.int .i64 x2] 76)))
  have bY:=Blk.new w1 #[.int .i64 x0,.int .i64 x1,.int .i64 x2] 76
  have s0:=bY.cell 0
  have s1:=bY.cell 1
  have s2:=bY.cell 2
  have r0:=(oz HS1).rs.cell 0
  have r1:=(oz HS1).rs.cell 1
  have r2:=(oz HS1).rs.cell 2
  have f0:=(oz HS1).rs.frozen 0
  have f1:=(oz HS1).rs.frozen 1
  have f2:=(oz HS1).rs.frozen 2
  clear hb HR HS q0 q1 q2 q3 q4 q5 q6 q7 bY
  go_wp2_with fail
  go_region_with (fail)
  all_goals
   go_wp2_with fail
   refine bodyPost_ret (v := .tuple #[.pointer none,.agg #[.int .i64 x0,.int .i64 x1,.int .i64 x2]]) (zpK Tryz.results36 rfl (zcf (show Blk _ _ _ _ from (oz HS1).rs) _ _ _) rfl) rfl ⟨_,rfl, ?_⟩
   exact ⟨zgQ (oz HS1).bl (by omega) (oz HS1).bl.size _ _ _,fun q =>absurd (by rw [oz HC] at q;exact q) hx,fun _ =>rfl⟩
set_option maxRecDepth 100000
set_option maxHeartbeats 8000000
def upB (T:TV):Bool := !zfE T && decide ((zcJ T).1=0)
structure OfV (W w:World) (T:TV) (p:Option Addr):Prop where
 bl:Below W.heap.size W w
 ok:upB T=true→(zcJ T).1=0∧zav T∧∃ B,p=some ⟨B,0,none⟩∧W.heap.size≤B∧BookAt w B T
theorem zmB (T:TV) (hT:TabB T) (hI:zlM T) (v:Value) (W:World) (hv:TbV W T v) :
  Calls Tryz.prog 9 #[v] W fun e w' => ∃ p,e=.returned (.tuple #[.pointer p,.bool (upB T),.bool true])∧OfV W w' T p:=by
 have hmx:Tryz.prog.follows .mixedOrders=true:=by kernel_rfl
 obtain ⟨A,rfl,hA⟩:=hv
 have HX:=kz (TbX.start hA)
 have HL:=kz (zmV T hT A.a0 A.a1 A.a2 A.a3 A.a4 A.a5 A.a6 A.a7 A.c0 A.c1 A.c2 A.c3 A.c4 A.c5 A.c6 A.c7 A.us _ (TbX.start hA).ti)
 have HC:=kz (fun w (hv:TbV w T (.agg #[.slice A.a0 T.sc.length A.c0,.slice A.a1 T.co.length A.c1,.slice A.a2 T.ma.length A.c2,.slice A.a3 T.pr.length A.c3,.slice A.a4 T.fo.length A.c4,.slice A.a5 T.lk.length A.c5,.slice A.a6 T.dr.length A.c6,.slice A.a7 T.al.length A.c7])) =>zju T hT _ w hv)
 have HTT:=kz hT
 have HN:=kz (fun (hO:zfU T) w (hv:zfM w T A) =>zoK T hO hI A.a0 A.a1 A.a2 A.a3 A.a4 A.a5 A.a6 A.a7 A.c0 A.c1 A.c2 A.c3 A.c4 A.c5 A.c6 A.c7 A.us w hv)
 have HOK:=kz (zhw T)
 unfold zop at HL
 clear hA hT hI
 cases hl:zfE T with
 | true =>
  have hu:upB T=false:=by unfold upB;rw [hl];rfl
  have HU:=kz hu
  rw [hl] at HL
  rw [hu]
  clear hl hu HC HN
  go_enter Tryz.func9,Tryz.ntmps9
  have z0:=(oz HX).z0
  have z1:=(oz HX).z1
  have z2:=(oz HX).z2
  have z3:=(oz HX).z3
  have z4:=(oz HX).z4
  have z5:=(oz HX).z5
  have z6:=(oz HX).z6
  have z7:=(oz HX).z7
  go_wp2_with fail
  generalize W.alloc (.cells #[.slice A.a0 T.sc.length A.c0,.slice A.a1 T.co.length A.c1,.slice A.a2 T.ma.length A.c2,.slice A.a3 T.pr.length A.c3,.slice A.a4 T.fo.length A.c4,.slice A.a5 T.lk.length A.c5,.slice A.a6 T.dr.length A.c6,.slice A.a7 T.al.length A.c7] 28)=w0 at *
  refine (oz HL).mono ?_
  rintro e w1 ⟨rfl,hb⟩
  have HX1:=kz ((oz HX).below hb)
  clear hb HX HL
  go_wp2_with fail
  go_ret3
  exact ⟨none,rfl,(oz HX1).bl,fun e =>absurd ((oz HU).symm.trans e) (by decide)⟩
 | false =>
  have HLF:=kz hl
  rw [hl] at HL
  clear hl
  have HN2:=kz (fun w (hv:zfM w T A) =>oz HN ((oz HTT).ok (oz HLF)) w hv)
  obtain ⟨x0,x1,x2,hx⟩:∃ x0 x1 x2,zcJ T=(x0,x1,x2):=⟨_,_,_,rfl⟩
  have HXE:=kz hx
  rw [hx] at HC HOK
  unfold wrV at HC HN2
  rw [hx] at HN2
  dsimp only at HC HN2
  clear HN hx HTT
  by_cases hx0:x0=0
  ·have e:=oz HOK hx0
   obtain ⟨rfl,hh⟩:=Prod.mk.inj e
   obtain ⟨rfl,rfl⟩:=Prod.mk.inj hh
   have hu:upB T=true:=by unfold upB;rw [oz HLF,oz HXE];rfl
   have HU:=kz hu
   rw [hu]
   clear HOK e hh hx0 hu
   go_enter Tryz.func9,Tryz.ntmps9
   have z0:=(oz HX).z0
   have z1:=(oz HX).z1
   have z2:=(oz HX).z2
   have z3:=(oz HX).z3
   have z4:=(oz HX).z4
   have z5:=(oz HX).z5
   have z6:=(oz HX).z6
   have z7:=(oz HX).z7
   go_wp2_with fail
   generalize W.alloc (.cells #[.slice A.a0 T.sc.length A.c0,.slice A.a1 T.co.length A.c1,.slice A.a2 T.ma.length A.c2,.slice A.a3 T.pr.length A.c3,.slice A.a4 T.fo.length A.c4,.slice A.a5 T.lk.length A.c5,.slice A.a6 T.dr.length A.c6,.slice A.a7 T.al.length A.c7] 28)=w0 at *
   refine (oz HL).mono ?_
   rintro e w1 ⟨rfl,hb⟩
   have HX1:=kz ((oz HX).below hb)
   clear hb HX HL
   clear z0 z1 z2 z3 z4 z5 z6 z7
   have z0:=(oz HX1).z0
   have z1:=(oz HX1).z1
   have z2:=(oz HX1).z2
   have z3:=(oz HX1).z3
   have z4:=(oz HX1).z4
   have z5:=(oz HX1).z5
   have z6:=(oz HX1).z6
   have z7:=(oz HX1).z7
   go_wp2_with fail
   refine (oz HN2 _ (oz HX1).ti).mono ?_
   rintro e w2 ⟨p,rfl,hnv⟩
   have HX2:=kz ((oz HX1).below hnv.bl)
   have HLW:=kz (oz HX1).bl
   have HNV:=kz hnv
   clear HX1 HN2 hnv
   clear z0 z1 z2 z3 z4 z5 z6 z7
   have HX3:=kz ((oz HX2).below (zf8 w2 (.cells #[.int .i64 0,.int .i64 0,.int .i64 0] 76)))
   have b6:=Blk.new w2 #[.int .i64 0,.int .i64 0,.int .i64 0] 76
   have z0:=(oz HX3).z0
   have z1:=(oz HX3).z1
   have z2:=(oz HX3).z2
   have z3:=(oz HX3).z3
   have z4:=(oz HX3).z4
   have z5:=(oz HX3).z5
   have z6:=(oz HX3).z6
   have z7:=(oz HX3).z7
   go_wp2_with fail
   refine (oz HC _ (oz HX3).tv).mono ?_
   rintro e w3 ⟨rfl,hb⟩
   have HX4:=kz (((oz HX3).below hb).below (zf8 w3 (.cells #[.int .i64 0,.int .i64 0,.int .i64 0] 76)))
   have HB6:=kz ((b6.below hb b6.lt).alloc (.cells #[.int .i64 0,.int .i64 0,.int .i64 0] 76))
   have HHB:=kz hb
   have b7:=Blk.new w3 #[.int .i64 0,.int .i64 0,.int .i64 0] 76
   clear hb HC b6
   clear z0 z1 z2 z3 z4 z5 z6 z7
   have q0:=(oz HB6).cell 0
   have q1:=(oz HB6).cell 1
   have q2:=(oz HB6).cell 2
   have s0:=b7.cell 0
   have s1:=b7.cell 1
   have s2:=b7.cell 2
   clear b7
   obtain ⟨hO,B,rfl,hBl,hbk⟩:=(oz HNV).ok (by rw [oz HXE])
   have HBK:Hz (BookAt (w3.alloc (.cells #[.int .i64 0,.int .i64 0,.int .i64 0] 76)) B T):=kz (((hbk.below (zf8 w2 (.cells #[.int .i64 0,.int .i64 0,.int .i64 0] 76))).below (oz HHB)).below (zf8 w3 _))
   have HOB:=kz (And.intro hO (Nat.le_trans (oz HX2).bl.size (show w2.heap.size≤w2.heap.size from Nat.le_refl _)))
   have HBL:Hz (W.heap.size≤B):=kz (by have:=(oz HLW).size;omega)
   clear hO hBl hbk HNV HX2 HX3 HHB
   go_wp2_with fail
   go_ret3
   exact ⟨_,rfl,(oz HX4).bl,fun _ =>⟨by rw [oz HXE],(oz HOB).1,B,rfl,oz HBL,oz HBK⟩⟩
  ·have hu:upB T=false:=by unfold upB;rw [oz HXE,decide_eq_false hx0];simp
   have HU:=kz hu
   have n1:(x0 != 0)=true:=by simpa using hx0
   have n0:(x0 == 0)=false:=by simpa using hx0
   have e0:(x0 == x0)=true:=by simp
   have e1:(x1 == x1)=true:=by simp
   have e2:(x2 == x2)=true:=by simp
   rw [hu]
   clear HOK hu
   go_enter Tryz.func9,Tryz.ntmps9
   have z0:=(oz HX).z0
   have z1:=(oz HX).z1
   have z2:=(oz HX).z2
   have z3:=(oz HX).z3
   have z4:=(oz HX).z4
   have z5:=(oz HX).z5
   have z6:=(oz HX).z6
   have z7:=(oz HX).z7
   go_wp2_with fail
   generalize W.alloc (.cells #[.slice A.a0 T.sc.length A.c0,.slice A.a1 T.co.length A.c1,.slice A.a2 T.ma.length A.c2,.slice A.a3 T.pr.length A.c3,.slice A.a4 T.fo.length A.c4,.slice A.a5 T.lk.length A.c5,.slice A.a6 T.dr.length A.c6,.slice A.a7 T.al.length A.c7] 28)=w0 at *
   refine (oz HL).mono ?_
   rintro e w1 ⟨rfl,hb⟩
   have HX1:=kz ((oz HX).below hb)
   clear hb HX HL
   clear z0 z1 z2 z3 z4 z5 z6 z7
   have z0:=(oz HX1).z0
   have z1:=(oz HX1).z1
   have z2:=(oz HX1).z2
   have z3:=(oz HX1).z3
   have z4:=(oz HX1).z4
   have z5:=(oz HX1).z5
   have z6:=(oz HX1).z6
   have z7:=(oz HX1).z7
   go_wp2_with fail
   refine (oz HN2 _ (oz HX1).ti).mono ?_
   rintro e w2 ⟨p,rfl,hnv⟩
   have HX2:=kz ((oz HX1).below hnv.bl)
   have HNV:=kz hnv
   clear HX1 HN2 hnv
   clear z0 z1 z2 z3 z4 z5 z6 z7
   have HX3:=kz ((oz HX2).below (zf8 w2 (.cells #[.int .i64 x0,.int .i64 x1,.int .i64 x2] 76)))
   have b6:=Blk.new w2 #[.int .i64 x0,.int .i64 x1,.int .i64 x2] 76
   have z0:=(oz HX3).z0
   have z1:=(oz HX3).z1
   have z2:=(oz HX3).z2
   have z3:=(oz HX3).z3
   have z4:=(oz HX3).z4
   have z5:=(oz HX3).z5
   have z6:=(oz HX3).z6
   have z7:=(oz HX3).z7
   go_wp2_with fail
   refine (oz HC _ (oz HX3).tv).mono ?_
   rintro e w3 ⟨rfl,hb⟩
   have HX4:=kz (((oz HX3).below hb).below (zf8 w3 (.cells #[.int .i64 x0,.int .i64 x1,.int .i64 x2] 76)))
   have HB6:=kz ((b6.below hb b6.lt).alloc (.cells #[.int .i64 x0,.int .i64 x1,.int .i64 x2] 76))
   have HHB:=kz hb
   have b7:=Blk.new w3 #[.int .i64 x0,.int .i64 x1,.int .i64 x2] 76
   clear hb HC b6
   clear z0 z1 z2 z3 z4 z5 z6 z7
   have q0:=(oz HB6).cell 0
   have q1:=(oz HB6).cell 1
   have q2:=(oz HB6).cell 2
   have s0:=b7.cell 0
   have s1:=b7.cell 1
   have s2:=b7.cell 2
   clear b7
   obtain rfl:=(oz HNV).no (by rw [oz HXE];exact hx0)
   clear HNV HX2 HX3 HHB HB6 hx0
   have y0:=cell_regrown q0
   have y1:=cell_regrown q1
   have y2:=cell_regrown q2
   have t0:=cell_regrown s0
   have t1:=cell_regrown s1
   have t2:=cell_regrown s2
   have HBX:=kz (oz HX4).bl
   go_wp2_with fail
   generalize w3.alloc (.cells #[.int .i64 x0,.int .i64 x1,.int .i64 x2] 76)=w4 at *
   clear q0 q1 q2 s0 s1 s2
   refine wp_region_quiet_below (by kernel_rfl) (by kernel_rfl) ?_
   repeat (go_big_quiet_step (fail))
   first | refine wpQuiet_nil ?_ | skip
   rintro w' ⟨p,rfl⟩
   have HBq:=kz (below_regrown w4 p.d p.os)
   generalize Go.Sort.grow (redrawn w4 p.d) p.os=w5 at *
   clear y0 y1 y2 t0 t1 t2
   go_wp2_with fail
   go_ret3
   exact ⟨none,rfl,(oz HBX).trans ((oz HBq).mono (oz HBX).size),fun e =>absurd ((oz HU).symm.trans e) (by decide)⟩
set_option maxRecDepth 100000
set_option maxHeartbeats 8000000
def HT:TV:={ sc := [((ByteArray.mk #[108,97,116,105,110]),[(65,90),(97,122),(232,234),(7865,7871)]),((ByteArray.mk #[103,114,101,101,107]),[(945,969)]),((ByteArray.mk #[99,121,114,105,108,108,105,99]),[(1072,1103)])],co := [(45,57)],ma := [(769,230),(770,230),(803,220)],pr := [(233,101,769),(234,101,770),(7865,101,803),(7871,234,769)],fo := [(65,(ByteArray.mk #[97])),(69,(ByteArray.mk #[101]))],lk := [(1072,(ByteArray.mk #[97])),(49,(ByteArray.mk #[108])),(109,(ByteArray.mk #[114,110]))],dr := [(8205,8205)],al := [(45,45),(48,57),(97,122),(232,234),(769,770),(803,803),(945,969),(1072,1103),(7865,7871)],r1 := [],r2 := [],r3 := [],r4 := [],r5 := [],r6 := [],r7 := [],r8 := [] }
theorem zoY:zcJ HT=(0,0,0):=by decide +kernel
theorem zoX:zfE HT=false:=by decide +kernel
theorem zqO:upB HT=true:=by unfold upB;rw [zoX,zoY];rfl
theorem zrQ:TabB HT:=⟨by decide,by decide,by decide,by decide,by decide,by decide,by decide,by decide,by decide +kernel,by decide +kernel,by decide +kernel,by decide +kernel⟩
theorem zrP:zlM HT:=by
 refine ⟨?_, ?_, ?_, ?_, ?_, ?_, ?_, ?_⟩
 all_goals
  unfold R32
  decide +kernel
theorem zc4 {w:World} {g:Nat} {cs:Array Value} {t:TypeId} (b:Blk w g cs t) (xs:List Value) (e:cs=xs.toArray):RowC w w.heap.size (some ⟨g,0,none⟩) xs:=fun _ =>⟨g,0,rfl,b.lt,fun j v hv =>by
 rw [Nat.zero_add,b.cell j,e,List.getElem?_toArray]
 exact hv⟩
def zrc (W:World) (l:List (Array Value × TypeId)):World:=l.foldl (fun w x =>w.alloc (.cells x.1 x.2)) W
theorem zi7 {g:Nat} {cs:Array Value} {t:TypeId}:∀ (l:List (Array Value × TypeId)) (W:World),Blk W g cs t→Blk (zrc W l) g cs t
 | [],W,h =>h
 | x::l,W,h =>zi7 l (W.alloc (.cells x.1 x.2)) (h.alloc _)
theorem zkB {cs:Array Value} {t:TypeId}:∀ (l:List (Array Value × TypeId)) (W:World) (k:Nat),l[k]?=some (cs,t)→Blk (zrc W l) (W.heap.size+k) cs t
 | [],W,k,h =>by simp at h
 | x::l,W,0,h =>by
  cases h
  exact zi7 l (W.alloc (.cells cs t)) (Blk.new W cs t)
 | x::l,W,k+1,h =>by
  have:=zkB l (W.alloc (.cells x.1 x.2)) k h
  rw [World.size_alloc,Nat.add_right_comm] at this
  exact this
theorem zhG {W0:World}:∀ (l:List (Array Value × TypeId)) (W:World),Below W0.heap.size W0 W→Below W0.heap.size W0 (zrc W l)
 | [],W,h =>h
 | x::l,W,h =>zhG l (W.alloc (.cells x.1 x.2)) (h.alloc h.size _)
def hsL (W:World):List (Array Value × TypeId) := [(#[.slice (some ⟨W.heap.size+1+1+1+1,0,none⟩) 3 3,.slice (some ⟨W.heap.size+1+1+1+1+1,0,none⟩) 1 1,.slice (some ⟨W.heap.size+1+1+1+1+1+1,0,none⟩) 3 3,.slice (some ⟨W.heap.size+1+1+1+1+1+1+1,0,none⟩) 4 4,.slice (some ⟨W.heap.size+1+1+1+1+1+1+1+1,0,none⟩) 2 2,.slice (some ⟨W.heap.size+1+1+1+1+1+1+1+1+1,0,none⟩) 3 3,.slice (some ⟨W.heap.size+1+1+1+1+1+1+1+1+1+1,0,none⟩) 1 1,.slice (some ⟨W.heap.size+1+1+1+1+1+1+1+1+1+1+1,0,none⟩) 9 9],28),(#[.int .i32 65,.int .i32 90,.int .i32 97,.int .i32 122,.int .i32 232,.int .i32 234,.int .i32 7865,.int .i32 7871],113),(#[.int .i32 945,.int .i32 969],113),(#[.int .i32 1072,.int .i32 1103],113),(#[.string (ByteArray.mk #[108,97,116,105,110]),.slice (some ⟨W.heap.size+1,0,none⟩) 4 4,.string (ByteArray.mk #[103,114,101,101,107]),.slice (some ⟨W.heap.size+1+1,0,none⟩) 1 1,.string (ByteArray.mk #[99,121,114,105,108,108,105,99]),.slice (some ⟨W.heap.size+1+1+1,0,none⟩) 1 1],109),(#[.int .i32 45,.int .i32 57],113),(#[.int .i32 769,.int .i64 230,.int .i32 770,.int .i64 230,.int .i32 803,.int .i64 220],115),(#[.int .i32 233,.int .i32 101,.int .i32 769,.int .i32 234,.int .i32 101,.int .i32 770,.int .i32 7865,.int .i32 101,.int .i32 803,.int .i32 7871,.int .i32 234,.int .i32 769],117),(#[.int .i32 65,.string (ByteArray.mk #[97]),.int .i32 69,.string (ByteArray.mk #[101])],119),(#[.int .i32 1072,.string (ByteArray.mk #[97]),.int .i32 49,.string (ByteArray.mk #[108]),.int .i32 109,.string (ByteArray.mk #[114,110])],119),(#[.int .i32 8205,.int .i32 8205],113),(#[.int .i32 45,.int .i32 45,.int .i32 48,.int .i32 57,.int .i32 97,.int .i32 122,.int .i32 232,.int .i32 234,.int .i32 769,.int .i32 770,.int .i32 803,.int .i32 803,.int .i32 945,.int .i32 969,.int .i32 1072,.int .i32 1103,.int .i32 7865,.int .i32 7871],113)]
def hsW (W:World):World:=zrc W (hsL W)
theorem hsB (W:World) (k:Nat) {cs:Array Value} {t:TypeId} (h:(hsL W)[k]?=some (cs,t)):Blk (hsW W) (W.heap.size+k) cs t:=zkB _ W k h
theorem hs0 (W:World):Blk (hsW W) W.heap.size #[.slice (some ⟨W.heap.size+1+1+1+1,0,none⟩) 3 3,.slice (some ⟨W.heap.size+1+1+1+1+1,0,none⟩) 1 1,.slice (some ⟨W.heap.size+1+1+1+1+1+1,0,none⟩) 3 3,.slice (some ⟨W.heap.size+1+1+1+1+1+1+1,0,none⟩) 4 4,.slice (some ⟨W.heap.size+1+1+1+1+1+1+1+1,0,none⟩) 2 2,.slice (some ⟨W.heap.size+1+1+1+1+1+1+1+1+1,0,none⟩) 3 3,.slice (some ⟨W.heap.size+1+1+1+1+1+1+1+1+1+1,0,none⟩) 1 1,.slice (some ⟨W.heap.size+1+1+1+1+1+1+1+1+1+1+1,0,none⟩) 9 9] 28:=hsB W 0 rfl
theorem zoZ (W:World):Below W.heap.size W (hsW W):=zhG _ W (Below.refl _ _)
theorem zqP (W:World):TbV (hsW W) HT (.agg #[.slice (some ⟨W.heap.size+1+1+1+1,0,none⟩) 3 3,.slice (some ⟨W.heap.size+1+1+1+1+1,0,none⟩) 1 1,.slice (some ⟨W.heap.size+1+1+1+1+1+1,0,none⟩) 3 3,.slice (some ⟨W.heap.size+1+1+1+1+1+1+1,0,none⟩) 4 4,.slice (some ⟨W.heap.size+1+1+1+1+1+1+1+1,0,none⟩) 2 2,.slice (some ⟨W.heap.size+1+1+1+1+1+1+1+1+1,0,none⟩) 3 3,.slice (some ⟨W.heap.size+1+1+1+1+1+1+1+1+1+1,0,none⟩) 1 1,.slice (some ⟨W.heap.size+1+1+1+1+1+1+1+1+1+1+1,0,none⟩) 9 9]):=by
 refine ⟨⟨some ⟨W.heap.size+1+1+1+1,0,none⟩,some ⟨W.heap.size+1+1+1+1+1,0,none⟩,some ⟨W.heap.size+1+1+1+1+1+1,0,none⟩,some ⟨W.heap.size+1+1+1+1+1+1+1,0,none⟩,some ⟨W.heap.size+1+1+1+1+1+1+1+1,0,none⟩,some ⟨W.heap.size+1+1+1+1+1+1+1+1+1,0,none⟩,some ⟨W.heap.size+1+1+1+1+1+1+1+1+1+1,0,none⟩,some ⟨W.heap.size+1+1+1+1+1+1+1+1+1+1+1,0,none⟩,3,1,3,4,2,3,1,9,[.slice (some ⟨W.heap.size+1,0,none⟩) 4 4,.slice (some ⟨W.heap.size+1+1,0,none⟩) 1 1,.slice (some ⟨W.heap.size+1+1+1,0,none⟩) 1 1]⟩,rfl, ?_⟩
 refine ⟨rfl,zc4 (hsB W 4 rfl) _ rfl,zc4 (hsB W 5 rfl) _ rfl,zc4 (hsB W 6 rfl) _ rfl,zc4 (hsB W 7 rfl) _ rfl,zc4 (hsB W 8 rfl) _ rfl,zc4 (hsB W 9 rfl) _ rfl,zc4 (hsB W 10 rfl) _ rfl,zc4 (hsB W 11 rfl) _ rfl, ?_⟩
 intro j x u hx hu
 rcases j with _ | _ | _ | j
 ·injection hx with hx
  injection hu with hu
  subst hx hu
  exact ⟨_,_,rfl,zc4 (hsB W 1 rfl) _ rfl⟩
 ·injection hx with hx
  injection hu with hu
  subst hx hu
  exact ⟨_,_,rfl,zc4 (hsB W 2 rfl) _ rfl⟩
 ·injection hx with hx
  injection hu with hu
  subst hx hu
  exact ⟨_,_,rfl,zc4 (hsB W 3 rfl) _ rfl⟩
 ·have hx:=(List.getElem?_eq_some_iff.1 hx).1
  have:HT.sc.length=3:=rfl
  omega
theorem ziS (W:World):Calls Tryz.prog 38 #[] W fun e w' => ∃ v,e=.returned v∧TbV w' HT v∧Below W.heap.size W w':=by
 have HB:=kz (hs0 W)
 go_enter Tryz.func38,Tryz.ntmps38
 go_wp2_with fail
 exact bodyPost_ret (v := .agg #[.slice (some ⟨W.heap.size+1+1+1+1,0,none⟩) 3 3,.slice (some ⟨W.heap.size+1+1+1+1+1,0,none⟩) 1 1,.slice (some ⟨W.heap.size+1+1+1+1+1+1,0,none⟩) 3 3,.slice (some ⟨W.heap.size+1+1+1+1+1+1+1,0,none⟩) 4 4,.slice (some ⟨W.heap.size+1+1+1+1+1+1+1+1,0,none⟩) 2 2,.slice (some ⟨W.heap.size+1+1+1+1+1+1+1+1+1,0,none⟩) 3 3,.slice (some ⟨W.heap.size+1+1+1+1+1+1+1+1+1+1,0,none⟩) 1 1,.slice (some ⟨W.heap.size+1+1+1+1+1+1+1+1+1+1+1,0,none⟩) 9 9]) (results_cell_row Tryz.results38 _ _ _ _ _ _ _ rfl (oz HB) Tryz.underlying28 rfl (by kernel_rfl)) rfl ⟨_,rfl,zqP W,zoZ W⟩
theorem zgv (v:Value) (W:World) (hv:TbV W HT v):Calls Tryz.prog 9 #[v] W fun e w' => ∃ B,e=.returned (.tuple #[.pointer (some ⟨B,0,none⟩),.bool true,.bool true])∧zav HT∧W.heap.size≤B∧BookAt w' B HT∧Below W.heap.size W w':=by
 refine (zmB HT zrQ zrP v W hv).mono ?_
 rintro e w' ⟨p,rfl,h⟩
 rw [zqO]
 obtain ⟨_,hO,B,rfl,hB,hb⟩:=h.ok zqO
 exact ⟨B,rfl,hO,hB,hb,h.bl⟩
end
section
open Go.RowKit Go.Shelf
attribute [local go_sem] Oper.semAt_some
attribute [local go_sem] Oper.semAt_some
set_option maxRecDepth 100000
set_option maxHeartbeats 8000000
def KpO (Bn:Nat) (W W':World):Prop:=W'.heap[Bn]?=W.heap[Bn]?
theorem zrq {Bn:Nat} {A B C:World} (h:KpO Bn A B) (k:KpO Bn B C):KpO Bn A C:=Eq.trans k h
theorem zrr {Bn:Nat} (W:World) (l:Nat) (o:Obj) (hl:Bn < l):KpO Bn W (W.putObj l o):=World.putObj_heap_other (by omega)
theorem zb6 {B:Nat} (W:World) (k:Nat) (s:ByteArray) (pos:Nat) (h:B≤k):Below B W (W.iterAt k s pos) :=
 ⟨rfl,rfl,rfl,by rw [Lib.iterAt_size];exact Nat.le_refl _,fun i hi =>Lib.iterAt_other W k i s pos (by omega)⟩
theorem zor (n l Bn:Nat) (hn:1≤n) (s:ByteArray) (hs:s.size≤maxLen) (J Jx:List Nat→World→Prop) (W0:World) (hbx:W0.cell? ⟨Bn,0,none⟩=some (.string s)) (hJ:Old W0.heap.size J)
  (hY:∀ pre x W1,J pre W1→pre++[x] <+: zah s→W0.heap.size≤W1.heap.size→YieldAt Fence.wide (n - 1) Tryz.prog l (zjY s x) W1 fun e W' =>Above W0.heap.size W1 W' ∧
   ((e=.returned (.bool true)∧J (pre++[x]) W'∧KpO Bn W1 W')∨(e=.returned (.bool false)∧Jx (pre++[x]) W')))
  (h0:J [] W0) :
  CallsIn Fence.wide n Tryz.prog 63 #[.func (.yield l) #[] #[],.pointer (some ⟨Bn,0,none⟩)] W0 fun e W' =>(∃ v,e=.returned v) ∧
   ((∃ ys,ys=zah s∧J ys W')∨(∃ pre,pre <+: zah s∧Jx pre W')):=by
 unfold maxLen at hs
 have d0:=hbx
 have hlt:Bn < W0.heap.size:=za5 hbx
 have HBx:=kz hbx
 have HY:=kz hY
 have HJ:=kz hJ
 have H0:=kz h0
 clear hY hJ h0 hbx
 refine callsIn_of_wp Tryz.func63 rfl trivial ?_ rfl
 simp only [Tryz.ntmps63,List.size_toArray,List.length_cons,List.length_nil,Nat.reduceAdd,Nat.reduceSub,Array.replicate_succ,Array.replicate_zero,List.push_toArray,List.append_toArray,List.nil_append,List.cons_append]
 gi_wp2
 gi_loopw [3] (fun _ wr => ∃ (pre:List Nat) (pos f:Nat),Hz (zah s=pre++zaj s f pos)∧s.size≤pos+f∧Hz (wr.heap[W0.heap.size]?=some (.stringIter s pos))∧Hz (wr.cell? ⟨Bn,0,none⟩=some (.string s))∧Hz (J pre wr))
  (fun _ wr =>s.size - wr.iterPos W0.heap.size)
 case atStart =>
  exact ⟨[],0,s.size,kz rfl,by omega,kz (World.iter_heap W0 s 0),kz ((((Below.refl W0.heap.size W0).alloc (Nat.le_refl _) (.stringIter s 0)).cell (p:=⟨Bn,0,none⟩) hlt).trans (oz HBx)),kz (oz HJ _ _ _ (oz H0) ((Below.refl W0.heap.size W0).alloc (Nat.le_refl _) (.stringIter s 0)))⟩
 case round =>
  obtain ⟨pre,pos,f,HST,hf,HIT,HK,HJ1⟩:=hrel
  have hit:=oz HIT
  by_cases hp:pos < s.size
  ·obtain ⟨f,rfl⟩:∃ g,f=g+1:=⟨f - 1,by omega⟩
   have hst:=oz HST
   rw [zar s f pos hp] at hst
   have hnx:∀ ty,(Instr.next (.pointer (some ⟨W0.heap.size,0,none⟩)) true ty).run Tryz.prog wr=_:=fun ty =>Lib.run_next_any_at wr W0.heap.size s pos ty hit hp
   have hb1:=zb6 wr W0.heap.size s (pos+(Utf8.decode s pos).2) (Nat.le_refl W0.heap.size)
   have hi1:=Lib.iterAt_heap wr W0.heap.size s pos (pos+(Utf8.decode s pos).2) hit
   have hsz:W0.heap.size < (wr.iterAt W0.heap.size s (pos+(Utf8.decode s pos).2)).heap.size:=(Array.getElem?_eq_some_iff.1 hi1).1
   have HJ2:=kz (oz HJ _ _ _ (oz HJ1) hb1)
   have HK2:=kz ((hb1.cell (p:=⟨Bn,0,none⟩) hlt).trans (oz HK))
   have HI1:=kz hi1
   have HS:=kz hst
   have hc1:=oz HK2
   have HR:=kz (zkd s pos hp)
   clear hb1 hi1 hst hit HJ1 HST HK
   gi_wp2_with fail
   refine ⟨trivial, ?_⟩
   refine (callsIn_wide.2 (zha _ (by rw [ByteArray.size_extract];unfold maxLen;omega) _ _)).mono ?_
   rintro e W2 ⟨rfl,hb2⟩
   rw [show zgd (s.extract pos s.size) ((Utf8.decode s pos).1:Int)=zhM s pos from oz HR]
   have hj2:=oz HJ _ _ _ (oz HJ2) (hb2.mono (by omega))
   have HK3:=kz ((hb2.cell (p:=⟨Bn,0,none⟩) (by show Bn < _;omega)).trans (oz HK2))
   have HI2:Hz (W2.heap[W0.heap.size]?=some (.stringIter s (pos+(Utf8.decode s pos).2))):=kz ((hb2.block _ hsz).trans (oz HI1))
   have hge2:W0.heap.size≤W2.heap.size:=by have:=hb2.size;omega
   obtain ⟨fn,tmps,assign,body,hy,hR⟩:=(oz HY) pre pos W2 hj2 ⟨zaj s f (pos+wd s pos),by rw [oz HS];simp⟩ hge2
   dsimp only [zjY] at hy
   have HRR:=kz hR
   clear hj2 hb2 hnx hc1 hR HJ2 HK2 HI1
   gi_wp2
   refine (oz HRR).mono ?_
   rintro e W3 ⟨hab,(⟨rfl,hJ3,hk3⟩ | ⟨rfl,hJx3⟩)⟩
   ·have HI3:Hz (W3.heap[W0.heap.size]?=some (.stringIter s (pos+(Utf8.decode s pos).2))):=kz ((hab.same _ (Nat.le_refl _) (Array.getElem?_eq_some_iff.1 (oz HI2)).1).trans (oz HI2))
    have HK4:=kz ((show W3.cell? ⟨Bn,0,none⟩=W2.cell? ⟨Bn,0,none⟩ from World.cell?_of_block (show W3.heap[(⟨Bn,0,none⟩:Addr).block]?=W2.heap[(⟨Bn,0,none⟩:Addr).block]? from hk3)).trans (oz HK3))
    have HJ3:=kz hJ3
    have hc3:=oz HK4
    clear hJ3 hk3 hab hy
    gi_wp2
    go_roundw
    case rel =>exact ⟨pre++[pos],pos+wd s pos,f,kz (by rw [oz HS];simp),by have:=zbv s pos;omega,HI3,HK4,HJ3⟩
    case measure =>rw [zaA (oz HI3),zaA (oz HIT)];have:=zbv s pos;simp only [wd] at this;omega
   ·have HJx3:=kz hJx3
    clear hJx3 hab hy
    gi_wp2
    refine bodyPost_ret (results_none rfl _ _ _) rfl ?_
    exact ⟨⟨_,rfl⟩,.inr ⟨pre++[pos],⟨zaj s f (pos+wd s pos),by rw [oz HS];simp⟩,oz HJx3⟩⟩
  ·have hnx:∀ ty,(Instr.next (.pointer (some ⟨W0.heap.size,0,none⟩)) true ty).run Tryz.prog wr=_:=fun ty =>Lib.run_next_end_at wr W0.heap.size s pos ty hit hp
   have hst:=oz HST
   rw [zaH s f pos hp,List.append_nil] at hst
   have HE:Hz (J (zah s) wr):=kz (by rw [hst];exact oz HJ1)
   clear hst hit
   gi_wp2
   go_end0
   first
    | exact ⟨⟨_,rfl⟩,.inl ⟨_,rfl,oz HE⟩⟩
    | exact ⟨⟨_,rfl⟩,.inl (oz HE)⟩
theorem zkM (n Bn:Nat) (hn:1≤n) (s:ByteArray) (hs:s.size≤maxLen) (w:World) (hbx:w.cell? ⟨Bn,0,none⟩=some (.string s)) :
  zgW Fence.wide n Tryz.prog 63 #[.pointer (some ⟨Bn,0,none⟩)] (zjY s) (KpO Bn) (fun ys =>ys=zah s) (fun pre =>pre <+: zah s) (fun pre x =>pre++[x] <+: zah s) w:=fun l J Jx W hW hJ _ hY h0 =>
 zor n l Bn hn s hs J Jx W ((hW.cell (p:=⟨Bn,0,none⟩) (za5 hbx)).trans hbx) hJ hY h0
end
section
open Go.RowKit Go.Shelf
def Marks (lo:Nat) (W:World):Nat→List Deferred→Prop
 | _,[] =>True
 | hi,d::ds => ∃ D,lo≤D∧D < hi∧d = { target := .collected D,args:=#[] }∧W.heap[D]?=some (.deferred (some []))∧Marks lo W D ds
theorem Marks.keep {lo:Nat} {W W':World}:∀ {ds:List Deferred} {hi:Nat},Marks lo W hi ds→(∀ k,k < hi→W.heap[k]?=some (.deferred (some []))→W'.heap[k]?=some (.deferred (some [])))→Marks lo W' hi ds
 | [],_,_,_ =>trivial
 | d::ds,hi,h,hk =>by
  obtain ⟨D,h1,h2,h3,h4,h5⟩:=h
  exact ⟨D,h1,h2,h3,hk D h2 h4,Marks.keep h5 (fun k hlt he =>hk k (by omega) he)⟩
theorem Marks.mono {lo:Nat} {W:World} {hi hi':Nat}:∀ {ds:List Deferred},Marks lo W hi ds→hi≤hi'→Marks lo W hi' ds
 | [],_,_ =>trivial
 | d::ds,⟨D,h1,h2,h⟩,hl =>⟨D,h1,by omega,h⟩
theorem Marks.push {lo:Nat} {W:World} {ds:List Deferred} {hi D:Nat} (h:Marks lo W hi ds) (hD:hi≤D) (hlo:lo≤D) (hm:W.heap[D]?=some (.deferred (some []))):Marks lo W W.heap.size ({ target := .collected D,args:=#[] } :: ds) :=
 ⟨D,hlo,(Array.getElem?_eq_some_iff.1 hm).1,rfl,hm,h.mono hD⟩
theorem zfC {F:Fence} {n:Nat} {P:Program} {fn:Func} {tmps:Array Value} {R:Ending→World→Prop} {w:World} {B:Nat} {cs:Array Value} {t:TypeId} :
  ∀ (ds:List Deferred) (hi:Nat) (W:World),Marks w.heap.size W hi ds→Blk W B cs t→Below w.heap.size w W→(∀ W',Blk W' B cs t→Below w.heap.size w W'→LeavesInM F n P fn tmps R [] .returning W')→LeavesInM F n P fn tmps R ds .returning W
 | [],_,W,_,hb,hB,h =>h W hb hB
 | d::ds,hi,W,hm,hb,hB,h =>by
  obtain ⟨D,h1,h2,rfl,h4,h5⟩:=hm
  refine ⟨by simp,.inl ⟨D,_,rfl,run_takeDeferred h4, ?_⟩⟩
  refine zfC ds D _ (h5.keep (fun k hk he =>(World.putObj_heap_other (by omega)).trans he)) (hb.put (.deferred none) h4 rfl) (hB.trans (belowK_b (w:=w) (Nat.le_refl _) W D _ _ h1 h4 rfl rfl)) h
set_option maxRecDepth 100000
set_option maxHeartbeats 8000000
def zfa (zs:List Int):Bool:=zs.all (fun z => !(zag z == 0))
def zcj (zs:List Int):Value:=if zfa zs then .tuple #[.string (runesBytes zs),.int .i64 0] else .tuple #[.string ⟨#[]⟩,.int .i64 12]
theorem zkc (g o cap:Nat) (zs:List Int) (hz:zs.length≤9223372036854775807) (w:World) (hc:∀ j,j < zs.length→w.cell? ⟨g,o+j,none⟩=some (.int .i32 (zs.getD j 0))) :
  Calls Tryz.prog 43 #[.slice (some ⟨g,o,none⟩) zs.length cap] w fun e w' =>e=.returned (zcj zs)∧w'=w:=by
 have HC:=kz hc
 have kc:=run_convert_runes (P:=Tryz.prog) w 88 9 21 ⟨g,o,none⟩ zs.length cap zs (Nat.le_refl _) Tryz.underlying88 Tryz.underlying21 Tryz.underlying9 (fun j hj =>by
  rw [show (⟨g,o,none⟩:Addr).add j=⟨g,o+j,none⟩ by unfold Addr.add;split <;> simp_all]
  exact hc j hj)
 rw [List.take_length] at kc
 have HKC:=kz kc
 clear hc kc
 go_enter Tryz.func43,Tryz.ntmps43
 go_wp2
 go_loop [8] (fun i => ∃ k:Nat,k≤zs.length∧i=.int .i64 k∧Hz (∀ j,j < k→zag (zs.getD j 0)≠0)) (fun i =>zs.length - (intOf i).toNat)
 case atStart =>exact ⟨0,by omega,rfl,kz (fun j hj =>by omega)⟩
 case round =>
  obtain ⟨k,hk,rfl,H⟩:=hrel
  by_cases hkn:k < zs.length
  ·have hck:=oz HC k hkn
   have hk1:(k:Int) < (zs.length:Int):=by omega
   have hmem:zs.getD k 0 ∈ zs:=by rw [List.getD,List.getElem?_eq_getElem hkn];exact List.getElem_mem hkn
   have HM:=kz hmem
   clear hmem
   generalize hz:zs.getD k 0=z at *
   have HZ:=kz hz
   clear hz
   by_cases hw0:zag z=0
   ·have hb:(zag z == 0)=true:=by simp [hw0]
    have hv:zcj zs=.tuple #[.string ⟨#[]⟩,.int .i64 12]:=by
     unfold zcj
     rw [if_neg]
     unfold zfa
     intro h
     have:=List.all_eq_true.1 h z (oz HM)
     simp [hw0] at this
    have HV:=kz hv
    clear hv hw0
    go_wp2_with (go_at_call 66;refine (zbf _ _).mono ?_;rintro e w' ⟨rfl,rfl⟩)
    go_ret2
    exact ⟨by rw [oz HV];rfl,rfl⟩
   ·have hb:(zag z == 0)=false:=by simp [hw0]
    go_wp2_with (go_at_call 66;refine (zbf _ _).mono ?_;rintro e w' ⟨rfl,rfl⟩)
    go_round
    case rel =>
     refine ⟨k+1,by omega,by go_num,kz (fun j hj =>?_)⟩
     by_cases e:j=k
     ·subst e;rw [oz HZ];exact hw0
     ·exact oz H j (by omega)
    case measure =>simp [intOf];omega
  ·have hk1:¬ (k:Int) < (zs.length:Int):=by omega
   have hv:zcj zs=.tuple #[.string (runesBytes zs),.int .i64 0]:=by
    unfold zcj
    rw [if_pos]
    unfold zfa
    rw [List.all_eq_true]
    intro z hz
    obtain ⟨j,hj,rfl⟩:=List.getElem_of_mem hz
    have:=oz H j (by omega)
    rw [List.getD,List.getElem?_eq_getElem hj] at this
    simpa using this
   have HV:=kz hv
   clear hv
   have kc:=oz HKC
   go_wp2
   go_ret2
   exact ⟨by rw [oz HV];rfl,rfl⟩
theorem zda (r:Int) (w:World):Calls Tryz.prog 61 #[.int .i32 r] w fun e w' =>e=.returned (.int .i64 (zag r))∧w'=w:=by
 by_cases h0:r < 0
 ·rw [show zag r=0 by unfold zag;rw [if_pos (by omega)]]
  go_enter Tryz.func61,Tryz.ntmps61
  go_wp2
  go_ret
  exact ⟨rfl,rfl⟩
 by_cases h3:1114111 < r
 ·rw [show zag r=0 by unfold zag;rw [if_pos (by omega)]]
  go_enter Tryz.func61,Tryz.ntmps61
  go_wp2
  go_ret
  exact ⟨rfl,rfl⟩
 by_cases h1:55296≤r
 ·by_cases h2:r≤57343
  ·rw [show zag r=0 by unfold zag;rw [if_pos (by omega)]]
   go_enter Tryz.func61,Tryz.ntmps61
   go_wp2
   go_ret
   exact ⟨rfl,rfl⟩
  have h5:¬ r < 128:=by omega
  have h6:¬ r < 2048:=by omega
  by_cases h4:r < 65536
  ·rw [show zag r=3 by unfold zag;rw [if_neg (by omega),if_neg (by omega),if_neg (by omega),if_pos (by omega)]]
   go_enter Tryz.func61,Tryz.ntmps61
   go_wp2
   go_ret
   exact ⟨rfl,rfl⟩
  ·rw [show zag r=4 by unfold zag;rw [if_neg (by omega),if_neg (by omega),if_neg (by omega),if_neg (by omega)]]
   go_enter Tryz.func61,Tryz.ntmps61
   go_wp2
   go_ret
   exact ⟨rfl,rfl⟩
 by_cases h5:r < 128
 ·rw [show zag r=1 by unfold zag;rw [if_neg (by omega),if_pos (by omega)]]
  go_enter Tryz.func61,Tryz.ntmps61
  go_wp2
  go_ret
  exact ⟨rfl,rfl⟩
 by_cases h6:r < 2048
 ·rw [show zag r=2 by unfold zag;rw [if_neg (by omega),if_neg (by omega),if_pos (by omega)]]
  go_enter Tryz.func61,Tryz.ntmps61
  go_wp2
  go_ret
  exact ⟨rfl,rfl⟩
 ·have h4:r < 65536:=by omega
  rw [show zag r=3 by unfold zag;rw [if_neg (by omega),if_neg (by omega),if_neg (by omega),if_pos (by omega)]]
  go_enter Tryz.func61,Tryz.ntmps61
  go_wp2
  go_ret
  exact ⟨rfl,rfl⟩
def zbj (b:ByteArray):List Value:=b.data.toList.map (fun u =>Value.int .u8 u.toNat)
theorem zgL (b:ByteArray):(zbj b).length=b.size:=by simp [zbj]
theorem zgM (a b:ByteArray):zbj (a++b)=zbj a++zbj b:=by simp [zbj]
theorem zlD (z:Int) (h0:0≤z) (h1:z < 2147483648):bits .and .i32 z 63=z % 64:=bits_mask .i32 31 (by decide) wraps_i32 6 (by decide) z h0 h1
theorem zk2 (y:Int) (h0:0≤y) (h1:y < 64):bits .or .i32 128 y=128+y:=bits_join .i32 31 (by decide) wraps_i32 6 128 y (by decide) (by decide) (by decide) h0 h1 (by omega)
theorem zrj (y:Int) (h0:0≤y) (h1:y < 16):bits .or .i32 224 y=224+y:=bits_join .i32 31 (by decide) wraps_i32 4 224 y (by decide) (by decide) (by decide) h0 h1 (by omega)
theorem zri (y:Int) (h0:0≤y) (h1:y < 8):bits .or .i32 240 y=240+y:=bits_join .i32 31 (by decide) wraps_i32 3 240 y (by decide) (by decide) (by decide) h0 h1 (by omega)
theorem zkZ (z:Int) (h1:0≤z) (h2:z < 128) (w:World):Calls Tryz.prog 39 #[.int .i32 z] w fun e w' =>e=.returned (.slice (some ⟨w.heap.size,0,none⟩) 1 1)∧w'=w.alloc (.cells #[.int .u8 z] 5):=by
 have hw:zag z=1:=by unfold zag;rw [if_neg (by omega),if_pos (by omega)]
 have HW:=kz hw
 clear hw
 go_enter Tryz.func39,Tryz.ntmps39
 go_wp2_with fail
 refine (zda z _).mono ?_
 rintro e w1 ⟨rfl,rfl⟩
 rw [oz HW]
 go_wp2
 go_ret
 exact ⟨rfl,rfl⟩
theorem zkY (z:Int) (h1:128≤z) (h2:z < 2048) (w:World):Calls Tryz.prog 39 #[.int .i32 z] w fun e w' =>e=.returned (.slice (some ⟨w.heap.size,0,none⟩) 2 2)∧w'=w.alloc (.cells #[.int .u8 (192+z / 64),.int .u8 (128+z % 64)] 5):=by
 have hw:zag z=2:=by unfold zag;rw [if_neg (by omega),if_neg (by omega),if_pos (by omega)]
 have HW:=kz hw
 have e1:=zlD z (by omega) (by omega)
 have e2:=zk2 (z % 64) (by omega) (by omega)
 clear hw
 go_enter Tryz.func39,Tryz.ntmps39
 go_wp2_with fail
 refine (zda z _).mono ?_
 rintro e w1 ⟨rfl,rfl⟩
 rw [oz HW]
 go_wp2
 go_ret
 exact ⟨rfl,rfl⟩
theorem zkX (z:Int) (h1:2048≤z) (h2:z < 65536) (h3:¬ (55296≤z∧z≤57343)) (w:World):Calls Tryz.prog 39 #[.int .i32 z] w fun e w' =>e=.returned (.slice (some ⟨w.heap.size,0,none⟩) 3 3)∧w'=w.alloc (.cells #[.int .u8 (224+z / 4096),.int .u8 (128+z / 64 % 64),.int .u8 (128+z % 64)] 5):=by
 have hw:zag z=3:=by unfold zag;rw [if_neg (by omega),if_neg (by omega),if_neg (by omega),if_pos (by omega)]
 have HW:=kz hw
 have e1:=zlD z (by omega) (by omega)
 have e2:=zk2 (z % 64) (by omega) (by omega)
 have e3:=zlD (z / 64) (by omega) (by omega)
 have e4:=zk2 (z / 64 % 64) (by omega) (by omega)
 have e7:=zrj (z / 4096) (by omega) (by omega)
 clear hw
 go_enter Tryz.func39,Tryz.ntmps39
 go_wp2_with fail
 refine (zda z _).mono ?_
 rintro e w1 ⟨rfl,rfl⟩
 rw [oz HW]
 go_wp2
 go_ret
 exact ⟨rfl,rfl⟩
theorem zkW (z:Int) (h1:65536≤z) (h2:z≤1114111) (w:World):Calls Tryz.prog 39 #[.int .i32 z] w fun e w' =>e=.returned (.slice (some ⟨w.heap.size,0,none⟩) 4 4)∧w'=w.alloc (.cells #[.int .u8 (240+z / 262144),.int .u8 (128+z / 4096 % 64),.int .u8 (128+z / 64 % 64),.int .u8 (128+z % 64)] 5):=by
 have hw:zag z=4:=by unfold zag;rw [if_neg (by omega),if_neg (by omega),if_neg (by omega),if_neg (by omega)]
 have HW:=kz hw
 have e1:=zlD z (by omega) (by omega)
 have e2:=zk2 (z % 64) (by omega) (by omega)
 have e3:=zlD (z / 64) (by omega) (by omega)
 have e4:=zk2 (z / 64 % 64) (by omega) (by omega)
 have e5:=zlD (z / 4096) (by omega) (by omega)
 have e6:=zk2 (z / 4096 % 64) (by omega) (by omega)
 have e7:=zri (z / 262144) (by omega) (by omega)
 clear hw
 go_enter Tryz.func39,Tryz.ntmps39
 go_wp2_with fail
 refine (zda z _).mono ?_
 rintro e w1 ⟨rfl,rfl⟩
 rw [oz HW]
 go_wp2
 go_ret
 exact ⟨rfl,rfl⟩
theorem ziJ (z:Int) (h:zag z≠0) (w:World):Calls Tryz.prog 39 #[.int .i32 z] w fun e w' =>e=.returned (.slice (some ⟨w.heap.size,0,none⟩) (Utf8.encode z).size (Utf8.encode z).size)∧w'=w.alloc (.cells (zbj (Utf8.encode z)).toArray 5):=by
 obtain ⟨_,z0,z1,z2⟩:=zbt h
 by_cases h1:z < 128
 ·rw [zrH h h1]
  refine (zkZ z z0 h1 w).mono ?_
  rintro e w' ⟨rfl,rfl⟩
  refine ⟨rfl, ?_⟩
  simp only [zbj,List.map_cons,List.map_nil]
  rw [u8n _ (by omega),Int.toNat_of_nonneg z0]
 by_cases h2:z < 2048
 ·rw [zrG h (by omega) h2]
  refine (zkY z (by omega) h2 w).mono ?_
  rintro e w' ⟨rfl,rfl⟩
  refine ⟨rfl, ?_⟩
  simp only [zbj,List.map_cons,List.map_nil]
  rw [u8n _ (by omega),u8n _ (by omega),show ((192+z.toNat / 64:Nat):Int)=192+z / 64 by omega,show ((128+z.toNat % 64:Nat):Int)=128+z % 64 by omega]
 by_cases h3:z < 65536
 ·rw [zrF h (by omega) h3]
  refine (zkX z (by omega) h3 z2 w).mono ?_
  rintro e w' ⟨rfl,rfl⟩
  refine ⟨rfl, ?_⟩
  simp only [zbj,List.map_cons,List.map_nil]
  rw [u8n _ (by omega),u8n _ (by omega),u8n _ (by omega),show ((224+z.toNat / 4096:Nat):Int)=224+z / 4096 by omega,show ((128+z.toNat / 64 % 64:Nat):Int)=128+z / 64 % 64 by omega,show ((128+z.toNat % 64:Nat):Int)=128+z % 64 by omega]
 ·rw [zrE h (by omega)]
  refine (zkW z (by omega) z1 w).mono ?_
  rintro e w' ⟨rfl,rfl⟩
  refine ⟨rfl, ?_⟩
  simp only [zbj,List.map_cons,List.map_nil]
  rw [u8n _ (by omega),u8n _ (by omega),u8n _ (by omega),u8n _ (by omega),show ((240+z.toNat / 262144:Nat):Int)=240+z / 262144 by omega,show ((128+z.toNat / 4096 % 64:Nat):Int)=128+z / 4096 % 64 by omega,show ((128+z.toNat / 64 % 64:Nat):Int)=128+z / 64 % 64 by omega,show ((128+z.toNat % 64:Nat):Int)=128+z % 64 by omega]
end
end Go.Proofs.YtmemedpoaocdkaaGreat
