/- Texts of this claim, one behind the other. -/
import Derived.Test.YtmdgejgokoadlaaGreatDoorM6
import Derived.Test.YtmdgejgokoadlaaGreatDoorM10
/- The reader of rules: pair. -/
namespace Go.Proofs.YtmdgejgokoadlaaGreatDoor
open Go.RowKit Go.Shelf
set_option linter.unusedVariables false
structure Pr where
 wh:Int
 ba:Int
 ma:Int
 k:Nat
 bad:Option Rf
def zb5 (ws:List W8) (k:Nat) (bad:Option Rf) (eb el ec:Int):Pr :=
 let a:=zaa ws k bad eb el ec 3
 let b:=zaa ws a.k a.bad eb el ec 7
 let c:=zaa ws b.k b.bad eb el ec 3
 let d:=zaa ws c.k c.bad eb el ec 8
 let e:=zaa ws d.k d.bad eb el ec 3
 let f:=zaa ws e.k e.bad eb el ec 6
 ⟨a.x.r,c.x.r,e.x.r,f.k,f.bad⟩
theorem zhG:(Tryz.prog.info? 96).map (fun i =>(i.zero,i.size,i.bytes))=some (some (.agg #[.int .i32 0,.int .i32 0,.int .i32 0]),3,12):=by kernel_rfl
set_option maxRecDepth 100000 in
set_option maxHeartbeats 4000000 in
theorem pair_any (R Tx g lo:Nat) (ws:List W8) (k:Nat) (bad:Option Rf) (eb el ec fb fl fc:Int) (vs:List Value) (ls:List Ln) (n1 n2:Nat) (xs1 xs2:List Value) (hl1:ls[3]?=some ⟨96,3,n1,xs1⟩) (hl2:ls[12]?=some ⟨53,3,n2,xs2⟩) (hn1:n1≤1000000) (hn2:n2≤1000000) (W0 W:World) (h:RuSt W0 W R Tx g lo ws k bad eb el ec vs ls) :
  Calls Tryz.prog 114 #[.pointer (some ⟨R,0,none⟩),.agg #[.int .i64 fb,.int .i64 fl,.int .i64 fc]] W fun e w' =>(∃ r,e=.returned r)∧∃ va vb,RuSt W0 w' R Tx g lo ws (zb5 ws k bad eb el ec).k (zb5 ws k bad eb el ec).bad eb el ec ((vs.set 3 va).set 12 vb) ((ls.set 3 ⟨96,3,n1+1,xs1++[.int .i32 (zb5 ws k bad eb el ec).wh,.int .i32 (zb5 ws k bad eb el ec).ba,.int .i32 (zb5 ws k bad eb el ec).ma]⟩).set 12 ⟨53,3,n2+1,xs2++[.int .i64 fb,.int .i64 fl,.int .i64 fc]⟩):=by
 have hNR:R < W.heap.size:=Nat.lt_of_lt_of_le h.hR h.low
 have HLo:=kz h.low
 have HV:Hz (zb5 ws k bad eb el ec=⟨(zaa ws k bad eb el ec 3).x.r,(zaa ws (zaa ws (zaa ws k bad eb el ec 3).k (zaa ws k bad eb el ec 3).bad eb el ec 7).k (zaa ws (zaa ws k bad eb el ec 3).k (zaa ws k bad eb el ec 3).bad eb el ec 7).bad eb el ec 3).x.r,(zaa ws (zaa ws (zaa ws (zaa ws (zaa ws k bad eb el ec 3).k (zaa ws k bad eb el ec 3).bad eb el ec 7).k (zaa ws (zaa ws k bad eb el ec 3).k (zaa ws k bad eb el ec 3).bad eb el ec 7).bad eb el ec 3).k (zaa ws (zaa ws (zaa ws k bad eb el ec 3).k (zaa ws k bad eb el ec 3).bad eb el ec 7).k (zaa ws (zaa ws k bad eb el ec 3).k (zaa ws k bad eb el ec 3).bad eb el ec 7).bad eb el ec 3).bad eb el ec 8).k (zaa ws (zaa ws (zaa ws (zaa ws k bad eb el ec 3).k (zaa ws k bad eb el ec 3).bad eb el ec 7).k (zaa ws (zaa ws k bad eb el ec 3).k (zaa ws k bad eb el ec 3).bad eb el ec 7).bad eb el ec 3).k (zaa ws (zaa ws (zaa ws k bad eb el ec 3).k (zaa ws k bad eb el ec 3).bad eb el ec 7).k (zaa ws (zaa ws k bad eb el ec 3).k (zaa ws k bad eb el ec 3).bad eb el ec 7).bad eb el ec 3).bad eb el ec 8).bad eb el ec 3).x.r,(zaa ws (zaa ws (zaa ws (zaa ws (zaa ws (zaa ws k bad eb el ec 3).k (zaa ws k bad eb el ec 3).bad eb el ec 7).k (zaa ws (zaa ws k bad eb el ec 3).k (zaa ws k bad eb el ec 3).bad eb el ec 7).bad eb el ec 3).k (zaa ws (zaa ws (zaa ws k bad eb el ec 3).k (zaa ws k bad eb el ec 3).bad eb el ec 7).k (zaa ws (zaa ws k bad eb el ec 3).k (zaa ws k bad eb el ec 3).bad eb el ec 7).bad eb el ec 3).bad eb el ec 8).k (zaa ws (zaa ws (zaa ws (zaa ws k bad eb el ec 3).k (zaa ws k bad eb el ec 3).bad eb el ec 7).k (zaa ws (zaa ws k bad eb el ec 3).k (zaa ws k bad eb el ec 3).bad eb el ec 7).bad eb el ec 3).k (zaa ws (zaa ws (zaa ws k bad eb el ec 3).k (zaa ws k bad eb el ec 3).bad eb el ec 7).k (zaa ws (zaa ws k bad eb el ec 3).k (zaa ws k bad eb el ec 3).bad eb el ec 7).bad eb el ec 3).bad eb el ec 8).bad eb el ec 3).k (zaa ws (zaa ws (zaa ws (zaa ws (zaa ws k bad eb el ec 3).k (zaa ws k bad eb el ec 3).bad eb el ec 7).k (zaa ws (zaa ws k bad eb el ec 3).k (zaa ws k bad eb el ec 3).bad eb el ec 7).bad eb el ec 3).k (zaa ws (zaa ws (zaa ws k bad eb el ec 3).k (zaa ws k bad eb el ec 3).bad eb el ec 7).k (zaa ws (zaa ws k bad eb el ec 3).k (zaa ws k bad eb el ec 3).bad eb el ec 7).bad eb el ec 3).bad eb el ec 8).k (zaa ws (zaa ws (zaa ws (zaa ws k bad eb el ec 3).k (zaa ws k bad eb el ec 3).bad eb el ec 7).k (zaa ws (zaa ws k bad eb el ec 3).k (zaa ws k bad eb el ec 3).bad eb el ec 7).bad eb el ec 3).k (zaa ws (zaa ws (zaa ws k bad eb el ec 3).k (zaa ws k bad eb el ec 3).bad eb el ec 7).k (zaa ws (zaa ws k bad eb el ec 3).k (zaa ws k bad eb el ec 3).bad eb el ec 7).bad eb el ec 3).bad eb el ec 8).bad eb el ec 3).bad eb el ec 6).k,(zaa ws (zaa ws (zaa ws (zaa ws (zaa ws (zaa ws k bad eb el ec 3).k (zaa ws k bad eb el ec 3).bad eb el ec 7).k (zaa ws (zaa ws k bad eb el ec 3).k (zaa ws k bad eb el ec 3).bad eb el ec 7).bad eb el ec 3).k (zaa ws (zaa ws (zaa ws k bad eb el ec 3).k (zaa ws k bad eb el ec 3).bad eb el ec 7).k (zaa ws (zaa ws k bad eb el ec 3).k (zaa ws k bad eb el ec 3).bad eb el ec 7).bad eb el ec 3).bad eb el ec 8).k (zaa ws (zaa ws (zaa ws (zaa ws k bad eb el ec 3).k (zaa ws k bad eb el ec 3).bad eb el ec 7).k (zaa ws (zaa ws k bad eb el ec 3).k (zaa ws k bad eb el ec 3).bad eb el ec 7).bad eb el ec 3).k (zaa ws (zaa ws (zaa ws k bad eb el ec 3).k (zaa ws k bad eb el ec 3).bad eb el ec 7).k (zaa ws (zaa ws k bad eb el ec 3).k (zaa ws k bad eb el ec 3).bad eb el ec 7).bad eb el ec 3).bad eb el ec 8).bad eb el ec 3).k (zaa ws (zaa ws (zaa ws (zaa ws (zaa ws k bad eb el ec 3).k (zaa ws k bad eb el ec 3).bad eb el ec 7).k (zaa ws (zaa ws k bad eb el ec 3).k (zaa ws k bad eb el ec 3).bad eb el ec 7).bad eb el ec 3).k (zaa ws (zaa ws (zaa ws k bad eb el ec 3).k (zaa ws k bad eb el ec 3).bad eb el ec 7).k (zaa ws (zaa ws k bad eb el ec 3).k (zaa ws k bad eb el ec 3).bad eb el ec 7).bad eb el ec 3).bad eb el ec 8).k (zaa ws (zaa ws (zaa ws (zaa ws k bad eb el ec 3).k (zaa ws k bad eb el ec 3).bad eb el ec 7).k (zaa ws (zaa ws k bad eb el ec 3).k (zaa ws k bad eb el ec 3).bad eb el ec 7).bad eb el ec 3).k (zaa ws (zaa ws (zaa ws k bad eb el ec 3).k (zaa ws k bad eb el ec 3).bad eb el ec 7).k (zaa ws (zaa ws k bad eb el ec 3).k (zaa ws k bad eb el ec 3).bad eb el ec 7).bad eb el ec 3).bad eb el ec 8).bad eb el ec 3).bad eb el ec 6).bad⟩):=kz rfl
 generalize zb5 ws k bad eb el ec=V at *
 obtain ⟨im,him,hm0,hm1,hm2⟩:=info_parts zhG
 have HIM:=kz (And.intro him (And.intro hm0 (And.intro hm1 hm2)))
 clear him hm0 hm1 hm2
 have hmx:Tryz.prog.follows .mixedOrders=true:=by kernel_rfl
 have H:=kz (h.alloc (.cells #[.int .i64 fb,.int .i64 fl,.int .i64 fc] 53))
 have HX:=kz (Blk.new W #[.int .i64 fb,.int .i64 fl,.int .i64 fc] 53)
 clear h
 go_enter Tryz.func114,Tryz.ntmps114
 go_wp2_with fail
 generalize W.alloc (.cells #[.int .i64 fb,.int .i64 fl,.int .i64 fc] 53)=WA at *
 generalize W.heap.size=N at *
 refine (zbS R Tx g ws k bad eb el ec 3 WA (oz H).rd).mono ?_
 rintro e w1 ⟨rfl,hR1,hg1⟩
 have H1:=kz ((oz H).call hR1 hg1)
 have HX1:=kz ((oz HX).kept hg1 (fun e =>by have:=Option.some.inj e;omega))
 clear hR1 hg1 H HX
 generalize zaa ws k bad eb el ec 3=A at *
 obtain ⟨⟨a0,a1,a2,a3,a4,a5,a6,a7⟩,k1,bad1⟩:=A
 dsimp only at H1 HV
 unfold wV
 dsimp only
 have hf:=zdA a0 a1 a2 a3 a4 a5 a6 a7
 go_wp2_with fail
 refine (zbS R Tx g ws k1 bad1 eb el ec 7 w1 (oz H1).rd).mono ?_
 rintro e w2 ⟨rfl,hR2,hg2⟩
 have H2:=kz ((oz H1).call hR2 hg2)
 have HX2:=kz ((oz HX1).kept hg2 (fun e =>by have:=Option.some.inj e;omega))
 clear hR2 hg2 H1 HX1 hf
 generalize zaa ws k1 bad1 eb el ec 7=B at *
 obtain ⟨bx,k2,bad2⟩:=B
 dsimp only at H2 HV
 dsimp only
 generalize wV bx=vbx
 go_wp2_with fail
 refine (zbS R Tx g ws k2 bad2 eb el ec 3 w2 (oz H2).rd).mono ?_
 rintro e w3 ⟨rfl,hR3,hg3⟩
 have H3:=kz ((oz H2).call hR3 hg3)
 have HX3:=kz ((oz HX2).kept hg3 (fun e =>by have:=Option.some.inj e;omega))
 clear hR3 hg3 H2 HX2
 generalize zaa ws k2 bad2 eb el ec 3=C at *
 obtain ⟨⟨c0,c1,c2,c3,c4,c5,c6,c7⟩,k3,bad3⟩:=C
 dsimp only at H3 HV
 unfold wV
 dsimp only
 have hf:=zdA c0 c1 c2 c3 c4 c5 c6 c7
 go_wp2_with fail
 refine (zbS R Tx g ws k3 bad3 eb el ec 8 w3 (oz H3).rd).mono ?_
 rintro e w4 ⟨rfl,hR4,hg4⟩
 have H4:=kz ((oz H3).call hR4 hg4)
 have HX4:=kz ((oz HX3).kept hg4 (fun e =>by have:=Option.some.inj e;omega))
 clear hR4 hg4 H3 HX3 hf
 generalize zaa ws k3 bad3 eb el ec 8=D at *
 obtain ⟨dx,k4,bad4⟩:=D
 dsimp only at H4 HV
 dsimp only
 generalize wV dx=vdx
 go_wp2_with fail
 refine (zbS R Tx g ws k4 bad4 eb el ec 3 w4 (oz H4).rd).mono ?_
 rintro e w5 ⟨rfl,hR5,hg5⟩
 have H5:=kz ((oz H4).call hR5 hg5)
 have HX5:=kz ((oz HX4).kept hg5 (fun e =>by have:=Option.some.inj e;omega))
 clear hR5 hg5 H4 HX4
 generalize zaa ws k4 bad4 eb el ec 3=E at *
 obtain ⟨⟨e0,e1,e2,e3,e4,e5,e6,e7⟩,k5,bad5⟩:=E
 dsimp only at H5 HV
 unfold wV
 dsimp only
 have hf:=zdA e0 e1 e2 e3 e4 e5 e6 e7
 go_wp2_with fail
 refine (zbS R Tx g ws k5 bad5 eb el ec 6 w5 (oz H5).rd).mono ?_
 rintro e w6 ⟨rfl,hR6,hg6⟩
 have H6:=kz ((oz H5).call hR6 hg6)
 have HX6:=kz ((oz HX5).kept hg6 (fun e =>by have:=Option.some.inj e;omega))
 clear hR6 hg6 H5 HX5 hf
 generalize zaa ws k5 bad5 eb el ec 6=F at *
 obtain ⟨fx,k6,bad6⟩:=F
 dsimp only at H6 HV
 dsimp only
 generalize wV fx=vfx
 go_wp2_with fail
 obtain ⟨v,hv⟩:∃ v,vs[3]?=some v:=⟨_,List.getElem?_eq_getElem (by have:=(oz H6).tb.lv;omega)⟩
 have how:=(oz H6).tb.own _ _ _ hv hl1
 obtain ⟨va,vc,rfl⟩:=zab how
 have hg0:∀ b,Value.ownBlock (.slice va n1 vc)=some b→lo≤b:=zam how
 obtain ⟨ra,rc,rv,hrb,_,_,_⟩:=(oz H6).rd.rd.blk
 have c1:w6.cell? ⟨R,1,none⟩=some (.pointer (some ⟨Tx,0,none⟩)):=hrb.cell 1
 have t0:=(oz H6).tb.cell (by omega) hv
 have hTl:=(oz H6).tb.lt
 have hRl:=(oz H6).hR
 have hl3:=(oz H6).low
 have hltR:R < w6.heap.size:=by omega
 have hltT:Tx < w6.heap.size:=by omega
 have ca1:=(hrb.alloc (.cells #[.int .i32 a2,.int .i32 c2,.int .i32 e2] 96)).cell 1
 have ta:=((oz H6).tb.kept (R:=R) hRl (oz H6).rd.ne (World.grownBy_alloc w6 (.cells #[.int .i32 a2,.int .i32 c2,.int .i32 e2] 96) _))
 have t1:=ta.cell (by omega) hv
 have hNx:some N≠Value.ownBlock (.slice va n1 vc):=zbK (oz HX6) how (show (96:Nat)≠53 by decide)
 clear hrb
 go_region_law (refine step_append_lies _ (by rfl) _ _ _ (by rfl) lo 96 im (.agg #[.int .i32 0,.int .i32 0,.int .i32 0]) 3 12 Tryz.underlying30 (oz HIM).1 (oz HIM).2.1 (oz HIM).2.2.1 (oz HIM).2.2.2 rfl (by omega) _ n1 xs1 (by rfl) (how.alloc _).drew ⟨w6.heap.size,0,none⟩ 1 1 [.int .i32 a2,.int .i32 c2,.int .i32 e2] (by rfl) (by rfl) (World.news_of_block (cs:=#[.int .i32 a2,.int .i32 c2,.int .i32 e2]) (t:=96) (fr:=(0,0)) (heap_alloc_new w6 _)) (by simp [Value.oneCell']) (by omega) (by unfold maxLen;omega) (by omega) (by simp;omega) (w6.heap.size+1) (by simp) ?_;intro gg cap w7 hown1 hgrow hatt hlt;have q1:w7.cell? ⟨Tx,3,none⟩=some (.slice va n1 vc):=hgrow.cell (a:=⟨Tx,3,none⟩) t1 (by show some Tx≠Value.ownBlock (.slice va n1 vc);intro e;have:=hg0 Tx e.symm;omega);have q2:w7.frozen? ⟨Tx,3,none⟩=false:=(Blk.kept (W:=(w6.alloc _).drew) ta.blk hgrow (fun e =>by have:=hg0 Tx e.symm;omega)).frozen 3;have q3:w7.cell? ⟨R,1,none⟩=some (.pointer (some ⟨Tx,0,none⟩)):=hgrow.cell (a:=⟨R,1,none⟩) ca1 (by show some R≠Value.ownBlock (.slice va n1 vc);intro e;have:=hg0 R e.symm;omega))
 all_goals
  have H7:=kz (((oz H6).alloc (.cells #[.int .i32 a2,.int .i32 c2,.int .i32 e2] 96)).put (W1:=w7) (by omega) hv hl1 (show (96:Nat)≠80 by decide) hown1 ⟨hgrow.os,hgrow.tape,hgrow.output,hgrow.size,hgrow.block⟩ (by rcases hatt with e | e;exact .inl e.symm;exact .inr (by rw [e];simp [Value.ownBlock])))
  have hx5:=(Blk.kept (W:=(w6.alloc (.cells #[.int .i32 a2,.int .i32 c2,.int .i32 e2] 96)).drew) ((oz HX6).alloc _) hgrow hNx).kept (zad w7 Tx 3 (.slice (some ⟨gg,0,none⟩) (n1+1) cap)) (fun e =>by have:=Option.some.inj e;have:=oz HLo;omega)
  clear hgrow hown1 hatt hlt q1 q2 q3 H6 HX6 how c1 t0 ca1 ta t1
  generalize w7.setCell ⟨Tx,3,none⟩ (.slice (some ⟨gg,0,none⟩) (n1+1) cap)=w8 at *
  have x0:=hx5.cell 0
  have x1:=hx5.cell 1
  have x2:=hx5.cell 2
  clear hx5
  have HP:=kz (Blk.new w8 #[.int .i64 fb,.int .i64 fl,.int .i64 fc] 53)
  go_wp2_with fail
  refine (zdX W0 R Tx g lo ws k6 bad6 eb el ec _ _ 4 (by omega) n2 xs2 (by rw [List.getElem?_set_ne (by decide)];exact hl2) _ 1 1 [.int .i64 fb,.int .i64 fl,.int .i64 fc] (by omega) _ ((oz H7).alloc _) (.inr ⟨_,rfl,by decide,rfl,World.news_of_block (cs:=#[.int .i64 fb,.int .i64 fl,.int .i64 fc]) (t:=53) (fr:=(0,0)) (heap_alloc_new w8 _),by simp [Value.oneCell']⟩)).mono ?_
  rintro e w9 ⟨⟨r,rfl⟩,vb,hfin⟩
  go_wp2_with fail
  go_end0
  exact ⟨⟨_,rfl⟩,_,vb,by rw [oz HV];exact hfin⟩
structure TV where
 sc:List (ByteArray × List (Int × Int))
 co:List (Int × Int)
 ma:List (Int × Int)
 pr:List (Int × Int × Int)
 fo:List (Int × ByteArray)
 lk:List (Int × ByteArray)
 dr:List (Int × Int)
 al:List (Int × Int)
 r1:List (Int × Int × Int)
 r2:List (Int × Int × Int)
 r3:List (Int × Int × Int)
 r4:List (Int × Int × Int)
 r5:List (Int × Int × Int)
 r6:List (Int × Int × Int)
 r7:List (Int × Int × Int)
 r8:List (Int × Int × Int)
def TV0:TV:=⟨[],[],[],[],[],[],[],[],[],[],[],[],[],[],[],[]⟩
structure TV.Le (T:TV) (n:Nat):Prop where
 sc:T.sc.length≤n
 co:T.co.length≤n
 ma:T.ma.length≤n
 pr:T.pr.length≤n
 fo:T.fo.length≤n
 lk:T.lk.length≤n
 dr:T.dr.length≤n
 al:T.al.length≤n
 r1:T.r1.length≤n
 r2:T.r2.length≤n
 r3:T.r3.length≤n
 r4:T.r4.length≤n
 r5:T.r5.length≤n
 r6:T.r6.length≤n
 r7:T.r7.length≤n
 r8:T.r8.length≤n
structure Ps where
 k:Nat
 bad:Option Rf
 T:TV
def zaB (S:ByteArray):Nat :=
 if S=⟨#[115,99,114,105,112,116]⟩ then 1 else
 if S=⟨#[99,111,109,109,111,110]⟩ then 2 else
 if S=⟨#[109,97,114,107]⟩ then 3 else
 if S=⟨#[112,97,105,114]⟩ then 4 else
 if S=⟨#[102,111,108,100]⟩ then 5 else
 if S=⟨#[108,111,111,107]⟩ then 6 else
 if S=⟨#[100,114,111,112]⟩ then 7 else
 if S=⟨#[97,108,108,111,119]⟩ then 8 else
 0
def zbi (ws:List W8) (eb el ec:Int) (k:Nat) (x:W8) (T:TV):Nat→Ps
 | 1 =>⟨(zaU ws (k+1) none eb el ec).sp.k,(zaU ws (k+1) none eb el ec).sp.bad, { T with sc:=T.sc++[((zaU ws (k+1) none eb el ec).nm,(zaU ws (k+1) none eb el ec).sp.ss)],r1:=T.r1++[(x.b,x.l,x.c)] }⟩
 | 2 =>⟨(zaf ws (k+1) none eb el ec).k,(zaf ws (k+1) none eb el ec).bad, { T with co:=T.co++(zaf ws (k+1) none eb el ec).ss,r2:=T.r2++(zaf ws (k+1) none eb el ec).ps }⟩
 | 3 =>⟨(zcn ws (k+1) none eb el ec).k,(zcn ws (k+1) none eb el ec).bad, { T with ma:=T.ma++[((zcn ws (k+1) none eb el ec).on,(zcn ws (k+1) none eb el ec).cl)],r3:=T.r3++[(x.b,x.l,x.c)] }⟩
 | 4 =>⟨(zb5 ws (k+1) none eb el ec).k,(zb5 ws (k+1) none eb el ec).bad, { T with pr:=T.pr++[((zb5 ws (k+1) none eb el ec).wh,(zb5 ws (k+1) none eb el ec).ba,(zb5 ws (k+1) none eb el ec).ma)],r4:=T.r4++[(x.b,x.l,x.c)] }⟩
 | 5 =>⟨(zcc ws (k+1) none eb el ec).k,(zcc ws (k+1) none eb el ec).bad, { T with fo:=T.fo++[((zcc ws (k+1) none eb el ec).fr,runesBytes (zcc ws (k+1) none eb el ec).tw)],r5:=T.r5++[(x.b,x.l,x.c)] }⟩
 | 6 =>⟨(zcc ws (k+1) none eb el ec).k,(zcc ws (k+1) none eb el ec).bad, { T with lk:=T.lk++[((zcc ws (k+1) none eb el ec).fr,runesBytes (zcc ws (k+1) none eb el ec).tw)],r6:=T.r6++[(x.b,x.l,x.c)] }⟩
 | 7 =>⟨(zaf ws (k+1) none eb el ec).k,(zaf ws (k+1) none eb el ec).bad, { T with dr:=T.dr++(zaf ws (k+1) none eb el ec).ss,r7:=T.r7++(zaf ws (k+1) none eb el ec).ps }⟩
 | 8 =>⟨(zaf ws (k+1) none eb el ec).k,(zaf ws (k+1) none eb el ec).bad, { T with al:=T.al++(zaf ws (k+1) none eb el ec).ss,r8:=T.r8++(zaf ws (k+1) none eb el ec).ps }⟩
 | _ =>⟨k,some (zeA ws k eb el ec),T⟩
def zau (ws:List W8) (eb el ec:Int) (k:Nat) (x:W8) (T:TV):Ps:=zbi ws eb el ec k x T (zaB x.S)
theorem zeF (S:ByteArray):zaB S≤8:=by
 unfold zaB
 repeat' split
 all_goals omega
def za1 (ws:List W8) (eb el ec:Int):Nat→Nat→Option Rf→TV→Ps
 | 0,k,bad,T =>⟨k,bad,T⟩
 | f+1,k,bad,T =>match bad,ws[k]? with
  | none,some x =>za1 ws eb el ec f (zau ws eb el ec k x T).k (zau ws eb el ec k x T).bad (zau ws eb el ec k x T).T
  | _,_ =>⟨k,bad,T⟩
def zfr (ws:List W8) (eb el ec:Int):Ps:=za1 ws eb el ec (ws.length+1) 0 none TV0
theorem mapGo_le (ws:List W8) (eb el ec:Int) (f k:Nat) (bad:Option Rf) (hk:k≤ws.length):k≤(zcP ws eb el ec f k bad).k∧(zcP ws eb el ec f k bad).k≤ws.length:=by
 induction f generalizing k bad with
 | zero =>exact ⟨Nat.le_refl k,hk⟩
 | succ f ih =>
  unfold zcP
  by_cases hs:zaJ ws k bad 3=true
  ·rw [if_pos hs]
   have h1:=zaM ws k bad eb el ec 3 hk
   have h2:=ih (zaa ws k bad eb el ec 3).k (zaa ws k bad eb el ec 3).bad h1.2
   dsimp only
   omega
  ·rw [if_neg hs]
   exact ⟨Nat.le_refl k,hk⟩
theorem mapV_le (ws:List W8) (eb el ec:Int) (k:Nat) (bad:Option Rf) (hk:k≤ws.length):k≤(zcc ws k bad eb el ec).k∧(zcc ws k bad eb el ec).k≤ws.length:=by
 unfold zcc
 dsimp only
 have h1:=zaM ws k bad eb el ec 3 hk
 generalize zaa ws k bad eb el ec 3=A at *
 have h2:=zaM ws A.k A.bad eb el ec 7 h1.2
 generalize zaa ws A.k A.bad eb el ec 7=B at *
 have h3:=zaM ws B.k B.bad eb el ec 3 h2.2
 generalize zaa ws B.k B.bad eb el ec 3=C at *
 have h4:=mapGo_le ws eb el ec (ws.length+1) C.k C.bad h3.2
 generalize zcP ws eb el ec (ws.length+1) C.k C.bad=D at *
 have h5:=zaM ws D.k D.bad eb el ec 6 h4.2
 omega
theorem markV_le (ws:List W8) (eb el ec:Int) (k:Nat) (bad:Option Rf) (hk:k≤ws.length):k≤(zcn ws k bad eb el ec).k∧(zcn ws k bad eb el ec).k≤ws.length:=by
 unfold zcn
 dsimp only
 have h1:=zaM ws k bad eb el ec 3 hk
 generalize zaa ws k bad eb el ec 3=A at *
 have h2:=zaM ws A.k A.bad eb el ec 2 h1.2
 generalize zaa ws A.k A.bad eb el ec 2=B at *
 have h3:=zaM ws B.k B.bad eb el ec 6 h2.2
 omega
theorem pairV_le (ws:List W8) (eb el ec:Int) (k:Nat) (bad:Option Rf) (hk:k≤ws.length):k≤(zb5 ws k bad eb el ec).k∧(zb5 ws k bad eb el ec).k≤ws.length:=by
 unfold zb5
 dsimp only
 have h1:=zaM ws k bad eb el ec 3 hk
 generalize zaa ws k bad eb el ec 3=A at *
 have h2:=zaM ws A.k A.bad eb el ec 7 h1.2
 generalize zaa ws A.k A.bad eb el ec 7=B at *
 have h3:=zaM ws B.k B.bad eb el ec 3 h2.2
 generalize zaa ws B.k B.bad eb el ec 3=C at *
 have h4:=zaM ws C.k C.bad eb el ec 8 h3.2
 generalize zaa ws C.k C.bad eb el ec 8=D at *
 have h5:=zaM ws D.k D.bad eb el ec 3 h4.2
 generalize zaa ws D.k D.bad eb el ec 3=E at *
 have h6:=zaM ws E.k E.bad eb el ec 6 h5.2
 omega
theorem zea (ws:List W8) (eb el ec:Int) (k:Nat) (x:W8) (hx:ws[k]?=some x) (T:TV) (hT:T.Le k) (hr:zaB x.S≠0):k < (zau ws eb el ec k x T).k∧(zau ws eb el ec k x T).k≤ws.length∧(zau ws eb el ec k x T).T.Le (zau ws eb el ec k x T).k:=by
 have hk:=(List.getElem?_eq_some_iff.1 hx).1
 obtain ⟨a1,a2,a3,a4,a5,a6,a7,a8,b1,b2,b3,b4,b5,b6,b7,b8⟩:=hT
 have hs:=zbX ws eb el ec (k+1) none hk
 have hm:=markV_le ws eb el ec (k+1) none hk
 have hp:=pairV_le ws eb el ec (k+1) none hk
 have hf:=mapV_le ws eb el ec (k+1) none hk
 have ht:=zaM ws (k+1) none eb el ec 1 hk
 have hc:=zbX ws eb el ec (zaa ws (k+1) none eb el ec 1).k (zaa ws (k+1) none eb el ec 1).bad ht.2
 have hc1:k+1≤(zaU ws (k+1) none eb el ec).sp.k∧(zaU ws (k+1) none eb el ec).sp.k≤ws.length:=by
  show k+1≤(zaf ws (zaa ws (k+1) none eb el ec 1).k (zaa ws (k+1) none eb el ec 1).bad eb el ec).k∧(zaf ws (zaa ws (k+1) none eb el ec 1).k (zaa ws (k+1) none eb el ec 1).bad eb el ec).k≤ws.length
  omega
 have h8:=zeF x.S
 unfold zau
 generalize zaB x.S=n at *
 rcases (by omega:n=1∨n=2∨n=3∨n=4∨n=5∨n=6∨n=7∨n=8) with rfl | rfl | rfl | rfl | rfl | rfl | rfl | rfl
 all_goals
  simp only [zbi]
  generalize zaU ws (k+1) none eb el ec=V1 at *
  generalize zaf ws (k+1) none eb el ec=V2 at *
  generalize zcn ws (k+1) none eb el ec=V3 at *
  generalize zb5 ws (k+1) none eb el ec=V4 at *
  generalize zcc ws (k+1) none eb el ec=V5 at *
  refine ⟨?_, ?_,⟨?_, ?_, ?_, ?_, ?_, ?_, ?_, ?_, ?_, ?_, ?_, ?_, ?_, ?_, ?_, ?_⟩⟩ <;> (try dsimp only) <;> (try rw [List.length_append]) <;> (try rw [List.length_singleton]) <;> omega
structure RgSt (ws:List W8) (eb el ec:Int) (F:Ps) (f k:Nat) (bad:Option Rf) (T:TV):Prop where
 eq:F=za1 ws eb el ec f k bad T
 fu:ws.length - k < f
 le:k≤ws.length
 tl:T.Le k
theorem RgSt.stop {ws:List W8} {eb el ec:Int} {F:Ps} {f k:Nat} {bad:Option Rf} {T:TV} (h:RgSt ws eb el ec F f k bad T) (hs:bad≠none∨ws[k]?=none):F=⟨k,bad,T⟩:=by
 obtain ⟨g,rfl⟩:∃ g,f=g+1:=⟨f - 1,by have:=h.fu;omega⟩
 rw [h.eq]
 unfold za1
 cases bad with
 | some b =>rfl
 | none =>
  rcases hs with h1 | h1
  ·exact absurd rfl h1
  ·rw [h1]
theorem RgSt.next {ws:List W8} {eb el ec:Int} {F:Ps} {f k:Nat} {x:W8} {T:TV} (h:RgSt ws eb el ec F f k none T) (hx:ws[k]?=some x) (hr:zaB x.S≠0):∃ f',RgSt ws eb el ec F f' (zau ws eb el ec k x T).k (zau ws eb el ec k x T).bad (zau ws eb el ec k x T).T:=by
 obtain ⟨g,rfl⟩:∃ g,f=g+1:=⟨f - 1,by have:=h.fu;omega⟩
 have hk:=(List.getElem?_eq_some_iff.1 hx).1
 have hl:=zea ws eb el ec k x hx T h.tl hr
 refine ⟨g, ?_,by have:=h.fu;omega,hl.2.1,hl.2.2⟩
 have e:=h.eq
 unfold za1 at e
 rw [hx] at e
 exact e
theorem RgSt.no {ws:List W8} {eb el ec:Int} {F:Ps} {f k:Nat} {x:W8} {T:TV} (h:RgSt ws eb el ec F f k none T) (hx:ws[k]?=some x) (hr:zaB x.S=0):F=⟨k,some (zeA ws k eb el ec),T⟩:=by
 obtain ⟨g,rfl⟩:∃ g,f=g+1:=⟨f - 1,by have:=h.fu;omega⟩
 have hk:=(List.getElem?_eq_some_iff.1 hx).1
 obtain ⟨g,rfl⟩:∃ g',g=g' + 1:=⟨g - 1,by have:=h.fu;omega⟩
 have e:=h.eq
 unfold za1 at e
 rw [hx] at e
 have er:zau ws eb el ec k x T=⟨k,some (zeA ws k eb el ec),T⟩:=by unfold zau;rw [hr];rfl
 dsimp only at e
 rw [er] at e
 unfold za1 at e
 exact e
def zco:List (Int × Int)→List Value
 | [] => []
 | x::t =>.int .i32 x.1::.int .i64 x.2::zco t
def zch:List (Int × Int × Int)→List Value
 | [] => []
 | x::t =>.int .i32 x.1::.int .i32 x.2.1::.int .i32 x.2.2::zch t
def zbu:List (Int × ByteArray)→List Value
 | [] => []
 | x::t =>.int .i32 x.1::.string x.2::zbu t
def zbQ:List (ByteArray × List (Int × Int))→List Value→List Value
 | x::t,u::us =>.string x.1::u::zbQ t us
 | _,_ => []
theorem zdr (s t:List (Int × Int)):zap (s++t)=zap s++zap t:=by
 induction s with
 | nil =>rfl
 | cons x s ih =>show _::_::zap (s++t)=_::_::_;rw [ih];rfl
theorem zcp (s t:List (Int × Int × Int)):za6 (s++t)=za6 s++za6 t:=by
 induction s with
 | nil =>rfl
 | cons x s ih =>show _::_::_::za6 (s++t)=_::_::_::_;rw [ih];rfl
theorem ziR (s t:List (Int × Int)):zco (s++t)=zco s++zco t:=by
 induction s with
 | nil =>rfl
 | cons x s ih =>show _::_::zco (s++t)=_::_::_;rw [ih];rfl
theorem ziQ (s t:List (Int × Int × Int)):zch (s++t)=zch s++zch t:=by
 induction s with
 | nil =>rfl
 | cons x s ih =>show _::_::_::zch (s++t)=_::_::_::_;rw [ih];rfl
theorem zeU (s t:List (Int × ByteArray)):zbu (s++t)=zbu s++zbu t:=by
 induction s with
 | nil =>rfl
 | cons x s ih =>show _::_::zbu (s++t)=_::_::_;rw [ih];rfl
theorem zg0 (s:List (ByteArray × List (Int × Int))) (us:List Value) (x:ByteArray × List (Int × Int)) (u:Value) (h:s.length=us.length):zbQ (s++[x]) (us++[u])=zbQ s us++[.string x.1,u]:=by
 induction s generalizing us with
 | nil =>cases us with
  | nil =>rfl
  | cons v us =>cases h
 | cons y s ih =>cases us with
  | nil =>cases h
  | cons v us =>show _::_::zbQ (s++[x]) (us++[u])=_::_::_;rw [ih us (by simpa using h)];rfl
def zeN (T:TV) (us:List Value):List Ln :=
 Ln.mk 71 2 T.sc.length (zbQ T.sc us)::Ln.mk 73 2 T.co.length (zap T.co)::Ln.mk 93 2 T.ma.length (zco T.ma)::Ln.mk 96 3 T.pr.length (zch T.pr)::Ln.mk 75 2 T.fo.length (zbu T.fo)::Ln.mk 75 2 T.lk.length (zbu T.lk)::Ln.mk 73 2 T.dr.length (zap T.dr)::Ln.mk 73 2 T.al.length (zap T.al) ::
 Ln.mk 53 3 0 []::Ln.mk 53 3 T.r1.length (za6 T.r1)::Ln.mk 53 3 T.r2.length (za6 T.r2)::Ln.mk 53 3 T.r3.length (za6 T.r3)::Ln.mk 53 3 T.r4.length (za6 T.r4)::Ln.mk 53 3 T.r5.length (za6 T.r5)::Ln.mk 53 3 T.r6.length (za6 T.r6)::Ln.mk 53 3 T.r7.length (za6 T.r7)::Ln.mk 53 3 T.r8.length (za6 T.r8) ::
 T.sc.map (fun s =>Ln.mk 73 2 s.2.length (zap s.2))
theorem zge:(Tryz.prog.info? 75).map (fun i =>(i.zero,i.size,i.bytes))=some (some (.agg #[.int .i32 0,.string ⟨#[]⟩]),2,24):=by kernel_rfl
theorem ziz (R Tx g:Nat) (ws:List W8) (k:Nat) (bad:Option Rf) (eb el ec:Int) (V:Mp) (he:zcc ws k bad eb el ec=V) (W:World) (h:RdE W R Tx g ws k bad eb el ec) :
  Calls Tryz.prog 150 #[.pointer (some ⟨R,0,none⟩)] W fun e w' =>e=.returned (.agg #[.int .i32 V.fr,.string (runesBytes V.tw)])∧RdE w' R Tx g ws V.k V.bad eb el ec∧W.grownBy w' (some R):=by
 subst he
 exact zjz R Tx g ws k bad eb el ec W h
theorem RdE.drew {W:World} {R Tx g:Nat} {ws:List W8} {k:Nat} {bad:Option Rf} {eb el ec:Int} (h:RdE W R Tx g ws k bad eb el ec):RdE W.drew R Tx g ws k bad eb el ec:=by
 obtain ⟨a,c,v,hb,ha,hc,hv⟩:=h.rd.blk
 have hg:∀ row,W.grownBy W.drew row:=fun row =>⟨rfl,rfl,rfl,Nat.le_refl _,fun _ _ _ =>rfl⟩
 exact ⟨h.rd.upd (hg _) h.rd.kn a c v hb ha hc (hv.kept (hg Option.none) (fun F x _ =>by simp)),h.en.kept (hg Option.none) (by simp),h.ne⟩
set_option maxRecDepth 100000 in
set_option maxHeartbeats 4000000 in
theorem fold_any (R Tx g lo:Nat) (ws:List W8) (k:Nat) (bad:Option Rf) (eb el ec fb fl fc:Int) (vs:List Value) (ls:List Ln) (n1 n2:Nat) (xs1 xs2:List Value) (hl1:ls[4]?=some ⟨75,2,n1,xs1⟩) (hl2:ls[8+5]?=some ⟨53,3,n2,xs2⟩) (hn1:n1≤1000000) (hn2:n2≤1000000) (W0 W:World) (h:RuSt W0 W R Tx g lo ws k bad eb el ec vs ls) :
  Calls Tryz.prog 115 #[.pointer (some ⟨R,0,none⟩),.agg #[.int .i64 fb,.int .i64 fl,.int .i64 fc]] W fun e w' =>(∃ r,e=.returned r)∧∃ va vb,RuSt W0 w' R Tx g lo ws (zcc ws k bad eb el ec).k (zcc ws k bad eb el ec).bad eb el ec ((vs.set 4 va).set (8+5) vb) ((ls.set 4 ⟨75,2,n1+1,xs1++[.int .i32 (zcc ws k bad eb el ec).fr,.string (runesBytes (zcc ws k bad eb el ec).tw)]⟩).set (8+5) ⟨53,3,n2+1,xs2++[.int .i64 fb,.int .i64 fl,.int .i64 fc]⟩):=by
 have hNR:R < W.heap.size:=Nat.lt_of_lt_of_le h.hR h.low
 have HLo:=kz h.low
 have HM:=kz (fun (w:World) =>ziz R Tx g ws k bad eb el ec _ rfl w)
 generalize zcc ws k bad eb el ec=V at *
 obtain ⟨fr,tw,k2,bad2⟩:=V
 dsimp only at HM
 dsimp only
 generalize runesBytes tw=tob at *
 obtain ⟨im,him,hm0,hm1,hm2⟩:=info_parts zge
 have HIM:=kz (And.intro him (And.intro hm0 (And.intro hm1 hm2)))
 clear him hm0 hm1 hm2
 have hmx:Tryz.prog.follows .mixedOrders=true:=by kernel_rfl
 have H:=kz (h.alloc (.cells #[.int .i64 fb,.int .i64 fl,.int .i64 fc] 53))
 have HX:=kz (Blk.new W #[.int .i64 fb,.int .i64 fl,.int .i64 fc] 53)
 clear h
 go_enter Tryz.func115,Tryz.ntmps115
 go_wp2_with fail
 generalize W.alloc (.cells #[.int .i64 fb,.int .i64 fl,.int .i64 fc] 53)=WA at *
 generalize W.heap.size=N at *
 obtain ⟨v,hv⟩:∃ v,vs[4]?=some v:=⟨_,List.getElem?_eq_getElem (by have:=(oz H).tb.lv;omega)⟩
 have how:=(oz H).tb.own _ _ _ hv hl1
 obtain ⟨va,vc,rfl⟩:=zab how
 have hg0:∀ b,Value.ownBlock (.slice va n1 vc)=some b→lo≤b:=zam how
 obtain ⟨ra,rc,rv,hrb,_,_,_⟩:=(oz H).rd.rd.blk
 have c1:WA.cell? ⟨R,1,none⟩=some (.pointer (some ⟨Tx,0,none⟩)):=hrb.cell 1
 have t0:=(oz H).tb.cell (by omega) hv
 have hTl:=(oz H).tb.lt
 have hRl:=(oz H).hR
 have hl3:=(oz H).low
 have hltR:R < WA.heap.size:=by omega
 have hltT:Tx < WA.heap.size:=by omega
 clear hrb
 go_region_law (first
  | (refine step_append_lies _ (by rfl) _ _ _ (by rfl) lo 75 im (.agg #[.int .i32 0,.string ⟨#[]⟩]) 2 24 Tryz.underlying31 (oz HIM).1 (oz HIM).2.1 (oz HIM).2.2.1 (oz HIM).2.2.2 rfl (by omega) _ n1 xs1 (by rfl) (((oz H2).tb.own _ _ _ hv hl1).alloc _) ⟨w2.heap.size,0,none⟩ 1 1 [.int .i32 fr,.string tob] (by rfl) (by rfl) (World.news_of_block (cs:=#[.int .i32 fr,.string tob]) (t:=75) (fr:=(0,0)) (heap_alloc_new w2 _)) (by simp [Value.oneCell']) (by omega) (by unfold maxLen;omega) (by omega) (by simp;omega) (w2.heap.size+1) (by simp) ?_;intro gg cap w4 hown1 hgrow hatt hlt;have q1:w4.cell? ⟨Tx,4,none⟩=some (.slice va n1 vc):=hgrow.cell (a:=⟨Tx,4,none⟩) t2 (by show some Tx≠Value.ownBlock (.slice va n1 vc);intro e;have:=hg0 Tx e.symm;omega);have q2:w4.frozen? ⟨Tx,4,none⟩=false:=(Blk.kept ((oz H2).alloc (.cells #[.int .i32 fr,.string tob] 75)).tb.blk hgrow (fun e =>by have:=hg0 Tx e.symm;omega)).frozen 4;have q3:w4.cell? ⟨R,1,none⟩=some (.pointer (some ⟨Tx,0,none⟩)):=hgrow.cell (a:=⟨R,1,none⟩) ca2 (by show some R≠Value.ownBlock (.slice va n1 vc);intro e;have:=hg0 R e.symm;omega))
  | (go_simp;refine (oz HM _ (oz H).rd.drew).mono ?_;rintro e w2 ⟨rfl,hR2,hg2⟩;have H2:=kz ((oz H).call hR2 ⟨hg2.os,hg2.tape,hg2.output,hg2.size,hg2.block⟩);have HX2:=kz ((oz HX).kept (W':=w2) ⟨hg2.os,hg2.tape,hg2.output,hg2.size,hg2.block⟩ (fun e =>by have:=Option.some.inj e;omega));have hb2:=(oz H2).rd.rd.blk;obtain ⟨ra2,rc2,rv2,hrb2,_,_,_⟩:=hb2;have c2:w2.cell? ⟨R,1,none⟩=some (.pointer (some ⟨Tx,0,none⟩)):=hrb2.cell 1;have ca2:=(hrb2.alloc (.cells #[.int .i32 fr,.string tob] 75)).cell 1;have t1:=(oz H2).tb.cell (by omega) hv;have t2:=((oz H2).alloc (.cells #[.int .i32 fr,.string tob] 75)).tb.cell (by omega) hv;have hl2':=(oz H2).low;have hltR2:R < w2.heap.size:=(by omega);have hltT2:Tx < w2.heap.size:=(by omega);clear hrb2 hR2 hg2))
 all_goals
  have hNx:some N≠Value.ownBlock (.slice va n1 vc):=zbK (oz HX2) ((oz H2).tb.own _ _ _ hv hl1) (show (75:Nat)≠53 by decide)
  have H4:=kz (((oz H2).alloc (.cells #[.int .i32 fr,.string tob] 75)).put (W1:=w4) (by omega) hv hl1 (show (75:Nat)≠80 by decide) hown1 ⟨hgrow.os,hgrow.tape,hgrow.output,hgrow.size,hgrow.block⟩ (by rcases hatt with e | e;exact .inl e.symm;exact .inr (by rw [e];simp [Value.ownBlock])))
  have hx5:=(Blk.kept (W:=(w2.alloc (.cells #[.int .i32 fr,.string tob] 75))) ((oz HX2).alloc _) hgrow hNx).kept (zad w4 Tx 4 (.slice (some ⟨gg,0,none⟩) (n1+1) cap)) (fun e =>by have:=Option.some.inj e;have:=oz HLo;omega)
  clear hgrow hown1 hatt hlt q1 q2 q3 H2 HX2 how c1 t0 ca2 t1 t2 c2
  generalize w4.setCell ⟨Tx,4,none⟩ (.slice (some ⟨gg,0,none⟩) (n1+1) cap)=w5 at *
  have x0:=hx5.cell 0
  have x1:=hx5.cell 1
  have x2:=hx5.cell 2
  clear hx5
  have HP:=kz (Blk.new w5 #[.int .i64 fb,.int .i64 fl,.int .i64 fc] 53)
  go_wp2_with fail
  refine (zdX W0 R Tx g lo ws k2 bad2 eb el ec _ _ 5 (by omega) n2 xs2 (by rw [List.getElem?_set_ne (by decide)];exact hl2) _ 1 1 [.int .i64 fb,.int .i64 fl,.int .i64 fc] (by omega) _ ((oz H4).alloc _) (.inr ⟨_,rfl,by decide,rfl,World.news_of_block (cs:=#[.int .i64 fb,.int .i64 fl,.int .i64 fc]) (t:=53) (fr:=(0,0)) (heap_alloc_new w5 _),by simp [Value.oneCell']⟩)).mono ?_
  rintro e w6 ⟨⟨r,rfl⟩,vb,hfin⟩
  go_wp2_with fail
  go_end0
  exact ⟨⟨_,rfl⟩,_,vb,hfin⟩
end Go.Proofs.YtmdgejgokoadlaaGreatDoor
