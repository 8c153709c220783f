/- Texts of this claim, one behind the other. -/
import Derived.Test.YtmdgejgokoadlaaGreatDoorM6
import Derived.Test.YtmdgejgokoadlaaGreatDoorM3
import Derived.Test.YtmdgejgokoadlaaGreatDoorM2
import Derived.Test.YtmdgejgokoadlaaGreatDoorM1
import Derived.Laws.Bits64b
import Derived.Laws.IdiomStrings
import Derived.Test.YtmdgejgokoadlaaGreatDoorShB
/- The reader of rules: mark. -/
namespace Go.Proofs.YtmdgejgokoadlaaGreatDoor
open Go.RowKit Go.Shelf
set_option linter.unusedVariables false
structure RuSt (W0 W:World) (R Tx g lo:Nat) (ws:List W8) (k:Nat) (bad:Option Rf) (eb el ec:Int) (vs:List Value) (ls:List Ln):Prop where
  rd:RdE W R Tx g ws k bad eb el ec
  tb:TbAt W lo Tx vs ls eb el ec
  fr:Fr lo R Tx W0 W
  low:lo≤W.heap.size
  hR:R < lo
  hgT:g≠Tx
  hgl:∀ (j:Nat) (y:W8),ws[j]?=some y→g < lo
theorem RuSt.call {W0 W W2:World} {R Tx g lo:Nat} {ws:List W8} {k k2:Nat} {bad bad2:Option Rf} {eb el ec:Int} {vs:List Value} {ls:List Ln} (h:RuSt W0 W R Tx g lo ws k bad eb el ec vs ls) (h2:RdE W2 R Tx g ws k2 bad2 eb el ec) (hg:W.grownBy W2 (some R)):RuSt W0 W2 R Tx g lo ws k2 bad2 eb el ec vs ls :=
  ⟨h2,h.tb.kept h.hR h.rd.ne hg,h.fr.trans (Fr.grown h.low hg (fun b e =>.inl (Option.some.inj e).symm)),Nat.le_trans h.low hg.size,h.hR,h.hgT,h.hgl⟩
theorem RuSt.alloc {W0 W:World} {R Tx g lo:Nat} {ws:List W8} {k:Nat} {bad:Option Rf} {eb el ec:Int} {vs:List Value} {ls:List Ln} (h:RuSt W0 W R Tx g lo ws k bad eb el ec vs ls) (o:Obj):RuSt W0 (W.alloc o) R Tx g lo ws k bad eb el ec vs ls:=h.call (h.rd.alloc o) (World.grownBy_alloc W o _)
theorem RuSt.put {W0 W W1:World} {R Tx g lo:Nat} {ws:List W8} {k:Nat} {bad:Option Rf} {eb el ec:Int} {vs:List Value} {ls:List Ln} {i:Nat} {v v':Value} {l:Ln} {n:Nat} {xs:List Value} (h:RuSt W0 W R Tx g lo ws k bad eb el ec vs ls) (h17:i < 17) (hv:vs[i]?=some v) (hl:ls[i]?=some l) (hE:l.E≠80) (ho:W1.ownsRow lo l.E l.sz v' n xs) (hg:W.grownBy W1 v.ownBlock) (hat:v'.ownBlock=v.ownBlock∨v'.ownBlock=some W.heap.size) :
    RuSt W0 (W1.setCell ⟨Tx,i,none⟩ v') R Tx g lo ws k bad eb el ec (vs.set i v') (ls.set i ⟨l.E,l.sz,n,xs⟩):=by
  obtain ⟨h1,h2,h3⟩:=rows_fin h17 hv hl hE h.hR h.hgT h.hgl h.low h.rd h.tb ho hg hat
  exact ⟨h1,h2,h.fr.trans h3,Nat.le_trans h.low h3.size,h.hR,h.hgT,h.hgl⟩
theorem rows_ru (W0:World) (R Tx g lo:Nat) (ws:List W8) (k:Nat) (bad:Option Rf) (eb el ec:Int) (vs:List Value) (ls:List Ln) (i:Nat) (hi:i≤8) (n:Nat) (xs:List Value) (hl:ls[8+i]?=some ⟨53,3,n,xs⟩) (a:Option Addr) (m c:Nat) (news:List Value) (hn:n+m≤2000000) (W:World) (h:RuSt W0 W R Tx g lo ws k bad eb el ec vs ls) (hp:Pl W a m c news) :
    Calls Tryz.prog 149 #[.pointer (some ⟨R,0,none⟩),.int .i64 i,.slice a m c] W fun e w' =>(∃ r,e=.returned r)∧∃ v',RuSt W0 w' R Tx g lo ws k bad eb el ec (vs.set (8+i) v') (ls.set (8+i) ⟨53,3,n+m,xs++news⟩):=by
  obtain ⟨v,hv⟩:∃ v,vs[8+i]?=some v:=⟨_,List.getElem?_eq_getElem (by have:=h.tb.lv;omega)⟩
  refine (rows_any R Tx g lo ws k bad eb el ec vs ls i hi v n xs hv hl h.hR h.hgT h.hgl a m c news hn W h.low h.rd h.tb hp).mono ?_
  rintro e w' ⟨h1,h2,⟨v',h3⟩,h4⟩
  exact ⟨h1,v',h2,h3,h.fr.trans h4,Nat.le_trans h.low h4.size,h.hR,h.hgT,h.hgl⟩
structure Mk where
  on:Int
  cl:Int
  k:Nat
  bad:Option Rf
def markV (ws:List W8) (k:Nat) (bad:Option Rf) (eb el ec:Int):Mk :=
  let a:=takeV ws k bad eb el ec 3
  let b:=takeV ws a.k a.bad eb el ec 2
  let c:=takeV ws b.k b.bad eb el ec 6
  ⟨a.x.r,b.x.n,c.k,c.bad⟩
theorem blk_row {W:World} {N lo E E' sz n:Nat} {cs:Array Value} {v:Value} {xs:List Value} (hb:Blk W N cs E') (h:W.ownsRow lo E sz v n xs) (hE:E≠E'):some N≠v.ownBlock:=by
  rcases h.2 with ⟨rfl,_⟩ | ⟨g,cap,cur,rfl,_,hg,_⟩
  · simp [Value.ownBlock]
  · simp only [Value.ownBlock]
    intro e
    have e:=Option.some.inj e
    subst e
    exact hE (blk_types (show Blk W N cur E from hg) hb)
theorem infoMark:(Tryz.prog.info? 93).map (fun i =>(i.zero,i.size,i.bytes))=some (some (.agg #[.int .i32 0,.int .i64 0]),2,16):=by kernel_rfl
theorem field_n (a:Int) (b:ByteArray) (c d e f g h:Int) (w:World):(Instr.field 147 (.agg #[.int .i64 a,.string b,.int .i32 c,.int .i64 d,.int .i64 e,.int .i64 f,.int .i64 g,.int .i64 h]) 3).run Tryz.prog w=.ok (.int .i64 d) w:=by kernel_rfl
set_option maxRecDepth 100000 in
set_option maxHeartbeats 4000000 in
theorem mark_any (R Tx g lo:Nat) (ws:List W8) (k:Nat) (bad:Option Rf) (eb el ec fb fl fc:Int) (vs:List Value) (ls:List Ln) (n1 n2:Nat) (xs1 xs2:List Value) (hl1:ls[2]?=some ⟨93,2,n1,xs1⟩) (hl2:ls[11]?=some ⟨53,3,n2,xs2⟩) (hn1:n1≤1000000) (hn2:n2≤1000000) (W0 W:World) (h:RuSt W0 W R Tx g lo ws k bad eb el ec vs ls) :
    Calls Tryz.prog 113 #[.pointer (some ⟨R,0,none⟩),.agg #[.int .i64 fb,.int .i64 fl,.int .i64 fc]] W fun e w' =>(∃ r,e=.returned r)∧∃ va vb,RuSt W0 w' R Tx g lo ws (markV ws k bad eb el ec).k (markV ws k bad eb el ec).bad eb el ec ((vs.set 2 va).set 11 vb) ((ls.set 2 ⟨93,2,n1+1,xs1++[.int .i32 (markV ws k bad eb el ec).on,.int .i64 (markV ws k bad eb el ec).cl]⟩).set 11 ⟨53,3,n2+1,xs2++[.int .i64 fb,.int .i64 fl,.int .i64 fc]⟩):=by
  have hNR:R < W.heap.size:=Nat.lt_of_lt_of_le h.hR h.low
  have HLo:=kz h.low
  have HV:Hz (markV ws k bad eb el ec=⟨(takeV ws k bad eb el ec 3).x.r,(takeV ws (takeV ws k bad eb el ec 3).k (takeV ws k bad eb el ec 3).bad eb el ec 2).x.n,(takeV ws (takeV ws (takeV ws k bad eb el ec 3).k (takeV ws k bad eb el ec 3).bad eb el ec 2).k (takeV ws (takeV ws k bad eb el ec 3).k (takeV ws k bad eb el ec 3).bad eb el ec 2).bad eb el ec 6).k,(takeV ws (takeV ws (takeV ws k bad eb el ec 3).k (takeV ws k bad eb el ec 3).bad eb el ec 2).k (takeV ws (takeV ws k bad eb el ec 3).k (takeV ws k bad eb el ec 3).bad eb el ec 2).bad eb el ec 6).bad⟩):=kz rfl
  generalize markV ws k bad eb el ec=V at *
  obtain ⟨im,him,hm0,hm1,hm2⟩:=info_parts infoMark
  have HIM:=kz (And.intro him (And.intro hm0 (And.intro hm1 hm2)))
  clear him hm0 hm1 hm2
  have hmx:Tryz.prog.follows .mixedOrders=true:=by kernel_rfl
  have H:=kz (h.alloc (.cells #[.int .i64 fb,.int .i64 fl,.int .i64 fc] 53))
  have HX:=kz (Blk.new W #[.int .i64 fb,.int .i64 fl,.int .i64 fc] 53)
  clear h
  go_enter Tryz.func113,Tryz.ntmps113
  go_wp2_with fail
  generalize W.alloc (.cells #[.int .i64 fb,.int .i64 fl,.int .i64 fc] 53)=WA at *
  generalize W.heap.size=N at *
  refine (take_e R Tx g ws k bad eb el ec 3 WA (oz H).rd).mono ?_
  rintro e w1 ⟨rfl,hR1,hg1⟩
  have H1:=kz ((oz H).call hR1 hg1)
  have HX1:=kz ((oz HX).kept hg1 (fun e =>by have:=Option.some.inj e;omega))
  clear hR1 hg1 H HX
  generalize takeV ws k bad eb el ec 3=A at *
  obtain ⟨⟨ak,aS,ar,an,ab,al,ac,ae⟩,k1,bad1⟩:=A
  dsimp only at H1 HV
  unfold wV
  dsimp only
  have hf:=field_r ak aS ar an ab al ac ae
  go_wp2_with fail
  refine (take_e R Tx g ws k1 bad1 eb el ec 2 w1 (oz H1).rd).mono ?_
  rintro e w2 ⟨rfl,hR2,hg2⟩
  have H2:=kz ((oz H1).call hR2 hg2)
  have HX2:=kz ((oz HX1).kept hg2 (fun e =>by have:=Option.some.inj e;omega))
  clear hR2 hg2 H1 HX1 hf
  generalize takeV ws k1 bad1 eb el ec 2=B at *
  obtain ⟨⟨bk,bS,br,bn,bb,bl,bc,be⟩,k2,bad2⟩:=B
  dsimp only at H2 HV
  unfold wV
  dsimp only
  have hf:=field_n bk bS br bn bb bl bc be
  go_wp2_with fail
  refine (take_e R Tx g ws k2 bad2 eb el ec 6 w2 (oz H2).rd).mono ?_
  rintro e w3 ⟨rfl,hR3,hg3⟩
  have H3:=kz ((oz H2).call hR3 hg3)
  have HX3:=kz ((oz HX2).kept hg3 (fun e =>by have:=Option.some.inj e;omega))
  clear hR3 hg3 H2 HX2 hf
  generalize takeV ws k2 bad2 eb el ec 6=C at *
  obtain ⟨cx,k3,bad3⟩:=C
  dsimp only at H3 HV
  dsimp only
  generalize wV cx=vcx
  go_wp2_with fail
  obtain ⟨v,hv⟩:∃ v,vs[2]?=some v:=⟨_,List.getElem?_eq_getElem (by have:=(oz H3).tb.lv;omega)⟩
  have how:=(oz H3).tb.own _ _ _ hv hl1
  obtain ⟨va,vc,rfl⟩:=own_slice how
  have hg0:∀ b,Value.ownBlock (.slice va n1 vc)=some b→lo≤b:=rd_from how
  obtain ⟨ra,rc,rv,hrb,_,_,_⟩:=(oz H3).rd.rd.blk
  have c1:w3.cell? ⟨R,1,none⟩=some (.pointer (some ⟨Tx,0,none⟩)):=hrb.cell 1
  have t0:=(oz H3).tb.cell (by omega) hv
  have hTl:=(oz H3).tb.lt
  have hRl:=(oz H3).hR
  have hl3:=(oz H3).low
  have hltR:R < w3.heap.size:=by omega
  have hltT:Tx < w3.heap.size:=by omega
  have ca1:=(hrb.alloc (.cells #[.int .i32 ar,.int .i64 bn] 93)).cell 1
  have ta:=((oz H3).tb.kept (R:=R) hRl (oz H3).rd.ne (World.grownBy_alloc w3 (.cells #[.int .i32 ar,.int .i64 bn] 93) _))
  have t1:=ta.cell (by omega) hv
  have hNx:some N≠Value.ownBlock (.slice va n1 vc):=blk_row (oz HX3) how (show (93:Nat)≠53 by decide)
  clear hrb
  go_region_law (refine step_append_lies _ (by rfl) _ _ _ (by rfl) lo 93 im (.agg #[.int .i32 0,.int .i64 0]) 2 16 Tryz.underlying29 (oz HIM).1 (oz HIM).2.1 (oz HIM).2.2.1 (oz HIM).2.2.2 rfl (by omega) _ n1 xs1 (by rfl) (how.alloc _).drew ⟨w3.heap.size,0,none⟩ 1 1 [.int .i32 ar,.int .i64 bn] (by rfl) (by rfl) (World.news_of_block (cs:=#[.int .i32 ar,.int .i64 bn]) (t:=93) (fr:=(0,0)) (heap_alloc_new w3 _)) (by simp [Value.oneCell']) (by omega) (by unfold maxLen;omega) (by omega) (by simp;omega) (w3.heap.size+1) (by simp) ?_;intro gg cap w4 hown1 hgrow hatt hlt;have q1:w4.cell? ⟨Tx,2,none⟩=some (.slice va n1 vc):=hgrow.cell (a:=⟨Tx,2,none⟩) t1 (by show some Tx≠Value.ownBlock (.slice va n1 vc);intro e;have:=hg0 Tx e.symm;omega);have q2:w4.frozen? ⟨Tx,2,none⟩=false:=(Blk.kept (W:=(w3.alloc _).drew) ta.blk hgrow (fun e =>by have:=hg0 Tx e.symm;omega)).frozen 2;have q3:w4.cell? ⟨R,1,none⟩=some (.pointer (some ⟨Tx,0,none⟩)):=hgrow.cell (a:=⟨R,1,none⟩) ca1 (by show some R≠Value.ownBlock (.slice va n1 vc);intro e;have:=hg0 R e.symm;omega))
  all_goals
    have H4:=kz (((oz H3).alloc (.cells #[.int .i32 ar,.int .i64 bn] 93)).put (W1:=w4) (by omega) hv hl1 (show (93:Nat)≠80 by decide) hown1 ⟨hgrow.os,hgrow.tape,hgrow.output,hgrow.size,hgrow.block⟩ (by rcases hatt with e | e;exact .inl e.symm;exact .inr (by rw [e];simp [Value.ownBlock])))
    have hx5:=(Blk.kept (W:=(w3.alloc (.cells #[.int .i32 ar,.int .i64 bn] 93)).drew) ((oz HX3).alloc _) hgrow hNx).kept (grown_set' w4 Tx 2 (.slice (some ⟨gg,0,none⟩) (n1+1) cap)) (fun e =>by have:=Option.some.inj e;have:=oz HLo;omega)
    clear hgrow hown1 hatt hlt q1 q2 q3 H3 HX3 how c1 t0 ca1 ta t1
    generalize w4.setCell ⟨Tx,2,none⟩ (.slice (some ⟨gg,0,none⟩) (n1+1) cap)=w5 at *
    have x0:=hx5.cell 0
    have x1:=hx5.cell 1
    have x2:=hx5.cell 2
    clear hx5
    have HP:=kz (Blk.new w5 #[.int .i64 fb,.int .i64 fl,.int .i64 fc] 53)
    go_wp2_with fail
    refine (rows_ru W0 R Tx g lo ws k3 bad3 eb el ec _ _ 3 (by omega) n2 xs2 (by rw [List.getElem?_set_ne (by decide)];exact hl2) _ 1 1 [.int .i64 fb,.int .i64 fl,.int .i64 fc] (by omega) _ ((oz H4).alloc _) (.inr ⟨_,rfl,by decide,rfl,World.news_of_block (cs:=#[.int .i64 fb,.int .i64 fl,.int .i64 fc]) (t:=53) (fr:=(0,0)) (heap_alloc_new w5 _),by simp [Value.oneCell']⟩)).mono ?_
    rintro e w6 ⟨⟨r,rfl⟩,vb,hfin⟩
    go_wp2_with fail
    go_end0
    exact ⟨⟨_,rfl⟩,_,vb,by rw [oz HV];exact hfin⟩
theorem below_grown2 {W W':World} {row:Option Nat} (h:Below W.heap.size W W'):W.grownBy W' row:=⟨h.os,h.tape,h.output,h.size,fun i hi _ =>h.block i hi⟩
structure PF (lo N:Nat) (W W':World):Prop where
  fr:Fr lo N N W W'
  ko:∀ (i:Nat) (o:Obj),i≠N→(∀ cs f,o≠.cells cs 5 f)→W.heap[i]?=some o→W'.heap[i]?=some o
theorem PF.kp {lo N:Nat} {W W':World} (h:PF lo N W W') (i:Nat) (cs:Array Value) (ty:TypeId) (h1:i≠N) (h2:ty≠5) (h3:Blk W i cs ty):Blk W' i cs ty:=h.ko i _ h1 (fun cs' f e =>by injection e with _ e2;exact h2 e2) h3
theorem PF.refl (lo N:Nat) (W:World):PF lo N W W:=⟨Fr.refl _ _ _ _,fun _ _ _ _ h =>h⟩
theorem PF.trans {lo N:Nat} {a b c:World} (h:PF lo N a b) (k:PF lo N b c):PF lo N a c:=⟨h.fr.trans k.fr,fun i o h1 h2 h3 =>k.ko i o h1 h2 (h.ko i o h1 h2 h3)⟩
theorem PF.own {lo N:Nat} {W W':World} (hlo:lo≤W.heap.size) (hg:W.grownBy W' (some N)):PF lo N W W':=⟨Fr.grown hlo hg (fun b e =>.inl (Option.some.inj e).symm),fun i o h1 _ h3 =>by rw [hg.block i (Array.getElem?_eq_some_iff.1 h3).1 (fun e =>h1 (Option.some.inj e))];exact h3⟩
theorem PF.below {lo N:Nat} {W W':World} (hlo:lo≤W.heap.size) (hb:Below W.heap.size W W'):PF lo N W W':=PF.own hlo (below_grown2 hb)
theorem PrAt.put {W W1:World} {lo N:Nat} {t t':List UInt8} {bg wr:Bool} {p v v':Value} (hlt:N < lo) (hw:lo≤W.heap.size) (hb:Blk W N #[p,v,.bool bg,.bool wr] 109) (hp:p=.pointer none∨p=.pointer (some ⟨N,0,none⟩)) (ho:W.ownsRow lo 5 1 v t.length (Lib.byteCells t)) (hn:W1.ownsRow lo 5 1 v' t'.length (Lib.byteCells t')) (hg:W.grownBy W1 v.ownBlock) :
    PrAt (W1.setCell ⟨N,1,none⟩ v') lo N t' bg wr∧PF lo N W (W1.setCell ⟨N,1,none⟩ v'):=by
  have hvl:=rd_from ho
  have b1:=hb.kept hg (fun e =>by have:=hvl N e.symm;omega)
  have q:=grown_set' W1 N 1 v'
  refine ⟨⟨⟨p,v',b1.set 1 v',hp,rd_other hn q (.inr fun e =>by have:=rd_from hn N e;omega)⟩,hlt,by have:=hg.size;have:=q.size;omega⟩, ?_⟩
  exact PF.trans ⟨Fr.grown hw hg (fun b e =>.inr (.inr (hvl b e))),fun i o h1 h2 h3 =>by
    rw [hg.block i (Array.getElem?_eq_some_iff.1 h3).1 ?_]
    · exact h3
    · rcases ho.2 with ⟨rfl,_⟩ | ⟨g,cap,cur,rfl,_,hgc,_⟩
      · simp [Value.ownBlock]
      · intro e
        have e:=Option.some.inj e
        subst e
        exact h2 cur (0,0) (Option.some.inj (h3.symm.trans hgc))⟩ (PF.own (by have:=hg.size;omega) q)
set_option maxRecDepth 100000 in
set_option maxHeartbeats 4000000 in
theorem pn_string (lo N:Nat) (t:List UInt8) (bg wr:Bool) (s:ByteArray) (hl:t.length+s.size≤1000000) (W:World) (h:PrAt W lo N t bg wr) :
    Calls Tryz.prog 122 #[.pointer (some ⟨N,0,none⟩),.string s] W fun e w' =>(∃ r,e=.returned r)∧PrAt w' lo N (t++s.data.toList) bg wr∧PF lo N W w':=by
  obtain ⟨i0,hi,hz0,hz1,hz2⟩:=info_parts infoByte8
  have H:=kz h
  clear h
  go_enter Tryz.func122,Tryz.ntmps122
  go_wp2_with fail
  refine (pn_check lo N t bg wr W (oz H)).mono ?_
  rintro e w1 ⟨⟨r,rfl⟩,h1,hg1⟩
  obtain ⟨p,v,hb,hp,ho⟩:=h1.blk
  have hlt:=h1.lt
  have hlw:=h1.lw
  have HG1:=kz (PF.own (oz H).lw hg1)
  have c1:=hb.cell 1
  have HP:=kz (And.intro hb (And.intro hp ho))
  clear h1 hg1 hb hp H
  go_wp2_with (at_builtin;refine Lib.wpList_append_own_string _ rfl _ _ 105 9 rfl lo 5 i0 Tryz.underlying105 Tryz.underlying9 hi hz0 hz1 hz2 _ _ _ rfl ho s rfl ?c3 ?c4 ?c5 ?_)
  case c3 =>unfold maxLen;omega
  case c4 =>omega
  case c5 =>omega
  intro v' w2 hown' hgrow _
  have hn:w2.ownsRow lo 5 1 v' (t++s.data.toList).length (Lib.byteCells (t++s.data.toList)):=by
    have e1:Lib.byteCells (t++s.data.toList)=Lib.byteCells t++Lib.strCells s:=by simp [Lib.byteCells,Lib.strCells]
    rw [e1,List.length_append,show s.data.toList.length=s.size from rfl]
    exact hown'
  have hfin:=PrAt.put hlt hlw (oz HP).1 (oz HP).2.1 ho hn hgrow
  have b2:=(oz HP).1.kept hgrow (fun e =>by have:=rd_from ho N e.symm;omega)
  have d1:=b2.cell 1
  have f1:=b2.frozen 1
  obtain ⟨ao,cap,rfl⟩:=own_slice hn
  have HF:=kz hfin
  rw [show (t++s.data.toList).length=t.length+s.size by rw [List.length_append];rfl] at HF
  clear hfin b2 hn hown' hgrow ho c1
  go_wp2_with fail
  first
  | (go_ret2;exact ⟨⟨_,rfl⟩,(oz HF).1,(oz HG1).trans (oz HF).2⟩)
  | (exact bodyPost_ret (v := .tuple #[.int .i64 s.size,.nilIface]) (by simp [results,Tryz.results122,go_sem]) rfl ⟨⟨_,rfl⟩,(oz HF).1,(oz HG1).trans (oz HF).2⟩)
set_option maxRecDepth 100000 in
set_option maxHeartbeats 4000000 in
theorem pn_byte (lo N:Nat) (t:List UInt8) (bg wr:Bool) (c:UInt8) (hl:t.length≤1000000) (W:World) (h:PrAt W lo N t bg wr) :
    Calls Tryz.prog 121 #[.pointer (some ⟨N,0,none⟩),.int .u8 c.toNat] W fun e w' =>(∃ r,e=.returned r)∧PrAt w' lo N (t++[c]) bg wr∧PF lo N W w':=by
  obtain ⟨i0,hi,hz0,hz1,hz2⟩:=info_parts infoByte8
  have H:=kz h
  clear h
  go_enter Tryz.func121,Tryz.ntmps121
  go_wp2_with fail
  refine (pn_check lo N t bg wr W (oz H)).mono ?_
  rintro e w1 ⟨⟨r,rfl⟩,h1,hg1⟩
  obtain ⟨p,v,hb,hp,ho⟩:=h1.blk
  have hlt:=h1.lt
  have hlw:=h1.lw
  have HG1:=kz (PF.own (oz H).lw hg1)
  have c1:=hb.cell 1
  have HP:=kz (And.intro hb (And.intro hp ho))
  clear h1 hg1 hb hp H
  go_wp2_with (at_builtin;refine append_k rfl _ _ 105 5 rfl i0 (.int .u8 0) 1 1 Tryz.underlying105 ⟨hi,hz0,hz1,hz2⟩ rfl (by decide) (by decide) lo _ t.length (Lib.byteCells t) [.int .u8 c.toNat] rfl rfl (by omega) w1 rfl (by intro u hu;simp at hu;rw [hu];rfl) ho hlw _ rfl rfl ?_)
  intro v' w2 hown' hgrow
  have hn:w2.ownsRow lo 5 1 v' (t++[c]).length (Lib.byteCells (t++[c])):=by
    have e1:Lib.byteCells (t++[c])=Lib.byteCells t++[.int .u8 c.toNat]:=by simp [Lib.byteCells]
    rw [e1,List.length_append,List.length_singleton]
    exact hown'
  have hgA:(w1.alloc (.cells #[.int .u8 c.toNat] 5)).grownBy w2 v.ownBlock:=hgrow
  have hfin:=PrAt.put (W:=w1.alloc (.cells #[.int .u8 c.toNat] 5)) hlt (by simp;omega) ((oz HP).1.alloc _) (oz HP).2.1 (ho.alloc _) hn hgA
  have b2:=((oz HP).1.alloc (.cells #[.int .u8 c.toNat] 5)).kept hgA (fun e =>by have:=rd_from ho N e.symm;omega)
  have d1:=b2.cell 1
  have f1:=b2.frozen 1
  obtain ⟨ao,cap,rfl⟩:=own_slice hn
  have HF:=kz (And.intro hfin.1 ((PF.own hlw (World.grownBy_alloc w1 (.cells #[.int .u8 c.toNat] 5) (some N))).trans hfin.2))
  rw [show (t++[c]).length=t.length+1 by rw [List.length_append];rfl] at HF
  clear hfin b2 hn hown' hgrow ho c1 hgA
  go_wp2_with fail
  go_ret
  exact ⟨⟨_,rfl⟩,(oz HF).1,(oz HG1).trans (oz HF).2⟩
theorem pow16_any (w:World):Calls Tryz.prog 195 #[.int .i64 16] w fun e w' =>e=.returned (.bool true)∧w'=w:=by
  go_enter Tryz.func195,Tryz.ntmps195
  go_wp2
  go_ret
  exact ⟨rfl,rfl⟩
theorem tz16_any (w:World) (hT:w.cell? ⟨11,15,none⟩=some (.int .u8 4)):Calls Tryz.prog 203 #[.int .u64 16] w fun e w' =>e=.returned (.int .i64 4)∧w'=w:=by
  have hk:IntKind.u64.wrap (bits BinOp.and IntKind.u64 16 (IntKind.u64.wrap (-16))*285870213051353865) / 288230376151711744=15:=by decide +kernel
  go_enter Tryz.func203,Tryz.ntmps203
  go_wp2
  go_ret
  exact ⟨rfl,rfl⟩
theorem tz_any (w:World) (hT:w.cell? ⟨11,15,none⟩=some (.int .u8 4)):Calls Tryz.prog 196 #[.int .u64 16] w fun e w' =>e=.returned (.int .i64 4)∧w'=w:=by
  go_enter Tryz.func196,Tryz.ntmps196
  go_wp2_with (go_at_call 203;refine (tz16_any _ hT).mono ?_;rintro e w' ⟨rfl,rfl⟩)
  go_ret
  exact ⟨rfl,rfl⟩
def digC (d:Nat):UInt8:=if d < 10 then (48+d).toUInt8 else (87+d).toUInt8
def hexF:Nat→Nat→List UInt8
  | 0,n => [digC n]
  | f+1,n =>if n < 16 then [digC n] else hexF f (n / 16)++[digC (n % 16)]
def hexL (n:Nat):List UInt8:=hexF n n
theorem hexF_fuel:∀ f g n,n≤f→n≤g→hexF f n=hexF g n
  | 0,0,n,_,_ =>rfl
  | 0,g+1,n,h,_ =>by
    obtain rfl:n=0:=by omega
    rfl
  | f+1,0,n,_,h =>by
    obtain rfl:n=0:=by omega
    rfl
  | f+1,g+1,n,hf,hg =>by
    rw [hexF,hexF]
    by_cases h:n < 16
    · rw [if_pos h,if_pos h]
    · rw [if_neg h,if_neg h,hexF_fuel f g (n / 16) (by omega) (by omega)]
abbrev digS:ByteArray:=⟨#[48,49,50,51,52,53,54,55,56,57,97,98,99,100,101,102,103,104,105,106,107,108,109,110,111,112,113,114,115,116,117,118,119,120,121,122]⟩
theorem and15 (u:Nat) (h:u < 4294967296):bits BinOp.and IntKind.u64 (u:Int) 15=((u % 16:Nat):Int):=by
  rw [show (15:Int)=((15:Nat):Int) from rfl,bits_and_u64_nat u 15 (by omega) (by decide),Nat.and_two_pow_sub_one_eq_mod u 4]
def DigAt (W:World) (B:Nat) (L:List UInt8):Prop := ∃ cur:Array Value,Blk W B cur 280∧cur.size=65∧L.length≤65∧∀ k d,L[k]?=some d→cur[65 - L.length+k]?=some (.int .u8 (d.toNat:Int))
theorem DigAt.push {W:World} {B:Nat} {L:List UInt8} (h:DigAt W B L) (hl:L.length≤64) (d:UInt8):DigAt (W.setCell ⟨B,64 - L.length,none⟩ (.int .u8 (d.toNat:Int))) B (d::L):=by
  obtain ⟨cur,hb,hs,h1,h2⟩:=h
  refine ⟨_,hb.set (64 - L.length) _,by simpa using hs,by simp;omega,fun k e hk =>?_⟩
  rw [List.length_cons]
  cases k with
  | zero =>
    simp at hk
    subst hk
    rw [Array.getElem?_setIfInBounds,if_pos (by omega)]
    simp [hs]
    omega
  | succ k =>
    simp at hk
    rw [Array.getElem?_setIfInBounds,if_neg (by omega)]
    have:=h2 k e hk
    rwa [show 65 - (L.length+1)+(k+1)=65 - L.length+k by omega]
theorem zeros_at (w:World):DigAt (w.alloc (.cells Tryz.zeroCells280 280)) w.heap.size []:=⟨_,Blk.new w _ _,by decide +kernel,by simp,fun k d h =>by simp at h⟩
theorem DigAt.frozen {W:World} {B:Nat} {L:List UInt8} (h:DigAt W B L) (i:Nat):W.frozen? ⟨B,i,none⟩=false:=by
  obtain ⟨cur,hb,_⟩:=h
  exact hb.frozen i
theorem DigAt.has {W:World} {B:Nat} {L:List UInt8} (h:DigAt W B L) (i:Nat) (hi:i < 65):∃ v,W.cell? ⟨B,i,none⟩=some v:=by
  obtain ⟨cur,hb,hs,_⟩:=h
  exact ⟨cur[i]'(by omega),(hb.cell i).trans (by simp [hs,hi])⟩
theorem dig_get:∀ d,d < 16→(digS.get! d).toNat=(digC d).toNat:=by decide +kernel
theorem dig_at (d:Nat) (h:d < digS.size) (h16:d < 16):(digS[d]'h).toNat=(digC d).toNat:=by rw [← dig_get d h16,get_lt digS d h];rfl
theorem hexL_small {n:Nat} (h:n < 16):hexL n=[digC n]:=by
  unfold hexL
  cases n with
  | zero =>rfl
  | succ k =>rw [hexF,if_pos h]
theorem hexL_step {n:Nat} (h:16≤n):hexL n=hexL (n / 16)++[digC (n % 16)]:=by
  unfold hexL
  obtain ⟨k,rfl⟩:∃ k,n=k+1:=⟨n - 1,by omega⟩
  rw [hexF,if_neg (by omega),hexF_fuel k ((k+1) / 16) ((k+1) / 16) (by omega) (Nat.le_refl _)]
set_option maxRecDepth 100000 in
set_option maxHeartbeats 4000000 in
theorem formatBits_any (n:Nat) (hn:n < 4294967296) (w:World) (hT:w.cell? ⟨11,15,none⟩=some (.int .u8 4)):Calls Tryz.prog 178 #[.slice none 0 0,.int .u64 n,.int .i64 16,.bool false,.bool false] w fun e w' =>e=.returned (.tuple #[.slice none 0 0,.string ⟨(hexL n).toArray⟩])∧Below w.heap.size w w':=by
  go_enter Tryz.func178,Tryz.ntmps178
  have hA:(w.alloc (.cells Tryz.zeroCells280 280)).cell? ⟨11,15,none⟩=some (.int .u8 4):=(((Below.refl w.heap.size w).alloc (Nat.le_refl _) _).cell (p:=⟨11,15,none⟩) (cell_lt hT)).trans hT
  have HA:=kz hA
  clear hA
  go_wp2_with (go_at_call 195;refine (pow16_any _).mono ?_;rintro e w' ⟨rfl,rfl⟩)
  refine (tz_any _ (oz HA)).mono ?_
  rintro e w1 ⟨rfl,rfl⟩
  go_wp2_with fail
  clear HA
  have HD0:=kz (zeros_at w)
  have HB0:=kz ((Below.refl w.heap.size w).alloc (Nat.le_refl _) (.cells Tryz.zeroCells280 280))
  generalize w.alloc (.cells Tryz.zeroCells280 280)=w0 at *
  go_loopw [1,13] (fun x i wr => ∃ (u:Nat) (L:List UInt8),x=.int .u64 u∧i=.int .i64 ((65 - L.length:Nat):Int)∧u*16 ^ L.length≤n∧L.length≤9∧Hz (hexL n=hexL u++L)∧Hz (DigAt wr w.heap.size L)∧Hz (Below w.heap.size w wr)) (fun x _ _ =>(intOf x).toNat)
  case atStart =>exact ⟨n,[],rfl,rfl,by simp,by simp,kz (by simp),HD0,HB0⟩
  case round =>
    obtain ⟨u,L,rfl,rfl,hu,hl9,HL,HD,HB⟩:=hrel
    by_cases h16:16≤u
    · have hl6:L.length≤6:=by
        by_cases h7:L.length≤6
        · exact h7
        · have h1:16 ^ 7≤16 ^ L.length:=Nat.pow_le_pow_right (by decide) (by omega)
          have h2:16*16 ^ 7≤u*16 ^ L.length:=Nat.mul_le_mul h16 h1
          omega
      have hub:u < 4294967296:=by
        have h1:1≤16 ^ L.length:=Nat.one_le_pow _ _ (by decide)
        have:=Nat.mul_le_mul_left u h1
        omega
      have hu1:(16:Int)≤(u:Int):=by omega
      have hand:=and15 u hub
      have hd16:u % 16 < 16:=Nat.mod_lt _ (by decide)
      obtain ⟨d,hd⟩:∃ d,d=u % 16:=⟨_,rfl⟩
      rw [← hd] at hand hd16
      obtain ⟨i,hi⟩:∃ i,i=64 - L.length:=⟨_,rfl⟩
      have hic:((65 - L.length:Nat):Int) - 1=(i:Int):=by omega
      have hi65:(i:Int) < 65:=by omega
      have hi0:((i:Nat):Int).toNat=i:=by omega
      obtain ⟨v0,hv0⟩:=(oz HD).has i (by omega)
      have hf0:=(oz HD).frozen i
      have hdi:(d:Int) < 36:=by omega
      have hd0:((d:Nat):Int).toNat=d:=by omega
      have hub2:(u:Int)≤4294967296:=by omega
      have hib:((65 - L.length:Nat):Int)≤65:=by omega
      have hib0:(0:Int)≤((65 - L.length:Nat):Int):=by omega
      generalize ((65 - L.length:Nat):Int)=ii at *
      have HI:=kz hi
      have HHD:=kz hd
      have hds:d < digS.size:=by have:digS.size=36:=rfl;omega
      have hP:=(oz HD).push (by omega) (digC d)
      rw [← hi, ← dig_at d hds hd16] at hP
      have HP:=kz hP
      have HBE:=kz ((oz HB).setCell (p:=⟨w.heap.size,i,none⟩) (Nat.le_refl _) (.int .u8 (((digS[d]'hds).toNat:Nat):Int)))
      have HN2:Hz (hexL n=hexL (u / 16)++(digC d::L)):=kz (by rw [oz HL,hexL_step h16, ← hd];simp)
      have HU:Hz (u / 16*16 ^ (digC d::L).length≤n):=kz (by
        rw [List.length_cons,Nat.pow_succ, ← Nat.mul_assoc,Nat.mul_right_comm]
        exact Nat.le_trans (Nat.mul_le_mul_right _ (Nat.div_mul_le_self u 16)) hu)
      clear hi hd hP hu HL HD
      go_wp2_with fail
      go_roundw
      case rel =>exact ⟨u / 16,digC d::L,by go_num,by rw [List.length_cons];have:=oz HI;go_num,oz HU,by simp;omega,HN2,HP,HBE⟩
      case measure =>simp [intOf];omega
    · have hub:u < 16:=by omega
      have hu1:¬ (16:Int)≤(u:Int):=by omega
      obtain ⟨i,hi⟩:∃ i,i=64 - L.length:=⟨_,rfl⟩
      have hic:((65 - L.length:Nat):Int) - 1=(i:Int):=by omega
      have hi65:(i:Int) < 65:=by omega
      have hi65':(i:Int)≤65:=by omega
      have hi0:((i:Nat):Int).toNat=i:=by omega
      obtain ⟨v0,hv0⟩:=(oz HD).has i (by omega)
      have hf0:=(oz HD).frozen i
      have hdi:(u:Int) < 36:=by omega
      have hd0:((u:Nat):Int).toNat=u:=by omega
      have hib:((65 - L.length:Nat):Int)≤65:=by omega
      have hib0:(0:Int)≤((65 - L.length:Nat):Int):=by omega
      generalize ((65 - L.length:Nat):Int)=ii at *
      have HI:=kz hi
      have hds:u < digS.size:=by have:digS.size=36:=rfl;omega
      have hP:=(oz HD).push (by omega) (digC u)
      rw [← hi, ← dig_at u hds hub] at hP
      have HP:=kz hP
      have HBE:=kz ((oz HB).setCell (p:=⟨w.heap.size,i,none⟩) (Nat.le_refl _) (.int .u8 (((digS[u]'hds).toNat:Nat):Int)))
      have HN2:Hz (hexL n=digC u::L):=kz (by rw [oz HL,hexL_small hub];rfl)
      have hlen:(digC u::L).length=65 - i:=by rw [List.length_cons];omega
      have hconv:(convert 105 9 (.slice (some ⟨w.heap.size,i,none⟩) (65 - i) (65 - i))).run Tryz.prog (wr.setCell ⟨w.heap.size,i,none⟩ (.int .u8 (((digS[u]'hds).toNat:Nat):Int)))=.ok (.string ⟨(digC u::L).toArray⟩) (wr.setCell ⟨w.heap.size,i,none⟩ (.int .u8 (((digS[u]'hds).toNat:Nat):Int))):=by
        rw [← hlen]
        refine run_convert_bytes_back _ 105 9 5 ⟨w.heap.size,i,none⟩ _ (digC u::L) Tryz.underlying105 Tryz.underlying5 Tryz.underlying9 (fun j hj =>?_)
        obtain ⟨cur,hb,hs5,h1,h2⟩:=hP
        rw [show (⟨w.heap.size,i,none⟩:Addr).add j=⟨w.heap.size,i+j,none⟩ by unfold Addr.add;split <;> simp_all]
        have h3:=h2 j _ (List.getElem?_eq_getElem hj)
        rw [hlen,show 65 - (65 - i)+j=i+j by omega] at h3
        exact (hb.cell (i+j)).trans h3
      clear hi hP hu HL HD hlen
      go_wp2_with fail
      go_ret2
      exact ⟨by rw [oz HN2];rfl,oz HBE⟩
theorem ifmt16 (n:Nat) (hn:n < 2147483648) (w:World) (hT:w.cell? ⟨11,15,none⟩=some (.int .u8 4)):Calls Tryz.prog 155 #[.int .i64 n,.int .i64 16] w fun e w' =>e=.returned (.string ⟨(hexL n).toArray⟩)∧Below w.heap.size w w':=by
  have h0:¬ (n:Int) < 0:=by omega
  have h00:(0:Int)≤(n:Int):=by omega
  have hb:(n:Int)≤2147483648:=by omega
  have HF:=kz (formatBits_any n (by omega) w hT)
  go_enter Tryz.func155,Tryz.ntmps155
  go_wp2_with fail
  refine (oz HF).mono ?_
  rintro e w1 ⟨rfl,hb1⟩
  have HB:=kz hb1
  clear hb1
  go_wp2_with fail
  go_ret
  exact ⟨rfl,oz HB⟩
theorem fmt16 (n:Nat) (hn:n < 2147483648) (w:World) (hT:w.cell? ⟨11,15,none⟩=some (.int .u8 4)):Calls Tryz.prog 153 #[.int .i64 n,.int .i64 16] w fun e w' =>e=.returned (.string ⟨(hexL n).toArray⟩)∧Below w.heap.size w w':=by
  have HF:=kz (ifmt16 n hn w hT)
  go_enter Tryz.func153,Tryz.ntmps153
  go_wp2_with fail
  refine (oz HF).mono ?_
  rintro e w1 ⟨rfl,hb1⟩
  have HB:=kz hb1
  clear hb1
  go_wp2_with fail
  go_ret
  exact ⟨rfl,oz HB⟩
theorem ex158:Builder.Extra Tryz.prog lay158_ren:=⟨⟨by kernel_rfl,by kernel_rfl⟩,Tryz.underlying5,Tryz.isAgg5,Tryz.sizeOf5,Tryz.zeroValue5,by kernel_rfl,by kernel_rfl,by kernel_rfl,by decide⟩
theorem ex105:Builder.Extra Tryz.prog lay105_ren:=⟨⟨by kernel_rfl,by kernel_rfl⟩,Tryz.underlying5,Tryz.isAgg5,Tryz.sizeOf5,Tryz.zeroValue5,by kernel_rfl,by kernel_rfl,by kernel_rfl,by decide⟩
theorem upper_sh (s:ByteArray) (w:World) (h:s.size≤140737488355328) (ha:∀ (j:Nat) (b:UInt8),s.data.toList[j]?=some b→b.toNat < 128):Calls Tryz.prog 152 #[.string s] w fun e w' =>e=.returned (.string ⟨(Lib.toUpperA s.data.toList).toArray⟩)∧Below w.heap.size w w':=Any.strings_ToUpper_ascii lay158 ex158 s w h ha
theorem repeat_sh (s:ByteArray) (c:Nat) (w:World) (hc:c≤9223372036854775807) (h:s.size*c≤140737488355328):Calls Tryz.prog 154 #[.string s,.int .i64 c] w fun e w' =>e=.returned (.string ⟨(Lib.repeatL s.data.toList c).toArray⟩)∧Below w.heap.size w w':=Any.strings_Repeat lay105 ex105 s c w hc h
theorem hexL_ascii:∀ (n:Nat) (b:UInt8),b ∈ hexL n→b.toNat < 128:=by
  intro n
  induction n using Nat.strongRecOn with
  | _ n ih =>
    intro b hb
    have hd:∀ d,d < 16→(digC d).toNat < 128:=by decide
    by_cases h:n < 16
    · rw [hexL_small h] at hb
      rw [List.mem_singleton.1 hb]
      exact hd n h
    · rw [hexL_step (by omega)] at hb
      rcases List.mem_append.1 hb with hb | hb
      · exact ih (n / 16) (by omega) b hb
      · rw [List.mem_singleton.1 hb]
        exact hd _ (Nat.mod_lt _ (by decide))
theorem hexL_length:∀ (k n:Nat),n < 16 ^ (k+1)→1≤(hexL n).length∧(hexL n).length≤k+1
  | 0,n,h =>by rw [hexL_small (by simpa using h)];simp
  | k+1,n,h =>by
    by_cases hs:n < 16
    · rw [hexL_small hs];simp
    · rw [hexL_step (by omega),List.length_append]
      have:=hexL_length k (n / 16) (by rw [Nat.div_lt_iff_lt_mul (by decide)];rw [Nat.pow_succ] at h;exact h)
      simp
      omega
def upS (n:Nat):ByteArray:=⟨(Lib.toUpperA (hexL n)).toArray⟩
theorem upS_size (n:Nat) (h:n < 4294967296):1≤(upS n).size∧(upS n).size≤8:=by
  have h1:=hexL_length 7 n (by omega)
  have e:(upS n).size=(hexL n).length:=by
    show (Lib.toUpperA (hexL n)).toArray.size=_
    simp [Lib.toUpperA]
  omega
theorem enc_ascii:∀ k:Nat,k < 128→(Utf8.encode (k:Int)).size=1:=by decide +kernel
theorem rep_size:∀ c:Nat,c≤4→(⟨(Lib.repeatL [48] c).toArray⟩:ByteArray).size=c:=by decide +kernel
def textV (r:Int):ByteArray × Int :=
  if widthOf r=0 then (⟨#[]⟩,12) else if 33≤r∧r≤126∧r≠39 then (⟨#[39]⟩++Utf8.encode r++⟨#[39]⟩,0)
  else (⟨#[85,43]⟩++⟨(Lib.repeatL [48] (4 - (upS r.toNat).size)).toArray⟩++upS r.toNat,0)
theorem width_bound (r:Int) (h:widthOf r≠0):0≤r∧r≤1114111:=by
  unfold widthOf at h
  repeat' split at h
  all_goals first | omega | (exfalso;exact h rfl)
set_option maxRecDepth 100000 in
set_option maxHeartbeats 4000000 in
theorem text_scan (r:Int) (w:World) (hT:w.cell? ⟨11,15,none⟩=some (.int .u8 4)):Calls Tryz.prog 123 #[.int .i32 r] w fun e w' =>e=.returned (.tuple #[.string (textV r).1,.int .i64 (textV r).2])∧Below w.heap.size w w':=by
  by_cases h0:widthOf r=0
  · have hv:textV r=(⟨#[]⟩,12):=by unfold textV;rw [if_pos h0]
    rw [hv]
    have h0':(widthOf r == 0)=true:=by simpa using h0
    clear hv h0
    go_enter Tryz.func123,Tryz.ntmps123
    go_wp2_with fail
    refine (width_any r _).mono ?_
    rintro e w1 ⟨rfl,rfl⟩
    go_wp2_with fail
    go_ret2
    exact ⟨rfl,Below.refl _ _⟩
  · have hb:=width_bound r h0
    have h0':(widthOf r == 0)=false:=by simpa using h0
    by_cases hq:33≤r∧r≤126∧r≠39
    · have hv:textV r=(⟨#[39]⟩++Utf8.encode r++⟨#[39]⟩,0):=by unfold textV;rw [if_neg h0,if_pos hq]
      obtain ⟨q1,q2,q3⟩:=hq
      have q3':(r != 39)=true:=by simpa using q3
      have HV:=kz hv
      clear hv h0 q3
      go_enter Tryz.func123,Tryz.ntmps123
      go_wp2_with fail
      refine (width_any r _).mono ?_
      rintro e w1 ⟨rfl,rfl⟩
      have hes:(Utf8.encode r).size=1:=by
        have:=enc_ascii r.toNat (by omega)
        rwa [Int.toNat_of_nonneg hb.1] at this
      have hs1:((⟨#[39]⟩:ByteArray)++Utf8.encode r).size=2:=by rw [ByteArray.size_append,hes];rfl
      go_wp2_with fail
      go_ret2
      exact ⟨by rw [oz HV];rfl,Below.refl _ _⟩
    · obtain ⟨n,rfl⟩:∃ n:Nat,r=n:=⟨r.toNat,by omega⟩
      have hn:n < 2147483648:=by omega
      have hv:textV (n:Int)=(⟨#[85,43]⟩++⟨(Lib.repeatL [48] (4 - (upS n).size)).toArray⟩++upS n,0):=by unfold textV;rw [if_neg h0,if_neg hq,Int.toNat_natCast]
      have hz:=upS_size n (by omega)
      have hHs:(⟨(hexL n).toArray⟩:ByteArray).size≤140737488355328:=by
        have h1:=hexL_length 7 n (by omega)
        show (hexL n).toArray.size≤_
        simp
        omega
      have hfm:=fmt16 n hn w hT
      have hup:=fun w' =>upper_sh ⟨(hexL n).toArray⟩ w' hHs (fun j b hj =>hexL_ascii n b (List.mem_of_getElem? (by simpa using hj)))
      obtain ⟨u,hu⟩:∃ u,u=upS n:=⟨_,rfl⟩
      have hup2:∀ w',Calls Tryz.prog 152 #[.string ⟨(hexL n).toArray⟩] w' fun e w2 =>e=.returned (.string u)∧Below w'.heap.size w' w2:=fun w' =>by rw [hu];exact hup w'
      rw [← hu] at hv hz
      have hrp:=fun w' =>repeat_sh ⟨#[48]⟩ (4 - u.size) w' (by omega) (by show 1*_≤_;omega)
      have HV:=kz hv
      have HF:=kz hfm
      have HU:=kz hup2
      have HP:=kz hrp
      have hmx:max ((4:Int) - (u.size:Int)) 0=((4 - u.size:Nat):Int):=by omega
      have hub:(u.size:Int)≤8:=by omega
      have hnb:(n:Int)≤1114111:=by omega
      have hcase:(¬ (33:Int)≤n)∨((33:Int)≤n∧¬ (n:Int)≤126)∨((33:Int)≤n∧(n:Int)≤126∧((n:Int) != 39)=false):=by
        by_cases c1:(33:Int)≤n
        · by_cases c2:(n:Int)≤126
          · exact .inr (.inr ⟨c1,c2,by simpa using fun c3 =>hq ⟨c1,c2,c3⟩⟩)
          · exact .inr (.inl ⟨c1,c2⟩)
        · exact .inl c1
      clear hv hfm hup hup2 hrp hu h0 hq hHs hb hT
      rcases hcase with c1 | ⟨c1,c2⟩ | ⟨c1,c2,c3⟩
      all_goals
        go_enter Tryz.func123,Tryz.ntmps123
        go_wp2_with fail
        refine (width_any n _).mono ?_
        rintro e w1 ⟨rfl,rfl⟩
        go_wp2_with fail
        refine (oz HF).mono ?_
        rintro e w2 ⟨rfl,hb2⟩
        go_wp2_with fail
        refine (oz HU _).mono ?_
        rintro e w3 ⟨rfl,hb3⟩
        have HB3:=kz (hb2.trans (hb3.mono hb2.size))
        clear hb2 hb3
        go_wp2_with fail
        try rw [hmx]
        refine (oz HP _).mono ?_
        rintro e w4 ⟨rfl,hb4⟩
        have hrs:=rep_size (4 - u.size) (by omega)
        have hs2:((⟨#[85,43]⟩:ByteArray)++⟨(Lib.repeatL [48] (4 - u.size)).toArray⟩).size≤6:=by rw [ByteArray.size_append,hrs];show 2+_≤_;omega
        have hrs2:(⟨(Lib.repeatL [48] (4 - u.size)).toArray⟩:ByteArray).size≤4:=by omega
        clear hrs
        generalize (⟨(Lib.repeatL [48] (4 - u.size)).toArray⟩:ByteArray)=rp at *
        have HB4:=kz ((oz HB3).trans (hb4.mono (oz HB3).size))
        clear hb4
        go_wp2_with fail
        go_ret2
        exact ⟨by rw [oz HV];rfl,oz HB4⟩
end Go.Proofs.YtmdgejgokoadlaaGreatDoor
