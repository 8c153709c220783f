/- Texts of this claim, one behind the other. -/
import Derived.Test.YtmdgejgokoadlaaGreatDoorM9
import Derived.Test.YtmdgejgokoadlaaGreatDoorM8
import Derived.Test.YtmdgejgokoadlaaGreatDoorShC
import Derived.Laws.Cover4
/- Words: the words of a text. -/
namespace Go.Proofs.YtmdgejgokoadlaaGreatDoor
open Go.RowKit Go.Shelf
set_option linter.unusedVariables false
theorem zhe (s:ByteArray):whL s 0=(1,1):=by
 have h0:zcU s 0=0:=Nat.le_zero.1 (zfP s 0)
 have ha:zeX s 0=ByteArray.empty:=by unfold zeX;rw [h0];exact za4 _ (by rw [ByteArray.size_extract];omega)
 unfold whL
 rw [ha]
 have h1:(ByteArray.empty.extract (zbo ByteArray.empty) ByteArray.empty.size)=ByteArray.empty:=za4 _ (by rw [ByteArray.size_extract];have h9:ByteArray.empty.size=0:=rfl;omega)
 rw [h1]
 rfl
theorem zdk {W:World} {lo lo' E sz n:Nat} {v:Value} {xs:List Value} (h:W.ownsRow lo E sz v n xs) (hl:lo'≤lo):W.ownsRow lo' E sz v n xs:=by
 refine ⟨h.1, ?_⟩
 rcases h.2 with h2 | ⟨g,cap,cur,e,hb,h3⟩
 ·exact .inl h2
 ·exact .inr ⟨g,cap,cur,e,by omega,h3⟩
def zan (s:ByteArray):CutV:=cutGo s (s.size+1) 0 (1,1) []
set_option maxRecDepth 100000 in
set_option maxHeartbeats 4000000 in
theorem words_yes (s:ByteArray) (hs:s.size≤262144) (hok:(zan s).ok=true) (m:Int) (w:World) (hm:w.cell? ⟨7,0,none⟩=some (.int .i64 m)) (hg:7 < w.heap.size) :
  Calls Tryz.prog 23 #[.string s] w fun e w' => ∃ v,e=.returned (.tuple #[v,.agg #[.int .i64 0,.int .i64 0,.int .i64 0],.int .i64 0])∧w'.ownsRow w.heap.size 147 8 v (zan s).ws.length (zgA (zan s).ws)∧Below w.heap.size w w':=by
 have hl:¬ (262144:Int) < (s.size:Int):=by omega
 have hwh:=fun w =>zfG s (by omega) 0 (Nat.zero_le _) w
 simp only [zhe] at hwh
 have b0:=Blk.new w #[.int .i64 0,.int .i64 0,.int .i64 0] 53
 have hB0:=(Below.refl w.heap.size w).alloc (Nat.le_refl _) (.cells #[.int .i64 0,.int .i64 0,.int .i64 0] 53)
 have Hb0:=kz b0
 have HB0:=kz hB0
 have HWH:=kz hwh
 have HM:=kz hm
 have HOK:=kz hok
 clear hwh b0 hB0 hm hok
 go_enter Tryz.func23,Tryz.ntmps23
 go_wp2_with fail
 refine (show Calls Tryz.prog 24 #[.string s,.int .i64 0] _ _ from oz HWH _).mono ?_
 rintro e w1 ⟨rfl,hb⟩
 have Hb1:=kz ((oz Hb0).below hb (oz Hb0).lt)
 have HB1:=kz ((oz HB0).trans (hb.mono (oz HB0).size))
 clear hb Hb0 HB0 HWH
 go_wp2_with fail
 have hal:=(Below.refl w1.heap.size w1).alloc (Nat.le_refl _) (.cells #[.string s,.int .i64 0,.int .i64 1,.int .i64 1,.slice none 0 0] 135)
 have bC:Blk (w1.alloc (.cells #[.string s,.int .i64 0,.int .i64 1,.int .i64 1,.slice none 0 0] 135)) w1.heap.size (ziY s (0:Nat) (1:Nat) (1:Nat) (.slice none 0 0)) 135:=Blk.new w1 _ _
 have Hb2:=kz ((oz Hb1).below hal (oz Hb1).lt)
 have HB2:=kz ((oz HB1).trans (hal.mono (oz HB1).size))
 have hw1:=(oz HB1).size
 have hM2:(w1.alloc (.cells #[.string s,.int .i64 0,.int .i64 1,.int .i64 1,.slice none 0 0] 135)).cell? ⟨7,0,none⟩=some (.int .i64 m):=((oz HB2).cell (p:=⟨7,0,none⟩) hg).trans (oz HM)
 refine (zg3 w1.heap.size s hs m _ bC hM2 (by omega) (zan s) rfl).mono ?_
 rintro e w3 ⟨rfl,v,cs,hst⟩
 rw [oz HOK]
 have hgr:=hst.gr
 have HB3:Hz (Below w.heap.size w w3):=kz ((oz HB2).grown hgr (oz HB2).size (fun k hk =>by cases hk;exact hw1))
 have hbl:=hst.blk
 have hb3:Blk w3 w.heap.size #[.int .i64 0,.int .i64 0,.int .i64 0] 53:=(oz Hb2).kept hgr (fun e =>by have:=Option.some.inj e;have:=(oz Hb1).lt;omega)
 have c4:=hbl.cell 4
 have f0:=hb3.frozen 0
 have f1:=hb3.frozen 1
 have f2:=hb3.frozen 2
 have k0:=hb3.cell 0
 have k1:=hb3.cell 1
 have k2:=hb3.cell 2
 have hown:=hst.own
 have HOWN:=kz hown
 have hE:Blk (((w3.setCell ⟨w.heap.size,0,none⟩ (.int .i64 0)).setCell ⟨w.heap.size,1,none⟩ (.int .i64 0)).setCell ⟨w.heap.size,2,none⟩ (.int .i64 0)) w.heap.size #[.int .i64 0,.int .i64 0,.int .i64 0] 53:=((hb3.set 0 (.int .i64 0)).set 1 (.int .i64 0)).set 2 (.int .i64 0)
 have r0:=hE.cell 0
 have r1:=hE.cell 1
 have r2:=hE.cell 2
 clear hst hbl hb3 hown hgr bC hM2 hal Hb1 Hb2 HB1 HB2 hE
 go_wp2_with fail
 have hO:(((w3.setCell ⟨w.heap.size,0,none⟩ (.int .i64 0)).setCell ⟨w.heap.size,1,none⟩ (.int .i64 0)).setCell ⟨w.heap.size,2,none⟩ (.int .i64 0)).ownsRow w.heap.size 147 8 v (zan s).ws.length (zgA (zan s).ws):=by
  have hlo:w.heap.size < (w1.alloc (.cells #[.string s,.int .i64 0,.int .i64 1,.int .i64 1,.slice none 0 0] 135)).heap.size+1:=by rw [World.size_alloc];omega
  exact zdk (zdy (zdy (zdy (oz HOWN) (zaL _ ⟨w.heap.size,0,none⟩ _) hlo) (zaL _ ⟨w.heap.size,1,none⟩ _) hlo) (zaL _ ⟨w.heap.size,2,none⟩ _) hlo) (by omega)
 have hBE:=(((oz HB3).setCell (p:=⟨w.heap.size,0,none⟩) (Nat.le_refl _) (.int .i64 0)).setCell (p:=⟨w.heap.size,1,none⟩) (Nat.le_refl _) (.int .i64 0)).setCell (p:=⟨w.heap.size,2,none⟩) (Nat.le_refl _) (.int .i64 0)
 exact bodyPost_ret (v := .tuple #[v,.agg #[.int .i64 0,.int .i64 0,.int .i64 0],.int .i64 0]) (by simp [results,Tryz.results23,go_sem,r0,r1,r2]) rfl ⟨v,rfl,hO,hBE⟩
set_option maxRecDepth 100000 in
set_option maxHeartbeats 4000000 in
theorem words_no (s:ByteArray) (hs:s.size≤262144) (hok:(zan s).ok=false) (hb:(zan s).b≤s.size) (m:Int) (w:World) (hm:w.cell? ⟨7,0,none⟩=some (.int .i64 m)) (hg:7 < w.heap.size) :
  Calls Tryz.prog 23 #[.string s] w fun e w' =>e=.returned (.tuple #[.slice none 0 0,.agg (atA (zan s).b (whL s (zan s).b)),.int .i64 (if (zan s).b < s.size then 20 else 21)])∧Below w.heap.size w w':=by
 have hl:¬ (262144:Int) < (s.size:Int):=by omega
 have hwh:=fun w =>zfG s (by omega) 0 (Nat.zero_le _) w
 simp only [zhe] at hwh
 have hwb:=fun w =>zfG s (by omega) (zan s).b hb w
 obtain ⟨n,hn⟩:∃ n,n=(zan s).b:=⟨_,rfl⟩
 obtain ⟨p1,p2,hp⟩:∃ p1 p2,whL s (zan s).b=(p1,p2):=⟨_,_,rfl⟩
 simp only [hp] at hwb
 simp only [← hn] at hwb
 rw [hp, ← hn]
 have b0:=Blk.new w #[.int .i64 0,.int .i64 0,.int .i64 0] 53
 have hB0:=(Below.refl w.heap.size w).alloc (Nat.le_refl _) (.cells #[.int .i64 0,.int .i64 0,.int .i64 0] 53)
 have Hb0:=kz b0
 have HB0:=kz hB0
 have HWH:=kz hwh
 have HWB:=kz hwb
 have HM:=kz hm
 have HOK:=kz hok
 have HN:=kz hn
 clear hwh b0 hB0 hm hok hwb hp hb hn
 go_enter Tryz.func23,Tryz.ntmps23
 go_wp2_with fail
 refine (show Calls Tryz.prog 24 #[.string s,.int .i64 0] _ _ from oz HWH _).mono ?_
 rintro e w1 ⟨rfl,hb⟩
 have Hb1:=kz ((oz Hb0).below hb (oz Hb0).lt)
 have HB1:=kz ((oz HB0).trans (hb.mono (oz HB0).size))
 clear hb Hb0 HB0 HWH
 go_wp2_with fail
 have hal:=(Below.refl w1.heap.size w1).alloc (Nat.le_refl _) (.cells #[.string s,.int .i64 0,.int .i64 1,.int .i64 1,.slice none 0 0] 135)
 have bC:Blk (w1.alloc (.cells #[.string s,.int .i64 0,.int .i64 1,.int .i64 1,.slice none 0 0] 135)) w1.heap.size (ziY s (0:Nat) (1:Nat) (1:Nat) (.slice none 0 0)) 135:=Blk.new w1 _ _
 have Hb2:=kz ((oz Hb1).below hal (oz Hb1).lt)
 have HB2:=kz ((oz HB1).trans (hal.mono (oz HB1).size))
 have hw1:=(oz HB1).size
 have hM2:(w1.alloc (.cells #[.string s,.int .i64 0,.int .i64 1,.int .i64 1,.slice none 0 0] 135)).cell? ⟨7,0,none⟩=some (.int .i64 m):=((oz HB2).cell (p:=⟨7,0,none⟩) hg).trans (oz HM)
 refine (zg3 w1.heap.size s hs m _ bC hM2 (by omega) (zan s) rfl).mono ?_
 rintro e w3 ⟨rfl,v,cs,hst⟩
 rw [oz HOK]
 have hgr:=hst.gr
 have HB3:Hz (Below w.heap.size w w3):=kz ((oz HB2).grown hgr (oz HB2).size (fun k hk =>by cases hk;exact hw1))
 have hbl:=hst.blk
 rw [← oz HN] at hbl
 have hb3:Blk w3 w.heap.size #[.int .i64 0,.int .i64 0,.int .i64 0] 53:=(oz Hb2).kept hgr (fun e =>by have:=Option.some.inj e;have:=(oz Hb1).lt;omega)
 have c1:=hbl.cell 1
 have Hb3:=kz hb3
 clear hst hbl hb3 hgr bC hM2 hal Hb1 Hb2 HB1 HB2
 go_wp2_with fail
 refine (oz HWB _).mono ?_
 rintro e w4 ⟨rfl,hb⟩
 have hb4:=(oz Hb3).below hb (oz Hb3).lt
 have hB4:=(oz HB3).trans (hb.mono (oz HB3).size)
 have s0:=Blk.new w4 #[.int .i64 n,.int .i64 p1,.int .i64 p2] 53
 have hb5:=hb4.alloc (.cells #[.int .i64 n,.int .i64 p1,.int .i64 p2] 53)
 have hB5:=hB4.alloc hB4.size (.cells #[.int .i64 n,.int .i64 p1,.int .i64 p2] 53)
 have x0:=s0.cell 0
 have x1:=s0.cell 1
 have x2:=s0.cell 2
 have f0:=hb5.frozen 0
 have f1:=hb5.frozen 1
 have f2:=hb5.frozen 2
 have k0:=hb5.cell 0
 have k1:=hb5.cell 1
 have k2:=hb5.cell 2
 have Hb5:=kz hb5
 have HB5:=kz hB5
 clear c1 hb hb4 hB4 s0 hb5 hB5 Hb3 HB3
 have hfin:∀ (W:World) (B5:Below w.heap.size w W) (hbk:Blk W w.heap.size #[.int .i64 0,.int .i64 0,.int .i64 0] 53),Blk (((W.setCell ⟨w.heap.size,0,none⟩ (.int .i64 n)).setCell ⟨w.heap.size,1,none⟩ (.int .i64 p1)).setCell ⟨w.heap.size,2,none⟩ (.int .i64 p2)) w.heap.size #[.int .i64 n,.int .i64 p1,.int .i64 p2] 53∧Below w.heap.size w (((W.setCell ⟨w.heap.size,0,none⟩ (.int .i64 n)).setCell ⟨w.heap.size,1,none⟩ (.int .i64 p1)).setCell ⟨w.heap.size,2,none⟩ (.int .i64 p2)):=fun W B5 hbk =>
  ⟨((hbk.set 0 _).set 1 _).set 2 _,((B5.setCell (p:=⟨w.heap.size,0,none⟩) (Nat.le_refl _) _).setCell (p:=⟨w.heap.size,1,none⟩) (Nat.le_refl _) _).setCell (p:=⟨w.heap.size,2,none⟩) (Nat.le_refl _) _⟩
 have HFIN:=kz hfin
 clear hfin
 by_cases hlt:n < s.size
 ·have hlt':(n:Int) < (s.size:Int):=by omega
  have hc:(if n < s.size then (20:Int) else 21)=20:=if_pos hlt
  have HCC:=kz hc
  clear hc hlt
  go_wp2_with fail
  go_region_with (fail)
  all_goals
   obtain ⟨q1,q2⟩:=oz HFIN _ (oz HB5) (oz Hb5)
   have q1':Blk ((((w4.alloc (.cells #[.int .i64 n,.int .i64 p1,.int .i64 p2] 53)).setCell ⟨w.heap.size,0,none⟩ (.int .i64 n)).setCell ⟨w.heap.size,1,none⟩ (.int .i64 p1)).setCell ⟨w.heap.size,2,none⟩ (.int .i64 p2)).drew w.heap.size #[.int .i64 n,.int .i64 p1,.int .i64 p2] 53:=q1
   have q2':=q2.drew
   have r0:=q1'.cell 0
   have r1:=q1'.cell 1
   have r2:=q1'.cell 2
   have HQ:=kz q2'
   clear q1 q2 q1' q2' x0 x1 x2 f0 f1 f2 k0 k1 k2
   generalize ((((w4.alloc (.cells #[.int .i64 n,.int .i64 p1,.int .i64 p2] 53)).setCell ⟨w.heap.size,0,none⟩ (.int .i64 n)).setCell ⟨w.heap.size,1,none⟩ (.int .i64 p1)).setCell ⟨w.heap.size,2,none⟩ (.int .i64 p2)).drew=W9 at *
   go_wp2_with fail
   exact bodyPost_ret (v := .tuple #[.slice none 0 0,.agg #[.int .i64 n,.int .i64 p1,.int .i64 p2],.int .i64 20]) (by simp [results,Tryz.results23,go_sem,r0,r1,r2]) rfl ⟨by first | rfl | rw [oz HCC],oz HQ⟩
 ·have hlt':¬ (n:Int) < (s.size:Int):=by omega
  have hc:(if n < s.size then (20:Int) else 21)=21:=if_neg hlt
  have HCC:=kz hc
  clear hc hlt
  go_wp2_with fail
  go_region_with (fail)
  all_goals
   obtain ⟨q1,q2⟩:=oz HFIN _ (oz HB5) (oz Hb5)
   have q1':Blk ((((w4.alloc (.cells #[.int .i64 n,.int .i64 p1,.int .i64 p2] 53)).setCell ⟨w.heap.size,0,none⟩ (.int .i64 n)).setCell ⟨w.heap.size,1,none⟩ (.int .i64 p1)).setCell ⟨w.heap.size,2,none⟩ (.int .i64 p2)).drew w.heap.size #[.int .i64 n,.int .i64 p1,.int .i64 p2] 53:=q1
   have q2':=q2.drew
   have r0:=q1'.cell 0
   have r1:=q1'.cell 1
   have r2:=q1'.cell 2
   have HQ:=kz q2'
   clear q1 q2 q1' q2' x0 x1 x2 f0 f1 f2 k0 k1 k2
   generalize ((((w4.alloc (.cells #[.int .i64 n,.int .i64 p1,.int .i64 p2] 53)).setCell ⟨w.heap.size,0,none⟩ (.int .i64 n)).setCell ⟨w.heap.size,1,none⟩ (.int .i64 p1)).setCell ⟨w.heap.size,2,none⟩ (.int .i64 p2)).drew=W9 at *
   go_wp2_with fail
   exact bodyPost_ret (v := .tuple #[.slice none 0 0,.agg #[.int .i64 n,.int .i64 p1,.int .i64 p2],.int .i64 21]) (by simp [results,Tryz.results23,go_sem,r0,r1,r2]) rfl ⟨by first | rfl | rw [oz HCC],oz HQ⟩
theorem clone_any (s:ByteArray) (w:World) (hs:s.size≤262144):Calls Tryz.prog 147 #[.string s] w fun e w' =>e=.returned (.string s)∧Below w.heap.size w w':=by
 have hc:=Any.stringslite_Clone layM316 s w (by omega)
 go_enter Tryz.func147,Tryz.ntmps147
 go_wp2_with fail
 refine (show Calls Tryz.prog 168 #[.string s] w _ from hc).mono ?_
 rintro e w' ⟨rfl,hb⟩
 go_wp2_with fail
 go_ret
 exact ⟨rfl,hb⟩
theorem zaS {W W':World} {row:Option Nat} (h:Below W.heap.size W W'):W.grownBy W' row:=⟨h.os,h.tape,h.output,h.size,fun i hi _ =>h.block i hi⟩
theorem RdE.none {W W':World} {R Tx g:Nat} {ws:List W8} {k:Nat} {bad:Option Rf} {eb el ec:Int} (h:RdE W R Tx g ws k bad eb el ec) (hg:W.grownBy W' none):RdE W' R Tx g ws k bad eb el ec:=by
 obtain ⟨a,c,v,hb,ha,hc,hv⟩:=h.rd.blk
 exact ⟨h.rd.upd (zgV hg) h.rd.kn a c v (hb.kept hg (by simp)) ha hc (hv.kept hg (fun F x _ =>by simp)),h.en.kept hg (by simp),h.ne⟩
theorem RuSt.more {W0 W W':World} {R Tx g lo:Nat} {ws:List W8} {k k2:Nat} {bad bad2:Option Rf} {eb el ec:Int} {vs:List Value} {ls:List Ln} {sv sp:Value} {ss:List (Int × Int)} {ps:List (Int × Int × Int)} (h:RuSt W0 W R Tx g lo ws k bad eb el ec vs ls) (hs:SpSt W W' R Tx g ws k2 bad2 eb el ec sv sp ss ps) :
  RuSt W0 W' R Tx g lo ws k2 bad2 eb el ec (vs++[sv]) (ls++[Ln.mk 73 2 ss.length (zap ss)]):=by
 have h2:=h.call hs.rd hs.gr
 refine ⟨h2.rd,h2.tb.more (zdk hs.os h.low) (fun j x hx =>?_),h2.fr,h2.low,h2.hR,h2.hgT,h2.hgl⟩
 obtain ⟨m,hm⟩:∃ m,ls[j]?=some m:=⟨_,List.getElem?_eq_getElem (by have:=(List.getElem?_eq_some_iff.1 hx).1;have:=h.tb.ll;omega)⟩
 cases hb:sv.ownBlock with
 | none =>exact .inl rfl
 | some b =>
  refine .inr fun e =>?_
  have h3:=zam hs.os b hb
  have h4:=zbE (h.tb.own j x m hx hm) b e.symm
  omega
theorem zff:(Tryz.prog.info? 71).map (fun i =>(i.zero,i.size,i.bytes))=some (some (.agg #[.string ⟨#[]⟩,.slice none 0 0]),2,40):=by kernel_rfl
theorem field_s (a:Int) (b:ByteArray) (c d e f g h:Int) (w:World):(Instr.field 147 (.agg #[.int .i64 a,.string b,.int .i32 c,.int .i64 d,.int .i64 e,.int .i64 f,.int .i64 g,.int .i64 h]) 1).run Tryz.prog w=.ok (.string b) w:=by kernel_rfl
structure Sr where
 nm:ByteArray
 sp:Sps
def zaU (ws:List W8) (k:Nat) (bad:Option Rf) (eb el ec:Int):Sr :=
 let a:=zaa ws k bad eb el ec 1
 ⟨a.x.S,zaf ws a.k a.bad eb el ec⟩
set_option maxRecDepth 100000 in
set_option maxHeartbeats 4000000 in
theorem zk7 (R Tx g lo:Nat) (ws:List W8) (k:Nat) (bad:Option Rf) (eb el ec fb fl fc:Int) (vs:List Value) (ls:List Ln) (n1 n2:Nat) (xs1 xs2:List Value) (hl1:ls[0]?=some ⟨71,2,n1,xs1⟩) (hl2:ls[9]?=some ⟨53,3,n2,xs2⟩) (hn1:n1≤1000000) (hn2:n2≤1000000) (hS:(zaU ws k bad eb el ec).nm.size≤262144) (W0 W:World) (h:RuSt W0 W R Tx g lo ws k bad eb el ec vs ls) :
  Calls Tryz.prog 111 #[.pointer (some ⟨R,0,none⟩),.agg #[.int .i64 fb,.int .i64 fl,.int .i64 fc]] W fun e w' =>(∃ r,e=.returned r)∧∃ sv va vb,RuSt W0 w' R Tx g lo ws (zaU ws k bad eb el ec).sp.k (zaU ws k bad eb el ec).sp.bad eb el ec (((vs++[sv]).set 0 va).set 9 vb) (((ls++[Ln.mk 73 2 (zaU ws k bad eb el ec).sp.ss.length (zap (zaU ws k bad eb el ec).sp.ss)]).set 0 (Ln.mk 71 2 (n1+1) (xs1++[.string (zaU ws k bad eb el ec).nm,sv]))).set 9 (Ln.mk 53 3 (n2+1) (xs2++[.int .i64 fb,.int .i64 fl,.int .i64 fc]))):=by
 have hNR:R < W.heap.size:=Nat.lt_of_lt_of_le h.hR h.low
 have HLo:=kz h.low
 have HV:Hz (zaU ws k bad eb el ec=⟨(zaa ws k bad eb el ec 1).x.S,zaf ws (zaa ws k bad eb el ec 1).k (zaa ws k bad eb el ec 1).bad eb el ec⟩):=kz rfl
 have HS:=kz hS
 clear hS
 generalize zaU ws k bad eb el ec=V at *
 obtain ⟨nm,V⟩:=V
 obtain ⟨im,him,hm0,hm1,hm2⟩:=info_parts zff
 have HIM:=kz (And.intro him (And.intro hm0 (And.intro hm1 hm2)))
 clear him hm0 hm1 hm2
 have hmx:Tryz.prog.follows .mixedOrders=true:=by kernel_rfl
 have H:=kz (h.alloc (.cells #[.int .i64 fb,.int .i64 fl,.int .i64 fc] 53))
 have HX:=kz (Blk.new W #[.int .i64 fb,.int .i64 fl,.int .i64 fc] 53)
 clear h
 go_enter Tryz.func111,Tryz.ntmps111
 go_wp2_with fail
 generalize W.alloc (.cells #[.int .i64 fb,.int .i64 fl,.int .i64 fc] 53)=WA at *
 generalize W.heap.size=N at *
 refine (zbS R Tx g ws k bad eb el ec 1 WA (oz H).rd).mono ?_
 rintro e w1 ⟨rfl,hR1,hg1⟩
 have H1:=kz ((oz H).call hR1 hg1)
 have HX1:=kz ((oz HX).kept hg1 (fun e =>by have:=Option.some.inj e;omega))
 clear hR1 hg1 H HX
 generalize zaa ws k bad eb el ec 1=A at *
 obtain ⟨⟨ak,aS,ar,an,ab,al,ac,ae⟩,k1,bad1⟩:=A
 dsimp only at H1 HV
 obtain ⟨rfl,hV2⟩:nm=aS∧V=zaf ws k1 bad1 eb el ec:=by have:=oz HV;injection this with a b;exact ⟨a,b⟩
 have HSP:=kz (fun (w:World) =>zhn R Tx g ws k1 bad1 eb el ec V hV2.symm w)
 have HSZ:Hz (nm.size≤262144):=HS
 clear hV2 HV HS
 unfold wV
 dsimp only
 have hf:=field_s ak nm ar an ab al ac ae
 have HC:=kz (clone_any nm w1 (oz HSZ))
 go_wp2_with fail
 refine (oz HC).mono ?_
 rintro e w2 ⟨rfl,hb2⟩
 have hg2:w1.grownBy w2 none:=zaS hb2
 have H2:=kz ((oz H1).call ((oz H1).rd.none hg2) (zgV hg2))
 have HX2:=kz ((oz HX1).kept hg2 (by simp))
 clear hb2 hg2 H1 HX1 hf HC
 go_wp2_with fail
 refine (oz HSP w2 (oz H2).rd).mono ?_
 rintro e w3 ⟨sv,sp,rfl,hst⟩
 obtain ⟨ss,ps,k3,bad3⟩:=V
 dsimp only at hst
 dsimp only
 have H3:=kz ((oz H2).more hst)
 have HX3:=kz ((oz HX2).kept hst.gr (fun e =>by have:=Option.some.inj e;omega))
 obtain ⟨sa,sc,rfl⟩:=zab hst.os
 clear hst H2 HX2 HSP
 have hl1':(ls++[Ln.mk 73 2 ss.length (zap ss)])[0]?=some ⟨71,2,n1,xs1⟩:=by rw [List.getElem?_append_left (List.getElem?_eq_some_iff.1 hl1).1];exact hl1
 have hl2':(ls++[Ln.mk 73 2 ss.length (zap ss)])[9]?=some ⟨53,3,n2,xs2⟩:=by rw [List.getElem?_append_left (List.getElem?_eq_some_iff.1 hl2).1];exact hl2
 obtain ⟨lt,hlt0⟩:∃ lt,lt=ls++[Ln.mk 73 2 ss.length (zap ss)]:=⟨_,rfl⟩
 rw [← hlt0] at H3 hl1' hl2'
 have HLT:=kz hlt0
 clear hlt0
 obtain ⟨vt,hvt⟩:∃ vt,vt=vs++[Value.slice sa ss.length sc]:=⟨_,rfl⟩
 rw [← hvt] at H3
 have HVT:=kz hvt
 clear hvt
 go_wp2_with fail
 obtain ⟨v,hv⟩:∃ v,vt[0]?=some v:=⟨_,List.getElem?_eq_getElem (by have:=(oz H3).tb.lv;omega)⟩
 have how:=(oz H3).tb.own _ _ _ hv hl1'
 obtain ⟨va,vc,rfl⟩:=zab how
 have hg0:∀ b,Value.ownBlock (.slice va n1 vc)=some b→lo≤b:=zam how
 obtain ⟨ra,rc,rv,hrb,_,_,_⟩:=(oz H3).rd.rd.blk
 have c1:w3.cell? ⟨R,1,none⟩=some (.pointer (some ⟨Tx,0,none⟩)):=hrb.cell 1
 have t0:=(oz H3).tb.cell (by omega) hv
 have hTl:=(oz H3).tb.lt
 have hRl:=(oz H3).hR
 have hl3:=(oz H3).low
 have hltR:R < w3.heap.size:=by omega
 have hltT:Tx < w3.heap.size:=by omega
 have ca1:=(hrb.alloc (.cells #[.string nm,.slice sa ss.length sc] 71)).cell 1
 have ta:=((oz H3).tb.kept (R:=R) hRl (oz H3).rd.ne (World.grownBy_alloc w3 (.cells #[.string nm,.slice sa ss.length sc] 71) _))
 have t1:=ta.cell (by omega) hv
 have hNx:some N≠Value.ownBlock (.slice va n1 vc):=zbK (oz HX3) how (show (71:Nat)≠53 by decide)
 clear hrb
 go_region_law (refine step_append_lies _ (by rfl) _ _ _ (by rfl) lo 71 im (.agg #[.string ⟨#[]⟩,.slice none 0 0]) 2 40 Tryz.underlying27 (oz HIM).1 (oz HIM).2.1 (oz HIM).2.2.1 (oz HIM).2.2.2 rfl (by omega) _ n1 xs1 (by rfl) (how.alloc _).drew ⟨w3.heap.size,0,none⟩ 1 1 [.string nm,.slice sa ss.length sc] (by rfl) (by rfl) (World.news_of_block (cs:=#[.string nm,.slice sa ss.length sc]) (t:=71) (fr:=(0,0)) (heap_alloc_new w3 _)) (by simp [Value.oneCell']) (by omega) (by unfold maxLen;omega) (by omega) (by simp;omega) (w3.heap.size+1) (by simp) ?_;intro gg cap w4 hown1 hgrow hatt hlt;have q1:w4.cell? ⟨Tx,0,none⟩=some (.slice va n1 vc):=hgrow.cell (a:=⟨Tx,0,none⟩) t1 (by show some Tx≠Value.ownBlock (.slice va n1 vc);intro e;have:=hg0 Tx e.symm;omega);have q2:w4.frozen? ⟨Tx,0,none⟩=false:=(Blk.kept (W:=(w3.alloc _).drew) ta.blk hgrow (fun e =>by have:=hg0 Tx e.symm;omega)).frozen 0;have q3:w4.cell? ⟨R,1,none⟩=some (.pointer (some ⟨Tx,0,none⟩)):=hgrow.cell (a:=⟨R,1,none⟩) ca1 (by show some R≠Value.ownBlock (.slice va n1 vc);intro e;have:=hg0 R e.symm;omega))
 all_goals
  have H4:=kz (((oz H3).alloc (.cells #[.string nm,.slice sa ss.length sc] 71)).put (W1:=w4) (by omega) hv hl1' (show (71:Nat)≠80 by decide) hown1 ⟨hgrow.os,hgrow.tape,hgrow.output,hgrow.size,hgrow.block⟩ (by rcases hatt with e | e;exact .inl e.symm;exact .inr (by rw [e];simp [Value.ownBlock])))
  have hx5:=(Blk.kept (W:=(w3.alloc (.cells #[.string nm,.slice sa ss.length sc] 71)).drew) ((oz HX3).alloc _) hgrow hNx).kept (zad w4 Tx 0 (.slice (some ⟨gg,0,none⟩) (n1+1) cap)) (fun e =>by have:=Option.some.inj e;have:=oz HLo;omega)
  clear hgrow hown1 hatt hlt q1 q2 q3 H3 HX3 how c1 t0 ca1 ta t1
  generalize w4.setCell ⟨Tx,0,none⟩ (.slice (some ⟨gg,0,none⟩) (n1+1) cap)=w5 at *
  have x0:=hx5.cell 0
  have x1:=hx5.cell 1
  have x2:=hx5.cell 2
  clear hx5
  have HP:=kz (Blk.new w5 #[.int .i64 fb,.int .i64 fl,.int .i64 fc] 53)
  go_wp2_with fail
  refine (zdX W0 R Tx g lo ws k3 bad3 eb el ec _ _ 1 (by omega) n2 xs2 (by rw [List.getElem?_set_ne (by decide)];exact hl2') _ 1 1 [.int .i64 fb,.int .i64 fl,.int .i64 fc] (by omega) _ ((oz H4).alloc _) (.inr ⟨_,rfl,by decide,rfl,World.news_of_block (cs:=#[.int .i64 fb,.int .i64 fl,.int .i64 fc]) (t:=53) (fr:=(0,0)) (heap_alloc_new w5 _),by simp [Value.oneCell']⟩)).mono ?_
  rintro e w6 ⟨⟨r,rfl⟩,vb,hfin⟩
  go_wp2_with fail
  go_end0
  exact ⟨⟨_,rfl⟩,.slice sa ss.length sc,_,vb,by rw [← oz HVT, ← oz HLT];exact hfin⟩
structure Mp where
 fr:Int
 tw:List Int
 k:Nat
 bad:Option Rf
structure Mg where
 l:List Int
 k:Nat
 bad:Option Rf
def zcP (ws:List W8) (eb el ec:Int):Nat→Nat→Option Rf→Mg
 | 0,k,bad =>⟨[],k,bad⟩
 | f+1,k,bad =>if zaJ ws k bad 3 then
   let s:=zaa ws k bad eb el ec 3
   let r:=zcP ws eb el ec f s.k s.bad
   ⟨s.x.r::r.l,r.k,r.bad⟩
  else ⟨[],k,bad⟩
def zcc (ws:List W8) (k:Nat) (bad:Option Rf) (eb el ec:Int):Mp :=
 let a:=zaa ws k bad eb el ec 3
 let b:=zaa ws a.k a.bad eb el ec 7
 let c:=zaa ws b.k b.bad eb el ec 3
 let r:=zcP ws eb el ec (ws.length+1) c.k c.bad
 let z:=zaa ws r.k r.bad eb el ec 6
 ⟨a.x.r,c.x.r::r.l,z.k,z.bad⟩
structure MgSt (ws:List W8) (eb el ec:Int) (T:Mg) (f k:Nat) (bad:Option Rf) (l:List Int):Prop where
 eq:T=⟨l++(zcP ws eb el ec f k bad).l,(zcP ws eb el ec f k bad).k,(zcP ws eb el ec f k bad).bad⟩
 fu:ws.length - k < f
 le:k≤ws.length
 len:l.length≤k+1
theorem MgSt.stop {ws:List W8} {eb el ec:Int} {T:Mg} {f k:Nat} {bad:Option Rf} {l:List Int} (h:MgSt ws eb el ec T f k bad l) (hs:zaJ ws k bad 3=false):T=⟨l,k,bad⟩:=by
 obtain ⟨g,rfl⟩:∃ g,f=g+1:=⟨f - 1,by have:=h.fu;omega⟩
 have e:=h.eq
 unfold zcP at e
 rw [if_neg (by rw [hs];decide)] at e
 rw [e]
 simp
theorem MgSt.next {ws:List W8} {eb el ec:Int} {T:Mg} {f k:Nat} {bad:Option Rf} {l:List Int} (h:MgSt ws eb el ec T f k bad l) (hs:zaJ ws k bad 3=true):∃ f',MgSt ws eb el ec T f' (zaa ws k bad eb el ec 3).k (zaa ws k bad eb el ec 3).bad (l++[(zaa ws k bad eb el ec 3).x.r]):=by
 obtain ⟨g,rfl⟩:∃ g,f=g+1:=⟨f - 1,by have:=h.fu;omega⟩
 have hl:=zhX eb el ec hs
 obtain ⟨x,hx,hk,_⟩:=zbl hs
 have e:=h.eq
 unfold zcP at e
 rw [if_pos hs] at e
 have h1:=h.fu
 have h2:=h.len
 refine ⟨g,by rw [e];simp,by omega,by omega,by rw [List.length_append,List.length_singleton];omega⟩
def zgs (l:List Int):List Value:=l.map (Value.int .i32)
structure MpSt (W W':World) (R Tx g:Nat) (ws:List W8) (k:Nat) (bad:Option Rf) (eb el ec:Int) (v:Value) (l:List Int):Prop where
 rd:RdE W' R Tx g ws k bad eb el ec
 own:W'.ownsRow (W.heap.size+1) 21 1 v l.length (zgs l)
 gr:W.grownBy W' (some R)
 box:Blk W' W.heap.size #[.int .i32 0,.string ⟨#[]⟩] 75
 hR:R < W.heap.size
 hT:Tx < W.heap.size
 hg:∀ (j:Nat) (y:W8),ws[j]?=some y→g < W.heap.size
 sz:W.heap.size+1≤W'.heap.size
theorem MpSt.call {W W1 W2:World} {R Tx g:Nat} {ws:List W8} {k k2:Nat} {bad bad2:Option Rf} {eb el ec:Int} {v:Value} {l:List Int} (h:MpSt W W1 R Tx g ws k bad eb el ec v l) (h2:RdE W2 R Tx g ws k2 bad2 eb el ec) (hg:W1.grownBy W2 (some R)):MpSt W W2 R Tx g ws k2 bad2 eb el ec v l :=
 ⟨h2,zat h.own hg (.inr fun e =>by have:=zam h.own R e;have:=h.hR;omega),zai h.gr hg,h.box.kept hg (fun e =>by have:=Option.some.inj e;have:=h.hR;omega),h.hR,h.hT,h.hg,Nat.le_trans h.sz hg.size⟩
theorem MpSt.alloc {W W1:World} {R Tx g:Nat} {ws:List W8} {k:Nat} {bad:Option Rf} {eb el ec:Int} {v:Value} {l:List Int} (h:MpSt W W1 R Tx g ws k bad eb el ec v l) (o:Obj):MpSt W (W1.alloc o) R Tx g ws k bad eb el ec v l:=h.call (h.rd.alloc o) (World.grownBy_alloc W1 o _)
theorem MpSt.more {W W1 W2:World} {R Tx g:Nat} {ws:List W8} {k:Nat} {bad:Option Rf} {eb el ec:Int} {v v':Value} {l:List Int} {a:Int} (h:MpSt W W1 R Tx g ws k bad eb el ec v l) (ho:W2.ownsRow (W.heap.size+1) 21 1 v' (l.length+1) (zgs l++[.int .i32 a])) (hg:W1.grownBy W2 v.ownBlock):MpSt W W2 R Tx g ws k bad eb el ec v' (l++[a]) :=
 ⟨h.rd.own h.own (by decide) (by have:=h.hR;omega) (by have:=h.hT;omega) (fun j y hy =>by have:=h.hg j y hy;omega) hg,by unfold zgs at ho ⊢;rw [List.map_append,List.length_append];exact ho,zeR h.gr (fun k e =>by have:=zam h.own k e;omega) hg,h.box.kept hg (zbK h.box h.own (by decide)),h.hR,h.hT,h.hg,Nat.le_trans h.sz hg.size⟩
theorem zjE:(Tryz.prog.info? 21).map (fun i =>(i.zero,i.size,i.bytes))=some (some (.int .i32 0),1,4):=by kernel_rfl
theorem MpSt.conv {W W1:World} {R Tx g:Nat} {ws:List W8} {k:Nat} {bad:Option Rf} {eb el ec:Int} {v:Value} {l:List Int} (h:MpSt W W1 R Tx g ws k bad eb el ec v l) (hl:0 < l.length):∃ G c,v=.slice (some ⟨G,0,none⟩) l.length c∧∀ j,j < l.length→W1.cell? ((⟨G,0,none⟩:Addr).add j)=some (.int .i32 (l.getD j 0)):=by
 rcases zbc h.own (fun e =>by omega) with ⟨_,h1,_⟩ | ⟨G,c,rfl,_,_,_,hx⟩
 ·omega
 ·refine ⟨G,c,rfl,fun j hj =>hx j _ ?_⟩
  unfold zgs
  rw [List.getElem?_map,List.getD_eq_getElem?_getD,List.getElem?_eq_getElem hj]
  rfl
theorem MpSt.fin {W W1:World} {R Tx g:Nat} {ws:List W8} {k:Nat} {bad:Option Rf} {eb el ec:Int} {v:Value} {l:List Int} (h:MpSt W W1 R Tx g ws k bad eb el ec v l) (u x:Value) :
  RdE ((W1.setCell ⟨W.heap.size,0,none⟩ u).setCell ⟨W.heap.size,1,none⟩ x) R Tx g ws k bad eb el ec∧W.grownBy ((W1.setCell ⟨W.heap.size,0,none⟩ u).setCell ⟨W.heap.size,1,none⟩ x) (some R)∧Blk ((W1.setCell ⟨W.heap.size,0,none⟩ u).setCell ⟨W.heap.size,1,none⟩ x) W.heap.size #[u,x] 75:=by
 have hR:=h.hR
 have hT:=h.hT
 have hg:=h.gr
 have q:W1.grownBy ((W1.setCell ⟨W.heap.size,0,none⟩ u).setCell ⟨W.heap.size,1,none⟩ x) (some W.heap.size):=zai (zad W1 W.heap.size 0 u) (zad _ W.heap.size 1 x)
 refine ⟨⟨h.rd.rd.far q (by omega) (fun j y hy =>by have:=h.hg j y hy;omega) (fun F y hy e =>by subst e;have:=zb9 hy h.box;revert this;decide),h.rd.en.kept q (fun e =>by have:=Option.some.inj e;omega),h.rd.ne⟩,⟨q.os.trans hg.os,q.tape.trans hg.tape,q.output.trans hg.output,Nat.le_trans hg.size q.size,fun i hi hn =>(q.block i (by have:=hg.size;omega) (fun e =>by injection e;omega)).trans (hg.block i hi hn)⟩,(h.box.set 0 u).set 1 x⟩
set_option maxRecDepth 100000 in
set_option maxHeartbeats 4000000 in
theorem zjz (R Tx g:Nat) (ws:List W8) (k:Nat) (bad:Option Rf) (eb el ec:Int) (W:World) (h:RdE W R Tx g ws k bad eb el ec) :
  Calls Tryz.prog 150 #[.pointer (some ⟨R,0,none⟩)] W fun e w' =>e=.returned (.agg #[.int .i32 (zcc ws k bad eb el ec).fr,.string (runesBytes (zcc ws k bad eb el ec).tw)])∧RdE w' R Tx g ws (zcc ws k bad eb el ec).k (zcc ws k bad eb el ec).bad eb el ec∧W.grownBy w' (some R):=by
 have hRW:R < W.heap.size:=by obtain ⟨a,c,v,hb,_⟩:=h.rd.blk;exact hb.lt
 have hTW:Tx < W.heap.size:=zdF h.en.c0
 have hgl:=h.rd.glt
 have hkn:=h.rd.kn
 have hnm:=h.rd.nmax
 have h0:MpSt W (W.alloc (.cells #[.int .i32 0,.string ⟨#[]⟩] 75)) R Tx g ws k bad eb el ec (.slice none 0 0) []:=⟨h.alloc _,World.ownsRow_nil _ _ _ _,World.grownBy_alloc W _ _,Blk.new W _ _,hRW,hTW,hgl,by simp⟩
 have H:=kz h0
 obtain ⟨ii,hii,hi0,hi1,hi2⟩:=info_parts zjE
 have HII:=kz (And.intro hii (And.intro hi0 (And.intro hi1 hi2)))
 clear hii hi0 hi1 hi2 h0 h hgl
 have HT1:=kz (zaM ws k bad eb el ec 3 hkn)
 obtain ⟨T1,hT1⟩:∃ T,T=zaa ws k bad eb el ec 3:=⟨_,rfl⟩
 have HT2:=kz (zaM ws T1.k T1.bad eb el ec 7 (by rw [hT1];exact (oz HT1).2))
 obtain ⟨T2,hT2⟩:∃ T,T=zaa ws T1.k T1.bad eb el ec 7:=⟨_,rfl⟩
 have HT3:=kz (zaM ws T2.k T2.bad eb el ec 3 (by rw [hT2];exact (oz HT2).2))
 obtain ⟨T3,hT3⟩:∃ T,T=zaa ws T2.k T2.bad eb el ec 3:=⟨_,rfl⟩
 obtain ⟨G0,hG0⟩:∃ G,G=zcP ws eb el ec (ws.length+1) T3.k T3.bad:=⟨_,rfl⟩
 have HV:Hz (zcc ws k bad eb el ec=⟨T1.x.r,T3.x.r::G0.l,(zaa ws G0.k G0.bad eb el ec 6).k,(zaa ws G0.k G0.bad eb el ec 6).bad⟩):=kz (by rw [hG0,hT3,hT2,hT1];rfl)
 have HG0:=kz hG0
 have HK3:Hz (T3.k≤ws.length):=kz (by rw [hT3];exact (oz HT3).2)
 clear HT1 HT2 HT3 hG0
 have E1:=kz hT1
 have E2:=kz hT2
 have E3:=kz hT3
 clear hT1 hT2 hT3
 generalize zcc ws k bad eb el ec=V at *
 obtain ⟨⟨ak,aS,ar,an,ab,al,ac,ae⟩,k1,bad1⟩:=T1
 obtain ⟨bx,k2,bad2⟩:=T2
 obtain ⟨⟨ck,cS,cr,cn,cb,cl,cc,ce⟩,k3,bad3⟩:=T3
 dsimp only at E2 E3 HG0 HV HK3
 go_enter Tryz.func150,Tryz.ntmps150
 go_wp2_with fail
 have HA:=kz (zbS R Tx g ws k bad eb el ec 3 _ (oz H).rd)
 rw [← oz E1] at HA
 dsimp only at HA
 unfold wV at HA
 dsimp only at HA
 generalize W.alloc (.cells #[.int .i32 0,.string ⟨#[]⟩] 75)=WA at *
 refine (oz HA).mono ?_
 rintro e w1 ⟨rfl,hR1,hg1⟩
 have H1:=kz ((oz H).call hR1 hg1)
 clear hR1 hg1 H HA
 have hf:=zdA ak aS ar an ab al ac ae
 have HA:=kz (zbS R Tx g ws k1 bad1 eb el ec 7 w1 (oz H1).rd)
 rw [← oz E2] at HA
 dsimp only at HA
 go_wp2_with fail
 refine (oz HA).mono ?_
 rintro e w2 ⟨rfl,hR2,hg2⟩
 have H2:=kz ((oz H1).call hR2 hg2)
 clear hR2 hg2 H1 HA hf
 generalize wV bx=vbx
 have HA:=kz (zbS R Tx g ws k2 bad2 eb el ec 3 w2 (oz H2).rd)
 rw [← oz E3] at HA
 dsimp only at HA
 unfold wV at HA
 dsimp only at HA
 go_wp2_with fail
 refine (oz HA).mono ?_
 rintro e w3 ⟨rfl,hR3,hg3⟩
 have H3:=kz ((oz H2).call hR3 hg3)
 clear hR3 hg3 H2 HA
 have hf:=zdA ck cS cr cn cb cl cc ce
 go_wp2_with fail
 have hsz3:=(oz H3).sz
 have H4:Hz (MpSt W (w3.alloc (.cells #[.int .i32 cr] 21)) R Tx g ws k3 bad3 eb el ec (.slice (some ⟨w3.heap.size,0,none⟩) 1 1) [cr]):=kz (by
  have h4:=(oz H3).alloc (.cells #[.int .i32 cr] 21)
  refine ⟨h4.rd,⟨rfl,.inr ⟨w3.heap.size,1,#[.int .i32 cr],rfl,hsz3,heap_alloc_new w3 _,by simp,by decide,rfl,rfl⟩⟩,h4.gr,h4.box,h4.hR,h4.hT,h4.hg,h4.sz⟩)
 obtain ⟨GT,hGT⟩:∃ GT:Mg,GT=⟨cr::G0.l,G0.k,G0.bad⟩:=⟨_,rfl⟩
 have HG4:Hz (MgSt ws eb el ec GT (ws.length+1) k3 bad3 [cr]):=kz (by
  exact ⟨by rw [hGT,oz HG0];rfl,by omega,oz HK3,by simp⟩)
 go_loopw [4] (fun v wr => ∃ (f k5:Nat) (bad5:Option Rf) (l:List Int),Hz (MgSt ws eb el ec GT f k5 bad5 l)∧Hz (MpSt W wr R Tx g ws k5 bad5 eb el ec v l)∧Hz (0 < l.length))
  (fun v _ =>ws.length+1 - slLen v)
 case atStart =>exact ⟨_,k3,bad3,[cr],HG4,H4,kz (by simp)⟩
 case round =>
  obtain ⟨f,k5,bad5,l,HG,HS,HL0⟩:=hrel
  clear HG4 H4 H3 hf
  have HSE:=kz (zfI R Tx g ws k5 bad5 3 wr (oz HS).rd.rd)
  cases hs:zaJ ws k5 bad5 3 with
  | false =>
   rw [hs] at HSE
   have HTE:=kz ((oz HG).stop hs)
   clear hs HG
   go_wp2_with fail
   refine (oz HSE).mono ?_
   rintro e w5 ⟨rfl,hw5⟩
   rw [hw5]
   clear hw5 HSE
   go_wp2_with fail
   refine (zbS R Tx g ws k5 bad5 eb el ec 6 wr (oz HS).rd).mono ?_
   rintro e w6 ⟨rfl,hR6,hg6⟩
   have HF:=kz ((oz HS).call hR6 hg6)
   clear hR6 hg6
   generalize wV (zaa ws k5 bad5 eb el ec 6).x=vz
   obtain ⟨Gt,ct,rfl,hcells⟩:=(oz HF).conv (oz HL0)
   have hconv:=run_convert_runes (P:=Tryz.prog) w6 57 9 21 ⟨Gt,0,none⟩ l.length ct l (Nat.le_refl _) Tryz.underlying57 Tryz.underlying21 Tryz.underlying9 hcells
   rw [List.take_length] at hconv
   have hfin:=(oz HF).fin (.int .i32 ar) (.string (runesBytes l))
   have b0:=(oz HF).box.cell 0
   have b1:=(oz HF).box.cell 1
   have f0:=(oz HF).box.frozen 0
   have f1:=(oz HF).box.frozen 1
   have r0:=hfin.2.2.cell 0
   have r1:=hfin.2.2.cell 1
   have HFIN:=kz (And.intro hfin.1 hfin.2.1)
   clear hfin hcells HS
   go_wp2_with fail
   have hV:V=⟨ar,l,(zaa ws k5 bad5 eb el ec 6).k,(zaa ws k5 bad5 eb el ec 6).bad⟩:=by
    have e1:=oz HV
    have e2:=(oz HTE).symm.trans hGT
    injection e2 with a1 a2 a3
    rw [e1,a1,a2,a3]
   rw [hV]
   exact bodyPost_ret (v := .agg #[.int .i32 ar,.string (runesBytes l)]) (by simp [results,Tryz.results150,go_sem,r0,r1]) rfl ⟨rfl,(oz HFIN).1,(oz HFIN).2⟩
  | true =>
   rw [hs] at HSE
   obtain ⟨x,hx,hlt,hbad⟩:=zbl hs
   obtain ⟨f',hnext⟩:=(oz HG).next hs
   have hls:l.length≤1000000:=by have:=(oz HG).len;omega
   have hme:l.length < ws.length+1:=by have:=(oz HG).len;omega
   have HNX:=kz hnext
   have HME:=kz hme
   have HTK:=kz (zbS R Tx g ws k5 bad5 eb el ec 3 wr (oz HS).rd)
   clear hx hlt hbad hs hnext HG hme
   generalize zaa ws k5 bad5 eb el ec 3=SV at *
   obtain ⟨⟨dk,dS,dr,dn,db,dl,dc,de⟩,k6,bad6⟩:=SV
   dsimp only at HTK HNX
   unfold wV at HTK
   dsimp only at HTK
   have hfd:=zdA dk dS dr dn db dl dc de
   go_wp2_with fail
   refine (oz HSE).mono ?_
   rintro e w5 ⟨rfl,hw5⟩
   rw [hw5]
   clear hw5 HSE
   go_wp2_with fail
   refine (oz HTK).mono ?_
   rintro e w6 ⟨rfl,hR6,hg6⟩
   have HS6:=kz ((oz HS).call hR6 hg6)
   have hsz6:=(oz HS6).sz
   clear hR6 hg6 HS HTK
   go_wp2_with (at_builtin;refine zdH rfl _ _ 57 21 rfl ii (.int .i32 0) 1 4 Tryz.underlying57 (oz HII) rfl (by decide) (by decide) (W.heap.size+1) _ l.length (zgs l) [.int .i32 dr] rfl rfl (by omega) w6 rfl (by intro u hu;simp at hu;rw [hu];rfl) (oz HS6).own hsz6 _ rfl rfl ?_)
   intro v' w7 hown hgrow
   have HS7:=kz (((oz HS6).alloc _).more hown hgrow)
   have HL1:=kz (zdY (oz HS6).own)
   have HL2:=kz (zdY hown)
   clear hown hgrow HS6
   go_wp2_with fail
   go_roundw
   case rel =>exact ⟨f',k6,bad6,_,HNX,HS7,kz (by simp)⟩
   case measure =>have:=oz HL1;have:=oz HL2;have:=oz HME;omega
end Go.Proofs.YtmdgejgokoadlaaGreatDoor
