/- Texts of this claim, one behind the other. -/
import Derived.Test.YtmdgejgokoadlaaGreatDoorM6
import Derived.Test.YtmdgejgokoadlaaGreatDoorM1
import Derived.ScopeJumps
import Derived.WalkMore
import Derived.Test.YtmdgejgokoadlaaGreatDoorM4
import Derived.Deep.RegionWith
import Derived.Deep.RegionLaw
import Derived.Deep.AppendLies
import Derived.OwnWalk
/- The reader of rules: common, drop, allow. -/
namespace Go.Proofs.YtmdgejgokoadlaaGreatDoor
open Go.RowKit Go.Shelf
set_option linter.unusedVariables false
theorem zbp (t:List (Int × Int)):(zap t).length=t.length*2:=by
 induction t with
 | nil =>rfl
 | cons x t ih =>show (zap t).length+1+1=(t.length+1)*2;omega
theorem ziT (t:List (Int × Int × Int)):(za6 t).length=t.length*3:=by
 induction t with
 | nil =>rfl
 | cons x t ih =>show (za6 t).length+1+1+1=(t.length+1)*3;omega
theorem zbU (t:List (Int × Int)):∀ u ∈ zap t,u.oneCell'=true:=by
 induction t with
 | nil =>intro u hu;cases hu
 | cons x t ih =>
  intro u hu
  rcases List.mem_cons.1 hu with rfl | hu
  ·rfl
  ·rcases List.mem_cons.1 hu with rfl | hu
   ·rfl
   ·exact ih u hu
theorem encA3_one (t:List (Int × Int × Int)):∀ u ∈ za6 t,u.oneCell'=true:=by
 induction t with
 | nil =>intro u hu;cases hu
 | cons x t ih =>
  intro u hu
  rcases List.mem_cons.1 hu with rfl | hu
  ·rfl
  ·rcases List.mem_cons.1 hu with rfl | hu
   ·rfl
   ·rcases List.mem_cons.1 hu with rfl | hu
    ·rfl
    ·exact ih u hu
theorem zbc {W:World} {lo E sz n:Nat} {v:Value} {xs:List Value} (h:W.ownsRow lo E sz v n xs) (h0:n=0→v=.slice none 0 0):(v=.slice none 0 0∧n=0∧xs=[])∨∃ g c,v=.slice (some ⟨g,0,none⟩) n c∧0 < n∧lo≤g∧n≤c∧∀ j u,xs[j]?=some u→W.cell? ((⟨g,0,none⟩:Addr).add j)=some u:=by
 by_cases hn:n=0
 ·subst hn
  exact .inl ⟨h0 rfl,rfl,by have:=h.1;rw [Nat.zero_mul] at this;exact List.length_eq_zero_iff.1 this⟩
 ·rcases h.2 with ⟨_,h2⟩ | ⟨g,cap,cur,rfl,hl,hg,hc,_,hcs,hx⟩
  ·exact absurd h2 hn
  ·refine .inr ⟨g,cap,rfl,by omega,hl,hc,fun j u hu =>?_⟩
   have hj:=(List.getElem?_eq_some_iff.1 hu).1
   rw [h.1] at hj
   rw [← hx,List.getElem?_take_of_lt hj] at hu
   have ea:(⟨g,0,none⟩:Addr).add j=⟨g,j,none⟩:=by cases j <;> simp [Addr.add]
   rw [ea]
   have b:Blk W g cur E:=hg
   rw [b.cell j, ← hu,Array.getElem?_toList]
theorem own_pl {W:World} {lo:Nat} {v:Value} {ps:List (Int × Int × Int)} (h:W.ownsRow lo 53 3 v ps.length (za6 ps)) (h0:ps=[]→v=.slice none 0 0):∃ a c,v=.slice a ps.length c∧Pl W a ps.length c (za6 ps):=by
 rcases zbc h (fun e =>h0 (List.length_eq_zero_iff.1 e)) with ⟨rfl,h1,h2⟩ | ⟨g,c,rfl,h1,_,_,h2⟩
 ·exact ⟨none,0,by rw [h1],.inl ⟨rfl,h1,rfl,h2⟩⟩
 ·exact ⟨_,c,rfl,.inr ⟨_,rfl,h1,ziT ps,h2,encA3_one ps⟩⟩
theorem zi9 (ws:List W8) (eb el ec:Int) (f k:Nat) (bad:Option Rf) (hk:k≤ws.length):(zaT ws eb el ec f k bad).ss.length+k≤(zaT ws eb el ec f k bad).k∧(zaT ws eb el ec f k bad).ps.length=(zaT ws eb el ec f k bad).ss.length∧(zaT ws eb el ec f k bad).k≤ws.length:=by
 induction f generalizing k bad with
 | zero =>exact ⟨by show 0+k≤k;omega,rfl,hk⟩
 | succ f ih =>
  unfold zaT
  by_cases hs:zaJ ws k bad 3=true
  ·rw [if_pos hs]
   have h1:=zj4 eb el ec hs
   have h2:=ih (zbs ws k bad eb el ec).k (zbs ws k bad eb el ec).bad h1.2
   dsimp only
   refine ⟨?_,by rw [List.length_cons,List.length_cons,h2.2.1],h2.2.2⟩
   rw [List.length_cons];omega
  ·rw [if_neg hs]
   exact ⟨by show 0+k≤k;omega,rfl,hk⟩
theorem zbX (ws:List W8) (eb el ec:Int) (k:Nat) (bad:Option Rf) (hk:k≤ws.length):(zaf ws k bad eb el ec).ss.length+k≤(zaf ws k bad eb el ec).k∧(zaf ws k bad eb el ec).ps.length=(zaf ws k bad eb el ec).ss.length∧(zaf ws k bad eb el ec).k≤ws.length:=by
 unfold zaf
 dsimp only
 have h1:=zaM ws k bad eb el ec 4 hk
 have h2:=zi9 ws eb el ec (ws.length+1) (zaa ws k bad eb el ec 4).k (zaa ws k bad eb el ec 4).bad h1.2
 have h3:=zaM ws (zaT ws eb el ec (ws.length+1) (zaa ws k bad eb el ec 4).k (zaa ws k bad eb el ec 4).bad).k (zaT ws eb el ec (ws.length+1) (zaa ws k bad eb el ec 4).k (zaa ws k bad eb el ec 4).bad).bad eb el ec 5 h2.2.2
 exact ⟨by omega,h2.2.1,h3.2⟩
theorem zhn (R Tx g:Nat) (ws:List W8) (k:Nat) (bad:Option Rf) (eb el ec:Int) (V:Sps) (he:zaf ws k bad eb el ec=V) (W:World) (h:RdE W R Tx g ws k bad eb el ec) :
  Calls Tryz.prog 148 #[.pointer (some ⟨R,0,none⟩)] W fun e w' => ∃ vs vp,e=.returned (.tuple #[vs,vp])∧SpSt W w' R Tx g ws V.k V.bad eb el ec vs vp V.ss V.ps:=by
 subst he
 exact spans_any R Tx g ws k bad eb el ec W h
set_option maxRecDepth 100000 in
set_option maxHeartbeats 4000000 in
theorem common_any (R Tx g lo:Nat) (ws:List W8) (k:Nat) (bad:Option Rf) (eb el ec:Int) (ga:Value) (vs:List Value) (ls:List Ln) (n1 n2:Nat) (xs1 xs2:List Value) (hl1:ls[1]?=some ⟨73,2,n1,xs1⟩) (hl2:ls[8+2]?=some ⟨53,3,n2,xs2⟩) (hn1:n1≤1000000) (hn2:n2≤1000000) (fb fl fc:Int) (W0 W:World) (h:RuSt W0 W R Tx g lo ws k bad eb el ec vs ls) :
  Calls Tryz.prog 112 #[.pointer (some ⟨R,0,none⟩),.agg #[.int .i64 fb,.int .i64 fl,.int .i64 fc]] W fun e w' =>(∃ r,e=.returned r)∧∃ va vb,RuSt W0 w' R Tx g lo ws (zaf ws k bad eb el ec).k (zaf ws k bad eb el ec).bad eb el ec ((vs.set 1 va).set (8+2) vb) ((ls.set 1 ⟨73,2,n1+(zaf ws k bad eb el ec).ss.length,xs1++zap (zaf ws k bad eb el ec).ss⟩).set (8+2) ⟨53,3,n2+(zaf ws k bad eb el ec).ps.length,xs2++za6 (zaf ws k bad eb el ec).ps⟩):=by
 have hlen:=zbX ws eb el ec k bad h.rd.rd.kn
 have hwm:=h.rd.rd.nmax
 have hbs:(zaf ws k bad eb el ec).ss.length≤1000000:=by omega
 have hbp:(zaf ws k bad eb el ec).ps.length≤1000000:=by omega
 obtain ⟨is,his,hs0,hs1,hs2⟩:=info_parts zcB
 have HIS:=kz (And.intro his (And.intro hs0 (And.intro hs1 hs2)))
 clear his hs0 hs1 hs2 hlen hwm
 have hmx:Tryz.prog.follows .mixedOrders=true:=by kernel_rfl
 have H:=kz (h.alloc (.cells #[.int .i64 fb,.int .i64 fl,.int .i64 fc] 53))
 have HLo:=kz (And.intro h.low (Nat.lt_of_lt_of_le h.hR h.low))
 clear h
 have HSP:=kz (fun (w:World) =>zhn R Tx g ws k bad eb el ec _ rfl w)
 generalize zaf ws k bad eb el ec=V at *
 go_enter Tryz.func112,Tryz.ntmps112
 go_wp2_with fail
 generalize W.alloc (.cells #[.int .i64 fb,.int .i64 fl,.int .i64 fc] 53)=WA at *
 refine (oz HSP WA (oz H).rd).mono ?_
 rintro e w1 ⟨sv,sp,rfl,hst⟩
 clear HSP
 obtain ⟨ss,ps,k1,bad1⟩:=V
 dsimp only at hst hbs hbp
 dsimp only
 have H1:=kz ((oz H).call hst.rd hst.gr)
 have hloA:lo≤WA.heap.size:=(oz H).low
 have HOS:=kz (And.intro hst.os hst.ns)
 have HOP:=kz (And.intro hst.op hst.np)
 clear hst
 go_wp2_with fail
 obtain ⟨v,hv⟩:∃ v,vs[1]?=some v:=⟨_,List.getElem?_eq_getElem (by have:=(oz H1).tb.lv;omega)⟩
 have how:=(oz H1).tb.own _ _ _ hv hl1
 obtain ⟨va,vc,rfl⟩:=zab how
 have hg0:∀ b,Value.ownBlock (.slice va n1 vc)=some b→lo≤b:=zam how
 obtain ⟨ra,rc,rv,hrb,_,_,_⟩:=(oz H1).rd.rd.blk
 have c1:w1.cell? ⟨R,1,none⟩=some (.pointer (some ⟨Tx,0,none⟩)):=hrb.cell 1
 have t0:=(oz H1).tb.cell (by omega) hv
 have hTl:=(oz H1).tb.lt
 have hRl:=(oz H1).hR
 have hl3:=(oz H1).low
 have hltR:R < w1.heap.size:=by omega
 have hltT:Tx < w1.heap.size:=by omega
 have tf:=(oz H1).tb.blk.frozen 1
 have hPs:=zcA (oz HOP).1 how (show (53:Nat)≠73 by decide)
 clear hrb
 have HFIN : Hz (∀ (w4 : World) (v' : Value), w4.ownsRow lo 73 2 v' (n1 + ss.length) (xs1 ++ zap ss) → w1.grownBy w4 (Value.ownBlock (.slice va n1 vc)) → (v'.ownBlock = Value.ownBlock (.slice va n1 vc) ∨ v'.ownBlock = some w1.heap.size) →
     RuSt W0 (w4.setCell ⟨Tx,1,none⟩ v') R Tx g lo ws k1 bad1 eb el ec (vs.set 1 v') (ls.set 1 ⟨73,2,n1+ss.length,xs1++zap ss⟩)∧∃ a c,sp=.slice a ps.length c∧Pl (w4.setCell ⟨Tx,1,none⟩ v') a ps.length c (za6 ps)):=kz (by
  intro w4 v' ho hg hat
  refine ⟨(oz H1).put (by omega) hv hl1 (show (73:Nat)≠80 by decide) ho hg hat, ?_⟩
  have o1:=zat (oz HOP).1 hg hPs
  have o2:=zat o1 (zad w4 Tx 1 v') (.inr fun e =>by have:=zam (oz HOP).1 Tx e;omega)
  exact own_pl o2 (oz HOP).2)
 have HRO:=kz (fun (vs':List Value) (ls':List Ln) (hq:ls'[8+2]?=some ⟨53,3,n2,xs2⟩) (a:Option Addr) (c:Nat) (w:World) =>zdX W0 R Tx g lo ws k1 bad1 eb el ec vs' ls' 2 (by omega) n2 xs2 hq a ps.length c (za6 ps) (by omega) w)
 rcases zbc (oz HOS).1 (fun e =>(oz HOS).2 (List.length_eq_zero_iff.1 e)) with ⟨rfl,he0,hex⟩ | ⟨gs,cs,rfl,hm0,_,_,hnews⟩
 ·have HX:=kz (And.intro he0 hex)
  clear he0 hex
  have tf2:w1.drew.frozen? ⟨Tx,1,none⟩=false:=tf
  go_region_law (refine za0 (by rfl) _ _ _ (by rfl) lo 73 is 2 Tryz.underlying28 (oz HIS).1 _ n1 xs1 (by rfl) how.drew (by rfl) ?_)
  all_goals
   obtain ⟨hru,pa,pc,rfl,hpl⟩:=oz HFIN w1.drew (.slice va n1 vc) (by rw [(oz HX).1,(oz HX).2,List.append_nil];exact how.drew) ⟨rfl,rfl,rfl,Nat.le_refl _,fun _ _ _ =>rfl⟩ (.inl rfl)
   have HRU:Hz (RuSt W0 (w1.setCell ⟨Tx,1,none⟩ (.slice va n1 vc)).drew R Tx g lo ws k1 bad1 eb el ec (vs.set 1 (.slice va n1 vc)) (ls.set 1 ⟨73,2,n1+ss.length,xs1++zap ss⟩)∧Pl (w1.setCell ⟨Tx,1,none⟩ (.slice va n1 vc)).drew pa ps.length pc (za6 ps)):=kz (And.intro hru hpl)
   clear hru hpl t0 c1 how tf tf2 hPs HFIN HOS HOP H1
   generalize (w1.setCell ⟨Tx,1,none⟩ (.slice va n1 vc)).drew=w5 at *
   go_wp2_with fail
   refine (oz HRO _ _ (by rw [List.getElem?_set_ne (by decide)];exact hl2) pa pc w5 (oz HRU).1 (oz HRU).2).mono ?_
   rintro e w6 ⟨⟨r,rfl⟩,vb,hfin⟩
   go_wp2_with fail
   go_end0
   exact ⟨⟨_,rfl⟩,_,vb,hfin⟩
 ·have tf2:w1.drew.frozen? ⟨Tx,1,none⟩=false:=tf
  go_region_law (refine step_append_lies _ (by rfl) _ _ _ (by rfl) lo 73 is (.agg #[.int .i32 0,.int .i32 0]) 2 8 Tryz.underlying28 (oz HIS).1 (oz HIS).2.1 (oz HIS).2.2.1 (oz HIS).2.2.2 rfl (by omega) _ n1 xs1 (by rfl) how.drew ⟨gs,0,none⟩ ss.length cs (zap ss) (by rfl) (zbp ss) hnews (zbU ss) hm0 (by unfold maxLen;omega) (by omega) hl3 w1.heap.size (by simp) ?_;intro gg cap w4 hown1 hgrow hatt hlt;have q1:w4.cell? ⟨Tx,1,none⟩=some (.slice va n1 vc):=hgrow.cell (a:=⟨Tx,1,none⟩) t0 (by show some Tx≠Value.ownBlock (.slice va n1 vc);intro e;have:=hg0 Tx e.symm;omega);have q2:w4.frozen? ⟨Tx,1,none⟩=false:=(Blk.kept (W:=w1.drew) (oz H1).tb.blk hgrow (fun e =>by have:=hg0 Tx e.symm;omega)).frozen 1;have q3:w4.cell? ⟨R,1,none⟩=some (.pointer (some ⟨Tx,0,none⟩)):=hgrow.cell (a:=⟨R,1,none⟩) c1 (by show some R≠Value.ownBlock (.slice va n1 vc);intro e;have:=hg0 R e.symm;omega))
  all_goals
   obtain ⟨hru,pa,pc,rfl,hpl⟩:=oz HFIN w4 _ hown1 ⟨hgrow.os,hgrow.tape,hgrow.output,hgrow.size,hgrow.block⟩ (by rcases hatt with e | e;exact .inl e.symm;exact .inr (by rw [e];rfl))
   have HRU:=kz (And.intro hru hpl)
   clear hru hpl t0 c1 how tf tf2 hPs HFIN HOS HOP H1 hgrow hown1 hatt hlt q1 q2 q3 hnews
   generalize w4.setCell ⟨Tx,1,none⟩ (.slice (some ⟨gg,0,none⟩) (n1+ss.length) cap)=w5 at *
   go_wp2_with fail
   refine (oz HRO _ _ (by rw [List.getElem?_set_ne (by decide)];exact hl2) pa pc w5 (oz HRU).1 (oz HRU).2).mono ?_
   rintro e w6 ⟨⟨r,rfl⟩,vb,hfin⟩
   go_wp2_with fail
   go_end0
   exact ⟨⟨_,rfl⟩,_,vb,hfin⟩
set_option maxRecDepth 100000 in
set_option maxHeartbeats 4000000 in
theorem drop_any (R Tx g lo:Nat) (ws:List W8) (k:Nat) (bad:Option Rf) (eb el ec:Int) (ga:Value) (vs:List Value) (ls:List Ln) (n1 n2:Nat) (xs1 xs2:List Value) (hl1:ls[6]?=some ⟨73,2,n1,xs1⟩) (hl2:ls[8+7]?=some ⟨53,3,n2,xs2⟩) (hn1:n1≤1000000) (hn2:n2≤1000000) (fb fl fc:Int) (W0 W:World) (h:RuSt W0 W R Tx g lo ws k bad eb el ec vs ls) :
  Calls Tryz.prog 117 #[.pointer (some ⟨R,0,none⟩),.agg #[.int .i64 fb,.int .i64 fl,.int .i64 fc]] W fun e w' =>(∃ r,e=.returned r)∧∃ va vb,RuSt W0 w' R Tx g lo ws (zaf ws k bad eb el ec).k (zaf ws k bad eb el ec).bad eb el ec ((vs.set 6 va).set (8+7) vb) ((ls.set 6 ⟨73,2,n1+(zaf ws k bad eb el ec).ss.length,xs1++zap (zaf ws k bad eb el ec).ss⟩).set (8+7) ⟨53,3,n2+(zaf ws k bad eb el ec).ps.length,xs2++za6 (zaf ws k bad eb el ec).ps⟩):=by
 have hlen:=zbX ws eb el ec k bad h.rd.rd.kn
 have hwm:=h.rd.rd.nmax
 have hbs:(zaf ws k bad eb el ec).ss.length≤1000000:=by omega
 have hbp:(zaf ws k bad eb el ec).ps.length≤1000000:=by omega
 obtain ⟨is,his,hs0,hs1,hs2⟩:=info_parts zcB
 have HIS:=kz (And.intro his (And.intro hs0 (And.intro hs1 hs2)))
 clear his hs0 hs1 hs2 hlen hwm
 have hmx:Tryz.prog.follows .mixedOrders=true:=by kernel_rfl
 have H:=kz (h.alloc (.cells #[.int .i64 fb,.int .i64 fl,.int .i64 fc] 53))
 have HLo:=kz (And.intro h.low (Nat.lt_of_lt_of_le h.hR h.low))
 clear h
 have HSP:=kz (fun (w:World) =>zhn R Tx g ws k bad eb el ec _ rfl w)
 generalize zaf ws k bad eb el ec=V at *
 go_enter Tryz.func117,Tryz.ntmps117
 go_wp2_with fail
 generalize W.alloc (.cells #[.int .i64 fb,.int .i64 fl,.int .i64 fc] 53)=WA at *
 refine (oz HSP WA (oz H).rd).mono ?_
 rintro e w1 ⟨sv,sp,rfl,hst⟩
 clear HSP
 obtain ⟨ss,ps,k1,bad1⟩:=V
 dsimp only at hst hbs hbp
 dsimp only
 have H1:=kz ((oz H).call hst.rd hst.gr)
 have hloA:lo≤WA.heap.size:=(oz H).low
 have HOS:=kz (And.intro hst.os hst.ns)
 have HOP:=kz (And.intro hst.op hst.np)
 clear hst
 go_wp2_with fail
 obtain ⟨v,hv⟩:∃ v,vs[6]?=some v:=⟨_,List.getElem?_eq_getElem (by have:=(oz H1).tb.lv;omega)⟩
 have how:=(oz H1).tb.own _ _ _ hv hl1
 obtain ⟨va,vc,rfl⟩:=zab how
 have hg0:∀ b,Value.ownBlock (.slice va n1 vc)=some b→lo≤b:=zam how
 obtain ⟨ra,rc,rv,hrb,_,_,_⟩:=(oz H1).rd.rd.blk
 have c1:w1.cell? ⟨R,1,none⟩=some (.pointer (some ⟨Tx,0,none⟩)):=hrb.cell 1
 have t0:=(oz H1).tb.cell (by omega) hv
 have hTl:=(oz H1).tb.lt
 have hRl:=(oz H1).hR
 have hl3:=(oz H1).low
 have hltR:R < w1.heap.size:=by omega
 have hltT:Tx < w1.heap.size:=by omega
 have tf:=(oz H1).tb.blk.frozen 6
 have hPs:=zcA (oz HOP).1 how (show (53:Nat)≠73 by decide)
 clear hrb
 have HFIN : Hz (∀ (w4 : World) (v' : Value), w4.ownsRow lo 73 2 v' (n1 + ss.length) (xs1 ++ zap ss) → w1.grownBy w4 (Value.ownBlock (.slice va n1 vc)) → (v'.ownBlock = Value.ownBlock (.slice va n1 vc) ∨ v'.ownBlock = some w1.heap.size) →
     RuSt W0 (w4.setCell ⟨Tx,6,none⟩ v') R Tx g lo ws k1 bad1 eb el ec (vs.set 6 v') (ls.set 6 ⟨73,2,n1+ss.length,xs1++zap ss⟩)∧∃ a c,sp=.slice a ps.length c∧Pl (w4.setCell ⟨Tx,6,none⟩ v') a ps.length c (za6 ps)):=kz (by
  intro w4 v' ho hg hat
  refine ⟨(oz H1).put (by omega) hv hl1 (show (73:Nat)≠80 by decide) ho hg hat, ?_⟩
  have o1:=zat (oz HOP).1 hg hPs
  have o2:=zat o1 (zad w4 Tx 6 v') (.inr fun e =>by have:=zam (oz HOP).1 Tx e;omega)
  exact own_pl o2 (oz HOP).2)
 have HRO:=kz (fun (vs':List Value) (ls':List Ln) (hq:ls'[8+7]?=some ⟨53,3,n2,xs2⟩) (a:Option Addr) (c:Nat) (w:World) =>zdX W0 R Tx g lo ws k1 bad1 eb el ec vs' ls' 7 (by omega) n2 xs2 hq a ps.length c (za6 ps) (by omega) w)
 rcases zbc (oz HOS).1 (fun e =>(oz HOS).2 (List.length_eq_zero_iff.1 e)) with ⟨rfl,he0,hex⟩ | ⟨gs,cs,rfl,hm0,_,_,hnews⟩
 ·have HX:=kz (And.intro he0 hex)
  clear he0 hex
  have tf2:w1.drew.frozen? ⟨Tx,6,none⟩=false:=tf
  go_region_law (refine za0 (by rfl) _ _ _ (by rfl) lo 73 is 2 Tryz.underlying28 (oz HIS).1 _ n1 xs1 (by rfl) how.drew (by rfl) ?_)
  all_goals
   obtain ⟨hru,pa,pc,rfl,hpl⟩:=oz HFIN w1.drew (.slice va n1 vc) (by rw [(oz HX).1,(oz HX).2,List.append_nil];exact how.drew) ⟨rfl,rfl,rfl,Nat.le_refl _,fun _ _ _ =>rfl⟩ (.inl rfl)
   have HRU:Hz (RuSt W0 (w1.setCell ⟨Tx,6,none⟩ (.slice va n1 vc)).drew R Tx g lo ws k1 bad1 eb el ec (vs.set 6 (.slice va n1 vc)) (ls.set 6 ⟨73,2,n1+ss.length,xs1++zap ss⟩)∧Pl (w1.setCell ⟨Tx,6,none⟩ (.slice va n1 vc)).drew pa ps.length pc (za6 ps)):=kz (And.intro hru hpl)
   clear hru hpl t0 c1 how tf tf2 hPs HFIN HOS HOP H1
   generalize (w1.setCell ⟨Tx,6,none⟩ (.slice va n1 vc)).drew=w5 at *
   go_wp2_with fail
   refine (oz HRO _ _ (by rw [List.getElem?_set_ne (by decide)];exact hl2) pa pc w5 (oz HRU).1 (oz HRU).2).mono ?_
   rintro e w6 ⟨⟨r,rfl⟩,vb,hfin⟩
   go_wp2_with fail
   go_end0
   exact ⟨⟨_,rfl⟩,_,vb,hfin⟩
 ·have tf2:w1.drew.frozen? ⟨Tx,6,none⟩=false:=tf
  go_region_law (refine step_append_lies _ (by rfl) _ _ _ (by rfl) lo 73 is (.agg #[.int .i32 0,.int .i32 0]) 2 8 Tryz.underlying28 (oz HIS).1 (oz HIS).2.1 (oz HIS).2.2.1 (oz HIS).2.2.2 rfl (by omega) _ n1 xs1 (by rfl) how.drew ⟨gs,0,none⟩ ss.length cs (zap ss) (by rfl) (zbp ss) hnews (zbU ss) hm0 (by unfold maxLen;omega) (by omega) hl3 w1.heap.size (by simp) ?_;intro gg cap w4 hown1 hgrow hatt hlt;have q1:w4.cell? ⟨Tx,6,none⟩=some (.slice va n1 vc):=hgrow.cell (a:=⟨Tx,6,none⟩) t0 (by show some Tx≠Value.ownBlock (.slice va n1 vc);intro e;have:=hg0 Tx e.symm;omega);have q2:w4.frozen? ⟨Tx,6,none⟩=false:=(Blk.kept (W:=w1.drew) (oz H1).tb.blk hgrow (fun e =>by have:=hg0 Tx e.symm;omega)).frozen 6;have q3:w4.cell? ⟨R,1,none⟩=some (.pointer (some ⟨Tx,0,none⟩)):=hgrow.cell (a:=⟨R,1,none⟩) c1 (by show some R≠Value.ownBlock (.slice va n1 vc);intro e;have:=hg0 R e.symm;omega))
  all_goals
   obtain ⟨hru,pa,pc,rfl,hpl⟩:=oz HFIN w4 _ hown1 ⟨hgrow.os,hgrow.tape,hgrow.output,hgrow.size,hgrow.block⟩ (by rcases hatt with e | e;exact .inl e.symm;exact .inr (by rw [e];rfl))
   have HRU:=kz (And.intro hru hpl)
   clear hru hpl t0 c1 how tf tf2 hPs HFIN HOS HOP H1 hgrow hown1 hatt hlt q1 q2 q3 hnews
   generalize w4.setCell ⟨Tx,6,none⟩ (.slice (some ⟨gg,0,none⟩) (n1+ss.length) cap)=w5 at *
   go_wp2_with fail
   refine (oz HRO _ _ (by rw [List.getElem?_set_ne (by decide)];exact hl2) pa pc w5 (oz HRU).1 (oz HRU).2).mono ?_
   rintro e w6 ⟨⟨r,rfl⟩,vb,hfin⟩
   go_wp2_with fail
   go_end0
   exact ⟨⟨_,rfl⟩,_,vb,hfin⟩
set_option maxRecDepth 100000 in
set_option maxHeartbeats 4000000 in
theorem allow_any (R Tx g lo:Nat) (ws:List W8) (k:Nat) (bad:Option Rf) (eb el ec:Int) (ga:Value) (vs:List Value) (ls:List Ln) (n1 n2:Nat) (xs1 xs2:List Value) (hl1:ls[7]?=some ⟨73,2,n1,xs1⟩) (hl2:ls[8+8]?=some ⟨53,3,n2,xs2⟩) (hn1:n1≤1000000) (hn2:n2≤1000000) (fb fl fc:Int) (W0 W:World) (h:RuSt W0 W R Tx g lo ws k bad eb el ec vs ls) :
  Calls Tryz.prog 118 #[.pointer (some ⟨R,0,none⟩),.agg #[.int .i64 fb,.int .i64 fl,.int .i64 fc]] W fun e w' =>(∃ r,e=.returned r)∧∃ va vb,RuSt W0 w' R Tx g lo ws (zaf ws k bad eb el ec).k (zaf ws k bad eb el ec).bad eb el ec ((vs.set 7 va).set (8+8) vb) ((ls.set 7 ⟨73,2,n1+(zaf ws k bad eb el ec).ss.length,xs1++zap (zaf ws k bad eb el ec).ss⟩).set (8+8) ⟨53,3,n2+(zaf ws k bad eb el ec).ps.length,xs2++za6 (zaf ws k bad eb el ec).ps⟩):=by
 have hlen:=zbX ws eb el ec k bad h.rd.rd.kn
 have hwm:=h.rd.rd.nmax
 have hbs:(zaf ws k bad eb el ec).ss.length≤1000000:=by omega
 have hbp:(zaf ws k bad eb el ec).ps.length≤1000000:=by omega
 obtain ⟨is,his,hs0,hs1,hs2⟩:=info_parts zcB
 have HIS:=kz (And.intro his (And.intro hs0 (And.intro hs1 hs2)))
 clear his hs0 hs1 hs2 hlen hwm
 have hmx:Tryz.prog.follows .mixedOrders=true:=by kernel_rfl
 have H:=kz (h.alloc (.cells #[.int .i64 fb,.int .i64 fl,.int .i64 fc] 53))
 have HLo:=kz (And.intro h.low (Nat.lt_of_lt_of_le h.hR h.low))
 clear h
 have HSP:=kz (fun (w:World) =>zhn R Tx g ws k bad eb el ec _ rfl w)
 generalize zaf ws k bad eb el ec=V at *
 go_enter Tryz.func118,Tryz.ntmps118
 go_wp2_with fail
 generalize W.alloc (.cells #[.int .i64 fb,.int .i64 fl,.int .i64 fc] 53)=WA at *
 refine (oz HSP WA (oz H).rd).mono ?_
 rintro e w1 ⟨sv,sp,rfl,hst⟩
 clear HSP
 obtain ⟨ss,ps,k1,bad1⟩:=V
 dsimp only at hst hbs hbp
 dsimp only
 have H1:=kz ((oz H).call hst.rd hst.gr)
 have hloA:lo≤WA.heap.size:=(oz H).low
 have HOS:=kz (And.intro hst.os hst.ns)
 have HOP:=kz (And.intro hst.op hst.np)
 clear hst
 go_wp2_with fail
 obtain ⟨v,hv⟩:∃ v,vs[7]?=some v:=⟨_,List.getElem?_eq_getElem (by have:=(oz H1).tb.lv;omega)⟩
 have how:=(oz H1).tb.own _ _ _ hv hl1
 obtain ⟨va,vc,rfl⟩:=zab how
 have hg0:∀ b,Value.ownBlock (.slice va n1 vc)=some b→lo≤b:=zam how
 obtain ⟨ra,rc,rv,hrb,_,_,_⟩:=(oz H1).rd.rd.blk
 have c1:w1.cell? ⟨R,1,none⟩=some (.pointer (some ⟨Tx,0,none⟩)):=hrb.cell 1
 have t0:=(oz H1).tb.cell (by omega) hv
 have hTl:=(oz H1).tb.lt
 have hRl:=(oz H1).hR
 have hl3:=(oz H1).low
 have hltR:R < w1.heap.size:=by omega
 have hltT:Tx < w1.heap.size:=by omega
 have tf:=(oz H1).tb.blk.frozen 7
 have hPs:=zcA (oz HOP).1 how (show (53:Nat)≠73 by decide)
 clear hrb
 have HFIN : Hz (∀ (w4 : World) (v' : Value), w4.ownsRow lo 73 2 v' (n1 + ss.length) (xs1 ++ zap ss) → w1.grownBy w4 (Value.ownBlock (.slice va n1 vc)) → (v'.ownBlock = Value.ownBlock (.slice va n1 vc) ∨ v'.ownBlock = some w1.heap.size) →
     RuSt W0 (w4.setCell ⟨Tx,7,none⟩ v') R Tx g lo ws k1 bad1 eb el ec (vs.set 7 v') (ls.set 7 ⟨73,2,n1+ss.length,xs1++zap ss⟩)∧∃ a c,sp=.slice a ps.length c∧Pl (w4.setCell ⟨Tx,7,none⟩ v') a ps.length c (za6 ps)):=kz (by
  intro w4 v' ho hg hat
  refine ⟨(oz H1).put (by omega) hv hl1 (show (73:Nat)≠80 by decide) ho hg hat, ?_⟩
  have o1:=zat (oz HOP).1 hg hPs
  have o2:=zat o1 (zad w4 Tx 7 v') (.inr fun e =>by have:=zam (oz HOP).1 Tx e;omega)
  exact own_pl o2 (oz HOP).2)
 have HRO:=kz (fun (vs':List Value) (ls':List Ln) (hq:ls'[8+8]?=some ⟨53,3,n2,xs2⟩) (a:Option Addr) (c:Nat) (w:World) =>zdX W0 R Tx g lo ws k1 bad1 eb el ec vs' ls' 8 (by omega) n2 xs2 hq a ps.length c (za6 ps) (by omega) w)
 rcases zbc (oz HOS).1 (fun e =>(oz HOS).2 (List.length_eq_zero_iff.1 e)) with ⟨rfl,he0,hex⟩ | ⟨gs,cs,rfl,hm0,_,_,hnews⟩
 ·have HX:=kz (And.intro he0 hex)
  clear he0 hex
  have tf2:w1.drew.frozen? ⟨Tx,7,none⟩=false:=tf
  go_region_law (refine za0 (by rfl) _ _ _ (by rfl) lo 73 is 2 Tryz.underlying28 (oz HIS).1 _ n1 xs1 (by rfl) how.drew (by rfl) ?_)
  all_goals
   obtain ⟨hru,pa,pc,rfl,hpl⟩:=oz HFIN w1.drew (.slice va n1 vc) (by rw [(oz HX).1,(oz HX).2,List.append_nil];exact how.drew) ⟨rfl,rfl,rfl,Nat.le_refl _,fun _ _ _ =>rfl⟩ (.inl rfl)
   have HRU:Hz (RuSt W0 (w1.setCell ⟨Tx,7,none⟩ (.slice va n1 vc)).drew R Tx g lo ws k1 bad1 eb el ec (vs.set 7 (.slice va n1 vc)) (ls.set 7 ⟨73,2,n1+ss.length,xs1++zap ss⟩)∧Pl (w1.setCell ⟨Tx,7,none⟩ (.slice va n1 vc)).drew pa ps.length pc (za6 ps)):=kz (And.intro hru hpl)
   clear hru hpl t0 c1 how tf tf2 hPs HFIN HOS HOP H1
   generalize (w1.setCell ⟨Tx,7,none⟩ (.slice va n1 vc)).drew=w5 at *
   go_wp2_with fail
   refine (oz HRO _ _ (by rw [List.getElem?_set_ne (by decide)];exact hl2) pa pc w5 (oz HRU).1 (oz HRU).2).mono ?_
   rintro e w6 ⟨⟨r,rfl⟩,vb,hfin⟩
   go_wp2_with fail
   go_end0
   exact ⟨⟨_,rfl⟩,_,vb,hfin⟩
 ·have tf2:w1.drew.frozen? ⟨Tx,7,none⟩=false:=tf
  go_region_law (refine step_append_lies _ (by rfl) _ _ _ (by rfl) lo 73 is (.agg #[.int .i32 0,.int .i32 0]) 2 8 Tryz.underlying28 (oz HIS).1 (oz HIS).2.1 (oz HIS).2.2.1 (oz HIS).2.2.2 rfl (by omega) _ n1 xs1 (by rfl) how.drew ⟨gs,0,none⟩ ss.length cs (zap ss) (by rfl) (zbp ss) hnews (zbU ss) hm0 (by unfold maxLen;omega) (by omega) hl3 w1.heap.size (by simp) ?_;intro gg cap w4 hown1 hgrow hatt hlt;have q1:w4.cell? ⟨Tx,7,none⟩=some (.slice va n1 vc):=hgrow.cell (a:=⟨Tx,7,none⟩) t0 (by show some Tx≠Value.ownBlock (.slice va n1 vc);intro e;have:=hg0 Tx e.symm;omega);have q2:w4.frozen? ⟨Tx,7,none⟩=false:=(Blk.kept (W:=w1.drew) (oz H1).tb.blk hgrow (fun e =>by have:=hg0 Tx e.symm;omega)).frozen 7;have q3:w4.cell? ⟨R,1,none⟩=some (.pointer (some ⟨Tx,0,none⟩)):=hgrow.cell (a:=⟨R,1,none⟩) c1 (by show some R≠Value.ownBlock (.slice va n1 vc);intro e;have:=hg0 R e.symm;omega))
  all_goals
   obtain ⟨hru,pa,pc,rfl,hpl⟩:=oz HFIN w4 _ hown1 ⟨hgrow.os,hgrow.tape,hgrow.output,hgrow.size,hgrow.block⟩ (by rcases hatt with e | e;exact .inl e.symm;exact .inr (by rw [e];rfl))
   have HRU:=kz (And.intro hru hpl)
   clear hru hpl t0 c1 how tf tf2 hPs HFIN HOS HOP H1 hgrow hown1 hatt hlt q1 q2 q3 hnews
   generalize w4.setCell ⟨Tx,7,none⟩ (.slice (some ⟨gg,0,none⟩) (n1+ss.length) cap)=w5 at *
   go_wp2_with fail
   refine (oz HRO _ _ (by rw [List.getElem?_set_ne (by decide)];exact hl2) pa pc w5 (oz HRU).1 (oz HRU).2).mono ?_
   rintro e w6 ⟨⟨r,rfl⟩,vb,hfin⟩
   go_wp2_with fail
   go_end0
   exact ⟨⟨_,rfl⟩,_,vb,hfin⟩
def zfe (J:Nat→Act→World→Prop) (Q:Exit→Act→World→Prop):Exit→Act→World→Prop
 | .goto l,a,w =>J l a w
 | e,a,w =>Q e a w
theorem zhd {P:Program} {a:Act} {w:World} {Q:Exit→Act→World→Prop} {c:Code} (J:Nat→Nat→Act→World→Prop)
  (first:c.wp P (zfe (fun l a w => ∃ k,J l k a w) Q) a w)
  (pass:∀ l k a w,J l k a w→∃ rest,findLabel c l=some rest∧rest.wp P (zfe (fun l' a' w' => ∃ k',k' < k∧J l' k' a' w') Q) a w):(Code.scope c).wp P Q a w:=by
 intro b k cs
 have key:∀ n l a w,J l n a w→∃ rest,gotoIn l (.inScope c::k)=some (.code rest::.inScope c::k)∧∃ e a' w',Q e a' w'∧Arrives P (lone (b.at a (.code rest::.inScope c::k)) cs w) b k cs e a' w':=by
  intro n
  induction n using Nat.strongRecOn with
  | _ n ih =>
   intro l a w hJ
   obtain ⟨rest,hf,hp⟩:=pass l n a w hJ
   refine ⟨rest,by simp [gotoIn,hf], ?_⟩
   obtain ⟨e,a₁,w₁,hq,harr⟩:=hp b (.inScope c::k) cs
   cases e with
   | normal =>exact ⟨.normal,a₁,w₁,hq,Steps.trans harr (.one step_inScope)⟩
   | exit id =>exact ⟨.exit id,a₁,w₁,hq,fun k' hk =>harr k' (by simp [exitTo,hk])⟩
   | goto l' =>
    obtain ⟨k',hlt,hJ'⟩:=hq
    obtain ⟨rest',hg,e₂,a₂,w₂,hq₂,harr₂⟩:=ih k' hlt l' a₁ w₁ hJ'
    exact ⟨e₂,a₂,w₂,hq₂,.of_steps (harr _ hg) harr₂⟩
   | ret =>exact ⟨_,a₁,w₁,hq,harr⟩
   | panic ch =>exact ⟨_,a₁,w₁,hq,harr⟩
   | outgrown =>exact ⟨_,a₁,w₁,hq,harr⟩
 obtain ⟨e,a₁,w₁,hq,harr⟩:=first b (.inScope c::k) cs
 cases e with
 | normal =>exact ⟨.normal,a₁,w₁,hq,.head step_scope (Steps.trans harr (.one step_inScope))⟩
 | exit id =>exact ⟨.exit id,a₁,w₁,hq,fun k' hk =>.head step_scope (harr k' (by simp [exitTo,hk]))⟩
 | goto l' =>
  obtain ⟨k',hq⟩:=hq
  obtain ⟨rest',hg,e₂,a₂,w₂,hq₂,harr₂⟩:=key k' l' a₁ w₁ hq
  exact ⟨e₂,a₂,w₂,hq₂,.of_steps (.head step_scope (harr _ hg)) harr₂⟩
 | ret =>exact ⟨_,a₁,w₁,hq,.of_steps (.one step_scope) harr⟩
 | panic ch =>exact ⟨_,a₁,w₁,hq,.of_steps (.one step_scope) harr⟩
 | outgrown =>exact ⟨_,a₁,w₁,hq,.of_steps (.one step_scope) harr⟩
theorem zfd {P:Program} {c:Code} {J J':Nat→Act→World→Prop} {Q:Exit→Act→World→Prop} {a:Act} {w:World} (h:c.wp P (zfe J Q) a w) (hJ:∀ l a w,J l a w→J' l a w):c.wp P (zfe J' Q) a w:=by
 refine wp_mono h ?_
 intro e a' w' he
 cases e <;> first | exact hJ _ _ _ he | exact he
theorem zhS {P:Program} {a:Act} {w:World} {Q:Exit→Act→World→Prop} {c:Code} (J:Nat→Nat→Act→World→Prop)
  (zero:∃ X,findLabel c 0=some (Code.skip.seq X)∧(∀ k a w,J 0 k a w→X.wp P (zfe (fun l' a' w' => ∃ k',k' < k∧J l' k' a' w') Q) a w)∧((∀ k a w,J 0 k a w→X.wp P (zfe (fun l a w => ∃ k,J l k a w) Q) a w)→c.wp P (zfe (fun l a w => ∃ k,J l k a w) Q) a w))
  (five:∃ X,findLabel c 5=some (Code.skip.seq X)∧(∀ k a w,J 5 k a w→X.wp P (zfe (fun l' a' w' => ∃ k',k' < k∧J l' k' a' w') Q) a w)∧((∀ k a w,J 5 k a w→X.wp P (zfe (fun l' a' w' => ∃ k',k' < k∧J l' k' a' w') Q) a w)→∀ k a w,J 6 k a w→∃ rest,findLabel c 6=some rest∧rest.wp P (zfe (fun l' a' w' => ∃ k',k' < k∧J l' k' a' w') Q) a w))
  (pass:∀ l k a w,l≠4→l≠5→J (l+1) k a w→∃ rest,findLabel c (l+1)=some rest∧rest.wp P (zfe (fun l' a' w' => ∃ k',k' < k∧J l' k' a' w') Q) a w):(Code.scope c).wp P Q a w:=by
 obtain ⟨X,hf,hz,hfirst⟩:=zero
 obtain ⟨X5,hf5,hz5,h6⟩:=five
 refine zhd J (hfirst fun k a w h =>zfd (hz k a w h) (fun l a w ⟨k',_,hk⟩ =>⟨k',hk⟩)) ?_
 intro l k a w h
 cases l with
 | zero =>exact ⟨_,hf,wp_seq (wp_skip (hz k a w h))⟩
 | succ l =>
  by_cases h4:l=4
  ·subst h4;exact ⟨_,hf5,wp_seq (wp_skip (hz5 k a w h))⟩
  ·by_cases h5:l=5
   ·subst h5;exact h6 hz5 k a w h
   ·exact pass l k a w h4 h5 h
theorem zdy {W W':World} {lo k E sz n:Nat} {v:Value} {xs:List Value} (h:W.ownsRow lo E sz v n xs) (hg:W.grownBy W' (some k)) (hk:k < lo):W'.ownsRow lo E sz v n xs:=by
 refine h.kept hg ?_
 cases hv:v.ownBlock with
 | none =>exact .inl rfl
 | some j =>exact .inr (fun e =>by have:=(h.lt j hv).1;simp at e;omega)
theorem prod3 (z:Nat × Nat × Bool):∃ y n o,z=(y,n,o):=⟨z.1,z.2.1,z.2.2,rfl⟩
structure CutSt (w W:World) (C:Nat) (s:ByteArray) (b:Nat) (x:Nat × Nat) (v:Value) (ws:List Wd) (cs:Array Value):Prop where
 blk:Blk W C (ziY s b x.1 x.2 v) 135
 box:Blk W w.heap.size cs 147
 own:W.ownsRow (w.heap.size+1) 147 8 v ws.length (zgA ws)
 gr:w.grownBy W (some C)
 lt:C < w.heap.size
theorem CutSt.below {w W W':World} {C:Nat} {s:ByteArray} {b:Nat} {x:Nat × Nat} {v:Value} {ws:List Wd} {cs:Array Value} (h:CutSt w W C s b x v ws cs) (hb:Below W.heap.size W W'):CutSt w W' C s b x v ws cs :=
 ⟨h.blk.below hb h.blk.lt,h.box.below hb h.box.lt,zdy h.own ⟨hb.os,hb.tape,hb.output,hb.size,fun k hk _ =>hb.block k hk⟩ (k:=0) (by omega),h.gr.trans ⟨hb.os,hb.tape,hb.output,hb.size,fun k hk _ =>hb.block k hk⟩,h.lt⟩
theorem CutSt.drew {w W:World} {C:Nat} {s:ByteArray} {b:Nat} {x:Nat × Nat} {v:Value} {ws:List Wd} {cs:Array Value} (h:CutSt w W C s b x v ws cs) (q:Nat):CutSt w (W.drewN q) C s b x v ws cs :=
 h.below ⟨rfl,rfl,rfl,Nat.le_refl _,fun _ _ =>rfl⟩
theorem CutSt.drew1 {w W:World} {C:Nat} {s:ByteArray} {b:Nat} {x:Nat × Nat} {v:Value} {ws:List Wd} {cs:Array Value} (h:CutSt w W C s b x v ws cs):CutSt w W.drew C s b x v ws cs :=
 h.below ⟨rfl,rfl,rfl,Nat.le_refl _,fun _ _ =>rfl⟩
theorem CutSt.pass {w W W':World} {C:Nat} {s:ByteArray} {b:Nat} {x:Nat × Nat} {v:Value} {ws:List Wd} {cs:Array Value} (h:CutSt w W C s b x v ws cs) {b':Nat} {x':Nat × Nat} (hb:Blk W' C (ziY s b' x'.1 x'.2 v) 135) (hg:W.grownBy W' (some C)):CutSt w W' C s b' x' v ws cs:=by
 have hl:=h.lt
 exact ⟨hb,h.box.kept hg (fun e =>by simp at e;omega),zdy h.own hg (by omega),h.gr.trans hg,h.lt⟩
theorem CutSt.set {w W:World} {C:Nat} {s:ByteArray} {b:Nat} {x:Nat × Nat} {v:Value} {ws:List Wd} {cs:Array Value} (h:CutSt w W C s b x v ws cs) (i:Nat) (u:Value):CutSt w (W.setCell ⟨w.heap.size,i,none⟩ u) C s b x v ws (cs.setIfInBounds i u):=by
 have hl:=h.lt
 exact ⟨h.blk.other (by omega) _,h.box.set i u,zdy h.own (zaL W ⟨w.heap.size,i,none⟩ u) (by show w.heap.size < _;omega),h.gr.andThen (zaL W ⟨w.heap.size,i,none⟩ u) (fun j hj =>by cases hj;exact .inl (Nat.le_refl _)),h.lt⟩
theorem CutSt.as {w W:World} {C:Nat} {s:ByteArray} {b:Nat} {x:Nat × Nat} {v:Value} {ws:List Wd} {cs cs':Array Value} (h:CutSt w W C s b x v ws cs) (e:cs=cs'):CutSt w W C s b x v ws cs':=e ▸ h
theorem CutSt.app {w W W2:World} {C:Nat} {s:ByteArray} {b:Nat} {x:Nat × Nat} {v:Value} {ws:List Wd} {cs:Array Value} {tmp:Obj} (h:CutSt w W C s b x v ws cs) (hg:(W.alloc tmp).drew.grownBy W2 v.ownBlock):Blk W2 C (ziY s b x.1 x.2 v) 135∧Blk W2 w.heap.size cs 147:=by
 have hl:=h.lt
 have hne:∀ k,k≤w.heap.size→some k≠v.ownBlock:=fun k hk e =>by have:=(h.own.lt k e.symm).1;omega
 have hg':(W.alloc tmp).grownBy W2 v.ownBlock:=⟨hg.os,hg.tape,hg.output,hg.size,hg.block⟩
 exact ⟨(h.blk.alloc tmp).kept hg' (hne C (by omega)),(h.box.alloc tmp).kept hg' (hne _ (Nat.le_refl _))⟩
theorem CutSt.push {w W W2:World} {C:Nat} {s:ByteArray} {b:Nat} {x:Nat × Nat} {v v':Value} {ws:List Wd} {cs:Array Value} {tmp:Obj} {X:Wd} (h:CutSt w W C s b x v ws cs) (hg:(W.alloc tmp).drew.grownBy W2 v.ownBlock) (ho:W2.ownsRow (w.heap.size+1) 147 8 v' (ws.length+1) (zgA ws++zfV X)) :
  CutSt w (W2.setCell ⟨C,4,none⟩ v') C s b x v' (ws++[X]) cs:=by
 have hl:=h.lt
 obtain ⟨h1,h2⟩:=h.app hg
 have hg':(W.alloc tmp).grownBy W2 v.ownBlock:=⟨hg.os,hg.tape,hg.output,hg.size,hg.block⟩
 have gr1:w.grownBy W2 (some C):=(h.gr.trans (World.grownBy_alloc _ _ _)).andThen hg' (fun j hj =>.inl (by have:=(h.own.lt j hj).1;omega))
 refine ⟨h1.set 4 v',h2.other (by omega) _, ?_,gr1.trans (zaL W2 ⟨C,4,none⟩ v'),hl⟩
 rw [List.length_append,encWs_snoc]
 exact zdy ho (zaL W2 ⟨C,4,none⟩ v') (by show C < _;omega)
theorem infoWord:(Tryz.prog.info? 147).map (fun i =>(i.zero,i.size,i.bytes))=some (some (.agg #[.int .i64 0,.string ⟨#[]⟩,.int .i32 0,.int .i64 0,.int .i64 0,.int .i64 0,.int .i64 0,.int .i64 0]),8,72):=by kernel_rfl
end Go.Proofs.YtmdgejgokoadlaaGreatDoor
