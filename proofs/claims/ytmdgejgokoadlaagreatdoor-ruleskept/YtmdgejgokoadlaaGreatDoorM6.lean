/- Texts of this claim, one behind the other. -/
import Derived.Test.YtmdgejgokoadlaaGreatDoorM5
import Derived.Maps.AppendAt
import Derived.Laws.OwnMore
import Derived.Deep.AppendLies
import Derived.Deep.RegionLaw
import Derived.Lib.UnsafeStr
import Derived.Lib.Builder
import Derived.Lib.AppendStr
/- The reader of rules: spans. -/
namespace Go.Proofs.YtmdgejgokoadlaaGreatDoor
open Go.RowKit Go.Shelf
set_option linter.unusedVariables false
theorem zcB:(Tryz.prog.info? 73).map (fun i =>(i.zero,i.size,i.bytes))=some (some (.agg #[.int .i32 0,.int .i32 0]),2,8):=by kernel_rfl
theorem infoAt:(Tryz.prog.info? 53).map (fun i =>(i.zero,i.size,i.bytes))=some (some (.agg #[.int .i64 0,.int .i64 0,.int .i64 0]),3,24):=by kernel_rfl
theorem span_e (R Tx g:Nat) (ws:List W8) (k:Nat) (bad:Option Rf) (eb el ec:Int) (lo hi:Int) (k2:Nat) (bad2:Option Rf) (he:zbs ws k bad eb el ec=⟨lo,hi,k2,bad2⟩) (W:World) (h:RdE W R Tx g ws k bad eb el ec) :
  Calls Tryz.prog 169 #[.pointer (some ⟨R,0,none⟩)] W fun e w' =>e=.returned (.agg #[.int .i32 lo,.int .i32 hi])∧RdE w' R Tx g ws k2 bad2 eb el ec∧W.grownBy w' (some R):=by
 have:=span_any R Tx g ws k bad eb el ec W h
 rw [he] at this
 exact this
theorem zdH {w:World} {ops:Array Oper} {rest:List Oper} {o:Oper} {a:Act} {Q:Exit→Act→World→Prop} (hgd:o.guard=none) (s x:Operand) (T E:TypeId)
  (ho:o.op=.call { callee := .builtin .append,args:=#[s,x],argTypes:=#[T,T] }) (i:TypeInfo) (z:Value) (sz bytes:Nat) (hT:Tryz.prog.underlying T=some (.slice E)) (hi:Tryz.prog.info? E=some i∧i.zero=some z∧i.size=sz∧i.bytes=bytes) (hzs:z.cells.size=sz) (hsz:0 < sz) (hb8:bytes≤64)
  (lo:Nat) (v:Value) (n:Nat) (xs:List Value) (cs:List Value) (hcs:cs.length=sz) (hs:a.eval s=v) (hl:n≤1000000) (W:World) (hW:w=W.alloc (.cells cs.toArray E)) (hu:∀ u ∈ cs,u.oneCell'=true) (hv:W.ownsRow lo E sz v n xs) (hlo:lo≤W.heap.size) (m:Nat) (hm:m=W.heap.size) (hx:a.eval x=.slice (some ⟨m,0,none⟩) 1 1)
  (h:∀ v' w',w'.ownsRow lo E sz v' (n+1) (xs++cs)→(W.alloc (.cells cs.toArray E)).grownBy w' v.ownBlock→wpList Tryz.prog ops Q rest (a.put o.dst v') w'):wpList Tryz.prog ops Q (o::rest) a w:=by
 subst hW
 subst hm
 have b:=Blk.new W cs.toArray E
 refine wpList_append_own _ hgd s x T ho lo E i z sz bytes hT hi.1 hi.2.1 hi.2.2.1 hi.2.2.2 hzs hsz v n xs hs (hv.alloc _) ⟨W.heap.size,0,none⟩ 1 1 cs hx (by omega) (fun j y hj =>?_) hu (by unfold maxLen;omega) ?_ (by simp;omega) (fun v' w' h4 h5 _ =>h v' w' h4 h5)
 ·have e:=b.cell j
  rw [List.getElem?_toArray,hj] at e
  have ea:(⟨W.heap.size,0,none⟩:Addr).add j=⟨W.heap.size,j,none⟩:=by cases j <;> simp [Addr.add]
  rw [ea]
  exact e
 ·have:(n+1)*bytes≤1000001*64:=Nat.mul_le_mul (by omega) hb8
  omega
def slLen:Value→Nat
 | .slice _ n _ =>n
 | _ =>0
theorem zdY {W:World} {lo E sz n:Nat} {v:Value} {xs:List Value} (h:W.ownsRow lo E sz v n xs):slLen v=n:=by
 rcases h.2 with ⟨rfl,h2⟩ | ⟨g,cap,cur,rfl,_⟩
 ·exact h2.symm
 ·rfl
set_option maxRecDepth 100000 in
set_option maxHeartbeats 4000000 in
theorem spans_any (R Tx g:Nat) (ws:List W8) (k:Nat) (bad:Option Rf) (eb el ec:Int) (W:World) (h:RdE W R Tx g ws k bad eb el ec) :
  Calls Tryz.prog 148 #[.pointer (some ⟨R,0,none⟩)] W fun e w' => ∃ vs vp,e=.returned (.tuple #[vs,vp])∧SpSt W w' R Tx g ws (zaf ws k bad eb el ec).k (zaf ws k bad eb el ec).bad eb el ec vs vp (zaf ws k bad eb el ec).ss (zaf ws k bad eb el ec).ps:=by
 have hRW:R < W.heap.size:=by obtain ⟨a,c,v,hb,_⟩:=h.rd.blk;exact hb.lt
 have hTW:Tx < W.heap.size:=zdF h.en.c0
 have hgl:=h.rd.glt
 have hkn:=h.rd.kn
 have hnm:=h.rd.nmax
 have H:=kz h
 have H0:=fun (w1:World) (k1:Nat) (bad1:Option Rf) (h1:RdE w1 R Tx g ws k1 bad1 eb el ec) (hg1:W.grownBy w1 (some R)) =>(⟨h1,World.ownsRow_nil _ _ _ _,World.ownsRow_nil _ _ _ _,hg1,hRW,hTW,hgl,fun _ =>rfl,fun _ =>rfl⟩:SpSt W w1 R Tx g ws k1 bad1 eb el ec (.slice none 0 0) (.slice none 0 0) [] [])
 have H0:=kz H0
 have HT:=kz (zaM ws k bad eb el ec 4 hkn)
 obtain ⟨T,hT⟩:∃ T,T=zaT ws eb el ec (ws.length+1) (zaa ws k bad eb el ec 4).k (zaa ws k bad eb el ec 4).bad:=⟨_,rfl⟩
 have HV:Hz (zaf ws k bad eb el ec=⟨T.ss,T.ps,(zaa ws T.k T.bad eb el ec 5).k,(zaa ws T.k T.bad eb el ec 5).bad⟩):=kz (by rw [hT];rfl)
 have HT2:=kz hT
 clear hT h hgl
 generalize zaf ws k bad eb el ec=V at *
 obtain ⟨ia,hia,ha0,ha1,ha2⟩:=info_parts infoAt
 obtain ⟨is,his,hs0,hs1,hs2⟩:=info_parts zcB
 have HIA:=kz (And.intro hia (And.intro ha0 (And.intro ha1 ha2)))
 have HIS:=kz (And.intro his (And.intro hs0 (And.intro hs1 hs2)))
 clear hia ha0 ha1 ha2 his hs0 hs1 hs2
 go_enter Tryz.func148,Tryz.ntmps148
 go_wp2_with fail
 refine (zbS R Tx g ws k bad eb el ec 4 W (oz H)).mono ?_
 rintro e w1 ⟨rfl,hR1,hg1⟩
 generalize zaa ws k bad eb el ec 4=A at *
 obtain ⟨ax,k1,bad1⟩:=A
 dsimp only at hR1 HT HT2
 dsimp only
 generalize wV ax=vax
 have HS1:=kz (oz H0 w1 k1 bad1 hR1 hg1)
 have HG1:Hz (SgSt ws eb el ec T (ws.length+1) k1 bad1 [] []):=kz ⟨by rw [oz HT2];simp,by omega,(oz HT).2,by simp,by simp⟩
 clear hR1 hg1 HT2 H0 H HT
 go_wp2_with fail
 go_loopw [4,5] (fun vs vp wr => ∃ (f k2:Nat) (bad2:Option Rf) (ss:List (Int × Int)) (ps:List (Int × Int × Int)),Hz (SgSt ws eb el ec T f k2 bad2 ss ps)∧Hz (SpSt W wr R Tx g ws k2 bad2 eb el ec vs vp ss ps))
  (fun vs _ _ =>ws.length - slLen vs)
 case atStart =>exact ⟨_,k1,bad1,[],[],HG1,HS1⟩
 case round =>
  obtain ⟨f,k2,bad2,ss,ps,HG,HS⟩:=hrel
  clear HG1 HS1 H0
  have HSE:=kz (zfI R Tx g ws k2 bad2 3 wr (oz HS).rd.rd)
  cases hs:zaJ ws k2 bad2 3 with
  | false =>
   rw [hs] at HSE
   have HTE:=kz ((oz HG).stop hs)
   clear hs HG
   go_wp2_with fail
   refine (oz HSE).mono ?_
   rintro e w2 ⟨rfl,hw2⟩
   rw [hw2]
   clear hw2 HSE
   go_wp2_with fail
   refine (zbS R Tx g ws k2 bad2 eb el ec 5 wr (oz HS).rd).mono ?_
   rintro e w3 ⟨rfl,hR3,hg3⟩
   have HF:=kz ((oz HS).call hR3 hg3)
   clear hR3 hg3
   generalize wV (zaa ws k2 bad2 eb el ec 5).x=vz
   go_wp2_with fail
   exact bodyPost_ret (v := .tuple #[u4,u5]) (by simp [results,Tryz.results148,go_sem]) rfl ⟨_,_,rfl,by rw [oz HV,oz HTE];exact oz HF⟩
  | true =>
   rw [hs] at HSE
   obtain ⟨x,hx,hlt,hbad⟩:=zbl hs
   obtain ⟨f',hnext⟩:=(oz HG).next hs
   rw [show atV ws k2=(x.b,x.l,x.c) by unfold atV;rw [hx]] at hnext
   have hls:ss.length≤999999:=by have:=(oz HG).len;omega
   have hlp:ps.length≤999999:=by have:=(oz HG).lep;omega
   have hme:ss.length < ws.length:=by have:=(oz HG).len;omega
   obtain ⟨a,c,v,hb,ha,hc,hv⟩:=(oz HS).rd.rd.blk
   obtain rfl:=ha hlt
   have hw:=(oz HS).rd.rd.words
   have c0:=hb.cell 0
   have w4:wr.cell? ⟨g,8*k2+4,none⟩=some (.int .i64 x.b):=hw k2 x hx 4 _ rfl
   have w5:wr.cell? ⟨g,8*k2+4+1,none⟩=some (.int .i64 x.l):=hw k2 x hx 5 _ rfl
   have w6:wr.cell? ⟨g,8*k2+4+2,none⟩=some (.int .i64 x.c):=hw k2 x hx 6 _ rfl
   have hpos:(0:Int) < ((ws.length - k2:Nat):Int):=by omega
   have hpos2:0 < ws.length - k2:=by omega
   obtain ⟨m,hm⟩:∃ m,m=ws.length - k2:=⟨_,rfl⟩
   rw [← hm] at c0 hpos hpos2
   have HSP:=kz (fun (w:World) =>span_e R Tx g ws k2 bad2 eb el ec (zbs ws k2 bad2 eb el ec).lo (zbs ws k2 bad2 eb el ec).hi (zbs ws k2 bad2 eb el ec).k (zbs ws k2 bad2 eb el ec).bad rfl w)
   have HNX:=kz hnext
   have HME:=kz hme
   clear hb ha hc hv hw hx hm hlt hbad hs hnext HG hme
   generalize zbs ws k2 bad2 eb el ec=SV at *
   obtain ⟨lo,hi,k3,bad3⟩:=SV
   dsimp only at HSP HNX
   go_wp2_with fail
   refine (oz HSE).mono ?_
   rintro e w2 ⟨rfl,hw2⟩
   rw [hw2]
   clear hw2 HSE
   go_wp2_with (at_builtin;refine zdH rfl _ _ 82 53 rfl ia (.agg #[.int .i64 0,.int .i64 0,.int .i64 0]) 3 24 Tryz.underlying82 (oz HIA) rfl (by decide) (by decide) W.heap.size _ ps.length (za6 ps) [.int .i64 x.b,.int .i64 x.l,.int .i64 x.c] rfl rfl (by omega) wr rfl (by intro u hu;simp at hu;rcases hu with rfl | rfl | rfl <;> rfl) (oz HS).op (oz HS).gr.size _ rfl rfl ?_)
   intro vp' w3 hown hgrow
   have HS3:=kz (((oz HS).alloc _).place hown hgrow)
   clear hown hgrow HS c0 w4 w5 w6
   go_wp2_with fail
   refine (oz HSP w3 (oz HS3).rd).mono ?_
   rintro e w4 ⟨rfl,hR4,hg4⟩
   have HS4:=kz ((oz HS3).call hR4 hg4)
   clear hR4 hg4 HS3 HSP
   go_wp2_with (at_builtin;refine zdH rfl _ _ 28 73 rfl is (.agg #[.int .i32 0,.int .i32 0]) 2 8 Tryz.underlying28 (oz HIS) rfl (by decide) (by decide) W.heap.size _ ss.length (zap ss) [.int .i32 lo,.int .i32 hi] rfl rfl (by omega) w4 rfl (by intro u hu;simp at hu;rcases hu with rfl | rfl <;> rfl) (oz HS4).os (oz HS4).gr.size _ rfl rfl ?_)
   intro vs' w5 hown hgrow
   have HS5:=kz (((oz HS4).alloc _).span hown hgrow)
   have HL1:=kz (zdY (oz HS4).os)
   have HL2:=kz (zdY hown)
   clear hown hgrow HS4
   go_wp2_with fail
   go_roundw
   case rel =>exact ⟨f',k3,bad3,_,_,HNX,HS5⟩
   case measure =>have:=oz HL1;have:=oz HL2;have:=oz HME;omega
structure Ln where
 E:Nat
 sz:Nat
 n:Nat
 xs:List Value
structure TbAt (W:World) (lo Tx:Nat) (vs:List Value) (ls:List Ln) (eb el ec:Int):Prop where
 lv:17≤vs.length
 ll:ls.length=vs.length
 blk:Blk W Tx (vs.take 17++[Value.int .i64 eb,Value.int .i64 el,Value.int .i64 ec]).toArray 85
 own:∀ (i:Nat) (v:Value) (l:Ln),vs[i]?=some v→ls[i]?=some l→W.ownsRow lo l.E l.sz v l.n l.xs
 apart:∀ (i j:Nat) (v u:Value),i≠j→vs[i]?=some v→vs[j]?=some u→v.ownBlock=none∨v.ownBlock≠u.ownBlock
 lt:Tx < lo
theorem TbAt.cell {W:World} {lo Tx:Nat} {vs:List Value} {ls:List Ln} {eb el ec:Int} (h:TbAt W lo Tx vs ls eb el ec) {i:Nat} {v:Value} (hi:i < 17) (hv:vs[i]?=some v):W.cell? ⟨Tx,i,none⟩=some v:=by
 have hl:=h.lv
 have:=h.blk.cell i
 rw [List.getElem?_toArray,List.getElem?_append_left (by rw [List.length_take];omega),List.getElem?_take_of_lt hi,hv] at this
 exact this
theorem TbAt.ending {W:World} {lo Tx:Nat} {vs:List Value} {ls:List Ln} {eb el ec:Int} (h:TbAt W lo Tx vs ls eb el ec):EndAt W Tx eb el ec:=by
 have hl:(vs.take 17).length=17:=by rw [List.length_take];have:=h.lv;omega
 have e:=fun i =>h.blk.cell i
 refine ⟨(e 17).trans ?_,(e 18).trans ?_,(e 19).trans ?_⟩ <;> rw [List.getElem?_toArray,List.getElem?_append_right (by omega),hl] <;> rfl
theorem TbAt.kept {W W':World} {lo Tx R:Nat} {vs:List Value} {ls:List Ln} {eb el ec:Int} (h:TbAt W lo Tx vs ls eb el ec) (hR:R < lo) (hT:Tx≠R) (hg:W.grownBy W' (some R)):TbAt W' lo Tx vs ls eb el ec :=
 ⟨h.lv,h.ll,h.blk.kept hg (fun e =>hT (Option.some.inj e)),fun i v l hv hl =>zat (h.own i v l hv hl) hg (.inr fun e =>by have:=zam (h.own i v l hv hl) R e;omega),h.apart,h.lt⟩
theorem zbE {W:World} {lo E sz n:Nat} {v:Value} {xs:List Value} (h:W.ownsRow lo E sz v n xs):∀ k,v.ownBlock=some k→k < W.heap.size:=by
 rcases h.2 with ⟨rfl,_⟩ | ⟨g,cap,cur,rfl,hl,hg,_⟩
 ·intro k e;simp [Value.ownBlock] at e
 ·intro k e;simp [Value.ownBlock] at e;subst e;exact (Array.getElem?_eq_some_iff.1 hg).1
theorem zgV {W W':World} {row:Option Nat} (h:W.grownBy W' none):W.grownBy W' row:=⟨h.os,h.tape,h.output,h.size,fun i hi _ =>h.block i hi (by simp)⟩
theorem TbAt.put {W W1:World} {lo Tx i:Nat} {vs:List Value} {ls:List Ln} {eb el ec:Int} {v v':Value} {l:Ln} {n:Nat} {xs:List Value} (h:TbAt W lo Tx vs ls eb el ec) (h17:i < 17) (hv:vs[i]?=some v) (hl:ls[i]?=some l)
  (ho:W1.ownsRow lo l.E l.sz v' n xs) (hg:W.grownBy W1 v.ownBlock) (hat:v'.ownBlock=v.ownBlock∨v'.ownBlock=some W.heap.size):TbAt (W1.setCell ⟨Tx,i,none⟩ v') lo Tx (vs.set i v') (ls.set i ⟨l.E,l.sz,n,xs⟩) eb el ec:=by
 have hi:=(List.getElem?_eq_some_iff.1 hv).1
 have hq:=zad W1 Tx i v'
 have hvl:=zam (h.own i v l hv hl)
 have hlt:=h.lt
 have hTne:∀ (u:Value) (m:Ln) (V:World),V.ownsRow lo m.E m.sz u m.n m.xs→u.ownBlock=none∨u.ownBlock≠some Tx:=fun u m V hu =>.inr fun e =>by have:=zam hu Tx e;omega
 have hA:∀ (j:Nat) (u:Value),j≠i→vs[j]?=some u→u.ownBlock=none∨u.ownBlock≠v'.ownBlock:=by
  intro j u hj hu
  rcases hat with e | e
  ·rw [e];exact h.apart j i u v hj hu hv
  ·rw [e]
   refine .inr fun e2 =>?_
   obtain ⟨m,hm⟩:∃ m,ls[j]?=some m:=⟨_,List.getElem?_eq_getElem (by have:=(List.getElem?_eq_some_iff.1 hu).1;have:=h.lv;have:=h.ll;omega)⟩
   have:=zbE (h.own j u m hu hm) _ e2
   omega
 refine ⟨by rw [List.length_set];exact h.lv,by rw [List.length_set,List.length_set];exact h.ll, ?_, ?_, ?_,h.lt⟩
 ·have b1:Blk W1 Tx _ _:=h.blk.kept hg (fun e =>by have:=hvl Tx e.symm;omega)
  have b2:=b1.set i v'
  rw [show ((vs.set i v').take 17++[Value.int .i64 eb,.int .i64 el,.int .i64 ec]).toArray=((vs.take 17++[Value.int .i64 eb,.int .i64 el,.int .i64 ec]).toArray).setIfInBounds i v' by
   rw [List.setIfInBounds_toArray,List.set_append_left _ _ (by rw [List.length_take];have:=h.lv;omega),List.take_set]]
  exact b2
 ·intro j u m hu hm
  by_cases hj:j=i
  ·subst hj
   rw [List.getElem?_set_self (by omega)] at hu
   rw [List.getElem?_set_self (by have:=h.lv;have:=h.ll;omega)] at hm
   obtain rfl:=Option.some.inj hu
   obtain rfl:=Option.some.inj hm
   exact zat ho hq (.inr fun e =>by have:=zam ho Tx e;omega)
  ·rw [List.getElem?_set_ne (Ne.symm hj)] at hu
   rw [List.getElem?_set_ne (Ne.symm hj)] at hm
   have o1:=h.own j u m hu hm
   exact zat (zat o1 hg (h.apart j i u v hj hu hv)) hq (.inr fun e =>by have:=zam o1 Tx e;omega)
 ·intro j p u x hjp hu hx
  by_cases hj:j=i
  ·subst hj
   rw [List.getElem?_set_self (by omega)] at hu
   rw [List.getElem?_set_ne hjp] at hx
   obtain rfl:=Option.some.inj hu
   rcases hA p x (Ne.symm hjp) hx with e | e
   ·rw [e]
    cases e2:v'.ownBlock with
    | none =>exact .inl rfl
    | some y =>exact .inr (by simp)
   ·exact .inr (Ne.symm e)
  ·rw [List.getElem?_set_ne (Ne.symm hj)] at hu
   by_cases hp:p=i
   ·subst hp
    rw [List.getElem?_set_self (by omega)] at hx
    obtain rfl:=Option.some.inj hx
    exact hA j u hj hu
   ·rw [List.getElem?_set_ne (Ne.symm hp)] at hx
    exact h.apart j p u x hjp hu hx
theorem TbAt.more {W:World} {lo Tx:Nat} {vs:List Value} {ls:List Ln} {eb el ec:Int} (h:TbAt W lo Tx vs ls eb el ec) {u:Value} {m:Ln} (hu:W.ownsRow lo m.E m.sz u m.n m.xs) (ha:∀ (j:Nat) (x:Value),vs[j]?=some x→u.ownBlock=none∨u.ownBlock≠x.ownBlock):TbAt W lo Tx (vs++[u]) (ls++[m]) eb el ec:=by
 have hlv:=h.lv
 have hll:=h.ll
 have hq:∀ (a b:Option Nat),a=none∨a≠b→b=none∨b≠a:=by
  intro a b hab
  cases b with
  | none =>exact .inl rfl
  | some y => rcases hab with e | e
              · rw [e];exact .inr (by simp)
              · exact .inr (Ne.symm e)
 refine ⟨by rw [List.length_append];omega,by rw [List.length_append,List.length_append,hll];rfl,by rw [List.take_append_of_le_length hlv];exact h.blk, ?_, ?_,h.lt⟩
 ·intro i v l hv hl
  by_cases hi:i < vs.length
  ·rw [List.getElem?_append_left hi] at hv
   rw [List.getElem?_append_left (by omega)] at hl
   exact h.own i v l hv hl
  ·have hi2:=(List.getElem?_eq_some_iff.1 hv).1
   rw [List.length_append,List.length_singleton] at hi2
   obtain rfl:i=vs.length:=by omega
   rw [List.getElem?_concat_length] at hv
   rw [← hll,List.getElem?_concat_length] at hl
   obtain rfl:=Option.some.inj hv
   obtain rfl:=Option.some.inj hl
   exact hu
 ·intro i j v x hij hv hx
  have key:∀ (i:Nat) (v:Value),(vs++[u])[i]?=some v→(i < vs.length∧vs[i]?=some v)∨(i=vs.length∧v=u):=by
   intro i v hv
   by_cases hi:i < vs.length
   ·rw [List.getElem?_append_left hi] at hv;exact .inl ⟨hi,hv⟩
   ·have hi2:=(List.getElem?_eq_some_iff.1 hv).1
    rw [List.length_append,List.length_singleton] at hi2
    obtain rfl:i=vs.length:=by omega
    rw [List.getElem?_concat_length] at hv
    exact .inr ⟨rfl,(Option.some.inj hv).symm⟩
  rcases key i v hv with ⟨h1,h2⟩ | ⟨h1,rfl⟩ <;> rcases key j x hx with ⟨h3,h4⟩ | ⟨h3,rfl⟩
  ·exact h.apart i j v x hij h2 h4
  ·exact hq _ _ (ha i v h2)
  ·exact ha j x h4
  ·exact absurd (h1.trans h3.symm) hij
structure Fr (lo R Tx:Nat) (W W':World):Prop where
 os:W'.os=W.os
 tape:W'.tape=W.tape
 output:W'.output=W.output
 size:W.heap.size≤W'.heap.size
 block:∀ i,i < lo→i≠R→i≠Tx→W'.heap[i]?=W.heap[i]?
theorem Fr.refl (lo R Tx:Nat) (W:World):Fr lo R Tx W W:=⟨rfl,rfl,rfl,Nat.le_refl _,fun _ _ _ _ =>rfl⟩
theorem Fr.trans {lo R Tx:Nat} {a b c:World} (h:Fr lo R Tx a b) (k:Fr lo R Tx b c):Fr lo R Tx a c:=⟨k.os.trans h.os,k.tape.trans h.tape,k.output.trans h.output,Nat.le_trans h.size k.size,fun i h1 h2 h3 =>(k.block i h1 h2 h3).trans (h.block i h1 h2 h3)⟩
theorem Fr.grown {lo R Tx:Nat} {W W':World} {row:Option Nat} (hlo:lo≤W.heap.size) (hg:W.grownBy W' row) (hr:∀ b,row=some b→b=R∨b=Tx∨lo≤b):Fr lo R Tx W W':=⟨hg.os,hg.tape,hg.output,hg.size,fun i h1 h2 h3 =>hg.block i (by omega) (fun e =>by rcases hr i e.symm with h | h | h <;> omega)⟩
def Pl (W:World) (a:Option Addr) (m c:Nat) (news:List Value):Prop :=
 (a=none∧m=0∧c=0∧news=[])∨∃ ad,a=some ad∧0 < m∧news.length=m*3∧(∀ j u,news[j]?=some u→W.cell? (ad.add j)=some u)∧∀ u ∈ news,u.oneCell'=true
theorem za0 {P:Program} {w:World} {ops:Array Oper} {o:Oper} {a:Act} {K:Act→World→Prop} {Q:Exit→Act→World→Prop} {E:Prop} (hgd:o.guard=none) (s x:Operand) (t:TypeId)
  (ho:o.op=.call { callee := .builtin .append,args:=#[s,x],argTypes:=#[t,t] })
  (base:Nat) (e:TypeId) (i:TypeInfo) (size:Nat) (ht:P.underlying t=some (.slice e)) (hi:P.info? e=some i)
  (v:Value) (n:Nat) (xs:List Value) (hs:a.eval s=v) (hown:w.ownsRow base e size v n xs) (hx:a.eval x=.slice none 0 0)
  (h:K (a.put o.dst v) w):if Region.wanted o (yielded ops a.tmps)=true then Oper.wp P o a w K Q else E:=by
 have hw:Region.wanted o (yielded ops a.tmps)=true:=by simp [Region.wanted,hgd]
 rw [if_pos hw]
 have hrun:=run_append_owned_none (P:=P) (w:=w) base t o.type e i size ht hi v n xs hown
 unfold Oper.wp
 simp [execOp,ho,resolve,invoke,builtin,hs,hx,hrun,Result.andThen]
 exact h
theorem zab {W:World} {lo E sz n:Nat} {v:Value} {xs:List Value} (h:W.ownsRow lo E sz v n xs):∃ a c,v=.slice a n c:=by
 rcases h.2 with ⟨rfl,rfl⟩ | ⟨g,cap,cur,rfl,_⟩
 ·exact ⟨none,0,rfl⟩
 ·exact ⟨_,_,rfl⟩
theorem zhv {W W1:World} {R Tx g lo:Nat} {ws:List W8} {k:Nat} {bad:Option Rf} {eb el ec:Int} {vs:List Value} {ls:List Ln} {i:Nat} {v v':Value} {l:Ln} {n:Nat} {xs:List Value} (h17:i < 17) (hv:vs[i]?=some v) (hl:ls[i]?=some l) (hE:l.E≠80)
  (hR:R < lo) (hgT:g≠Tx) (hgl:∀ (j:Nat) (y:W8),ws[j]?=some y→g < lo) (hlo:lo≤W.heap.size) (h:RdE W R Tx g ws k bad eb el ec) (hb:TbAt W lo Tx vs ls eb el ec)
  (ho:W1.ownsRow lo l.E l.sz v' n xs) (hg:W.grownBy W1 v.ownBlock) (hat:v'.ownBlock=v.ownBlock∨v'.ownBlock=some W.heap.size) :
  RdE (W1.setCell ⟨Tx,i,none⟩ v') R Tx g ws k bad eb el ec∧TbAt (W1.setCell ⟨Tx,i,none⟩ v') lo Tx (vs.set i v') (ls.set i ⟨l.E,l.sz,n,xs⟩) eb el ec∧Fr lo R Tx W (W1.setCell ⟨Tx,i,none⟩ v'):=by
 have hp:=hb.put h17 hv hl ho hg hat
 have how:=hb.own i v l hv hl
 have h1:=h.own how hE hR hb.lt hgl hg
 have hq:=zad W1 Tx i v'
 have hbt:=hb.blk.kept hg (fun e =>by have:=zam how Tx e.symm;have:=hb.lt;omega)
 refine ⟨⟨h1.rd.far hq h.ne.symm (fun _ _ _ =>hgT) (fun F y hy e =>by subst e;have:=zb9 hy hbt;revert this;decide),hp.ending,h.ne⟩,hp, ?_⟩
 exact (Fr.grown hlo hg (fun b e =>.inr (.inr (zam how b e)))).trans (Fr.grown (Nat.le_trans hlo hg.size) hq (fun b e =>.inr (.inl (Option.some.inj e).symm)))
set_option maxRecDepth 100000 in
set_option maxHeartbeats 4000000 in
theorem rows_any (R Tx g lo:Nat) (ws:List W8) (k:Nat) (bad:Option Rf) (eb el ec:Int) (vs:List Value) (ls:List Ln) (i:Nat) (hi:i≤8) (v:Value) (n:Nat) (xs:List Value) (hv:vs[8+i]?=some v) (hl:ls[8+i]?=some ⟨53,3,n,xs⟩)
  (hR:R < lo) (hgT:g≠Tx) (hgl:∀ (j:Nat) (y:W8),ws[j]?=some y→g < lo) (a:Option Addr) (m c:Nat) (news:List Value) (hn:n+m≤2000000) (W:World) (hlo:lo≤W.heap.size) (h:RdE W R Tx g ws k bad eb el ec) (hb:TbAt W lo Tx vs ls eb el ec) (hp:Pl W a m c news) :
  Calls Tryz.prog 149 #[.pointer (some ⟨R,0,none⟩),.int .i64 i,.slice a m c] W fun e w' =>(∃ r,e=.returned r)∧RdE w' R Tx g ws k bad eb el ec∧(∃ v',TbAt w' lo Tx (vs.set (8+i) v') (ls.set (8+i) ⟨53,3,n+m,xs++news⟩) eb el ec)∧Fr lo R Tx W w':=by
 obtain ⟨ra,rc,rv,hrb,_,_,_⟩:=h.rd.blk
 have c1:W.cell? ⟨R,1,none⟩=some (.pointer (some ⟨Tx,0,none⟩)):=hrb.cell 1
 have t0:=hb.cell (by omega) hv
 have tf:=hb.blk.frozen (8+i)
 have i0:(0:Int)≤(i:Int):=by omega
 have i9:(i:Int) < 9:=by omega
 have H:=kz h
 have HB:=kz hb
 obtain ⟨ia,hia,ha0,ha1,ha2⟩:=info_parts infoAt
 have HIA:=kz (And.intro hia (And.intro ha0 (And.intro ha1 ha2)))
 clear hia ha0 ha1 ha2 hrb h hb
 go_enter Tryz.func149,Tryz.ntmps149
 have hmx:Tryz.prog.follows .mixedOrders=true:=by kernel_rfl
 have hTl:=(oz HB).lt
 have how:=(oz HB).own _ _ _ hv hl
 obtain ⟨va,vc,rfl⟩:=zab how
 rcases hp with ⟨rfl,rfl,rfl,rfl⟩ | ⟨ad,rfl,hm0,hnl,hnc,hn1⟩
 ·have tf2:W.drew.frozen? ⟨Tx,8+i,none⟩=false:=tf
  go_region_law (refine za0 (by rfl) _ _ _ (by rfl) lo 53 ia 3 Tryz.underlying82 (oz HIA).1 _ n xs (by rfl) how.drew (by rfl) ?_)
  all_goals
   have hfin:=zhv (W1:=W.drew) (by omega) hv hl (show (53:Nat)≠80 by decide) hR hgT hgl hlo (oz H) (oz HB) (n:=n+0) (xs:=xs++[]) (by rw [List.append_nil];exact how.drew) ⟨rfl,rfl,rfl,Nat.le_refl _,fun _ _ _ =>rfl⟩ (.inl rfl)
   go_end0
   exact ⟨⟨_,rfl⟩,hfin.1,⟨_,hfin.2.1⟩,hfin.2.2⟩
 ·have hg1:∀ b,Value.ownBlock (.slice va n vc)=some b→lo≤b:=zam how
  go_region_law (refine step_append_lies _ (by rfl) _ _ _ (by rfl) lo 53 ia (.agg #[.int .i64 0,.int .i64 0,.int .i64 0]) 3 24 Tryz.underlying82 (oz HIA).1 (oz HIA).2.1 (oz HIA).2.2.1 (oz HIA).2.2.2 rfl (by omega) _ n xs (by rfl) how.drew ad m c news (by rfl) hnl hnc hn1 hm0 (by unfold maxLen;omega) (by omega) hlo W.heap.size (by simp) ?_;intro gg cap w3 hown1 hgrow hatt hlt;have q1:w3.cell? ⟨Tx,8+i,none⟩=some (.slice va n vc):=hgrow.cell (a:=⟨Tx,8+i,none⟩) t0 (by show some Tx≠Value.ownBlock (.slice va n vc);intro e;have:=hg1 Tx e.symm;omega);have q2:w3.frozen? ⟨Tx,8+i,none⟩=false:=(Blk.kept (W:=W.drew) (oz HB).blk hgrow (fun e =>by have:=hg1 Tx e.symm;omega)).frozen (8+i);have q3:w3.cell? ⟨R,1,none⟩=some (.pointer (some ⟨Tx,0,none⟩)):=hgrow.cell (a:=⟨R,1,none⟩) c1 (by show some R≠Value.ownBlock (.slice va n vc);intro e;have:=hg1 R e.symm;omega))
  all_goals
   have hfin:=zhv (by omega) hv hl (show (53:Nat)≠80 by decide) hR hgT hgl hlo (oz H) (oz HB) hown1 ⟨hgrow.os,hgrow.tape,hgrow.output,hgrow.size,hgrow.block⟩ (by rcases hatt with e | e;exact .inl e.symm;exact .inr (by rw [e];rfl))
   go_end0
   exact ⟨⟨_,rfl⟩,hfin.1,⟨_,hfin.2.1⟩,hfin.2.2⟩
structure PrAt (W:World) (lo N:Nat) (t:List UInt8) (bg wr:Bool):Prop where
 blk:∃ p v,Blk W N #[p,v,.bool bg,.bool wr] 109∧(p=.pointer none∨p=.pointer (some ⟨N,0,none⟩))∧W.ownsRow lo 5 1 v t.length (Lib.byteCells t)
 lt:N < lo
 lw:lo≤W.heap.size
theorem ziG:(Tryz.prog.info? 5).map (fun i =>(i.zero,i.size,i.bytes))=some (some (.int .u8 0),1,1):=by kernel_rfl
theorem sizeBld:(Tryz.prog.info? 107).map (·.size)=some 2:=by kernel_rfl
theorem liesBld:liesAt Tryz.prog Tryz.prog.depth 109 (4 / Tryz.prog.cellsOf 109) 0 107 1=true:=by kernel_rfl
theorem Blk.shape {W:World} {B:Nat} {cs:Array Value} {t:TypeId} (h:Blk W B cs t):W.shape? B=some (t,cs.size):=by
 have h':W.heap[B]?=some (.cells cs t (0,0)):=h
 simp [World.shape?,h']
theorem pn_len (lo N:Nat) (t:List UInt8) (bg wr:Bool) (W:World) (h:PrAt W lo N t bg wr) :
  Calls Tryz.prog 79 #[.pointer (some ⟨N,0,none⟩)] W fun e w' =>e=.returned (.int .i64 t.length)∧w'=W:=by
 obtain ⟨p,v,hb,hp,ho⟩:=h.blk
 obtain ⟨a,c,rfl⟩:=zab ho
 have c1:=hb.cell 1
 clear h hb ho
 go_enter Tryz.func79,Tryz.ntmps79
 go_wp2_with fail
 go_ret
 exact ⟨rfl,rfl⟩
set_option maxRecDepth 100000 in
set_option maxHeartbeats 4000000 in
theorem zkd (lo N:Nat) (t:List UInt8) (bg wr:Bool) (W:World) (h:PrAt W lo N t bg wr) :
  Calls Tryz.prog 151 #[.pointer (some ⟨N,0,none⟩)] W fun e w' =>(∃ r,e=.returned r)∧PrAt w' lo N t bg wr∧W.grownBy w' (some N):=by
 obtain ⟨p,v,hb,hp,ho⟩:=h.blk
 obtain ⟨j,hj,hjs⟩:=Option.map_eq_some_iff.1 sizeBld
 have hsh:=hb.shape
 have c0:=hb.cell 0
 have f0:=hb.frozen 0
 rcases hp with rfl | rfl
 ·have hne:v.ownBlock=none∨v.ownBlock≠some N := .inr fun e =>by have:=zam ho N e;have:=h.lt;omega
  have hfin:PrAt (W.setCell ⟨N,0,none⟩ (.pointer (some ⟨N,0,none⟩))) lo N t bg wr:=⟨⟨_,v,hb.set 0 _,.inr rfl,zat ho (zad W N 0 _) hne⟩,h.lt,by have:=(zad W N 0 (.pointer (some ⟨N,0,none⟩))).size;have:=h.lw;omega⟩
  have HF:=kz hfin
  have HSH:=kz hsh
  clear hfin h hb ho hne hsh
  go_enter Tryz.func151,Tryz.ntmps151
  go_wp2_with fail
  rw [Lib.run_to_unsafe W ⟨N,0,none⟩ Tryz.underlying104 Tryz.underlying175 hj (by rw [hjs];decide) (oz HSH) (by show 0 < 4;decide)]
  simp only [Result.andThen]
  rw [Oper.upon_value]
  go_wp2_with fail
  rw [run_callFunc_extern Tryz.func170 (by kernel_rfl) (by kernel_rfl) (by kernel_rfl) (e:=Extern.AbiNoEscape.same) (by kernel_rfl)]
  rw [Lib.run_noEscape]
  simp only [Result.andThen]
  rw [Oper.upon_value]
  go_wp2_with fail
  rw [Lib.run_from_unsafe W ⟨N,0,none⟩ Tryz.underlying175 Tryz.underlying104 hj (oz HSH) liesBld]
  simp only [Result.andThen]
  rw [Oper.upon_value]
  go_wp2_with fail
  go_end0
  exact ⟨⟨_,rfl⟩,oz HF,zad W N 0 _⟩
 ·have HF:=kz h
  clear h hb ho hsh
  go_enter Tryz.func151,Tryz.ntmps151
  go_wp2_with fail
  rw [Lib.run_neq_ptr_same W _ Tryz.underlying104 hj]
  go_wp2_with fail
  go_end0
  exact ⟨⟨_,rfl⟩,oz HF,⟨rfl,rfl,rfl,Nat.le_refl _,fun _ _ _ =>rfl⟩⟩
structure RuSt (W0 W:World) (R Tx g lo:Nat) (ws:List W8) (k:Nat) (bad:Option Rf) (eb el ec:Int) (vs:List Value) (ls:List Ln):Prop where
 rd:RdE W R Tx g ws k bad eb el ec
 tb:TbAt W lo Tx vs ls eb el ec
 fr:Fr lo R Tx W0 W
 low:lo≤W.heap.size
 hR:R < lo
 hgT:g≠Tx
 hgl:∀ (j:Nat) (y:W8),ws[j]?=some y→g < lo
theorem RuSt.call {W0 W W2:World} {R Tx g lo:Nat} {ws:List W8} {k k2:Nat} {bad bad2:Option Rf} {eb el ec:Int} {vs:List Value} {ls:List Ln} (h:RuSt W0 W R Tx g lo ws k bad eb el ec vs ls) (h2:RdE W2 R Tx g ws k2 bad2 eb el ec) (hg:W.grownBy W2 (some R)):RuSt W0 W2 R Tx g lo ws k2 bad2 eb el ec vs ls :=
 ⟨h2,h.tb.kept h.hR h.rd.ne hg,h.fr.trans (Fr.grown h.low hg (fun b e =>.inl (Option.some.inj e).symm)),Nat.le_trans h.low hg.size,h.hR,h.hgT,h.hgl⟩
theorem RuSt.alloc {W0 W:World} {R Tx g lo:Nat} {ws:List W8} {k:Nat} {bad:Option Rf} {eb el ec:Int} {vs:List Value} {ls:List Ln} (h:RuSt W0 W R Tx g lo ws k bad eb el ec vs ls) (o:Obj):RuSt W0 (W.alloc o) R Tx g lo ws k bad eb el ec vs ls:=h.call (h.rd.alloc o) (World.grownBy_alloc W o _)
theorem RuSt.put {W0 W W1:World} {R Tx g lo:Nat} {ws:List W8} {k:Nat} {bad:Option Rf} {eb el ec:Int} {vs:List Value} {ls:List Ln} {i:Nat} {v v':Value} {l:Ln} {n:Nat} {xs:List Value} (h:RuSt W0 W R Tx g lo ws k bad eb el ec vs ls) (h17:i < 17) (hv:vs[i]?=some v) (hl:ls[i]?=some l) (hE:l.E≠80) (ho:W1.ownsRow lo l.E l.sz v' n xs) (hg:W.grownBy W1 v.ownBlock) (hat:v'.ownBlock=v.ownBlock∨v'.ownBlock=some W.heap.size) :
  RuSt W0 (W1.setCell ⟨Tx,i,none⟩ v') R Tx g lo ws k bad eb el ec (vs.set i v') (ls.set i ⟨l.E,l.sz,n,xs⟩):=by
 obtain ⟨h1,h2,h3⟩:=zhv h17 hv hl hE h.hR h.hgT h.hgl h.low h.rd h.tb ho hg hat
 exact ⟨h1,h2,h.fr.trans h3,Nat.le_trans h.low h3.size,h.hR,h.hgT,h.hgl⟩
theorem zdX (W0:World) (R Tx g lo:Nat) (ws:List W8) (k:Nat) (bad:Option Rf) (eb el ec:Int) (vs:List Value) (ls:List Ln) (i:Nat) (hi:i≤8) (n:Nat) (xs:List Value) (hl:ls[8+i]?=some ⟨53,3,n,xs⟩) (a:Option Addr) (m c:Nat) (news:List Value) (hn:n+m≤2000000) (W:World) (h:RuSt W0 W R Tx g lo ws k bad eb el ec vs ls) (hp:Pl W a m c news) :
  Calls Tryz.prog 149 #[.pointer (some ⟨R,0,none⟩),.int .i64 i,.slice a m c] W fun e w' =>(∃ r,e=.returned r)∧∃ v',RuSt W0 w' R Tx g lo ws k bad eb el ec (vs.set (8+i) v') (ls.set (8+i) ⟨53,3,n+m,xs++news⟩):=by
 obtain ⟨v,hv⟩:∃ v,vs[8+i]?=some v:=⟨_,List.getElem?_eq_getElem (by have:=h.tb.lv;omega)⟩
 refine (rows_any R Tx g lo ws k bad eb el ec vs ls i hi v n xs hv hl h.hR h.hgT h.hgl a m c news hn W h.low h.rd h.tb hp).mono ?_
 rintro e w' ⟨h1,h2,⟨v',h3⟩,h4⟩
 exact ⟨h1,v',h2,h3,h.fr.trans h4,Nat.le_trans h.low h4.size,h.hR,h.hgT,h.hgl⟩
structure Mk where
 on:Int
 cl:Int
 k:Nat
 bad:Option Rf
def zcn (ws:List W8) (k:Nat) (bad:Option Rf) (eb el ec:Int):Mk :=
 let a:=zaa ws k bad eb el ec 3
 let b:=zaa ws a.k a.bad eb el ec 2
 let c:=zaa ws b.k b.bad eb el ec 6
 ⟨a.x.r,b.x.n,c.k,c.bad⟩
theorem zbK {W:World} {N lo E E' sz n:Nat} {cs:Array Value} {v:Value} {xs:List Value} (hb:Blk W N cs E') (h:W.ownsRow lo E sz v n xs) (hE:E≠E'):some N≠v.ownBlock:=by
 rcases h.2 with ⟨rfl,_⟩ | ⟨g,cap,cur,rfl,_,hg,_⟩
 ·simp [Value.ownBlock]
 ·simp only [Value.ownBlock]
  intro e
  have e:=Option.some.inj e
  subst e
  exact hE (zb9 (show Blk W N cur E from hg) hb)
theorem zhH:(Tryz.prog.info? 93).map (fun i =>(i.zero,i.size,i.bytes))=some (some (.agg #[.int .i32 0,.int .i64 0]),2,16):=by kernel_rfl
theorem field_n (a:Int) (b:ByteArray) (c d e f g h:Int) (w:World):(Instr.field 147 (.agg #[.int .i64 a,.string b,.int .i32 c,.int .i64 d,.int .i64 e,.int .i64 f,.int .i64 g,.int .i64 h]) 3).run Tryz.prog w=.ok (.int .i64 d) w:=by kernel_rfl
set_option maxRecDepth 100000 in
set_option maxHeartbeats 4000000 in
theorem mark_any (R Tx g lo:Nat) (ws:List W8) (k:Nat) (bad:Option Rf) (eb el ec fb fl fc:Int) (vs:List Value) (ls:List Ln) (n1 n2:Nat) (xs1 xs2:List Value) (hl1:ls[2]?=some ⟨93,2,n1,xs1⟩) (hl2:ls[11]?=some ⟨53,3,n2,xs2⟩) (hn1:n1≤1000000) (hn2:n2≤1000000) (W0 W:World) (h:RuSt W0 W R Tx g lo ws k bad eb el ec vs ls) :
  Calls Tryz.prog 113 #[.pointer (some ⟨R,0,none⟩),.agg #[.int .i64 fb,.int .i64 fl,.int .i64 fc]] W fun e w' =>(∃ r,e=.returned r)∧∃ va vb,RuSt W0 w' R Tx g lo ws (zcn ws k bad eb el ec).k (zcn ws k bad eb el ec).bad eb el ec ((vs.set 2 va).set 11 vb) ((ls.set 2 ⟨93,2,n1+1,xs1++[.int .i32 (zcn ws k bad eb el ec).on,.int .i64 (zcn ws k bad eb el ec).cl]⟩).set 11 ⟨53,3,n2+1,xs2++[.int .i64 fb,.int .i64 fl,.int .i64 fc]⟩):=by
 have hNR:R < W.heap.size:=Nat.lt_of_lt_of_le h.hR h.low
 have HLo:=kz h.low
 have HV:Hz (zcn ws k bad eb el ec=⟨(zaa ws k bad eb el ec 3).x.r,(zaa ws (zaa ws k bad eb el ec 3).k (zaa ws k bad eb el ec 3).bad eb el ec 2).x.n,(zaa ws (zaa ws (zaa ws k bad eb el ec 3).k (zaa ws k bad eb el ec 3).bad eb el ec 2).k (zaa ws (zaa ws k bad eb el ec 3).k (zaa ws k bad eb el ec 3).bad eb el ec 2).bad eb el ec 6).k,(zaa ws (zaa ws (zaa ws k bad eb el ec 3).k (zaa ws k bad eb el ec 3).bad eb el ec 2).k (zaa ws (zaa ws k bad eb el ec 3).k (zaa ws k bad eb el ec 3).bad eb el ec 2).bad eb el ec 6).bad⟩):=kz rfl
 generalize zcn ws k bad eb el ec=V at *
 obtain ⟨im,him,hm0,hm1,hm2⟩:=info_parts zhH
 have HIM:=kz (And.intro him (And.intro hm0 (And.intro hm1 hm2)))
 clear him hm0 hm1 hm2
 have hmx:Tryz.prog.follows .mixedOrders=true:=by kernel_rfl
 have H:=kz (h.alloc (.cells #[.int .i64 fb,.int .i64 fl,.int .i64 fc] 53))
 have HX:=kz (Blk.new W #[.int .i64 fb,.int .i64 fl,.int .i64 fc] 53)
 clear h
 go_enter Tryz.func113,Tryz.ntmps113
 go_wp2_with fail
 generalize W.alloc (.cells #[.int .i64 fb,.int .i64 fl,.int .i64 fc] 53)=WA at *
 generalize W.heap.size=N at *
 refine (zbS R Tx g ws k bad eb el ec 3 WA (oz H).rd).mono ?_
 rintro e w1 ⟨rfl,hR1,hg1⟩
 have H1:=kz ((oz H).call hR1 hg1)
 have HX1:=kz ((oz HX).kept hg1 (fun e =>by have:=Option.some.inj e;omega))
 clear hR1 hg1 H HX
 generalize zaa ws k bad eb el ec 3=A at *
 obtain ⟨⟨ak,aS,ar,an,ab,al,ac,ae⟩,k1,bad1⟩:=A
 dsimp only at H1 HV
 unfold wV
 dsimp only
 have hf:=zdA ak aS ar an ab al ac ae
 go_wp2_with fail
 refine (zbS R Tx g ws k1 bad1 eb el ec 2 w1 (oz H1).rd).mono ?_
 rintro e w2 ⟨rfl,hR2,hg2⟩
 have H2:=kz ((oz H1).call hR2 hg2)
 have HX2:=kz ((oz HX1).kept hg2 (fun e =>by have:=Option.some.inj e;omega))
 clear hR2 hg2 H1 HX1 hf
 generalize zaa ws k1 bad1 eb el ec 2=B at *
 obtain ⟨⟨bk,bS,br,bn,bb,bl,bc,be⟩,k2,bad2⟩:=B
 dsimp only at H2 HV
 unfold wV
 dsimp only
 have hf:=field_n bk bS br bn bb bl bc be
 go_wp2_with fail
 refine (zbS R Tx g ws k2 bad2 eb el ec 6 w2 (oz H2).rd).mono ?_
 rintro e w3 ⟨rfl,hR3,hg3⟩
 have H3:=kz ((oz H2).call hR3 hg3)
 have HX3:=kz ((oz HX2).kept hg3 (fun e =>by have:=Option.some.inj e;omega))
 clear hR3 hg3 H2 HX2 hf
 generalize zaa ws k2 bad2 eb el ec 6=C at *
 obtain ⟨cx,k3,bad3⟩:=C
 dsimp only at H3 HV
 dsimp only
 generalize wV cx=vcx
 go_wp2_with fail
 obtain ⟨v,hv⟩:∃ v,vs[2]?=some v:=⟨_,List.getElem?_eq_getElem (by have:=(oz H3).tb.lv;omega)⟩
 have how:=(oz H3).tb.own _ _ _ hv hl1
 obtain ⟨va,vc,rfl⟩:=zab how
 have hg0:∀ b,Value.ownBlock (.slice va n1 vc)=some b→lo≤b:=zam how
 obtain ⟨ra,rc,rv,hrb,_,_,_⟩:=(oz H3).rd.rd.blk
 have c1:w3.cell? ⟨R,1,none⟩=some (.pointer (some ⟨Tx,0,none⟩)):=hrb.cell 1
 have t0:=(oz H3).tb.cell (by omega) hv
 have hTl:=(oz H3).tb.lt
 have hRl:=(oz H3).hR
 have hl3:=(oz H3).low
 have hltR:R < w3.heap.size:=by omega
 have hltT:Tx < w3.heap.size:=by omega
 have ca1:=(hrb.alloc (.cells #[.int .i32 ar,.int .i64 bn] 93)).cell 1
 have ta:=((oz H3).tb.kept (R:=R) hRl (oz H3).rd.ne (World.grownBy_alloc w3 (.cells #[.int .i32 ar,.int .i64 bn] 93) _))
 have t1:=ta.cell (by omega) hv
 have hNx:some N≠Value.ownBlock (.slice va n1 vc):=zbK (oz HX3) how (show (93:Nat)≠53 by decide)
 clear hrb
 go_region_law (refine step_append_lies _ (by rfl) _ _ _ (by rfl) lo 93 im (.agg #[.int .i32 0,.int .i64 0]) 2 16 Tryz.underlying29 (oz HIM).1 (oz HIM).2.1 (oz HIM).2.2.1 (oz HIM).2.2.2 rfl (by omega) _ n1 xs1 (by rfl) (how.alloc _).drew ⟨w3.heap.size,0,none⟩ 1 1 [.int .i32 ar,.int .i64 bn] (by rfl) (by rfl) (World.news_of_block (cs:=#[.int .i32 ar,.int .i64 bn]) (t:=93) (fr:=(0,0)) (heap_alloc_new w3 _)) (by simp [Value.oneCell']) (by omega) (by unfold maxLen;omega) (by omega) (by simp;omega) (w3.heap.size+1) (by simp) ?_;intro gg cap w4 hown1 hgrow hatt hlt;have q1:w4.cell? ⟨Tx,2,none⟩=some (.slice va n1 vc):=hgrow.cell (a:=⟨Tx,2,none⟩) t1 (by show some Tx≠Value.ownBlock (.slice va n1 vc);intro e;have:=hg0 Tx e.symm;omega);have q2:w4.frozen? ⟨Tx,2,none⟩=false:=(Blk.kept (W:=(w3.alloc _).drew) ta.blk hgrow (fun e =>by have:=hg0 Tx e.symm;omega)).frozen 2;have q3:w4.cell? ⟨R,1,none⟩=some (.pointer (some ⟨Tx,0,none⟩)):=hgrow.cell (a:=⟨R,1,none⟩) ca1 (by show some R≠Value.ownBlock (.slice va n1 vc);intro e;have:=hg0 R e.symm;omega))
 all_goals
  have H4:=kz (((oz H3).alloc (.cells #[.int .i32 ar,.int .i64 bn] 93)).put (W1:=w4) (by omega) hv hl1 (show (93:Nat)≠80 by decide) hown1 ⟨hgrow.os,hgrow.tape,hgrow.output,hgrow.size,hgrow.block⟩ (by rcases hatt with e | e;exact .inl e.symm;exact .inr (by rw [e];simp [Value.ownBlock])))
  have hx5:=(Blk.kept (W:=(w3.alloc (.cells #[.int .i32 ar,.int .i64 bn] 93)).drew) ((oz HX3).alloc _) hgrow hNx).kept (zad w4 Tx 2 (.slice (some ⟨gg,0,none⟩) (n1+1) cap)) (fun e =>by have:=Option.some.inj e;have:=oz HLo;omega)
  clear hgrow hown1 hatt hlt q1 q2 q3 H3 HX3 how c1 t0 ca1 ta t1
  generalize w4.setCell ⟨Tx,2,none⟩ (.slice (some ⟨gg,0,none⟩) (n1+1) cap)=w5 at *
  have x0:=hx5.cell 0
  have x1:=hx5.cell 1
  have x2:=hx5.cell 2
  clear hx5
  have HP:=kz (Blk.new w5 #[.int .i64 fb,.int .i64 fl,.int .i64 fc] 53)
  go_wp2_with fail
  refine (zdX W0 R Tx g lo ws k3 bad3 eb el ec _ _ 3 (by omega) n2 xs2 (by rw [List.getElem?_set_ne (by decide)];exact hl2) _ 1 1 [.int .i64 fb,.int .i64 fl,.int .i64 fc] (by omega) _ ((oz H4).alloc _) (.inr ⟨_,rfl,by decide,rfl,World.news_of_block (cs:=#[.int .i64 fb,.int .i64 fl,.int .i64 fc]) (t:=53) (fr:=(0,0)) (heap_alloc_new w5 _),by simp [Value.oneCell']⟩)).mono ?_
  rintro e w6 ⟨⟨r,rfl⟩,vb,hfin⟩
  go_wp2_with fail
  go_end0
  exact ⟨⟨_,rfl⟩,_,vb,by rw [oz HV];exact hfin⟩
end Go.Proofs.YtmdgejgokoadlaaGreatDoor
