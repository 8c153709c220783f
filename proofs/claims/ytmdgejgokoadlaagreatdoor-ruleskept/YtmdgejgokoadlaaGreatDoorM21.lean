/- Texts of this claim, one behind the other. -/
import Derived.Test.YtmdgejgokoadlaaGreatDoorM20
import Derived.Test.YtmdgejgokoadlaaGreatDoorM6
/- The reference's reader of rules: runes. -/
namespace Go.Proofs.YtmdgejgokoadlaaGreatDoor
open Go.RowKit Go.Shelf
set_option linter.unusedVariables false
def zf3 (ws:List W8) (k:Nat) (bad:Option Rf) (eb el ec:Int):Mg :=
 let c:=zaa ws k bad eb el ec 3
 let r:=zcP ws eb el ec (ws.length+1) c.k c.bad
 ⟨c.x.r::r.l,r.k,r.bad⟩
structure RuS (W w:World) (lo R g:Nat) (a:Option Addr) (c:Nat) (ws:List W8) (k:Nat) (bi:Int) (vs:List Value) (ls:List Ln) (u:Value) (l:List Int):Prop where
 rs:RrS W w lo R g a c ws k bi vs ls
 o:w.ownsRow W.heap.size 21 1 u l.length (zgs l)
 hR:R < W.heap.size
theorem RuS.call {W w w':World} {lo R g:Nat} {a:Option Addr} {c:Nat} {ws:List W8} {k k':Nat} {bi bi':Int} {vs:List Value} {ls:List Ln} {u:Value} {l:List Int} (h:RuS W w lo R g a c ws k bi vs ls u l) (h2:RrAt w' lo R g a c ws k' bi' vs ls) (hg:w.grownBy w' (some R)):RuS W w' lo R g a c ws k' bi' vs ls u l :=
 ⟨h.rs.call h2 hg,zat h.o hg (.inr fun e =>by have:=zam h.o R e;have:=h.hR;omega),h.hR⟩
theorem RuS.below {W w w':World} {lo R g:Nat} {a:Option Addr} {c:Nat} {ws:List W8} {k:Nat} {bi:Int} {vs:List Value} {ls:List Ln} {u:Value} {l:List Int} (h:RuS W w lo R g a c ws k bi vs ls u l) (hb:Below w.heap.size w w'):RuS W w' lo R g a c ws k bi vs ls u l :=
 h.call (h.rs.at_.below hb) ⟨hb.os,hb.tape,hb.output,hb.size,fun i hi _ =>hb.block i hi⟩
theorem RuS.alloc {W w:World} {lo R g:Nat} {a:Option Addr} {c:Nat} {ws:List W8} {k:Nat} {bi:Int} {vs:List Value} {ls:List Ln} {u:Value} {l:List Int} (h:RuS W w lo R g a c ws k bi vs ls u l) (o:Obj):RuS W (w.alloc o) lo R g a c ws k bi vs ls u l:=h.below ((Below.refl _ _).alloc (Nat.le_refl _) _)
theorem RuS.more {W w w':World} {lo R g:Nat} {a:Option Addr} {c:Nat} {ws:List W8} {k k0:Nat} {bi b0:Int} {vs:List Value} {ls:List Ln} {u u':Value} {l:List Int} {x:Int} (h:RuS W w lo R g a c ws k bi vs ls u l) (h0:RrAt W lo R g a c ws k0 b0 vs ls) (ho:w'.ownsRow W.heap.size 21 1 u' (l.length+1) (zgs l++[.int .i32 x])) (hg:w.grownBy w' u.ownBlock):RuS W w' lo R g a c ws k bi vs ls u' (l++[x]) :=
 ⟨h.rs.own h0 h.o hg,by rw [List.length_append,show zgs (l++[x])=zgs l++[.int .i32 x] by simp [zgs]];exact ho,h.hR⟩
theorem own_row1 {w:World} {lo E n:Nat} {v:Value} {xs:List Value} (h:w.ownsRow lo E 1 v n xs):∃ a c,v=.slice a n c∧RowC w w.heap.size a xs:=by
 obtain ⟨a,c,rfl⟩:=zab h
 refine ⟨a,c,rfl,fun h0 =>?_⟩
 rcases h.2 with ⟨e,h2⟩ | ⟨g,cap,cur,e,hb,hg,hc,hm,hcs,hx⟩
 ·have:=h.1
  omega
 ·injection e with e1 e2 e3
  subst e1
  refine ⟨g,0,rfl,zbE h g rfl,fun j u hj =>?_⟩
  have b:Blk w g cur E:=hg
  rw [Nat.zero_add,b.cell j]
  have hlt:j < n*1:=by have:=(List.getElem?_eq_some_iff.1 hj).1;have:=h.1;omega
  rw [← hx,List.getElem?_take_of_lt hlt,Array.getElem?_toList] at hj
  exact hj
set_option maxRecDepth 100000 in
set_option maxHeartbeats 4000000 in
theorem zgN (lo R g:Nat) (a:Option Addr) (c:Nat) (ws:List W8) (k:Nat) (bi:Int) (bad:Option Rf) (eb el ec:Int) (vs:List Value) (ls:List Ln) (W:World) (h:RrAt W lo R g a c ws k bi vs ls) (hB:BadR ws k eb el ec bi bad) :
  Calls Tryz.prog 87 #[.pointer (some ⟨R,0,none⟩)] W fun e w' =>e=.returned (.string (runesBytes (zf3 ws k bad eb el ec).l))∧(∃ bi',BadR ws (zf3 ws k bad eb el ec).k eb el ec bi' (zf3 ws k bad eb el ec).bad∧RrAt w' lo R g a c ws (zf3 ws k bad eb el ec).k bi' vs ls)∧W.grownBy w' (some R):=by
 have hRW:R < W.heap.size:=h.blk.lt
 have hkn:=h.kn
 have hnm:=h.nmax
 have H:=kz h
 have HT:=kz (zaM ws k bad eb el ec 3 hkn)
 obtain ⟨T,hT⟩:∃ T,T=zf3 ws k bad eb el ec:=⟨_,rfl⟩
 have HT2:Hz (T=⟨(zaa ws k bad eb el ec 3).x.r::(zcP ws eb el ec (ws.length+1) (zaa ws k bad eb el ec 3).k (zaa ws k bad eb el ec 3).bad).l,(zcP ws eb el ec (ws.length+1) (zaa ws k bad eb el ec 3).k (zaa ws k bad eb el ec 3).bad).k,(zcP ws eb el ec (ws.length+1) (zaa ws k bad eb el ec 3).k (zaa ws k bad eb el ec 3).bad).bad⟩):=kz (by rw [hT];rfl)
 have HC:=kz (zaE lo R g a c ws k bi bad eb el ec 3 vs ls W h hB)
 rw [← hT]
 clear hT h hB
 obtain ⟨ii,hii,hi0,hi1,hi2⟩:=info_parts zjE
 have HII:=kz (And.intro hii (And.intro hi0 (And.intro hi1 hi2)))
 clear hii hi0 hi1 hi2
 go_enter Tryz.func87,Tryz.ntmps87
 go_wp2_with fail
 refine (oz HC).mono ?_
 generalize zaa ws k bad eb el ec 3=A at *
 obtain ⟨x,k1,bad1⟩:=A
 dsimp only at HT HT2
 dsimp only
 unfold r6V
 rintro e w1 ⟨rfl,⟨b1,hB1,hR1⟩,hg1⟩
 have hf:=zcD x.k x.S x.r x.n x.b x.e
 have H1:Hz (BadR ws k1 eb el ec b1 bad1∧RuS W (w1.alloc (.cells #[.int .i32 x.r] 21)) lo R g a c ws k1 b1 vs ls (.slice (some ⟨w1.heap.size,0,none⟩) 1 1) [x.r]):=kz ⟨hB1,(RrS.alloc ⟨hR1,hg1⟩ _),⟨rfl,.inr ⟨w1.heap.size,1,#[.int .i32 x.r],rfl,hg1.size,heap_alloc_new w1 _,by simp,by decide,rfl,rfl⟩⟩,hRW⟩
 have HG1:Hz (MgSt ws eb el ec T (ws.length+1) k1 bad1 [x.r]):=kz ⟨by rw [oz HT2];rfl,by omega,(oz HT).2,by simp⟩
 clear hR1 hg1 hB1 HT2 HT HC
 go_wp2_with fail
 clear hf
 generalize w1.alloc _=w2 at *
 go_loopw [3] (fun u wr => ∃ (f k2:Nat) (bad2:Option Rf) (b2:Int) (l:List Int),Hz (MgSt ws eb el ec T f k2 bad2 l)∧Hz (BadR ws k2 eb el ec b2 bad2∧RuS W wr lo R g a c ws k2 b2 vs ls u l))
  (fun u _ =>ws.length+1 - slLen u)
 case atStart =>exact ⟨_,k1,bad1,b1,[x.r],HG1,H1⟩
 case round =>
  obtain ⟨f,k2,bad2,b2,l,HG,HS⟩:=hrel
  clear HG1 H1
  have HSE:=kz (zb3 lo R g a c ws k2 b2 bad2 eb el ec 3 vs ls wr (oz HS).2.rs.at_ (oz HS).1)
  cases hs:zaJ ws k2 bad2 3 with
  | false =>
   rw [hs] at HSE
   have HTE:=kz ((oz HG).stop hs)
   have hll:l.length≤1000000+1:=by have:=(oz HG).len;have:=(oz HG).le;omega
   clear hs HG
   go_wp2_with fail
   refine (oz HSE).mono ?_
   rintro e w3 ⟨rfl,hb3⟩
   have HS3:=kz (And.intro (oz HS).1 ((oz HS).2.below hb3))
   obtain ⟨ua,uc,hu,hrow⟩:=own_row1 (oz HS3).2.o
   subst hu
   have HC:=kz (rtext_any ua uc l hll w3 hrow)
   clear hb3 HSE HS hrow
   go_wp2_with fail
   refine (oz HC).mono ?_
   rintro e w4 ⟨rfl,hb4⟩
   have HS4:=kz (And.intro (oz HS3).1 ((oz HS3).2.below hb4))
   clear hb4 HC HS3
   go_wp2_with fail
   rw [oz HTE]
   go_ret
   exact ⟨rfl,⟨b2,(oz HS4).1,(oz HS4).2.rs.at_⟩,(oz HS4).2.rs.gr⟩
  | true =>
   rw [hs] at HSE
   obtain ⟨y,hy,hlt,hbad⟩:=zbl hs
   obtain ⟨f',hnext⟩:=(oz HG).next hs
   have hll:l.length≤1000000:=by have:=(oz HG).len;omega
   have hme:l.length < ws.length+1:=by have:=(oz HG).len;omega
   have HTK:=kz (fun (w:World) (h5:RrAt w lo R g a c ws k2 b2 vs ls) =>zaE lo R g a c ws k2 b2 bad2 eb el ec 3 vs ls w h5 (oz HS).1)
   have HNX:=kz hnext
   have HME:=kz hme
   have HS0:=kz (oz HS).2
   clear hy hlt hbad hs hnext HG hme HS
   generalize zaa ws k2 bad2 eb el ec 3=A at *
   obtain ⟨z,k3,bad3⟩:=A
   dsimp only at HTK HNX
   go_wp2_with fail
   refine (oz HSE).mono ?_
   rintro e w3 ⟨rfl,hb3⟩
   have HS3:=kz ((oz HS0).below hb3)
   clear hb3 HSE HS0
   go_wp2_with fail
   refine (oz HTK w3 (oz HS3).rs.at_).mono ?_
   unfold r6V
   rintro e w4 ⟨rfl,⟨b3,hB3,hR3⟩,hg3⟩
   have HS4:=kz ((oz HS3).call hR3 hg3)
   have HB3:=kz hB3
   have hf:=zcD z.k z.S z.r z.n z.b z.e
   clear hR3 hg3 hB3 HS3 HTK
   go_wp2_with (at_builtin;refine zdH rfl _ _ 57 21 rfl ii (.int .i32 0) 1 4 Tryz.underlying57 (oz HII) rfl (by decide) (by decide) W.heap.size _ l.length (zgs l) [.int .i32 z.r] rfl rfl (by omega) w4 rfl (by intro u hu;simp at hu;rcases hu with rfl;rfl) (oz HS4).o (by have:=(oz HS4).rs.gr.size;omega) _ rfl rfl ?_)
   intro u' w6 hown hgrow
   have HS6:=kz (((oz HS4).alloc _).more (oz H) hown hgrow)
   have HL1:=kz (zdY (oz HS4).o)
   have HL2:=kz (zdY hown)
   clear hown hgrow HS4 hf
   go_wp2_with fail
   go_roundw
   case rel =>exact ⟨f',k3,bad3,b3,_,HNX,kz ⟨oz HB3,oz HS6⟩⟩
   case measure =>have:=oz HL1;have:=oz HL2;have:=oz HME;omega
theorem zie (a:Option Addr) (n c k:Nat) (bi:Int) (vs:List Value) (i:Nat) (v:Value) (h17:i < 17) (hl:17≤vs.length):(zbm a n c k bi vs).setIfInBounds (3+i) v=zbm a n c k bi (vs.set i v):=by
 unfold zbm
 rw [List.setIfInBounds_toArray,List.set_append_right _ _ (by simp),List.take_set]
 congr 2
 simp
theorem RrAt.cell {W:World} {lo R g:Nat} {a:Option Addr} {c:Nat} {ws:List W8} {k:Nat} {bi:Int} {vs:List Value} {ls:List Ln} (h:RrAt W lo R g a c ws k bi vs ls) {i:Nat} {v:Value} (hi:i < 17) (hv:vs[i]?=some v):W.cell? ⟨R,3+i,none⟩=some v:=by
 have h1:=h.blk.cell (3+i)
 unfold zbm at h1
 rw [List.getElem?_toArray,List.getElem?_append_right (by simp),List.getElem?_take_of_lt (by simp;omega)] at h1
 rw [h1, ← hv]
 congr 1
 simp
theorem RrAt.put {W W1:World} {lo R g i:Nat} {a:Option Addr} {c:Nat} {ws:List W8} {k:Nat} {bi:Int} {vs:List Value} {ls:List Ln} {v v':Value} {l:Ln} {n:Nat} {xs:List Value} (h:RrAt W lo R g a c ws k bi vs ls) (h17:i < 17) (hv:vs[i]?=some v) (hl:ls[i]?=some l)
  (ho:W1.ownsRow lo l.E l.sz v' n xs) (hg:W.grownBy W1 v.ownBlock) (hat:v'.ownBlock=v.ownBlock∨v'.ownBlock=some W.heap.size):RrAt (W1.setCell ⟨R,3+i,none⟩ v') lo R g a c ws k bi (vs.set i v') (ls.set i ⟨l.E,l.sz,n,xs⟩):=by
 have hi:=(List.getElem?_eq_some_iff.1 hv).1
 have hq:=zad W1 R (3+i) v'
 have hvl:=zam (h.own i v l hv hl)
 have hlt:=h.lt
 have hA:∀ (j:Nat) (u:Value),j≠i→vs[j]?=some u→u.ownBlock=none∨u.ownBlock≠v'.ownBlock:=by
  intro j u hj hu
  rcases hat with e | e
  ·rw [e];exact h.apart j i u v hj hu hv
  ·rw [e]
   refine .inr fun e2 =>?_
   obtain ⟨m,hm⟩:∃ m,ls[j]?=some m:=⟨_,List.getElem?_eq_getElem (by have:=(List.getElem?_eq_some_iff.1 hu).1;have:=h.lv;have:=h.ll;omega)⟩
   have:=zbE (h.own j u m hu hm) _ e2
   omega
 refine ⟨h.kn,h.nmax,h.cap,h.ptr, ?_,by rw [List.length_set];exact h.lv,by rw [List.length_set,List.length_set];exact h.ll, ?_, ?_, ?_,h.lt,Nat.le_trans h.lw (Nat.le_trans hg.size hq.size)⟩
 ·intro j x hx p u hu
  have h0:=(List.getElem?_eq_some_iff.1 hx).1
  obtain ⟨_,hgl,hgR⟩:=h.ptr (by omega)
  have c1:=hg.cell (a:=⟨g,j*6+p,none⟩) (h.words j x hx p u hu) (fun e =>by have:lo≤g:=hvl g e.symm;omega)
  exact hq.cell (a:=⟨g,j*6+p,none⟩) c1 (fun e =>hgR (Option.some.inj e))
 ·have b1:Blk W1 R _ _:=h.blk.kept hg (fun e =>by have:=hvl R e.symm;omega)
  have b2:=b1.set (3+i) v'
  rw [zie _ _ _ _ _ _ _ _ h17 h.lv] at b2
  exact b2
 ·intro j u m hu hm
  by_cases hj:j=i
  ·subst hj
   rw [List.getElem?_set_self (by omega)] at hu
   rw [List.getElem?_set_self (by have:=h.lv;have:=h.ll;omega)] at hm
   obtain rfl:=Option.some.inj hu
   obtain rfl:=Option.some.inj hm
   exact zat ho hq (.inr fun e =>by have:=zam ho R e;omega)
  ·rw [List.getElem?_set_ne (Ne.symm hj)] at hu
   rw [List.getElem?_set_ne (Ne.symm hj)] at hm
   have o1:=h.own j u m hu hm
   exact zat (zat o1 hg (h.apart j i u v hj hu hv)) hq (.inr fun e =>by have:=zam o1 R e;omega)
 ·intro j p u x hjp hu hx
  by_cases hj:j=i
  ·subst hj
   rw [List.getElem?_set_self (by omega)] at hu
   rw [List.getElem?_set_ne hjp] at hx
   obtain rfl:=Option.some.inj hu
   rcases hA p x (Ne.symm hjp) hx with e | e
   ·rw [e]
    cases e2:v'.ownBlock with
    | none =>exact .inl rfl
    | some y =>exact .inr (by simp)
   ·exact .inr (Ne.symm e)
  ·rw [List.getElem?_set_ne (Ne.symm hj)] at hu
   by_cases hp:p=i
   ·subst hp
    rw [List.getElem?_set_self (by omega)] at hx
    obtain rfl:=Option.some.inj hx
    exact hA j u hj hu
   ·rw [List.getElem?_set_ne (Ne.symm hp)] at hx
    exact h.apart j p u x hjp hu hx
theorem RrAt.more {W:World} {lo R g:Nat} {a:Option Addr} {c:Nat} {ws:List W8} {k:Nat} {bi:Int} {vs:List Value} {ls:List Ln} (h:RrAt W lo R g a c ws k bi vs ls) {u:Value} {m:Ln} (hu:W.ownsRow lo m.E m.sz u m.n m.xs) (ha:∀ (j:Nat) (x:Value),vs[j]?=some x→u.ownBlock=none∨u.ownBlock≠x.ownBlock):RrAt W lo R g a c ws k bi (vs++[u]) (ls++[m]):=by
 have hlv:=h.lv
 have hll:=h.ll
 have hq:∀ (a b:Option Nat),a=none∨a≠b→b=none∨b≠a:=by
  intro a b hab
  cases b with
  | none =>exact .inl rfl
  | some y => rcases hab with e | e
              · rw [e];exact .inr (by simp)
              · exact .inr (Ne.symm e)
 refine ⟨h.kn,h.nmax,h.cap,h.ptr,h.words,by rw [List.length_append];omega,by rw [List.length_append,List.length_append,hll];rfl,by unfold zbm;rw [List.take_append_of_le_length hlv];exact h.blk, ?_, ?_,h.lt,h.lw⟩
 ·intro i v l hv hl
  by_cases hi:i < vs.length
  ·rw [List.getElem?_append_left hi] at hv
   rw [List.getElem?_append_left (by omega)] at hl
   exact h.own i v l hv hl
  ·have hi2:=(List.getElem?_eq_some_iff.1 hv).1
   rw [List.length_append,List.length_singleton] at hi2
   obtain rfl:i=vs.length:=by omega
   rw [List.getElem?_concat_length] at hv
   rw [← hll,List.getElem?_concat_length] at hl
   obtain rfl:=Option.some.inj hv
   obtain rfl:=Option.some.inj hl
   exact hu
 ·intro i j v x hij hv hx
  have key:∀ (i:Nat) (v:Value),(vs++[u])[i]?=some v→(i < vs.length∧vs[i]?=some v)∨(i=vs.length∧v=u):=by
   intro i v hv
   by_cases hi:i < vs.length
   ·rw [List.getElem?_append_left hi] at hv;exact .inl ⟨hi,hv⟩
   ·have hi2:=(List.getElem?_eq_some_iff.1 hv).1
    rw [List.length_append,List.length_singleton] at hi2
    obtain rfl:i=vs.length:=by omega
    rw [List.getElem?_concat_length] at hv
    exact .inr ⟨rfl,(Option.some.inj hv).symm⟩
  rcases key i v hv with ⟨h1,h2⟩ | ⟨h1,rfl⟩ <;> rcases key j x hx with ⟨h3,h4⟩ | ⟨h3,rfl⟩
  ·exact h.apart i j v x hij h2 h4
  ·exact hq _ _ (ha i v h2)
  ·exact ha j x h4
  ·exact absurd (h1.trans h3.symm) hij
theorem zj7 {W W1:World} {lo R g i:Nat} {a:Option Addr} {c:Nat} {ws:List W8} {k:Nat} {bi:Int} {vs:List Value} {ls:List Ln} {v v':Value} {l:Ln} {n:Nat} {xs:List Value} (h:RrAt W lo R g a c ws k bi vs ls) (h17:i < 17) (hv:vs[i]?=some v) (hl:ls[i]?=some l)
  (ho:W1.ownsRow lo l.E l.sz v' n xs) (hg:W.grownBy W1 v.ownBlock) (hat:v'.ownBlock=v.ownBlock∨v'.ownBlock=some W.heap.size) :
  RrAt (W1.setCell ⟨R,3+i,none⟩ v') lo R g a c ws k bi (vs.set i v') (ls.set i ⟨l.E,l.sz,n,xs⟩)∧Fr lo R R W (W1.setCell ⟨R,3+i,none⟩ v'):=by
 refine ⟨h.put h17 hv hl ho hg hat, ?_⟩
 exact (Fr.grown h.lw hg (fun b e =>.inr (.inr (zam (h.own i v l hv hl) b e)))).trans (Fr.grown (Nat.le_trans h.lw hg.size) (zad W1 R (3+i) v') (fun b e =>.inl (Option.some.inj e).symm))
set_option maxRecDepth 100000 in
set_option maxHeartbeats 4000000 in
theorem zeG (lo R g:Nat) (a:Option Addr) (c:Nat) (ws:List W8) (k:Nat) (bi:Int) (vs:List Value) (ls:List Ln) (i:Nat) (hi:i≤8) (z:Int) (v:Value) (n:Nat) (xs:List Value) (hn:n≤1000000) (hv:vs[8+i]?=some v) (hl:ls[8+i]?=some ⟨3,1,n,xs⟩) (W:World) (h:RrAt W lo R g a c ws k bi vs ls) :
  Calls Tryz.prog 86 #[.pointer (some ⟨R,0,none⟩),.int .i64 i,.int .i64 z] W fun e w' =>(∃ r,e=.returned r)∧(∃ v',RrAt w' lo R g a c ws k bi (vs.set (8+i) v') (ls.set (8+i) ⟨3,1,n+1,xs++[.int .i64 z]⟩))∧Fr lo R R W w':=by
 have hmx:Tryz.prog.follows .mixedOrders=true:=by kernel_rfl
 have t0:=h.cell (by omega) hv
 rw [show 3+(8+i)=11+i by omega] at t0
 have tf:=h.blk.frozen (11+i)
 have hR:=h.blk.lt
 have i0:(0:Int)≤(i:Int):=by omega
 have i9:(i:Int) < 9:=by omega
 have how:=h.own _ _ _ hv hl
 obtain ⟨va,vc,rfl⟩:=zab how
 have hg1:∀ b,Value.ownBlock (.slice va n vc)=some b→lo≤b:=zam how
 have hlt:=h.lt
 have hlw:=h.lw
 have hbA:Below W.heap.size W (W.alloc (.cells #[.int .i64 z] 3)):=(Below.refl _ W).alloc (Nat.le_refl _) _
 have hA:=h.below hbA
 have howA:=hA.own _ _ _ hv hl
 have hnA:=Blk.new W #[.int .i64 z] 3
 have s0:=hA.cell (by omega) hv
 rw [show 3+(8+i)=11+i by omega] at s0
 have HA:=kz hA
 have HN:=kz hnA
 have HBA:=kz hbA
 obtain ⟨ia,hia,ha0,ha1,ha2⟩:=info_parts zgf
 have HIA:=kz (And.intro hia (And.intro ha0 (And.intro ha1 ha2)))
 have HH:=kz h
 clear hia ha0 ha1 ha2 h hA hnA hbA how
 go_enter Tryz.func86,Tryz.ntmps86
 go_region_law (refine step_append_lies _ (by rfl) _ _ _ (by rfl) lo 3 ia (.int .i64 0) 1 8 Tryz.underlying34 (oz HIA).1 (oz HIA).2.1 (oz HIA).2.2.1 (oz HIA).2.2.2 rfl (by omega) _ n xs (by rfl) howA.drew ⟨W.heap.size,0,none⟩ 1 1 [.int .i64 z] (by rfl) (by simp) (fun j u hj =>by
   have e:=(oz HN).cell j
   rcases j with _ | j
   ·obtain rfl:=Option.some.inj hj;exact e
   ·simp at hj)          (by intro u hu;simp at hu;subst hu;rfl) (by omega) (by unfold maxLen;omega) (by omega) (by show lo≤(W.alloc _).heap.size;rw [World.size_alloc];omega) (W.heap.size+1) (by show (W.alloc _).heap.size=W.heap.size+1;rw [World.size_alloc]) ?_;intro gg cap w3 hown1 hgrow hatt hlt3;have q1:w3.cell? ⟨R,11+i,none⟩=some (.slice va n vc):=hgrow.cell (a:=⟨R,11+i,none⟩) s0 (by show some R≠Value.ownBlock (.slice va n vc);intro e;have:=hg1 R e.symm;omega);have q2:w3.frozen? ⟨R,11+i,none⟩=false:=(Blk.kept (W:=(W.alloc (.cells #[.int .i64 z] 3)).drew) (oz HA).blk hgrow (fun e =>by have:=hg1 R e.symm;omega)).frozen (11+i))
 all_goals
  have hfin:=zj7 (W:=(W.alloc (.cells #[.int .i64 z] 3)).drew) ((oz HA).below (Below.refl _ _).drew) (by omega) hv hl hown1 hgrow (by rcases hatt with e | e;exact .inl e.symm;exact .inr (by rw [e];show some (W.heap.size+1)=some (W.alloc _).heap.size;rw [World.size_alloc]))
  rw [show 3+(8+i)=11+i by omega] at hfin
  have hfr:Fr lo R R W (W.alloc (.cells #[.int .i64 z] 3)).drew:=⟨rfl,rfl,rfl,(oz HBA).size,fun j hj _ _ =>(oz HBA).block j (by omega)⟩
  go_end0
  exact ⟨⟨_,rfl⟩,⟨_,hfin.1⟩,hfr.trans hfin.2⟩
end Go.Proofs.YtmdgejgokoadlaaGreatDoor
