/- Texts of this claim, one behind the other. -/
import Derived.Sort.QuietTacIn
import Derived.Lib.QuietBelowIn
import Derived.Test.YtmemedpoaocdkaaGreatM27
namespace Go.Proofs.YtmemedpoaocdkaaGreat
set_option linter.unusedVariables false
section
open Go.RowKit Go.Shelf
def zgx (o:Oper):Bool:=match o.op with | .defer _ =>false | _ =>true
theorem zk5 {o:Oper} (h:zgx o=true) (c:_):o.op≠.defer c:=fun e =>by simp [zgx,e] at h
section
variable {F:Fence} {n:Nat} {P:Program} {ops:Array Oper} {C:World→Prop}
theorem zk3 {o:Oper} {a:Act} {K:Act→Prop} {K':Act→World→Prop} {Q':Exit→Act→World→Prop} {w:World} (hd:zgx o=true) (hw:C w) (h:∀ a w',C w'→K a→K' a w')
  (ha:o.askedIn F P a C) (hh:o.quietIn F n P a C K):o.wpIn F n P a w K' Q':=by
 obtain ⟨v,hv,hk⟩:=hh
 have hq:Oper.quietUponIn F n P C w v ((execOp a.eval o).run P w):=hv w hw
 unfold Oper.wpIn
 rw [Oper.semAt_eq _ _ _ (zk5 hd)]
 refine ⟨ha w hw, ?_⟩
 match hr:(execOp a.eval o).run P w,hq with
 | .ok (.value u) w',hq =>obtain ⟨rfl,rfl⟩:=hq;exact h _ _ hw hk
 | .ok .skip w',hq =>obtain ⟨rfl,rfl⟩:=hq;exact h _ _ hw hk
 | .ok (.enter f args) w',hq =>
  obtain ⟨rfl,h1,h2⟩:=hq
  refine ⟨h1,h2.mono ?_⟩
  rintro e w2 ⟨rfl,hc⟩
  exact h _ _ hc hk
theorem zi5 {Q:Act→Prop} {Q':Exit→Act→World→Prop} (hd:∀ (i:Nat) (o:Oper),ops[i]?=some o→zgx o=true) (hQ:∀ a w,C w→Q a→Q' .normal a w):∀ (fuel:Nat) (listed:Array Bool) (a:Act) (w:World),C w →
  wpAnyQIn F n P .any ops C Q fuel listed a→wpAnyIn F n P .any ops Q' fuel listed a w
 | 0,_,_,_,hw,h =>⟨h.1,hQ _ _ hw h.2⟩
 | fuel+1,listed,a,w,hw,h =>by
  refine ⟨fun h0 =>hQ _ _ hw (h.1 h0),fun i hi =>?_⟩
  have hi':=h.2 i hi
  have next:∀ a' w',C w'→wpAnyQIn F n P .any ops C Q fuel (listed.setIfInBounds i true) a'→wpAnyIn F n P .any ops Q' fuel (listed.setIfInBounds i true) a' w':=fun a' w' hw' =>zi5 hd hQ fuel _ a' w' hw'
  unfold qOpIn at hi'
  unfold wpOpIn
  cases ho:ops[i]? with
  | none =>simp only [ho] at hi';exact next _ _ hw hi'
  | some o =>
   simp only [ho] at hi'
   obtain ⟨h1,h2⟩:=hi'
   by_cases hwt:Region.wanted o (yielded ops a.tmps)=true
   ·simp only [hwt,if_true] at h2 ⊢
    exact zk3 (hd i o ho) hw next h1 h2
   ·simp only [hwt] at h2 ⊢
    exact ⟨h1 w hw,next _ _ hw h2⟩
end
end
section
open Go.RowKit Go.Shelf Go.Sort
section
variable {F:Fence} {n:Nat} {P:Program}
theorem zeT {id:Nat} {Q:Exit→Act→World→Prop} {a:Act} {w:World} {l:List Oper} (hm:P.follows .mixedOrders=true) (hB:Region.lexB .any l.toArray=true) (hd:l.all zgx=true)
  (h:wpQuietIn F n P l.toArray (fun w' => ∃ p:Regrown,w'=grow (redrawn w p.d) p.os) (fun a' => ∀ w',(∃ p:Regrown,w'=grow (redrawn w p.d) p.os)→Q .normal a' w') l a):(Code.region id l.toArray true).wpIn F n P Q a w:=by
 simp only [Region.lexB,Bool.and_eq_true] at hB
 refine wpIn_region_any hm (zi5 (Q:=fun a' => ∀ w',(∃ p:Regrown,w'=grow (redrawn w p.d) p.os)→Q .normal a' w') (C:=fun w' => ∃ p:Regrown,w'=grow (redrawn w p.d) p.os) (fun i o ho =>?_) (fun _ w' hw' h =>h w' hw') _ _ _ _ ⟨⟨w.drawn+1,#[]⟩,by rw [grow_empty];rfl⟩ ?_)
 ·rw [List.getElem?_toArray] at ho
  exact List.all_eq_true.1 hd o (List.mem_of_getElem? ho)
 ·have:=wpAnyQIn_lex (F:=F) (n:=n) (C:=fun w' => ∃ p:Regrown,w'=grow (redrawn w p.d) p.os) (md := .any) hB.1 l 0 (Array.replicate l.toArray.size false) a (by simp) (by simpa using hB.2) h
  simpa using this
end
end
section
open Go.RowKit Go.Shelf
theorem zkC (n lo hi:Int) (hl : -4≤lo) (hlh:lo≤hi) (hh:hi≤1099511627776) (w:World):Calls Tryz.prog 23 #[.int .i64 n,.int .i64 lo,.int .i64 hi] w fun e w' =>e=.returned (.int .i64 (lo+n % (hi - lo+1)))∧w'=w:=by
 have hm:(hi - lo+1 == 0)=false:=by rw [beq_eq_false_iff_ne];omega
 have ht:=Int.tmod_eq_emod (a:=n) (b:=hi - lo+1)
 have h1:=Int.emod_nonneg n (show hi - lo+1≠0 by omega)
 have h2:=Int.emod_lt_of_pos n (show 0 < hi - lo+1 by omega)
 have hab:((hi - lo+1).natAbs:Int)=hi - lo+1:=by omega
 have HE:Hz ((n.tmod (hi - lo+1)=n % (hi - lo+1))∨(n.tmod (hi - lo+1)=n % (hi - lo+1) - (hi - lo+1))):=kz <| by
  rw [ht]
  split
  ·exact .inl (by omega)
  ·exact .inr (by omega)
 have H1:=kz h1
 have H2:=kz h2
 clear ht h1 h2 hab
 generalize n % (hi - lo+1)=q at *
 go_enter Tryz.func23,Tryz.ntmps23
 go_wp2
 all_goals rename_i hc
 all_goals go_ret
 all_goals refine ⟨?_,rfl⟩
 all_goals have he:=oz HE
 all_goals have h1:=oz H1
 all_goals have h2:=oz H2
 all_goals generalize n.tmod (hi - lo+1)=r at *
 all_goals first
  | (show Ending.returned (Value.int .i64 (wrap64 (lo+wrap64 (wrap64 (wrap64 (r+hi) - lo)+1))))=_;rw [show wrap64 (lo+wrap64 (wrap64 (wrap64 (r+hi) - lo)+1))=lo+q by unfold wrap64;omega])
  | (show Ending.returned (Value.int .i64 (wrap64 (lo+r)))=_;rw [show wrap64 (lo+r)=lo+q by unfold wrap64;omega])
end
section
open Go.RowKit Go.Shelf Go.Maps
attribute [local go_sem] Oper.semAt_some
set_option maxRecDepth 100000
set_option maxHeartbeats 8000000
def SpanAt (w:World) (C:Nat) (l:List (Int × Int)):Prop := ∃ zs a ca vb,Blk w C #[.slice a zs.length ca,vb] 149∧RowP w a zs∧Spread zs∧zs.length≤1112064∧∀ r,zam zs r=zam l r
theorem SpanAt.below {w w':World} {C:Nat} {l:List (Int × Int)} (h:SpanAt w C l) (hb:Below w.heap.size w w'):SpanAt w' C l:=by
 obtain ⟨zs,a,ca,vb,h1,h2,h3⟩:=h
 exact ⟨zs,a,ca,vb,h1.below hb h1.lt,h2.below hb,h3⟩
theorem zp5 (B:Nat) (zs:List (Int × Int)) (r:Int) (w:World) {a:Option Addr} {ca:Nat} {vb:Value} (hb0:Blk w B #[.slice a zs.length ca,vb] 149) (hp:RowP w a zs) (hsp:Spread zs) (hl:zs.length≤1112064) :
  Calls Tryz.prog 65 #[.pointer (some ⟨B,0,none⟩),.int .i32 r] w fun e w' =>e=.returned (.bool (zam zs r))∧Below w.heap.size w w':=by
 have d0:=hb0.cell 0
 have HQ:=kz (fun w hr =>zhb a ca zs (by omega) r (fun i j x y =>hsp.his i j x y) w hr)
 have HP:=kz hp
 have HBk:=kz hb0
 have HS:=kz hsp
 have hwr:=zcg r
 clear hp hsp hb0
 go_enter Tryz.func65,Tryz.ntmps65
 go_wp2_with fail
 refine (oz HQ _ (oz HP)).mono ?_
 rintro e w2 ⟨k,bb,rfl,hcut,hb⟩
 have HB:=kz hb
 have hmc:=zmM (oz HS) hcut
 have e0:=((oz HBk).below hb (oz HBk).lt).cell 0
 have HP2:=kz ((oz HP).below hb)
 have hk:=hcut.1
 have HV:Hz (zam zs r=(match zs[k]? with | some x =>decide (x.1≤r) | none =>false && zan r))∨True := .inr trivial
 clear hb hcut HV
 by_cases hkn:k < zs.length
 ·obtain ⟨x,hx⟩:∃ x,zs[k]?=some x:=⟨_,List.getElem?_eq_getElem hkn⟩
  obtain ⟨g,o,rfl,hg,hc⟩:=oz HP2 (by omega)
  have c0:=(hc k x hx).1
  have c1:=(hc k x hx).2
  rw [hx] at hmc
  have hk1:(k:Int) < (zs.length:Int):=by omega
  have hk2:((k:Nat):Int).toNat=k:=by omega
  obtain ⟨lo,hi⟩:=x
  simp only at c0 c1 hmc
  clear hc hx
  by_cases hlr:lo≤r
  ·have HV:Hz (zam zs r=zan r):=kz (by unfold zam;rw [hmc,decide_eq_true hlr];rfl)
   cases hru:zan r with
   | true =>
    rw [hru] at HV hwr
    have hw0:(zag r == 0)=false:=hwr
    have hw1:(zag r != 0)=true:=by unfold bne;rw [hw0];rfl
    clear hmc hwr hru
    go_wp2_with (go_at_call 66;refine (zbf _ _).mono ?_;rintro e w' ⟨rfl,rfl⟩)
    go_ret
    exact ⟨by rw [oz HV];rfl,oz HB⟩
   | false =>
    rw [hru] at HV hwr
    have hw0:(zag r == 0)=true:=hwr
    have hw1:(zag r != 0)=false:=by unfold bne;rw [hw0];rfl
    clear hmc hwr hru
    go_wp2_with (go_at_call 66;refine (zbf _ _).mono ?_;rintro e w' ⟨rfl,rfl⟩)
    go_ret
    exact ⟨by rw [oz HV];rfl,oz HB⟩
  ·have HV:Hz (zam zs r=false):=kz (by unfold zam;rw [hmc,decide_eq_false hlr];rfl)
   clear hmc hwr
   go_wp2_with (go_at_call 66;refine (zbf _ _).mono ?_;rintro e w' ⟨rfl,rfl⟩)
   go_ret
   exact ⟨by rw [oz HV];rfl,oz HB⟩
 ·have hk1:¬ (k:Int) < (zs.length:Int):=by omega
  rw [List.getElem?_eq_none (by omega)] at hmc
  have HV:Hz (zam zs r=false):=kz (by unfold zam;rw [hmc];rfl)
  clear hmc hwr
  go_wp2
  go_ret
  exact ⟨by rw [oz HV];rfl,oz HB⟩
def DropAt (w:World) (B:Nat) (T:TV):Prop := ∃ cs C,Blk w B cs 107∧cs[10]?=some (.pointer (some ⟨C,0,none⟩))∧SpanAt w C T.dr
theorem DropAt.below {w w':World} {B:Nat} {T:TV} (h:DropAt w B T) (hb:Below w.heap.size w w'):DropAt w' B T:=by
 obtain ⟨cs,C,h1,h2,h3⟩:=h
 exact ⟨cs,C,h1.below hb h1.lt,h2,h3.below hb⟩
theorem znw {w:World} {R:Nat} {v:Value} (b:Blk w R #[v] 3) {g:Nat} {cur:Array Value} {t:TypeId} (hb:w.heap[g]?=some (.cells cur t)) (ht:t≠3):g≠R:=by
 rintro rfl
 unfold Blk at b
 rw [b] at hb
 injection hb with e
 injection e with _ e
 exact ht e.symm
theorem BookAt.written {w:World} {B R:Nat} {T:TV} {u:Value} (hO:zav T) (h:BookAt w B T) (b:Blk w R #[u] 3) (v:Value):DropAt (w.setCell ⟨R,0,none⟩ v) B T:=by
 obtain ⟨lo,t0,t1,t2,t3,t4,t5,t6,t7,sv,bs,Bc,Bd,Ba,M5,n5,M6,n6,M7,n7,MF,nF,ML,nL,h⟩:=h
 obtain ⟨zs,lo0,h1,h2,h3,h4⟩:=h.dr
 obtain ⟨va,vb,f1,f2,f3⟩:=h1.form
 have hr:(w.setCell ⟨R,0,none⟩ v).ownsRow lo0 113 2 va zs.length (zc5 zs):=by
  refine f2.kept (zaR w ⟨R,0,none⟩ v) ?_
  rcases f2.2 with ⟨rfl,_⟩ | ⟨g,cap,cur,rfl,hb,hg,_⟩
  ·exact .inl rfl
  ·exact .inr (fun e =>znw b hg (by decide) (by simpa [Value.ownBlock] using e))
 obtain ⟨a,ca,rfl,hp,_⟩:=zgt hr
 exact ⟨_,Bd,h.bx.other (znw b h.bx (by decide)) v,rfl,zs,a,ca,vb,f1.other (znw b f1 (by decide)) v,hp,h2,by have:=hO.l6;omega,h4⟩
theorem znn (T:TV) (B:Nat) (r:Int) (w:World) (h:DropAt w B T):Calls Tryz.prog 42 #[.pointer (some ⟨B,0,none⟩),.int .i32 r] w fun e w' =>e=.returned (.bool (drB T r))∧Below w.heap.size w w':=by
 obtain ⟨cs,C,hb,hc,zs,a,ca,vb,h1,h2,h3,h4,h5⟩:=h
 have HC:=kz (zp5 C zs r w h1 h2 h3 h4)
 have c0:w.cell? ⟨B,10,none⟩=some (.pointer (some ⟨C,0,none⟩)):=(hb.cell 10).trans hc
 have HE:=kz (h5 r)
 clear hb hc h1 h2 h3 h5
 go_enter Tryz.func42,Tryz.ntmps42
 go_wp2_with fail
 refine (oz HC).mono ?_
 rintro e w1 ⟨rfl,hb⟩
 have HB:=kz hb
 clear hb HC
 go_wp2_with fail
 go_ret
 exact ⟨by rw [oz HE];rfl,oz HB⟩
theorem zow (n l nb ns B:Nat) (hn:1≤n) (T:TV) (s:ByteArray) (hs:s.size≤maxLen) (J Jx:List (Nat × Nat)→World→Prop) (wB W0:World) (hbk:∀ r w1,Below wB.heap.size wB w1→Calls Tryz.prog 42 #[.pointer (some ⟨B,0,none⟩),.int .i32 r] w1 fun e w' =>e=.returned (.bool (drB T r))∧Below w1.heap.size w1 w') (hq:SeQ wB B nb ns T s W0) (hN:wB.heap.size≤W0.heap.size) (hJ:Old W0.heap.size J)
  (hY:∀ pre x W1,J pre W1→pre++[x] <+: zal T s→W0.heap.size≤W1.heap.size→YieldAt Fence.wide (n - 1) Tryz.prog l (zdC s x) W1 fun e W' =>Above W0.heap.size W1 W' ∧
   ((e=.returned (.bool true)∧J (pre++[x]) W'∧KpQ wB.heap.size nb ns W1 W')∨(e=.returned (.bool false)∧Jx (pre++[x]) W')))
  (h0:J [] W0) :
  CallsIn Fence.wide n Tryz.prog 45 #[.func (.yield l) #[] #[],.pointer (some ⟨nb,0,none⟩),.pointer (some ⟨ns,0,none⟩)] W0 fun e W' =>(∃ v,e=.returned v) ∧
   ((∃ ys,ys=zal T s∧J ys W')∨(∃ pre,pre <+: zal T s∧Jx pre W')):=by
 unfold maxLen at hs
 have d0:=hq.c1
 have d1:=hq.c2
 have hl1:nb < W0.heap.size:=za5 hq.c1
 have hl2:ns < W0.heap.size:=za5 hq.c2
 have HY:=kz hY
 have HJ:=kz hJ
 have H0:=kz h0
 have HN:=kz hN
 have HQ0:=kz (hq.kp (KpQ.below ((Below.refl W0.heap.size W0).alloc (Nat.le_refl _) (.stringIter s 0)) hN hl1 hl2))
 have HJ0:=kz (hJ _ _ _ h0 ((Below.refl W0.heap.size W0).alloc (Nat.le_refl _) (.stringIter s 0)))
 have HBK:=kz hbk
 clear hY hJ h0 hq hN hbk
 refine callsIn_of_wp Tryz.func45 rfl trivial ?_ rfl
 simp only [Tryz.ntmps45,List.size_toArray,List.length_cons,List.length_nil,Nat.reduceAdd,Nat.reduceSub,Array.replicate_succ,Array.replicate_zero,List.push_toArray,List.append_toArray,List.nil_append,List.cons_append]
 gi_wp2
 gi_loopw [4] (fun nv wr => ∃ (pre:List (Nat × Nat)) (m pos f:Nat),nv=.int .i64 m∧m≤pos∧pos≤s.size∧Hz (spN s=pre++(zaj s f pos).zipIdx m)∧s.size≤pos+f∧Hz (wr.heap[W0.heap.size]?=some (.stringIter s pos))∧Hz (SeQ wB B nb ns T s wr)∧Hz (J (pre.filter (zaS T s)) wr))
  (fun _ wr =>s.size - wr.iterPos W0.heap.size)
 case atStart =>
  exact ⟨[],0,0,s.size,rfl,by omega,by omega,kz rfl,by omega,kz (World.iter_heap W0 s 0),HQ0,HJ0⟩
 case round =>
  clear HQ0 HJ0 d0 d1
  obtain ⟨pre,m,pos,f,rfl,hmp,hps,HST,hf,HIT,HQ,HJ1⟩:=hrel
  have hit:=oz HIT
  by_cases hp:pos < s.size
  ·obtain ⟨f,rfl⟩:∃ g,f=g+1:=⟨f - 1,by omega⟩
   have hst:=oz HST
   rw [zar s f pos hp,List.zipIdx_cons] at hst
   have hnx:∀ ty,(Instr.next (.pointer (some ⟨W0.heap.size,0,none⟩)) true ty).run Tryz.prog wr=_:=fun ty =>Lib.run_next_any_at wr W0.heap.size s pos ty hit hp
   have hb1:=zb6 wr W0.heap.size s (pos+(Utf8.decode s pos).2) (Nat.le_refl W0.heap.size)
   have hi1:=Lib.iterAt_heap wr W0.heap.size s pos (pos+(Utf8.decode s pos).2) hit
   have hsz:W0.heap.size < (wr.iterAt W0.heap.size s (pos+(Utf8.decode s pos).2)).heap.size:=(Array.getElem?_eq_some_iff.1 hi1).1
   have HJ2:=kz (oz HJ _ _ _ (oz HJ1) hb1)
   have HQ2:=kz ((oz HQ).kp (KpQ.below hb1 (oz HN) hl1 hl2))
   have HI1:=kz hi1
   have HS:=kz hst
   have d0:=(oz HQ2).c1
   have hm1:(m:Int)+1=((m+1:Nat):Int):=by omega
   have hroom:=zdg s pos hp
   have hwp:=zbv s pos
   have HD:=kz (oz HBK ((Utf8.decode s pos).1:Nat) _ (oz HQ2).bl)
   have HM1:=kz hm1
   clear hb1 hi1 hst hit HJ1 HST HQ hm1
   cases hd:drB T (rn s pos) with
   | true =>
    rw [show drB T (((Utf8.decode s pos).1:Nat):Int)=true from hd] at HD
    have HS2:Hz (spN s=(pre++[(pos,m)])++(zaj s f (pos+wd s pos)).zipIdx (m+1)):=kz (by rw [oz HS];simp)
    have HF:Hz ((pre++[(pos,m)]).filter (zaS T s)=pre.filter (zaS T s)):=kz (by
     rw [List.filter_append,List.filter_cons_of_neg (by unfold zaS;rw [hd];decide),List.filter_nil,List.append_nil])
    clear hd HS
    gi_wp2_with fail
    refine ⟨trivial, ?_⟩
    refine (callsIn_wide.2 (oz HD)).mono ?_
    rintro e W2 ⟨rfl,hb2⟩
    have HJ3:Hz (J ((pre++[(pos,m)]).filter (zaS T s)) W2):=kz (by rw [oz HF];exact oz HJ _ _ _ (oz HJ2) (hb2.mono (by omega)))
    have HQ3:=kz ((oz HQ2).kp (KpQ.below hb2 (by have:=oz HN;omega) (by omega) (by omega)))
    have HI2:Hz (W2.heap[W0.heap.size]?=some (.stringIter s (pos+(Utf8.decode s pos).2))):=kz ((hb2.block _ hsz).trans (oz HI1))
    clear hb2 hnx HJ2 HQ2 HI1 d0 HD
    gi_wp2
    refine ⟨(fun f hf =>by cases hf), ?_⟩
    go_at_K
    gi_wp2
    go_roundw
    case rel =>exact ⟨pre++[(pos,m)],m+1,pos+wd s pos,f,by first | rfl | rw [oz HM1],by omega,by omega,HS2,by omega,HI2,HQ3,HJ3⟩
    case measure =>rw [zaA (oz HI2),zaA (oz HIT)];have:=zbv s pos;simp only [wd] at this;omega
   | false =>
    rw [show drB T (((Utf8.decode s pos).1:Nat):Int)=false from hd] at HD
    have HS2:Hz (spN s=(pre++[(pos,m)])++(zaj s f (pos+wd s pos)).zipIdx (m+1)):=kz (by rw [oz HS];simp)
    have HF:Hz ((pre++[(pos,m)]).filter (zaS T s)=pre.filter (zaS T s)++[(pos,m)]):=kz (by
     rw [List.filter_append,List.filter_cons_of_pos (by unfold zaS;rw [hd];rfl),List.filter_nil])
    have HPX:Hz (pre.filter (zaS T s)++[(pos,m)] <+: zal T s):=kz (by rw [← oz HF];exact zcP (oz HS2))
    clear hd HS
    gi_wp2_with fail
    refine ⟨trivial, ?_⟩
    refine (callsIn_wide.2 (oz HD)).mono ?_
    rintro e W2 ⟨rfl,hb2⟩
    have hj2:=oz HJ _ _ _ (oz HJ2) (hb2.mono (by omega))
    have HQ3:=kz ((oz HQ2).kp (KpQ.below hb2 (by have:=oz HN;omega) (by omega) (by omega)))
    have HI2:Hz (W2.heap[W0.heap.size]?=some (.stringIter s (pos+(Utf8.decode s pos).2))):=kz ((hb2.block _ hsz).trans (oz HI1))
    have hge2:W0.heap.size≤W2.heap.size:=by have:=hb2.size;omega
    obtain ⟨fn,tmps,assign,body,hy,hR⟩:=(oz HY) _ (pos,m) W2 hj2 (oz HPX) hge2
    dsimp only [zdC] at hy
    have HRR:=kz hR
    clear hj2 hb2 hnx hR HJ2 HQ2 HI1 d0 HD
    gi_wp2
    refine (oz HRR).mono ?_
    rintro e W3 ⟨hab,(⟨rfl,hJ3,hk3⟩ | ⟨rfl,hJx3⟩)⟩
    ·have HI3:Hz (W3.heap[W0.heap.size]?=some (.stringIter s (pos+(Utf8.decode s pos).2))):=kz ((hab.same _ (Nat.le_refl _) (Array.getElem?_eq_some_iff.1 (oz HI2)).1).trans (oz HI2))
     have HQ4:=kz ((oz HQ3).kp hk3)
     have HJ3:Hz (J ((pre++[(pos,m)]).filter (zaS T s)) W3):=kz (by rw [oz HF];exact hJ3)
     clear hJ3 hk3 hab hy
     gi_wp2
     go_roundw
     case rel =>exact ⟨pre++[(pos,m)],m+1,pos+wd s pos,f,by first | rfl | rw [oz HM1],by omega,by omega,HS2,by omega,HI3,HQ4,HJ3⟩
     case measure =>rw [zaA (oz HI3),zaA (oz HIT)];have:=zbv s pos;simp only [wd] at this;omega
    ·have HJx3:=kz hJx3
     clear hJx3 hab hy
     gi_wp2
     refine bodyPost_ret (results_none rfl _ _ _) rfl ?_
     exact ⟨⟨_,rfl⟩,.inr ⟨_,oz HPX,oz HJx3⟩⟩
  ·have hnx:∀ ty,(Instr.next (.pointer (some ⟨W0.heap.size,0,none⟩)) true ty).run Tryz.prog wr=_:=fun ty =>Lib.run_next_end_at wr W0.heap.size s pos ty hit hp
   have hst:=oz HST
   rw [zaH s f pos hp,List.zipIdx_nil,List.append_nil] at hst
   have HE:Hz (J (zal T s) wr):=kz (by unfold zal;rw [hst];exact oz HJ1)
   clear hst hit
   gi_wp2
   go_end0
   first
    | exact ⟨⟨_,rfl⟩,.inl ⟨_,rfl,oz HE⟩⟩
    | exact ⟨⟨_,rfl⟩,.inl (oz HE)⟩
theorem zkP (n nb ns B:Nat) (hn:1≤n) (T:TV) (s:ByteArray) (hs:s.size≤maxLen) (wB w:World) (hbk:∀ r w1,Below wB.heap.size wB w1→Calls Tryz.prog 42 #[.pointer (some ⟨B,0,none⟩),.int .i32 r] w1 fun e w' =>e=.returned (.bool (drB T r))∧Below w1.heap.size w1 w') (hq:SeQ wB B nb ns T s w) (hN:wB.heap.size≤w.heap.size) :
  zgW Fence.wide n Tryz.prog 45 #[.pointer (some ⟨nb,0,none⟩),.pointer (some ⟨ns,0,none⟩)] (zdC s) (KpQ wB.heap.size nb ns) (fun ys =>ys=zal T s) (fun pre =>pre <+: zal T s) (fun pre x =>pre++[x] <+: zal T s) w:=fun l J Jx W hW hJ _ hY h0 =>
 zow n l nb ns B hn T s hs J Jx wB W hbk (hq.kp (KpQ.below hW hN (za5 hq.c1) (za5 hq.c2))) (Nat.le_trans hN hW.size) hJ hY h0
attribute [local go_sem] Oper.semAt_some
set_option maxRecDepth 100000
set_option maxHeartbeats 8000000
structure SnA (W w:World) (T:TV) (A:TbA) (st:Int):Prop where
 x:TbX W w T A
 s:Blk w (W.heap.size+1) #[.int .i64 st] 3
 r:Blk w (W.heap.size+1+1) #[.bool false] 4
theorem SnA.below {W w w':World} {T:TV} {A:TbA} {st:Int} (h:SnA W w T A st) (hb:Below w.heap.size w w'):SnA W w' T A st:=⟨h.x.below hb,h.s.below hb h.s.lt,h.r.below hb h.r.lt⟩
theorem SnA.start {W:World} {T:TV} {A:TbA} {st:Int} (h:zfM W T A):SnA W (((W.alloc (.cells #[.slice A.a0 T.sc.length A.c0,.slice A.a1 T.co.length A.c1,.slice A.a2 T.ma.length A.c2,.slice A.a3 T.pr.length A.c3,.slice A.a4 T.fo.length A.c4,.slice A.a5 T.lk.length A.c5,.slice A.a6 T.dr.length A.c6,.slice A.a7 T.al.length A.c7] 28)).alloc (.cells #[.int .i64 st] 3)).alloc (.cells #[.bool false] 4)) T A st:=by
 have b1:=(Blk.new (W.alloc (.cells #[.slice A.a0 T.sc.length A.c0,.slice A.a1 T.co.length A.c1,.slice A.a2 T.ma.length A.c2,.slice A.a3 T.pr.length A.c3,.slice A.a4 T.fo.length A.c4,.slice A.a5 T.lk.length A.c5,.slice A.a6 T.dr.length A.c6,.slice A.a7 T.al.length A.c7] 28)) #[.int .i64 st] 3).alloc (.cells #[.bool false] 4)
 have b2:=Blk.new ((W.alloc (.cells #[.slice A.a0 T.sc.length A.c0,.slice A.a1 T.co.length A.c1,.slice A.a2 T.ma.length A.c2,.slice A.a3 T.pr.length A.c3,.slice A.a4 T.fo.length A.c4,.slice A.a5 T.lk.length A.c5,.slice A.a6 T.dr.length A.c6,.slice A.a7 T.al.length A.c7] 28)).alloc (.cells #[.int .i64 st] 3)) #[.bool false] 4
 simp only [World.size_alloc] at b1 b2
 exact ⟨((TbX.start h).below (zf8 _ _)).below (zf8 _ _),b1,b2⟩
theorem zla {F:Fence} {n:Nat} {P:Program} {Q:Exit→Act→World→Prop} {c:Code} (I:Nat→Act→World→Prop)
  (round:∀ k a w,I k a w→∀ K:Act→World→Prop,(∀ k' a' w',k' < k→I k' a' w'→K a' w')→c.wpIn F n P (Exit.then K Q) a w) {k:Nat} {a:Act} {w:World} (h:I k a w):(Code.loop c).wpIn F n P Q a w:=by
 have key:∀ m k a w,k < m→I k a w→Code.roundsIn F n P c Q m a w:=by
  intro m
  induction m with
  | zero =>intro k a w hk;omega
  | succ m ih =>exact fun k a w hk hI =>round k a w hI _ (fun k' a' w' hk' hI' =>ih k' a' w' (by omega) hI')
 exact wpIn_loop_rounds (k+1) (key (k+1) k a w (by omega) h)
theorem Marks.lowerQ {lo lo':Nat} {W:World} (h:lo'≤lo):∀ {ds:List Deferred} {hi:Nat},Marks lo W hi ds→Marks lo' W hi ds
 | [],_,_ =>trivial
 | d::ds,hi,hm =>by
  obtain ⟨D,h1,h2,h3,h4,h5⟩:=hm
  exact ⟨D,by omega,h2,h3,h4,Marks.lowerQ h h5⟩
theorem Marks.oldQ {lo hi B:Nat} {ds:List Deferred} {X Y:World} (h:Marks lo X hi ds) (hb:Below B X Y) (hB:hi≤B):Marks lo Y hi ds:=h.keep (fun k hk he =>(hb.block k (by omega)).trans he)
def ReI (TW:World) (Bn Br hi:Nat) (ds:List Deferred) (r:Int) (pre:List (Nat × Nat)) (W:World):Prop:=Blk W Bn #[.int .i64 pre.length] 3∧Blk W Br #[.int .i64 r] 3∧Below TW.heap.size TW W∧Marks TW.heap.size W hi ds
def ReX (TW:World) (Bn Br hi:Nat) (ds:List Deferred) (r:Int) (c:Code) (pre:List (Nat × Nat)) (W:World):Prop:=c=.exit 2∧r=0∧Blk W Bn #[.int .i64 pre.length] 3∧Blk W Br #[.int .i64 r] 3∧Below TW.heap.size TW W∧Marks TW.heap.size W hi ds
theorem ReI.old {TW:World} {Bn Br hi B:Nat} {ds:List Deferred} {r:Int} (h1:Bn < B) (h2:Br < B) (h3:TW.heap.size≤B) (h4:hi≤B):Old B (ReI TW Bn Br hi ds r):=by
 rintro s X Y ⟨p1,p2,p3,p4⟩ hb
 exact ⟨p1.below hb h1,p2.below hb h2,p3.trans (hb.mono h3),p4.oldQ hb h4⟩
theorem ReX.old {TW:World} {Bn Br hi B:Nat} {ds:List Deferred} {r:Int} (h1:Bn < B) (h2:Br < B) (h3:TW.heap.size≤B) (h4:hi≤B) (c:Code):Old B (ReX TW Bn Br hi ds r c):=by
 rintro s X Y ⟨p0,p00,p1,p2,p3,p4⟩ hb
 exact ⟨p0,p00,p1.below hb h1,p2.below hb h2,p3.trans (hb.mono h3),p4.oldQ hb h4⟩
theorem zpM {α : Type} {pre l:List α} {x : α} (h:pre++[x] <+: l):l[pre.length]?=some x:=by
 obtain ⟨q,rfl⟩:=h
 rw [List.append_assoc,List.getElem?_append_right (Nat.le_refl _)]
 simp
theorem ziK {w:World} {lo b i E sz n:Nat} {v:Value} {xs:List Value} (h:w.ownsRow lo E sz v n xs) (hb:b < lo) (u:Value):(w.setCell ⟨b,i,none⟩ u).ownsRow lo E sz v n xs:=by
 refine h.kept (zaR w ⟨b,i,none⟩ u) ?_
 cases hv:v.ownBlock with
 | none =>exact .inl rfl
 | some k =>exact .inr (fun e =>by have:=(h.lt k hv).1;simp at e;omega)
structure SnB (W w:World) (T:TV) (S:ByteArray) (B Bl:Nat) (a b:Option Addr) (c d:Nat) (st:Int):Prop where
 old:Below W.heap.size W w
 s:Blk w (W.heap.size+1) #[.int .i64 st] 3
 r:Blk w (W.heap.size+1+1) #[.bool false] 4
 l:Blk w Bl #[.slice a (zal T S).length c] 35
 ns:Blk w (Bl+1) #[.slice b (zal T S).length d] 36
 rl:∃ lo,W.heap.size+1 < lo∧w.ownsRow lo 56 4 (.slice a (zal T S).length c) (zal T S).length (zc2 S (zal T S))
 rn:∃ lo,W.heap.size+1 < lo∧w.ownsRow lo 3 1 (.slice b (zal T S).length d) (zal T S).length (zcC (zal T S))
 q1:Blk w (Bl+1+1) #[.pointer (some ⟨B,0,none⟩)] 29
 q2:Blk w (Bl+1+1+1) #[.string S] 9
 g:W.heap.size+1+1 < Bl
theorem SnB.setStop {W w:World} {T:TV} {S:ByteArray} {B Bl:Nat} {a b:Option Addr} {c d:Nat} {st:Int} (h:SnB W w T S B Bl a b c d st) (st':Int):SnB W (w.setCell ⟨W.heap.size+1,0,none⟩ (.int .i64 st')) T S B Bl a b c d st':=by
 obtain ⟨lo,hl,ho⟩:=h.rl
 obtain ⟨lo',hl',ho'⟩:=h.rn
 have hg:=h.g
 exact ⟨h.old.setCell (p:=⟨W.heap.size+1,0,none⟩) (by simp) _,h.s.set 0 _,h.r.other (by omega) _,h.l.other (by omega) _,h.ns.other (by omega) _,⟨lo,hl,ziK ho hl _⟩,⟨lo',hl',ziK ho' hl' _⟩,h.q1.other (by omega) _,h.q2.other (by omega) _,hg⟩
theorem SnB.start {W w:World} {T:TV} {A:TbA} {S:ByteArray} {B lo:Nat} {a b:Option Addr} {c d:Nat} {k:Int} (h:SnA W w T A k) (hl:W.heap.size+1 < lo) (h1:w.ownsRow lo 56 4 (.slice a (zal T S).length c) (zal T S).length (zc2 S (zal T S))) (h2:w.ownsRow lo 3 1 (.slice b (zal T S).length d) (zal T S).length (zcC (zal T S))) :
  SnB W ((((w.alloc (.cells #[.slice a (zal T S).length c] 35)).alloc (.cells #[.slice b (zal T S).length d] 36)).alloc (.cells #[.pointer (some ⟨B,0,none⟩)] 29)).alloc (.cells #[.string S] 9)) T S B w.heap.size a b c d k:=by
 have hb:=(((zf8 w (.cells #[.slice a (zal T S).length c] 35)).alloc (by simp) (.cells #[.slice b (zal T S).length d] 36)).alloc (by simp;omega) (.cells #[.pointer (some ⟨B,0,none⟩)] 29)).alloc (by simp;omega) (.cells #[.string S] 9)
 have h3:=h.below hb
 have e1:=((Blk.new w #[.slice a (zal T S).length c] 35).alloc (.cells #[.slice b (zal T S).length d] 36)).alloc (.cells #[.pointer (some ⟨B,0,none⟩)] 29)
 have e2:=(Blk.new (w.alloc (.cells #[.slice a (zal T S).length c] 35)) #[.slice b (zal T S).length d] 36).alloc (.cells #[.pointer (some ⟨B,0,none⟩)] 29)
 have e3:=Blk.new ((w.alloc (.cells #[.slice a (zal T S).length c] 35)).alloc (.cells #[.slice b (zal T S).length d] 36)) #[.pointer (some ⟨B,0,none⟩)] 29
 have e4:=Blk.new (((w.alloc (.cells #[.slice a (zal T S).length c] 35)).alloc (.cells #[.slice b (zal T S).length d] 36)).alloc (.cells #[.pointer (some ⟨B,0,none⟩)] 29)) #[.string S] 9
 simp only [World.size_alloc] at e2 e3 e4
 exact ⟨h3.x.bl,h3.s,h3.r,e1.alloc _,e2.alloc _,⟨lo,hl,zaq h1 hb⟩,⟨lo,hl,zaq h2 hb⟩,e3.alloc _,e4,h.r.lt⟩
theorem zme (n:Nat) (hn:6≤n) (T:TV) (hT:TabB T) (hI:zlM T) (A:TbA) (s:ByteArray) (hs:s.size≤1000000000) (k:Int) (W:World) (hA:zfM W T A) :
  CallsIn Fence.wide n Tryz.prog 4 #[.agg #[.slice A.a0 T.sc.length A.c0,.slice A.a1 T.co.length A.c1,.slice A.a2 T.ma.length A.c2,.slice A.a3 T.pr.length A.c3,.slice A.a4 T.fo.length A.c4,.slice A.a5 T.lk.length A.c5,.slice A.a6 T.dr.length A.c6,.slice A.a7 T.al.length A.c7],.string s,.int .i64 k] W fun e w' =>e=.returned (.bool true)∧Below W.heap.size W w':=by
 have hmx:Tryz.prog.follows .mixedOrders=true:=by kernel_rfl
 have h1:1≤n:=by omega
 have HX:=kz (SnA.start (st:=k) hA)
 have HC:=kz (zmB T hT hI _ _ (oz HX).x.tv)
 have HTT:=kz hT
 clear hA hT hI
 refine callsIn_of_wp_marks Tryz.func4 rfl trivial ?_ rfl
 simp only [Tryz.ntmps4,List.size_toArray,List.length_cons,List.length_nil,Nat.reduceAdd,Nat.reduceSub,Array.replicate_succ,Array.replicate_zero,List.push_toArray,List.append_toArray,List.nil_append,List.cons_append]
 have z0:=(oz HX).x.z0
 have z1:=(oz HX).x.z1
 have z2:=(oz HX).x.z2
 have z3:=(oz HX).x.z3
 have z4:=(oz HX).x.z4
 have z5:=(oz HX).x.z5
 have z6:=(oz HX).x.z6
 have z7:=(oz HX).x.z7
 gi_wp2_with fail
 generalize ((W.alloc (.cells #[.slice A.a0 T.sc.length A.c0,.slice A.a1 T.co.length A.c1,.slice A.a2 T.ma.length A.c2,.slice A.a3 T.pr.length A.c3,.slice A.a4 T.fo.length A.c4,.slice A.a5 T.lk.length A.c5,.slice A.a6 T.dr.length A.c6,.slice A.a7 T.al.length A.c7] 28)).alloc (.cells #[.int .i64 k] 3)).alloc (.cells #[.bool false] 4)=w0 at *
 refine ⟨trivial, ?_⟩
 refine (callsIn_wide.2 (oz HC)).mono ?_
 rintro e w1 ⟨p,rfl,hV⟩
 have HX1:=kz ((oz HX).below hV.bl)
 clear HC z0 z1 z2 z3 z4 z5 z6 z7 HX
 cases hu:upB T with
 | false =>
  clear hV hu
  gi_wp2_with fail
  refine ⟨trivial, ?_⟩
  refine (callsIn_wide.2 (zgC w1)).mono ?_
  rintro e w2 ⟨rfl,hb⟩
  have hX2:=(oz HX1).below hb
  have q1:=hX2.r
  have q2:=hX2.x.bl
  have k4:=q1.cell 0
  have kf:=q1.frozen 0
  have HCE:=kz (And.intro (q1.set 0 (.bool true)) (q2.setCell (p:=⟨W.heap.size+1+1,0,none⟩) (by show W.heap.size≤W.heap.size+1+1;omega) (.bool true)))
  clear hb HX1 hX2 q1 q2
  gi_wp2
  have q:=(show Blk _ (W.heap.size+1+1) #[.bool true] 4 from (oz HCE).1).cell 0
  exact ⟨.bool true,by simp [results,Tryz.f4,go_sem,q],rfl,(oz HCE).2⟩
 | true =>
  obtain ⟨hck,hO,B,rfl,hB,hbk⟩:=hV.ok hu
  have hBK:=kz (fun w (h:Below w1.heap.size w1 w) =>hbk.below h)
  have HH:=kz hO
  have G1:=kz (Below.refl w1.heap.size w1)
  have H65:=kz (zgI hck)
  clear hV hu hbk hck
  gi_wp2_with fail
  refine ⟨trivial, ?_⟩
  refine (callsIn_wide.2 (zo2 s hs 3000 (by decide) w1)).mono ?_
  rintro e w2 ⟨rfl,rfl⟩
  have hss:=ze2 s 3000
  generalize zkv s 3000=S at *
  have hsl:=zb9 T S
  have hst:=zap S
  have hsm:S.size≤maxLen:=by unfold maxLen;omega
  have z0:=(oz HX1).x.z0
  have z1:=(oz HX1).x.z1
  have z2:=(oz HX1).x.z2
  have z3:=(oz HX1).x.z3
  have z4:=(oz HX1).x.z4
  have z5:=(oz HX1).x.z5
  have z6:=(oz HX1).x.z6
  have z7:=(oz HX1).x.z7
  gi_wp2_with fail
  refine ⟨trivial, ?_⟩
  refine (callsIn_wide.2 (zcV T (oz HTT) (oz H65) A S (by omega) w2 (oz HX1).x.ti)).mono ?_
  rintro e w3 ⟨v3,u3,rfl,hown,hownu,hb⟩
  obtain ⟨a3,c3,rfl⟩:=zhj hown
  obtain ⟨b3,d3,rfl⟩:=zhj hownu
  have G3:=kz ((oz G1).trans (hb.mono (oz G1).size))
  have HX3:=kz ((oz HX1).below hb)
  have HB4:=kz (SnB.start (B:=B) (oz HX3) (by have:=(oz HX1).r.lt;omega) hown hownu)
  clear hb G1 HX1 HX3 hown hownu HTT H65
  clear z0 z1 z2 z3 z4 z5 z6 z7
  gi_wp2_with fail
  refine ⟨trivial, ?_⟩
  refine (callsIn_wide.2 (zcS B S _)).mono ?_
  rintro e w' ⟨rfl,rfl⟩
  simp only [World.size_alloc]
  have hq:=zqc 45 (.pointer (some ⟨w3.heap.size+1+1,0,none⟩)) (.pointer (some ⟨w3.heap.size+1+1+1,0,none⟩))
  obtain ⟨Bl,hBl⟩:∃ Bl,Bl=w3.heap.size:=⟨_,rfl⟩
  have G4:=kz ((((((oz G3).alloc (oz G3).size (.cells #[.slice a3 (zal T S).length c3] 35)).alloc (by have:=(oz G3).size;simp;omega) (.cells #[.slice b3 (zal T S).length d3] 36)).alloc (by have:=(oz G3).size;simp;omega) (.cells #[.pointer (some ⟨B,0,none⟩)] 29)).alloc (by have:=(oz G3).size;simp;omega) (.cells #[.string S] 9)))
  generalize (((w3.alloc (.cells #[.slice a3 (zal T S).length c3] 35)).alloc (.cells #[.slice b3 (zal T S).length d3] 36)).alloc (.cells #[.pointer (some ⟨B,0,none⟩)] 29)).alloc (.cells #[.string S] 9)=w4 at *
  rw [← hBl] at HB4 hq
  rw [← hBl]
  clear hBl G3
  have k1:=(oz HB4).s.cell 0
  have kf:=(oz HB4).s.frozen 0
  have k2:=(oz HB4).l.cell 0
  gi_wp2_with fail
  refine ⟨trivial, ?_⟩
  refine (callsIn_wide.2 (zkC k 0 (zal T S).length (by omega) (by omega) (by omega) _)).mono ?_
  rintro e w5 ⟨rfl,rfl⟩
  generalize (0:Int)+k % (((zal T S).length:Int) - 0+1)=st at *
  have HST:=kz ((oz HB4).setStop st)
  have HDR:=kz (BookAt.written (oz HH) (oz hBK _ (oz G4)) (oz HB4).s (.int .i64 st))
  clear HB4 hq G4 hBK HH
  gi_wp2
  clear k1 kf k2
  have hz0:(w5.setCell ⟨W.heap.size+1,0,none⟩ (.int .i64 st)).heap.size=w5.heap.size:=by simp
  rw [← hz0]
  generalize w5.setCell ⟨W.heap.size+1,0,none⟩ (.int .i64 st)=TW at *
  clear hz0
  have hD:∀ (r:Int) (w1:World),Below TW.heap.size TW w1→Calls Tryz.prog 42 #[.pointer (some ⟨B,0,none⟩),.int .i32 r] w1 fun e w' =>e=.returned (.bool (drB T r))∧Below w1.heap.size w1 w':=fun r w1 h =>znn T B r w1 ((oz HDR).below h)
  have hq:SeQ TW B (Bl+1+1) (Bl+1+1+1) T S TW:=⟨Below.refl _ _,(oz HST).q1.cell 0,(oz HST).q2.cell 0⟩
  have HDP:=kz (fun n hn =>zkP n (Bl+1+1) (Bl+1+1+1) B hn T S hsm TW TW hD hq (Nat.le_refl _))
  obtain ⟨_,_,hrl⟩:=(oz HST).rl
  obtain ⟨_,_,hrn⟩:=(oz HST).rn
  have HRL:Hz (RowC TW TW.heap.size a3 (((zal T S).map Prod.fst).flatMap (zaz S))):=kz (by rw [← zew];exact zbg hrl)
  have HRN:=kz (zbg hrn)
  clear hrl hrn
  have hTl:Bl+1+1+1 < TW.heap.size:=(oz HST).q2.lt
  have hlen:(zal T S).length≤3000:=by omega
  clear hD hq HDR hss hsl hst hsm
  refine zla (fun k a' X => ∃ (rn hi Br : Nat) (ds : List Deferred), rn ≤ 2 ∧ k = 2 - rn ∧ Hz (Below TW.heap.size TW X) ∧ Hz (Marks TW.heap.size X hi ds) ∧ hi ≤ X.heap.size ∧ TW.heap.size ≤ Br ∧ ∃ r : Int, r = rn ∧ Hz (Blk X Br #[.int .i64 r] 3) ∧ ∃ U : Nat → Value, a' = { tmps := #[U 0, U 1, U 2, U 3, U 4, .pointer (some ⟨W.heap.size + 1, 0, none⟩), .pointer (some ⟨W.heap.size + 1 + 1, 0, none⟩), U 7, U 8, U 9, .pointer (some ⟨Bl, 0, none⟩), .pointer (some ⟨Bl + 1, 0, none⟩), .func (.func 45) #[] #[.pointer (some ⟨Bl + 1 + 1, 0, none⟩), .pointer (some ⟨Bl + 1 + 1 + 1, 0, none⟩)], .pointer (some ⟨Br, 0, none⟩), U 14, U 15, U 16, U 17, U 18, U 19, U 20, U 21, U 22, U 23, U 24, U 25, U 26, U 27, U 28, U 29, U 30, U 31, U 32, U 33, U 34, U 35, U 36, U 37, U 38, U 39, U 40, U 41, U 42, U 43, U 44, U 45, U 46, U 47, U 48, U 49, U 50, U 51, U 52, U 53, U 54, U 55, U 56, U 57, U 58, U 59, U 60, U 61, U 62, U 63, U 64, U 65, U 66, U 67, U 68, U 69, U 70, U 71, U 72, U 73, U 74, U 75, U 76, U 77, U 78, U 79, U 80, U 81, U 82, U 83, U 84, U 85, U 86, U 87, U 88, U 89, U 90, U 91, U 92, U 93, U 94, U 95, U 96, U 97, U 98], defers := ds })
    ?_ (k:=2) ?h0
  case h0 =>exact ⟨0,0,TW.heap.size,[],by omega,rfl,kz (zf8 _ _),kz trivial,by omega,Nat.le_refl _,0,rfl,kz (Blk.new _ _ _),zau rfl⟩
  rintro k a' X ⟨rn,hi,Br,ds,hr2,hk,HBW,HMW,hhi,hBr,r,hrr,HRB,U,rfl⟩ K hK
  have hTX:=(oz HBW).size
  by_cases hr:rn < 2
  ·have hr':r < 2:=by omega
   have hr0:0≤r:=by omega
   have HRR:=kz hrr
   have HKK:=kz hK
   have r0:=(oz HRB).cell 0
   clear hrr hK
   gi_wp2
   rename_i K2 hK2 K1 hK1
   obtain ⟨Bn,hBn⟩:∃ Bn,Bn=X.heap.size:=⟨_,rfl⟩
   have hN0:Blk (X.alloc (.cells #[.int .i64 0] 3)) Bn #[.int .i64 0] 3:=by rw [hBn];exact Blk.new X _ _
   have hR0:=(oz HRB).alloc (.cells #[.int .i64 0] 3)
   have hal:=zf8 X (.cells #[.int .i64 0] 3)
   have hB1:Below TW.heap.size TW (X.alloc (.cells #[.int .i64 0] 3)):=(oz HBW).trans (hal.mono hTX)
   have hM1:=(oz HMW).oldQ hal hhi
   have hz1:(X.alloc (.cells #[.int .i64 0] 3)).heap.size=X.heap.size+1:=by simp
   have hRX:=(oz HRB).lt
   rw [← hBn]
   have hTB:TW.heap.size≤Bn:=by omega
   have hi1:hi≤Bn:=by omega
   have hBrn:Br < Bn:=by omega
   generalize X.alloc (.cells #[.int .i64 0] 3)=X1 at *
   have hBX:Bn+1=X1.heap.size:=by omega
   clear hBn hz1 hal HBW HMW hTX hhi HRB hRX r0
   have hST:=oz HST
   have key:∀ (W2:World) (D m:Nat) (a2:Act),(∃ U:Nat→Value,a2 = { tmps:=#[U 0,U 1,U 2,U 3,U 4,.pointer (some ⟨W.heap.size+1,0,none⟩),.pointer (some ⟨W.heap.size+1+1,0,none⟩),U 7,U 8,U 9,.pointer (some ⟨Bl,0,none⟩),.pointer (some ⟨Bl+1,0,none⟩),.func (.func 45) #[] #[.pointer (some ⟨Bl+1+1,0,none⟩),.pointer (some ⟨Bl+1+1+1,0,none⟩)],.pointer (some ⟨Br,0,none⟩),.pointer (some ⟨Bn,0,none⟩),U 15,U 16,U 17,U 18,U 19,U 20,U 21,U 22,U 23,U 24,U 25,U 26,U 27,U 28,U 29,U 30,U 31,U 32,U 33,U 34,U 35,U 36,U 37,U 38,U 39,U 40,U 41,U 42,U 43,U 44,U 45,U 46,U 47,U 48,U 49,U 50,U 51,U 52,U 53,U 54,U 55,U 56,U 57,U 58,U 59,U 60,U 61,U 62,U 63,U 64,U 65,U 66,U 67,U 68,U 69,U 70,U 71,U 72,U 73,U 74,U 75,U 76,U 77,U 78,U 79,U 80,U 81,U 82,U 83,U 84,U 85,U 86,U 87,U 88,U 89,U 90,U 91,U 92,U 93,U 94,U 95,U 96,U 97,U 98],defers:={ target := .collected D,args:=#[] } :: ds })→(rn=0∨m=(zal T S).length)→Blk W2 Bn #[.int .i64 m] 3→Blk W2 Br #[.int .i64 r] 3→Below TW.heap.size TW W2→Marks TW.heap.size W2 W2.heap.size ({ target := .collected D,args:=#[] } :: ds)→K1 a2 W2:=by
    rintro W2 D m a2 ⟨U,rfl⟩ hms p3 p4 p5 p6
    clear hN0 hB1 hM1 hR0
    apply hK1
    clear hK1
    have hTW2:=p5.size
    have n0:=p3.cell 0
    have r0:=p4.cell 0
    have l0:=(hST.l.below p5 (by omega)).cell 0
    have hal:=zf8 W2 (.cells #[.int .i64 (r+1)] 3)
    have e1:=kz (p5.trans (hal.mono hTW2))
    have e2:=kz (Blk.new W2 #[.int .i64 (r+1)] 3)
    have e3:=kz (p6.oldQ hal (Nat.le_refl _))
    have hz2:W2.heap.size≤(W2.alloc (.cells #[.int .i64 (r+1)] 3)).heap.size:=by simp
    clear p3 p4 p5 p6 hal
    have hrn:=oz HRR
    by_cases h0:rn=0
    ·have hr1:(r == 1)=false:=by rw [beq_eq_false_iff_ne];omega
     clear h0 hms hrn
     gi_wp2
     exact oz HKK (2 - (rn+1)) _ _ (by omega) ⟨rn+1,W2.heap.size,W2.heap.size,_,by omega,rfl,e1,e3,hz2,hTW2,r+1,by have:=oz HRR;omega,e2,zau rfl⟩
    ·have hr1:(r == 1)=true:=by rw [beq_iff_eq];omega
     have hmm:m=(zal T S).length:=by omega
     have hme:((m:Int) != ((zal T S).length:Int))=false:=by simp;omega
     clear h0 hms hrn hmm
     gi_wp2
     exact oz HKK (2 - (rn+1)) _ _ (by omega) ⟨rn+1,W2.heap.size,W2.heap.size,_,by omega,rfl,e1,e3,hz2,hTW2,r+1,by have:=oz HRR;omega,e2,zau rfl⟩
   have KEY:=kz key
   clear key hK1 hK2
   refine zdu rfl h1 (gf:=45) (lb:=#[.pointer (some ⟨Bl+1+1,0,none⟩),.pointer (some ⟨Bl+1+1+1,0,none⟩)]) rfl trivial (enters_of Tryz.func45 (by kernel_rfl) rfl)
    (oz HDP (n - 1) (by omega)) KpQ.trans (fun W l o hl =>KpQ.put W l o (by omega) (by omega) (by omega)) hB1 (fun _ =>rfl)
    (ReI TW Bn Br hi ds r) (ReX TW Bn Br hi ds r) (ReI.old (by omega) (by omega) (by omega) (by omega)) (ReX.old (by omega) (by omega) (by omega) (by omega)) ⟨hN0,hR0,hB1,hM1⟩ ?round ?done ?stop
   case round =>
    rintro pre x Y ⟨p1,p2,p3,p4⟩ hpx hge
    have hal:=zf8 Y (.cells #[.int .i64 x.1,.int .i64 x.2] 40)
    have hX:=Blk.new Y #[.int .i64 x.1,.int .i64 x.2] 40
    have hx:=zpM hpx
    have hpl:pre.length < (zal T S).length:=by
     have h2:=hpx.length_le
     rw [List.length_append,List.length_singleton] at h2
     omega
    dsimp only [zdC]
    gi_wp2
    refine ⟨Above.below hal,KpQ.below hal (by omega) (by omega) (by omega),ReI.old (B:=X1.heap.size) (by omega) (by omega) (by omega) (by omega) _ _ _ ⟨p1,p2,p3,p4⟩ (hal.mono (by omega)), ?_⟩
    rintro Wr hgr hsr ⟨p1,p2,p3,p4⟩
    have hXr:=hX.kept hgr (by simp;omega)
    obtain ⟨PX,hPX⟩:∃ PX,PX=Y.heap.size:=⟨_,rfl⟩
    rw [← hPX] at hXr
    rw [← hPX]
    have hsr2:Wr.heap.size=PX+1:=by rw [hsr,hPX];try simp
    have hge2:X1.heap.size+2≤PX:=by omega
    clear hPX hsr hgr hX hal hge hN0 hR0 hB1 hM1
    obtain ⟨g,o,rfl,hg,s0,s1,_,_⟩:=zcU ((oz HRL).below p3 (Nat.le_refl _)) (k:=pre.length) (x:=x.1) (by rw [List.getElem?_map,hx];rfl)
    obtain ⟨g',o',rfl,hg',s2⟩:=zpI ((oz HRN).below p3 (Nat.le_refl _)) hx
    have x0:=cell_regrown (show Wr.cell? ⟨PX,0,none⟩=some (.int .i64 x.1) from hXr.cell 0)
    have x1:=cell_regrown (show Wr.cell? ⟨PX,1,none⟩=some (.int .i64 x.2) from hXr.cell 1)
    have kn:=cell_regrown (show Wr.cell? ⟨Bn,0,none⟩=some (.int .i64 pre.length) from p1.cell 0)
    have kl:=cell_regrown (show Wr.cell? ⟨Bl,0,none⟩=some _ from (hST.l.below p3 hST.l.lt).cell 0)
    have ks:=cell_regrown (show Wr.cell? ⟨Bl+1,0,none⟩=some _ from (hST.ns.below p3 hST.ns.lt).cell 0)
    have y0:=cell_regrown s0
    have y1:=cell_regrown s1
    have y2:=cell_regrown s2
    have hlt:¬ (zal T S).length≤pre.length:=by omega
    have hi0:pre.length < (zal T S).length:=hpl
    have hi2:((pre.length:Nat):Int).toNat=pre.length:=by omega
    have hpb:(pre.length:Int)≤3000:=by omega
    have HP1:=kz p1
    have HP2:=kz p2
    have HP3:=kz p3
    have HP4:=kz p4
    clear p1 p2 p3 p4 s0 s1 s2 hx hpx hpl hXr
    gi_wp2_with fail
    refine zeT (by kernel_rfl) (by kernel_rfl) (by kernel_rfl) ?_
    repeat (refine wpQuietIn_step (by first | quiet_asked_in | (go_simp;intros;trivial)) (fun K hK =>?_);go_simp;(refine hK _ ?_;clear hK K))
    refine wpQuietIn_nil ?_
    rintro _ ⟨⟨dq,osq⟩,rfl⟩
    clear x0 x1 kn kl ks y0 y1 y2
    have hbr:=below_regrown Wr dq osq
    generalize Go.Sort.grow (redrawn Wr dq) osq=W3 at *
    have hTr:=(oz HP3).size
    have q1:=(oz HP1).below hbr (oz HP1).lt
    have q2:=(oz HP2).below hbr (oz HP2).lt
    have q3:=(oz HP3).trans (hbr.mono hTr)
    have q4:=(oz HP4).oldQ hbr (by omega)
    have n0:=q1.cell 0
    have nf:=q1.frozen 0
    have c0:Blk (W3.setCell ⟨Bn,0,none⟩ (.int .i64 ((pre.length:Int)+1))) Bn #[.int .i64 ((pre.length:Int)+1)] 3:=q1.set 0 _
    have c1:Blk (W3.setCell ⟨Bn,0,none⟩ (.int .i64 ((pre.length:Int)+1))) Bn #[.int .i64 ((pre++[x]).length:Nat)] 3:=by rw [show (((pre++[x]).length:Nat):Int)=(pre.length:Int)+1 by simp];exact c0
    have c2:Blk (W3.setCell ⟨Bn,0,none⟩ (.int .i64 ((pre.length:Int)+1))) Br #[.int .i64 r] 3:=q2.other (by omega) _
    have c3:=q3.setCell (p:=⟨Bn,0,none⟩) hTB (.int .i64 ((pre.length:Int)+1))
    have c4:Marks TW.heap.size (W3.setCell ⟨Bn,0,none⟩ (.int .i64 ((pre.length:Int)+1))) hi ds:=q4.keep (fun k hk he =>(Below.heap_setCell W3 ⟨Bn,0,none⟩ _ k (by show k≠Bn;omega)).trans he)
    have c5:Above X1.heap.size Wr (W3.setCell ⟨Bn,0,none⟩ (.int .i64 ((pre.length:Int)+1))):=(Above.below hbr).set (by omega) _
    have c6:KpQ TW.heap.size (Bl+1+1) (Bl+1+1+1) Wr (W3.setCell ⟨Bn,0,none⟩ (.int .i64 ((pre.length:Int)+1))):=(KpQ.below hbr hTr (by omega) (by omega)).trans (KpQ.set W3 _ hTB (by omega) (by omega))
    have n1:=c0.cell 0
    have r1:=c2.cell 0
    have t1:=(hST.s.below c3 hST.s.lt).cell 0
    have HEN:=kz (And.intro c1 (And.intro c2 (And.intro c3 (And.intro c4 (And.intro c5 c6)))))
    clear q1 q2 q3 q4 c0 c1 c2 c3 c4 c5 c6 hbr
    by_cases h0:r=0
    ·have hre:(r == 0)=true:=by simpa using h0
     have HR0:=kz h0
     clear h0
     by_cases hs:st < (pre.length:Int)+1
     ·gi_wp2
      obtain ⟨c1,c2,c3,c4,c5,c6⟩:=oz HEN
      exact ⟨c5,rfl,oz HR0,c1,c2,c3,c4⟩
     ·gi_wp2
      obtain ⟨c1,c2,c3,c4,c5,c6⟩:=oz HEN
      exact ⟨c5,c6,c1,c2,c3,c4⟩
    ·have hre:(r == 0)=false:=by simpa using h0
     clear h0
     gi_wp2
     obtain ⟨c1,c2,c3,c4,c5,c6⟩:=oz HEN
     exact ⟨c5,c6,c1,c2,c3,c4⟩
   case done =>
    rintro D xs W2 hD hS ⟨p1,p2,p3,p4⟩ hdef
    exact oz KEY W2 D xs.length _ (zau rfl) (.inr (by rw [hS])) p1 p2 p3 (p4.push (by omega) (by omega) hdef)
   case stop =>
    rintro D c pre W2 hD hSp ⟨rfl,h0,p1,p2,p3,p4⟩ hdef
    have HK2:=kz (oz KEY W2 D pre.length)
    have HPP:=kz (And.intro p1 (And.intro p2 (And.intro p3 (p4.push (D:=D) (by omega) (by omega) hdef))))
    have hrn0:rn=0:=by have:=oz HRR;omega
    clear p1 p2 p3 p4 hN0 hB1 hM1 hR0
    gi_wp2
    exact oz HK2 _ (zau rfl) (.inl hrn0) (oz HPP).1 (oz HPP).2.1 (oz HPP).2.2.1 (oz HPP).2.2.2
  ·have hr':¬ r < 2:=by omega
   have hST:=oz HST
   have r0:=(oz HRB).cell 0
   clear hK
   gi_wp2_with fail
   refine ⟨trivial, ?_⟩
   refine (callsIn_wide.2 (zgC X)).mono ?_
   rintro e X2 ⟨rfl,hb⟩
   have hBX:=(oz HBW).trans (hb.mono hTX)
   have hMX:=(oz HMW).oldQ hb hhi
   have q1:=hST.r.below hBX hST.r.lt
   have hTb:=hST.old.size
   have q2:=hST.old.trans (hBX.mono hTb)
   have k4:=q1.cell 0
   have kf:=q1.frozen 0
   have c3:Marks W.heap.size (X2.setCell ⟨W.heap.size+1+1,0,none⟩ (.bool true)) hi ds:=(hMX.lowerQ hTb).keep (fun k hk he =>(Below.heap_setCell X2 ⟨W.heap.size+1+1,0,none⟩ _ k (by intro e;have e':k=W.heap.size+1+1:=e;rw [e',show X2.heap[W.heap.size+1+1]?=_ from q1] at he;cases he)).trans he)
   have HCE:=kz (And.intro (q1.set 0 (.bool true)) (And.intro (q2.setCell (p:=⟨W.heap.size+1+1,0,none⟩) (by show W.heap.size≤W.heap.size+1+1;omega) (.bool true)) c3))
   clear q1 q2 c3 hBX hMX hb r0
   gi_wp2
   refine zfC _ _ _ (oz HCE).2.2 (oz HCE).1 (oz HCE).2.1 ?_
   intro W' hb' hB'
   have q:=hb'.cell 0
   exact ⟨.bool true,by simp [results,Tryz.f4,go_sem,q],rfl,hB'⟩
theorem seen11 (T:TV) (hT:TabB T∧zlM T) (a0 a1 a2 a3 a4 a5 a6 a7:Option Addr) (c0 c1 c2 c3 c4 c5 c6 c7:Nat) (us:List Value) (s:ByteArray) (hs:s.size≤1048576) (k:Int) (W:World) (hA:TabIn W T a0 a1 a2 a3 a4 a5 a6 a7 us) :
  Calls Tryz.prog 4 #[.agg (zop T a0 a1 a2 a3 a4 a5 a6 a7 c0 c1 c2 c3 c4 c5 c6 c7),.string s,.int .i64 k] W fun e w' =>e=.returned (.bool true)∧Below W.heap.size W w' :=
 callsIn_wide.1 (zme 6 (Nat.le_refl _) T hT.1 hT.2 ⟨a0,a1,a2,a3,a4,a5,a6,a7,c0,c1,c2,c3,c4,c5,c6,c7,us⟩ s (by omega) k W hA)
end
end Go.Proofs.YtmemedpoaocdkaaGreat
