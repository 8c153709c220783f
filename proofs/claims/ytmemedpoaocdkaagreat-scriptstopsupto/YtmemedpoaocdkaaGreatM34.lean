/- Texts of this claim, one behind the other. -/
import Derived.Test.YtmemedpoaocdkaaGreatM33
import Derived.Test.YtmemedpoaocdkaaGreatM32
import Derived.Test.YtmemedpoaocdkaaGreatM31
import Derived.Test.YtmemedpoaocdkaaGreatBound
/- script.Stop and script.Can, told for every Book and every text that is not too great. -/
namespace Go.Proofs.YtmemedpoaocdkaaGreat
open Go.RowKit Go.Shelf Go.Maps
attribute [local go_sem] Oper.semAt_some
set_option linter.unusedVariables false
theorem zeE {T:TV} {s:ByteArray} {q r:List Nat} {x:Nat} (he:zai s=q++[x]++r) (h0:zbE (zaH T (q.map (spX s)))=false) (h1:zbE (zaH T ((q++[x]).map (spX s)))=true):zbj T s=some (x,q.length):=by
 have hs:spL s=q.map (spX s)++[spX s x]++r.map (spX s):=by unfold spL;rw [he];simp
 have hq:(spL s).take q.length=q.map (spX s):=by
  rw [hs,List.append_assoc,List.take_append_of_le_length (by simp),List.take_of_length_le (by simp)]
 have hq1:(spL s).take (q.length+1)=(q++[x]).map (spX s):=by
  rw [hs,List.take_append_of_le_length (by simp),List.take_of_length_le (by simp),List.map_append,List.map_singleton]
 refine ze8 ?_ (by rw [hq1];exact h1) (fun j hj =>?_)
 ·rw [he,List.append_assoc,List.getElem?_append_right (Nat.le_refl _),Nat.sub_self]
  rfl
 ·cases hm:zbE (zaH T ((spL s).take (j+1))) with
  | false =>rfl
  | true =>
   have:zbE (zaH T ((spL s).take q.length))=true:=zdM (fun y hy =>(List.take_subset_take_left (spL s) (show j+1≤q.length by omega)) hy) hm
   rw [hq,h0] at this
   cases this
def SpI (w:World) (Bt lo B:Nat) (T:TV) (s:ByteArray) (pre:List Nat) (W:World):Prop :=
 TiI w w.heap.size Bt (Bt+2) lo B T s pre W∧Hz (zbE (zaH T (pre.map (spX s)))=false)∧Blk W (w.heap.size+1) #[.int .i64 0,.int .i64 0] 40∧Blk W (w.heap.size+2) #[.bool false] 4∧Blk W (Bt+1) #[.int .i64 pre.length] 3
theorem zbM {X Y:World} {row:Option Nat} {A Bq:Nat} {cs:Array Value} {t:TypeId} (hg:X.grownBy Y row) (hrow:∀ j,row=some j→A≤j∧∃ o,X.heap[j]?=some o∧o.isCells=false) (h:Blk X Bq cs t):Blk Y Bq cs t:=h.kept hg (fun e' =>by
 obtain ⟨_,o,ho,hc⟩:=hrow Bq e'.symm
 rw [show X.heap[Bq]?=_ from h] at ho;cases ho;cases hc)
theorem SpI.own {w:World} {Bt lo B A:Nat} {T:TV} {s:ByteArray} (h1:w.heap.size≤A):OwnFrom A (SpI w Bt lo B T s):=by
 rintro p X Y row ⟨h,hm,h2,h3,h4⟩ hg hrow
 exact ⟨TiI.own h1 p X Y row h hg hrow,hm,zbM hg hrow h2,zbM hg hrow h3,zbM hg hrow h4⟩
def SpX (w:World) (T:TV) (s:ByteArray) (c:Code) (pre:List Nat) (W:World):Prop :=
 c=.ret∧(∃ q x,pre=q++[x]∧Hz (zbE (zaH T (q.map (spX s)))=false)∧Hz (zbE (zaH T ((q++[x]).map (spX s)))=true)∧Blk W (w.heap.size+1) #[.int .i64 x,.int .i64 q.length] 40)∧Blk W (w.heap.size+2) #[.bool true] 4∧Below w.heap.size w W
theorem SpX.own {w:World} {A:Nat} {T:TV} {s:ByteArray} (c:Code) (h1:w.heap.size≤A):OwnFrom A (SpX w T s c):=by
 rintro p X Y row ⟨hc,⟨q,x,e,a,b,h2⟩,h3,hl⟩ hg hrow
 exact ⟨hc,⟨q,x,e,a,b,zbM hg hrow h2⟩,zbM hg hrow h3,hl.grown hg hl.size (fun j e =>by have:=(hrow j e).1;omega)⟩
set_option maxRecDepth 100000 in
set_option maxHeartbeats 4000000 in
theorem zeF (n:Nat) (hn:4≤n) (T:TV) (hO:zam T) (s:ByteArray) (hs:s.size≤1000000000000) (B:Nat) (w:World) (hbk:BookAt w B T) :
  CallsIn Fence.wide n Tryz.prog 27 #[.pointer (some ⟨B,0,none⟩),.string s] w fun e w' =>e=.returned (zbW (zbj T s))∧Below w.heap.size w w':=by
 have h1:1≤n:=by omega
 have hsm:s.size≤maxLen:=by unfold maxLen;omega
 have hsl:(zai s).length≤s.size:=zav s
 have hL:=hO.l0
 refine callsIn_of_wp_marks Tryz.func27 rfl trivial ?_ rfl
 simp only [Tryz.ntmps27,List.size_toArray,List.length_cons,List.length_nil,Nat.reduceAdd,Nat.reduceSub,Array.replicate_succ,Array.replicate_zero,List.push_toArray,List.append_toArray,List.nil_append,List.cons_append]
 have hb1:=(((Below.refl w.heap.size w).alloc (Nat.le_refl _) (.cells #[.pointer (some ⟨B,0,none⟩)] 29)).alloc (by simp) (.cells #[.int .i64 0,.int .i64 0] 40)).alloc (by simp;omega) (.cells #[.bool false] 4)
 have hk1:=((Blk.new w #[.pointer (some ⟨B,0,none⟩)] 29).alloc (.cells #[.int .i64 0,.int .i64 0] 40)).alloc (.cells #[.bool false] 4)
 have hk2:=(Blk.new (w.alloc (.cells #[.pointer (some ⟨B,0,none⟩)] 29)) #[.int .i64 0,.int .i64 0] 40).alloc (.cells #[.bool false] 4)
 have hk3:=Blk.new ((w.alloc (.cells #[.pointer (some ⟨B,0,none⟩)] 29)).alloc (.cells #[.int .i64 0,.int .i64 0] 40)) #[.bool false] 4
 have hz1:(((w.alloc (.cells #[.pointer (some ⟨B,0,none⟩)] 29)).alloc (.cells #[.int .i64 0,.int .i64 0] 40)).alloc (.cells #[.bool false] 4)).heap.size=w.heap.size+3:=by simp
 simp only [World.size_alloc] at hk2 hk3
 have HU:=kz (zch hO B _ (hbk.below hb1))
 have HB1:=kz hb1
 have HK1:=kz (And.intro hk1 (And.intro hk2 hk3))
 clear hb1 hk1 hk2 hk3
 gi_wp2_with fail
 generalize ((w.alloc (.cells #[.pointer (some ⟨B,0,none⟩)] 29)).alloc (.cells #[.int .i64 0,.int .i64 0] 40)).alloc (.cells #[.bool false] 4)=W1 at *
 refine ⟨trivial, ?_⟩
 refine (callsIn_wide.2 (oz HU)).mono ?_
 rintro e w1 ⟨v0,rfl,ho0,hb⟩
 have ho:=ho0
 rw [List.length_range] at ho0
 obtain ⟨a0,c0,rfl⟩:=zag ho0
 clear ho0
 have hs1:=hb.size
 have hB1:=(oz HB1).trans (hb.mono (oz HB1).size)
 have hK1:=(oz HK1).1.below hb (oz HK1).1.lt
 have hK2:=(oz HK1).2.1.below hb (oz HK1).2.1.lt
 have hK3:=(oz HK1).2.2.below hb (oz HK1).2.2.lt
 have hTI:SpI w w1.heap.size W1.heap.size B T s [] (((w1.alloc (.cells #[.slice a0 T.sc.length c0,.bool false] 96)).alloc (.cells #[.int .i64 0] 3)).alloc (.cells #[.string s] 9)):=by
  have t1:=((Blk.new w1 #[.slice a0 T.sc.length c0,.bool false] 96).alloc (.cells #[.int .i64 0] 3)).alloc (.cells #[.string s] 9)
  have t2:=(Blk.new (w1.alloc (.cells #[.slice a0 T.sc.length c0,.bool false] 96)) #[.int .i64 0] 3).alloc (.cells #[.string s] 9)
  have t3:=Blk.new ((w1.alloc (.cells #[.slice a0 T.sc.length c0,.bool false] 96)).alloc (.cells #[.int .i64 0] 3)) #[.string s] 9
  simp only [World.size_alloc] at t2 t3
  exact ⟨⟨.slice a0 T.sc.length c0,t1,((ho.alloc _).alloc _).alloc _,((hK1.alloc _).alloc _).alloc _,t3,((hB1.alloc hB1.size _).alloc (by have:=hB1.size;simp;omega) _).alloc (by have:=hB1.size;simp;omega) _,by simp;omega,fun e =>by have:=(ho.lt _ e).2;omega⟩,kz rfl,((hK2.alloc _).alloc _).alloc _,((hK3.alloc _).alloc _).alloc _,t2⟩
 have hz0:(((w1.alloc (.cells #[.slice a0 T.sc.length c0,.bool false] 96)).alloc (.cells #[.int .i64 0] 3)).alloc (.cells #[.string s] 9)).heap.size=w1.heap.size+3:=by simp
 have HTI:=kz hTI
 have HBK:=kz (fun W (h:Below w.heap.size w W) =>hbk.below h)
 have HO:=kz hO
 clear HU HB1 HK1 ho hb hB1 hK1 hK2 hK3 hTI hbk hO
 gi_wp2_with (refine ⟨trivial, ?_⟩;gi_at_call 41;refine (callsIn_wide.2 (zcJ _ _)).mono ?_;rintro e w' ⟨rfl,rfl⟩)
 generalize ((w1.alloc (.cells #[.slice a0 T.sc.length c0,.bool false] 96)).alloc (.cells #[.int .i64 0] 3)).alloc (.cells #[.string s] 9)=W0 at *
 obtain ⟨Bt,hBt⟩:∃ Bt,Bt=w1.heap.size:=⟨_,rfl⟩
 rw [← hBt] at HTI hz0 ⊢
 have hge:w.heap.size+3≤Bt:=by omega
 have hW1:=hz1
 clear hBt hs1
 refine wpIn_rangeFunc_ownH rfl h1 (gf:=63) (lb:=#[.pointer (some ⟨Bt+1+1,0,none⟩)]) rfl trivial (enters_of Tryz.func63 (by kernel_rfl) rfl)
  (zbG (n - 1) (Bt+1+1) (by omega) s hsm W0 ((oz HTI).1.choose_spec.2.2.2.1.cell 0)) zjQ (zjR (by omega)) (Below.refl _ _) (fun _ =>rfl)
  (SpI w Bt W1.heap.size B T s) (SpX w T s) (SpI.own (by omega)) (fun c =>SpX.own c (by omega)) (oz HTI)
  (fun x a' W => ∃ Bx,Blk W Bx (zaS (zb1 s x)) 70∧a' = { tmps:=#[.pointer (some ⟨B,0,none⟩),.string s,.pointer (some ⟨w.heap.size,0,none⟩),undef,.pointer (some ⟨w.heap.size+1,0,none⟩),.pointer (some ⟨w.heap.size+1+1,0,none⟩),.pointer (some ⟨Bt,0,none⟩),.pointer (some ⟨Bt+1,0,none⟩),.int .i64 x,.pointer (some ⟨Bx,0,none⟩),.pointer (some ⟨B,0,none⟩),.bool false,undef,.pointer (some ⟨B,0,none⟩),.agg #[.slice a0 T.sc.length c0,.bool false],.string s,.func (.func 63) #[] #[.pointer (some ⟨Bt+1+1,0,none⟩)],.int .i64 x,zbn (zb1 s x),undef,undef,undef,undef,undef,undef,undef,undef,undef,undef,undef,undef],defers := [] })
  (fun x a' =>Own.from (fun u A B row hs hg hr =>by
   obtain ⟨Bx,h2,h3⟩:=hs
   exact ⟨Bx,Blk.own _ (fun _ =>_) _ () A B row h2 hg hr,h3⟩) _)
  ?assign ?body ?done ?stop
 case assign =>
  rintro l pre x W K ⟨hI,hm,hk2,hk3,hk4⟩ hK
  gi_wp2
  refine hK _ _ ((KeepsOthers.alloc _ _).from _) ⟨?_,KeepsWalks.alloc _ _⟩ ⟨hI.alloc _,hm,hk2.alloc _,hk3.alloc _,hk4.alloc _⟩ ⟨W.heap.size,Blk.new W _ 70,rfl⟩
  obtain ⟨v,_,_,_,hS,_,_⟩:=hI
  exact ((hS.alloc _).cell 0).trans (hS.cell 0).symm
 case body =>
  rintro l pre x a' W hl ⟨r,hr⟩ ⟨⟨v,hT,hR,hB,hS,hl2,hlo,hnb⟩,hm,hk2,hk3,hk4⟩ ⟨Bx,bX,rfl⟩ hlt
  have t0:=hT.cell 0
  have t1:=hT.cell 1
  have tf:=hT.frozen
  have x0:=bX.cell 0
  have x1:=bX.cell 1
  have x2:=bX.cell 2
  have b0:=hB.cell 0
  have hpl:pre.length < s.size:=by omega
  have hlen:=zbc T (pre.map (spX s))
  have HSN:Hz (zaH T ((pre++[x]).map (spX s))=zdR T (zaH T (pre.map (spX s))) (spX s x)):=kz (by rw [List.map_append,List.map_singleton,zcI])
  have HLN:=kz (zbc T ((pre++[x]).map (spX s)))
  have HW:=kz (zdD (oz HO) B v (zaH T (pre.map (spX s))).1 (zaH T (pre.map (spX s))).2 (rn s x) (wd s x) (zeC s x) (zgr s x) (by omega) (fun n hn =>by have:=(zc1.1 hn).1;omega) _ W (oz HBK W hl2) hR hlo)
  have HH:=kz (And.intro hT (And.intro hB (And.intro hS (And.intro hl2 (And.intro hk2 (And.intro hk3 hk4))))))
  clear hT hR hB hS hl2 bX hk2 hk3 hk4 hr
  obtain ⟨tn,htn⟩:∃ tn,tn=zaH T ((pre++[x]).map (spX s)):=⟨_,rfl⟩
  have HTN:=kz htn
  rw [← htn] at HSN HLN
  clear htn
  have hte:zdR T ((zaH T (pre.map (spX s))).1,(zaH T (pre.map (spX s))).2) ((rn s x:Int),zeC s x)=tn:=(oz HSN).symm
  rw [hte] at HW
  clear hte
  have HMQ:=kz (show ∃ l0,l0=pre.map (spX s)∧zbE (zaH T l0)=false from ⟨_,rfl,oz hm⟩)
  clear hm
  generalize zaH T (pre.map (spX s))=tt at *
  gi_wp2_with fail
  refine ⟨trivial,fun _ =>by omega, ?_⟩
  refine (CallsIn.inRound _ (callsIn_wide.2 (oz HW))).mono ?_
  rintro e w3 ⟨v',rfl,ho,hb,hnv⟩
  have HNV:Hz (v'.ownBlock≠some (Bt+1)):=kz (fun e =>by
   rcases hnv _ e with h | h
   ·exact hnb h
   ·have:=(oz HH).2.2.1.lt
    omega)
  clear hnv
  obtain ⟨a',c',rfl⟩:=zag ho
  obtain ⟨hT,hB,hS,hl2,hk2,hk3,hk4⟩:=oz HH
  have hT3:=hT.below hb hT.lt
  have hB3:=hB.below hb hB.lt
  have hS3:=hS.below hb hS.lt
  have hl3:=hl2.trans (hb.mono hl2.size)
  have hp3:=hk2.below hb hk2.lt
  have hq3:=hk3.below hb hk3.lt
  have hn3:=hk4.below hb hk4.lt
  have c0:=hT3.cell 0
  have c1:=hT3.cell 1
  have cf:=hT3.frozen
  have hsz:=hb.size
  have hkk:=((za7 hb).trans (KeepsOthers.setCell w3 ⟨Bt,0,none⟩ (.slice a' tn.1.length c'))).trans (KeepsOthers.setCell _ ⟨Bt,1,none⟩ (.bool tn.2))
  have hT4:=(hT3.set 0 (.slice a' tn.1.length c')).set 1 (.bool tn.2)
  have hS4:=(hS3.other (B':=Bt) (i:=0) (by omega) (.slice a' tn.1.length c')).other (B':=Bt) (i:=1) (by omega) (.bool tn.2)
  have hB4:=(hB3.other (B':=Bt) (i:=0) (by omega) (.slice a' tn.1.length c')).other (B':=Bt) (i:=1) (by omega) (.bool tn.2)
  have hp4:=(hp3.other (B':=Bt) (i:=0) (by omega) (.slice a' tn.1.length c')).other (B':=Bt) (i:=1) (by omega) (.bool tn.2)
  have hq4:=(hq3.other (B':=Bt) (i:=0) (by omega) (.slice a' tn.1.length c')).other (B':=Bt) (i:=1) (by omega) (.bool tn.2)
  have hn4:=(hn3.other (B':=Bt) (i:=0) (by omega) (.slice a' tn.1.length c')).other (B':=Bt) (i:=1) (by omega) (.bool tn.2)
  have hl4:=(hl3.setCell (p:=⟨Bt,0,none⟩) (by simp;omega) (.slice a' tn.1.length c')).setCell (p:=⟨Bt,1,none⟩) (by simp;omega) (.bool tn.2)
  have ho4:=zbC (zbC ho hT3 (by decide) 0 (.slice a' tn.1.length c')) (hT3.set 0 (.slice a' tn.1.length c')) (by decide) 1 (.bool tn.2)
  have hz4:=hkk.size
  have HE:=kz (And.intro hT4 (And.intro hB4 (And.intro hS4 (And.intro hl4 (And.intro ho4 (And.intro hkk (And.intro hp4 (And.intro hq4 hn4))))))))
  have HSS:=kz hS
  clear hT hB hS hl2 hT3 hB3 hS3 hl3 ho hb HW HH t0 t1 tf x0 x1 x2 b0 hk2 hk3 hk4 hp3 hq3 hn3 hT4 hS4 hB4 hp4 hq4 hn4 hl4 ho4 hkk
  gi_wp2_with fail
  refine ⟨trivial,fun _ =>by omega, ?_⟩
  refine (CallsIn.inRound _ (callsIn_wide.2 (zeN (.slice a' tn.1.length c') tn.1 tn.2 _ W1.heap.size (oz HE).2.2.2.2.1 (by have:=oz HLN;omega)))).mono ?_
  rintro e w5 ⟨rfl,hb5⟩
  obtain ⟨hT4,hB4,hS4,hl4,ho4,hkk,hp4,hq4,hn4⟩:=oz HE
  have hT5:=hT4.below hb5 hT4.lt
  have hB5:=hB4.below hb5 hB4.lt
  have hS5:=hS4.below hb5 hS4.lt
  have hl5:=hl4.trans (hb5.mono hl4.size)
  have hp5:=hp4.below hb5 hp4.lt
  have hq5:=hq4.below hb5 hq4.lt
  have hn5:=hn4.below hb5 hn4.lt
  have ho5:=zal ho4 hb5
  have hk5:=hkk.trans (za7 hb5)
  have hz5:=hb5.size
  have p0:=hp5.cell 0
  have p1:=hp5.cell 1
  have pf:=hp5.frozen
  have q0:=hq5.cell 0
  have qf:=hq5.frozen
  have n0:=hn5.cell 0
  have nf:=hn5.frozen
  have HE5:=kz (And.intro hT5 (And.intro hB5 (And.intro hS5 (And.intro hl5 (And.intro ho5 (And.intro hk5 (And.intro hp5 (And.intro hq5 hn5))))))))
  have hge5:W1.heap.size≤w5.heap.size:=by omega
  clear hT4 hB4 hS4 hl4 ho4 hkk hp4 hq4 hn4 hT5 hB5 hS5 hl5 ho5 hk5 hp5 hq5 hn5 hb5 HE c0 c1 cf
  have HMX:Hz (zbE (zaH T ((pre++[x]).map (spX s)))=zbE (tn.1,tn.2)):=kz (by rw [← oz HTN])
  generalize zbE (tn.1,tn.2)=mm at *
  cases mm with
  | true =>
   gi_wp2
   obtain ⟨hT5,hB5,hS5,hl5,ho5,hk5,hp5,hq5,hn5⟩:=oz HE5
   refine ⟨(((hk5.trans (KeepsOthers.setCell _ _ _)).trans (KeepsOthers.setCell _ _ _)).trans (KeepsOthers.setCell _ _ _)).from _,rfl,⟨pre,x,rfl,kz (by obtain ⟨l0,e,h⟩:=oz HMQ;rw [← e];exact h),HMX,((hp5.set 0 _).set 1 _).other (by omega) _⟩,((hq5.other (by omega) _).other (by omega) _).set 0 _, ?_⟩
   exact ((hl5.setCell (p:=⟨w.heap.size+1,0,none⟩) (by simp) _).setCell (p:=⟨w.heap.size+1,1,none⟩) (by simp) _).setCell (p:=⟨w.heap.size+1+1,0,none⟩) (by simp;omega) _
  | false =>
   gi_wp2
   obtain ⟨hT5,hB5,hS5,hl5,ho5,hk5,hp5,hq5,hn5⟩:=oz HE5
   have hkf:=hk5.trans (KeepsOthers.setCell w5 ⟨Bt+1,0,none⟩ (.int .i64 ((pre.length:Int)+1)))
   have hS6:=hS5.other (B':=Bt+1) (i:=0) (by omega) (.int .i64 ((pre.length:Int)+1))
   refine ⟨hkf.from _,⟨(hS6.cell 0).trans ((oz HSS).cell 0).symm,hkf.walks⟩,⟨.slice a' tn.1.length c', ?_, ?_,hB5.other (by omega) _,hS6,hl5.setCell (p:=⟨Bt+1,0,none⟩) (by simp;omega) _, ?_,oz HNV⟩,HMX,hp5.other (by omega) _,hq5.other (by omega) _, ?_⟩
   ·rw [← oz HTN]
    exact hT5.other (by omega) _
   ·rw [← oz HTN]
    exact ho5.kept (zau w5 ⟨Bt+1,0,none⟩ _) (.inr (oz HNV))
   ·have:=hkf.size
    omega
   ·rw [show (((pre++[x]).length:Nat):Int)=(pre.length:Int)+1 by simp]
    exact hn5.set 0 _
 case done =>
  rintro D ys W hD hys ⟨⟨v,hT,hR,hB,hS,hl2,hlo,hnb⟩,hm,hk2,hk3,hk4⟩ hK
  have HV:=kz (zec (T:=T) (s:=s) (by rw [show spL s=ys.map (spX s) by rw [hys];rfl];exact oz hm))
  have k2:=hk2
  have k3:=hk3
  have hB:=hl2
  have c0:=k2.cell 0
  have c1:=k2.cell 1
  have c3:=k3.cell 0
  have f0:=k2.frozen
  have f3:=k3.frozen
  clear hys hT hR hS hl2 hk2 hk3 hk4 hm
  gi_wp2
  have hK':=(((KeepsOthers.setCell W ⟨w.heap.size+1,0,none⟩ (.int .i64 0)).trans (KeepsOthers.setCell _ ⟨w.heap.size+1,1,none⟩ (.int .i64 0))).trans (KeepsOthers.setCell _ ⟨w.heap.size+1+1,0,none⟩ (.bool false))).same D _ hK rfl
  have k2':=Blk.other (i:=0) ((k2.set 0 (.int .i64 0)).set 1 (.int .i64 0)) (B':=w.heap.size+1+1) (by omega) (.bool false)
  have k3':=((k3.other (B':=w.heap.size+1) (i:=0) (by omega) (.int .i64 0)).other (B':=w.heap.size+1) (i:=1) (by omega) (.int .i64 0)).set 0 (.bool false)
  have hB':=((hB.setCell (p:=⟨w.heap.size+1,0,none⟩) (by simp) (.int .i64 0)).setCell (p:=⟨w.heap.size+1,1,none⟩) (by simp) (.int .i64 0)).setCell (p:=⟨w.heap.size+1+1,0,none⟩) (by simp;omega) (.bool false)
  clear hK k2 k3 hB c0 c1 c3 f0 f3
  refine ⟨by simp,.inl ⟨_,_,rfl,run_takeDeferred hK', ?_⟩⟩
  have q2:=k2'.put (.deferred Option.none) hK' rfl
  have q3:=k3'.put (.deferred Option.none) hK' rfl
  have c0:=q2.cell 0
  have c1:=q2.cell 1
  have c3:=q3.cell 0
  refine ⟨.tuple #[.agg #[.int .i64 0,.int .i64 0],.bool false], ?_,by rw [oz HV];rfl,hB'.trans (belowK_b (w:=w) (Nat.le_refl _) _ D _ _ (by omega) hK' rfl rfl)⟩
  simp [results,Tryz.f27,go_sem,c0,c1,c3]
 case stop =>
  rintro D c pre W hD hpre hX hK
  obtain ⟨rfl,⟨q,x,rfl,hq,hx,k2⟩,k3,hB⟩:=hX
  obtain ⟨r,hr⟩:=hpre
  have HV:=kz (zeE (T:=T) hr.symm (oz hq) (oz hx))
  clear hr hx hq
  gi_wp2
  refine ⟨by simp,.inl ⟨_,_,rfl,run_takeDeferred hK, ?_⟩⟩
  have q2:=k2.put (.deferred Option.none) hK rfl
  have q3:=k3.put (.deferred Option.none) hK rfl
  have c0:=q2.cell 0
  have c1:=q2.cell 1
  have c3:=q3.cell 0
  refine ⟨.tuple #[.agg #[.int .i64 x,.int .i64 q.length],.bool true], ?_,by rw [oz HV];rfl,hB.trans (belowK_b (w:=w) (Nat.le_refl _) _ D _ _ (by omega) hK rfl rfl)⟩
  simp [results,Tryz.f27,go_sem,c0,c1,c3]
theorem zbx (T:TV) (hO:zam T) (s:ByteArray) (hs:s.size≤1000000000000) (B:Nat) (w:World) (hbk:BookAt w B T):Calls Tryz.prog 27 #[.pointer (some ⟨B,0,none⟩),.string s] w fun e w' =>e=.returned (zbW (zbj T s))∧Below w.heap.size w w' :=
 callsIn_wide.1 (zeF 4 (Nat.le_refl _) T hO s hs B w hbk)
theorem zd8 (T:TV) (hO:zam T) (s:ByteArray) (hs:s.size≤1000000000000) (k:Int) (B:Nat) (w:World) (hbk:BookAt w B T):Calls Tryz.prog 31 #[.pointer (some ⟨B,0,none⟩),.string s,.int .i64 k] w fun e w' =>e=.returned (.bool (inI (zb2 T s) k))∧Below w.heap.size w w':=by
 have HC:=kz (zbD T hO s hs B w hbk)
 have hL:=hO.l0
 have hlen:=zbc T (spL s)
 clear hbk hO
 go_enter Tryz.func31,Tryz.ntmps31
 go_wp2_with fail
 refine (oz HC).mono ?_
 rintro e w1 ⟨v,rfl,ho,hb⟩
 obtain ⟨a,c,rfl⟩:=zag ho
 have HI:=kz (zcR a c (zb2 T s) (by unfold zb2;omega) k w1 (zaG ho))
 have HB:=kz hb
 clear ho hb HC
 go_wp2_with fail
 refine (oz HI).mono ?_
 rintro e w2 ⟨rfl,rfl⟩
 go_wp2_with fail
 go_ret
 exact ⟨rfl,oz HB⟩
end Go.Proofs.YtmemedpoaocdkaaGreat
namespace Go.Proofs.YtmemedpoaocdkaaGreat
open Go.RowKit Go.Shelf Go.Maps
set_option linter.unusedVariables false
theorem zjd:zbj HT ⟨#[97,49,208,176]⟩=some (2,2):=by decide +kernel
theorem zjc:zb2 HT ⟨#[97,98,49]⟩=[0]:=by decide +kernel
theorem zjb:inI (zb2 HT ⟨#[49]⟩) 2=true:=by decide +kernel
set_option maxRecDepth 100000 in
set_option maxHeartbeats 4000000 in
theorem zc2 (w:World):Calls Tryz.prog 25 #[] w fun e w' =>e=.returned (.bool true)∧Below w.heap.size w w':=by
 have hmx:Tryz.prog.follows .mixedOrders=true:=by kernel_rfl
 go_enter Tryz.func25,Tryz.ntmps25
 go_wp2_with fail
 refine (zfR w).mono ?_
 rintro e w1 ⟨v,rfl,hv,hb1⟩
 have HB1:=kz hb1
 have HC:=kz (zeo v w1 hv)
 clear hv hb1
 go_wp2_with fail
 refine (oz HC).mono ?_
 rintro e w2 ⟨B,rfl,hO,_,hbk,hb2⟩
 have HB2:=kz ((oz HB1).trans (hb2.mono (oz HB1).size))
 have HBK:=kz (fun w3 (h:Below w2.heap.size w2 w3) =>hbk.below h)
 have G2:=kz (Below.refl w2.heap.size w2)
 clear hb2 hbk HC HB1
 go_wp2_with fail
 have h:=zbx HT hO ⟨#[97,49,208,176]⟩ (by decide) B w2 (oz HBK w2 (oz G2))
 rw [zjd] at h
 refine h.mono ?_
 clear h
 rintro e w3 ⟨rfl,hb⟩
 rw [show zbW (some (2,2))=.tuple #[.agg #[.int .i64 2,.int .i64 2],.bool true] from rfl]
 have P3:=kz (Blk.new w3 #[.int .i64 2,.int .i64 2] 40)
 have G3:=kz (((oz G2).trans (hb.mono (oz G2).size)).alloc (by have:=(oz G2).size;have:=hb.size;omega) (.cells #[.int .i64 2,.int .i64 2] 40))
 clear hb G2
 have p0:=(oz P3).cell 0
 have p1:=(oz P3).cell 1
 go_wp2_with fail
 generalize w3.alloc (.cells #[.int .i64 2,.int .i64 2] 40)=X3 at *
 have h:=zbD HT hO ⟨#[97,98,49]⟩ (by decide) B X3 (oz HBK X3 (oz G3))
 rw [zjc] at h
 refine h.mono ?_
 clear h
 rintro e w4 ⟨v4,rfl,ho,hb⟩
 have ho1:w4.ownsRow X3.heap.size 3 1 v4 1 [zaP 0]:=ho
 clear ho
 obtain ⟨a4,c4,rfl⟩:=zag ho1
 have HSM:=kz (zd1 a4 (some ⟨w4.heap.size,0,none⟩) c4 1 [0] (by decide) (w4.alloc (.cells #[.int .i64 0] 3)) (zaG (ho1.alloc _)) (zcf (Blk.new w4 #[.int .i64 0] 3) _ rfl))
 have G4:=kz (((oz G3).trans (hb.mono (oz G3).size)).alloc (by have:=(oz G3).size;have:=hb.size;omega) (.cells #[.int .i64 0] 3))
 clear hb G3 ho1 p0 p1 P3
 dsimp only [List.length_cons,List.length_nil] at HSM
 go_wp2_with fail
 generalize w4.alloc (.cells #[.int .i64 0] 3)=X4 at *
 refine (oz HSM).mono ?_
 rintro e w5 ⟨rfl,hb⟩
 have G5:=kz ((oz G4).trans (hb.mono (oz G4).size))
 clear hb G4 HSM
 go_wp2_with fail
 have h:=zd8 HT hO ⟨#[49]⟩ (by decide) 2 B w5 (oz HBK w5 (oz G5))
 rw [zjb] at h
 refine h.mono ?_
 clear h
 rintro e w6 ⟨rfl,hb⟩
 have G6:=kz ((oz G5).trans (hb.mono (oz G5).size))
 clear hb G5
 go_wp2
 go_ret
 exact ⟨rfl,(oz HB2).trans ((oz G6).mono (oz HB2).size)⟩
set_option maxRecDepth 100000 in
set_option maxHeartbeats 8000000 in
theorem zoX (T:TV) (hT:TabB T) (hI:zjU T) (A:TbA) (s:ByteArray) (hs:s.size≤1000000000) (k:Int) (W:World) (hA:zhK W T A) :
  Calls Tryz.prog 8 #[.agg #[.slice A.a0 T.sc.length A.c0,.slice A.a1 T.co.length A.c1,.slice A.a2 T.ma.length A.c2,.slice A.a3 T.pr.length A.c3,.slice A.a4 T.fo.length A.c4,.slice A.a5 T.lk.length A.c5,.slice A.a6 T.dr.length A.c6,.slice A.a7 T.al.length A.c7],.string s,.int .i64 k] W fun e w' =>e=.returned (.bool true)∧Below W.heap.size W w':=by
 have hmx:Tryz.prog.follows .mixedOrders=true:=by kernel_rfl
 have HX:=kz (TbX.start hA)
 have HC:=kz (zjn T hT hI _ _ (TbX.start hA).tv)
 clear hA hT hI
 go_enter Tryz.func8,Tryz.ntmps8
 have z0:=(oz HX).z0
 have z1:=(oz HX).z1
 have z2:=(oz HX).z2
 have z3:=(oz HX).z3
 have z4:=(oz HX).z4
 have z5:=(oz HX).z5
 have z6:=(oz HX).z6
 have z7:=(oz HX).z7
 have HW0:=kz (oz HX).bl
 go_wp2_with fail
 generalize W.alloc (.cells #[.slice A.a0 T.sc.length A.c0,.slice A.a1 T.co.length A.c1,.slice A.a2 T.ma.length A.c2,.slice A.a3 T.pr.length A.c3,.slice A.a4 T.fo.length A.c4,.slice A.a5 T.lk.length A.c5,.slice A.a6 T.dr.length A.c6,.slice A.a7 T.al.length A.c7] 28)=w0 at *
 refine (oz HC).mono ?_
 rintro e w1 ⟨p,rfl,hV⟩
 have HB1:=kz ((oz HW0).trans (hV.bl.mono (oz HW0).size))
 clear HC z0 z1 z2 z3 z4 z5 z6 z7 HX HW0
 cases hu:upB T with
 | false =>
  clear hV hu
  go_wp2_with fail
  refine (zc2 w1).mono ?_
  rintro e w2 ⟨rfl,hb⟩
  have HB2:=kz ((oz HB1).trans (hb.mono (oz HB1).size))
  clear hb HB1
  go_wp2
  go_ret
  exact ⟨rfl,oz HB2⟩
 | true =>
  obtain ⟨hck,hO,B,rfl,hB,hbk⟩:=hV.ok hu
  have hBK:=kz (fun w (h:Below w1.heap.size w1 w) =>hbk.below h)
  have HH:=kz hO
  have G1:=kz (Below.refl w1.heap.size w1)
  have hsm:s.size≤maxLen:=by unfold maxLen;omega
  have hl1:(zb2 T s).length≤64:=by have:=zbc T (spL s);have:=hO.l0;unfold zb2;omega
  have hL:=hO.l0
  clear hV hu hbk
  have hsub:zg3 [k] (zb2 T s)=inI (zb2 T s) k:=by
   unfold zg3
   rw [List.all_cons,List.all_nil,Bool.and_true]
  have HSUB:=kz hsub
  clear hsub
  go_wp2_with fail
  refine (zbD T (oz HH) s (by omega) B w1 (oz hBK w1 (oz G1))).mono ?_
  rintro e w2 ⟨v2,rfl,ho2,hb⟩
  obtain ⟨a2,c2,rfl⟩:=zag ho2
  have G2:=kz ((oz G1).trans hb)
  have HO2:=kz ho2
  clear hb G1 ho2
  go_wp2_with fail
  have h:=zd8 T (oz HH) s (by omega) k B w2 (oz hBK w2 (oz G2))
  refine h.mono ?_
  clear h
  rintro e w3 ⟨rfl,hb⟩
  have G3:=kz (((oz G2).trans (hb.mono (oz G2).size)).alloc (by have:=(oz G2).size;have:=hb.size;omega) (.cells #[.int .i64 k] 3))
  have HO3:=kz ((zal (oz HO2) hb).alloc (.cells #[.int .i64 k] 3))
  have hwi:=zfz (some ⟨w3.heap.size,0,none⟩) a2 1 c2 [k] (zb2 T s) (by show 1≤_;decide) (by omega) (w3.alloc (.cells #[.int .i64 k] 3)) (zcf (Blk.new w3 #[.int .i64 k] 3) _ rfl) (zaG (oz HO3))
  rw [oz HSUB] at hwi
  have HWI:=kz hwi
  dsimp only [List.length_cons,List.length_nil] at HWI
  clear hb G2 HO2 hwi HSUB
  have hne:(inI (zb2 T s) k != inI (zb2 T s) k)=false:=by simp
  generalize inI (zb2 T s) k=bb at *
  go_wp2_with fail
  generalize w3.alloc (.cells #[.int .i64 k] 3)=X3 at *
  refine (oz HWI).mono ?_
  rintro e w4 ⟨rfl,hb⟩
  have G4:=kz ((oz G3).trans (hb.mono (oz G3).size))
  have HO4:=kz (zal (oz HO3) hb)
  clear hb G3 HO3 HWI
  have HST:=kz (zbx T (oz HH) s (by omega) B w4 (oz hBK w4 (oz G4)))
  cases hq:zbj T s with
  | none =>
   rw [hq] at HST
   have hsn:=zlr hq
   clear hq
   go_wp2_with fail
   refine (oz HST).mono ?_
   rintro e w5 ⟨rfl,hb⟩
   rw [show zbW none=.tuple #[.agg #[.int .i64 0,.int .i64 0],.bool false] from rfl]
   have G5:=kz (((oz G4).trans (hb.mono (oz G4).size)).alloc (by have:=(oz G4).size;have:=hb.size;omega) (.cells #[.int .i64 0,.int .i64 0] 40))
   clear hb G4 HST HO4
   generalize (zb2 T s).length=ln at *
   by_cases h0:0 < ln
   ·have h1:(ln:Int) > 0:=by omega
    clear h0 hsn
    go_wp2_with fail
    generalize w5.alloc (.cells #[.int .i64 0,.int .i64 0] 40)=X5 at *
    refine (zc2 _).mono ?_
    rintro e wz ⟨rfl,hb⟩
    have Gz:=kz ((oz G5).trans (hb.mono (oz G5).size))
    clear hb G5
    go_wp2
    go_ret
    exact ⟨rfl,(oz HB1).trans ((oz Gz).mono (oz HB1).size)⟩
   ·have h1:¬ (ln:Int) > 0:=by omega
    have h2:T.sc.length=0:=by omega
    have h3:((T.sc.length:Int) == 0)=true:=by simp [h2]
    clear h0 hsn h2
    go_wp2_with fail
    generalize w5.alloc (.cells #[.int .i64 0,.int .i64 0] 40)=X5 at *
    refine (zcF (oz HH) B X5 (oz hBK X5 (oz G5))).mono ?_
    rintro e w6 ⟨v6,rfl,ho6,hb⟩
    obtain ⟨a6,c6,rfl⟩:=zag ho6
    have G6:=kz ((oz G5).trans (hb.mono (oz G5).size))
    clear hb G5 ho6
    go_wp2_with fail
    refine (zc2 _).mono ?_
    rintro e wz ⟨rfl,hb⟩
    have Gz:=kz ((oz G6).trans (hb.mono (oz G6).size))
    clear hb G6
    go_wp2
    go_ret
    exact ⟨rfl,(oz HB1).trans ((oz Gz).mono (oz HB1).size)⟩
  | some p =>
   obtain ⟨x,kk⟩:=p
   rw [hq] at HST
   obtain ⟨⟨hlt,hbd,hnum,hnxt,hone⟩,hno,hah,hhe⟩:=zqk hq
   have HNU:=kz hnum
   have HON:=kz hone
   have HAH:=kz hah
   have HHE:=kz hhe
   have hpw:=zdh s x hlt
   have hln:(zb2 T s).length=0:=by rw [hno];rfl
   have hl0:(((zb2 T s).length:Int) != 0)=false:=by rw [hln];rfl
   clear hq hnum hone hah hhe hno hnxt hbd
   generalize (zb2 T s).length=ln at *
   go_wp2_with fail
   refine (oz HST).mono ?_
   rintro e w5 ⟨rfl,hb⟩
   rw [show zbW (some (x,kk))=.tuple #[.agg #[.int .i64 x,.int .i64 kk],.bool true] from rfl]
   have P5:=kz (Blk.new w5 #[.int .i64 x,.int .i64 kk] 40)
   have G5:=kz (((oz G4).trans (hb.mono (oz G4).size)).alloc (by have:=(oz G4).size;have:=hb.size;omega) (.cells #[.int .i64 x,.int .i64 kk] 40))
   clear hb G4 HST HO4
   go_wp2_with fail
   generalize hX:w5.alloc (.cells #[.int .i64 x,.int .i64 kk] 40)=X5 at *
   clear hX
   have x0:=cell_regrown (show X5.cell? ⟨w5.heap.size,0,none⟩=some (.int .i64 x) from (oz P5).cell 0)
   have x1:=cell_regrown (show X5.cell? ⟨w5.heap.size,1,none⟩=some (.int .i64 kk) from (oz P5).cell 1)
   have e1:¬ (x:Int) < 0:=by omega
   have e2:¬ (x:Int) ≥ (s.size:Int):=by omega
   have e4:(x:Int)≤(s.size:Int):=by omega
   have e5:((x:Nat):Int).toNat=x:=by omega
   have q2:((kk:Int) != (kk:Int))=false:=by simp
   have HCT:=kz (fun w =>zjH (s.extract 0 x) (by rw [ByteArray.size_extract];unfold maxLen;omega) w)
   rw [oz HNU] at HCT
   refine wp_region_quiet_below (by kernel_rfl) (by kernel_rfl) ?_
   repeat (go_big_quiet_step (exact Calls.regrown_of (oz HCT _)))
   first | refine wpQuiet_nil ?_ | skip
   rintro w' ⟨dq,rfl⟩
   have hbr:=below_regrown X5 dq.d dq.os
   generalize Go.Sort.grow (redrawn X5 dq.d) dq.os=w6 at *
   have P6:=kz ((oz P5).below hbr (oz P5).lt)
   have G6:=kz ((oz G5).trans (hbr.mono (oz G5).size))
   clear hbr G5 P5 x0 x1 HCT
   have x0:w6.cell? ⟨w5.heap.size,0,none⟩=some (.int .i64 x):=(oz P6).cell 0
   go_wp2_with fail
   have h:=zjx (s.extract x s.size) (by rw [ByteArray.size_extract];unfold maxLen;omega) w6
   rw [oz HON] at h
   refine h.mono ?_
   clear h
   rintro e w7 ⟨rfl,hb⟩
   have P7:=kz (((oz P6).below hb (oz P6).lt).alloc (.cells (zaS (zb1 s x)) 70))
   have Y7:=kz (Blk.new w7 (zaS (zb1 s x)) 70)
   have G7:=kz (((oz G6).trans (hb.mono (oz G6).size)).alloc (by have:=(oz G6).size;have:=hb.size;omega) (.cells (zaS (zb1 s x)) 70))
   clear hb G6 P6 x0
   have hx0:∀ w,Blk w w5.heap.size #[.int .i64 x,.int .i64 kk] 40→w.cell? ⟨w5.heap.size,0,none⟩=some (.int .i64 x):=fun w h =>h.cell 0
   have x0:=hx0 _ (oz P7)
   have HX0:=kz hx0
   clear hx0
   go_wp2_with fail
   generalize w7.alloc (.cells (zaS (zb1 s x)) 70)=X7 at *
   have h:=zbx T (oz HH) (s.extract 0 x) (by rw [ByteArray.size_extract];omega) B X7 (oz hBK X7 (oz G7))
   rw [oz HAH] at h
   refine h.mono ?_
   clear h
   rintro e w8 ⟨rfl,hb⟩
   rw [show zbW none=.tuple #[.agg #[.int .i64 0,.int .i64 0],.bool false] from rfl]
   have P8:=kz (((oz P7).below hb (oz P7).lt).alloc (.cells #[.int .i64 0,.int .i64 0] 40))
   have Y8:=kz (((oz Y7).below hb (oz Y7).lt).alloc (.cells #[.int .i64 0,.int .i64 0] 40))
   have G8:=kz (((oz G7).trans (hb.mono (oz G7).size)).alloc (by have:=(oz G7).size;have:=hb.size;omega) (.cells #[.int .i64 0,.int .i64 0] 40))
   clear hb G7 P7 Y7 x0
   have x0:=oz HX0 _ (oz P8)
   obtain ⟨d,hd⟩:∃ d,d=wd s x:=⟨_,rfl⟩
   have y1:(w8.alloc (.cells #[.int .i64 0,.int .i64 0] 40)).cell? ⟨w7.heap.size,1,none⟩=some (.int .i64 d):=by rw [hd];exact (oz Y8).cell 1
   rw [← hd] at HHE hpw
   clear hd
   obtain ⟨e0,he0⟩:∃ e0,e0=x+d:=⟨_,rfl⟩
   rw [← he0] at HHE hpw
   have hadd:(x:Int)+(d:Int)=(e0:Int):=by omega
   have e6:(e0:Int)≤(s.size:Int):=by omega
   have e7:((e0:Nat):Int).toNat=e0:=by omega
   clear he0
   go_wp2_with fail
   generalize w8.alloc (.cells #[.int .i64 0,.int .i64 0] 40)=X8 at *
   have h:=zbx T (oz HH) (s.extract 0 e0) (by rw [ByteArray.size_extract];omega) B X8 (oz hBK X8 (oz G8))
   rw [oz HHE] at h
   refine h.mono ?_
   clear h
   rintro e w9 ⟨rfl,hb⟩
   rw [show zbW (some (x,kk))=.tuple #[.agg #[.int .i64 x,.int .i64 kk],.bool true] from rfl]
   have P9:=((oz P8).below hb (oz P8).lt).alloc (.cells #[.int .i64 x,.int .i64 kk] 40)
   have Z9:=Blk.new w9 #[.int .i64 x,.int .i64 kk] 40
   have G9:=kz (((oz G8).trans (hb.mono (oz G8).size)).alloc (by have:=(oz G8).size;have:=hb.size;omega) (.cells #[.int .i64 x,.int .i64 kk] 40))
   clear hb G8 P8 Y8 x0 y1 hadd
   have x0:=P9.cell 0
   have x1:=P9.cell 1
   have z0:=Z9.cell 0
   have z1:=Z9.cell 1
   have q3:((x:Int) == (x:Int))=true:=by simp
   have q4:((kk:Int) == (kk:Int))=true:=by simp
   clear P9 Z9
   go_wp2_with fail
   refine (zc2 _).mono ?_
   rintro e wz ⟨rfl,hb⟩
   have Gz:=kz ((oz G9).trans (hb.mono (oz G9).size))
   clear hb G9
   go_wp2
   go_ret
   exact ⟨rfl,(oz HB1).trans ((oz Gz).mono (oz HB1).size)⟩
theorem stops14 (T:TV) (hT:TabB T∧zjU T) (a0 a1 a2 a3 a4 a5 a6 a7:Option Addr) (c0 c1 c2 c3 c4 c5 c6 c7:Nat) (us:List Value) (s:ByteArray) (hs:s.size≤1048576) (k:Int) (W:World) (hA:TabIn W T a0 a1 a2 a3 a4 a5 a6 a7 us) :
  Calls Tryz.prog 8 #[.agg (zmG T a0 a1 a2 a3 a4 a5 a6 a7 c0 c1 c2 c3 c4 c5 c6 c7),.string s,.int .i64 k] W fun e w' =>e=.returned (.bool true)∧Below W.heap.size W w' :=
 zoX T hT.1 hT.2 ⟨a0,a1,a2,a3,a4,a5,a6,a7,c0,c1,c2,c3,c4,c5,c6,c7,us⟩ s (by omega) k W hA
end Go.Proofs.YtmemedpoaocdkaaGreat
