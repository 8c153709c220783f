/- Texts of this claim, one behind the other. -/
import Derived.Test.YtmdgejgokoadlaaGreatDoorM13
import Derived.Test.YtmdgejgokoadlaaGreatDoorM15
import Derived.Test.YtmdgejgokoadlaaGreatDoorShV
import Derived.Test.YtmdgejgokoadlaaGreatDoorM4
/- The printer of tables: scripts. -/
namespace Go.Proofs.YtmdgejgokoadlaaGreatDoor
open Go.RowKit Go.Shelf
set_option linter.unusedVariables false
def zdU (p:Pn) (x:ByteArray × List (Int × Int)):Pn:=zgF (za8 (zbV p (zcx x.1)) [⟨#[115,99,114,105,112,116]⟩,x.1]) x.2
theorem zjB (s:ByteArray) (h:zcx s=true):s.size≤1000:=by
 have:=of_decide_eq_true h
 have h2:=zdm s
 omega
theorem zgk (t:List (ByteArray × List (Int × Int))) (us:List Value) (h:us.length=t.length) (j:Nat) (x:ByteArray × List (Int × Int)) (hx:t[j]?=some x):(zbQ t us)[j*2]?=some (.string x.1):=by
 induction t generalizing us j with
 | nil =>simp at hx
 | cons y t ih =>cases us with
  | nil =>cases h
  | cons v us =>cases j with
   | zero =>obtain rfl:=Option.some.inj hx;rfl
   | succ j =>have:=ih us (by simpa using h) j (by simpa using hx);rw [show (j+1)*2=j*2+1+1 by omega];exact this
set_option maxRecDepth 100000 in
set_option maxHeartbeats 4000000 in
theorem ps_scripts (lo N:Nat) (p:Pn) (a:Option Addr) (c:Nat) (l:List (ByteArray × List (Int × Int))) (us:List Value) (hu:us.length=l.length) (hn:l.length≤1000000) (hz:∀ x ∈ l,x.1.size≤maxLen∧x.2.length≤1000000) (W0 W:World) (h:PS W0 W lo N p) (hr:RowC W N a (zbQ l us)) (hs:∀ (j:Nat) (x:ByteArray × List (Int × Int)) (u:Value),l[j]?=some x→us[j]?=some u→∃ b d,u=.slice b x.2.length d∧RowC W N b (zap x.2)) :
  Calls Tryz.prog 38 #[.pointer (some ⟨N,0,none⟩),.slice a l.length c] W fun e w' =>(∃ r,e=.returned r)∧PS W0 w' lo N (l.foldl zdU p)∧PF lo N W w':=by
 obtain ⟨n,hN⟩:∃ n,n=l.length:=⟨_,rfl⟩
 rw [← hN]
 have HN:=kz hN
 have hn1:n≤1000000:=by omega
 have HR:=kz hr
 have HS:=kz hs
 have HU:=kz hu
 have HZ:=kz hz
 have hlt:=h.here.lt
 have H2:Hz (PS W0 W lo N ((l.take 0).foldl zdU p)∧PF lo N W W):=kz ⟨h,PF.refl _ _ _⟩
 clear hN hn h hr hs hu hz
 go_enter Tryz.func38,Tryz.ntmps38
 go_wp2_with fail
 go_loopw [5,8] (fun _ u8 wr => ∃ (j:Nat),u8=.int .i64 (j:Int)∧j≤n∧Hz (PS W0 wr lo N ((l.take j).foldl zdU p)∧PF lo N W wr)) (fun _ u8 _ =>n - cntI u8)
 case atStart =>exact ⟨0,rfl,Nat.zero_le _,H2⟩
 case round =>
  obtain ⟨j,rfl,hj,HQ⟩:=hrel
  clear H2
  by_cases hjlt:j < n
  ·have hlt2:(j:Int) < (n:Int):=by omega
   have hj0:(0:Int)≤(j:Int):=by omega
   obtain ⟨x,hx⟩:∃ x,l[j]?=some x:=⟨_,List.getElem?_eq_getElem (by have:=oz HN;omega)⟩
   obtain ⟨u,hxu⟩:∃ u,us[j]?=some u:=⟨_,List.getElem?_eq_getElem (by have:=oz HN;have:=oz HU;omega)⟩
   obtain ⟨b,d,rfl,hrow⟩:=oz HS j x u hx hxu
   obtain ⟨g,o,rfl,hg,hcs⟩:=((oz HR).kept hlt (oz HQ).2.fr) (by rw [zc7 _ _ (oz HU)];have:=oz HN;omega)
   have d0:wr.cell? ⟨g,o+j*2,none⟩=some (.string x.1):=hcs _ _ (zgk l us (oz HU) j x hx)
   have d1:wr.cell? ⟨g,o+j*2+1,none⟩=some (.slice b x.2.length d):=by rw [Nat.add_assoc];exact hcs _ _ (by rw [Nat.mul_comm,zeT _ _ (oz HU)];exact hxu)
   have HX:=kz (zd3 zdU p l j x hx)
   have HXZ:=kz (oz HZ x (List.mem_of_getElem? hx))
   have HROW:=kz hrow
   clear hcs hx hxu hrow
   obtain ⟨q,hq⟩:∃ q,q=(l.take j).foldl zdU p:=⟨_,rfl⟩
   rw [← hq] at HQ HX
   clear hq
   obtain ⟨nm,sp⟩:=x
   dsimp only at d0 d1 HXZ HROW
   have HSN:=kz (fun (q2:Pn) (w:World) =>zka lo N q2 b d sp (oz HXZ).2 W0 w)
   obtain ⟨m,hm⟩:∃ m,m=sp.length:=⟨_,rfl⟩
   rw [← hm] at d1 HSN
   clear hm
   have HA:Hz (PS W0 (wr.alloc (.cells #[.string nm,.slice b m d] 71)) lo N q∧PF lo N wr (wr.alloc (.cells #[.string nm,.slice b m d] 71))):=kz ⟨(oz HQ).1.alloc _,PF.below (oz HQ).1.here.lw ((Below.refl _ wr).alloc (Nat.le_refl _) _)⟩
   have HBX0:=kz (Blk.new wr #[.string nm,.slice b m d] 71)
   have hNs:wr.heap.size≠N:=by have:=(oz HQ).1.here.lw;omega
   have HLG:=kz (fun w =>legal_any nm (oz HXZ).1 w)
   have HLB:=kz (zjB nm)
   have HSP:Hz (zdU q (nm,sp)=zgF (za8 (zbV q (zcx nm)) [⟨#[115,99,114,105,112,116]⟩,nm]) sp):=kz rfl
   generalize zcx nm=lg at *
   go_wp2_with fail
   refine (oz HLG _).mono ?_
   rintro e w1 ⟨rfl,hw1⟩
   rw [hw1]
   clear hw1 HLG
   generalize wr.alloc (.cells #[.string nm,.slice b m d] 71)=wA at *
   generalize wr.heap.size=M at *
   have HC1:=kz (ze9 lo N q lg W0 wA (oz HA).1)
   go_wp2_with fail
   refine (oz HC1).mono ?_
   rintro e w2 ⟨⟨r2,rfl⟩,h2,hf2⟩
   have HBX2:=kz (hf2.kp _ _ _ hNs (by decide) (oz HBX0))
   have H2:=kz (And.intro h2 ((oz HA).2.trans hf2))
   have z0:=(oz HBX2).cell 0
   have z1:=(oz HBX2).cell 1
   have HC2:=kz (zbY lo N (zbV q lg) [⟨#[115,99,114,105,112,116]⟩,nm] (fun w hw =>by
    simp at hw
    rcases hw with h | h
    ·exact .inr (by rw [h];decide)
    ·rw [h]
     cases hlg:lg with
     | true =>exact .inr (oz HLB hlg)
     | false =>exact .inl (by show (q.wr || !false)=true;cases q.wr <;> rfl)) (by simp) W0 w2 h2)
   clear h2 hf2 HC1 HBX0 HA d0 d1
   go_wp2_with fail
   refine (show Calls Tryz.prog 73 #[.pointer (some ⟨N,0,none⟩),.slice (some ⟨w2.heap.size,0,none⟩) 2 2] (w2.alloc (.cells #[.string ⟨#[115,99,114,105,112,116]⟩,.string nm] 9)) _ from oz HC2).mono ?_
   rintro e w3 ⟨⟨r3,rfl⟩,h3,hf3⟩
   have HBX3:=kz (hf3.kp _ _ _ hNs (by decide) (oz HBX2))
   have H3:=kz (And.intro h3 ((oz H2).2.trans hf3))
   clear z0 z1
   have z1:=(oz HBX3).cell 1
   have HC3:=kz (oz HSN _ w3 h3 ((oz HROW).kept hlt (((oz HQ).2.trans (oz H3).2).fr)))
   clear h3 hf3 HC2 HBX2
   go_wp2_with fail
   refine (oz HC3).mono ?_
   rintro e w4 ⟨⟨r4,rfl⟩,h4,hf4⟩
   have H4:=kz (And.intro h4 ((oz H3).2.trans hf4))
   clear h4 hf4 HC3
   go_wp2_with fail
   go_roundw
   case rel =>exact ⟨j+1,rfl,hjlt,kz (by rw [oz HX,oz HSP];exact ⟨(oz H4).1,(oz HQ).2.trans (oz H4).2⟩)⟩
   case measure =>show n - ((j:Int)+1).toNat < n - (j:Int).toNat;omega
  ·have hle:¬ ((j:Int) < (n:Int)):=by omega
   have HJ:Hz (l.take j=l):=kz (by rw [show j=l.length by have:=oz HN;omega];exact List.take_length)
   rw [oz HJ] at HQ
   go_wp2_with fail
   go_end0
   exact ⟨⟨_,rfl⟩,(oz HQ).1,(oz HQ).2⟩
theorem zfy (t:List (Int × ByteArray)):(zbu t).length=t.length*2:=by
 induction t with
 | nil =>rfl
 | cons x t ih =>show (zbu t).length+1+1=(t.length+1)*2;omega
theorem zkJ (l:List (Int × ByteArray)) (j:Nat) (x:Int × ByteArray) (h:l[j]?=some x):(zbu l)[j*2]?=some (.int .i32 x.1)∧(zbu l)[j*2+1]?=some (.string x.2):=by
 induction l generalizing j with
 | nil =>simp at h
 | cons y l ih =>cases j with
  | zero =>obtain rfl:=Option.some.inj h;exact ⟨rfl,rfl⟩
  | succ j =>have:=ih j (by simpa using h);rw [show (j+1)*2=j*2+1+1 by omega];exact this
def okTo (s:ByteArray):Bool:=decide (s.size≠0) && Lib.validD s.data.toList
def mapP (word:ByteArray) (p:Pn) (x:Int × ByteArray):Pn:=zfb (za8 ((zaA x.2).foldl zaR (za8 (zaR (za8 (zbV p (okTo x.2)) [word]) x.1) [⟨#[61]⟩])) [⟨#[59]⟩])
theorem utab_fr {lo N:Nat} {W0 W:World} (hf:Fr lo N N W0 W) (h1:5 < lo) (h2:5≠N) (h3:6 < lo) (h4:6≠N) (h:Lib.Utf8Tabs 5 6 W0):Lib.Utf8Tabs 5 6 W :=
 ⟨fun c hc =>hf.cell h1 h2 h2 (h.1 c hc),fun i hi =>⟨hf.cell h3 h4 h4 (h.2 i hi).1,hf.cell h3 h4 h4 (h.2 i hi).2⟩⟩
theorem zkZ (s:ByteArray) (hs:s.size≤maxLen) (w:World) (h:Lib.Utf8Tabs 5 6 w):Calls Tryz.prog 78 #[.string s] w fun e w' =>e=.returned (.bool (Lib.validD s.data.toList))∧Below w.heap.size w w' :=
 Any.utf8_ValidString lay196 s w (by unfold maxLen at hs;omega) h
theorem PrAt.iter {W W':World} {lo N I:Nat} {t:List UInt8} {bg wr:Bool} {u:ByteArray} {pos:Nat} (h:PrAt W lo N t bg wr) (hg:W.grownBy W' (some I)) (hI:W.heap[I]?=some (.stringIter u pos)):PrAt W' lo N t bg wr:=by
 obtain ⟨p,v,hb,hp,ho⟩:=h.blk
 have hN:N≠I:=fun e =>by
  subst e
  have:=(show W.heap[N]?=some (.cells _ _ (0,0)) from hb).symm.trans hI
  cases this
 have hv:v.ownBlock≠some I:=by
  rcases ho.2 with ⟨rfl,_⟩ | ⟨g,cap,cur,rfl,_,hgc,_⟩
  ·simp [Value.ownBlock]
  ·intro e
   have e:=Option.some.inj e
   subst e
   cases hgc.symm.trans hI
 exact ⟨⟨p,v,hb.kept hg (fun e =>hN (Option.some.inj e)),hp,zat ho hg (.inr hv)⟩,h.lt,Nat.le_trans h.lw hg.size⟩
theorem PF.iter {W wr W':World} {lo N I:Nat} (h:PF lo N W wr) (hg:wr.grownBy W' (some I)) (h0:W.heap.size≤I) (hlo:lo≤I) (hw:lo≤wr.heap.size):PF lo N W W' :=
 ⟨h.fr.trans (Fr.grown hw hg (fun b e =>.inr (.inr (by have:=Option.some.inj e;omega)))),fun i o h1 h2 h3 =>by
  have h4:=h.ko i o h1 h2 h3
  have hi:=(Array.getElem?_eq_some_iff.1 h3).1
  rw [hg.block i (Array.getElem?_eq_some_iff.1 h4).1 (fun e =>by have:=Option.some.inj e;omega)]
  exact h4⟩
theorem PS.iter {W0 W W':World} {lo N I:Nat} {p:Pn} {u:ByteArray} {pos:Nat} (h:PS W0 W lo N p) (hg:W.grownBy W' (some I)) (hI:W.heap[I]?=some (.stringIter u pos)) (h0:W0.heap.size≤I) (hlo:lo≤I):PS W0 W' lo N p :=
 ⟨PrAt.iter h.here hg hI,h.ok,h.pf.iter hg h0 hlo h.here.lw,(Fr.grown h.here.lw hg (fun b e =>.inr (.inr (by have:=Option.some.inj e;omega))):Fr lo N N W W').cell h.low h.off h.off h.tab,h.low,h.off⟩
set_option maxRecDepth 100000 in
set_option maxHeartbeats 4000000 in
theorem ps_maps (lo N:Nat) (p:Pn) (word:ByteArray) (hword:word.size≤1000) (a:Option Addr) (c:Nat) (l:List (Int × ByteArray)) (hn:l.length≤1000000) (hz:∀ x ∈ l,x.2.size≤maxLen) (W0 W:World) (hV:Lib.Utf8Tabs 5 6 W0) (h1:5 < lo) (h2:5≠N) (h3:6 < lo) (h4:6≠N) (h:PS W0 W lo N p) (hr:RowC W N a (zbu l)) :
  Calls Tryz.prog 42 #[.pointer (some ⟨N,0,none⟩),.string word,.slice a l.length c] W fun e w' =>(∃ r,e=.returned r)∧PS W0 w' lo N (l.foldl (mapP word) p)∧PF lo N W w':=by
 obtain ⟨n,hN⟩:∃ n,n=l.length:=⟨_,rfl⟩
 rw [← hN]
 have HN:=kz hN
 have hn1:n≤1000000:=by omega
 have HR:=kz hr
 have HZ:=kz hz
 have HT:=kz (fun (w:World) (hf:Fr lo N N W0 w) =>utab_fr hf h1 h2 h3 h4 hV)
 have hlt:=h.here.lt
 have H2:Hz (PS W0 W lo N ((l.take 0).foldl (mapP word) p)∧PF lo N W W):=kz ⟨h,PF.refl _ _ _⟩
 clear hN hn h hr hz h1 h2 h3 h4 hV
 go_enter Tryz.func42,Tryz.ntmps42
 go_wp2_with fail
 go_loopw [7,12] (fun _ u12 wr => ∃ (j:Nat),u12=.int .i64 (j:Int)∧j≤n∧Hz (PS W0 wr lo N ((l.take j).foldl (mapP word) p)∧PF lo N W wr)) (fun _ u12 _ =>n - cntI u12)
 case atStart =>exact ⟨0,rfl,Nat.zero_le _,H2⟩
 case round =>
  obtain ⟨j,rfl,hj,HQ⟩:=hrel
  clear H2
  obtain ⟨wo,rfl⟩:∃ wo,wo=wr:=⟨_,rfl⟩
  by_cases hjlt:j < n
  ·have hlt2:(j:Int) < (n:Int):=by omega
   have hj0:(0:Int)≤(j:Int):=by omega
   obtain ⟨x,hx⟩:∃ x,l[j]?=some x:=⟨_,List.getElem?_eq_getElem (by have:=oz HN;omega)⟩
   obtain ⟨g,o,rfl,hg,hcs⟩:=((oz HR).kept hlt (oz HQ).2.fr) (by rw [zfy];have:=oz HN;omega)
   have hat:=zkJ l j x hx
   have d0:wo.cell? ⟨g,o+j*2,none⟩=some (.int .i32 x.1):=hcs _ _ hat.1
   have d1:wo.cell? ⟨g,o+j*2+1,none⟩=some (.string x.2):=by rw [Nat.add_assoc];exact hcs _ _ hat.2
   have HX:=kz (zd3 (mapP word) p l j x hx)
   have HXZ:=kz (oz HZ x (List.mem_of_getElem? hx))
   clear hcs hat hx
   obtain ⟨q,hq⟩:∃ q,q=(l.take j).foldl (mapP word) p:=⟨_,rfl⟩
   rw [← hq] at HQ HX
   clear hq
   obtain ⟨x0,u⟩:=x
   dsimp only at d0 d1 HXZ
   have HA:Hz (PS W0 (wo.alloc (.cells #[.int .i32 x0,.string u] 75)) lo N q∧PF lo N wo (wo.alloc (.cells #[.int .i32 x0,.string u] 75))):=kz ⟨(oz HQ).1.alloc _,PF.below (oz HQ).1.here.lw ((Below.refl _ wo).alloc (Nat.le_refl _) _)⟩
   have HBX0:=kz (Blk.new wo #[.int .i32 x0,.string u] 75)
   have hNs:wo.heap.size≠N:=by have:=(oz HQ).1.here.lw;omega
   have HSA:Hz ((wo.alloc (.cells #[.int .i32 x0,.string u] 75)).heap.size=wo.heap.size+1):=kz (by simp)
   have HMP:Hz (∀ ok,okTo u=ok→mapP word q (x0,u)=zfb (za8 ((zaA u).foldl zaR (za8 (zaR (za8 (zbV q ok) [word]) x0) [⟨#[61]⟩])) [⟨#[59]⟩])):=kz (fun ok e =>by rw [← e];rfl)
   have HLW:=kz (oz HQ).1.here.lw
   by_cases hu0:u.size=0
   ·have hue:u.toList=[]:=by rw [ByteArray.toList_eq,za4 u hu0];rfl
    have HOK:Hz (okTo u=false):=kz (by unfold okTo;rw [decide_eq_false (by omega)];rfl)
    clear hu0
    go_wp2_with fail
    generalize wo.alloc (.cells #[.int .i32 x0,.string u] 75)=wA at *
    generalize hMM:wo.heap.size=M at *
    have HC1:=kz (ze9 lo N q false W0 wA (oz HA).1)
    refine (oz HC1).mono ?_
    rintro e w10 ⟨⟨r10,rfl⟩,h10,hf10⟩
    have HBX10:=kz (hf10.kp _ _ _ hNs (by decide) (oz HBX0))
    have HH10:=kz (And.intro h10 ((oz HA).2.trans hf10))
    have z0:=(oz HBX10).cell 0
    have z1:=(oz HBX10).cell 1
    have HMM:=kz hMM
    clear h10 hf10 HC1 HBX0 HA d0 d1 hMM
    have HC11:=kz (zbY lo N (zbV q false) [word] (fun w hw =>.inr (by rw [List.mem_singleton.1 hw];exact hword)) (by simp) W0 w10 (oz HH10).1)
    go_wp2_with fail
    refine (show Calls Tryz.prog 73 #[.pointer (some ⟨N,0,none⟩),.slice (some ⟨w10.heap.size,0,none⟩) 1 1] (w10.alloc (.cells #[.string word] 9)) _ from oz HC11).mono ?_
    rintro e w11 ⟨⟨r11,rfl⟩,h11,hf11⟩
    have HBX11:=kz (hf11.kp _ _ _ hNs (by decide) (oz HBX10))
    have HH11:=kz (And.intro h11 ((oz HH10).2.trans hf11))
    clear z0 z1 h11 hf11 HC11 HBX10 HH10
    have z0:=(oz HBX11).cell 0
    have z1:=(oz HBX11).cell 1
    have HC12:=kz (zcN lo N (za8 (zbV q false) [word]) x0 W0 _ (oz HH11).1)
    go_wp2_with fail
    refine (oz HC12).mono ?_
    rintro e w12 ⟨⟨r12,rfl⟩,h12,hf12⟩
    have HBX12:=kz (hf12.kp _ _ _ hNs (by decide) (oz HBX11))
    have HH12:=kz (And.intro h12 ((oz HH11).2.trans hf12))
    clear z0 z1 h12 hf12 HC12 HBX11 HH11
    have z0:=(oz HBX12).cell 0
    have z1:=(oz HBX12).cell 1
    have HC13:=kz (zbY lo N (zaR (za8 (zbV q false) [word]) x0) [⟨#[61]⟩] (fun w hw =>.inr (by simp at hw;first | (rw [hw];decide) | (rcases hw with h | h <;> rw [h] <;> decide))) (by simp) W0 w12 (oz HH12).1)
    go_wp2_with fail
    refine (show Calls Tryz.prog 73 #[.pointer (some ⟨N,0,none⟩),.slice (some ⟨w12.heap.size,0,none⟩) 1 1] (w12.alloc (.cells #[.string ⟨#[61]⟩] 9)) _ from oz HC13).mono ?_
    rintro e w13 ⟨⟨r13,rfl⟩,h13,hf13⟩
    have HBX13:=kz (hf13.kp _ _ _ hNs (by decide) (oz HBX12))
    have HH13:=kz (And.intro h13 ((oz HH12).2.trans hf13))
    clear z0 z1 h13 hf13 HC13 HBX12 HH12
    have z0:=(oz HBX13).cell 0
    have z1:=(oz HBX13).cell 1
    obtain ⟨qq,hqq⟩:∃ qq,qq=(za8 (zaR (za8 (zbV q false) [word]) x0) [⟨#[61]⟩]):=⟨_,rfl⟩
    rw [← hqq] at HH13
    have HQQ:=kz hqq
    clear hqq
    go_wp2_with fail
    have hwW:wo.heap.size≤w13.heap.size:=(oz HH13).2.fr.size
    have hw0:W0.heap.size≤w13.heap.size:=(oz HH13).1.pf.fr.size
    have hlw13:=(oz HH13).1.here.lw
    have HST:Hz (PS W0 (w13.iter u 0) lo N qq∧PF lo N wo (w13.iter u 0)∧(w13.iter u 0).heap[w13.heap.size]?=some (.stringIter u 0)∧Blk (w13.iter u 0) M #[.int .i32 x0,.string u] 75):=kz ⟨(oz HH13).1.alloc _,(oz HH13).2.trans (PF.below hlw13 ((Below.refl _ w13).alloc (Nat.le_refl _) _)),World.alloc_heap_new w13 _,(oz HBX13).alloc _⟩
    obtain ⟨J,hJ⟩:∃ J,J=w13.heap.size:=⟨_,rfl⟩
    rw [← hJ] at HST hwW hw0 hlw13
    rw [← hJ]
    have HJS:=kz (And.intro hwW (And.intro hw0 hlw13))
    clear hJ hwW hw0 hlw13 HH13 HBX13 z0 z1
    go_loopw [9] (fun _ wr => ∃ (pre:List Nat) (pos f:Nat),Hz (zaw u=pre++zaj u f pos)∧u.size≤pos+f∧Hz (PS W0 wr lo N ((pre.map (fun i =>((rn u i:Nat):Int))).foldl zaR qq)∧PF lo N wo wr∧wr.heap[J]?=some (.stringIter u pos)∧Blk wr M #[.int .i32 x0,.string u] 75)) (fun _ wr =>u.size - wr.iterPos J)
    case atStart =>exact ⟨[],0,u.size,kz rfl,by omega,HST⟩
    case round =>
     obtain ⟨pre,pos,f,HS,hf,HI⟩:=hrel
     clear HST
     by_cases hp:pos < u.size
     ·obtain ⟨f',rfl⟩:∃ f',f=f' + 1:=⟨f - 1,by omega⟩
      have hnx:∀ ty,(Instr.next (.pointer (some ⟨J,0,none⟩)) true ty).run Tryz.prog wr=_:=fun ty =>Lib.run_next_any_at wr J u pos ty (oz HI).2.2.1 hp
      have hwd:=zbh u pos
      obtain ⟨d,hd⟩:∃ d,d=pos+(Utf8.decode u pos).2:=⟨_,rfl⟩
      obtain ⟨y,hy⟩:∃ y,y=(Utf8.decode u pos).1:=⟨_,rfl⟩
      rw [← hd, ← hy] at hnx
      have hgi:=zc6 wr J u d
      have i0:(wr.iterAt J u d).heap[J]?=some (.stringIter u d):=Lib.iterAt_heap wr J u pos d (oz HI).2.2.1
      have hMJ:M≠J:=fun e =>by
       have hb:=(oz HI).2.2.2
       rw [e] at hb
       have hb:wr.heap[J]?=some (.cells _ _ (0,0)):=hb
       cases hb.symm.trans (oz HI).2.2.1
      have HS2:Hz (zaw u=(pre++[pos])++zaj u f' d):=kz (by rw [oz HS,zas u f' pos hp,hd];simp)
      have hps:=(oz HI).1.iter hgi (oz HI).2.2.1 (oz HJS).2.1 (oz HJS).2.2
      have hpf:=(oz HI).2.1.iter hgi (oz HJS).1 (oz HJS).2.2 (oz HI).1.here.lw
      have HN2:=kz (And.intro hpf (And.intro i0 ((oz HI).2.2.2.kept hgi (fun e =>hMJ (Option.some.inj e)))))
      have HRU:=kz (zcN lo N _ (y:Int) W0 _ hps)
      have HIP:=kz (zbA (oz HI).2.2.1)
      have HDW:Hz (pos < d∧u.size≤d+f'):=kz (by simp only [wd] at hwd;omega)
      have HPR:Hz (((pre++[pos]).map (fun i =>((rn u i:Nat):Int))).foldl zaR qq=zaR ((pre.map (fun i =>((rn u i:Nat):Int))).foldl zaR qq) (y:Int)):=kz (by rw [List.map_append,List.foldl_append,hy];rfl)
      clear hgi i0 hps hpf HI HS hd hy hwd hMJ
      go_wp2_with fail
      refine (oz HRU).mono ?_
      rintro e w20 ⟨⟨r20,rfl⟩,h20,hf20⟩
      have hJN:J≠N:=by have:=(oz HJS).2.2;omega
      have HI2:Hz (PS W0 w20 lo N (((pre++[pos]).map (fun i =>((rn u i:Nat):Int))).foldl zaR qq)∧PF lo N wo w20∧w20.heap[J]?=some (.stringIter u d)∧Blk w20 M #[.int .i32 x0,.string u] 75):=kz (by rw [oz HPR];exact ⟨h20,(oz HN2).1.trans hf20,hf20.ko J _ hJN (fun cs fz e =>by cases e) (oz HN2).2.1,hf20.kp _ _ _ hNs (by decide) (oz HN2).2.2⟩)
      clear h20 hf20 HRU HN2
      go_wp2_with fail
      go_roundw
      case rel =>exact ⟨pre++[pos],d,f',HS2,(oz HDW).2,HI2⟩
      case measure =>rw [oz HIP,zbA (oz HI2).2.2.1];have:=(oz HDW).1;omega
     ·have hnx:∀ ty,(Instr.next (.pointer (some ⟨J,0,none⟩)) true ty).run Tryz.prog wr=_:=fun ty =>Lib.run_next_end_at wr J u pos ty (oz HI).2.2.1 (by omega)
      have HPRE:Hz ((pre.map (fun i =>((rn u i:Nat):Int))).foldl zaR qq=(zaA u).foldl zaR qq):=kz (by
       have e:=oz HS
       rw [zav u f pos (by omega),List.append_nil] at e
       unfold zaA
       rw [e])
      rw [oz HPRE] at HI
      have HZ:=kz (And.intro (oz HI).1 (oz HI).2.1)
      clear HS HPRE
      have HC30:=kz (zbY lo N ((zaA u).foldl zaR qq) [⟨#[59]⟩] (fun w hw =>.inr (by simp at hw;first | (rw [hw];decide) | (rcases hw with h | h <;> rw [h] <;> decide))) (by simp) W0 wr (oz HI).1)
      go_wp2_with fail
      refine (show Calls Tryz.prog 73 #[.pointer (some ⟨N,0,none⟩),.slice (some ⟨wr.heap.size,0,none⟩) 1 1] (wr.alloc (.cells #[.string ⟨#[59]⟩] 9)) _ from oz HC30).mono ?_
      rintro e w30 ⟨⟨r30,rfl⟩,h30,hf30⟩
      have HH30:=kz (And.intro h30 ((oz HI).2.1.trans hf30))
      have HC31:=kz (zfa lo N _ W0 w30 h30)
      clear h30 hf30 HC30 HI
      go_wp2_with fail
      refine (oz HC31).mono ?_
      rintro e w31 ⟨⟨r31,rfl⟩,h31,hf31⟩
      have HH31:=kz (And.intro h31 ((oz HH30).2.trans hf31))
      clear h31 hf31 HC31
      go_wp2_with fail
      go_roundw
      case rel =>exact ⟨j+1,rfl,hjlt,kz (by rw [oz HX,oz HMP _ (oz HOK), ← oz HQQ];exact ⟨(oz HH31).1,(oz HQ).2.trans (oz HH31).2⟩)⟩
      case measure =>show n - ((j:Int)+1).toNat < n - (j:Int).toNat;omega
   ·have hue:¬ u.toList=[]:=zdQ u (by omega)
    have HVS:=kz (fun (w:World) =>zkZ u (oz HXZ) w)
    have HOK:Hz (okTo u=Lib.validD u.data.toList):=kz (by unfold okTo;rw [decide_eq_true hu0];rfl)
    clear hu0
    generalize Lib.validD u.data.toList=vd at *
    go_wp2_with fail
    generalize wo.alloc (.cells #[.int .i32 x0,.string u] 75)=wA at *
    generalize hMM:wo.heap.size=M at *
    refine (oz HVS wA (oz HT wA (oz HA).1.pf.fr)).mono ?_
    rintro e wV ⟨rfl,hbV⟩
    have HPFV:Hz (PF lo N wA wV):=kz (PF.below (oz HA).1.here.lw hbV)
    have HAV:=kz (And.intro ((oz HA).1.fresh hbV) ((oz HA).2.trans (oz HPFV)))
    have HBXV:=kz ((oz HPFV).kp _ _ _ hNs (by decide) (oz HBX0))
    have HC1:=kz (ze9 lo N q vd W0 wV (oz HAV).1)
    have HIE:Hz (u.toList.isEmpty=false):=kz (by cases h:u.toList with | nil =>exact absurd h hue | cons a t =>rfl)
    clear hbV HVS HPFV
    go_wp2_with fail
    rw [oz HIE]
    refine (show Calls Tryz.prog 71 #[.pointer (some ⟨N,0,none⟩),.bool (!false && vd)] wV _ from oz HC1).mono ?_
    rintro e w10 ⟨⟨r10,rfl⟩,h10,hf10⟩
    have HBX10:=kz (hf10.kp _ _ _ hNs (by decide) (oz HBXV))
    have HH10:=kz (And.intro h10 ((oz HAV).2.trans hf10))
    have z0:=(oz HBX10).cell 0
    have z1:=(oz HBX10).cell 1
    have HMM:=kz hMM
    clear h10 hf10 HC1 HBX0 HBXV HA HAV d0 d1 hMM
    have HC11:=kz (zbY lo N (zbV q vd) [word] (fun w hw =>.inr (by rw [List.mem_singleton.1 hw];exact hword)) (by simp) W0 w10 (oz HH10).1)
    go_wp2_with fail
    refine (show Calls Tryz.prog 73 #[.pointer (some ⟨N,0,none⟩),.slice (some ⟨w10.heap.size,0,none⟩) 1 1] (w10.alloc (.cells #[.string word] 9)) _ from oz HC11).mono ?_
    rintro e w11 ⟨⟨r11,rfl⟩,h11,hf11⟩
    have HBX11:=kz (hf11.kp _ _ _ hNs (by decide) (oz HBX10))
    have HH11:=kz (And.intro h11 ((oz HH10).2.trans hf11))
    clear z0 z1 h11 hf11 HC11 HBX10 HH10
    have z0:=(oz HBX11).cell 0
    have z1:=(oz HBX11).cell 1
    have HC12:=kz (zcN lo N (za8 (zbV q vd) [word]) x0 W0 _ (oz HH11).1)
    go_wp2_with fail
    refine (oz HC12).mono ?_
    rintro e w12 ⟨⟨r12,rfl⟩,h12,hf12⟩
    have HBX12:=kz (hf12.kp _ _ _ hNs (by decide) (oz HBX11))
    have HH12:=kz (And.intro h12 ((oz HH11).2.trans hf12))
    clear z0 z1 h12 hf12 HC12 HBX11 HH11
    have z0:=(oz HBX12).cell 0
    have z1:=(oz HBX12).cell 1
    have HC13:=kz (zbY lo N (zaR (za8 (zbV q vd) [word]) x0) [⟨#[61]⟩] (fun w hw =>.inr (by simp at hw;first | (rw [hw];decide) | (rcases hw with h | h <;> rw [h] <;> decide))) (by simp) W0 w12 (oz HH12).1)
    go_wp2_with fail
    refine (show Calls Tryz.prog 73 #[.pointer (some ⟨N,0,none⟩),.slice (some ⟨w12.heap.size,0,none⟩) 1 1] (w12.alloc (.cells #[.string ⟨#[61]⟩] 9)) _ from oz HC13).mono ?_
    rintro e w13 ⟨⟨r13,rfl⟩,h13,hf13⟩
    have HBX13:=kz (hf13.kp _ _ _ hNs (by decide) (oz HBX12))
    have HH13:=kz (And.intro h13 ((oz HH12).2.trans hf13))
    clear z0 z1 h13 hf13 HC13 HBX12 HH12
    have z0:=(oz HBX13).cell 0
    have z1:=(oz HBX13).cell 1
    obtain ⟨qq,hqq⟩:∃ qq,qq=(za8 (zaR (za8 (zbV q vd) [word]) x0) [⟨#[61]⟩]):=⟨_,rfl⟩
    rw [← hqq] at HH13
    have HQQ:=kz hqq
    clear hqq
    go_wp2_with fail
    have hwW:wo.heap.size≤w13.heap.size:=(oz HH13).2.fr.size
    have hw0:W0.heap.size≤w13.heap.size:=(oz HH13).1.pf.fr.size
    have hlw13:=(oz HH13).1.here.lw
    have HST:Hz (PS W0 (w13.iter u 0) lo N qq∧PF lo N wo (w13.iter u 0)∧(w13.iter u 0).heap[w13.heap.size]?=some (.stringIter u 0)∧Blk (w13.iter u 0) M #[.int .i32 x0,.string u] 75):=kz ⟨(oz HH13).1.alloc _,(oz HH13).2.trans (PF.below hlw13 ((Below.refl _ w13).alloc (Nat.le_refl _) _)),World.alloc_heap_new w13 _,(oz HBX13).alloc _⟩
    obtain ⟨J,hJ⟩:∃ J,J=w13.heap.size:=⟨_,rfl⟩
    rw [← hJ] at HST hwW hw0 hlw13
    rw [← hJ]
    have HJS:=kz (And.intro hwW (And.intro hw0 hlw13))
    clear hJ hwW hw0 hlw13 HH13 HBX13 z0 z1
    go_loopw [9] (fun _ wr => ∃ (pre:List Nat) (pos f:Nat),Hz (zaw u=pre++zaj u f pos)∧u.size≤pos+f∧Hz (PS W0 wr lo N ((pre.map (fun i =>((rn u i:Nat):Int))).foldl zaR qq)∧PF lo N wo wr∧wr.heap[J]?=some (.stringIter u pos)∧Blk wr M #[.int .i32 x0,.string u] 75)) (fun _ wr =>u.size - wr.iterPos J)
    case atStart =>exact ⟨[],0,u.size,kz rfl,by omega,HST⟩
    case round =>
     obtain ⟨pre,pos,f,HS,hf,HI⟩:=hrel
     clear HST
     by_cases hp:pos < u.size
     ·obtain ⟨f',rfl⟩:∃ f',f=f' + 1:=⟨f - 1,by omega⟩
      have hnx:∀ ty,(Instr.next (.pointer (some ⟨J,0,none⟩)) true ty).run Tryz.prog wr=_:=fun ty =>Lib.run_next_any_at wr J u pos ty (oz HI).2.2.1 hp
      have hwd:=zbh u pos
      obtain ⟨d,hd⟩:∃ d,d=pos+(Utf8.decode u pos).2:=⟨_,rfl⟩
      obtain ⟨y,hy⟩:∃ y,y=(Utf8.decode u pos).1:=⟨_,rfl⟩
      rw [← hd, ← hy] at hnx
      have hgi:=zc6 wr J u d
      have i0:(wr.iterAt J u d).heap[J]?=some (.stringIter u d):=Lib.iterAt_heap wr J u pos d (oz HI).2.2.1
      have hMJ:M≠J:=fun e =>by
       have hb:=(oz HI).2.2.2
       rw [e] at hb
       have hb:wr.heap[J]?=some (.cells _ _ (0,0)):=hb
       cases hb.symm.trans (oz HI).2.2.1
      have HS2:Hz (zaw u=(pre++[pos])++zaj u f' d):=kz (by rw [oz HS,zas u f' pos hp,hd];simp)
      have hps:=(oz HI).1.iter hgi (oz HI).2.2.1 (oz HJS).2.1 (oz HJS).2.2
      have hpf:=(oz HI).2.1.iter hgi (oz HJS).1 (oz HJS).2.2 (oz HI).1.here.lw
      have HN2:=kz (And.intro hpf (And.intro i0 ((oz HI).2.2.2.kept hgi (fun e =>hMJ (Option.some.inj e)))))
      have HRU:=kz (zcN lo N _ (y:Int) W0 _ hps)
      have HIP:=kz (zbA (oz HI).2.2.1)
      have HDW:Hz (pos < d∧u.size≤d+f'):=kz (by simp only [wd] at hwd;omega)
      have HPR:Hz (((pre++[pos]).map (fun i =>((rn u i:Nat):Int))).foldl zaR qq=zaR ((pre.map (fun i =>((rn u i:Nat):Int))).foldl zaR qq) (y:Int)):=kz (by rw [List.map_append,List.foldl_append,hy];rfl)
      clear hgi i0 hps hpf HI HS hd hy hwd hMJ
      go_wp2_with fail
      refine (oz HRU).mono ?_
      rintro e w20 ⟨⟨r20,rfl⟩,h20,hf20⟩
      have hJN:J≠N:=by have:=(oz HJS).2.2;omega
      have HI2:Hz (PS W0 w20 lo N (((pre++[pos]).map (fun i =>((rn u i:Nat):Int))).foldl zaR qq)∧PF lo N wo w20∧w20.heap[J]?=some (.stringIter u d)∧Blk w20 M #[.int .i32 x0,.string u] 75):=kz (by rw [oz HPR];exact ⟨h20,(oz HN2).1.trans hf20,hf20.ko J _ hJN (fun cs fz e =>by cases e) (oz HN2).2.1,hf20.kp _ _ _ hNs (by decide) (oz HN2).2.2⟩)
      clear h20 hf20 HRU HN2
      go_wp2_with fail
      go_roundw
      case rel =>exact ⟨pre++[pos],d,f',HS2,(oz HDW).2,HI2⟩
      case measure =>rw [oz HIP,zbA (oz HI2).2.2.1];have:=(oz HDW).1;omega
     ·have hnx:∀ ty,(Instr.next (.pointer (some ⟨J,0,none⟩)) true ty).run Tryz.prog wr=_:=fun ty =>Lib.run_next_end_at wr J u pos ty (oz HI).2.2.1 (by omega)
      have HPRE:Hz ((pre.map (fun i =>((rn u i:Nat):Int))).foldl zaR qq=(zaA u).foldl zaR qq):=kz (by
       have e:=oz HS
       rw [zav u f pos (by omega),List.append_nil] at e
       unfold zaA
       rw [e])
      rw [oz HPRE] at HI
      have HZ:=kz (And.intro (oz HI).1 (oz HI).2.1)
      clear HS HPRE
      have HC30:=kz (zbY lo N ((zaA u).foldl zaR qq) [⟨#[59]⟩] (fun w hw =>.inr (by simp at hw;first | (rw [hw];decide) | (rcases hw with h | h <;> rw [h] <;> decide))) (by simp) W0 wr (oz HI).1)
      go_wp2_with fail
      refine (show Calls Tryz.prog 73 #[.pointer (some ⟨N,0,none⟩),.slice (some ⟨wr.heap.size,0,none⟩) 1 1] (wr.alloc (.cells #[.string ⟨#[59]⟩] 9)) _ from oz HC30).mono ?_
      rintro e w30 ⟨⟨r30,rfl⟩,h30,hf30⟩
      have HH30:=kz (And.intro h30 ((oz HI).2.1.trans hf30))
      have HC31:=kz (zfa lo N _ W0 w30 h30)
      clear h30 hf30 HC30 HI
      go_wp2_with fail
      refine (oz HC31).mono ?_
      rintro e w31 ⟨⟨r31,rfl⟩,h31,hf31⟩
      have HH31:=kz (And.intro h31 ((oz HH30).2.trans hf31))
      clear h31 hf31 HC31
      go_wp2_with fail
      go_roundw
      case rel =>exact ⟨j+1,rfl,hjlt,kz (by rw [oz HX,oz HMP _ (oz HOK), ← oz HQQ];exact ⟨(oz HH31).1,(oz HQ).2.trans (oz HH31).2⟩)⟩
      case measure =>show n - ((j:Int)+1).toNat < n - (j:Int).toNat;omega
  ·have hle:¬ ((j:Int) < (n:Int)):=by omega
   have HJ:Hz (l.take j=l):=kz (by rw [show j=l.length by have:=oz HN;omega];exact List.take_length)
   rw [oz HJ] at HQ
   go_wp2_with fail
   go_end0
   exact ⟨⟨_,rfl⟩,(oz HQ).1,(oz HQ).2⟩
theorem cellsByte8:Tryz.prog.cellsOf 5=1:=by kernel_rfl
set_option maxRecDepth 100000 in
set_option maxHeartbeats 4000000 in
theorem pn_text (lo N:Nat) (t:List UInt8) (bg wr:Bool) (W:World) (h:PrAt W lo N t bg wr) :
  Calls Tryz.prog 44 #[.pointer (some ⟨N,0,none⟩)] W fun e w' =>e=.returned (.string ⟨t.toArray⟩)∧Below lo W w':=by
 obtain ⟨p,v,hb,hp,ho⟩:=h.blk
 have hmx:Tryz.prog.follows .mixedOrders=true:=by kernel_rfl
 have a5:=Tryz.isAgg5
 by_cases ht:t=[]
 ·subst ht
  have hUS:=fun (W:World) (q:Option Addr) =>Lib.run_unsafeString_none (P:=Tryz.prog) W 162 3 9 q
  have hlw:=h.lw
  rcases ho.2 with ⟨rfl,_⟩ | ⟨g,cap,cur,rfl,hbg,hg,_⟩
  ·have c1:W.drew.cell? ⟨N,1,none⟩=some (.slice none 0 0):=hb.cell 1
   have hSD:(Builtin.unsafeSliceData_ #[105] 162 #[.slice none 0 0]).run Tryz.prog W.drew=.ok (.pointer none) W.drew:=rfl
   clear h hb ho
   go_enter Tryz.func44,Tryz.ntmps44
   go_wp2
   go_region_o
   all_goals (go_wp2;go_ret;exact ⟨rfl,Below.drew (Below.refl _ _)⟩)
  ·have c1:W.drew.cell? ⟨N,1,none⟩=some (.slice (some ⟨g,0,none⟩) 0 cap):=hb.cell 1
   by_cases hc0:cap=0
   ·subst hc0
    have hSD:=Lib.run_unsafeSliceData_zero (P:=Tryz.prog) W.drew #[105] 162 5 Tryz.underlying162 ⟨g,0,none⟩ 0 _ ((show Blk W g cur 5 from hg).shape)
    have c2:(W.alloc (.view ⟨g,0,none⟩ 5)).cell? ⟨N,1,none⟩=some (.slice (some ⟨g,0,none⟩) 0 0):=(hb.alloc (.view ⟨g,0,none⟩ 5)).cell 1
    clear h hb ho
    go_enter Tryz.func44,Tryz.ntmps44
    go_wp2
    go_region_o
    all_goals (go_wp2;go_ret;exact ⟨rfl,Below.drew ((Below.refl lo W).alloc hlw _)⟩)
   ·have hSD:=Lib.run_unsafeSliceData_row (P:=Tryz.prog) W.drew #[105] 162 ⟨g,0,none⟩ 0 cap hc0
    clear h hb ho
    go_enter Tryz.func44,Tryz.ntmps44
    go_wp2
    go_region_o
    all_goals (go_wp2;go_ret;exact ⟨rfl,Below.drew (Below.refl _ _)⟩)
 ·have hl0:t.length≠0:=by simpa using ht
  obtain ⟨g,cap,cur,rfl,hbg,hg,hnc,hcm,hcs,htake⟩:∃ g cap cur,v=.slice (some ⟨g,0,none⟩) t.length cap∧lo≤g∧W.heap[g]?=some (.cells cur 5 (0,0))∧t.length≤cap∧cap≤maxLen∧cur.size=cap*1∧cur.toList.take (t.length*1)=Lib.byteCells t:=by
   rcases ho.2 with ⟨_,hz⟩ | ⟨g,cap,cur,hv,r⟩
   ·exact absurd hz hl0
   ·exact ⟨g,cap,cur,hv,r⟩
  have c1:W.drew.cell? ⟨N,1,none⟩=some (.slice (some ⟨g,0,none⟩) t.length cap):=hb.cell 1
  have hSD:(Builtin.unsafeSliceData_ #[105] 162 #[.slice (some ⟨g,0,none⟩) t.length cap]).run Tryz.prog W.drew=.ok (.pointer (some ⟨g,0,none⟩)) W.drew:=Lib.run_unsafeSliceData_row _ _ _ _ _ _ (by omega)
  have hUS:(Builtin.unsafeString_ #[162,3] 9 #[.pointer (some ⟨g,0,none⟩),.int .i64 t.length]).run Tryz.prog W.drew=.ok (.string ⟨t.toArray⟩) (W.drew.freeze ⟨g,0,none⟩ t.length):=by
   refine Lib.run_unsafeString_row W.drew 162 3 9 5 Tryz.underlying162 cellsByte8 g cur.size (by have hg':W.drew.heap[g]?=some (.cells cur 5 (0,0)):=hg;simp [World.shape?,hg']) t ht (by omega) (by unfold maxLen at hcm;omega) ?_
   intro j x hx
   have:=ho.cells (g:=g) rfl j (.int .u8 x.toNat) (by simp [Lib.byteCells,hx])
   exact this
  clear h hb ho
  go_enter Tryz.func44,Tryz.ntmps44
  go_wp2
  go_region_o
  all_goals (go_wp2;go_ret;exact ⟨rfl,Lib.below_freeze (Below.drew (Below.refl lo W)) (p:=⟨g,0,none⟩) hbg _⟩)
end Go.Proofs.YtmdgejgokoadlaaGreatDoor
