/- Texts of this claim, one behind the other. -/
import Derived.Test.YtmdgejgokoadlaaGreatDoorM12
import Derived.Test.YtmdgejgokoadlaaGreatDoorShD
import Derived.Lib.ItoaLen
import Derived.Lib.AppendIntMem
import Derived.Test.YtmdgejgokoadlaaGreatDoorM5
import Derived.Test.YtmdgejgokoadlaaGreatDoorM3
import Derived.Deep.RegionHeld3
import Derived.Laws.Concat
/- The printer of tables: lists of spans, pairs. -/
namespace Go.Proofs.YtmdgejgokoadlaaGreatDoor
open Go.RowKit Go.Shelf
set_option linter.unusedVariables false
def zhC (p:Pn) (word:ByteArray) (l:List (Int × Int)):Pn:=if l.length=0 then p else zgF (za8 p [word]) l
set_option maxRecDepth 100000 in
set_option maxHeartbeats 4000000 in
theorem zjp (lo N:Nat) (p:Pn) (word:ByteArray) (hword:word.size≤1000) (a:Option Addr) (c:Nat) (l:List (Int × Int)) (hn:l.length≤1000000) (W0 W:World) (h:PS W0 W lo N p) (hr:RowC W N a (zap l)) :
  Calls Tryz.prog 39 #[.pointer (some ⟨N,0,none⟩),.string word,.slice a l.length c] W fun e w' =>(∃ r,e=.returned r)∧PS W0 w' lo N (zhC p word l)∧PF lo N W w':=by
 have H:=kz h
 have hlt:=h.here.lt
 clear h
 by_cases h0:l.length=0
 ·have HV:Hz (zhC p word l=p):=kz (if_pos h0)
  rw [h0]
  go_enter Tryz.func39,Tryz.ntmps39
  go_wp2_with fail
  go_end0
  exact ⟨⟨_,rfl⟩,by rw [oz HV];exact oz H,PF.refl _ _ _⟩
 ·have HV:Hz (zhC p word l=zgF (za8 p [word]) l):=kz (if_neg h0)
  have HP0:=kz (zbY lo N p [word] (fun w hw =>.inr (by rw [List.mem_singleton.1 hw];exact hword)) (by simp) W0 W (oz H))
  have HR:=kz hr
  have HS:=kz (fun (w:World) =>zka lo N (za8 p [word]) a c l hn W0 w)
  obtain ⟨n,hN⟩:∃ n,n=l.length:=⟨_,rfl⟩
  rw [← hN] at HS
  rw [← hN]
  have hpos:(0:Int) < (n:Int):=by omega
  clear hN hn h0 hr
  go_enter Tryz.func39,Tryz.ntmps39
  go_wp2_with fail
  refine (show Calls Tryz.prog 73 #[.pointer (some ⟨N,0,none⟩),.slice (some ⟨W.heap.size,0,none⟩) 1 1] (W.alloc (.cells #[.string word] 9)) _ from oz HP0).mono ?_
  rintro e w1 ⟨⟨r,rfl⟩,h1,hf1⟩
  have HS1:=kz (oz HS w1 h1 ((oz HR).kept hlt hf1.fr))
  have HF1:=kz hf1
  clear h1 hf1 HP0 HS
  go_wp2_with fail
  refine (oz HS1).mono ?_
  rintro e w2 ⟨⟨r2,rfl⟩,h2,hf2⟩
  have H2:=kz (And.intro h2 ((oz HF1).trans hf2))
  clear h2 hf2
  go_wp2_with fail
  go_end0
  exact ⟨⟨_,rfl⟩,by rw [oz HV];exact (oz H2).1,(oz H2).2⟩
theorem zfw (t:List (Int × Int × Int)):(zch t).length=t.length*3:=by
 induction t with
 | nil =>rfl
 | cons x t ih =>show (zch t).length+1+1+1=(t.length+1)*3;omega
theorem zkH (l:List (Int × Int × Int)) (j:Nat) (x:Int × Int × Int) (h:l[j]?=some x):(zch l)[j*3]?=some (.int .i32 x.1)∧(zch l)[j*3+1]?=some (.int .i32 x.2.1)∧(zch l)[j*3+2]?=some (.int .i32 x.2.2):=by
 induction l generalizing j with
 | nil =>simp at h
 | cons y l ih =>cases j with
  | zero =>obtain rfl:=Option.some.inj h;exact ⟨rfl,rfl,rfl⟩
  | succ j =>have:=ih j (by simpa using h);rw [show (j+1)*3=j*3+1+1+1 by omega];exact this
def zjv (p:Pn) (x:Int × Int × Int):Pn:=zfb (za8 (zaR (za8 (zaR (za8 (zaR (za8 p [⟨#[112,97,105,114]⟩]) x.1) [⟨#[61]⟩]) x.2.1) [⟨#[43]⟩]) x.2.2) [⟨#[59]⟩])
set_option maxRecDepth 100000 in
set_option maxHeartbeats 4000000 in
theorem ps_pairs (lo N:Nat) (p:Pn) (a:Option Addr) (c:Nat) (l:List (Int × Int × Int)) (hn:l.length≤1000000) (W0 W:World) (h:PS W0 W lo N p) (hr:RowC W N a (zch l)) :
  Calls Tryz.prog 41 #[.pointer (some ⟨N,0,none⟩),.slice a l.length c] W fun e w' =>(∃ r,e=.returned r)∧PS W0 w' lo N (l.foldl zjv p)∧PF lo N W w':=by
 obtain ⟨n,hN⟩:∃ n,n=l.length:=⟨_,rfl⟩
 rw [← hN]
 have HN:=kz hN
 have hn1:n≤1000000:=by omega
 have HR:=kz hr
 have hlt:=h.here.lt
 have H2:Hz (PS W0 W lo N ((l.take 0).foldl zjv p)∧PF lo N W W):=kz ⟨h,PF.refl _ _ _⟩
 clear hN hn h hr
 go_enter Tryz.func41,Tryz.ntmps41
 go_wp2_with fail
 go_loopw [5,8] (fun _ u8 wr => ∃ (j:Nat),u8=.int .i64 (j:Int)∧j≤n∧Hz (PS W0 wr lo N ((l.take j).foldl zjv p)∧PF lo N W wr)) (fun _ u8 _ =>n - cntI u8)
 case atStart =>exact ⟨0,rfl,Nat.zero_le _,H2⟩
 case round =>
  obtain ⟨j,rfl,hj,HQ⟩:=hrel
  clear H2
  by_cases hjlt:j < n
  ·have hlt2:(j:Int) < (n:Int):=by omega
   have hj0:(0:Int)≤(j:Int):=by omega
   obtain ⟨x,hx⟩:∃ x,l[j]?=some x:=⟨_,List.getElem?_eq_getElem (by have:=oz HN;omega)⟩
   obtain ⟨g,o,rfl,hg,hcs⟩:=((oz HR).kept hlt (oz HQ).2.fr) (by rw [zfw];have:=oz HN;omega)
   have hat:=zkH l j x hx
   have d0:wr.cell? ⟨g,o+j*3,none⟩=some (.int .i32 x.1):=hcs _ _ hat.1
   have d1:wr.cell? ⟨g,o+j*3+1,none⟩=some (.int .i32 x.2.1):=by rw [Nat.add_assoc];exact hcs _ _ hat.2.1
   have d2:wr.cell? ⟨g,o+j*3+2,none⟩=some (.int .i32 x.2.2):=by rw [Nat.add_assoc];exact hcs _ _ hat.2.2
   have HX:=kz (zd3 zjv p l j x hx)
   clear hcs hat hx
   obtain ⟨q,hq⟩:∃ q,q=(l.take j).foldl zjv p:=⟨_,rfl⟩
   rw [← hq] at HQ HX
   clear hq
   obtain ⟨x0,x1,x2⟩:=x
   dsimp only at d0 d1 d2
   have HA:Hz (PS W0 (wr.alloc (.cells #[.int .i32 x0,.int .i32 x1,.int .i32 x2] 96)) lo N q∧PF lo N wr (wr.alloc (.cells #[.int .i32 x0,.int .i32 x1,.int .i32 x2] 96))):=kz ⟨(oz HQ).1.alloc _,PF.below (oz HQ).1.here.lw ((Below.refl _ wr).alloc (Nat.le_refl _) _)⟩
   have HBX0:=kz (Blk.new wr #[.int .i32 x0,.int .i32 x1,.int .i32 x2] 96)
   have hNs:wr.heap.size≠N:=by have:=(oz HQ).1.here.lw;omega
   have HSA:Hz ((wr.alloc (.cells #[.int .i32 x0,.int .i32 x1,.int .i32 x2] 96)).heap.size=wr.heap.size+1):=kz (by simp)
   go_wp2_with fail
   generalize wr.alloc (.cells #[.int .i32 x0,.int .i32 x1,.int .i32 x2] 96)=wA at *
   generalize wr.heap.size=M at *
   have z0_0:=(oz HBX0).cell 0
   have z1_0:=(oz HBX0).cell 1
   have z2_0:=(oz HBX0).cell 2
   have HC1:=kz (zbY lo N q [⟨#[112,97,105,114]⟩] (fun w hw =>.inr (by simp at hw;first | (rw [hw];decide) | (rcases hw with h | h <;> rw [h] <;> decide))) (by simp) W0 wA (oz HA).1)
   rw [oz HSA] at HC1
   refine (show Calls Tryz.prog 73 #[.pointer (some ⟨N,0,none⟩),.slice (some ⟨M+1,0,none⟩) 1 1] (wA.alloc (.cells #[.string ⟨#[112,97,105,114]⟩] 9)) _ from oz HC1).mono ?_
   rintro e v1 ⟨⟨r1,rfl⟩,h1,hf1⟩
   have HBX1:=kz (hf1.kp _ _ _ hNs (by decide) (oz HBX0))
   have HH1:=kz (And.intro h1 ((oz HA).2.trans hf1))
   have z0_1:=(oz HBX1).cell 0
   have z1_1:=(oz HBX1).cell 1
   have z2_1:=(oz HBX1).cell 2
   clear h1 hf1 HC1 HBX0 
   have HC2:=kz (zcN lo N (za8 q [⟨#[112,97,105,114]⟩]) x0 W0 _ (oz HH1).1)
   go_wp2_with fail
   refine (oz HC2).mono ?_
   rintro e v2 ⟨⟨r2,rfl⟩,h2,hf2⟩
   have HBX2:=kz (hf2.kp _ _ _ hNs (by decide) (oz HBX1))
   have HH2:=kz (And.intro h2 ((oz HH1).2.trans hf2))
   have z0_2:=(oz HBX2).cell 0
   have z1_2:=(oz HBX2).cell 1
   have z2_2:=(oz HBX2).cell 2
   clear h2 hf2 HC2 HBX1 HH1 z0_1 z1_1 z2_1
   have HC3:=kz (zbY lo N (zaR (za8 q [⟨#[112,97,105,114]⟩]) x0) [⟨#[61]⟩] (fun w hw =>.inr (by simp at hw;first | (rw [hw];decide) | (rcases hw with h | h <;> rw [h] <;> decide))) (by simp) W0 v2 (oz HH2).1)
   go_wp2_with fail
   refine (show Calls Tryz.prog 73 #[.pointer (some ⟨N,0,none⟩),.slice (some ⟨v2.heap.size,0,none⟩) 1 1] (v2.alloc (.cells #[.string ⟨#[61]⟩] 9)) _ from oz HC3).mono ?_
   rintro e v3 ⟨⟨r3,rfl⟩,h3,hf3⟩
   have HBX3:=kz (hf3.kp _ _ _ hNs (by decide) (oz HBX2))
   have HH3:=kz (And.intro h3 ((oz HH2).2.trans hf3))
   have z0_3:=(oz HBX3).cell 0
   have z1_3:=(oz HBX3).cell 1
   have z2_3:=(oz HBX3).cell 2
   clear h3 hf3 HC3 HBX2 HH2 z0_2 z1_2 z2_2
   have HC4:=kz (zcN lo N (za8 (zaR (za8 q [⟨#[112,97,105,114]⟩]) x0) [⟨#[61]⟩]) x1 W0 _ (oz HH3).1)
   go_wp2_with fail
   refine (oz HC4).mono ?_
   rintro e v4 ⟨⟨r4,rfl⟩,h4,hf4⟩
   have HBX4:=kz (hf4.kp _ _ _ hNs (by decide) (oz HBX3))
   have HH4:=kz (And.intro h4 ((oz HH3).2.trans hf4))
   have z0_4:=(oz HBX4).cell 0
   have z1_4:=(oz HBX4).cell 1
   have z2_4:=(oz HBX4).cell 2
   clear h4 hf4 HC4 HBX3 HH3 z0_3 z1_3 z2_3
   have HC5:=kz (zbY lo N (zaR (za8 (zaR (za8 q [⟨#[112,97,105,114]⟩]) x0) [⟨#[61]⟩]) x1) [⟨#[43]⟩] (fun w hw =>.inr (by simp at hw;first | (rw [hw];decide) | (rcases hw with h | h <;> rw [h] <;> decide))) (by simp) W0 v4 (oz HH4).1)
   go_wp2_with fail
   refine (show Calls Tryz.prog 73 #[.pointer (some ⟨N,0,none⟩),.slice (some ⟨v4.heap.size,0,none⟩) 1 1] (v4.alloc (.cells #[.string ⟨#[43]⟩] 9)) _ from oz HC5).mono ?_
   rintro e v5 ⟨⟨r5,rfl⟩,h5,hf5⟩
   have HBX5:=kz (hf5.kp _ _ _ hNs (by decide) (oz HBX4))
   have HH5:=kz (And.intro h5 ((oz HH4).2.trans hf5))
   have z0_5:=(oz HBX5).cell 0
   have z1_5:=(oz HBX5).cell 1
   have z2_5:=(oz HBX5).cell 2
   clear h5 hf5 HC5 HBX4 HH4 z0_4 z1_4 z2_4
   have HC6:=kz (zcN lo N (za8 (zaR (za8 (zaR (za8 q [⟨#[112,97,105,114]⟩]) x0) [⟨#[61]⟩]) x1) [⟨#[43]⟩]) x2 W0 _ (oz HH5).1)
   go_wp2_with fail
   refine (oz HC6).mono ?_
   rintro e v6 ⟨⟨r6,rfl⟩,h6,hf6⟩
   have HBX6:=kz (hf6.kp _ _ _ hNs (by decide) (oz HBX5))
   have HH6:=kz (And.intro h6 ((oz HH5).2.trans hf6))
   have z0_6:=(oz HBX6).cell 0
   have z1_6:=(oz HBX6).cell 1
   have z2_6:=(oz HBX6).cell 2
   clear h6 hf6 HC6 HBX5 HH5 z0_5 z1_5 z2_5
   have HC7:=kz (zbY lo N (zaR (za8 (zaR (za8 (zaR (za8 q [⟨#[112,97,105,114]⟩]) x0) [⟨#[61]⟩]) x1) [⟨#[43]⟩]) x2) [⟨#[59]⟩] (fun w hw =>.inr (by simp at hw;first | (rw [hw];decide) | (rcases hw with h | h <;> rw [h] <;> decide))) (by simp) W0 v6 (oz HH6).1)
   go_wp2_with fail
   refine (show Calls Tryz.prog 73 #[.pointer (some ⟨N,0,none⟩),.slice (some ⟨v6.heap.size,0,none⟩) 1 1] (v6.alloc (.cells #[.string ⟨#[59]⟩] 9)) _ from oz HC7).mono ?_
   rintro e v7 ⟨⟨r7,rfl⟩,h7,hf7⟩
   have HBX7:=kz (hf7.kp _ _ _ hNs (by decide) (oz HBX6))
   have HH7:=kz (And.intro h7 ((oz HH6).2.trans hf7))
   have z0_7:=(oz HBX7).cell 0
   have z1_7:=(oz HBX7).cell 1
   have z2_7:=(oz HBX7).cell 2
   clear h7 hf7 HC7 HBX6 HH6 z0_6 z1_6 z2_6
   have HC8:=kz (zfa lo N (za8 (zaR (za8 (zaR (za8 (zaR (za8 q [⟨#[112,97,105,114]⟩]) x0) [⟨#[61]⟩]) x1) [⟨#[43]⟩]) x2) [⟨#[59]⟩]) W0 _ (oz HH7).1)
   go_wp2_with fail
   refine (oz HC8).mono ?_
   rintro e v8 ⟨⟨r8,rfl⟩,h8,hf8⟩
   have HBX8:=kz (hf8.kp _ _ _ hNs (by decide) (oz HBX7))
   have HH8:=kz (And.intro h8 ((oz HH7).2.trans hf8))
   have z0_8:=(oz HBX8).cell 0
   have z1_8:=(oz HBX8).cell 1
   have z2_8:=(oz HBX8).cell 2
   clear h8 hf8 HC8 HBX7 HH7 z0_7 z1_7 z2_7
   go_wp2_with fail
   go_roundw
   case rel =>exact ⟨j+1,rfl,hjlt,kz (by rw [oz HX];exact ⟨(oz HH8).1,(oz HQ).2.trans (oz HH8).2⟩)⟩
   case measure =>show n - ((j:Int)+1).toNat < n - (j:Int).toNat;omega
  ·have hle:¬ ((j:Int) < (n:Int)):=by omega
   have HJ:Hz (l.take j=l):=kz (by rw [show j=l.length by have:=oz HN;omega];exact List.take_length)
   rw [oz HJ] at HQ
   go_wp2_with fail
   go_end0
   exact ⟨⟨_,rfl⟩,(oz HQ).1,(oz HQ).2⟩
theorem zfx (t:List (Int × Int)):(zco t).length=t.length*2:=by
 induction t with
 | nil =>rfl
 | cons x t ih =>show (zco t).length+1+1=(t.length+1)*2;omega
theorem zkI (l:List (Int × Int)) (j:Nat) (x:Int × Int) (h:l[j]?=some x):(zco l)[j*2]?=some (.int .i32 x.1)∧(zco l)[j*2+1]?=some (.int .i64 x.2):=by
 induction l generalizing j with
 | nil =>simp at h
 | cons y l ih =>cases j with
  | zero =>obtain rfl:=Option.some.inj h;exact ⟨rfl,rfl⟩
  | succ j =>have:=ih j (by simpa using h);rw [show (j+1)*2=j*2+1+1 by omega];exact this
def zei (n:Int):ByteArray:=⟨(Lib.itoa n).toArray⟩
def zjQ (n:Int):Bool:=decide (0≤n) && decide (n≤65535)
def zhB (p:Pn) (x:Int × Int):Pn:=zfb (za8 (zaR (za8 (zbV p (zjQ x.2)) [⟨#[109,97,114,107]⟩]) x.1) [zei x.2,⟨#[59]⟩])
theorem zgE {lo N : Nat} {W0 W : World} (hf : Fr lo N N W0 W) (hl : 8 < lo) (hn : 8 ≠ N) (h : Lib.TabIs Tryz.prog W0 "internal/strconv.uint64pow10" .u64 Lib.pow10Tab) : Lib.TabIs Tryz.prog W "internal/strconv.uint64pow10" .u64 Lib.pow10Tab := by
 have hg : Tryz.prog.globalNamed "internal/strconv.uint64pow10" = some 8 := by kernel_rfl
 have e:=hf.block 8 hl hn hn
 unfold Lib.TabIs World.var? at h ⊢
 rw [hg] at h ⊢
 simp only [Option.bind_some] at h ⊢
 rw [e]
 exact h
theorem zhF (n : Int) (h0 : -9223372036854775808 ≤ n) (h1 : n ≤ 9223372036854775807) (w : World) (h : Lib.TabIs Tryz.prog w "internal/strconv.uint64pow10" .u64 Lib.pow10Tab) : Calls Tryz.prog 76 #[.int .i64 n] w fun e w' => e = .returned (.string (zei n)) ∧ Below w.heap.size w w' := by
 refine (show Calls Tryz.prog 76 #[.int .i64 n] w _ from Any.strconv_Itoa layM171 n h0 h1 w h).mono ?_
 rintro e w' ⟨rfl,k,os,rfl⟩
 exact ⟨rfl,Lib.below_grow _ w (Nat.le_refl _) k os⟩
theorem zee (n:Int) (h0 : -9223372036854775808≤n) (h1:n≤9223372036854775807):(zei n).size≤1000:=by
 have:=Lib.itoa_length_le n h0 h1
 show (Lib.itoa n).toArray.size≤1000
 rw [List.size_toArray]
 omega
set_option maxRecDepth 100000 in
set_option maxHeartbeats 4000000 in
theorem ps_marks (lo N : Nat) (p : Pn) (a : Option Addr) (c : Nat) (l : List (Int × Int)) (hn : l.length ≤ 1000000) (hc : ∀ x ∈ l, -9223372036854775808 ≤ x.2 ∧ x.2 ≤ 9223372036854775807) (W0 W : World) (hP : Lib.TabIs Tryz.prog W0 "internal/strconv.uint64pow10" .u64 Lib.pow10Tab) (hgl : 8 < lo) (hgn : 8 ≠ N) (h : PS W0 W lo N p) (hr : RowC W N a (zco l)) :
  Calls Tryz.prog 40 #[.pointer (some ⟨N,0,none⟩),.slice a l.length c] W fun e w' =>(∃ r,e=.returned r)∧PS W0 w' lo N (l.foldl zhB p)∧PF lo N W w':=by
 obtain ⟨n,hN⟩:∃ n,n=l.length:=⟨_,rfl⟩
 rw [← hN]
 have HN:=kz hN
 have hn1:n≤1000000:=by omega
 have HR:=kz hr
 have HC:=kz hc
 have HPW:=kz (And.intro hP (And.intro hgl hgn))
 have hlt:=h.here.lt
 have H2:Hz (PS W0 W lo N ((l.take 0).foldl zhB p)∧PF lo N W W):=kz ⟨h,PF.refl _ _ _⟩
 clear hN hn h hr hc hP hgl hgn
 go_enter Tryz.func40,Tryz.ntmps40
 go_wp2_with fail
 go_loopw [5,8] (fun _ u8 wr => ∃ (j:Nat),u8=.int .i64 (j:Int)∧j≤n∧Hz (PS W0 wr lo N ((l.take j).foldl zhB p)∧PF lo N W wr)) (fun _ u8 _ =>n - cntI u8)
 case atStart =>exact ⟨0,rfl,Nat.zero_le _,H2⟩
 case round =>
  obtain ⟨j,rfl,hj,HQ⟩:=hrel
  clear H2
  by_cases hjlt:j < n
  ·have hlt2:(j:Int) < (n:Int):=by omega
   have hj0:(0:Int)≤(j:Int):=by omega
   obtain ⟨x,hx⟩:∃ x,l[j]?=some x:=⟨_,List.getElem?_eq_getElem (by have:=oz HN;omega)⟩
   obtain ⟨g,o,rfl,hg,hcs⟩:=((oz HR).kept hlt (oz HQ).2.fr) (by rw [zfx];have:=oz HN;omega)
   have hat:=zkI l j x hx
   have d0:wr.cell? ⟨g,o+j*2,none⟩=some (.int .i32 x.1):=hcs _ _ hat.1
   have d1:wr.cell? ⟨g,o+j*2+1,none⟩=some (.int .i64 x.2):=by rw [Nat.add_assoc];exact hcs _ _ hat.2
   have HX:=kz (zd3 zhB p l j x hx)
   have HXC:=kz (oz HC x (List.mem_of_getElem? hx))
   clear hcs hat hx
   obtain ⟨q,hq⟩:∃ q,q=(l.take j).foldl zhB p:=⟨_,rfl⟩
   rw [← hq] at HQ HX
   clear hq
   obtain ⟨x0,x1⟩:=x
   dsimp only at d0 d1 HXC
   have HA:Hz (PS W0 (wr.alloc (.cells #[.int .i32 x0,.int .i64 x1] 93)) lo N q∧PF lo N wr (wr.alloc (.cells #[.int .i32 x0,.int .i64 x1] 93))):=kz ⟨(oz HQ).1.alloc _,PF.below (oz HQ).1.here.lw ((Below.refl _ wr).alloc (Nat.le_refl _) _)⟩
   have HBX0:=kz (Blk.new wr #[.int .i32 x0,.int .i64 x1] 93)
   have hNs:wr.heap.size≠N:=by have:=(oz HQ).1.here.lw;omega
   have HSA:Hz ((wr.alloc (.cells #[.int .i32 x0,.int .i64 x1] 93)).heap.size=wr.heap.size+1):=kz (by simp)
   by_cases hcl:0≤x1
   ·have hcl2:0≤x1:=hcl
    have HOK:Hz (zjQ x1=(decide (x1≤65535))):=kz (by unfold zjQ;rw [decide_eq_true hcl];rfl)
    go_wp2_with fail
    generalize wr.alloc (.cells #[.int .i32 x0,.int .i64 x1] 93)=wA at *
    generalize wr.heap.size=M at *
    have z0_0:=(oz HBX0).cell 0
    have z1_0:=(oz HBX0).cell 1
    have HC1:=kz (ze9 lo N q (decide (x1≤65535)) W0 _ (oz HA).1)
    refine (oz HC1).mono ?_
    rintro e v1 ⟨⟨r1,rfl⟩,h1,hf1⟩
    have HBX1:=kz (hf1.kp _ _ _ hNs (by decide) (oz HBX0))
    have HH1:=kz (And.intro h1 ((oz HA).2.trans hf1))
    have z0_1:=(oz HBX1).cell 0
    have z1_1:=(oz HBX1).cell 1
    clear h1 hf1 HC1 HBX0 
    have HC2:=kz (zbY lo N (zbV q (decide (x1≤65535))) [⟨#[109,97,114,107]⟩] (fun w hw =>.inr (by simp at hw;first | (rw [hw];decide) | (rcases hw with h | h <;> rw [h] <;> decide))) (by simp) W0 v1 (oz HH1).1)
    go_wp2_with fail
    refine (show Calls Tryz.prog 73 #[.pointer (some ⟨N,0,none⟩),.slice (some ⟨v1.heap.size,0,none⟩) 1 1] (v1.alloc (.cells #[.string ⟨#[109,97,114,107]⟩] 9)) _ from oz HC2).mono ?_
    rintro e v2 ⟨⟨r2,rfl⟩,h2,hf2⟩
    have HBX2:=kz (hf2.kp _ _ _ hNs (by decide) (oz HBX1))
    have HH2:=kz (And.intro h2 ((oz HH1).2.trans hf2))
    have z0_2:=(oz HBX2).cell 0
    have z1_2:=(oz HBX2).cell 1
    clear h2 hf2 HC2 HBX1 HH1 z0_1 z1_1
    have HC3:=kz (zcN lo N (za8 (zbV q (decide (x1≤65535))) [⟨#[109,97,114,107]⟩]) x0 W0 _ (oz HH2).1)
    go_wp2_with fail
    refine (oz HC3).mono ?_
    rintro e v3 ⟨⟨r3,rfl⟩,h3,hf3⟩
    have HBX3:=kz (hf3.kp _ _ _ hNs (by decide) (oz HBX2))
    have HH3:=kz (And.intro h3 ((oz HH2).2.trans hf3))
    have z0_3:=(oz HBX3).cell 0
    have z1_3:=(oz HBX3).cell 1
    clear h3 hf3 HC3 HBX2 HH2 z0_2 z1_2
    have HIT:=kz (zhF x1 (oz HXC).1 (oz HXC).2 v3 (zgE (oz HH3).1.pf.fr (oz HPW).2.1 (oz HPW).2.2 (oz HPW).1))
    go_wp2_with fail
    refine (oz HIT).mono ?_
    rintro e wI ⟨rfl,hbI⟩
    have HI:=kz (And.intro ((oz HH3).1.fresh hbI) ((oz HH3).2.trans (PF.below (oz HH3).1.here.lw hbI)))
    clear hbI HIT HH3 z0_3 z1_3
    have HC9:=kz (zbY lo N (zaR (za8 (zbV q (decide (x1≤65535))) [⟨#[109,97,114,107]⟩]) x0) [zei x1,⟨#[59]⟩] (fun w hw =>.inr (by simp at hw;rcases hw with h | h;(rw [h];exact zee x1 (oz HXC).1 (oz HXC).2);(rw [h];decide))) (by simp) W0 wI (oz HI).1)
    go_wp2_with fail
    refine (show Calls Tryz.prog 73 #[.pointer (some ⟨N,0,none⟩),.slice (some ⟨wI.heap.size,0,none⟩) 2 2] (wI.alloc (.cells #[.string (zei x1),.string ⟨#[59]⟩] 9)) _ from oz HC9).mono ?_
    rintro e w9 ⟨⟨r9,rfl⟩,h9,hf9⟩
    have HH9:=kz (And.intro h9 ((oz HI).2.trans hf9))
    clear h9 hf9 HC9
    have HC10:=kz (zfa lo N (za8 (zaR (za8 (zbV q (decide (x1≤65535))) [⟨#[109,97,114,107]⟩]) x0) [zei x1,⟨#[59]⟩]) W0 w9 (oz HH9).1)
    go_wp2_with fail
    refine (oz HC10).mono ?_
    rintro e w10 ⟨⟨r10,rfl⟩,h10,hf10⟩
    have HH10:=kz (And.intro h10 ((oz HH9).2.trans hf10))
    clear h10 hf10 HC10
    have HMP:Hz (zhB q (x0,x1)=zfb (za8 (zaR (za8 (zbV q (decide (x1≤65535))) [⟨#[109,97,114,107]⟩]) x0) [zei x1,⟨#[59]⟩])):=kz (by show zfb (za8 (zaR (za8 (zbV q (zjQ x1)) _) x0) _)=_;rw [oz HOK])
    go_wp2_with fail
    go_roundw
    case rel =>exact ⟨j+1,rfl,hjlt,kz (by rw [oz HX,oz HMP];exact ⟨(oz HH10).1,(oz HQ).2.trans (oz HH10).2⟩)⟩
    case measure =>show n - ((j:Int)+1).toNat < n - (j:Int).toNat;omega
   ·have hcl2:¬ 0≤x1:=hcl
    have HOK:Hz (zjQ x1=false):=kz (by unfold zjQ;rw [decide_eq_false hcl];rfl)
    go_wp2_with fail
    generalize wr.alloc (.cells #[.int .i32 x0,.int .i64 x1] 93)=wA at *
    generalize wr.heap.size=M at *
    have z0_0:=(oz HBX0).cell 0
    have z1_0:=(oz HBX0).cell 1
    have HC1:=kz (ze9 lo N q false W0 _ (oz HA).1)
    refine (oz HC1).mono ?_
    rintro e v1 ⟨⟨r1,rfl⟩,h1,hf1⟩
    have HBX1:=kz (hf1.kp _ _ _ hNs (by decide) (oz HBX0))
    have HH1:=kz (And.intro h1 ((oz HA).2.trans hf1))
    have z0_1:=(oz HBX1).cell 0
    have z1_1:=(oz HBX1).cell 1
    clear h1 hf1 HC1 HBX0 
    have HC2:=kz (zbY lo N (zbV q false) [⟨#[109,97,114,107]⟩] (fun w hw =>.inr (by simp at hw;first | (rw [hw];decide) | (rcases hw with h | h <;> rw [h] <;> decide))) (by simp) W0 v1 (oz HH1).1)
    go_wp2_with fail
    refine (show Calls Tryz.prog 73 #[.pointer (some ⟨N,0,none⟩),.slice (some ⟨v1.heap.size,0,none⟩) 1 1] (v1.alloc (.cells #[.string ⟨#[109,97,114,107]⟩] 9)) _ from oz HC2).mono ?_
    rintro e v2 ⟨⟨r2,rfl⟩,h2,hf2⟩
    have HBX2:=kz (hf2.kp _ _ _ hNs (by decide) (oz HBX1))
    have HH2:=kz (And.intro h2 ((oz HH1).2.trans hf2))
    have z0_2:=(oz HBX2).cell 0
    have z1_2:=(oz HBX2).cell 1
    clear h2 hf2 HC2 HBX1 HH1 z0_1 z1_1
    have HC3:=kz (zcN lo N (za8 (zbV q false) [⟨#[109,97,114,107]⟩]) x0 W0 _ (oz HH2).1)
    go_wp2_with fail
    refine (oz HC3).mono ?_
    rintro e v3 ⟨⟨r3,rfl⟩,h3,hf3⟩
    have HBX3:=kz (hf3.kp _ _ _ hNs (by decide) (oz HBX2))
    have HH3:=kz (And.intro h3 ((oz HH2).2.trans hf3))
    have z0_3:=(oz HBX3).cell 0
    have z1_3:=(oz HBX3).cell 1
    clear h3 hf3 HC3 HBX2 HH2 z0_2 z1_2
    have HIT:=kz (zhF x1 (oz HXC).1 (oz HXC).2 v3 (zgE (oz HH3).1.pf.fr (oz HPW).2.1 (oz HPW).2.2 (oz HPW).1))
    go_wp2_with fail
    refine (oz HIT).mono ?_
    rintro e wI ⟨rfl,hbI⟩
    have HI:=kz (And.intro ((oz HH3).1.fresh hbI) ((oz HH3).2.trans (PF.below (oz HH3).1.here.lw hbI)))
    clear hbI HIT HH3 z0_3 z1_3
    have HC9:=kz (zbY lo N (zaR (za8 (zbV q false) [⟨#[109,97,114,107]⟩]) x0) [zei x1,⟨#[59]⟩] (fun w hw =>.inr (by simp at hw;rcases hw with h | h;(rw [h];exact zee x1 (oz HXC).1 (oz HXC).2);(rw [h];decide))) (by simp) W0 wI (oz HI).1)
    go_wp2_with fail
    refine (show Calls Tryz.prog 73 #[.pointer (some ⟨N,0,none⟩),.slice (some ⟨wI.heap.size,0,none⟩) 2 2] (wI.alloc (.cells #[.string (zei x1),.string ⟨#[59]⟩] 9)) _ from oz HC9).mono ?_
    rintro e w9 ⟨⟨r9,rfl⟩,h9,hf9⟩
    have HH9:=kz (And.intro h9 ((oz HI).2.trans hf9))
    clear h9 hf9 HC9
    have HC10:=kz (zfa lo N (za8 (zaR (za8 (zbV q false) [⟨#[109,97,114,107]⟩]) x0) [zei x1,⟨#[59]⟩]) W0 w9 (oz HH9).1)
    go_wp2_with fail
    refine (oz HC10).mono ?_
    rintro e w10 ⟨⟨r10,rfl⟩,h10,hf10⟩
    have HH10:=kz (And.intro h10 ((oz HH9).2.trans hf10))
    clear h10 hf10 HC10
    have HMP:Hz (zhB q (x0,x1)=zfb (za8 (zaR (za8 (zbV q false) [⟨#[109,97,114,107]⟩]) x0) [zei x1,⟨#[59]⟩])):=kz (by show zfb (za8 (zaR (za8 (zbV q (zjQ x1)) _) x0) _)=_;rw [oz HOK])
    go_wp2_with fail
    go_roundw
    case rel =>exact ⟨j+1,rfl,hjlt,kz (by rw [oz HX,oz HMP];exact ⟨(oz HH10).1,(oz HQ).2.trans (oz HH10).2⟩)⟩
    case measure =>show n - ((j:Int)+1).toNat < n - (j:Int).toNat;omega
  ·have hle:¬ ((j:Int) < (n:Int)):=by omega
   have HJ:Hz (l.take j=l):=kz (by rw [show j=l.length by have:=oz HN;omega];exact List.take_length)
   rw [oz HJ] at HQ
   go_wp2_with fail
   go_end0
   exact ⟨⟨_,rfl⟩,(oz HQ).1,(oz HQ).2⟩
theorem find_zero (Tx:Nat) (l r:Int) (W:World):Calls Tryz.prog 22 #[.pointer (some ⟨Tx,0,none⟩),.agg #[.int .i64 0,.int .i64 l,.int .i64 r]] W fun e w' =>e=.returned .nilIface∧Below W.heap.size W w':=by
 go_enter Tryz.func22,Tryz.ntmps22
 go_wp2_with fail
 go_ret
 exact ⟨rfl,(Below.refl _ W).alloc (Nat.le_refl _) _⟩
theorem conv1 (W:World) (x:Int):(convert 105 9 (.slice (some ⟨W.heap.size,0,none⟩) 1 1)).run Tryz.prog (W.alloc (.cells #[.int .u8 x] 5))=.ok (.string ⟨#[UInt8.ofNat x.toNat]⟩) (W.alloc (.cells #[.int .u8 x] 5)):=by
 rw [run_convert_bytes_string _ _ _ _ _ _ _ Tryz.underlying105 Tryz.underlying5 Tryz.underlying9]
 rw [run_bytesToString _ _ 1 1 [x] (by
  rw [run_loadCells _ _ 1 (fun _ =>.int .u8 x) (fun j hj =>by
   obtain rfl:j=0:=by omega
   exact (Blk.new W #[.int .u8 x] 5).cell 0)]
  rfl)]
 rfl
set_option maxRecDepth 100000 in
set_option maxHeartbeats 4000000 in
theorem errno_5 (W:World):Calls Tryz.prog 92 #[.int .i64 5] W fun e w' => ∃ s:ByteArray,e=.returned (.string s)∧s.size≤1000∧Below W.heap.size W w':=by
 have hcv:=conv1 W 53
 go_enter Tryz.func92,Tryz.ntmps92
 go_wp2_with fail
 refine wp_loop_rounds 2 ?_
 rw [rounds_succ]
 go_wp2_with fail
 rw [rounds_succ]
 go_wp2_with fail
 go_ret
 exact ⟨_,rfl,by decide,(Below.refl _ W).alloc (Nat.le_refl _) _⟩
set_option maxRecDepth 100000 in
set_option maxHeartbeats 4000000 in
theorem zlo (F : Nat) (x : Rf) (W : World) (hb : Blk W F (zb4 x) 80) (hl : 0 ≤ x.l ∧ x.l ≤ 1000000) (hc : 0 ≤ x.c ∧ x.c ≤ 1000000) (hP : Lib.TabIs Tryz.prog W "internal/strconv.uint64pow10" .u64 Lib.pow10Tab) (hG : 8 < W.heap.size) (hW : ∀ w, Calls Tryz.prog 92 #[.int .i64 x.why] w fun e w' => ∃ s : ByteArray, e = .returned (.string s) ∧ s.size ≤ 1000 ∧ Below w.heap.size w w') :
  Calls Tryz.prog 55 #[.pointer (some ⟨F,0,none⟩)] W fun e w' => ∃ s:ByteArray,e=.returned (.string s)∧¬ s.toList=[]∧Below W.heap.size W w':=by
 have hmx:Tryz.prog.follows .mixedOrders=true:=by kernel_rfl
 obtain ⟨xb,xl,xc,xw⟩:=x
 dsimp only at hl hc hW
 have hF:=hb.lt
 have k1:W.drew.cell? ⟨F,1,none⟩=some (.int .i64 xl):=hb.cell 1
 have HTF : Hz (∀ w : World, Below W.heap.size W w → Lib.TabIs Tryz.prog w "internal/strconv.uint64pow10" .u64 Lib.pow10Tab) := kz   (fun w h => zgE (lo := W.heap.size) (N := W.heap.size) ⟨h.os, h.tape, h.output, h.size, fun i hi _ _ => h.block i hi⟩ hG (by omega) hP)
 have HB:=kz hb
 have HWY:=kz hW
 clear hb hW hP
 go_enter Tryz.func55,Tryz.ntmps55
 have HBB:Hz (Below W.heap.size W W.drew):=kz ⟨rfl,rfl,rfl,Nat.le_refl _,fun _ _ =>rfl⟩
 have k2:W.drew.cell? ⟨F,2,none⟩=some (.int .i64 xc):=(oz HB).cell 2
 have k3:W.drew.cell? ⟨F,3,none⟩=some (.int .i64 xw):=(oz HB).cell 3
 have HS1:=kz (zee xl (by omega) (by omega))
 have HS2:=kz (zee xc (by omega) (by omega))
 have HI:=kz (fun (n:Int) (h0:0≤n∧n≤1000000) (w:World) =>zhF n (by omega) (by omega) w)
 obtain ⟨s1,hs1⟩:∃ s1,s1=zei xl:=⟨_,rfl⟩
 obtain ⟨s2,hs2⟩:∃ s2,s2=zei xc:=⟨_,rfl⟩
 rw [← hs1] at HS1
 rw [← hs2] at HS2
 have z1:s1.size≤1000:=oz HS1
 have z2:s2.size≤1000:=oz HS2
 have HE1:=kz hs1
 have HE2:=kz hs2
 clear hs1 hs2
 have l1:(⟨#[108,105,110,101,32]⟩:ByteArray).size=5:=rfl
 have l2:(⟨#[44,32,99,111,108,117,109,110,32]⟩:ByteArray).size=9:=rfl
 have l3:(⟨#[58,32]⟩:ByteArray).size=2:=rfl
 have q1:∀ w:World,(Op.stringOp .add (⟨#[108,105,110,101,32]⟩:ByteArray) s1).run Tryz.prog w=.ok (.string ((⟨#[108,105,110,101,32]⟩:ByteArray)++s1)) w:=fun w =>run_string_add_sum w _ _ (by (try simp only [ByteArray.size_append]);omega)
 have q2:∀ w:World,(Op.stringOp .add ((⟨#[108,105,110,101,32]⟩:ByteArray)++s1) ⟨#[44,32,99,111,108,117,109,110,32]⟩).run Tryz.prog w=.ok (.string (((⟨#[108,105,110,101,32]⟩:ByteArray)++s1)++⟨#[44,32,99,111,108,117,109,110,32]⟩)) w:=fun w =>run_string_add_sum w _ _ (by (try simp only [ByteArray.size_append]);omega)
 have q3:∀ w:World,(Op.stringOp .add (((⟨#[108,105,110,101,32]⟩:ByteArray)++s1)++⟨#[44,32,99,111,108,117,109,110,32]⟩) s2).run Tryz.prog w=.ok (.string ((((⟨#[108,105,110,101,32]⟩:ByteArray)++s1)++⟨#[44,32,99,111,108,117,109,110,32]⟩)++s2)) w:=fun w =>run_string_add_sum w _ _ (by (try simp only [ByteArray.size_append]);omega)
 have q4:∀ w:World,(Op.stringOp .add ((((⟨#[108,105,110,101,32]⟩:ByteArray)++s1)++⟨#[44,32,99,111,108,117,109,110,32]⟩)++s2) ⟨#[58,32]⟩).run Tryz.prog w=.ok (.string (((((⟨#[108,105,110,101,32]⟩:ByteArray)++s1)++⟨#[44,32,99,111,108,117,109,110,32]⟩)++s2)++⟨#[58,32]⟩)) w:=fun w =>run_string_add_sum w _ _ (by (try simp only [ByteArray.size_append]);omega)
 have HQ5:=kz (fun (s3:ByteArray) (z3:s3.size≤1000) (w:World) =>run_string_add_sum (P:=Tryz.prog) w (((((⟨#[108,105,110,101,32]⟩:ByteArray)++s1)++⟨#[44,32,99,111,108,117,109,110,32]⟩)++s2)++⟨#[58,32]⟩) s3 (by simp only [ByteArray.size_append];omega))
 clear l1 l2 l3
 go_wp2_with fail
 go_region_held3 (fun w' =>w'.cell? ⟨F,1,none⟩=some (.int .i64 xl)∧w'.cell? ⟨F,2,none⟩=some (.int .i64 xc)∧w'.cell? ⟨F,3,none⟩=some (.int .i64 xw)) (first | with_reducible exact ⟨m31,m32,m33⟩ | with_reducible exact ⟨m21,m22,m23⟩ | with_reducible exact ⟨m11,m12,m13⟩ | with_reducible exact ⟨k1,k2,k3⟩)
  (first
  | (go_at_call 92;refine (oz HWY w2).mono ?_;rintro e w3 ⟨s3,rfl,z3,hb3⟩;have q5:=oz HQ5 s3 z3;have HB3:=kz ((oz HB2).trans (hb3.mono (oz HB2).size));have m31:=((oz HB3).cell (p:=⟨F,1,none⟩) hF).trans k1;have m32:=((oz HB3).cell (p:=⟨F,2,none⟩) hF).trans k2;have m33:=((oz HB3).cell (p:=⟨F,3,none⟩) hF).trans k3;clear hb3)
  | (go_at_call 76;refine (oz HI xc hc w1 (oz HTF w1 (oz HB1))).mono ?_;rw [← oz HE2];rintro e w2 ⟨rfl,hb2⟩;have HB2:=kz ((oz HB1).trans (hb2.mono (oz HB1).size));have m21:=((oz HB2).cell (p:=⟨F,1,none⟩) hF).trans k1;have m22:=((oz HB2).cell (p:=⟨F,2,none⟩) hF).trans k2;have m23:=((oz HB2).cell (p:=⟨F,3,none⟩) hF).trans k3;clear hb2)
  | (go_at_call 76;refine (oz HI xl hl W.drew (oz HTF W.drew (oz HBB))).mono ?_;rw [← oz HE1];rintro e w1 ⟨rfl,hb1⟩;have HB1:=kz ((oz HBB).trans (hb1.mono (oz HBB).size));have m11:=((oz HB1).cell (p:=⟨F,1,none⟩) hF).trans k1;have m12:=((oz HB1).cell (p:=⟨F,2,none⟩) hF).trans k2;have m13:=((oz HB1).cell (p:=⟨F,3,none⟩) hF).trans k3;clear hb1))
 all_goals
  go_wp2_with fail
  go_ret
  exact ⟨_,rfl,zdQ _ (by simp only [ByteArray.size_append];have:(⟨#[108,105,110,101,32]⟩:ByteArray).size=5:=rfl;omega),oz HB3⟩
end Go.Proofs.YtmdgejgokoadlaaGreatDoor
