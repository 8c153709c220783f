/- Texts of this claim, one behind the other. -/
import Derived.Test.YtmemedpoaocdkaaGreatM2
import Derived.Lib.UnsafeStr
import Derived.Lib.Builder
import Derived.Lib.AppendStr
import Derived.Test.YtmemedpoaocdkaaGreatBound
import Derived.Laws.Bits64b
import Derived.Laws.IdiomStrings
import Derived.Test.YtmemedpoaocdkaaGreatShB
import Derived.Test.YtmemedpoaocdkaaGreatM1
import Derived.ScopeJumps
import Derived.WalkMore
import Derived.Deep.RegionWith
import Derived.Deep.RegionLaw
import Derived.Deep.AppendLies
import Derived.OwnWalk
import Derived.Test.YtmemedpoaocdkaaGreatShC
import Derived.Laws.Cover4
import Derived.Test.YtmemedpoaocdkaaGreatShK
import Derived.Test.YtmemedpoaocdkaaGreatShD
import Derived.Lib.ItoaLen
import Derived.Lib.AppendIntMem
import Derived.Test.YtmemedpoaocdkaaGreatShV
import Derived.Deep.QuietTactic
import Derived.BigQuiet
/- The printer of tables: its text in memory. -/
namespace Go.Proofs.YtmemedpoaocdkaaGreat
open Go.RowKit Go.Shelf
set_option linter.unusedVariables false
theorem zgC {W W':World} {row:Option Nat} (h:Below W.heap.size W W'):W.grownBy W' row:=⟨h.os,h.tape,h.output,h.size,fun i hi _ =>h.block i hi⟩
theorem zfm (r:Int) (h:zaA r≠0):0≤r∧r≤1114111:=by
 unfold zaA at h
 repeat' split at h
 all_goals first | omega | (exfalso;exact h rfl)
theorem zeX (t:List (Int × Int)):(zaW t).length=t.length*2:=by
 induction t with
 | nil =>rfl
 | cons x t ih =>show (zaW t).length+1+1=(t.length+1)*2;omega
theorem znH (t:List (Int × Int)):∀ u ∈ zaW t,u.oneCell'=true:=by
 induction t with
 | nil =>intro u hu;cases hu
 | cons x t ih =>
  intro u hu
  rcases List.mem_cons.1 hu with rfl | hu
  ·rfl
  ·rcases List.mem_cons.1 hu with rfl | hu
   ·rfl
   ·exact ih u hu
theorem zpd {W:World} {lo E sz n:Nat} {v:Value} {xs:List Value} (h:W.ownsRow lo E sz v n xs) (h0:n=0→v=.slice none 0 0):(v=.slice none 0 0∧n=0∧xs=[])∨∃ g c,v=.slice (some ⟨g,0,none⟩) n c∧0 < n∧lo≤g∧n≤c∧∀ j u,xs[j]?=some u→W.cell? ((⟨g,0,none⟩:Addr).add j)=some u:=by
 by_cases hn:n=0
 ·subst hn
  exact .inl ⟨h0 rfl,rfl,by have:=h.1;rw [Nat.zero_mul] at this;exact List.length_eq_zero_iff.1 this⟩
 ·rcases h.2 with ⟨_,h2⟩ | ⟨g,cap,cur,rfl,hl,hg,hc,_,hcs,hx⟩
  ·exact absurd h2 hn
  ·refine .inr ⟨g,cap,rfl,by omega,hl,hc,fun j u hu =>?_⟩
   have hj:=(List.getElem?_eq_some_iff.1 hu).1
   rw [h.1] at hj
   rw [← hx,List.getElem?_take_of_lt hj] at hu
   have ea:(⟨g,0,none⟩:Addr).add j=⟨g,j,none⟩:=by cases j <;> simp [Addr.add]
   rw [ea]
   have b:Blk W g cur E:=hg
   rw [b.cell j, ← hu,Array.getElem?_toList]
theorem zaE {W:World} {lo lo' E sz n:Nat} {v:Value} {xs:List Value} (h:W.ownsRow lo E sz v n xs) (hl:lo'≤lo):W.ownsRow lo' E sz v n xs:=by
 refine ⟨h.1, ?_⟩
 rcases h.2 with h2 | ⟨g,cap,cur,e,hb,h3⟩
 ·exact .inl h2
 ·exact .inr ⟨g,cap,cur,e,by omega,h3⟩
theorem zew {W W':World} {row:Option Nat} (h:Below W.heap.size W W'):W.grownBy W' row:=⟨h.os,h.tape,h.output,h.size,fun i hi _ =>h.block i hi⟩
def znM (l:List Int):List Value:=l.map (Value.int .i32)
theorem zqQ:(Tryz.prog.info? 21).map (fun i =>(i.zero,i.size,i.bytes))=some (some (.int .i32 0),1,4):=by kernel_rfl
structure TV where
 sc:List (ByteArray × List (Int × Int))
 co:List (Int × Int)
 ma:List (Int × Int)
 pr:List (Int × Int × Int)
 fo:List (Int × ByteArray)
 lk:List (Int × ByteArray)
 dr:List (Int × Int)
 al:List (Int × Int)
 r1:List (Int × Int × Int)
 r2:List (Int × Int × Int)
 r3:List (Int × Int × Int)
 r4:List (Int × Int × Int)
 r5:List (Int × Int × Int)
 r6:List (Int × Int × Int)
 r7:List (Int × Int × Int)
 r8:List (Int × Int × Int)
def zdO:List (Int × Int)→List Value
 | [] => []
 | x::t =>.int .i32 x.1::.int .i64 x.2::zdO t
def zdb:List (Int × Int × Int)→List Value
 | [] => []
 | x::t =>.int .i32 x.1::.int .i32 x.2.1::.int .i32 x.2.2::zdb t
def zbo:List (Int × ByteArray)→List Value
 | [] => []
 | x::t =>.int .i32 x.1::.string x.2::zbo t
def zbB:List (ByteArray × List (Int × Int))→List Value→List Value
 | x::t,u::us =>.string x.1::u::zbB t us
 | _,_ => []
theorem znL (t:List (Int × Int)):∀ u ∈ zdO t,u.oneCell'=true:=by
 induction t with
 | nil =>intro u hu;cases hu
 | cons x t ih =>
  intro u hu
  rcases List.mem_cons.1 hu with rfl | hu
  ·rfl
  ·rcases List.mem_cons.1 hu with rfl | hu
   ·rfl
   ·exact ih u hu
theorem znN (t:List (Int × ByteArray)):∀ u ∈ zbo t,u.oneCell'=true:=by
 induction t with
 | nil =>intro u hu;cases hu
 | cons x t ih =>
  intro u hu
  rcases List.mem_cons.1 hu with rfl | hu
  ·rfl
  ·rcases List.mem_cons.1 hu with rfl | hu
   ·rfl
   ·exact ih u hu
theorem znK (t:List (Int × Int × Int)):∀ u ∈ zdb t,u.oneCell'=true:=by
 induction t with
 | nil =>intro u hu;cases hu
 | cons x t ih =>
  intro u hu
  rcases List.mem_cons.1 hu with rfl | hu
  ·rfl
  ·rcases List.mem_cons.1 hu with rfl | hu
   ·rfl
   ·rcases List.mem_cons.1 hu with rfl | hu
    ·rfl
    ·exact ih u hu
theorem znG (t:List (ByteArray × List (Int × Int))) (us:List Value) (hu:∀ u ∈ us,u.oneCell'=true):∀ u ∈ zbB t us,u.oneCell'=true:=by
 induction t generalizing us with
 | nil =>intro u h;cases us <;> cases h
 | cons x t ih =>cases us with
  | nil =>intro u h;cases h
  | cons v us =>
   intro u h
   rcases List.mem_cons.1 h with rfl | h
   ·rfl
   ·rcases List.mem_cons.1 h with rfl | h
    ·exact hu _ List.mem_cons_self
    ·exact ih us (fun y hy =>hu y (List.mem_cons_of_mem _ hy)) u h
theorem zdG (t:List (ByteArray × List (Int × Int))) (us:List Value) (h:us.length=t.length) (j:Nat):(zbB t us)[2*j+1]?=us[j]?:=by
 induction t generalizing us j with
 | nil =>cases us with
  | nil =>simp [zbB]
  | cons v us =>cases h
 | cons x t ih =>cases us with
  | nil =>cases h
  | cons v us =>cases j with
   | zero =>rfl
   | succ j =>show (_::_::zbB t us)[2*j+1+2]?=_;rw [List.getElem?_cons_succ,List.getElem?_cons_succ,List.getElem?_cons_succ];exact ih us (by simpa using h) j
theorem znF (t:List (ByteArray × List (Int × Int))) (us:List Value) (h:us.length=t.length) (j:Nat) (v:Value):(zbB t us).set (2*j+1) v=zbB t (us.set j v):=by
 induction t generalizing us j with
 | nil =>cases us with
  | nil =>simp [zbB]
  | cons v us =>cases h
 | cons x t ih =>cases us with
  | nil =>cases h
  | cons u us =>cases j with
   | zero =>rfl
   | succ j =>show (_::_::zbB t us).set (2*j+1+2) v=_::_::zbB t (us.set j v);rw [List.set_cons_succ,List.set_cons_succ,ih us (by simpa using h) j]
theorem zeW (t:List (ByteArray × List (Int × Int))) (us:List Value) (h:us.length=t.length):(zbB t us).length=t.length*2:=by
 induction t generalizing us with
 | nil =>cases us <;> rfl
 | cons x t ih =>cases us with
  | nil =>cases h
  | cons u us =>show (zbB t us).length+1+1=(t.length+1)*2;rw [ih us (by simpa using h)];omega
theorem zm2 {W:World} {lo E sz n g cap:Nat} {xs:List Value} (h:W.ownsRow lo E sz (.slice (some ⟨g,0,none⟩) n cap) n xs) (i:Nat) (hi:i < n*sz) (u:Value):(W.setCell ⟨g,i,none⟩ u).ownsRow lo E sz (.slice (some ⟨g,0,none⟩) n cap) n (xs.set i u):=by
 refine ⟨by rw [List.length_set];exact h.1, ?_⟩
 rcases h.2 with ⟨e,_⟩ | ⟨g',cap',cur,e,hb,hg,hc,hm,hcs,hx⟩
 ·cases e
 ·injection e with e1 e2 e3
  injection e1 with e1
  injection e1 with e1
  subst e1 e3
  have b:=(show Blk W g cur E from hg).set i u
  refine .inr ⟨g,cap,_,rfl,hb,b,hc,hm,by rw [Array.size_setIfInBounds];exact hcs, ?_⟩
  rw [Array.toList_setIfInBounds,List.take_set,hx]
def RowC (W:World) (hi:Nat) (a:Option Addr) (xs:List Value):Prop:=0 < xs.length→∃ g o,a=some ⟨g,o,none⟩∧g < hi∧∀ j u,xs[j]?=some u→W.cell? ⟨g,o+j,none⟩=some u
theorem zfV (l:List (Int × Int)) (j:Nat) (x:Int × Int) (h:l[j]?=some x):(zaW l)[j*2]?=some (.int .i32 x.1)∧(zaW l)[j*2+1]?=some (.int .i32 x.2):=by
 induction l generalizing j with
 | nil =>simp at h
 | cons y l ih =>cases j with
  | zero =>obtain rfl:=Option.some.inj h;exact ⟨rfl,rfl⟩
  | succ j =>have:=ih j (by simpa using h);rw [show (j+1)*2=j*2+1+1 by omega];exact this
theorem zeY (t:List (Int × Int × Int)):(zdb t).length=t.length*3:=by
 induction t with
 | nil =>rfl
 | cons x t ih =>show (zdb t).length+1+1+1=(t.length+1)*3;omega
theorem zdH (l:List (Int × Int × Int)) (j:Nat) (x:Int × Int × Int) (h:l[j]?=some x):(zdb l)[j*3]?=some (.int .i32 x.1)∧(zdb l)[j*3+1]?=some (.int .i32 x.2.1)∧(zdb l)[j*3+2]?=some (.int .i32 x.2.2):=by
 induction l generalizing j with
 | nil =>simp at h
 | cons y l ih =>cases j with
  | zero =>obtain rfl:=Option.some.inj h;exact ⟨rfl,rfl,rfl⟩
  | succ j =>have:=ih j (by simpa using h);rw [show (j+1)*3=j*3+1+1+1 by omega];exact this
theorem zgx (t:List (Int × Int)):(zdO t).length=t.length*2:=by
 induction t with
 | nil =>rfl
 | cons x t ih =>show (zdO t).length+1+1=(t.length+1)*2;omega
theorem zgW (l:List (Int × Int)) (j:Nat) (x:Int × Int) (h:l[j]?=some x):(zdO l)[j*2]?=some (.int .i32 x.1)∧(zdO l)[j*2+1]?=some (.int .i64 x.2):=by
 induction l generalizing j with
 | nil =>simp at h
 | cons y l ih =>cases j with
  | zero =>obtain rfl:=Option.some.inj h;exact ⟨rfl,rfl⟩
  | succ j =>have:=ih j (by simpa using h);rw [show (j+1)*2=j*2+1+1 by omega];exact this
theorem zjB (t:List (ByteArray × List (Int × Int))) (us:List Value) (h:us.length=t.length) (j:Nat) (x:ByteArray × List (Int × Int)) (hx:t[j]?=some x):(zbB t us)[j*2]?=some (.string x.1):=by
 induction t generalizing us j with
 | nil =>simp at hx
 | cons y t ih =>cases us with
  | nil =>cases h
  | cons v us =>cases j with
   | zero =>obtain rfl:=Option.some.inj hx;rfl
   | succ j =>have:=ih us (by simpa using h) j (by simpa using hx);rw [show (j+1)*2=j*2+1+1 by omega];exact this
theorem zeZ (t:List (Int × ByteArray)):(zbo t).length=t.length*2:=by
 induction t with
 | nil =>rfl
 | cons x t ih =>show (zbo t).length+1+1=(t.length+1)*2;omega
theorem zet (l:List (Int × ByteArray)) (j:Nat) (x:Int × ByteArray) (h:l[j]?=some x):(zbo l)[j*2]?=some (.int .i32 x.1)∧(zbo l)[j*2+1]?=some (.string x.2):=by
 induction l generalizing j with
 | nil =>simp at h
 | cons y l ih =>cases j with
  | zero =>obtain rfl:=Option.some.inj h;exact ⟨rfl,rfl⟩
  | succ j =>have:=ih j (by simpa using h);rw [show (j+1)*2=j*2+1+1 by omega];exact this
structure TabIn (W:World) (T:TV) (a0 a1 a2 a3 a4 a5 a6 a7:Option Addr) (us:List Value):Prop where
 lu:us.length=T.sc.length
 r0:RowC W W.heap.size a0 (zbB T.sc us)
 r1:RowC W W.heap.size a1 (zaW T.co)
 r2:RowC W W.heap.size a2 (zdO T.ma)
 r3:RowC W W.heap.size a3 (zdb T.pr)
 r4:RowC W W.heap.size a4 (zbo T.fo)
 r5:RowC W W.heap.size a5 (zbo T.lk)
 r6:RowC W W.heap.size a6 (zaW T.dr)
 r7:RowC W W.heap.size a7 (zaW T.al)
 rs:∀ (j:Nat) (x:ByteArray × List (Int × Int)) (u:Value),T.sc[j]?=some x→us[j]?=some u→∃ b d,u=.slice b x.2.length d∧RowC W W.heap.size b (zaW x.2)
structure zgL (T:TV):Prop where
 n0:T.sc.length≤1000000
 n1:T.co.length≤1000000
 n2:T.ma.length≤1000000
 n3:T.pr.length≤1000000
 n4:T.fo.length≤1000000
 n5:T.lk.length≤1000000
 n6:T.dr.length≤1000000
 n7:T.al.length≤1000000
 z0:∀ x ∈ T.sc,x.1.size≤maxLen∧x.2.length≤1000000
 z2:∀ x ∈ T.ma, -9223372036854775808≤x.2∧x.2≤9223372036854775807
 z4:∀ x ∈ T.fo,x.2.size≤maxLen
 z5:∀ x ∈ T.lk,x.2.size≤maxLen
theorem RowC.below {W W':World} {hi hi':Nat} {a:Option Addr} {xs:List Value} (h:RowC W hi a xs) (hb:Below hi W W') (hl:hi≤hi'):RowC W' hi' a xs:=by
 intro h0
 obtain ⟨g,o,h1,h2,h3⟩:=h h0
 exact ⟨g,o,h1,by omega,fun j u hu =>(hb.cell (p:=⟨g,o+j,none⟩) h2).trans (h3 j u hu)⟩
def zmG (T:TV) (a0 a1 a2 a3 a4 a5 a6 a7:Option Addr) (c0 c1 c2 c3 c4 c5 c6 c7:Nat):Array Value:=#[.slice a0 T.sc.length c0,.slice a1 T.co.length c1,.slice a2 T.ma.length c2,.slice a3 T.pr.length c3,.slice a4 T.fo.length c4,.slice a5 T.lk.length c5,.slice a6 T.dr.length c6,.slice a7 T.al.length c7]
theorem TabIn.lower {W W':World} {T:TV} {a0 a1 a2 a3 a4 a5 a6 a7:Option Addr} {us:List Value} (h:TabIn W T a0 a1 a2 a3 a4 a5 a6 a7 us) (hb:Below W.heap.size W W'):TabIn W' T a0 a1 a2 a3 a4 a5 a6 a7 us :=
 ⟨h.lu,h.r0.below hb hb.size,h.r1.below hb hb.size,h.r2.below hb hb.size,h.r3.below hb hb.size,h.r4.below hb hb.size,h.r5.below hb hb.size,h.r6.below hb hb.size,h.r7.below hb hb.size,fun j x u hx hu =>by
  obtain ⟨b,d,e,hr⟩:=h.rs j x u hx hu
  exact ⟨b,d,e,hr.below hb hb.size⟩⟩
def scN (l:List (ByteArray × List (Int × Int))):Nat:=(l.map (fun x =>x.2.length+1)).foldr (· + ·) 0
def zn6 (T:TV):Nat:=T.co.length+T.ma.length+T.pr.length+T.fo.length+T.lk.length+T.dr.length+T.al.length
def zgt (T:TV):Bool:=decide (6000 < zn6 T+scN (T.sc.take 200)) || decide (100 < T.sc.length)
theorem zqs (a b:List (ByteArray × List (Int × Int))):scN (a++b)=scN a+scN b:=by
 induction a with
 | nil =>show scN b=0+scN b;omega
 | cons x a ih =>show x.2.length+1+scN (a++b)=x.2.length+1+scN a+scN b;rw [ih];omega
theorem zpV {n:Nat}:∀ (l:List (ByteArray × List (Int × Int))),(∀ x ∈ l,x.2.length≤n)→scN l≤l.length*(n+1)
 | [],_ =>Nat.zero_le _
 | x::l,h =>by
  have h1:=h x (List.mem_cons_self ..)
  have h2:=zpV l (fun y hy =>h y (List.mem_cons_of_mem _ hy))
  show x.2.length+1+scN l≤(l.length+1)*(n+1)
  rw [Nat.succ_mul]
  omega
theorem zmL:∀ (l:List (ByteArray × List (Int × Int))) (x:ByteArray × List (Int × Int)),x ∈ l→x.2.length≤scN l
 | [],x,h =>by cases h
 | y::l,x,h =>by
  show x.2.length≤y.2.length+1+scN l
  rcases List.mem_cons.1 h with rfl | h
  ·omega
  ·have:=zmL l x h;omega
structure TabB (T:TV):Prop where
 n0:T.sc.length≤1048576
 n1:T.co.length≤1048576
 n2:T.ma.length≤1048576
 n3:T.pr.length≤1048576
 n4:T.fo.length≤1048576
 n5:T.lk.length≤1048576
 n6:T.dr.length≤1048576
 n7:T.al.length≤1048576
 z0:∀ x ∈ T.sc,x.1.size≤1048576∧x.2.length≤1048576
 z2:∀ x ∈ T.ma, -9223372036854775808≤x.2∧x.2≤9223372036854775807
 z4:∀ x ∈ T.fo,x.2.size≤1048576
 z5:∀ x ∈ T.lk,x.2.size≤1048576
theorem TabB.ok {T:TV} (h:TabB T) (hl:zgt T=false):zgL T:=by
 unfold zgt at hl
 rw [Bool.or_eq_false_iff] at hl
 have h1:=of_decide_eq_false hl.1
 have h2:=of_decide_eq_false hl.2
 unfold zn6 at h1
 rw [List.take_of_length_le (by omega)] at h1
 refine ⟨by omega,by omega,by omega,by omega,by omega,by omega,by omega,by omega,fun x hx =>⟨?_, ?_⟩,h.z2,fun x hx =>?_,fun x hx =>?_⟩
 ·have:=(h.z0 x hx).1;unfold maxLen;omega
 ·have:=zmL T.sc x hx;omega
 ·have:=h.z4 x hx;unfold maxLen;omega
 ·have:=h.z5 x hx;unfold maxLen;omega
set_option maxRecDepth 100000 in
set_option maxHeartbeats 4000000 in
theorem znn (T:TV) (hT:TabB T) (a0 a1 a2 a3 a4 a5 a6 a7:Option Addr) (c0 c1 c2 c3 c4 c5 c6 c7:Nat) (us:List Value) (W:World) (hA:TabIn W T a0 a1 a2 a3 a4 a5 a6 a7 us) :
  Calls Tryz.prog 35 #[.agg (zmG T a0 a1 a2 a3 a4 a5 a6 a7 c0 c1 c2 c3 c4 c5 c6 c7)] W fun e w' =>e=.returned (.bool (zgt T))∧Below W.heap.size W w':=by
 have hB0:Below W.heap.size W (W.alloc (.cells (zmG T a0 a1 a2 a3 a4 a5 a6 a7 c0 c1 c2 c3 c4 c5 c6 c7) 28)):=(Below.refl _ W).alloc (Nat.le_refl _) _
 have bA:=Blk.new W (zmG T a0 a1 a2 a3 a4 a5 a6 a7 c0 c1 c2 c3 c4 c5 c6 c7) 28
 have HH:=kz (And.intro (hA.lower hB0) (And.intro hB0 bA))
 have HT:=kz hT
 have HV:Hz (zgt T=(decide (6000 < zn6 T+scN (T.sc.take 200)) || decide (100 < T.sc.length))):=kz rfl
 have hn0:=hT.n0
 have hn1:=hT.n1
 have hn2:=hT.n2
 have hn3:=hT.n3
 have hn4:=hT.n4
 have hn5:=hT.n5
 have hn6:=hT.n6
 have hn7:=hT.n7
 generalize zgt T=LB at *
 have z0:=bA.cell 0
 have z1:=bA.cell 1
 have z2:=bA.cell 2
 have z3:=bA.cell 3
 have z4:=bA.cell 4
 have z5:=bA.cell 5
 have z6:=bA.cell 6
 have z7:=bA.cell 7
 clear hA hB0 bA hT
 unfold zmG at *
 go_enter Tryz.func35,Tryz.ntmps35
 go_wp2_with fail
 generalize W.alloc (.cells #[.slice a0 T.sc.length c0,.slice a1 T.co.length c1,.slice a2 T.ma.length c2,.slice a3 T.pr.length c3,.slice a4 T.fo.length c4,.slice a5 T.lk.length c5,.slice a6 T.dr.length c6,.slice a7 T.al.length c7] 28)=w0 at *
 have HN0:Hz ((T.co.length:Int)+T.ma.length+T.pr.length+T.fo.length+T.lk.length+T.dr.length+T.al.length=((zn6 T+scN (T.sc.take 0):Nat):Int)):=kz (by unfold zn6;show _=((_+0:Nat):Int);omega)
 have hLN:zn6 T≤7340032:=by unfold zn6;omega
 generalize (T.co.length:Int)+T.ma.length+T.pr.length+T.fo.length+T.lk.length+T.dr.length+T.al.length=S0 at *
 clear hn1 hn2 hn3 hn4 hn5 hn6 hn7 z1 z2 z3 z4 z5 z6 z7
 go_loopw [3,4] (fun n i wr => ∃ (k m q:Nat),k≤T.sc.length∧k≤200∧n=.int .i64 m∧i=.int .i64 k∧Hz (m=zn6 T+scN (T.sc.take k))∧wr=w0.drewN q) (fun _ i _ =>200 - (intOf i).toNat)
 case atStart =>exact ⟨0,zn6 T+scN (T.sc.take 0),0,by omega,by omega,by rw [oz HN0],rfl,kz rfl,rfl⟩
 case round =>
  obtain ⟨k,m,q,hk,hk200,rfl,rfl,HM,rfl⟩:=hrel
  have hmle:m≤400000000:=by
   have h1:=zpV (n:=1048576) (T.sc.take k) (fun x hx =>((oz HT).z0 x (List.mem_of_mem_take hx)).2)
   rw [List.length_take] at h1
   have h2:=oz HM
   have h3:min k T.sc.length*(1048576+1)≤200*1048577:=Nat.mul_le_mul (by omega) (by omega)
   omega
  by_cases hkn:k < T.sc.length
  ·by_cases hk2:k < 200
   ·obtain ⟨x,hx⟩:∃ x,T.sc[k]?=some x:=⟨_,List.getElem?_eq_getElem hkn⟩
    obtain ⟨u,hu⟩:∃ u,us[k]?=some u:=⟨_,List.getElem?_eq_getElem (by rw [(oz HH).1.lu];exact hkn)⟩
    obtain ⟨g,o,rfl,hg,hc⟩:=(oz HH).1.r0 (by rw [zeW _ _ (oz HH).1.lu];omega)
    obtain ⟨q1,d1,rfl,r1⟩:=(oz HH).1.rs k x u hx hu
    have e1:w0.cell? ⟨g,o+k*2+1,none⟩=some (.slice q1 x.2.length d1):=by
     have h1:=hc (2*k+1) _ ((zdG T.sc us (oz HH).1.lu k).trans hu)
     rw [show o+(2*k+1)=o+k*2+1 by omega] at h1
     exact h1
    have hx2:x.2.length≤1048576:=((oz HT).z0 x (List.mem_of_getElem? hx)).2
    have HM2:Hz (m+1+x.2.length=zn6 T+scN (T.sc.take (k+1))):=kz (by
     rw [List.take_add_one,hx,zqs,oz HM]
     show _=_+(_+(x.2.length+1+0))
     omega)
    generalize x.2.length=xl at *
    have k1:(k:Int) < (T.sc.length:Int):=by omega
    have k2:(k:Int) < 200:=by omega
    have k3:((k:Nat):Int).toNat=k:=by omega
    clear hc hx hu r1
    go_wp2_with fail
    exact ⟨⟨k+1,m+1+xl,q,by omega,by omega,by first | rfl | (congr 1;omega),by first | rfl | (congr 1;omega),HM2,rfl⟩,by simp [intOf];omega⟩
   ·have k1:(k:Int) < (T.sc.length:Int):=by omega
    have k2:¬ (k:Int) < 200:=by omega
    have HMV:Hz (LB=(decide (6000 < m) || decide (100 < T.sc.length))):=kz (by rw [oz HV,oz HM,show k=200 by omega])
    clear HV HM
    have HW:Hz (Below W.heap.size W (w0.drewN q)):=kz (zgD (oz HH).2.1 q)
    by_cases q1:6000 < m
    ·have k4:(6000:Int) < (m:Int):=by omega
     go_wp2_with fail
     go_ret
     exact ⟨by rw [oz HMV,decide_eq_true q1];rfl,oz HW⟩
    ·have k4:¬ (6000:Int) < (m:Int):=by omega
     by_cases q2:100 < T.sc.length
     ·have k5:(100:Int) < (T.sc.length:Int):=by omega
      go_wp2_with fail
      go_ret
      exact ⟨by rw [oz HMV,decide_eq_false q1,decide_eq_true q2];first | rfl | simp [k5],oz HW⟩
     ·exact absurd (show 100 < T.sc.length by omega) q2
  ·have k1:¬ (k:Int) < (T.sc.length:Int):=by omega
   have HMV:Hz (LB=(decide (6000 < m) || decide (100 < T.sc.length))):=kz (by rw [oz HV,oz HM,List.take_of_length_le (show T.sc.length≤k by omega),List.take_of_length_le (show T.sc.length≤200 by omega)])
   clear HV HM
   have HW:Hz (Below W.heap.size W (w0.drewN q)):=kz (zgD (oz HH).2.1 q)
   by_cases q1:6000 < m
   ·have k4:(6000:Int) < (m:Int):=by omega
    go_wp2_with fail
    go_ret
    exact ⟨by rw [oz HMV,decide_eq_true q1];rfl,oz HW⟩
   ·have k4:¬ (6000:Int) < (m:Int):=by omega
    by_cases q2:100 < T.sc.length
    ·have k5:(100:Int) < (T.sc.length:Int):=by omega
     go_wp2_with fail
     go_ret
     exact ⟨by rw [oz HMV,decide_eq_false q1,decide_eq_true q2];first | rfl | simp [k5],oz HW⟩
    ·have k5:¬ (100:Int) < (T.sc.length:Int):=by omega
     go_wp2_with fail
     go_ret
     exact ⟨by rw [oz HMV,decide_eq_false q1,decide_eq_false q2];first | rfl | simp [k5],oz HW⟩

def zae (r:Int):Int:=if 57344≤r then r - 2048 else if 55296 < r then 55296 else r
def zaQ (n:Int):Int:=if 55296≤n then n+2048 else n
def zaq (n:Int):Bool:=decide (0≤n∧n≤1114111∧(n < 55296∨57343 < n))
theorem zdd (z:Int):(zaA z == 0) = !zaq z:=by
 unfold zaA zaq
 repeat' split
 all_goals simp
 all_goals omega

theorem zdE (r:Int) (h0 : -2147483648≤r) (h1:r≤2147483647) (w:World):Calls Tryz.prog 202 #[.int .i32 r] w fun e w' =>e=.returned (.int .i64 (zae r))∧w'=w:=by
 by_cases a:57344≤r
 ·have h:zae r=r - 2048:=by unfold zae;rw [if_pos a]
  rw [h]
  go_enter Tryz.func202,Tryz.ntmps202
  go_wp2
  go_ret
  exact ⟨rfl,rfl⟩
 ·by_cases b:55296 < r
  ·have h:zae r=55296:=by unfold zae;rw [if_neg a,if_pos b]
   rw [h]
   go_enter Tryz.func202,Tryz.ntmps202
   go_wp2
   go_ret
   exact ⟨rfl,rfl⟩
  ·have h:zae r=r:=by unfold zae;rw [if_neg a,if_neg b]
   rw [h]
   go_enter Tryz.func202,Tryz.ntmps202
   go_wp2
   go_ret
   exact ⟨rfl,rfl⟩

theorem zfb (n:Int) (h0:0≤n) (h1:n≤1112063) (w:World):Calls Tryz.prog 217 #[.int .i64 n] w fun e w' =>e=.returned (.int .i32 (zaQ n))∧w'=w:=by
 by_cases a:55296≤n
 ·have h:zaQ n=n+2048:=by unfold zaQ;rw [if_pos a]
  rw [h]
  go_enter Tryz.func217,Tryz.ntmps217
  go_wp2
  go_ret
  exact ⟨rfl,rfl⟩
 ·have h:zaQ n=n:=by unfold zaQ;rw [if_neg a]
  rw [h]
  go_enter Tryz.func217,Tryz.ntmps217
  go_wp2
  go_ret
  exact ⟨rfl,rfl⟩

abbrev zn4 (x:Int × Int):Value := .agg #[.int .i32 x.1,.int .i32 x.2]
def za8 (x:Int × Int):Bool:=zaq x.1 && zaq x.2

theorem zhk (x:Int × Int) (w:World):Calls Tryz.prog 182 #[zn4 x] w fun e w' =>e=.returned (.bool (!za8 x))∧Below w.heap.size w w':=by
 obtain ⟨lo,hi⟩:=x
 have b:=Blk.new w #[.int .i32 lo,.int .i32 hi] 113
 have c0:=b.cell 0
 have c1:=b.cell 1
 have HB:=kz ((Below.refl w.heap.size w).alloc (Nat.le_refl _) (.cells #[.int .i32 lo,.int .i32 hi] 113))
 have e0:=zdd lo
 have e1:=zdd hi
 clear b
 show Calls Tryz.prog 182 #[.agg #[.int .i32 lo,.int .i32 hi]] w _
 cases hl:zaq lo with
 | false =>
  have HE:Hz ((!za8 (lo,hi))=true):=kz (by simp [za8,hl])
  rw [hl] at e0
  have e0':(zaA lo == 0)=true:=e0
  clear hl e0
  go_enter Tryz.func182,Tryz.ntmps182
  go_wp2_with (go_at_call 66;refine (zbF _ _).mono ?_;rintro e w' ⟨rfl,rfl⟩)
  go_ret
  exact ⟨by rw [oz HE];rfl,oz HB⟩
 | true =>
  have HE:Hz ((!za8 (lo,hi)) = !zaq hi):=kz (by simp [za8,hl])
  rw [hl] at e0
  have e0':(zaA lo == 0)=false:=e0
  clear hl e0
  generalize zaq hi=q at *
  go_enter Tryz.func182,Tryz.ntmps182
  go_wp2_with (go_at_call 66;refine (zbF _ _).mono ?_;rintro e w' ⟨rfl,rfl⟩)
  go_ret
  exact ⟨by rw [oz HE];rfl,oz HB⟩

theorem zfv (x:Int × Int) (w:World):Calls Tryz.prog 183 #[zn4 x] w fun e w' =>e=.returned (.bool (decide (x.2 < x.1)))∧Below w.heap.size w w':=by
 obtain ⟨lo,hi⟩:=x
 have b:=Blk.new w #[.int .i32 lo,.int .i32 hi] 113
 have c0:=b.cell 0
 have c1:=b.cell 1
 have HB:=kz ((Below.refl w.heap.size w).alloc (Nat.le_refl _) (.cells #[.int .i32 lo,.int .i32 hi] 113))
 clear b
 show Calls Tryz.prog 183 #[.agg #[.int .i32 lo,.int .i32 hi]] w _
 go_enter Tryz.func183,Tryz.ntmps183
 go_wp2
 go_ret
 exact ⟨rfl,oz HB⟩

def zbi (x:Int × Int):Int:=if za8 x then (if x.2 < x.1 then 11 else 0) else 12

theorem below_drewN {B:Nat} {a w:World} (h:Below B a w) (n:Nat):Below B a (w.drewN n):=h.trans ⟨rfl,rfl,rfl,Nat.le_refl _,fun _ _ =>rfl⟩
def RowP (W:World) (a:Option Addr) (zs:List (Int × Int)):Prop:=0 < zs.length→∃ g o,a=some ⟨g,o,none⟩∧g < W.heap.size∧∀ j x,zs[j]?=some x→W.cell? ⟨g,o+j*2,none⟩=some (.int .i32 x.1)∧W.cell? ⟨g,o+j*2+1,none⟩=some (.int .i32 x.2)
theorem RowP.below {W W':World} {a:Option Addr} {zs:List (Int × Int)} (h:RowP W a zs) (hb:Below W.heap.size W W'):RowP W' a zs:=fun h0 =>by
 obtain ⟨g,o,ha,hg,hc⟩:=h h0
 have:=hb.size
 exact ⟨g,o,ha,by omega,fun j x hj =>⟨(hb.cell (p:=⟨g,o+j*2,none⟩) hg).trans (hc j x hj).1,(hb.cell (p:=⟨g,o+j*2+1,none⟩) hg).trans (hc j x hj).2⟩⟩

def zaV (zs:List (Int × Int)) (j:Nat):Int :=
 if zbi (zs.getD j (0,0))≠0 then zbi (zs.getD j (0,0)) else if 0 < j∧(zs.getD j (0,0)).1≤(zs.getD (j - 1) (0,0)).2 then 13 else 0
def zhZ (zs:List (Int × Int)):Value:=match (List.range zs.length).find? (fun j =>zaV zs j != 0) with
 | some j =>.tuple #[.int .i64 j,.int .i64 (zaV zs j)]
 | none =>.tuple #[.int .i64 0,.int .i64 0]
theorem ze9 (zs:List (Int × Int)) (k:Nat) (hk:k < zs.length) (h0:∀ i,i < k→zaV zs i=0) (h1:zaV zs k≠0):zhZ zs=.tuple #[.int .i64 k,.int .i64 (zaV zs k)]:=by
 have:(List.range zs.length).find? (fun j =>zaV zs j != 0)=some k:=by
  rw [List.find?_range_eq_some]
  exact ⟨by simpa using h1,by simpa using hk,fun j hj =>by simp [h0 j hj]⟩
 unfold zhZ
 rw [this]
theorem zji (zs:List (Int × Int)) (h0:∀ i,i < zs.length→zaV zs i=0):zhZ zs=.tuple #[.int .i64 0,.int .i64 0]:=by
 have:(List.range zs.length).find? (fun j =>zaV zs j != 0)=none:=by
  rw [List.find?_eq_none]
  intro j hj
  simp [h0 j (by simpa using hj)]
 unfold zhZ
 rw [this]

set_option maxRecDepth 100000 in
set_option maxHeartbeats 4000000 in
theorem zjh (a:Option Addr) (cap:Nat) (zs:List (Int × Int)) (hz:zs.length≤1073741824) (w:World) (hr:RowP w a zs) :
  Calls Tryz.prog 170 #[.slice a zs.length cap] w fun e w' =>e=.returned (zhZ zs)∧Below w.heap.size w w':=by
 have HR:=kz hr
 have hzi:(zs.length:Int)≤1073741824:=by omega
 clear hr
 go_enter Tryz.func170,Tryz.ntmps170
 go_wp2
 go_loopw [8] (fun i wr => ∃ k:Nat,i=.int .i64 k∧k≤zs.length∧Hz (∀ i,i < k→zaV zs i=0)∧Hz (Below w.heap.size w wr)) (fun i _ =>zs.length - (intOf i).toNat)
 case atStart =>exact ⟨0,rfl,by omega,kz (fun i hi =>by omega),kz (Below.refl _ _)⟩
 case round =>
  obtain ⟨k,rfl,hk,HZ,HB⟩:=hrel
  by_cases hkn:k < zs.length
  ·have hk1:(k:Int) < (zs.length:Int):=by omega
   have hk2:((k:Nat):Int).toNat=k:=by omega
   obtain ⟨x,hx⟩:∃ x,zs[k]?=some x:=⟨_,List.getElem?_eq_getElem hkn⟩
   have hgd:zs.getD k (0,0)=x:=by simp [List.getD,hx]
   obtain ⟨g,o,rfl,hg,hc⟩:=oz HR (by omega)
   have c0:=((oz HB).cell (p:=⟨g,o+k*2,none⟩) hg).trans (hc k x hx).1
   have c1:=((oz HB).cell (p:=⟨g,o+k*2+1,none⟩) hg).trans (hc k x hx).2
   have HN:=kz (fun w =>zhk x w)
   have HFa:=kz (fun w =>zfv x w)
   obtain ⟨lo,hi⟩:=x
   simp only at c0 c1
   have b1:=Blk.new wr #[.int .i32 lo,.int .i32 hi] 113
   have q0:=b1.cell 0
   have q1:=b1.cell 1
   have HB1:=kz ((oz HB).alloc (oz HB).size (.cells #[.int .i32 lo,.int .i32 hi] 113))
   have HBl:=kz b1
   clear b1
   cases he:za8 (lo,hi) with
   | false =>
    have HBR:Hz (zaV zs k=12):=kz (by unfold zaV zbi;rw [hgd];simp [he])
    have HV:=kz (ze9 zs k hkn (oz HZ) (by rw [oz HBR];decide))
    rw [he] at HN
    clear he hgd hc
    go_wp2_with fail
    refine (oz HN _).mono ?_
    rintro e w2 ⟨rfl,hb⟩
    have HB2:=kz ((oz HB1).trans (hb.mono (oz HB1).size))
    clear hb
    go_wp2
    go_ret2
    exact ⟨by rw [oz HV,oz HBR];rfl,oz HB2⟩
   | true =>
    rw [he] at HN
    by_cases hfl:hi < lo
    ·have HBR:Hz (zaV zs k=11):=kz (by unfold zaV zbi;rw [hgd];simp [he,hfl])
     have HV:=kz (ze9 zs k hkn (oz HZ) (by rw [oz HBR];decide))
     have hfd:decide (hi < lo)=true:=decide_eq_true hfl
     clear he hgd hc
     go_wp2_with fail
     refine (oz HN _).mono ?_
     rintro e w2 ⟨rfl,hb⟩
     have HB2:=kz ((oz HB1).trans (hb.mono (oz HB1).size))
     have b2:=(oz HBl).below hb (oz HBl).lt
     have r0:=b2.cell 0
     have r1:=b2.cell 1
     clear hb b2
     go_wp2_with fail
     refine (oz HFa _).mono ?_
     rintro e w3 ⟨rfl,hb⟩
     have HB3:=kz ((oz HB2).trans (hb.mono (oz HB2).size))
     clear hb
     simp only [hfd]
     go_wp2
     go_ret2
     exact ⟨by rw [oz HV,oz HBR];rfl,oz HB3⟩
    ·have hfd:decide (hi < lo)=false:=decide_eq_false hfl
     have hw:zbi (lo,hi)=0:=by unfold zbi;simp [he,hfl]
     by_cases hk0:k=0
     ·subst hk0
      simp only [Nat.zero_mul,Nat.add_zero] at c0 c1
      have HBR:Hz (zaV zs 0=0):=kz (by unfold zaV;rw [hgd,if_neg (by simp [hw])];simp)
      clear he hgd hc hw
      go_wp2_with fail
      refine (oz HN _).mono ?_
      rintro e w2 ⟨rfl,hb⟩
      have HB2:=kz ((oz HB1).trans (hb.mono (oz HB1).size))
      have b2:=(oz HBl).below hb (oz HBl).lt
      have r0:=b2.cell 0
      have r1:=b2.cell 1
      clear hb
      go_wp2_with fail
      refine (oz HFa _).mono ?_
      rintro e w3 ⟨rfl,hb⟩
      have HB3:=kz ((oz HB2).trans (hb.mono (oz HB2).size))
      clear hb b2
      simp only [hfd]
      go_wp2
      go_quiet (fail)
      go_wp2
      go_roundw
      case rel =>exact ⟨1,rfl,by omega,kz (fun i hi =>(show i=0 by omega) ▸ oz HBR),kz (below_drewN (oz HB3) _)⟩
      case measure =>simp [intOf];omega
     ·obtain ⟨m,rfl⟩:∃ m,k=m+1:=⟨k - 1,by omega⟩
      obtain ⟨y,hy⟩:∃ y,zs[m]?=some y:=⟨_,List.getElem?_eq_getElem (by omega)⟩
      have hgy:zs.getD m (0,0)=y:=by simp [List.getD,hy]
      have hcy:=(hc m y hy).2
      obtain ⟨plo,phi⟩:=y
      simp only at hcy
      have hbr:zaV zs (m+1)=if lo≤phi then 13 else 0:=by
       unfold zaV
       rw [hgd,if_neg (by simp [hw]),Nat.add_sub_cancel,hgy]
       simp
      have HBR:=kz hbr
      have hlt:=(oz HB).size
      have hm1:(m:Int) < (zs.length:Int):=by omega
      have hm2:((m:Nat):Int).toNat=m:=by omega
      have hm3:(m:Int)+1 < (zs.length:Int):=by omega
      have hm4:((m:Int)+1).toNat=m+1:=by omega
      have hm5:(m:Int)≤1073741824:=by omega
      have HCY:=kz hcy
      clear he hgd hc hw hbr hgy hy hcy
      go_wp2_with fail
      refine (oz HN _).mono ?_
      rintro e w2 ⟨rfl,hb⟩
      have HB2:=kz ((oz HB1).trans (hb.mono (oz HB1).size))
      have b2:=(oz HBl).below hb (oz HBl).lt
      have r0:=b2.cell 0
      have r1:=b2.cell 1
      clear hb
      go_wp2_with fail
      refine (oz HFa _).mono ?_
      rintro e w3 ⟨rfl,hb⟩
      have HB3:=kz ((oz HB2).trans (hb.mono (oz HB2).size))
      have b3:=b2.below hb b2.lt
      have s0:=b3.cell 0
      have d2:=((oz HB3).cell (p:=⟨g,o+m*2+1,none⟩) hg).trans (oz HCY)
      clear hb b2 b3 r0 r1 q0 q1
      simp only [hfd]
      by_cases hle:lo≤phi
      ·have HV:=kz (ze9 zs (m+1) hkn (oz HZ) (by rw [oz HBR,if_pos hle];decide))
       have HB13:Hz (zaV zs (m+1)=13):=kz (by rw [oz HBR,if_pos hle])
       go_wp2
       go_quiet (fail)
       go_wp2
       go_ret2
       exact ⟨by rw [oz HV,oz HB13];rfl,below_drewN (oz HB3) _⟩
      ·have HB0:Hz (zaV zs (m+1)=0):=kz (by rw [oz HBR,if_neg hle])
       go_wp2
       go_quiet (fail)
       go_wp2
       go_roundw
       case rel =>exact ⟨m+1+1,by go_num,by omega,kz (fun i hi =>by
        by_cases e:i=m+1
        ·subst e;exact oz HB0
        ·exact oz HZ i (by omega)),kz (below_drewN (oz HB3) _)⟩
       case measure =>simp [intOf];omega
  ·have hk1:¬ (k:Int) < (zs.length:Int):=by omega
   obtain rfl:k=zs.length:=by omega
   have HV:=kz (zji zs (oz HZ))
   go_wp2
   go_ret2
   exact ⟨by rw [oz HV];rfl,oz HB⟩
end Go.Proofs.YtmemedpoaocdkaaGreat
