/- Texts of this claim, one behind the other. -/
import Derived.Test.YtmemedpoaocdkaaGreatM2
import Derived.Laws.OwnMore
import Derived.Deep.AppendLies
import Derived.Deep.RegionLaw
import Derived.Lib.UnsafeStr
import Derived.Lib.Builder
import Derived.Lib.AppendStr
import Derived.Laws.Bits64b
import Derived.Test.YtmemedpoaocdkaaGreatShB
import Derived.ScopeJumps
import Derived.WalkMore
import Derived.Deep.RegionWith
import Derived.OwnWalk
import Derived.Test.YtmemedpoaocdkaaGreatShC
import Derived.Test.YtmemedpoaocdkaaGreatShK
import Derived.Test.YtmemedpoaocdkaaGreatShD
import Derived.Lib.ItoaLen
import Derived.Lib.AppendIntMem
import Derived.Test.YtmemedpoaocdkaaGreatShV
namespace Go.Proofs.YtmemedpoaocdkaaGreat
open Go.RowKit Go.Shelf
set_option linter.unusedVariables false
theorem zbA {a b c:World} {row:Option Nat} (h:a.grownBy b row) (k:b.grownBy c row):a.grownBy c row :=
 ⟨k.os.trans h.os,k.tape.trans h.tape,k.output.trans h.output,Nat.le_trans h.size k.size,fun i hi hn =>(k.block i (by have:=h.size;omega) hn).trans (h.block i hi hn)⟩
theorem zaO (W:World) (B i:Nat) (v:Value):W.grownBy (W.setCell ⟨B,i,none⟩ v) (some B):=⟨rfl,rfl,rfl,(KeepsWalks.setCell W _ _).size,fun k hk hn =>Below.heap_setCell W ⟨B,i,none⟩ _ k (fun e =>hn (by rw [e]))⟩
theorem zrW {W:World} {N:Nat} {a0 a1 a2 a3 a4 a5 a6 a7:Value} {ty:TypeId} (h:Blk W N #[a0,a1,a2,a3,a4,a5,a6,a7] ty) (v0 v1 v2 v3 v4 v5 v6 v7:Value):Blk ((((((((W.setCell ⟨N,0,none⟩ v0).setCell ⟨N,1,none⟩ v1).setCell ⟨N,2,none⟩ v2).setCell ⟨N,3,none⟩ v3).setCell ⟨N,4,none⟩ v4).setCell ⟨N,5,none⟩ v5).setCell ⟨N,6,none⟩ v6).setCell ⟨N,7,none⟩ v7) N #[v0,v1,v2,v3,v4,v5,v6,v7] ty:=by
 have h0:Blk (_:World) N #[v0,a1,a2,a3,a4,a5,a6,a7] ty:=h.set 0 v0
 have h1:Blk (_:World) N #[v0,v1,a2,a3,a4,a5,a6,a7] ty:=h0.set 1 v1
 have h2:Blk (_:World) N #[v0,v1,v2,a3,a4,a5,a6,a7] ty:=h1.set 2 v2
 have h3:Blk (_:World) N #[v0,v1,v2,v3,a4,a5,a6,a7] ty:=h2.set 3 v3
 have h4:Blk (_:World) N #[v0,v1,v2,v3,v4,a5,a6,a7] ty:=h3.set 4 v4
 have h5:Blk (_:World) N #[v0,v1,v2,v3,v4,v5,a6,a7] ty:=h4.set 5 v5
 have h6:Blk (_:World) N #[v0,v1,v2,v3,v4,v5,v6,a7] ty:=h5.set 6 v6
 have h7:Blk (_:World) N #[v0,v1,v2,v3,v4,v5,v6,v7] ty:=h6.set 7 v7
 exact h7
theorem zm4 (W:World) (N:Nat) (v0 v1 v2 v3 v4 v5 v6 v7:Value):W.grownBy ((((((((W.setCell ⟨N,0,none⟩ v0).setCell ⟨N,1,none⟩ v1).setCell ⟨N,2,none⟩ v2).setCell ⟨N,3,none⟩ v3).setCell ⟨N,4,none⟩ v4).setCell ⟨N,5,none⟩ v5).setCell ⟨N,6,none⟩ v6).setCell ⟨N,7,none⟩ v7) (some N) :=
 zbA (zbA (zbA (zbA (zbA (zbA (zbA (zaO W N 0 v0) (zaO _ N 1 v1)) (zaO _ N 2 v2)) (zaO _ N 3 v3)) (zaO _ N 4 v4)) (zaO _ N 5 v5)) (zaO _ N 6 v6)) (zaO _ N 7 v7)
theorem znv {W:World} {B:Nat} {cs cs':Array Value} {t t':TypeId} (h:Blk W B cs t) (h':Blk W B cs' t'):t=t':=by
 have:=h.symm.trans h'
 injection this with e
 injection e
theorem zcK {W W':World} {lo E sz n:Nat} {v:Value} {xs:List Value} {row:Option Nat} (h:W.ownsRow lo E sz v n xs) (hg:W.grownBy W' row) (hne:v.ownBlock=none∨v.ownBlock≠row):W'.ownsRow lo E sz v n xs:=by
 refine ⟨h.1, ?_⟩
 rcases h.2 with h2 | ⟨g,cap,cur,e,hb,h3,r⟩
 ·exact .inl h2
 ·refine .inr ⟨g,cap,cur,e,hb, ?_,r⟩
  subst e
  rw [hg.block g (Array.getElem?_eq_some_iff.1 h3).1 (by rcases hne with h4 | h4;exact absurd h4 (by simp [Value.ownBlock]);exact h4)]
  exact h3
theorem zkh {W:World} {base base' E E' sz sz' n n':Nat} {v v':Value} {xs xs':List Value} (h:W.ownsRow base E sz v n xs) (h':W.ownsRow base' E' sz' v' n' xs') (hE:E≠E'):v.ownBlock=none∨v.ownBlock≠v'.ownBlock:=by
 rcases h.2 with ⟨rfl,_⟩ | ⟨g,cap,cur,rfl,_,hg,_⟩
 ·exact .inl rfl
 ·refine .inr ?_
  rcases h'.2 with ⟨rfl,_⟩ | ⟨g',cap',cur',rfl,_,hg',_⟩
  ·simp [Value.ownBlock]
  ·simp only [Value.ownBlock]
   intro e
   have e:=Option.some.inj e
   subst e
   exact hE (znv (show Blk W g cur E from hg) (show Blk W g cur' E' from hg'))
theorem zbx {W:World} {lo E sz n:Nat} {v:Value} {xs:List Value} (h:W.ownsRow lo E sz v n xs):∀ k,v.ownBlock=some k→lo≤k:=by
 rcases h.2 with ⟨rfl,_⟩ | ⟨g,cap,cur,rfl,hl,hg,_⟩
 ·intro k e;simp [Value.ownBlock] at e
 ·intro k e;simp [Value.ownBlock] at e;omega
def zaQ:List (Int × Int)→List Value
 | [] => []
 | x::t =>.int .i32 x.1::.int .i32 x.2::zaQ t
structure Ln where
 E:Nat
 sz:Nat
 n:Nat
 xs:List Value
theorem zbS {W:World} {lo E sz n:Nat} {v:Value} {xs:List Value} (h:W.ownsRow lo E sz v n xs):∀ k,v.ownBlock=some k→k < W.heap.size:=by
 rcases h.2 with ⟨rfl,_⟩ | ⟨g,cap,cur,rfl,hl,hg,_⟩
 ·intro k e;simp [Value.ownBlock] at e
 ·intro k e;simp [Value.ownBlock] at e;subst e;exact (Array.getElem?_eq_some_iff.1 hg).1
theorem zas {W:World} {lo E sz n:Nat} {v:Value} {xs:List Value} (h:W.ownsRow lo E sz v n xs):∃ a c,v=.slice a n c:=by
 rcases h.2 with ⟨rfl,rfl⟩ | ⟨g,cap,cur,rfl,_⟩
 ·exact ⟨none,0,rfl⟩
 ·exact ⟨_,_,rfl⟩
theorem zfK {W W':World} {row:Option Nat} (h:Below W.heap.size W W'):W.grownBy W' row:=⟨h.os,h.tape,h.output,h.size,fun i hi _ =>h.block i hi⟩
theorem zek (t:List (Int × Int)):(zaQ t).length=t.length*2:=by
 induction t with
 | nil =>rfl
 | cons x t ih =>show (zaQ t).length+1+1=(t.length+1)*2;omega
theorem znf (t:List (Int × Int)):∀ u ∈ zaQ t,u.oneCell'=true:=by
 induction t with
 | nil =>intro u hu;cases hu
 | cons x t ih =>
  intro u hu
  rcases List.mem_cons.1 hu with rfl | hu
  ·rfl
  ·rcases List.mem_cons.1 hu with rfl | hu
   ·rfl
   ·exact ih u hu
theorem zoE {W:World} {lo E sz n:Nat} {v:Value} {xs:List Value} (h:W.ownsRow lo E sz v n xs) (h0:n=0→v=.slice none 0 0):(v=.slice none 0 0∧n=0∧xs=[])∨∃ g c,v=.slice (some ⟨g,0,none⟩) n c∧0 < n∧lo≤g∧n≤c∧∀ j u,xs[j]?=some u→W.cell? ((⟨g,0,none⟩:Addr).add j)=some u:=by
 by_cases hn:n=0
 ·subst hn
  exact .inl ⟨h0 rfl,rfl,by have:=h.1;rw [Nat.zero_mul] at this;exact List.length_eq_zero_iff.1 this⟩
 ·rcases h.2 with ⟨_,h2⟩ | ⟨g,cap,cur,rfl,hl,hg,hc,_,hcs,hx⟩
  ·exact absurd h2 hn
  ·refine .inr ⟨g,cap,rfl,by omega,hl,hc,fun j u hu =>?_⟩
   have hj:=(List.getElem?_eq_some_iff.1 hu).1
   rw [h.1] at hj
   rw [← hx,List.getElem?_take_of_lt hj] at hu
   have ea:(⟨g,0,none⟩:Addr).add j=⟨g,j,none⟩:=by cases j <;> simp [Addr.add]
   rw [ea]
   have b:Blk W g cur E:=hg
   rw [b.cell j, ← hu,Array.getElem?_toList]
theorem za0 {W:World} {lo lo' E sz n:Nat} {v:Value} {xs:List Value} (h:W.ownsRow lo E sz v n xs) (hl:lo'≤lo):W.ownsRow lo' E sz v n xs:=by
 refine ⟨h.1, ?_⟩
 rcases h.2 with h2 | ⟨g,cap,cur,e,hb,h3⟩
 ·exact .inl h2
 ·exact .inr ⟨g,cap,cur,e,by omega,h3⟩
theorem zdU {W W':World} {row:Option Nat} (h:Below W.heap.size W W'):W.grownBy W' row:=⟨h.os,h.tape,h.output,h.size,fun i hi _ =>h.block i hi⟩
def znk (l:List Int):List Value:=l.map (Value.int .i32)
theorem zp4:(Tryz.prog.info? 21).map (fun i =>(i.zero,i.size,i.bytes))=some (some (.int .i32 0),1,4):=by kernel_rfl
structure TV where
 sc:List (ByteArray × List (Int × Int))
 co:List (Int × Int)
 ma:List (Int × Int)
 pr:List (Int × Int × Int)
 fo:List (Int × ByteArray)
 lk:List (Int × ByteArray)
 dr:List (Int × Int)
 al:List (Int × Int)
 r1:List (Int × Int × Int)
 r2:List (Int × Int × Int)
 r3:List (Int × Int × Int)
 r4:List (Int × Int × Int)
 r5:List (Int × Int × Int)
 r6:List (Int × Int × Int)
 r7:List (Int × Int × Int)
 r8:List (Int × Int × Int)
def zdk:List (Int × Int)→List Value
 | [] => []
 | x::t =>.int .i32 x.1::.int .i64 x.2::zdk t
def zcL:List (Int × Int × Int)→List Value
 | [] => []
 | x::t =>.int .i32 x.1::.int .i32 x.2.1::.int .i32 x.2.2::zcL t
def zbl:List (Int × ByteArray)→List Value
 | [] => []
 | x::t =>.int .i32 x.1::.string x.2::zbl t
def zbG:List (ByteArray × List (Int × Int))→List Value→List Value
 | x::t,u::us =>.string x.1::u::zbG t us
 | _,_ => []
theorem znj (t:List (Int × Int)):∀ u ∈ zdk t,u.oneCell'=true:=by
 induction t with
 | nil =>intro u hu;cases hu
 | cons x t ih =>
  intro u hu
  rcases List.mem_cons.1 hu with rfl | hu
  ·rfl
  ·rcases List.mem_cons.1 hu with rfl | hu
   ·rfl
   ·exact ih u hu
theorem znl (t:List (Int × ByteArray)):∀ u ∈ zbl t,u.oneCell'=true:=by
 induction t with
 | nil =>intro u hu;cases hu
 | cons x t ih =>
  intro u hu
  rcases List.mem_cons.1 hu with rfl | hu
  ·rfl
  ·rcases List.mem_cons.1 hu with rfl | hu
   ·rfl
   ·exact ih u hu
theorem zni (t:List (Int × Int × Int)):∀ u ∈ zcL t,u.oneCell'=true:=by
 induction t with
 | nil =>intro u hu;cases hu
 | cons x t ih =>
  intro u hu
  rcases List.mem_cons.1 hu with rfl | hu
  ·rfl
  ·rcases List.mem_cons.1 hu with rfl | hu
   ·rfl
   ·rcases List.mem_cons.1 hu with rfl | hu
    ·rfl
    ·exact ih u hu
theorem zne (t:List (ByteArray × List (Int × Int))) (us:List Value) (hu:∀ u ∈ us,u.oneCell'=true):∀ u ∈ zbG t us,u.oneCell'=true:=by
 induction t generalizing us with
 | nil =>intro u h;cases us <;> cases h
 | cons x t ih =>cases us with
  | nil =>intro u h;cases h
  | cons v us =>
   intro u h
   rcases List.mem_cons.1 h with rfl | h
   ·rfl
   ·rcases List.mem_cons.1 h with rfl | h
    ·exact hu _ List.mem_cons_self
    ·exact ih us (fun y hy =>hu y (List.mem_cons_of_mem _ hy)) u h
theorem ze3 (t:List (ByteArray × List (Int × Int))) (us:List Value) (h:us.length=t.length) (j:Nat):(zbG t us)[2*j+1]?=us[j]?:=by
 induction t generalizing us j with
 | nil =>cases us with
  | nil =>simp [zbG]
  | cons v us =>cases h
 | cons x t ih =>cases us with
  | nil =>cases h
  | cons v us =>cases j with
   | zero =>rfl
   | succ j =>show (_::_::zbG t us)[2*j+1+2]?=_;rw [List.getElem?_cons_succ,List.getElem?_cons_succ,List.getElem?_cons_succ];exact ih us (by simpa using h) j
theorem znd (t:List (ByteArray × List (Int × Int))) (us:List Value) (h:us.length=t.length) (j:Nat) (v:Value):(zbG t us).set (2*j+1) v=zbG t (us.set j v):=by
 induction t generalizing us j with
 | nil =>cases us with
  | nil =>simp [zbG]
  | cons v us =>cases h
 | cons x t ih =>cases us with
  | nil =>cases h
  | cons u us =>cases j with
   | zero =>rfl
   | succ j =>show (_::_::zbG t us).set (2*j+1+2) v=_::_::zbG t (us.set j v);rw [List.set_cons_succ,List.set_cons_succ,ih us (by simpa using h) j]
theorem zej (t:List (ByteArray × List (Int × Int))) (us:List Value) (h:us.length=t.length):(zbG t us).length=t.length*2:=by
 induction t generalizing us with
 | nil =>cases us <;> rfl
 | cons x t ih =>cases us with
  | nil =>cases h
  | cons u us =>show (zbG t us).length+1+1=(t.length+1)*2;rw [ih us (by simpa using h)];omega
theorem zmy {W:World} {lo E sz n g cap:Nat} {xs:List Value} (h:W.ownsRow lo E sz (.slice (some ⟨g,0,none⟩) n cap) n xs) (i:Nat) (hi:i < n*sz) (u:Value):(W.setCell ⟨g,i,none⟩ u).ownsRow lo E sz (.slice (some ⟨g,0,none⟩) n cap) n (xs.set i u):=by
 refine ⟨by rw [List.length_set];exact h.1, ?_⟩
 rcases h.2 with ⟨e,_⟩ | ⟨g',cap',cur,e,hb,hg,hc,hm,hcs,hx⟩
 ·cases e
 ·injection e with e1 e2 e3
  injection e1 with e1
  injection e1 with e1
  subst e1 e3
  have b:=(show Blk W g cur E from hg).set i u
  refine .inr ⟨g,cap,_,rfl,hb,b,hc,hm,by rw [Array.size_setIfInBounds];exact hcs, ?_⟩
  rw [Array.toList_setIfInBounds,List.take_set,hx]
def RowC (W:World) (hi:Nat) (a:Option Addr) (xs:List Value):Prop:=0 < xs.length→∃ g o,a=some ⟨g,o,none⟩∧g < hi∧∀ j u,xs[j]?=some u→W.cell? ⟨g,o+j,none⟩=some u
theorem ze4 (l:List (Int × Int)) (j:Nat) (x:Int × Int) (h:l[j]?=some x):(zaQ l)[j*2]?=some (.int .i32 x.1)∧(zaQ l)[j*2+1]?=some (.int .i32 x.2):=by
 induction l generalizing j with
 | nil =>simp at h
 | cons y l ih =>cases j with
  | zero =>obtain rfl:=Option.some.inj h;exact ⟨rfl,rfl⟩
  | succ j =>have:=ih j (by simpa using h);rw [show (j+1)*2=j*2+1+1 by omega];exact this
theorem zel (t:List (Int × Int × Int)):(zcL t).length=t.length*3:=by
 induction t with
 | nil =>rfl
 | cons x t ih =>show (zcL t).length+1+1+1=(t.length+1)*3;omega
theorem zdf (l:List (Int × Int × Int)) (j:Nat) (x:Int × Int × Int) (h:l[j]?=some x):(zcL l)[j*3]?=some (.int .i32 x.1)∧(zcL l)[j*3+1]?=some (.int .i32 x.2.1)∧(zcL l)[j*3+2]?=some (.int .i32 x.2.2):=by
 induction l generalizing j with
 | nil =>simp at h
 | cons y l ih =>cases j with
  | zero =>obtain rfl:=Option.some.inj h;exact ⟨rfl,rfl,rfl⟩
  | succ j =>have:=ih j (by simpa using h);rw [show (j+1)*3=j*3+1+1+1 by omega];exact this
theorem zfH (t:List (Int × Int)):(zdk t).length=t.length*2:=by
 induction t with
 | nil =>rfl
 | cons x t ih =>show (zdk t).length+1+1=(t.length+1)*2;omega
theorem zf6 (l:List (Int × Int)) (j:Nat) (x:Int × Int) (h:l[j]?=some x):(zdk l)[j*2]?=some (.int .i32 x.1)∧(zdk l)[j*2+1]?=some (.int .i64 x.2):=by
 induction l generalizing j with
 | nil =>simp at h
 | cons y l ih =>cases j with
  | zero =>obtain rfl:=Option.some.inj h;exact ⟨rfl,rfl⟩
  | succ j =>have:=ih j (by simpa using h);rw [show (j+1)*2=j*2+1+1 by omega];exact this
theorem ziX (t:List (ByteArray × List (Int × Int))) (us:List Value) (h:us.length=t.length) (j:Nat) (x:ByteArray × List (Int × Int)) (hx:t[j]?=some x):(zbG t us)[j*2]?=some (.string x.1):=by
 induction t generalizing us j with
 | nil =>simp at hx
 | cons y t ih =>cases us with
  | nil =>cases h
  | cons v us =>cases j with
   | zero =>obtain rfl:=Option.some.inj hx;rfl
   | succ j =>have:=ih us (by simpa using h) j (by simpa using hx);rw [show (j+1)*2=j*2+1+1 by omega];exact this
theorem zem (t:List (Int × ByteArray)):(zbl t).length=t.length*2:=by
 induction t with
 | nil =>rfl
 | cons x t ih =>show (zbl t).length+1+1=(t.length+1)*2;omega
theorem zdR (l:List (Int × ByteArray)) (j:Nat) (x:Int × ByteArray) (h:l[j]?=some x):(zbl l)[j*2]?=some (.int .i32 x.1)∧(zbl l)[j*2+1]?=some (.string x.2):=by
 induction l generalizing j with
 | nil =>simp at h
 | cons y l ih =>cases j with
  | zero =>obtain rfl:=Option.some.inj h;exact ⟨rfl,rfl⟩
  | succ j =>have:=ih j (by simpa using h);rw [show (j+1)*2=j*2+1+1 by omega];exact this
structure TabIn (W:World) (T:TV) (a0 a1 a2 a3 a4 a5 a6 a7:Option Addr) (us:List Value):Prop where
 lu:us.length=T.sc.length
 r0:RowC W W.heap.size a0 (zbG T.sc us)
 r1:RowC W W.heap.size a1 (zaQ T.co)
 r2:RowC W W.heap.size a2 (zdk T.ma)
 r3:RowC W W.heap.size a3 (zcL T.pr)
 r4:RowC W W.heap.size a4 (zbl T.fo)
 r5:RowC W W.heap.size a5 (zbl T.lk)
 r6:RowC W W.heap.size a6 (zaQ T.dr)
 r7:RowC W W.heap.size a7 (zaQ T.al)
 rs:∀ (j:Nat) (x:ByteArray × List (Int × Int)) (u:Value),T.sc[j]?=some x→us[j]?=some u→∃ b d,u=.slice b x.2.length d∧RowC W W.heap.size b (zaQ x.2)
structure zfU (T:TV):Prop where
 n0:T.sc.length≤1000000
 n1:T.co.length≤1000000
 n2:T.ma.length≤1000000
 n3:T.pr.length≤1000000
 n4:T.fo.length≤1000000
 n5:T.lk.length≤1000000
 n6:T.dr.length≤1000000
 n7:T.al.length≤1000000
 z0:∀ x ∈ T.sc,x.1.size≤maxLen∧x.2.length≤1000000
 z2:∀ x ∈ T.ma, -9223372036854775808≤x.2∧x.2≤9223372036854775807
 z4:∀ x ∈ T.fo,x.2.size≤maxLen
 z5:∀ x ∈ T.lk,x.2.size≤maxLen
theorem RowC.below {W W':World} {hi hi':Nat} {a:Option Addr} {xs:List Value} (h:RowC W hi a xs) (hb:Below hi W W') (hl:hi≤hi'):RowC W' hi' a xs:=by
 intro h0
 obtain ⟨g,o,h1,h2,h3⟩:=h h0
 exact ⟨g,o,h1,by omega,fun j u hu =>(hb.cell (p:=⟨g,o+j,none⟩) h2).trans (h3 j u hu)⟩
def zop (T:TV) (a0 a1 a2 a3 a4 a5 a6 a7:Option Addr) (c0 c1 c2 c3 c4 c5 c6 c7:Nat):Array Value:=#[.slice a0 T.sc.length c0,.slice a1 T.co.length c1,.slice a2 T.ma.length c2,.slice a3 T.pr.length c3,.slice a4 T.fo.length c4,.slice a5 T.lk.length c5,.slice a6 T.dr.length c6,.slice a7 T.al.length c7]
theorem TabIn.lower {W W':World} {T:TV} {a0 a1 a2 a3 a4 a5 a6 a7:Option Addr} {us:List Value} (h:TabIn W T a0 a1 a2 a3 a4 a5 a6 a7 us) (hb:Below W.heap.size W W'):TabIn W' T a0 a1 a2 a3 a4 a5 a6 a7 us :=
 ⟨h.lu,h.r0.below hb hb.size,h.r1.below hb hb.size,h.r2.below hb hb.size,h.r3.below hb hb.size,h.r4.below hb hb.size,h.r5.below hb hb.size,h.r6.below hb hb.size,h.r7.below hb hb.size,fun j x u hx hu =>by
  obtain ⟨b,d,e,hr⟩:=h.rs j x u hx hu
  exact ⟨b,d,e,hr.below hb hb.size⟩⟩
set_option maxRecDepth 100000
set_option maxHeartbeats 8000000
def scN (l:List (ByteArray × List (Int × Int))):Nat:=(l.map (fun x =>x.2.length+1)).foldr (· + ·) 0
def znC (T:TV):Nat:=T.co.length+T.ma.length+T.pr.length+T.fo.length+T.lk.length+T.dr.length+T.al.length
def zfE (T:TV):Bool:=decide (6000 < znC T+scN (T.sc.take 200)) || decide (100 < T.sc.length)
theorem zpG (a b:List (ByteArray × List (Int × Int))):scN (a++b)=scN a+scN b:=by
 induction a with
 | nil =>show scN b=0+scN b;omega
 | cons x a ih =>show x.2.length+1+scN (a++b)=x.2.length+1+scN a+scN b;rw [ih];omega
theorem zpf {n:Nat}:∀ (l:List (ByteArray × List (Int × Int))),(∀ x ∈ l,x.2.length≤n)→scN l≤l.length*(n+1)
 | [],_ =>Nat.zero_le _
 | x::l,h =>by
  have h1:=h x (List.mem_cons_self ..)
  have h2:=zpf l (fun y hy =>h y (List.mem_cons_of_mem _ hy))
  show x.2.length+1+scN l≤(l.length+1)*(n+1)
  rw [Nat.succ_mul]
  omega
theorem zmf:∀ (l:List (ByteArray × List (Int × Int))) (x:ByteArray × List (Int × Int)),x ∈ l→x.2.length≤scN l
 | [],x,h =>by cases h
 | y::l,x,h =>by
  show x.2.length≤y.2.length+1+scN l
  rcases List.mem_cons.1 h with rfl | h
  ·omega
  ·have:=zmf l x h;omega
structure TabB (T:TV):Prop where
 n0:T.sc.length≤1048576
 n1:T.co.length≤1048576
 n2:T.ma.length≤1048576
 n3:T.pr.length≤1048576
 n4:T.fo.length≤1048576
 n5:T.lk.length≤1048576
 n6:T.dr.length≤1048576
 n7:T.al.length≤1048576
 z0:∀ x ∈ T.sc,x.1.size≤1048576∧x.2.length≤1048576
 z2:∀ x ∈ T.ma, -9223372036854775808≤x.2∧x.2≤9223372036854775807
 z4:∀ x ∈ T.fo,x.2.size≤1048576
 z5:∀ x ∈ T.lk,x.2.size≤1048576
theorem TabB.ok {T:TV} (h:TabB T) (hl:zfE T=false):zfU T:=by
 unfold zfE at hl
 rw [Bool.or_eq_false_iff] at hl
 have h1:=of_decide_eq_false hl.1
 have h2:=of_decide_eq_false hl.2
 unfold znC at h1
 rw [List.take_of_length_le (by omega)] at h1
 refine ⟨by omega,by omega,by omega,by omega,by omega,by omega,by omega,by omega,fun x hx =>⟨?_, ?_⟩,h.z2,fun x hx =>?_,fun x hx =>?_⟩
 ·have:=(h.z0 x hx).1;unfold maxLen;omega
 ·have:=zmf T.sc x hx;omega
 ·have:=h.z4 x hx;unfold maxLen;omega
 ·have:=h.z5 x hx;unfold maxLen;omega
theorem zmV (T:TV) (hT:TabB T) (a0 a1 a2 a3 a4 a5 a6 a7:Option Addr) (c0 c1 c2 c3 c4 c5 c6 c7:Nat) (us:List Value) (W:World) (hA:TabIn W T a0 a1 a2 a3 a4 a5 a6 a7 us) :
  Calls Tryz.prog 35 #[.agg (zop T a0 a1 a2 a3 a4 a5 a6 a7 c0 c1 c2 c3 c4 c5 c6 c7)] W fun e w' =>e=.returned (.bool (zfE T))∧Below W.heap.size W w':=by
 have hB0:Below W.heap.size W (W.alloc (.cells (zop T a0 a1 a2 a3 a4 a5 a6 a7 c0 c1 c2 c3 c4 c5 c6 c7) 28)):=(Below.refl _ W).alloc (Nat.le_refl _) _
 have bA:=Blk.new W (zop T a0 a1 a2 a3 a4 a5 a6 a7 c0 c1 c2 c3 c4 c5 c6 c7) 28
 have HH:=kz (And.intro (hA.lower hB0) (And.intro hB0 bA))
 have HT:=kz hT
 have HV:Hz (zfE T=(decide (6000 < znC T+scN (T.sc.take 200)) || decide (100 < T.sc.length))):=kz rfl
 have hn0:=hT.n0
 have hn1:=hT.n1
 have hn2:=hT.n2
 have hn3:=hT.n3
 have hn4:=hT.n4
 have hn5:=hT.n5
 have hn6:=hT.n6
 have hn7:=hT.n7
 generalize zfE T=LB at *
 have z0:=bA.cell 0
 have z1:=bA.cell 1
 have z2:=bA.cell 2
 have z3:=bA.cell 3
 have z4:=bA.cell 4
 have z5:=bA.cell 5
 have z6:=bA.cell 6
 have z7:=bA.cell 7
 clear hA hB0 bA hT
 unfold zop at *
 go_enter Tryz.func35,Tryz.ntmps35
 go_wp2_with fail
 generalize W.alloc (.cells #[.slice a0 T.sc.length c0,.slice a1 T.co.length c1,.slice a2 T.ma.length c2,.slice a3 T.pr.length c3,.slice a4 T.fo.length c4,.slice a5 T.lk.length c5,.slice a6 T.dr.length c6,.slice a7 T.al.length c7] 28)=w0 at *
 have HN0:Hz ((T.co.length:Int)+T.ma.length+T.pr.length+T.fo.length+T.lk.length+T.dr.length+T.al.length=((znC T+scN (T.sc.take 0):Nat):Int)):=kz (by unfold znC;show _=((_+0:Nat):Int);omega)
 have hLN:znC T≤7340032:=by unfold znC;omega
 generalize (T.co.length:Int)+T.ma.length+T.pr.length+T.fo.length+T.lk.length+T.dr.length+T.al.length=S0 at *
 clear hn1 hn2 hn3 hn4 hn5 hn6 hn7 z1 z2 z3 z4 z5 z6 z7
 go_loopw [3,4] (fun n i wr => ∃ (k m q:Nat),k≤T.sc.length∧k≤200∧n=.int .i64 m∧i=.int .i64 k∧Hz (m=znC T+scN (T.sc.take k))∧wr=w0.drewN q) (fun _ i _ =>200 - (intOf i).toNat)
 case atStart =>exact ⟨0,znC T+scN (T.sc.take 0),0,by omega,by omega,by rw [oz HN0],rfl,kz rfl,rfl⟩
 case round =>
  obtain ⟨k,m,q,hk,hk200,rfl,rfl,HM,rfl⟩:=hrel
  have hmle:m≤400000000:=by
   have h1:=zpf (n:=1048576) (T.sc.take k) (fun x hx =>((oz HT).z0 x (List.mem_of_mem_take hx)).2)
   rw [List.length_take] at h1
   have h2:=oz HM
   have h3:min k T.sc.length*(1048576+1)≤200*1048577:=Nat.mul_le_mul (by omega) (by omega)
   omega
  by_cases hkn:k < T.sc.length
  ·by_cases hk2:k < 200
   ·obtain ⟨x,hx⟩:∃ x,T.sc[k]?=some x:=⟨_,List.getElem?_eq_getElem hkn⟩
    obtain ⟨u,hu⟩:∃ u,us[k]?=some u:=⟨_,List.getElem?_eq_getElem (by rw [(oz HH).1.lu];exact hkn)⟩
    obtain ⟨g,o,rfl,hg,hc⟩:=(oz HH).1.r0 (by rw [zej _ _ (oz HH).1.lu];omega)
    obtain ⟨q1,d1,rfl,r1⟩:=(oz HH).1.rs k x u hx hu
    have e1:w0.cell? ⟨g,o+k*2+1,none⟩=some (.slice q1 x.2.length d1):=by
     have h1:=hc (2*k+1) _ ((ze3 T.sc us (oz HH).1.lu k).trans hu)
     rw [show o+(2*k+1)=o+k*2+1 by omega] at h1
     exact h1
    have hx2:x.2.length≤1048576:=((oz HT).z0 x (List.mem_of_getElem? hx)).2
    have HM2:Hz (m+1+x.2.length=znC T+scN (T.sc.take (k+1))):=kz (by
     rw [List.take_add_one,hx,zpG,oz HM]
     show _=_+(_+(x.2.length+1+0))
     omega)
    generalize x.2.length=xl at *
    have k1:(k:Int) < (T.sc.length:Int):=by omega
    have k2:(k:Int) < 200:=by omega
    have k3:((k:Nat):Int).toNat=k:=by omega
    clear hc hx hu r1
    go_wp2_with fail
    exact ⟨⟨k+1,m+1+xl,q,by omega,by omega,by first | rfl | (congr 1;omega),by first | rfl | (congr 1;omega),HM2,rfl⟩,by simp [intOf];omega⟩
   ·have k1:(k:Int) < (T.sc.length:Int):=by omega
    have k2:¬ (k:Int) < 200:=by omega
    have HMV:Hz (LB=(decide (6000 < m) || decide (100 < T.sc.length))):=kz (by rw [oz HV,oz HM,show k=200 by omega])
    clear HV HM
    have HW:Hz (Below W.heap.size W (w0.drewN q)):=kz (zfL (oz HH).2.1 q)
    by_cases q1:6000 < m
    ·have k4:(6000:Int) < (m:Int):=by omega
     go_wp2_with fail
     go_ret
     exact ⟨by rw [oz HMV,decide_eq_true q1];rfl,oz HW⟩
    ·have k4:¬ (6000:Int) < (m:Int):=by omega
     by_cases q2:100 < T.sc.length
     ·have k5:(100:Int) < (T.sc.length:Int):=by omega
      go_wp2_with fail
      go_ret
      exact ⟨by rw [oz HMV,decide_eq_false q1,decide_eq_true q2];first | rfl | simp [k5],oz HW⟩
     ·exact absurd (show 100 < T.sc.length by omega) q2
  ·have k1:¬ (k:Int) < (T.sc.length:Int):=by omega
   have HMV:Hz (LB=(decide (6000 < m) || decide (100 < T.sc.length))):=kz (by rw [oz HV,oz HM,List.take_of_length_le (show T.sc.length≤k by omega),List.take_of_length_le (show T.sc.length≤200 by omega)])
   clear HV HM
   have HW:Hz (Below W.heap.size W (w0.drewN q)):=kz (zfL (oz HH).2.1 q)
   by_cases q1:6000 < m
   ·have k4:(6000:Int) < (m:Int):=by omega
    go_wp2_with fail
    go_ret
    exact ⟨by rw [oz HMV,decide_eq_true q1];rfl,oz HW⟩
   ·have k4:¬ (6000:Int) < (m:Int):=by omega
    by_cases q2:100 < T.sc.length
    ·have k5:(100:Int) < (T.sc.length:Int):=by omega
     go_wp2_with fail
     go_ret
     exact ⟨by rw [oz HMV,decide_eq_false q1,decide_eq_true q2];first | rfl | simp [k5],oz HW⟩
    ·have k5:¬ (100:Int) < (T.sc.length:Int):=by omega
     go_wp2_with fail
     go_ret
     exact ⟨by rw [oz HMV,decide_eq_false q1,decide_eq_false q2];first | rfl | simp [k5],oz HW⟩
def zae (r:Int):Int:=if 57344≤r then r - 2048 else if 55296 < r then 55296 else r
def zaM (n:Int):Int:=if 55296≤n then n+2048 else n
def zan (n:Int):Bool:=decide (0≤n∧n≤1114111∧(n < 55296∨57343 < n))
theorem zcg (z:Int):(zag z == 0) = !zan z:=by
 unfold zag zan
 repeat' split
 all_goals simp
 all_goals omega
theorem zdb (r:Int) (h0 : -2147483648≤r) (h1:r≤2147483647) (w:World):Calls Tryz.prog 202 #[.int .i32 r] w fun e w' =>e=.returned (.int .i64 (zae r))∧w'=w:=by
 by_cases a:57344≤r
 ·have h:zae r=r - 2048:=by unfold zae;rw [if_pos a]
  rw [h]
  go_enter Tryz.func202,Tryz.ntmps202
  go_wp2
  go_ret
  exact ⟨rfl,rfl⟩
 ·by_cases b:55296 < r
  ·have h:zae r=55296:=by unfold zae;rw [if_neg a,if_pos b]
   rw [h]
   go_enter Tryz.func202,Tryz.ntmps202
   go_wp2
   go_ret
   exact ⟨rfl,rfl⟩
  ·have h:zae r=r:=by unfold zae;rw [if_neg a,if_neg b]
   rw [h]
   go_enter Tryz.func202,Tryz.ntmps202
   go_wp2
   go_ret
   exact ⟨rfl,rfl⟩
theorem zet (n:Int) (h0:0≤n) (h1:n≤1112063) (w:World):Calls Tryz.prog 217 #[.int .i64 n] w fun e w' =>e=.returned (.int .i32 (zaM n))∧w'=w:=by
 by_cases a:55296≤n
 ·have h:zaM n=n+2048:=by unfold zaM;rw [if_pos a]
  rw [h]
  go_enter Tryz.func217,Tryz.ntmps217
  go_wp2
  go_ret
  exact ⟨rfl,rfl⟩
 ·have h:zaM n=n:=by unfold zaM;rw [if_neg a]
  rw [h]
  go_enter Tryz.func217,Tryz.ntmps217
  go_wp2
  go_ret
  exact ⟨rfl,rfl⟩
abbrev znA (x:Int × Int):Value := .agg #[.int .i32 x.1,.int .i32 x.2]
def za6 (x:Int × Int):Bool:=zan x.1 && zan x.2
theorem zgw (x:Int × Int) (w:World):Calls Tryz.prog 182 #[znA x] w fun e w' =>e=.returned (.bool (!za6 x))∧Below w.heap.size w w':=by
 obtain ⟨lo,hi⟩:=x
 have b:=Blk.new w #[.int .i32 lo,.int .i32 hi] 113
 have c0:=b.cell 0
 have c1:=b.cell 1
 have HB:=kz ((Below.refl w.heap.size w).alloc (Nat.le_refl _) (.cells #[.int .i32 lo,.int .i32 hi] 113))
 have e0:=zcg lo
 have e1:=zcg hi
 clear b
 show Calls Tryz.prog 182 #[.agg #[.int .i32 lo,.int .i32 hi]] w _
 cases hl:zan lo with
 | false =>
  have HE:Hz ((!za6 (lo,hi))=true):=kz (by simp [za6,hl])
  rw [hl] at e0
  have e0':(zag lo == 0)=true:=e0
  clear hl e0
  go_enter Tryz.func182,Tryz.ntmps182
  go_wp2_with (go_at_call 66;refine (zbf _ _).mono ?_;rintro e w' ⟨rfl,rfl⟩)
  go_ret
  exact ⟨by rw [oz HE];rfl,oz HB⟩
 | true =>
  have HE:Hz ((!za6 (lo,hi)) = !zan hi):=kz (by simp [za6,hl])
  rw [hl] at e0
  have e0':(zag lo == 0)=false:=e0
  clear hl e0
  generalize zan hi=q at *
  go_enter Tryz.func182,Tryz.ntmps182
  go_wp2_with (go_at_call 66;refine (zbf _ _).mono ?_;rintro e w' ⟨rfl,rfl⟩)
  go_ret
  exact ⟨by rw [oz HE];rfl,oz HB⟩
theorem zeH (x:Int × Int) (w:World):Calls Tryz.prog 183 #[znA x] w fun e w' =>e=.returned (.bool (decide (x.2 < x.1)))∧Below w.heap.size w w':=by
 obtain ⟨lo,hi⟩:=x
 have b:=Blk.new w #[.int .i32 lo,.int .i32 hi] 113
 have c0:=b.cell 0
 have c1:=b.cell 1
 have HB:=kz ((Below.refl w.heap.size w).alloc (Nat.le_refl _) (.cells #[.int .i32 lo,.int .i32 hi] 113))
 clear b
 show Calls Tryz.prog 183 #[.agg #[.int .i32 lo,.int .i32 hi]] w _
 go_enter Tryz.func183,Tryz.ntmps183
 go_wp2
 go_ret
 exact ⟨rfl,oz HB⟩
def zbe (x:Int × Int):Int:=if za6 x then (if x.2 < x.1 then 11 else 0) else 12
set_option maxRecDepth 100000
set_option maxHeartbeats 8000000
theorem below_drewN {B:Nat} {a w:World} (h:Below B a w) (n:Nat):Below B a (w.drewN n):=h.trans ⟨rfl,rfl,rfl,Nat.le_refl _,fun _ _ =>rfl⟩
def RowP (W:World) (a:Option Addr) (zs:List (Int × Int)):Prop:=0 < zs.length→∃ g o,a=some ⟨g,o,none⟩∧g < W.heap.size∧∀ j x,zs[j]?=some x→W.cell? ⟨g,o+j*2,none⟩=some (.int .i32 x.1)∧W.cell? ⟨g,o+j*2+1,none⟩=some (.int .i32 x.2)
theorem RowP.below {W W':World} {a:Option Addr} {zs:List (Int × Int)} (h:RowP W a zs) (hb:Below W.heap.size W W'):RowP W' a zs:=fun h0 =>by
 obtain ⟨g,o,ha,hg,hc⟩:=h h0
 have:=hb.size
 exact ⟨g,o,ha,by omega,fun j x hj =>⟨(hb.cell (p:=⟨g,o+j*2,none⟩) hg).trans (hc j x hj).1,(hb.cell (p:=⟨g,o+j*2+1,none⟩) hg).trans (hc j x hj).2⟩⟩
def zaP (zs:List (Int × Int)) (j:Nat):Int :=
 if zbe (zs.getD j (0,0))≠0 then zbe (zs.getD j (0,0)) else if 0 < j∧(zs.getD j (0,0)).1≤(zs.getD (j - 1) (0,0)).2 then 13 else 0
def zhe (zs:List (Int × Int)):Value:=match (List.range zs.length).find? (fun j =>zaP zs j != 0) with
 | some j =>.tuple #[.int .i64 j,.int .i64 (zaP zs j)]
 | none =>.tuple #[.int .i64 0,.int .i64 0]
theorem zer (zs:List (Int × Int)) (k:Nat) (hk:k < zs.length) (h0:∀ i,i < k→zaP zs i=0) (h1:zaP zs k≠0):zhe zs=.tuple #[.int .i64 k,.int .i64 (zaP zs k)]:=by
 have:(List.range zs.length).find? (fun j =>zaP zs j != 0)=some k:=by
  rw [List.find?_range_eq_some]
  exact ⟨by simpa using h1,by simpa using hk,fun j hj =>by simp [h0 j hj]⟩
 unfold zhe
 rw [this]
theorem ziC (zs:List (Int × Int)) (h0:∀ i,i < zs.length→zaP zs i=0):zhe zs=.tuple #[.int .i64 0,.int .i64 0]:=by
 have:(List.range zs.length).find? (fun j =>zaP zs j != 0)=none:=by
  rw [List.find?_eq_none]
  intro j hj
  simp [h0 j (by simpa using hj)]
 unfold zhe
 rw [this]
theorem ziB (a:Option Addr) (cap:Nat) (zs:List (Int × Int)) (hz:zs.length≤1073741824) (w:World) (hr:RowP w a zs) :
  Calls Tryz.prog 170 #[.slice a zs.length cap] w fun e w' =>e=.returned (zhe zs)∧Below w.heap.size w w':=by
 have HR:=kz hr
 have hzi:(zs.length:Int)≤1073741824:=by omega
 clear hr
 go_enter Tryz.func170,Tryz.ntmps170
 go_wp2
 go_loopw [8] (fun i wr => ∃ k:Nat,i=.int .i64 k∧k≤zs.length∧Hz (∀ i,i < k→zaP zs i=0)∧Hz (Below w.heap.size w wr)) (fun i _ =>zs.length - (intOf i).toNat)
 case atStart =>exact ⟨0,rfl,by omega,kz (fun i hi =>by omega),kz (Below.refl _ _)⟩
 case round =>
  obtain ⟨k,rfl,hk,HZ,HB⟩:=hrel
  by_cases hkn:k < zs.length
  ·have hk1:(k:Int) < (zs.length:Int):=by omega
   have hk2:((k:Nat):Int).toNat=k:=by omega
   obtain ⟨x,hx⟩:∃ x,zs[k]?=some x:=⟨_,List.getElem?_eq_getElem hkn⟩
   have hgd:zs.getD k (0,0)=x:=by simp [List.getD,hx]
   obtain ⟨g,o,rfl,hg,hc⟩:=oz HR (by omega)
   have c0:=((oz HB).cell (p:=⟨g,o+k*2,none⟩) hg).trans (hc k x hx).1
   have c1:=((oz HB).cell (p:=⟨g,o+k*2+1,none⟩) hg).trans (hc k x hx).2
   have HN:=kz (fun w =>zgw x w)
   have HFa:=kz (fun w =>zeH x w)
   obtain ⟨lo,hi⟩:=x
   simp only at c0 c1
   have b1:=Blk.new wr #[.int .i32 lo,.int .i32 hi] 113
   have q0:=b1.cell 0
   have q1:=b1.cell 1
   have HB1:=kz ((oz HB).alloc (oz HB).size (.cells #[.int .i32 lo,.int .i32 hi] 113))
   have HBl:=kz b1
   clear b1
   cases he:za6 (lo,hi) with
   | false =>
    have HBR:Hz (zaP zs k=12):=kz (by unfold zaP zbe;rw [hgd];simp [he])
    have HV:=kz (zer zs k hkn (oz HZ) (by rw [oz HBR];decide))
    rw [he] at HN
    clear he hgd hc
    go_wp2_with fail
    refine (oz HN _).mono ?_
    rintro e w2 ⟨rfl,hb⟩
    have HB2:=kz ((oz HB1).trans (hb.mono (oz HB1).size))
    clear hb
    go_wp2
    go_ret2
    exact ⟨by rw [oz HV,oz HBR];rfl,oz HB2⟩
   | true =>
    rw [he] at HN
    by_cases hfl:hi < lo
    ·have HBR:Hz (zaP zs k=11):=kz (by unfold zaP zbe;rw [hgd];simp [he,hfl])
     have HV:=kz (zer zs k hkn (oz HZ) (by rw [oz HBR];decide))
     have hfd:decide (hi < lo)=true:=decide_eq_true hfl
     clear he hgd hc
     go_wp2_with fail
     refine (oz HN _).mono ?_
     rintro e w2 ⟨rfl,hb⟩
     have HB2:=kz ((oz HB1).trans (hb.mono (oz HB1).size))
     have b2:=(oz HBl).below hb (oz HBl).lt
     have r0:=b2.cell 0
     have r1:=b2.cell 1
     clear hb b2
     go_wp2_with fail
     refine (oz HFa _).mono ?_
     rintro e w3 ⟨rfl,hb⟩
     have HB3:=kz ((oz HB2).trans (hb.mono (oz HB2).size))
     clear hb
     simp only [hfd]
     go_wp2
     go_ret2
     exact ⟨by rw [oz HV,oz HBR];rfl,oz HB3⟩
    ·have hfd:decide (hi < lo)=false:=decide_eq_false hfl
     have hw:zbe (lo,hi)=0:=by unfold zbe;simp [he,hfl]
     by_cases hk0:k=0
     ·subst hk0
      simp only [Nat.zero_mul,Nat.add_zero] at c0 c1
      have HBR:Hz (zaP zs 0=0):=kz (by unfold zaP;rw [hgd,if_neg (by simp [hw])];simp)
      clear he hgd hc hw
      go_wp2_with fail
      refine (oz HN _).mono ?_
      rintro e w2 ⟨rfl,hb⟩
      have HB2:=kz ((oz HB1).trans (hb.mono (oz HB1).size))
      have b2:=(oz HBl).below hb (oz HBl).lt
      have r0:=b2.cell 0
      have r1:=b2.cell 1
      clear hb
      go_wp2_with fail
      refine (oz HFa _).mono ?_
      rintro e w3 ⟨rfl,hb⟩
      have HB3:=kz ((oz HB2).trans (hb.mono (oz HB2).size))
      clear hb b2
      simp only [hfd]
      go_wp2
      go_quiet (fail)
      go_wp2
      go_roundw
      case rel =>exact ⟨1,rfl,by omega,kz (fun i hi =>(show i=0 by omega) ▸ oz HBR),kz (below_drewN (oz HB3) _)⟩
      case measure =>simp [intOf];omega
     ·obtain ⟨m,rfl⟩:∃ m,k=m+1:=⟨k - 1,by omega⟩
      obtain ⟨y,hy⟩:∃ y,zs[m]?=some y:=⟨_,List.getElem?_eq_getElem (by omega)⟩
      have hgy:zs.getD m (0,0)=y:=by simp [List.getD,hy]
      have hcy:=(hc m y hy).2
      obtain ⟨plo,phi⟩:=y
      simp only at hcy
      have hbr:zaP zs (m+1)=if lo≤phi then 13 else 0:=by
       unfold zaP
       rw [hgd,if_neg (by simp [hw]),Nat.add_sub_cancel,hgy]
       simp
      have HBR:=kz hbr
      have hlt:=(oz HB).size
      have hm1:(m:Int) < (zs.length:Int):=by omega
      have hm2:((m:Nat):Int).toNat=m:=by omega
      have hm3:(m:Int)+1 < (zs.length:Int):=by omega
      have hm4:((m:Int)+1).toNat=m+1:=by omega
      have hm5:(m:Int)≤1073741824:=by omega
      have HCY:=kz hcy
      clear he hgd hc hw hbr hgy hy hcy
      go_wp2_with fail
      refine (oz HN _).mono ?_
      rintro e w2 ⟨rfl,hb⟩
      have HB2:=kz ((oz HB1).trans (hb.mono (oz HB1).size))
      have b2:=(oz HBl).below hb (oz HBl).lt
      have r0:=b2.cell 0
      have r1:=b2.cell 1
      clear hb
      go_wp2_with fail
      refine (oz HFa _).mono ?_
      rintro e w3 ⟨rfl,hb⟩
      have HB3:=kz ((oz HB2).trans (hb.mono (oz HB2).size))
      have b3:=b2.below hb b2.lt
      have s0:=b3.cell 0
      have d2:=((oz HB3).cell (p:=⟨g,o+m*2+1,none⟩) hg).trans (oz HCY)
      clear hb b2 b3 r0 r1 q0 q1
      simp only [hfd]
      by_cases hle:lo≤phi
      ·have HV:=kz (zer zs (m+1) hkn (oz HZ) (by rw [oz HBR,if_pos hle];decide))
       have HB13:Hz (zaP zs (m+1)=13):=kz (by rw [oz HBR,if_pos hle])
       go_wp2
       go_quiet (fail)
       go_wp2
       go_ret2
       exact ⟨by rw [oz HV,oz HB13];rfl,below_drewN (oz HB3) _⟩
      ·have HB0:Hz (zaP zs (m+1)=0):=kz (by rw [oz HBR,if_neg hle])
       go_wp2
       go_quiet (fail)
       go_wp2
       go_roundw
       case rel =>exact ⟨m+1+1,by go_num,by omega,kz (fun i hi =>by
        by_cases e:i=m+1
        ·subst e;exact oz HB0
        ·exact oz HZ i (by omega)),kz (below_drewN (oz HB3) _)⟩
       case measure =>simp [intOf];omega
  ·have hk1:¬ (k:Int) < (zs.length:Int):=by omega
   obtain rfl:k=zs.length:=by omega
   have HV:=kz (ziC zs (oz HZ))
   go_wp2
   go_ret2
   exact ⟨by rw [oz HV];rfl,oz HB⟩
def zcD (a b:Int):Int:=if a < b then -1 else if b < a then 1 else 0
theorem zmG (a:Int) (w:World):Calls Tryz.prog 167 #[.int .i32 a] w fun e w' =>e=.returned (.bool false)∧w'=w:=by
 go_enter Tryz.func167,Tryz.ntmps167
 go_wp2
 go_ret
 exact ⟨rfl,rfl⟩
theorem zeI (a b:Int) (w:World):Calls Tryz.prog 97 #[.int .i32 a,.int .i32 b] w fun e w' =>e=.returned (.int .i64 (zcD a b))∧w'=w:=by
 have HA:=kz (zmG a w)
 have HB:=kz (zmG b w)
 by_cases h1:a < b
 ·have h:zcD a b = -1:=by unfold zcD;rw [if_pos h1]
  rw [h]
  clear h
  go_enter Tryz.func97,Tryz.ntmps97
  go_wp2_with fail
  refine (oz HA).mono ?_
  rintro e w2 ⟨rfl,rfl⟩
  go_wp2_with fail
  refine (oz HB).mono ?_
  rintro e w2 ⟨rfl,rfl⟩
  go_wp2
  go_ret
  exact ⟨rfl,rfl⟩
 ·by_cases h2:b < a
  ·have h:zcD a b=1:=by unfold zcD;rw [if_neg h1,if_pos h2]
   rw [h]
   clear h
   go_enter Tryz.func97,Tryz.ntmps97
   go_wp2_with fail
   refine (oz HA).mono ?_
   rintro e w2 ⟨rfl,rfl⟩
   go_wp2_with fail
   refine (oz HB).mono ?_
   rintro e w2 ⟨rfl,rfl⟩
   go_wp2
   go_ret
   exact ⟨rfl,rfl⟩
  ·have h:zcD a b=0:=by unfold zcD;rw [if_neg h1,if_neg h2]
   rw [h]
   clear h
   go_enter Tryz.func97,Tryz.ntmps97
   go_wp2_with fail
   refine (oz HA).mono ?_
   rintro e w2 ⟨rfl,rfl⟩
   go_wp2_with fail
   refine (oz HB).mono ?_
   rintro e w2 ⟨rfl,rfl⟩
   go_wp2
   go_ret
   exact ⟨rfl,rfl⟩
theorem zm1 (x:Int × Int) (r:Int) (w:World):Calls Tryz.prog 96 #[znA x,.int .i32 r] w fun e w' =>e=.returned (.int .i64 (zcD x.2 r))∧Below w.heap.size w w':=by
 have HC:=kz (fun w =>zeI x.2 r w)
 obtain ⟨lo,hi⟩:=x
 simp only at HC
 go_enter Tryz.func96,Tryz.ntmps96
 go_wp2_with fail
 refine (oz HC _).mono ?_
 rintro e w2 ⟨rfl,rfl⟩
 go_wp2
 go_ret
 exact ⟨rfl,(Below.refl _ w).alloc (Nat.le_refl _) _⟩
theorem zhF (x:Int × Int) (r:Int) (w:World):Calls Tryz.prog 218 #[znA x,.int .i32 r] w fun e w' =>e=.returned (.int .i64 (zcD x.1 r))∧Below w.heap.size w w':=by
 have HC:=kz (fun w =>zeI x.1 r w)
 obtain ⟨lo,hi⟩:=x
 simp only at HC
 go_enter Tryz.func218,Tryz.ntmps218
 go_wp2_with fail
 refine (oz HC _).mono ?_
 rintro e w2 ⟨rfl,rfl⟩
 go_wp2
 go_ret
 exact ⟨rfl,(Below.refl _ w).alloc (Nat.le_refl _) _⟩
set_option maxRecDepth 100000
set_option maxHeartbeats 8000000
def Cut (key:Int × Int→Int) (zs:List (Int × Int)) (r:Int) (k:Nat):Prop:=k≤zs.length∧(∀ j x,j < k→zs[j]?=some x→key x < r)∧(∀ j x,k≤j→zs[j]?=some x→r≤key x)
theorem zpn {a b:Int} (h:a < b):zcD a b = -1:=by unfold zcD;rw [if_pos h]
theorem zhb (p:Option Addr) (cap:Nat) (zs:List (Int × Int)) (hz:zs.length≤1073741824) (r:Int) (hs:∀ (i j:Nat) (x y:Int × Int),i < j→zs[i]?=some x→zs[j]?=some y→x.2 < y.2) (w:World) (hr:RowP w p zs) :
  Calls Tryz.prog 95 #[.slice p zs.length cap,.int .i32 r,.func (.func 96) #[] #[]] w fun e w' => ∃ (k:Nat) (b:Bool),e=.returned (.tuple #[.int .i64 k,.bool b])∧Cut (fun x =>x.2) zs r k∧Below w.heap.size w w':=by
 have HR:=kz hr
 have HS:=kz hs
 have hzi:(zs.length:Int)≤1073741824:=by omega
 clear hr hs
 go_enter Tryz.func95,Tryz.ntmps95
 go_wp2
 go_loopw [9,10] (fun i j wr => ∃ a b:Nat,a≤b∧b≤zs.length∧i=.int .i64 a∧j=.int .i64 b∧Hz (∀ j x,j < a→zs[j]?=some x→x.2 < r)∧Hz (∀ j x,b≤j→zs[j]?=some x→r≤x.2)∧Hz (Below w.heap.size w wr)) (fun i j _ =>(intOf j).toNat - (intOf i).toNat)
 case atStart =>exact ⟨0,zs.length,by omega,Nat.le_refl _,rfl,rfl,kz (fun j x hj =>by omega),kz (fun j x hj hx =>by have:=(List.getElem?_eq_some_iff.1 hx).1;omega),kz (Below.refl _ _)⟩
 case round =>
  obtain ⟨a,b,hab,hb,rfl,rfl,H1,H2,HB⟩:=hrel
  by_cases hlt:a < b
  ·have h1:(a:Int) < (b:Int):=by omega
   obtain ⟨x,hx⟩:∃ x,zs[(a+b) / 2]?=some x:=⟨_,List.getElem?_eq_getElem (by omega)⟩
   obtain ⟨g,o,rfl,hg,hc⟩:=oz HR (by omega)
   have c0:=((oz HB).cell (p:=⟨g,o+(a+b) / 2*2,none⟩) hg).trans (hc _ x hx).1
   have c1:=((oz HB).cell (p:=⟨g,o+(a+b) / 2*2+1,none⟩) hg).trans (hc _ x hx).2
   have HN:=kz (fun w =>zm1 x r w)
   have HX:=kz hx
   clear hx hc
   by_cases hxn:x.2 < r
   ·rw [zpn hxn] at HN
    have H1':Hz (∀ j y,j < (a+b) / 2+1→zs[j]?=some y→y.2 < r):=kz (fun j y hj hy =>by
     by_cases e:j=(a+b) / 2
     ·subst e;rw [oz HX] at hy;cases hy;exact hxn
     ·have:=oz HS j ((a+b) / 2) y x (by omega) hy (oz HX);omega)
    clear hxn
    obtain ⟨lo,hi⟩:=x
    simp only at c0 c1
    go_wp2_with fail
    refine (oz HN _).mono ?_
    rintro e w2 ⟨rfl,hb2⟩
    have HB2:=kz ((oz HB).trans (hb2.mono (oz HB).size))
    clear hb2
    go_wp2
    go_roundw
    case rel =>
     refine ⟨(a+b) / 2+1,b,by omega,hb, ?_,rfl,H1',H2,HB2⟩
     congr 1
    case measure =>simp [intOf];omega
   ·have H2':Hz (∀ j y,(a+b) / 2≤j→zs[j]?=some y→r≤y.2):=kz (fun j y hj hy =>by
     by_cases e:j=(a+b) / 2
     ·subst e;rw [oz HX] at hy;cases hy;omega
     ·have:=oz HS ((a+b) / 2) j x y (by omega) (oz HX) hy;omega)
    have hq:0≤zcD x.2 r:=by unfold zcD;rw [if_neg hxn];split <;> omega
    generalize zcD x.2 r=q at HN hq
    have hq1:¬ q < 0:=by omega
    clear hxn
    obtain ⟨lo,hi⟩:=x
    simp only at c0 c1
    go_wp2_with fail
    refine (oz HN _).mono ?_
    rintro e w2 ⟨rfl,hb2⟩
    have HB2:=kz ((oz HB).trans (hb2.mono (oz HB).size))
    clear hb2
    go_wp2
    go_roundw
    case rel =>
     refine ⟨a,(a+b) / 2,by omega,by omega,rfl, ?_,H1,H2',HB2⟩
     congr 1
    case measure =>simp [intOf];omega
  ·have h1:¬ (a:Int) < (b:Int):=by omega
   obtain rfl:a=b:=by omega
   have HK:Hz (Cut (fun x =>x.2) zs r a):=kz ⟨hb,oz H1,oz H2⟩
   by_cases hal:a < zs.length
   ·obtain ⟨x,hx⟩:∃ x,zs[a]?=some x:=⟨_,List.getElem?_eq_getElem hal⟩
    obtain ⟨g,o,rfl,hg,hc⟩:=oz HR (by omega)
    have c0:=((oz HB).cell (p:=⟨g,o+a*2,none⟩) hg).trans (hc _ x hx).1
    have c1:=((oz HB).cell (p:=⟨g,o+a*2+1,none⟩) hg).trans (hc _ x hx).2
    have HN:=kz (fun w =>zm1 x r w)
    have h2:(a:Int) < (zs.length:Int):=by omega
    have h3:((a:Nat):Int).toNat=a:=by omega
    clear hx hc
    generalize zcD x.2 r=q at HN
    obtain ⟨lo,hi⟩:=x
    simp only at c0 c1
    go_wp2_with fail
    refine (oz HN _).mono ?_
    rintro e w2 ⟨rfl,hb2⟩
    have HB2:=kz ((oz HB).trans (hb2.mono (oz HB).size))
    clear hb2
    by_cases hq:q=0
    ·subst hq
     go_wp2
     go_ret2
     first | exact ⟨a,_,rfl,oz HK,oz HB2⟩ | exact ⟨oz HK,oz HB2⟩
    ·have hqe:(q == 0)=false:=beq_eq_false_iff_ne.2 hq
     go_wp2
     go_ret2
     first | exact ⟨a,_,rfl,oz HK,oz HB2⟩ | exact ⟨oz HK,oz HB2⟩
   ·have h2:¬ (a:Int) < (zs.length:Int):=by omega
    go_wp2
    go_ret2
    first | exact ⟨a,_,rfl,oz HK,oz HB⟩ | exact ⟨oz HK,oz HB⟩ | exact ⟨a,rfl,oz HK,oz HB⟩ | exact ⟨a,⟨_,rfl⟩,oz HK,oz HB⟩ | exact ⟨a,false,rfl,oz HK,oz HB⟩ | exact ⟨a,by simp;exact ⟨oz HK,oz HB⟩⟩
theorem zkQ (p:Option Addr) (cap:Nat) (zs:List (Int × Int)) (hz:zs.length≤1073741824) (r:Int) (hs:∀ (i j:Nat) (x y:Int × Int),i < j→zs[i]?=some x→zs[j]?=some y→x.1 < y.1) (w:World) (hr:RowP w p zs) :
  Calls Tryz.prog 95 #[.slice p zs.length cap,.int .i32 r,.func (.func 218) #[] #[]] w fun e w' => ∃ (k:Nat) (b:Bool),e=.returned (.tuple #[.int .i64 k,.bool b])∧Cut (fun x =>x.1) zs r k∧Below w.heap.size w w':=by
 have HR:=kz hr
 have HS:=kz hs
 have hzi:(zs.length:Int)≤1073741824:=by omega
 clear hr hs
 go_enter Tryz.func95,Tryz.ntmps95
 go_wp2
 go_loopw [9,10] (fun i j wr => ∃ a b:Nat,a≤b∧b≤zs.length∧i=.int .i64 a∧j=.int .i64 b∧Hz (∀ j x,j < a→zs[j]?=some x→x.1 < r)∧Hz (∀ j x,b≤j→zs[j]?=some x→r≤x.1)∧Hz (Below w.heap.size w wr)) (fun i j _ =>(intOf j).toNat - (intOf i).toNat)
 case atStart =>exact ⟨0,zs.length,by omega,Nat.le_refl _,rfl,rfl,kz (fun j x hj =>by omega),kz (fun j x hj hx =>by have:=(List.getElem?_eq_some_iff.1 hx).1;omega),kz (Below.refl _ _)⟩
 case round =>
  obtain ⟨a,b,hab,hb,rfl,rfl,H1,H2,HB⟩:=hrel
  by_cases hlt:a < b
  ·have h1:(a:Int) < (b:Int):=by omega
   obtain ⟨x,hx⟩:∃ x,zs[(a+b) / 2]?=some x:=⟨_,List.getElem?_eq_getElem (by omega)⟩
   obtain ⟨g,o,rfl,hg,hc⟩:=oz HR (by omega)
   have c0:=((oz HB).cell (p:=⟨g,o+(a+b) / 2*2,none⟩) hg).trans (hc _ x hx).1
   have c1:=((oz HB).cell (p:=⟨g,o+(a+b) / 2*2+1,none⟩) hg).trans (hc _ x hx).2
   have HN:=kz (fun w =>zhF x r w)
   have HX:=kz hx
   clear hx hc
   by_cases hxn:x.1 < r
   ·rw [zpn hxn] at HN
    have H1':Hz (∀ j y,j < (a+b) / 2+1→zs[j]?=some y→y.1 < r):=kz (fun j y hj hy =>by
     by_cases e:j=(a+b) / 2
     ·subst e;rw [oz HX] at hy;cases hy;exact hxn
     ·have:=oz HS j ((a+b) / 2) y x (by omega) hy (oz HX);omega)
    clear hxn
    obtain ⟨lo,hi⟩:=x
    simp only at c0 c1
    go_wp2_with fail
    refine (oz HN _).mono ?_
    rintro e w2 ⟨rfl,hb2⟩
    have HB2:=kz ((oz HB).trans (hb2.mono (oz HB).size))
    clear hb2
    go_wp2
    go_roundw
    case rel =>
     refine ⟨(a+b) / 2+1,b,by omega,hb, ?_,rfl,H1',H2,HB2⟩
     congr 1
    case measure =>simp [intOf];omega
   ·have H2':Hz (∀ j y,(a+b) / 2≤j→zs[j]?=some y→r≤y.1):=kz (fun j y hj hy =>by
     by_cases e:j=(a+b) / 2
     ·subst e;rw [oz HX] at hy;cases hy;omega
     ·have:=oz HS ((a+b) / 2) j x y (by omega) (oz HX) hy;omega)
    have hq:0≤zcD x.1 r:=by unfold zcD;rw [if_neg hxn];split <;> omega
    generalize zcD x.1 r=q at HN hq
    have hq1:¬ q < 0:=by omega
    clear hxn
    obtain ⟨lo,hi⟩:=x
    simp only at c0 c1
    go_wp2_with fail
    refine (oz HN _).mono ?_
    rintro e w2 ⟨rfl,hb2⟩
    have HB2:=kz ((oz HB).trans (hb2.mono (oz HB).size))
    clear hb2
    go_wp2
    go_roundw
    case rel =>
     refine ⟨a,(a+b) / 2,by omega,by omega,rfl, ?_,H1,H2',HB2⟩
     congr 1
    case measure =>simp [intOf];omega
  ·have h1:¬ (a:Int) < (b:Int):=by omega
   obtain rfl:a=b:=by omega
   have HK:Hz (Cut (fun x =>x.1) zs r a):=kz ⟨hb,oz H1,oz H2⟩
   by_cases hal:a < zs.length
   ·obtain ⟨x,hx⟩:∃ x,zs[a]?=some x:=⟨_,List.getElem?_eq_getElem hal⟩
    obtain ⟨g,o,rfl,hg,hc⟩:=oz HR (by omega)
    have c0:=((oz HB).cell (p:=⟨g,o+a*2,none⟩) hg).trans (hc _ x hx).1
    have c1:=((oz HB).cell (p:=⟨g,o+a*2+1,none⟩) hg).trans (hc _ x hx).2
    have HN:=kz (fun w =>zhF x r w)
    have h2:(a:Int) < (zs.length:Int):=by omega
    have h3:((a:Nat):Int).toNat=a:=by omega
    clear hx hc
    generalize zcD x.1 r=q at HN
    obtain ⟨lo,hi⟩:=x
    simp only at c0 c1
    go_wp2_with fail
    refine (oz HN _).mono ?_
    rintro e w2 ⟨rfl,hb2⟩
    have HB2:=kz ((oz HB).trans (hb2.mono (oz HB).size))
    clear hb2
    by_cases hq:q=0
    ·subst hq
     go_wp2
     go_ret2
     first | exact ⟨a,_,rfl,oz HK,oz HB2⟩ | exact ⟨oz HK,oz HB2⟩
    ·have hqe:(q == 0)=false:=beq_eq_false_iff_ne.2 hq
     go_wp2
     go_ret2
     first | exact ⟨a,_,rfl,oz HK,oz HB2⟩ | exact ⟨oz HK,oz HB2⟩
   ·have h2:¬ (a:Int) < (zs.length:Int):=by omega
    go_wp2
    go_ret2
    first | exact ⟨a,_,rfl,oz HK,oz HB⟩ | exact ⟨oz HK,oz HB⟩ | exact ⟨a,rfl,oz HK,oz HB⟩ | exact ⟨a,⟨_,rfl⟩,oz HK,oz HB⟩ | exact ⟨a,false,rfl,oz HK,oz HB⟩ | exact ⟨a,by simp;exact ⟨oz HK,oz HB⟩⟩
end Go.Proofs.YtmemedpoaocdkaaGreat
