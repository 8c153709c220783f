/- Texts of this claim, one behind the other. -/
import Derived.ProofKit
import Derived.OpenShut
import Derived.ChangeOld
import Derived.Deep.SlicePairs
import Derived.Test.YthchopdfmchpkaaGreatM4
namespace Go.Proofs.YthchopdfmchpkaaGreat
set_option linter.unusedVariables false
section
open Go.RowKit Go.Shelf Go.ChangeShapes Go.WideShapes Go.Deep
set_option maxRecDepth 100000
set_option maxHeartbeats 8000000
theorem laidOutT:laidOutB Tryz.prog=true:=by kernel_rfl
theorem zau {H:Type}:∀ (l:List (DataW H)) (d:DataW H),d ∈ l→Rows.uptoBulk d≤Rows.uptoBulkAll l
 | [],d,h =>by cases h
 | x::l,d,h =>by
  simp only [Rows.uptoBulkAll];rcases List.mem_cons.1 h with rfl | h
  ·omega
  ·have:=zau l d h;omega
theorem zia {H:Type} (d:DataW H):1≤Rows.uptoBulk d:=by
 unfold Rows.uptoBulk;split <;> omega
theorem zdu {H:Type}:∀ (l:List (DataW H)),l.length≤Rows.uptoBulkAll l
 | [] =>Zn _
 | x::l =>by
  have:=zdu l;have:=zia x;simp only [Rows.uptoBulkAll,List.length_cons];omega
theorem zfh {α : Type} (f : α→List Value) (sz:Nat) (hf:∀ z,(f z).length=sz):∀ (zs:List α) (j:Nat) (u:Value),(zs.flatMap f)[j]?=some u→∃ (i k:Nat) (z : α),zs[i]?=some z∧k < sz∧j=i*sz+k∧(f z)[k]?=some u
 | [],j,u,h =>by cases h
 | z::zs,j,u,h =>by
  rw [List.flatMap_cons] at h;by_cases hj:j < sz
  ·rw [List.getElem?_append_left (by rw [hf];exact hj)] at h;exact ⟨0,j,z,rfl,hj,by omega,h⟩
  ·rw [List.getElem?_append_right (by rw [hf];omega),hf] at h;obtain ⟨i,k,y,h1,h2,h3,h4⟩:=zfh f sz hf zs (j - sz) u h;exact ⟨i+1,k,y,h1,h2,by rw [Nat.succ_mul];omega,h4⟩
theorem qZ {H:Type} {enc:TypeId × Value→H} {W:World} {t e:TypeId} {α : Type} [Inhabited α] (encz : α→List Value) (Q : α→DataW H→Prop) (sz:Nat) (hsz:Tryz.prog.cellsOf e=sz) (hlen:∀ z,(encz z).length=sz) (hp:0 < sz)
  (ht:Tryz.prog.underlying t=some (.slice e)) (hel:∀ n cs x,DataW.trod enc Tryz.prog W 0 (fun _ =>true) true n e cs=some x→∃ z,cs=encz z∧Q z x.1) {fuel:Nat} {c:Value} {x:DataW H × List MemPlace} (h:DataW.trod enc Tryz.prog W 0 (fun _ =>true) true fuel t [c]=some x) :
  ∃ (zs:List α) (a:Option Addr) (cap:Nat),c=.slice a zs.length cap∧RowC W W.heap.size a (zs.flatMap encz)∧zs.length≤Rows.uptoBulk x.1∧∀ z ∈ zs, ∃ d,Q z d∧Rows.uptoBulk d≤Rows.uptoBulk x.1:=by
 rcases open_slice ht h with ⟨h0,hx⟩ | ⟨a,len,cap,m,n,D,Pl,hc,_,hl,hm,hmm,hx,hcs⟩
 ·injection h0 with h0;subst h0;exact ⟨[],none,0,rfl,fun h =>absurd h (by simp),Zn _,fun z hz =>by cases hz⟩
 ·injection hc with hc;subst hc;simp only [if_true] at hmm;subst hmm;have each:∀ i,i < len→∃ z : α,(∀ j u,(encz z)[j]?=some u→W.cell? (a.add (i*sz+j))=some u)∧Q z (D i):=fun i hi =>by
   obtain ⟨cs',h1,h2⟩:=hcs i (by omega);obtain ⟨z,rfl,hq⟩:=hel n cs' _ h2;rw [hsz] at h1;obtain ⟨_,h3,h4⟩:=World.cells?_some h1;refine ⟨z,fun j u hu =>?_,hq⟩;have hj:=(Ze.1 hu).1;have h5:=h4 j (by rw [← h3];exact hj);rw [add_add] at h5;exact h5.trans hu
  obtain ⟨b,off,spot⟩:=a;rcases Nat.eq_zero_or_pos len with h0 | h0
  ·subst h0;exact ⟨[],_,_,rfl,fun h =>absurd h (by simp),Zn _,fun z hz =>by cases hz⟩
  ·obtain ⟨z0,hz0,_⟩:=each 0 h0;obtain ⟨u0,hu0⟩:∃ u,(encz z0)[0]?=some u:=⟨_,qR (by rw [hlen];exact hp)⟩;have hc0:=hz0 0 u0 hu0;have hspot:spot=none:=by simpa [Addr.add] using World.cell?_spot hc0
   subst hspot;obtain ⟨Z,hZ⟩:=choose_lt each;have hblt:b < W.heap.size:=by have:=YG hc0;simpa [Addr.add] using this
   refine ⟨(List.range len).map Z,some ⟨b,off,none⟩,_,by simp;rfl,fun _ =>⟨b,off,rfl,hblt,fun j u hu =>?_⟩, ?_,fun z hz =>?_⟩
   ·obtain ⟨i,k,z,h1,h2,h3,h4⟩:=zfh encz sz hlen _ j u hu;have hi:=(Ze.1 h1).1;simp at hi;simp [hi] at h1;subst h1;have:=(hZ i hi).1 k u h4;rw [← h3,add_plain] at this;exact this
   ·rw [hx];have:=zdu ((List.range len).map D);simp only [Rows.uptoBulk,List.length_map,List.length_range] at this ⊢;omega
   ·obtain ⟨i,hi,rfl⟩:=List.mem_map.1 hz;have hi:=List.mem_range.1 hi;refine ⟨D i,(hZ i hi).2, ?_⟩;rw [hx];have:=zau ((List.range len).map D) (D i) (List.mem_map.2 ⟨i,List.mem_range.2 hi,rfl⟩);simp only [Rows.uptoBulk];omega
theorem zkX {α : Type}:∀ {l:List α},l.length=2→∃ a b,l=[a,b]
 | [a,b],_ =>⟨a,b,rfl⟩
theorem zkW {α : Type}:∀ {l:List α},l.length=3→∃ a b c,l=[a,b,c]
 | [a,b,c],_ =>⟨a,b,c,rfl⟩
theorem zgA {H:Type} {enc:TypeId × Value→H} {W:World} {hh:Bool} {e:TypeId} {f0 f1:Field} (he:Tryz.prog.underlying e=some (.struct #[f0,f1])) (ce:Tryz.prog.cellsOf e=2) (o0:f0.offset=0) (o1:f1.offset=1) (c0:Tryz.prog.cellsOf f0.type=1) (c1:Tryz.prog.cellsOf f1.type=1) {n:Nat} {cs:List Value} {x:DataW H × List MemPlace}
  (h:DataW.trod enc Tryz.prog W 0 (fun _ =>true) hh n e cs=some x):∃ v0 v1 y0 y1 k,cs=[v0,v1]∧x.1=.agg [y0.1,y1.1]∧DataW.trod enc Tryz.prog W 0 (fun _ =>true) hh k f0.type [v0]=some y0∧DataW.trod enc Tryz.prog W 0 (fun _ =>true) hh k f1.type [v1]=some y1:=by
 obtain ⟨xs,k,hk,hxy,hcl,hxl,hf⟩:=DataW.trod_struct he h;rw [ce] at hcl;obtain ⟨y0,y1,rfl⟩:=zkX hxl;obtain ⟨v0,v1,rfl⟩:=zkX hcl;have g0:=hf 0 f0 rfl;have g1:=hf 1 f1 rfl;rw [o0,c0] at g0;rw [o1,c1] at g1;exact ⟨v0,v1,y0,y1,k,rfl,by rw [hxy];rfl,g0,g1⟩
theorem zkC {H:Type} {enc:TypeId × Value→H} {W:World} {hh:Bool} {e:TypeId} {f0 f1 f2:Field} (he:Tryz.prog.underlying e=some (.struct #[f0,f1,f2])) (ce:Tryz.prog.cellsOf e=3) (o0:f0.offset=0) (o1:f1.offset=1) (o2:f2.offset=2) (c0:Tryz.prog.cellsOf f0.type=1) (c1:Tryz.prog.cellsOf f1.type=1) (c2:Tryz.prog.cellsOf f2.type=1) {n:Nat} {cs:List Value} {x:DataW H × List MemPlace}
  (h:DataW.trod enc Tryz.prog W 0 (fun _ =>true) hh n e cs=some x):∃ v0 v1 v2 y0 y1 y2 k,cs=[v0,v1,v2]∧x.1=.agg [y0.1,y1.1,y2.1]∧DataW.trod enc Tryz.prog W 0 (fun _ =>true) hh k f0.type [v0]=some y0∧DataW.trod enc Tryz.prog W 0 (fun _ =>true) hh k f1.type [v1]=some y1∧DataW.trod enc Tryz.prog W 0 (fun _ =>true) hh k f2.type [v2]=some y2:=by
 obtain ⟨xs,k,hk,hxy,hcl,hxl,hf⟩:=DataW.trod_struct he h;rw [ce] at hcl;obtain ⟨y0,y1,y2,rfl⟩:=zkW hxl;obtain ⟨v0,v1,v2,rfl⟩:=zkW hcl;have g0:=hf 0 f0 rfl;have g1:=hf 1 f1 rfl;have g2:=hf 2 f2 rfl;rw [o0,c0] at g0;rw [o1,c1] at g1;rw [o2,c2] at g2;exact ⟨v0,v1,v2,y0,y1,y2,k,rfl,by rw [hxy];rfl,g0,g1,g2⟩
def R32 (x:Int):Prop := -2147483648≤x∧x≤2147483647
theorem Qa {z:Int} (h:Lit.wf (.int .i32 z)=true):R32 z:=by
 simp [Lit.wf,IntKind.min,IntKind.max,IntKind.signed,IntKind.bits] at h;exact ⟨by omega,by omega⟩
structure zdz (T:TV):Prop where
 s:∀ x ∈ T.sc, ∀ y ∈ x.2,R32 y.1∧R32 y.2
 co:∀ y ∈ T.co,R32 y.1∧R32 y.2
 dr:∀ y ∈ T.dr,R32 y.1∧R32 y.2
 al:∀ y ∈ T.al,R32 y.1∧R32 y.2
 ma:∀ y ∈ T.ma,R32 y.1
 pr:∀ y ∈ T.pr,R32 y.1∧R32 y.2.1∧R32 y.2.2
 fo:∀ y ∈ T.fo,R32 y.1
 lk:∀ y ∈ T.lk,R32 y.1
theorem KZ {H:Type} {enc:TypeId × Value→H} {W:World} (n:Nat) (cs:List Value) (x:DataW H × List MemPlace) (h:DataW.trod enc Tryz.prog W 0 (fun _ =>true) true n 94 cs=some x):∃ z:Int × Int,cs=[.int .i32 z.1,.int .i32 z.2]∧R32 z.1∧R32 z.2:=by
 obtain ⟨v0,v1,y0,y1,k,rfl,_,t0,t1⟩:=zgA Tryz.underlying94 (by kernel_rfl) rfl rfl (by kernel_rfl) (by kernel_rfl) h;obtain ⟨z0,e0,_,w0⟩:=DataW.trod_int Tryz.underlying21 t0;obtain ⟨z1,e1,_,w1⟩:=DataW.trod_int Tryz.underlying21 t1;injection e0 with e0;injection e1 with e1;exact ⟨(z0,z1),by rw [e0,e1],Qa w0,Qa w1⟩
theorem zjA {H:Type} {enc:TypeId × Value→H} {W:World} (n:Nat) (cs:List Value) (x:DataW H × List MemPlace) (h:DataW.trod enc Tryz.prog W 0 (fun _ =>true) true n 98 cs=some x):∃ z:Int × Int,cs=[.int .i32 z.1,.int .i64 z.2]∧(-9223372036854775808≤z.2∧z.2≤9223372036854775807)∧R32 z.1:=by
 obtain ⟨v0,v1,y0,y1,k,rfl,_,t0,t1⟩:=zgA Tryz.underlying98 (by kernel_rfl) rfl rfl (by kernel_rfl) (by kernel_rfl) h;obtain ⟨z0,e0,_,w0⟩:=DataW.trod_int Tryz.underlying21 t0;obtain ⟨z1,e1,_,w1⟩:=DataW.trod_int Tryz.underlying3 t1;injection e0 with e0;injection e1 with e1;refine ⟨(z0,z1),by rw [e0,e1], ?_⟩;simp [Lit.wf,IntKind.min,IntKind.max,IntKind.signed,IntKind.bits] at w1;exact ⟨⟨by show -9223372036854775808≤z1;omega,by show z1≤9223372036854775807;omega⟩,Qa w0⟩
theorem zjz {H:Type} {enc:TypeId × Value→H} {W:World} (n:Nat) (cs:List Value) (x:DataW H × List MemPlace) (h:DataW.trod enc Tryz.prog W 0 (fun _ =>true) true n 100 cs=some x):∃ z:Int × Int × Int,cs=[.int .i32 z.1,.int .i32 z.2.1,.int .i32 z.2.2]∧R32 z.1∧R32 z.2.1∧R32 z.2.2:=by
 obtain ⟨v0,v1,v2,y0,y1,y2,k,rfl,_,t0,t1,t2⟩:=zkC Tryz.underlying100 (by kernel_rfl) rfl rfl rfl (by kernel_rfl) (by kernel_rfl) (by kernel_rfl) h;obtain ⟨z0,e0,_,w0⟩:=DataW.trod_int Tryz.underlying21 t0;obtain ⟨z1,e1,_,w1⟩:=DataW.trod_int Tryz.underlying21 t1;obtain ⟨z2,e2,_,w2⟩:=DataW.trod_int Tryz.underlying21 t2;injection e0 with e0;injection e1 with e1;injection e2 with e2;exact ⟨(z0,z1,z2),by rw [e0,e1,e2],Qa w0,Qa w1,Qa w2⟩
theorem QQ {H:Type} (a b:DataW H):Rows.uptoBulk (.agg [a,b])=Rows.uptoBulk a+Rows.uptoBulk b+1:=by
 simp only [Rows.uptoBulk,Rows.uptoBulkAll];omega
theorem zdt {H:Type} (s:ByteArray):Rows.uptoBulk (.lit (.string s.data.toList):DataW H)=s.size+1:=by
 simp only [Rows.uptoBulk];rw [Array.length_toList];rfl
theorem ziz {H:Type} {enc:TypeId × Value→H} {W:World} (n:Nat) (cs:List Value) (x:DataW H × List MemPlace) (h:DataW.trod enc Tryz.prog W 0 (fun _ =>true) true n 102 cs=some x):∃ z:Int × ByteArray,cs=[.int .i32 z.1,.string z.2]∧z.2.size≤Rows.uptoBulk x.1∧R32 z.1:=by
 obtain ⟨v0,v1,y0,y1,k,rfl,hx,t0,t1⟩:=zgA Tryz.underlying102 (by kernel_rfl) rfl rfl (by kernel_rfl) (by kernel_rfl) h;obtain ⟨z0,e0,_,w0⟩:=DataW.trod_int Tryz.underlying21 t0;obtain ⟨z1,e1,hy,_⟩:=DataW.trod_string Tryz.underlying9 t1;injection e0 with e0;injection e1 with e1;refine ⟨(z0,z1),by rw [e0,e1], ?_,Qa w0⟩;rw [hx,QQ,hy,zdt];show z1.size≤_;omega
def ScQ {H:Type} (W:World) (z:ByteArray × List (Int × Int) × Value) (d:DataW H):Prop:=z.1.size≤Rows.uptoBulk d∧z.2.1.length≤Rows.uptoBulk d∧(∃ b c,z.2.2=.slice b z.2.1.length c∧RowC W W.heap.size b (z.2.1.flatMap fun s => [.int .i32 s.1,.int .i32 s.2]))∧∀ y ∈ z.2.1,R32 y.1∧R32 y.2
theorem zgq {H:Type} {enc:TypeId × Value→H} {W:World} (n:Nat) (cs:List Value) (x:DataW H × List MemPlace) (h:DataW.trod enc Tryz.prog W 0 (fun _ =>true) true n 96 cs=some x):∃ z:ByteArray × List (Int × Int) × Value,cs=[.string z.1,z.2.2]∧ScQ W z x.1:=by
 obtain ⟨v0,v1,y0,y1,k,rfl,hx,t0,t1⟩:=zgA Tryz.underlying96 (by kernel_rfl) rfl rfl (by kernel_rfl) (by kernel_rfl) h;obtain ⟨z0,e0,hy,_⟩:=DataW.trod_string Tryz.underlying9 t0;injection e0 with e0;obtain ⟨zs,a,cap,e1,hr,hl,hq⟩:=qZ (fun s:Int × Int => [Value.int .i32 s.1,.int .i32 s.2]) (fun z _ =>R32 z.1∧R32 z.2) 2 (by kernel_rfl) (fun _ =>rfl) (by decide) Tryz.underlying26 KZ t1;refine ⟨(z0,zs,v1),by rw [e0], ?_, ?_,⟨a,cap,e1,hr⟩,fun y hy =>by obtain ⟨_,h5,_⟩:=hq y hy;exact h5⟩
 ·show z0.size≤_;rw [hx,QQ,hy,zdt];omega
 ·show zs.length≤_;rw [hx,QQ];omega
theorem ziI:∀ (l:List (Int × Int)),(l.flatMap fun s => [Value.int .i32 s.1,.int .i32 s.2])=zM l
 | [] =>rfl
 | x::l =>by rw [List.flatMap_cons,ziI l];rfl
theorem zj1:∀ (l:List (Int × Int)),(l.flatMap fun s => [Value.int .i32 s.1,.int .i64 s.2])=XP l
 | [] =>rfl
 | x::l =>by rw [List.flatMap_cons,zj1 l];rfl
theorem zj0:∀ (l:List (Int × Int × Int)),(l.flatMap fun s => [Value.int .i32 s.1,.int .i32 s.2.1,.int .i32 s.2.2])=Xh l
 | [] =>rfl
 | x::l =>by rw [List.flatMap_cons,zj0 l];rfl
theorem zj2:∀ (l:List (Int × ByteArray)),(l.flatMap fun s => [Value.int .i32 s.1,.string s.2])=yW l
 | [] =>rfl
 | x::l =>by rw [List.flatMap_cons,zj2 l];rfl
theorem zj3:∀ (l:List (ByteArray × List (Int × Int) × Value)),(l.flatMap fun z => [Value.string z.1,z.2.2])=jE (l.map fun z =>(z.1,z.2.1)) (l.map fun z =>z.2.2)
 | [] =>rfl
 | x::l =>by rw [List.flatMap_cons,zj3 l];rfl
theorem zkV {α : Type}:∀ {l:List α},l.length=8→∃ a b c d e f g h,l=[a,b,c,d,e,f,g,h]
 | [a,b,c,d,e,f,g,h],_ =>⟨a,b,c,d,e,f,g,h,rfl⟩
theorem zgL:∃ f0 f1 f2 f3 f4 f5 f6 f7:Field,Tryz.prog.underlying 31=some (.struct #[f0,f1,f2,f3,f4,f5,f6,f7])∧(f0.offset=0∧f0.type=25)∧(f1.offset=1∧f1.type=26)∧(f2.offset=2∧f2.type=27)∧(f3.offset=3∧f3.type=28)∧(f4.offset=4∧f4.type=29)∧(f5.offset=5∧f5.type=29)∧(f6.offset=6∧f6.type=26)∧(f7.offset=7∧f7.type=26) :=
 ⟨_,_,_,_,_,_,_,_,Tryz.underlying31,⟨rfl,rfl⟩,⟨rfl,rfl⟩,⟨rfl,rfl⟩,⟨rfl,rfl⟩,⟨rfl,rfl⟩,⟨rfl,rfl⟩,⟨rfl,rfl⟩,⟨rfl,rfl⟩⟩
theorem zgu {H:Type} (a b c d e f g h:DataW H):Rows.uptoBulk a≤Rows.uptoBulk (.agg [a,b,c,d,e,f,g,h])∧Rows.uptoBulk b≤Rows.uptoBulk (.agg [a,b,c,d,e,f,g,h])∧Rows.uptoBulk c≤Rows.uptoBulk (.agg [a,b,c,d,e,f,g,h])∧Rows.uptoBulk d≤Rows.uptoBulk (.agg [a,b,c,d,e,f,g,h])∧Rows.uptoBulk e≤Rows.uptoBulk (.agg [a,b,c,d,e,f,g,h])∧Rows.uptoBulk f≤Rows.uptoBulk (.agg [a,b,c,d,e,f,g,h])∧Rows.uptoBulk g≤Rows.uptoBulk (.agg [a,b,c,d,e,f,g,h])∧Rows.uptoBulk h≤Rows.uptoBulk (.agg [a,b,c,d,e,f,g,h]):=by
 have e0:Rows.uptoBulk (.agg [a,b,c,d,e,f,g,h])=Rows.uptoBulkAll [a,b,c,d,e,f,g,h]+1:=by simp only [Rows.uptoBulk]
 have key:∀ x ∈ [a,b,c,d,e,f,g,h],Rows.uptoBulk x≤Rows.uptoBulkAll [a,b,c,d,e,f,g,h]+1:=fun x hx =>Nat.le_succ_of_le (zau _ x hx)
 rw [e0];exact ⟨key a (by simp),key b (by simp),key c (by simp),key d (by simp),key e (by simp),key f (by simp),key g (by simp),key h (by simp)⟩
theorem arg_tab {H:Type} {enc:TypeId × Value→H} {W:World} {cs:Array Value} {d:DataW H} {p:List MemPlace} (h:DataW.Trod enc Tryz.prog W 0 (fun _ =>true) true 31 (.agg cs) d p) (hd:Rows.uptoBulk d≤1048576) :
  ∃ (T:TV) (a0 a1 a2 a3 a4 a5 a6 a7:Option Addr) (c0 c1 c2 c3 c4 c5 c6 c7:Nat) (us:List Value),cs=ze0 T a0 a1 a2 a3 a4 a5 a6 a7 c0 c1 c2 c3 c4 c5 c6 c7∧TabIn W T a0 a1 a2 a3 a4 a5 a6 a7 us∧TabB T∧zdz T:=by
 obtain ⟨fuel,hf⟩:=h;obtain ⟨f0,f1,f2,f3,f4,f5,f6,f7,hu,⟨o0,t0⟩,⟨o1,t1⟩,⟨o2,t2⟩,⟨o3,t3⟩,⟨o4,t4⟩,⟨o5,t5⟩,⟨o6,t6⟩,⟨o7,t7⟩⟩:=zgL;obtain ⟨xs,k,hk,hxy,hcl,hxl,hg⟩:=DataW.trod_struct hu hf;have hc8:(Value.agg cs).cells.toList.length=8:=hcl.trans (by kernel_rfl);have hcs:(Value.agg cs).cells.toList=cs.toList:=by simp [Value.cells]
 obtain ⟨v0,v1,v2,v3,v4,v5,v6,v7,hv⟩:=zkV (hcs ▸ hc8);obtain ⟨x0,x1,x2,x3,x4,x5,x6,x7,rfl⟩:=zkV hxl;have g0:=hg 0 f0 rfl;rw [o0,t0,hcs,hv,show Tryz.prog.cellsOf 25=1 by kernel_rfl] at g0;have g0:DataW.trod enc Tryz.prog W 0 (fun _ =>true) true k 25 [v0]=some x0:=g0;have g1:=hg 1 f1 rfl;rw [o1,t1,hcs,hv,show Tryz.prog.cellsOf 26=1 by kernel_rfl] at g1;have g1:DataW.trod enc Tryz.prog W 0 (fun _ =>true) true k 26 [v1]=some x1:=g1;have g2:=hg 2 f2 rfl;rw [o2,t2,hcs,hv,show Tryz.prog.cellsOf 27=1 by kernel_rfl] at g2;have g2:DataW.trod enc Tryz.prog W 0 (fun _ =>true) true k 27 [v2]=some x2:=g2;have g3:=hg 3 f3 rfl;rw [o3,t3,hcs,hv,show Tryz.prog.cellsOf 28=1 by kernel_rfl] at g3;have g3:DataW.trod enc Tryz.prog W 0 (fun _ =>true) true k 28 [v3]=some x3:=g3;have g4:=hg 4 f4 rfl;rw [o4,t4,hcs,hv,show Tryz.prog.cellsOf 29=1 by kernel_rfl] at g4;have g4:DataW.trod enc Tryz.prog W 0 (fun _ =>true) true k 29 [v4]=some x4:=g4;have g5:=hg 5 f5 rfl;rw [o5,t5,hcs,hv,show Tryz.prog.cellsOf 29=1 by kernel_rfl] at g5;have g5:DataW.trod enc Tryz.prog W 0 (fun _ =>true) true k 29 [v5]=some x5:=g5;have g6:=hg 6 f6 rfl;rw [o6,t6,hcs,hv,show Tryz.prog.cellsOf 26=1 by kernel_rfl] at g6;have g6:DataW.trod enc Tryz.prog W 0 (fun _ =>true) true k 26 [v6]=some x6:=g6;have g7:=hg 7 f7 rfl;rw [o7,t7,hcs,hv,show Tryz.prog.cellsOf 26=1 by kernel_rfl] at g7;have g7:DataW.trod enc Tryz.prog W 0 (fun _ =>true) true k 26 [v7]=some x7:=g7;obtain ⟨z0,a0,c0,rfl,r0,l0,q0⟩:=qZ (fun z:ByteArray × List (Int × Int) × Value => [Value.string z.1,z.2.2]) (ScQ W) 2 (by kernel_rfl) (fun _ =>rfl) (by decide) Tryz.underlying25 zgq g0;obtain ⟨z1,a1,c1,rfl,r1,l1,q1⟩:=qZ (fun s:Int × Int => [Value.int .i32 s.1,.int .i32 s.2]) (fun z _ =>R32 z.1∧R32 z.2) 2 (by kernel_rfl) (fun _ =>rfl) (by decide) Tryz.underlying26 KZ g1;obtain ⟨z2,a2,c2,rfl,r2,l2,q2⟩:=qZ (fun s:Int × Int => [Value.int .i32 s.1,.int .i64 s.2]) (fun z _ =>(-9223372036854775808≤z.2∧z.2≤9223372036854775807)∧R32 z.1) 2 (by kernel_rfl) (fun _ =>rfl) (by decide) Tryz.underlying27 zjA g2;obtain ⟨z3,a3,c3,rfl,r3,l3,q3⟩:=qZ (fun s:Int × Int × Int => [Value.int .i32 s.1,.int .i32 s.2.1,.int .i32 s.2.2]) (fun z _ =>R32 z.1∧R32 z.2.1∧R32 z.2.2) 3 (by kernel_rfl) (fun _ =>rfl) (by decide) Tryz.underlying28 zjz g3;obtain ⟨z4,a4,c4,rfl,r4,l4,q4⟩:=qZ (fun s:Int × ByteArray => [Value.int .i32 s.1,.string s.2]) (fun z d =>z.2.size≤Rows.uptoBulk d∧R32 z.1) 2 (by kernel_rfl) (fun _ =>rfl) (by decide) Tryz.underlying29 ziz g4;obtain ⟨z5,a5,c5,rfl,r5,l5,q5⟩:=qZ (fun s:Int × ByteArray => [Value.int .i32 s.1,.string s.2]) (fun z d =>z.2.size≤Rows.uptoBulk d∧R32 z.1) 2 (by kernel_rfl) (fun _ =>rfl) (by decide) Tryz.underlying29 ziz g5;obtain ⟨z6,a6,c6,rfl,r6,l6,q6⟩:=qZ (fun s:Int × Int => [Value.int .i32 s.1,.int .i32 s.2]) (fun z _ =>R32 z.1∧R32 z.2) 2 (by kernel_rfl) (fun _ =>rfl) (by decide) Tryz.underlying26 KZ g6;obtain ⟨z7,a7,c7,rfl,r7,l7,q7⟩:=qZ (fun s:Int × Int => [Value.int .i32 s.1,.int .i32 s.2]) (fun z _ =>R32 z.1∧R32 z.2) 2 (by kernel_rfl) (fun _ =>rfl) (by decide) Tryz.underlying26 KZ g7;have hdx:d=.agg [x0.1,x1.1,x2.1,x3.1,x4.1,x5.1,x6.1,x7.1]:=congrArg Prod.fst hxy;have hb:=zgu x0.1 x1.1 x2.1 x3.1 x4.1 x5.1 x6.1 x7.1;rw [← hdx] at hb;obtain ⟨b0,b1,b2,b3,b4,b5,b6,b7⟩:=hb;rw [zj3] at r0;rw [ziI] at r1 r6 r7;rw [zj1] at r2;rw [zj0] at r3;rw [zj2] at r4 r5;refine ⟨⟨z0.map fun z =>(z.1,z.2.1),z1,z2,z3,z4,z5,z6,z7,[],[],[],[],[],[],[],[]⟩,a0,a1,a2,a3,a4,a5,a6,a7,c0,c1,c2,c3,c4,c5,c6,c7,z0.map fun z =>z.2.2, ?_, ?_, ?_, ?_⟩
 ·unfold ze0;rw [List.length_map];exact Array.ext' hv
 ·refine ⟨by rw [List.length_map,List.length_map],r0,r1,r2,r3,r4,r5,r6,r7,fun j x u hx hu =>?_⟩;have hx':(z0.map fun z =>(z.1,z.2.1))[j]?=some x:=hx;rw [List.getElem?_map] at hx' hu;obtain ⟨z,hz,rfl⟩:=Option.map_eq_some_iff.1 hx';rw [hz] at hu;obtain rfl:=Zo hu;obtain ⟨dz,⟨_,_,⟨b,c,e,hr⟩,_⟩,_⟩:=q0 z (YH hz);rw [ziI] at hr;exact ⟨b,c,e,hr⟩
 ·refine ⟨by show (z0.map _).length≤_;rw [List.length_map];omega,by show z1.length≤_;omega,by show z2.length≤_;omega,by show z3.length≤_;omega,by show z4.length≤_;omega,by show z5.length≤_;omega,by show z6.length≤_;omega,by show z7.length≤_;omega,fun x hx =>?_,fun x hx =>?_,fun x hx =>?_,fun x hx =>?_⟩
  ·obtain ⟨z,hz,rfl⟩:=List.mem_map.1 (show x ∈ z0.map fun z =>(z.1,z.2.1) from hx);obtain ⟨dz,⟨s1,s2,_⟩,s3⟩:=q0 z hz;exact ⟨by show z.1.size≤_;omega,by show z.2.1.length≤_;omega⟩
  ·obtain ⟨_,⟨s1,_⟩,_⟩:=q2 x hx;exact s1
  ·obtain ⟨dz,⟨s1,_⟩,s2⟩:=q4 x hx;omega
  ·obtain ⟨dz,⟨s1,_⟩,s2⟩:=q5 x hx;omega
 ·refine ⟨fun x hx y hy =>?_,fun y hy =>?_,fun y hy =>?_,fun y hy =>?_,fun y hy =>?_,fun y hy =>?_,fun y hy =>?_,fun y hy =>?_⟩
  ·obtain ⟨z,hz,rfl⟩:=List.mem_map.1 (show x ∈ z0.map fun z =>(z.1,z.2.1) from hx);obtain ⟨dz,⟨_,_,_,s1⟩,_⟩:=q0 z hz;exact s1 y hy
  ·obtain ⟨_,s1,_⟩:=q1 y hy;exact s1
  ·obtain ⟨_,s1,_⟩:=q6 y hy;exact s1
  ·obtain ⟨_,s1,_⟩:=q7 y hy;exact s1
  ·obtain ⟨_,⟨_,s1⟩,_⟩:=q2 y hy;exact s1
  ·obtain ⟨_,s1,_⟩:=q3 y hy;exact s1
  ·obtain ⟨_,⟨_,s1⟩,_⟩:=q4 y hy;exact s1
  ·obtain ⟨_,⟨_,s1⟩,_⟩:=q5 y hy;exact s1
end
section
open Go.RowKit Go.Shelf
set_option maxRecDepth 100000
set_option maxHeartbeats 8000000
theorem QL (v:Nat) (hv:v≤8388607) (w:World):Calls Tryz.prog 96 #[.int .i32 v] w fun e w' =>e=.returned (.bool (Yc v))∧w'=w:=by
 have h0:(0:Int)≤(v:Int):=by omega
 have HV:Hz (Yc v=decide (v≤1114111∧(v < 55296∨57343 < v))):=kz rfl;generalize Yc v=B at *;by_cases h1:v≤1114111
 ·have k1:(v:Int)≤1114111:=by omega
  by_cases h2:v < 55296
  ·have k2:(v:Int) < 55296:=by omega
   go_enter Tryz.func96,Tryz.ntmps96;go_wp2_with fail
   go_ret;exact ⟨by rw [oz HV,JS (show v≤1114111∧(v < 55296∨57343 < v) by omega)];rfl,rfl⟩
  ·have k2:¬ (v:Int) < 55296:=by omega
   by_cases h3:57343 < v
   ·have k3:(57343:Int) < (v:Int):=by omega
    go_enter Tryz.func96,Tryz.ntmps96;go_wp2_with fail
    go_ret;exact ⟨by rw [oz HV,JS (show v≤1114111∧(v < 55296∨57343 < v) by omega)];rfl,rfl⟩
   ·have k3:¬ (57343:Int) < (v:Int):=by omega
    go_enter Tryz.func96,Tryz.ntmps96;go_wp2_with fail
    go_ret;exact ⟨by rw [oz HV,Zq (show ¬ (v≤1114111∧(v < 55296∨57343 < v)) by omega)];rfl,rfl⟩
 ·have k1:¬ (v:Int)≤1114111:=by omega
  go_enter Tryz.func96,Tryz.ntmps96;go_wp2_with fail
  go_ret;exact ⟨by rw [oz HV,Zq (show ¬ (v≤1114111∧(v < 55296∨57343 < v)) by omega)];rfl,rfl⟩
theorem zeU (a:Int) (h0:0≤a) (h1:a < 2147483648):wrap32 a=a:=by unfold wrap32;omega
theorem ziE (r c:Nat) (h1:c < 192) (h2:128≤c) (h3:r < 131072):wrap32 (wrap32 ((r:Int)*64)+((c:Int) - 128))=((r*64+(c - 128):Nat):Int):=by
 rw [zeU ((r:Int)*64) (by omega) (by omega),zeU _ (by omega) (by omega)];omega
theorem Ji {w:World} {ops:Array Oper} {rest:List Oper} {o:Oper} {a:Act} {Q:Exit→Act→World→Prop} (hgd:o.guard=none) (s x:Operand) (T E:TypeId)
  (ho:o.op=.call { callee := .builtin .append,args:=#[s,x],argTypes:=#[T,T] }) (i:TypeInfo) (z:Value) (sz bytes:Nat) (hT:Tryz.prog.underlying T=some (.slice E)) (hi:Tryz.prog.info? E=some i∧i.zero=some z∧i.size=sz∧i.bytes=bytes) (hzs:z.cells.size=sz) (hsz:0 < sz) (hb8:bytes≤64)
  (lo:Nat) (v:Value) (n:Nat) (xs:List Value) (cs:List Value) (hcs:cs.length=sz) (hs:a.eval s=v) (hl:n≤4000000) (W:World) (hW:w=W.alloc (.cells cs.toArray E)) (hu:∀ u ∈ cs,u.oneCell'=true) (hv:W.ownsRow lo E sz v n xs) (hlo:lo≤W.heap.size) (m:Nat) (hm:m=W.heap.size) (hx:a.eval x=.slice (some ⟨m,0,none⟩) 1 1)
  (h:∀ v' w',w'.ownsRow lo E sz v' (n+1) (xs++cs)→(W.alloc (.cells cs.toArray E)).grownBy w' v.ownBlock→wpList Tryz.prog ops Q rest (a.put o.dst v') w'):wpList Tryz.prog ops Q (o::rest) a w:=by
 subst hW;subst hm;have b:=Blk.new W cs.toArray E;refine wpList_append_own _ hgd s x T ho lo E i z sz bytes hT hi.1 hi.2.1 hi.2.2.1 hi.2.2.2 hzs hsz v n xs hs (hv.alloc _) ⟨W.heap.size,0,none⟩ 1 1 cs hx (by omega) (fun j y hj =>?_) hu (by unfold maxLen;omega) ?_ (by simp;omega) (fun v' w' h4 h5 _ =>h v' w' h4 h5)
 ·have e:=b.cell j;rw [List.getElem?_toArray,hj] at e;have ea:(⟨W.heap.size,0,none⟩:Addr).add j=⟨W.heap.size,j,none⟩:=by cases j <;> simp [Addr.add]
  rw [ea];exact e
 ·have:(n+1)*bytes≤4000001*64:=Nat.mul_le_mul (by omega) hb8;omega
structure R6 (W wr:World) (v:Value) (zs:List Int):Prop where
 o:wr.ownsRow W.heap.size 21 1 v zs.length (zb7 zs)
 b:Below W.heap.size W wr
theorem R6.put {W w w':World} {v v':Value} {zs:List Int} {z:Int} {c:Obj} (h:R6 W w v zs) (ho:w'.ownsRow W.heap.size 21 1 v' (zs.length+1) (zb7 zs++[.int .i32 z])) (hg:(w.alloc c).grownBy w' v.ownBlock):R6 W w' v' (zs++[z]):=by
 refine ⟨?_,(h.b.trans ((Below.refl _ w).alloc h.b.size c)).grown hg (by have:=h.b.size;simp;omega) (fun k hk =>jO h.o k hk)⟩;rw [List.length_append];unfold zb7;rw [List.map_append];exact ho
theorem Xm (s:ByteArray) (hs:s.size≤1048576) (W:World):Calls Tryz.prog 102 #[.string s] W fun e w' =>(okU s=true→∃ v,e=.returned (.tuple #[v,.bool true])∧w'.ownsRow W.heap.size 21 1 v (zk s).length (zb7 (zk s)))∧(okU s=false→e=.returned (.tuple #[.slice none 0 0,.bool false]))∧Below W.heap.size W w':=by
 obtain ⟨ii,hii,hi0,hi1,hi2⟩:=info_parts zjq;have HII:=kz (yB hii (yB hi0 (yB hi1 hi2)));clear hii hi0 hi1 hi2;have HS0:Hz (R6 W W (.slice none 0 0) []):=kz ⟨World.ownsRow_nil _ _ _ _,zl⟩;have HR0:=kz (RuQ.start s);go_enter Tryz.func102,Tryz.ntmps102;go_wp2_with fail
 generalize hOK:okU s=OK at *;have HOK:=kz hOK;clear hOK;go_loopw [4,5] (fun ov iv wr => ∃ (i f:Nat) (zs:List Int),iv=.int .i64 i∧i≤s.size∧Hz (RuQ s i f zs)∧Hz (R6 W wr ov zs)) (fun _ iv _ =>s.size - (intOf iv).toNat)
 case atStart =>exact ⟨0,_,[],rfl,Zn _,HR0,HS0⟩
 case round =>
  obtain ⟨i,f,zs,rfl,hi,HR,HS⟩:=hrel;clear HR0 HS0;by_cases hin:i < s.size
  ·have k1:(i:Int) < (s.size:Int):=by omega
   have k2:((i:Nat):Int).toNat=i:=by omega
   obtain ⟨b,hb⟩:∃ b,bt s i=b:=⟨_,rfl⟩;have hg:(s[i]'hin).toNat=b:=by rw [← qQ s i hin];exact hb
   have hb256:=Yr s i;rw [hb] at hb256;have hw:wrap32 ((b:Nat):Int)=(b:Nat):=by unfold wrap32;omega
   by_cases h128:b < 128
   ·have k3:((b:Nat):Int) < 128:=by omega
    obtain ⟨d1,d2,d3⟩:=zjC s i (by rw [hb];exact h128);obtain ⟨f2,hf2⟩:=(oz HR).next hin d3;rw [d1,d2,hb] at hf2;have HR2:=kz hf2;have hzl:=(oz HR).ln;have ho:=(oz HS).o;have HO:=kz ho;obtain ⟨va,vc,rfl⟩:=zQ ho;clear d1 d2 d3 hf2 ho hb;go_wp2_with (at_builtin;refine Ji rfl _ _ 165 21 rfl ii (.int .i32 0) 1 4 Tryz.underlying165 (oz HII) rfl (by decide) (by decide) W.heap.size _ zs.length (zb7 zs) [.int .i32 b] rfl rfl (by omega) wr rfl (by intro u hu;simp at hu;rw [hu];rfl) (oz HO) (oz HS).b.size _ rfl rfl ?_)
    intro v' w' hown hgrow;have HS2:=kz ((oz HS).put (z:=((b:Nat):Int)) hown hgrow);clear hown hgrow;go_wp2_with fail
    exact ⟨⟨i+1,f2,_,by first | rfl | (congr 1;omega),by omega,HR2,HS2⟩,by simp [intOf];omega⟩
   ·have k3:¬ ((b:Nat):Int) < 128:=by omega
    by_cases c1:192≤b∧b < 224
    ·obtain ⟨c1a,c1b⟩:=c1;have t1a:(192:Int)≤((b:Nat):Int):=by omega
     have t1b:((b:Nat):Int) < 224:=by omega
     obtain ⟨r0,hr0⟩:∃ r0:Nat,r0=qD s i 192 0:=⟨_,rfl⟩;have hr1:((b:Nat):Int) - 192=((r0:Nat):Int):=by
      rw [hr0];show _=((bt s i - 192:Nat):Int);omega
     have HR1:Hz (r0=qD s i 192 (1 - 1)∧∀ q,1≤q→q < 1→Y3 s (i+q)):=kz ⟨hr0,fun q a c =>by omega⟩;have hw2:wrap32 (((b:Nat):Int) - 192)=((b:Nat):Int) - 192:=by unfold wrap32;omega
     clear hr0;go_wp2_with fail
     go_loopw [8,9] (fun rv kv wq => ∃ (r k:Nat),rv=.int .i32 r∧kv=.int .i64 k∧1≤k∧k≤1+1∧wq=wr∧Hz (r=qD s i 192 (k - 1)∧∀ q,1≤q→q < k→Y3 s (i+q))) (fun _ kv _ =>1+1 - (intOf kv).toNat)
     case atStart =>exact ⟨r0,1,by first | rfl | rw [hr1],rfl,zD,by omega,rfl,HR1⟩
     case round =>
      obtain ⟨r,k,rfl,rfl,hk1,hk2,rfl,HC⟩:=hrel;clear HR1 hr1 hw2;have hrb:r < 32*64 ^ (k - 1):=by rw [(oz HC).1];exact KG s i 192 (by omega) (k - 1) (fun q a c =>(oz HC).2 q a (by omega))
      by_cases hkn:k≤1
      ·have k5:((k:Nat):Int)≤1:=by omega
       obtain ⟨e,he0⟩:∃ e:Nat,e=i+k:=⟨_,rfl⟩;have k6:((i:Nat):Int)+((k:Nat):Int)=((e:Nat):Int):=by omega
       have k7:((e:Nat):Int).toNat=e:=by omega
       have HE:=kz he0;clear he0;by_cases hes:e < s.size
       ·have k8:¬ ((s.size:Nat):Int)≤((e:Nat):Int):=by omega
        have k8b:((e:Nat):Int) < ((s.size:Nat):Int):=by omega
        obtain ⟨c,hc⟩:∃ c,bt s e=c:=⟨_,rfl⟩;have hgc:(s[e]'hes).toNat=c:=by rw [← qQ s e hes];exact hc
        have hc256:=Yr s e;rw [hc] at hc256;by_cases hc1:c < 128
        ·have k9:((c:Nat):Int) < 128:=by omega
         have HF:=kz ((oz HR).bad hin (XL s i 1 (by decide) (by rw [hb];show 192≤b;omega) (by rw [hb];show b < 224;omega) (fun z =>by have:=z.1 k hk1 hkn;rw [← oz HE] at this;have:=this.2.1;rw [hc] at this;omega)));have HB:=kz (oz HS).b;clear hb hc hrb;go_wp2_with fail
         refine XS (v := .tuple #[.slice none 0 0,.bool false]) (by simp [results,Tryz.results102,go_sem]) rfl ⟨fun h =>?_,fun _ =>rfl,oz HB⟩;rw [oz HF] at h;cases h
        ·have k9:¬ ((c:Nat):Int) < 128:=by omega
         by_cases hc2:c < 192
         ·have k10:¬ (192:Int)≤((c:Nat):Int):=by omega
          have hrb3:r < 131072:=zaY hrb (Nat.le_trans (Nat.mul_le_mul_left 32 (Nat.pow_le_pow_right (by decide) (show k - 1≤2 by omega))) (by decide));have HN:Hz (r*64+(c - 128)=qD s i 192 (k+1 - 1)∧∀ q,1≤q→q < k+1→Y3 s (i+q)):=kz ⟨by
           obtain ⟨j,rfl⟩:∃ j,k=j+1:=⟨k - 1,by omega⟩;show _=qD s i 192 j*64+(bt s (i+(j+1)) - 128);rw [(oz HC).1, ← oz HE,hc];rfl,fun q a d =>by
           rcases Nat.lt_or_ge q k with z | z
           ·exact (oz HC).2 q a z
           ·obtain rfl:q=k:=by omega
            rw [← oz HE];exact ⟨hes,by rw [hc];omega,by rw [hc];omega⟩⟩
          have HDD:Hz (c < 192∧128≤c∧r < 131072):=kz ⟨hc2,by omega,hrb3⟩;clear hrb hrb3 hc1 hc2 hc256 hc hb HC;go_wp2_with fail
          obtain ⟨x1,x2,x3⟩:=oz HDD;exact ⟨⟨r*64+(c - 128),k+1,by rw [ziE r c x1 x2 x3],rfl,by omega,by omega,trivial,HN⟩,by simp [intOf];omega⟩
         ·have k10:(192:Int)≤((c:Nat):Int):=by omega
          have HF:=kz ((oz HR).bad hin (XL s i 1 (by decide) (by rw [hb];show 192≤b;omega) (by rw [hb];show b < 224;omega) (fun z =>by have:=z.1 k hk1 hkn;rw [← oz HE] at this;have:=this.2.2;rw [hc] at this;omega)));have HB:=kz (oz HS).b;clear hb hc hrb;go_wp2_with fail
          refine XS (v := .tuple #[.slice none 0 0,.bool false]) (by simp [results,Tryz.results102,go_sem]) rfl ⟨fun h =>?_,fun _ =>rfl,oz HB⟩;rw [oz HF] at h;cases h
       ·have k8:((s.size:Nat):Int)≤((e:Nat):Int):=by omega
        have HF:=kz ((oz HR).bad hin (XL s i 1 (by decide) (by rw [hb];show 192≤b;omega) (by rw [hb];show b < 224;omega) (fun z =>by have:=z.1 k hk1 hkn;rw [← oz HE] at this;exact hes this.1)));have HB:=kz (oz HS).b;clear hb hrb;go_wp2_with fail
        refine XS (v := .tuple #[.slice none 0 0,.bool false]) (by simp [results,Tryz.results102,go_sem]) rfl ⟨fun h =>?_,fun _ =>rfl,oz HB⟩;rw [oz HF] at h;cases h
      ·have k5:¬ ((k:Nat):Int)≤1:=by omega
       obtain rfl:k=2:=by omega
       have hrb3:r < 8388608:=zaY hrb (by decide);have hrv:r=qD s i 192 1:=(oz HC).1;have hcc:∀ q,1≤q→q≤1→Y3 s (i+q):=fun q a c =>(oz HC).2 q a (by omega)
       by_cases hl:r < 128
       ·have k6:((r:Nat):Int) < 128:=by omega
        have HF:=kz ((oz HR).bad hin (XL s i 1 (by decide) (by rw [hb];show 192≤b;omega) (by rw [hb];show b < 224;omega) (fun z =>by have z2:128≤qD s i 192 1:=z.2.1;rw [← hrv] at z2;omega)));have HB:=kz (oz HS).b;clear hb hrb hrv hcc hrb3 HC;go_wp2_with fail
        refine XS (v := .tuple #[.slice none 0 0,.bool false]) (by simp [results,Tryz.results102,go_sem]) rfl ⟨fun h =>?_,fun _ =>rfl,oz HB⟩;rw [oz HF] at h;cases h
       ·have k6:¬ ((r:Nat):Int) < 128:=by omega
        have HRU:=kz (QL r (by omega) wr);cases hsc:Yc r with
        | false =>
         rw [hsc] at HRU;have HF:=kz ((oz HR).bad hin (XL s i 1 (by decide) (by rw [hb];show 192≤b;omega) (by rw [hb];show b < 224;omega) (fun z =>by have z2:Yc (qD s i 192 1)=true:=z.2.2;rw [← hrv,hsc] at z2;cases z2)));have HB:=kz (oz HS).b;clear hb hrb hrv hcc hrb3 HC hsc;go_wp2_with (go_at_call 96;refine (oz HRU).mono ?_;rintro e wn ⟨rfl,hwn⟩;subst wn)
         refine XS (v := .tuple #[.slice none 0 0,.bool false]) (by simp [results,Tryz.results102,go_sem]) rfl ⟨fun h =>?_,fun _ =>rfl,oz HB⟩;rw [oz HF] at h;cases h
        | true =>
         rw [hsc] at HRU;obtain ⟨d1,d2,d3⟩:=zb8 s i 1 (by decide) (by rw [hb];show 192≤b;omega) (by rw [hb];show b < 224;omega) hcc (by show 128≤qD s i 192 1;rw [← hrv];omega) (by show Yc (qD s i 192 1)=true;rw [← hrv];exact hsc);obtain ⟨f2,hf2⟩:=(oz HR).next hin d3;have d1b:rn s i=r:=d1.trans hrv.symm;rw [d1b,d2] at hf2;have HR2:=kz hf2;have hwr:i+2≤s.size:=by have:=Jk s i hin;rw [d2] at this;exact this
         have hzl:=(oz HR).ln;have ho:=(oz HS).o;have HO:=kz ho;obtain ⟨va,vc,rfl⟩:=zQ ho;clear d1 d2 d3 d1b hf2 ho hb hrb hrv hcc hrb3 HC hsc;go_wp2_with (first | (go_at_call 96;refine (oz HRU).mono ?_;rintro e wn ⟨rfl,hwn⟩;subst wn) | (at_builtin;refine Ji rfl _ _ 165 21 rfl ii (.int .i32 0) 1 4 Tryz.underlying165 (oz HII) rfl (by decide) (by decide) W.heap.size _ zs.length (zb7 zs) [.int .i32 r] rfl rfl (by omega) wr rfl (by intro u hu;simp at hu;rw [hu];rfl) (oz HO) (oz HS).b.size _ rfl rfl ?_))
         intro v' w' hown hgrow;have HS2:=kz ((oz HS).put (z:=((r:Nat):Int)) hown hgrow);clear hown hgrow;go_wp2_with fail
         exact ⟨⟨i+2,f2,_,by first | rfl | (congr 1;omega),hwr,HR2,HS2⟩,by simp [intOf];omega⟩
    ·have z1:=c1;clear c1;by_cases c1:224≤b∧b < 240
     ·obtain ⟨c1a,c1b⟩:=c1;have t1a:(192:Int)≤((b:Nat):Int):=by omega
      have t1b:¬ ((b:Nat):Int) < 224:=by omega
      have t2a:(224:Int)≤((b:Nat):Int):=by omega
      have t2b:((b:Nat):Int) < 240:=by omega
      obtain ⟨r0,hr0⟩:∃ r0:Nat,r0=qD s i 224 0:=⟨_,rfl⟩;have hr1:((b:Nat):Int) - 224=((r0:Nat):Int):=by
       rw [hr0];show _=((bt s i - 224:Nat):Int);omega
      have HR1:Hz (r0=qD s i 224 (1 - 1)∧∀ q,1≤q→q < 1→Y3 s (i+q)):=kz ⟨hr0,fun q a c =>by omega⟩;have hw2:wrap32 (((b:Nat):Int) - 224)=((b:Nat):Int) - 224:=by unfold wrap32;omega
      clear hr0;go_wp2_with fail
      go_loopw [8,9] (fun rv kv wq => ∃ (r k:Nat),rv=.int .i32 r∧kv=.int .i64 k∧1≤k∧k≤2+1∧wq=wr∧Hz (r=qD s i 224 (k - 1)∧∀ q,1≤q→q < k→Y3 s (i+q))) (fun _ kv _ =>2+1 - (intOf kv).toNat)
      case atStart =>exact ⟨r0,1,by first | rfl | rw [hr1],rfl,zD,by omega,rfl,HR1⟩
      case round =>
       obtain ⟨r,k,rfl,rfl,hk1,hk2,rfl,HC⟩:=hrel;clear HR1 hr1 hw2;have hrb:r < 32*64 ^ (k - 1):=by rw [(oz HC).1];exact KG s i 224 (by omega) (k - 1) (fun q a c =>(oz HC).2 q a (by omega))
       by_cases hkn:k≤2
       ·have k5:((k:Nat):Int)≤2:=by omega
        obtain ⟨e,he0⟩:∃ e:Nat,e=i+k:=⟨_,rfl⟩;have k6:((i:Nat):Int)+((k:Nat):Int)=((e:Nat):Int):=by omega
        have k7:((e:Nat):Int).toNat=e:=by omega
        have HE:=kz he0;clear he0;by_cases hes:e < s.size
        ·have k8:¬ ((s.size:Nat):Int)≤((e:Nat):Int):=by omega
         have k8b:((e:Nat):Int) < ((s.size:Nat):Int):=by omega
         obtain ⟨c,hc⟩:∃ c,bt s e=c:=⟨_,rfl⟩;have hgc:(s[e]'hes).toNat=c:=by rw [← qQ s e hes];exact hc
         have hc256:=Yr s e;rw [hc] at hc256;by_cases hc1:c < 128
         ·have k9:((c:Nat):Int) < 128:=by omega
          have HF:=kz ((oz HR).bad hin (XL s i 2 (by decide) (by rw [hb];show 224≤b;omega) (by rw [hb];show b < 240;omega) (fun z =>by have:=z.1 k hk1 hkn;rw [← oz HE] at this;have:=this.2.1;rw [hc] at this;omega)));have HB:=kz (oz HS).b;clear hb hc hrb;go_wp2_with fail
          refine XS (v := .tuple #[.slice none 0 0,.bool false]) (by simp [results,Tryz.results102,go_sem]) rfl ⟨fun h =>?_,fun _ =>rfl,oz HB⟩;rw [oz HF] at h;cases h
         ·have k9:¬ ((c:Nat):Int) < 128:=by omega
          by_cases hc2:c < 192
          ·have k10:¬ (192:Int)≤((c:Nat):Int):=by omega
           have hrb3:r < 131072:=zaY hrb (Nat.le_trans (Nat.mul_le_mul_left 32 (Nat.pow_le_pow_right (by decide) (show k - 1≤2 by omega))) (by decide));have HN:Hz (r*64+(c - 128)=qD s i 224 (k+1 - 1)∧∀ q,1≤q→q < k+1→Y3 s (i+q)):=kz ⟨by
            obtain ⟨j,rfl⟩:∃ j,k=j+1:=⟨k - 1,by omega⟩;show _=qD s i 224 j*64+(bt s (i+(j+1)) - 128);rw [(oz HC).1, ← oz HE,hc];rfl,fun q a d =>by
            rcases Nat.lt_or_ge q k with z | z
            ·exact (oz HC).2 q a z
            ·obtain rfl:q=k:=by omega
             rw [← oz HE];exact ⟨hes,by rw [hc];omega,by rw [hc];omega⟩⟩
           have HDD:Hz (c < 192∧128≤c∧r < 131072):=kz ⟨hc2,by omega,hrb3⟩;clear hrb hrb3 hc1 hc2 hc256 hc hb HC;go_wp2_with fail
           obtain ⟨x1,x2,x3⟩:=oz HDD;exact ⟨⟨r*64+(c - 128),k+1,by rw [ziE r c x1 x2 x3],rfl,by omega,by omega,trivial,HN⟩,by simp [intOf];omega⟩
          ·have k10:(192:Int)≤((c:Nat):Int):=by omega
           have HF:=kz ((oz HR).bad hin (XL s i 2 (by decide) (by rw [hb];show 224≤b;omega) (by rw [hb];show b < 240;omega) (fun z =>by have:=z.1 k hk1 hkn;rw [← oz HE] at this;have:=this.2.2;rw [hc] at this;omega)));have HB:=kz (oz HS).b;clear hb hc hrb;go_wp2_with fail
           refine XS (v := .tuple #[.slice none 0 0,.bool false]) (by simp [results,Tryz.results102,go_sem]) rfl ⟨fun h =>?_,fun _ =>rfl,oz HB⟩;rw [oz HF] at h;cases h
        ·have k8:((s.size:Nat):Int)≤((e:Nat):Int):=by omega
         have HF:=kz ((oz HR).bad hin (XL s i 2 (by decide) (by rw [hb];show 224≤b;omega) (by rw [hb];show b < 240;omega) (fun z =>by have:=z.1 k hk1 hkn;rw [← oz HE] at this;exact hes this.1)));have HB:=kz (oz HS).b;clear hb hrb;go_wp2_with fail
         refine XS (v := .tuple #[.slice none 0 0,.bool false]) (by simp [results,Tryz.results102,go_sem]) rfl ⟨fun h =>?_,fun _ =>rfl,oz HB⟩;rw [oz HF] at h;cases h
       ·have k5:¬ ((k:Nat):Int)≤2:=by omega
        obtain rfl:k=3:=by omega
        have hrb3:r < 8388608:=zaY hrb (by decide);have hrv:r=qD s i 224 2:=(oz HC).1;have hcc:∀ q,1≤q→q≤2→Y3 s (i+q):=fun q a c =>(oz HC).2 q a (by omega)
        by_cases hl:r < 2048
        ·have k6:((r:Nat):Int) < 2048:=by omega
         have HF:=kz ((oz HR).bad hin (XL s i 2 (by decide) (by rw [hb];show 224≤b;omega) (by rw [hb];show b < 240;omega) (fun z =>by have z2:2048≤qD s i 224 2:=z.2.1;rw [← hrv] at z2;omega)));have HB:=kz (oz HS).b;clear hb hrb hrv hcc hrb3 HC;go_wp2_with fail
         refine XS (v := .tuple #[.slice none 0 0,.bool false]) (by simp [results,Tryz.results102,go_sem]) rfl ⟨fun h =>?_,fun _ =>rfl,oz HB⟩;rw [oz HF] at h;cases h
        ·have k6:¬ ((r:Nat):Int) < 2048:=by omega
         have HRU:=kz (QL r (by omega) wr);cases hsc:Yc r with
         | false =>
          rw [hsc] at HRU;have HF:=kz ((oz HR).bad hin (XL s i 2 (by decide) (by rw [hb];show 224≤b;omega) (by rw [hb];show b < 240;omega) (fun z =>by have z2:Yc (qD s i 224 2)=true:=z.2.2;rw [← hrv,hsc] at z2;cases z2)));have HB:=kz (oz HS).b;clear hb hrb hrv hcc hrb3 HC hsc;go_wp2_with (go_at_call 96;refine (oz HRU).mono ?_;rintro e wn ⟨rfl,hwn⟩;subst wn)
          refine XS (v := .tuple #[.slice none 0 0,.bool false]) (by simp [results,Tryz.results102,go_sem]) rfl ⟨fun h =>?_,fun _ =>rfl,oz HB⟩;rw [oz HF] at h;cases h
         | true =>
          rw [hsc] at HRU;obtain ⟨d1,d2,d3⟩:=zb8 s i 2 (by decide) (by rw [hb];show 224≤b;omega) (by rw [hb];show b < 240;omega) hcc (by show 2048≤qD s i 224 2;rw [← hrv];omega) (by show Yc (qD s i 224 2)=true;rw [← hrv];exact hsc);obtain ⟨f2,hf2⟩:=(oz HR).next hin d3;have d1b:rn s i=r:=d1.trans hrv.symm;rw [d1b,d2] at hf2;have HR2:=kz hf2;have hwr:i+3≤s.size:=by have:=Jk s i hin;rw [d2] at this;exact this
          have hzl:=(oz HR).ln;have ho:=(oz HS).o;have HO:=kz ho;obtain ⟨va,vc,rfl⟩:=zQ ho;clear d1 d2 d3 d1b hf2 ho hb hrb hrv hcc hrb3 HC hsc;go_wp2_with (first | (go_at_call 96;refine (oz HRU).mono ?_;rintro e wn ⟨rfl,hwn⟩;subst wn) | (at_builtin;refine Ji rfl _ _ 165 21 rfl ii (.int .i32 0) 1 4 Tryz.underlying165 (oz HII) rfl (by decide) (by decide) W.heap.size _ zs.length (zb7 zs) [.int .i32 r] rfl rfl (by omega) wr rfl (by intro u hu;simp at hu;rw [hu];rfl) (oz HO) (oz HS).b.size _ rfl rfl ?_))
          intro v' w' hown hgrow;have HS2:=kz ((oz HS).put (z:=((r:Nat):Int)) hown hgrow);clear hown hgrow;go_wp2_with fail
          exact ⟨⟨i+3,f2,_,by first | rfl | (congr 1;omega),hwr,HR2,HS2⟩,by simp [intOf];omega⟩
     ·have z2:=c1;clear c1;by_cases c1:240≤b∧b < 248
      ·obtain ⟨c1a,c1b⟩:=c1;have t1a:(192:Int)≤((b:Nat):Int):=by omega
       have t1b:¬ ((b:Nat):Int) < 224:=by omega
       have t2a:(224:Int)≤((b:Nat):Int):=by omega
       have t2b:¬ ((b:Nat):Int) < 240:=by omega
       have t3a:(240:Int)≤((b:Nat):Int):=by omega
       have t3b:((b:Nat):Int) < 248:=by omega
       obtain ⟨r0,hr0⟩:∃ r0:Nat,r0=qD s i 240 0:=⟨_,rfl⟩;have hr1:((b:Nat):Int) - 240=((r0:Nat):Int):=by
        rw [hr0];show _=((bt s i - 240:Nat):Int);omega
       have HR1:Hz (r0=qD s i 240 (1 - 1)∧∀ q,1≤q→q < 1→Y3 s (i+q)):=kz ⟨hr0,fun q a c =>by omega⟩;have hw2:wrap32 (((b:Nat):Int) - 240)=((b:Nat):Int) - 240:=by unfold wrap32;omega
       clear hr0;go_wp2_with fail
       go_loopw [8,9] (fun rv kv wq => ∃ (r k:Nat),rv=.int .i32 r∧kv=.int .i64 k∧1≤k∧k≤3+1∧wq=wr∧Hz (r=qD s i 240 (k - 1)∧∀ q,1≤q→q < k→Y3 s (i+q))) (fun _ kv _ =>3+1 - (intOf kv).toNat)
       case atStart =>exact ⟨r0,1,by first | rfl | rw [hr1],rfl,zD,by omega,rfl,HR1⟩
       case round =>
        obtain ⟨r,k,rfl,rfl,hk1,hk2,rfl,HC⟩:=hrel;clear HR1 hr1 hw2;have hrb:r < 32*64 ^ (k - 1):=by rw [(oz HC).1];exact KG s i 240 (by omega) (k - 1) (fun q a c =>(oz HC).2 q a (by omega))
        by_cases hkn:k≤3
        ·have k5:((k:Nat):Int)≤3:=by omega
         obtain ⟨e,he0⟩:∃ e:Nat,e=i+k:=⟨_,rfl⟩;have k6:((i:Nat):Int)+((k:Nat):Int)=((e:Nat):Int):=by omega
         have k7:((e:Nat):Int).toNat=e:=by omega
         have HE:=kz he0;clear he0;by_cases hes:e < s.size
         ·have k8:¬ ((s.size:Nat):Int)≤((e:Nat):Int):=by omega
          have k8b:((e:Nat):Int) < ((s.size:Nat):Int):=by omega
          obtain ⟨c,hc⟩:∃ c,bt s e=c:=⟨_,rfl⟩;have hgc:(s[e]'hes).toNat=c:=by rw [← qQ s e hes];exact hc
          have hc256:=Yr s e;rw [hc] at hc256;by_cases hc1:c < 128
          ·have k9:((c:Nat):Int) < 128:=by omega
           have HF:=kz ((oz HR).bad hin (XL s i 3 (by decide) (by rw [hb];show 240≤b;omega) (by rw [hb];show b < 248;omega) (fun z =>by have:=z.1 k hk1 hkn;rw [← oz HE] at this;have:=this.2.1;rw [hc] at this;omega)));have HB:=kz (oz HS).b;clear hb hc hrb;go_wp2_with fail
           refine XS (v := .tuple #[.slice none 0 0,.bool false]) (by simp [results,Tryz.results102,go_sem]) rfl ⟨fun h =>?_,fun _ =>rfl,oz HB⟩;rw [oz HF] at h;cases h
          ·have k9:¬ ((c:Nat):Int) < 128:=by omega
           by_cases hc2:c < 192
           ·have k10:¬ (192:Int)≤((c:Nat):Int):=by omega
            have hrb3:r < 131072:=zaY hrb (Nat.le_trans (Nat.mul_le_mul_left 32 (Nat.pow_le_pow_right (by decide) (show k - 1≤2 by omega))) (by decide));have HN:Hz (r*64+(c - 128)=qD s i 240 (k+1 - 1)∧∀ q,1≤q→q < k+1→Y3 s (i+q)):=kz ⟨by
             obtain ⟨j,rfl⟩:∃ j,k=j+1:=⟨k - 1,by omega⟩;show _=qD s i 240 j*64+(bt s (i+(j+1)) - 128);rw [(oz HC).1, ← oz HE,hc];rfl,fun q a d =>by
             rcases Nat.lt_or_ge q k with z | z
             ·exact (oz HC).2 q a z
             ·obtain rfl:q=k:=by omega
              rw [← oz HE];exact ⟨hes,by rw [hc];omega,by rw [hc];omega⟩⟩
            have HDD:Hz (c < 192∧128≤c∧r < 131072):=kz ⟨hc2,by omega,hrb3⟩;clear hrb hrb3 hc1 hc2 hc256 hc hb HC;go_wp2_with fail
            obtain ⟨x1,x2,x3⟩:=oz HDD;exact ⟨⟨r*64+(c - 128),k+1,by rw [ziE r c x1 x2 x3],rfl,by omega,by omega,trivial,HN⟩,by simp [intOf];omega⟩
           ·have k10:(192:Int)≤((c:Nat):Int):=by omega
            have HF:=kz ((oz HR).bad hin (XL s i 3 (by decide) (by rw [hb];show 240≤b;omega) (by rw [hb];show b < 248;omega) (fun z =>by have:=z.1 k hk1 hkn;rw [← oz HE] at this;have:=this.2.2;rw [hc] at this;omega)));have HB:=kz (oz HS).b;clear hb hc hrb;go_wp2_with fail
            refine XS (v := .tuple #[.slice none 0 0,.bool false]) (by simp [results,Tryz.results102,go_sem]) rfl ⟨fun h =>?_,fun _ =>rfl,oz HB⟩;rw [oz HF] at h;cases h
         ·have k8:((s.size:Nat):Int)≤((e:Nat):Int):=by omega
          have HF:=kz ((oz HR).bad hin (XL s i 3 (by decide) (by rw [hb];show 240≤b;omega) (by rw [hb];show b < 248;omega) (fun z =>by have:=z.1 k hk1 hkn;rw [← oz HE] at this;exact hes this.1)));have HB:=kz (oz HS).b;clear hb hrb;go_wp2_with fail
          refine XS (v := .tuple #[.slice none 0 0,.bool false]) (by simp [results,Tryz.results102,go_sem]) rfl ⟨fun h =>?_,fun _ =>rfl,oz HB⟩;rw [oz HF] at h;cases h
        ·have k5:¬ ((k:Nat):Int)≤3:=by omega
         obtain rfl:k=4:=by omega
         have hrb3:r < 8388608:=zaY hrb (by decide);have hrv:r=qD s i 240 3:=(oz HC).1;have hcc:∀ q,1≤q→q≤3→Y3 s (i+q):=fun q a c =>(oz HC).2 q a (by omega)
         by_cases hl:r < 65536
         ·have k6:((r:Nat):Int) < 65536:=by omega
          have HF:=kz ((oz HR).bad hin (XL s i 3 (by decide) (by rw [hb];show 240≤b;omega) (by rw [hb];show b < 248;omega) (fun z =>by have z2:65536≤qD s i 240 3:=z.2.1;rw [← hrv] at z2;omega)));have HB:=kz (oz HS).b;clear hb hrb hrv hcc hrb3 HC;go_wp2_with fail
          refine XS (v := .tuple #[.slice none 0 0,.bool false]) (by simp [results,Tryz.results102,go_sem]) rfl ⟨fun h =>?_,fun _ =>rfl,oz HB⟩;rw [oz HF] at h;cases h
         ·have k6:¬ ((r:Nat):Int) < 65536:=by omega
          have HRU:=kz (QL r (by omega) wr);cases hsc:Yc r with
          | false =>
           rw [hsc] at HRU;have HF:=kz ((oz HR).bad hin (XL s i 3 (by decide) (by rw [hb];show 240≤b;omega) (by rw [hb];show b < 248;omega) (fun z =>by have z2:Yc (qD s i 240 3)=true:=z.2.2;rw [← hrv,hsc] at z2;cases z2)));have HB:=kz (oz HS).b;clear hb hrb hrv hcc hrb3 HC hsc;go_wp2_with (go_at_call 96;refine (oz HRU).mono ?_;rintro e wn ⟨rfl,hwn⟩;subst wn)
           refine XS (v := .tuple #[.slice none 0 0,.bool false]) (by simp [results,Tryz.results102,go_sem]) rfl ⟨fun h =>?_,fun _ =>rfl,oz HB⟩;rw [oz HF] at h;cases h
          | true =>
           rw [hsc] at HRU;obtain ⟨d1,d2,d3⟩:=zb8 s i 3 (by decide) (by rw [hb];show 240≤b;omega) (by rw [hb];show b < 248;omega) hcc (by show 65536≤qD s i 240 3;rw [← hrv];omega) (by show Yc (qD s i 240 3)=true;rw [← hrv];exact hsc);obtain ⟨f2,hf2⟩:=(oz HR).next hin d3;have d1b:rn s i=r:=d1.trans hrv.symm;rw [d1b,d2] at hf2;have HR2:=kz hf2;have hwr:i+4≤s.size:=by have:=Jk s i hin;rw [d2] at this;exact this
           have hzl:=(oz HR).ln;have ho:=(oz HS).o;have HO:=kz ho;obtain ⟨va,vc,rfl⟩:=zQ ho;clear d1 d2 d3 d1b hf2 ho hb hrb hrv hcc hrb3 HC hsc;go_wp2_with (first | (go_at_call 96;refine (oz HRU).mono ?_;rintro e wn ⟨rfl,hwn⟩;subst wn) | (at_builtin;refine Ji rfl _ _ 165 21 rfl ii (.int .i32 0) 1 4 Tryz.underlying165 (oz HII) rfl (by decide) (by decide) W.heap.size _ zs.length (zb7 zs) [.int .i32 r] rfl rfl (by omega) wr rfl (by intro u hu;simp at hu;rw [hu];rfl) (oz HO) (oz HS).b.size _ rfl rfl ?_))
           intro v' w' hown hgrow;have HS2:=kz ((oz HS).put (z:=((r:Nat):Int)) hown hgrow);clear hown hgrow;go_wp2_with fail
           exact ⟨⟨i+4,f2,_,by first | rfl | (congr 1;omega),hwr,HR2,HS2⟩,by simp [intOf];omega⟩
      ·have z3:=c1;clear c1;by_cases c1:b < 192
       ·have t1:¬ (192:Int)≤((b:Nat):Int):=by omega
        have t2:¬ (224:Int)≤((b:Nat):Int):=by omega
        have t3:¬ (240:Int)≤((b:Nat):Int):=by omega
        have HF:=kz ((oz HR).bad hin (zdp s i (by rw [hb];omega)));have HB:=kz (oz HS).b;clear hb;go_wp2_with fail
        refine XS (v := .tuple #[.slice none 0 0,.bool false]) (by simp [results,Tryz.results102,go_sem]) rfl ⟨fun h =>?_,fun _ =>rfl,oz HB⟩;rw [oz HF] at h;cases h
       ·have t1:(192:Int)≤((b:Nat):Int):=by omega
        have t1b:¬ ((b:Nat):Int) < 224:=by omega
        have t2:(224:Int)≤((b:Nat):Int):=by omega
        have t2b:¬ ((b:Nat):Int) < 240:=by omega
        have t3:(240:Int)≤((b:Nat):Int):=by omega
        have t3b:¬ ((b:Nat):Int) < 248:=by omega
        have HF:=kz ((oz HR).bad hin (zdp s i (by rw [hb];omega)));have HB:=kz (oz HS).b;clear hb;go_wp2_with fail
        refine XS (v := .tuple #[.slice none 0 0,.bool false]) (by simp [results,Tryz.results102,go_sem]) rfl ⟨fun h =>?_,fun _ =>rfl,oz HB⟩;rw [oz HF] at h;cases h
  ·have k1:¬ (i:Int) < (s.size:Int):=by omega
   obtain ⟨h1,h2⟩:=(oz HR).fin hin;rw [oz HOK] at h1;subst h1;have H2:=kz h2;clear h2;go_wp2_with fail
   refine XS (v := .tuple #[u4,.bool true]) (by simp [results,Tryz.results102,go_sem]) rfl ⟨fun _ =>⟨_,rfl,by rw [oz H2];exact (oz HS).o⟩,fun h =>?_,(oz HS).b⟩;rw [oz HOK] at h;cases h
end
end Go.Proofs.YthchopdfmchpkaaGreat
