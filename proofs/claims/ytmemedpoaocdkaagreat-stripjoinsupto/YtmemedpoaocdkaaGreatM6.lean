/- Texts of this claim, one behind the other. -/
import Derived.Test.YtmemedpoaocdkaaGreatM5
import Derived.Test.YtmemedpoaocdkaaGreatRows
import Derived.Test.YtmemedpoaocdkaaGreatM3
import Derived.ProofKit
import Derived.OpenShut
import Derived.ChangeOld
import Derived.Deep.SlicePairs
/- A Book of tables: mathematics of right rows. -/
namespace Go.Proofs.YtmemedpoaocdkaaGreat
open Go.RowKit Go.Shelf
set_option linter.unusedVariables false
theorem zcs {list:Int} {n m:Nat} (h:(zfE list n m).1=0):n≤m:=by
 unfold zfE at h
 by_cases e:n≤m
 ·exact e
 ·rw [if_neg e] at h
  exact absurd (show (4:Int)=0 from h) (by decide)
theorem zcg {list:Int} {n:Nat} {f:Nat→Int} (h:(zaG list n f).1=0):∀ i,i < n→f i=0:=by
 rcases zdF list n f with ⟨k,h1,h2,h3,e⟩ | ⟨h1,_⟩
 ·rw [e] at h
  exact absurd h h3
 ·exact h1
theorem zbU {α : Type} {l:List α} {d x : α} {i:Nat} (h:l[i]?=some x):l.getD i d=x:=by simp [List.getD,h]
theorem zll {α : Type} {l:List α} {x : α} (h:x ∈ l):∃ i,i < l.length∧l[i]?=some x:=by
 obtain ⟨i,hi,e⟩:=List.getElem_of_mem h
 exact ⟨i,hi,by rw [List.getElem?_eq_getElem hi,e]⟩
theorem zdw {α : Type} {list:Int} {l:List α} {d : α} {f : α→Int} (h:(zaj list l d f).1=0):∀ x ∈ l,f x=0:=fun x hx =>by
 obtain ⟨i,hi,e⟩:=zll hx
 have:=zcg h i hi
 rwa [zbU e] at this
theorem zor {α β : Type} [BEq β] [LawfulBEq β] {l:List α} {d : α} {key : α→β} (h:∀ i,i < l.length→twF l d key i=0):l.Pairwise (fun x y =>key x≠key y):=by
 rw [List.pairwise_iff_getElem]
 intro i j hi hj hij e
 have:=h j hj
 unfold twF at this
 rw [zbU (List.getElem?_eq_getElem hj),if_pos (List.any_eq_true.2 ⟨l[i],List.mem_take_iff_getElem.2 ⟨i,by omega,rfl⟩,by rw [e];exact beq_self_eq_true _⟩)] at this
 exact absurd this (by decide)
theorem zk0 {α β : Type} {l:List α} {key : α→β} (h:l.Pairwise (fun x y =>key x≠key y)) {x y : α} (hx:x ∈ l) (hy:y ∈ l) (e:key x=key y):x=y:=by
 obtain ⟨i,hi,ei⟩:=List.getElem_of_mem hx
 obtain ⟨j,hj,ej⟩:=List.getElem_of_mem hy
 rw [List.pairwise_iff_getElem] at h
 rcases Nat.lt_trichotomy i j with c | c | c
 ·exact absurd (by rw [ei,ej];exact e) (h i j hi hj c)
 ·subst c
  rw [← ei, ← ej]
 ·exact absurd (by rw [ei,ej];exact e.symm) (h j i hj hi c)
theorem zhw {α : Type} {l:List α} {p : α→Bool} {x : α} (hx:x ∈ l) (hp:p x=true) (hu:∀ y ∈ l,p y=true→y=x):l.find? p=some x:=by
 cases h:l.find? p with
 | none =>exact absurd hp (by simpa using List.find?_eq_none.1 h x hx)
 | some y =>rw [hu y (List.mem_of_find?_eq_some h) (List.find?_some h)]
structure zap (T:TV):Prop where
 l0:T.sc.length≤64
 s0:∀ x ∈ T.sc,x.2.length≤1024
 l1:T.co.length≤1024
 l2:T.ma.length≤512
 l3:T.pr.length≤4096
 l4:T.fo.length≤4096
 l5:T.lk.length≤4096
 l6:T.dr.length≤1024
 l7:T.al.length≤1024
 f0:∀ x ∈ T.sc,zc6 x.1=true∧za0 x.2
 f1:za0 T.co
 f2:∀ x ∈ T.ma,zan x.1=true∧1≤x.2∧x.2≤254
 f3:∀ x ∈ T.pr,zan x.1=true∧zan x.2.1=true∧zan x.2.2=true
 f4:∀ x ∈ T.fo,zan x.1=true∧toB x.2=true
 f5:∀ x ∈ T.lk,zan x.1=true∧toB x.2=true
 f6:za0 T.dr
 f7:za0 T.al
 t2:T.ma.Pairwise (fun x y =>x.1≠y.1)
 t3:T.pr.Pairwise (fun x y =>x.1≠y.1)
 t3b:T.pr.Pairwise (fun x y =>x.2≠y.2)
 t4:T.fo.Pairwise (fun x y =>x.1≠y.1)
 t5:T.lk.Pairwise (fun x y =>x.1≠y.1)
theorem zfM {list:Int} {l:List (Int × Int)} (h:(spW list l).1=0):za0 l:=fun x hx =>by
 obtain ⟨i,hi,e⟩:=zll hx
 have h0:=zcg h i hi
 unfold zaM at h0
 rw [zbU e] at h0
 by_cases hw:za4 x=0
 ·unfold za4 at hw
  by_cases he:zaW x=true
  ·refine ⟨he, ?_⟩
   rcases Int.lt_or_le x.2 x.1 with c | c
   ·simp [he,c] at hw
   ·exact c
  ·simp [he] at hw
 ·rw [if_pos hw] at h0
  exact absurd h0 hw
theorem zn6 {s:ByteArray} (h:toB s=true):okU s=true∧1≤(zai s).length∧(zai s).length≤4:=by
 unfold toB at h
 rw [Bool.and_eq_true,decide_eq_true_eq] at h
 exact h
theorem zju {x:Int × ByteArray} (h:mpF x=0):zan x.1=true∧toB x.2=true:=by
 unfold mpF at h
 by_cases h1:zan x.1=true
 ·rw [if_pos h1] at h
  by_cases h2:toB x.2=true
  ·exact ⟨h1,h2⟩
  ·rw [if_neg h2] at h
   exact absurd h (by decide)
 ·rw [if_neg h1] at h
  exact absurd h (by decide)
theorem zkP {T:TV} (h:(orW [zfh T,zcW T,zcd T]).1=0):zap T:=by
 have h:=zfN h
 simp only [List.forall_mem_cons] at h
 have hl:=zfN h.1
 have hf:=zfN h.2.1
 have ht:=zfN h.2.2.1
 simp only [List.forall_mem_cons] at hl hf ht
 obtain ⟨a0,a0s,a1,a2,a3,a4,a5,a6,a7,_⟩:=hl
 obtain ⟨f0,f1,f2,f3,f4,f5,f6,f7,_⟩:=hf
 obtain ⟨q0,q2,q3,q4,q5,_⟩:=ht
 have hp:=zcg q3
 refine ⟨zcs a0,fun x hx =>?_,zcs a1,zcs a2,zcs a3,zcs a4,zcs a5,zcs a6,zcs a7,fun x hx =>?_,zfM f1,fun x hx =>?_,fun x hx =>?_,fun x hx =>zju (zdw f4 x hx),fun x hx =>zju (zdw f5 x hx),zfM f6,zfM f7,zor (zcg q2), ?_, ?_,zor (zcg q4),zor (zcg q5)⟩
 ·obtain ⟨i,hi,e⟩:=zll hx
  have:=zcg a0s i hi
  rw [show T.sc.getD i (ByteArray.empty,[])=x from zbU e] at this
  rcases Nat.lt_or_ge 1024 x.2.length with c | c
  ·rw [if_pos c] at this
   exact absurd this (by decide)
  ·exact c
 ·have:=zdw f0 x hx
  unfold scF at this
  by_cases hn:zc6 x.1=true
  ·rw [if_pos hn] at this
   exact ⟨hn,zfM this⟩
  ·rw [if_neg hn] at this
   exact absurd this (by decide)
 ·have:=zdw f2 x hx
  unfold maF at this
  by_cases hn:zan x.1=true
  ·rw [if_pos hn] at this
   by_cases hc:x.2 < 1∨254 < x.2
   ·rw [if_pos hc] at this
    exact absurd this (by decide)
   ·exact ⟨hn,by omega,by omega⟩
  ·rw [if_neg hn] at this
   exact absurd this (by decide)
 ·have:=zdw f3 x hx
  unfold prF at this
  by_cases hn:(zan x.1 && (zan x.2.1 && zan x.2.2))=true
  ·rw [Bool.and_eq_true,Bool.and_eq_true] at hn
   exact hn
  ·rw [if_neg hn] at this
   exact absurd this (by decide)
 all_goals
  rw [List.pairwise_iff_getElem]
  intro i j hi hj hij e
  have:=hp j hj
  unfold twP at this
  rw [zbU (List.getElem?_eq_getElem hj),if_pos (List.any_eq_true.2 ⟨T.pr[i],List.mem_take_iff_getElem.2 ⟨i,by omega,rfl⟩,by simp [e]⟩)] at this
  exact absurd this (by decide)
theorem zjB {T:TV} (h:zap T) {x:Int × Int} (hx:x ∈ T.ma):za7 T x.1=x.2:=by
 unfold za7
 rw [zhw hx (p:=fun y =>y.1 == x.1) (by simp) (fun y hy e =>zk0 h.t2 hy hx (by simpa using e))]
theorem zg0 {T:TV} {r:Int} (h:∀ x ∈ T.ma,x.1≠r):za7 T r=0:=by
 unfold za7
 rw [List.find?_eq_none.2 (fun x hx =>by simpa using h x hx)]
theorem zen {T:TV} (h:zap T) (r:Int):(za7 T r == 0) = !zbu T r:=by
 unfold zbu
 by_cases e:∃ x ∈ T.ma,x.1=r
 ·obtain ⟨x,hx,rfl⟩:=e
  rw [zjB h hx,List.any_eq_true.2 ⟨x,hx,by simp⟩]
  have:=(h.f2 x hx).2
  simp
  omega
 ·rw [zg0 (fun x hx q =>e ⟨x,hx,q⟩),List.any_eq_false.2 (fun x hx q =>e ⟨x,hx,by simpa using q⟩)]
  rfl
theorem znX {T:TV} (h:zap T) {x:Int × Int × Int} (hx:x ∈ T.pr):zbz T x.1=some x:=by
 unfold zbz
 exact zhw hx (by simp) (fun y hy e =>zk0 h.t3 hy hx (by simpa using e))
theorem zkv {T:TV} {r:Int} (h:∀ x ∈ T.pr,x.1≠r):zbz T r=none:=List.find?_eq_none.2 (fun x hx =>by simpa using h x hx)
theorem zku {T:TV} {r:Int}:(zbz T r).isSome=ze8 T r:=by
 unfold zbz ze8
 rw [Bool.eq_iff_iff,List.find?_isSome,List.any_eq_true]
def toP (l:List (Int × ByteArray)) (r:Int):Option (Int × ByteArray):=l.find? (fun x =>x.1 == r)
theorem zn4 {l:List (Int × ByteArray)} (h:l.Pairwise (fun x y =>x.1≠y.1)) {x:Int × ByteArray} (hx:x ∈ l):toP l x.1=some x:=by
 unfold toP
 exact zhw hx (by simp) (fun y hy e =>zk0 h hy hx (by simpa using e))
theorem zkD {l:List (Int × ByteArray)} {r:Int} (h:∀ x ∈ l,x.1≠r):toP l r=none:=List.find?_eq_none.2 (fun x hx =>by simpa using h x hx)
theorem zkC {l:List (Int × ByteArray)} {r:Int}:(toP l r).isSome=zfk l r:=by
 unfold toP zfk
 rw [Bool.eq_iff_iff,List.find?_isSome,List.any_eq_true]
def zcQ (T:TV) (r:Int):List Nat:=(List.range T.sc.length).filter (fun j =>zal (T.sc.getD j sc0).2 r)
end Go.Proofs.YtmemedpoaocdkaaGreat
namespace Go.Proofs.YtmemedpoaocdkaaGreat
open Go.RowKit Go.Shelf Go.ChangeShapes Go.WideShapes Go.Deep
set_option linter.unusedVariables false
theorem laidOutT:laidOutB Tryz.prog=true:=by kernel_rfl
theorem zhD {H:Type}:∀ (l:List (DataW H)) (d:DataW H),d ∈ l→Rows.uptoBulk d≤Rows.uptoBulkAll l
 | [],d,h =>by cases h
 | x::l,d,h =>by
  simp only [Rows.uptoBulkAll]
  rcases List.mem_cons.1 h with rfl | h
  ·omega
  ·have:=zhD l d h;omega
theorem znv {H:Type} (d:DataW H):1≤Rows.uptoBulk d:=by
 unfold Rows.uptoBulk
 split <;> omega
theorem zjD {H:Type}:∀ (l:List (DataW H)),l.length≤Rows.uptoBulkAll l
 | [] =>Nat.zero_le _
 | x::l =>by
  have:=zjD l
  have:=znv x
  simp only [Rows.uptoBulkAll,List.length_cons]
  omega
theorem zlE {α : Type} (f : α→List Value) (sz:Nat) (hf:∀ z,(f z).length=sz):∀ (zs:List α) (j:Nat) (u:Value),(zs.flatMap f)[j]?=some u→∃ (i k:Nat) (z : α),zs[i]?=some z∧k < sz∧j=i*sz+k∧(f z)[k]?=some u
 | [],j,u,h =>by cases h
 | z::zs,j,u,h =>by
  rw [List.flatMap_cons] at h
  by_cases hj:j < sz
  ·rw [List.getElem?_append_left (by rw [hf];exact hj)] at h
   exact ⟨0,j,z,rfl,hj,by omega,h⟩
  ·rw [List.getElem?_append_right (by rw [hf];omega),hf] at h
   obtain ⟨i,k,y,h1,h2,h3,h4⟩:=zlE f sz hf zs (j - sz) u h
   exact ⟨i+1,k,y,h1,h2,by rw [Nat.succ_mul];omega,h4⟩
theorem zb6 {H:Type} {enc:TypeId × Value→H} {W:World} {t e:TypeId} {α : Type} [Inhabited α] (encz : α→List Value) (Q : α→DataW H→Prop) (sz:Nat) (hsz:Tryz.prog.cellsOf e=sz) (hlen:∀ z,(encz z).length=sz) (hp:0 < sz)
  (ht:Tryz.prog.underlying t=some (.slice e)) (hel:∀ n cs x,DataW.trod enc Tryz.prog W 0 (fun _ =>true) true n e cs=some x→∃ z,cs=encz z∧Q z x.1) {fuel:Nat} {c:Value} {x:DataW H × List MemPlace} (h:DataW.trod enc Tryz.prog W 0 (fun _ =>true) true fuel t [c]=some x) :
  ∃ (zs:List α) (a:Option Addr) (cap:Nat),c=.slice a zs.length cap∧RowC W W.heap.size a (zs.flatMap encz)∧zs.length≤Rows.uptoBulk x.1∧∀ z ∈ zs, ∃ d,Q z d∧Rows.uptoBulk d≤Rows.uptoBulk x.1:=by
 rcases open_slice ht h with ⟨h0,hx⟩ | ⟨a,len,cap,m,n,D,Pl,hc,_,hl,hm,hmm,hx,hcs⟩
 ·injection h0 with h0
  subst h0
  exact ⟨[],none,0,rfl,fun h =>absurd h (by simp),Nat.zero_le _,fun z hz =>by cases hz⟩
 ·injection hc with hc
  subst hc
  simp only [if_true] at hmm
  subst hmm
  have each:∀ i,i < len→∃ z : α,(∀ j u,(encz z)[j]?=some u→W.cell? (a.add (i*sz+j))=some u)∧Q z (D i):=fun i hi =>by
   obtain ⟨cs',h1,h2⟩:=hcs i (by omega)
   obtain ⟨z,rfl,hq⟩:=hel n cs' _ h2
   rw [hsz] at h1
   obtain ⟨_,h3,h4⟩:=World.cells?_some h1
   refine ⟨z,fun j u hu =>?_,hq⟩
   have hj:=(List.getElem?_eq_some_iff.1 hu).1
   have h5:=h4 j (by rw [← h3];exact hj)
   rw [add_add] at h5
   exact h5.trans hu
  obtain ⟨b,off,spot⟩:=a
  rcases Nat.eq_zero_or_pos len with h0 | h0
  ·subst h0
   exact ⟨[],_,_,rfl,fun h =>absurd h (by simp),Nat.zero_le _,fun z hz =>by cases hz⟩
  ·obtain ⟨z0,hz0,_⟩:=each 0 h0
   obtain ⟨u0,hu0⟩:∃ u,(encz z0)[0]?=some u:=⟨_,List.getElem?_eq_getElem (by rw [hlen];exact hp)⟩
   have hc0:=hz0 0 u0 hu0
   have hspot:spot=none:=by simpa [Addr.add] using World.cell?_spot hc0
   subst hspot
   obtain ⟨Z,hZ⟩:=choose_lt each
   have hblt:b < W.heap.size:=by have:=zcF hc0;simpa [Addr.add] using this
   refine ⟨(List.range len).map Z,some ⟨b,off,none⟩,_,by simp;rfl,fun _ =>⟨b,off,rfl,hblt,fun j u hu =>?_⟩, ?_,fun z hz =>?_⟩
   ·obtain ⟨i,k,z,h1,h2,h3,h4⟩:=zlE encz sz hlen _ j u hu
    have hi:=(List.getElem?_eq_some_iff.1 h1).1
    simp at hi
    simp [hi] at h1
    subst h1
    have:=(hZ i hi).1 k u h4
    rw [← h3,add_plain] at this
    exact this
   ·rw [hx]
    have:=zjD ((List.range len).map D)
    simp only [Rows.uptoBulk,List.length_map,List.length_range] at this ⊢
    omega
   ·obtain ⟨i,hi,rfl⟩:=List.mem_map.1 hz
    have hi:=List.mem_range.1 hi
    refine ⟨D i,(hZ i hi).2, ?_⟩
    rw [hx]
    have:=zhD ((List.range len).map D) (D i) (List.mem_map.2 ⟨i,List.mem_range.2 hi,rfl⟩)
    simp only [Rows.uptoBulk]
    omega
theorem zqN {α : Type}:∀ {l:List α},l.length=2→∃ a b,l=[a,b]
 | [a,b],_ =>⟨a,b,rfl⟩
theorem zqM {α : Type}:∀ {l:List α},l.length=3→∃ a b c,l=[a,b,c]
 | [a,b,c],_ =>⟨a,b,c,rfl⟩
theorem zmB {H:Type} {enc:TypeId × Value→H} {W:World} {hh:Bool} {e:TypeId} {f0 f1:Field} (he:Tryz.prog.underlying e=some (.struct #[f0,f1])) (ce:Tryz.prog.cellsOf e=2) (o0:f0.offset=0) (o1:f1.offset=1) (c0:Tryz.prog.cellsOf f0.type=1) (c1:Tryz.prog.cellsOf f1.type=1) {n:Nat} {cs:List Value} {x:DataW H × List MemPlace}
  (h:DataW.trod enc Tryz.prog W 0 (fun _ =>true) hh n e cs=some x):∃ v0 v1 y0 y1 k,cs=[v0,v1]∧x.1=.agg [y0.1,y1.1]∧DataW.trod enc Tryz.prog W 0 (fun _ =>true) hh k f0.type [v0]=some y0∧DataW.trod enc Tryz.prog W 0 (fun _ =>true) hh k f1.type [v1]=some y1:=by
 obtain ⟨xs,k,hk,hxy,hcl,hxl,hf⟩:=DataW.trod_struct he h
 rw [ce] at hcl
 obtain ⟨y0,y1,rfl⟩:=zqN hxl
 obtain ⟨v0,v1,rfl⟩:=zqN hcl
 have g0:=hf 0 f0 rfl
 have g1:=hf 1 f1 rfl
 rw [o0,c0] at g0
 rw [o1,c1] at g1
 exact ⟨v0,v1,y0,y1,k,rfl,by rw [hxy];rfl,g0,g1⟩
theorem zqt {H:Type} {enc:TypeId × Value→H} {W:World} {hh:Bool} {e:TypeId} {f0 f1 f2:Field} (he:Tryz.prog.underlying e=some (.struct #[f0,f1,f2])) (ce:Tryz.prog.cellsOf e=3) (o0:f0.offset=0) (o1:f1.offset=1) (o2:f2.offset=2) (c0:Tryz.prog.cellsOf f0.type=1) (c1:Tryz.prog.cellsOf f1.type=1) (c2:Tryz.prog.cellsOf f2.type=1) {n:Nat} {cs:List Value} {x:DataW H × List MemPlace}
  (h:DataW.trod enc Tryz.prog W 0 (fun _ =>true) hh n e cs=some x):∃ v0 v1 v2 y0 y1 y2 k,cs=[v0,v1,v2]∧x.1=.agg [y0.1,y1.1,y2.1]∧DataW.trod enc Tryz.prog W 0 (fun _ =>true) hh k f0.type [v0]=some y0∧DataW.trod enc Tryz.prog W 0 (fun _ =>true) hh k f1.type [v1]=some y1∧DataW.trod enc Tryz.prog W 0 (fun _ =>true) hh k f2.type [v2]=some y2:=by
 obtain ⟨xs,k,hk,hxy,hcl,hxl,hf⟩:=DataW.trod_struct he h
 rw [ce] at hcl
 obtain ⟨y0,y1,y2,rfl⟩:=zqM hxl
 obtain ⟨v0,v1,v2,rfl⟩:=zqM hcl
 have g0:=hf 0 f0 rfl
 have g1:=hf 1 f1 rfl
 have g2:=hf 2 f2 rfl
 rw [o0,c0] at g0
 rw [o1,c1] at g1
 rw [o2,c2] at g2
 exact ⟨v0,v1,v2,y0,y1,y2,k,rfl,by rw [hxy];rfl,g0,g1,g2⟩
def R32 (x:Int):Prop := -2147483648≤x∧x≤2147483647
theorem zf9 {z:Int} (h:Lit.wf (.int .i32 z)=true):R32 z:=by
 simp [Lit.wf,IntKind.min,IntKind.max,IntKind.signed,IntKind.bits] at h
 exact ⟨by omega,by omega⟩
structure zjG (T:TV):Prop where
 s:∀ x ∈ T.sc, ∀ y ∈ x.2,R32 y.1∧R32 y.2
 co:∀ y ∈ T.co,R32 y.1∧R32 y.2
 dr:∀ y ∈ T.dr,R32 y.1∧R32 y.2
 al:∀ y ∈ T.al,R32 y.1∧R32 y.2
 ma:∀ y ∈ T.ma,R32 y.1
 pr:∀ y ∈ T.pr,R32 y.1∧R32 y.2.1∧R32 y.2.2
 fo:∀ y ∈ T.fo,R32 y.1
 lk:∀ y ∈ T.lk,R32 y.1
theorem zhC {H:Type} {enc:TypeId × Value→H} {W:World} (n:Nat) (cs:List Value) (x:DataW H × List MemPlace) (h:DataW.trod enc Tryz.prog W 0 (fun _ =>true) true n 113 cs=some x):∃ z:Int × Int,cs=[.int .i32 z.1,.int .i32 z.2]∧R32 z.1∧R32 z.2:=by
 obtain ⟨v0,v1,y0,y1,k,rfl,_,t0,t1⟩:=zmB Tryz.underlying113 (by kernel_rfl) rfl rfl (by kernel_rfl) (by kernel_rfl) h
 obtain ⟨z0,e0,_,w0⟩:=DataW.trod_int Tryz.underlying21 t0
 obtain ⟨z1,e1,_,w1⟩:=DataW.trod_int Tryz.underlying21 t1
 injection e0 with e0
 injection e1 with e1
 exact ⟨(z0,z1),by rw [e0,e1],zf9 w0,zf9 w1⟩
theorem zoV {H:Type} {enc:TypeId × Value→H} {W:World} (n:Nat) (cs:List Value) (x:DataW H × List MemPlace) (h:DataW.trod enc Tryz.prog W 0 (fun _ =>true) true n 115 cs=some x):∃ z:Int × Int,cs=[.int .i32 z.1,.int .i64 z.2]∧(-9223372036854775808≤z.2∧z.2≤9223372036854775807)∧R32 z.1:=by
 obtain ⟨v0,v1,y0,y1,k,rfl,_,t0,t1⟩:=zmB Tryz.underlying115 (by kernel_rfl) rfl rfl (by kernel_rfl) (by kernel_rfl) h
 obtain ⟨z0,e0,_,w0⟩:=DataW.trod_int Tryz.underlying21 t0
 obtain ⟨z1,e1,_,w1⟩:=DataW.trod_int Tryz.underlying3 t1
 injection e0 with e0
 injection e1 with e1
 refine ⟨(z0,z1),by rw [e0,e1], ?_⟩
 simp [Lit.wf,IntKind.min,IntKind.max,IntKind.signed,IntKind.bits] at w1
 exact ⟨⟨by show -9223372036854775808≤z1;omega,by show z1≤9223372036854775807;omega⟩,zf9 w0⟩
theorem zoU {H:Type} {enc:TypeId × Value→H} {W:World} (n:Nat) (cs:List Value) (x:DataW H × List MemPlace) (h:DataW.trod enc Tryz.prog W 0 (fun _ =>true) true n 117 cs=some x):∃ z:Int × Int × Int,cs=[.int .i32 z.1,.int .i32 z.2.1,.int .i32 z.2.2]∧R32 z.1∧R32 z.2.1∧R32 z.2.2:=by
 obtain ⟨v0,v1,v2,y0,y1,y2,k,rfl,_,t0,t1,t2⟩:=zqt Tryz.underlying117 (by kernel_rfl) rfl rfl rfl (by kernel_rfl) (by kernel_rfl) (by kernel_rfl) h
 obtain ⟨z0,e0,_,w0⟩:=DataW.trod_int Tryz.underlying21 t0
 obtain ⟨z1,e1,_,w1⟩:=DataW.trod_int Tryz.underlying21 t1
 obtain ⟨z2,e2,_,w2⟩:=DataW.trod_int Tryz.underlying21 t2
 injection e0 with e0
 injection e1 with e1
 injection e2 with e2
 exact ⟨(z0,z1,z2),by rw [e0,e1,e2],zf9 w0,zf9 w1,zf9 w2⟩
theorem zgo {H:Type} (a b:DataW H):Rows.uptoBulk (.agg [a,b])=Rows.uptoBulk a+Rows.uptoBulk b+1:=by
 simp only [Rows.uptoBulk,Rows.uptoBulkAll]
 omega
theorem zjC {H:Type} (s:ByteArray):Rows.uptoBulk (.lit (.string s.data.toList):DataW H)=s.size+1:=by
 simp only [Rows.uptoBulk]
 rw [Array.length_toList]
 rfl
theorem znQ {H:Type} {enc:TypeId × Value→H} {W:World} (n:Nat) (cs:List Value) (x:DataW H × List MemPlace) (h:DataW.trod enc Tryz.prog W 0 (fun _ =>true) true n 119 cs=some x):∃ z:Int × ByteArray,cs=[.int .i32 z.1,.string z.2]∧z.2.size≤Rows.uptoBulk x.1∧R32 z.1:=by
 obtain ⟨v0,v1,y0,y1,k,rfl,hx,t0,t1⟩:=zmB Tryz.underlying119 (by kernel_rfl) rfl rfl (by kernel_rfl) (by kernel_rfl) h
 obtain ⟨z0,e0,_,w0⟩:=DataW.trod_int Tryz.underlying21 t0
 obtain ⟨z1,e1,hy,_⟩:=DataW.trod_string Tryz.underlying9 t1
 injection e0 with e0
 injection e1 with e1
 refine ⟨(z0,z1),by rw [e0,e1], ?_,zf9 w0⟩
 rw [hx,zgo,hy,zjC]
 show z1.size≤_
 omega
def ScQ {H:Type} (W:World) (z:ByteArray × List (Int × Int) × Value) (d:DataW H):Prop:=z.1.size≤Rows.uptoBulk d∧z.2.1.length≤Rows.uptoBulk d∧(∃ b c,z.2.2=.slice b z.2.1.length c∧RowC W W.heap.size b (z.2.1.flatMap fun s => [.int .i32 s.1,.int .i32 s.2]))∧∀ y ∈ z.2.1,R32 y.1∧R32 y.2
theorem zlN {H:Type} {enc:TypeId × Value→H} {W:World} (n:Nat) (cs:List Value) (x:DataW H × List MemPlace) (h:DataW.trod enc Tryz.prog W 0 (fun _ =>true) true n 109 cs=some x):∃ z:ByteArray × List (Int × Int) × Value,cs=[.string z.1,z.2.2]∧ScQ W z x.1:=by
 obtain ⟨v0,v1,y0,y1,k,rfl,hx,t0,t1⟩:=zmB Tryz.underlying109 (by kernel_rfl) rfl rfl (by kernel_rfl) (by kernel_rfl) h
 obtain ⟨z0,e0,hy,_⟩:=DataW.trod_string Tryz.underlying9 t0
 injection e0 with e0
 obtain ⟨zs,a,cap,e1,hr,hl,hq⟩:=zb6 (fun s:Int × Int => [Value.int .i32 s.1,.int .i32 s.2]) (fun z _ =>R32 z.1∧R32 z.2) 2 (by kernel_rfl) (fun _ =>rfl) (by decide) Tryz.underlying23 zhC t1
 refine ⟨(z0,zs,v1),by rw [e0], ?_, ?_,⟨a,cap,e1,hr⟩,fun y hy =>by obtain ⟨_,h5,_⟩:=hq y hy;exact h5⟩
 ·show z0.size≤_
  rw [hx,zgo,hy,zjC]
  omega
 ·show zs.length≤_
  rw [hx,zgo]
  omega
theorem zoP:∀ (l:List (Int × Int)),(l.flatMap fun s => [Value.int .i32 s.1,.int .i32 s.2])=za6 l
 | [] =>rfl
 | x::l =>by rw [List.flatMap_cons,zoP l];rfl
theorem zpT:∀ (l:List (Int × Int)),(l.flatMap fun s => [Value.int .i32 s.1,.int .i64 s.2])=zdQ l
 | [] =>rfl
 | x::l =>by rw [List.flatMap_cons,zpT l];rfl
theorem zpS:∀ (l:List (Int × Int × Int)),(l.flatMap fun s => [Value.int .i32 s.1,.int .i32 s.2.1,.int .i32 s.2.2])=zdv l
 | [] =>rfl
 | x::l =>by rw [List.flatMap_cons,zpS l];rfl
theorem zpU:∀ (l:List (Int × ByteArray)),(l.flatMap fun s => [Value.int .i32 s.1,.string s.2])=zbH l
 | [] =>rfl
 | x::l =>by rw [List.flatMap_cons,zpU l];rfl
theorem zpV:∀ (l:List (ByteArray × List (Int × Int) × Value)),(l.flatMap fun z => [Value.string z.1,z.2.2])=zcb (l.map fun z =>(z.1,z.2.1)) (l.map fun z =>z.2.2)
 | [] =>rfl
 | x::l =>by rw [List.flatMap_cons,zpV l];rfl
theorem zqL {α : Type}:∀ {l:List α},l.length=8→∃ a b c d e f g h,l=[a,b,c,d,e,f,g,h]
 | [a,b,c,d,e,f,g,h],_ =>⟨a,b,c,d,e,f,g,h,rfl⟩
theorem zmb:∃ f0 f1 f2 f3 f4 f5 f6 f7:Field,Tryz.prog.underlying 28=some (.struct #[f0,f1,f2,f3,f4,f5,f6,f7])∧(f0.offset=0∧f0.type=22)∧(f1.offset=1∧f1.type=23)∧(f2.offset=2∧f2.type=24)∧(f3.offset=3∧f3.type=25)∧(f4.offset=4∧f4.type=26)∧(f5.offset=5∧f5.type=26)∧(f6.offset=6∧f6.type=23)∧(f7.offset=7∧f7.type=23) :=
 ⟨_,_,_,_,_,_,_,_,Tryz.underlying28,⟨rfl,rfl⟩,⟨rfl,rfl⟩,⟨rfl,rfl⟩,⟨rfl,rfl⟩,⟨rfl,rfl⟩,⟨rfl,rfl⟩,⟨rfl,rfl⟩,⟨rfl,rfl⟩⟩
theorem zlS {H:Type} (a b c d e f g h:DataW H):Rows.uptoBulk a≤Rows.uptoBulk (.agg [a,b,c,d,e,f,g,h])∧Rows.uptoBulk b≤Rows.uptoBulk (.agg [a,b,c,d,e,f,g,h])∧Rows.uptoBulk c≤Rows.uptoBulk (.agg [a,b,c,d,e,f,g,h])∧Rows.uptoBulk d≤Rows.uptoBulk (.agg [a,b,c,d,e,f,g,h])∧Rows.uptoBulk e≤Rows.uptoBulk (.agg [a,b,c,d,e,f,g,h])∧Rows.uptoBulk f≤Rows.uptoBulk (.agg [a,b,c,d,e,f,g,h])∧Rows.uptoBulk g≤Rows.uptoBulk (.agg [a,b,c,d,e,f,g,h])∧Rows.uptoBulk h≤Rows.uptoBulk (.agg [a,b,c,d,e,f,g,h]):=by
 have e0:Rows.uptoBulk (.agg [a,b,c,d,e,f,g,h])=Rows.uptoBulkAll [a,b,c,d,e,f,g,h]+1:=by simp only [Rows.uptoBulk]
 have key:∀ x ∈ [a,b,c,d,e,f,g,h],Rows.uptoBulk x≤Rows.uptoBulkAll [a,b,c,d,e,f,g,h]+1:=fun x hx =>Nat.le_succ_of_le (zhD _ x hx)
 rw [e0]
 exact ⟨key a (by simp),key b (by simp),key c (by simp),key d (by simp),key e (by simp),key f (by simp),key g (by simp),key h (by simp)⟩
set_option maxRecDepth 100000 in
set_option maxHeartbeats 1000000 in
theorem arg_tab {H:Type} {enc:TypeId × Value→H} {W:World} {cs:Array Value} {d:DataW H} {p:List MemPlace} (h:DataW.Trod enc Tryz.prog W 0 (fun _ =>true) true 28 (.agg cs) d p) (hd:Rows.uptoBulk d≤1048576) :
  ∃ (T:TV) (a0 a1 a2 a3 a4 a5 a6 a7:Option Addr) (c0 c1 c2 c3 c4 c5 c6 c7:Nat) (us:List Value),cs=zl2 T a0 a1 a2 a3 a4 a5 a6 a7 c0 c1 c2 c3 c4 c5 c6 c7∧TabIn W T a0 a1 a2 a3 a4 a5 a6 a7 us∧TabB T∧zjG T:=by
 obtain ⟨fuel,hf⟩:=h
 obtain ⟨f0,f1,f2,f3,f4,f5,f6,f7,hu,⟨o0,t0⟩,⟨o1,t1⟩,⟨o2,t2⟩,⟨o3,t3⟩,⟨o4,t4⟩,⟨o5,t5⟩,⟨o6,t6⟩,⟨o7,t7⟩⟩:=zmb
 obtain ⟨xs,k,hk,hxy,hcl,hxl,hg⟩:=DataW.trod_struct hu hf
 have hc8:(Value.agg cs).cells.toList.length=8:=hcl.trans (by kernel_rfl)
 have hcs:(Value.agg cs).cells.toList=cs.toList:=by simp [Value.cells]
 obtain ⟨v0,v1,v2,v3,v4,v5,v6,v7,hv⟩:=zqL (hcs ▸ hc8)
 obtain ⟨x0,x1,x2,x3,x4,x5,x6,x7,rfl⟩:=zqL hxl
 have g0:=hg 0 f0 rfl
 rw [o0,t0,hcs,hv,show Tryz.prog.cellsOf 22=1 by kernel_rfl] at g0
 have g0:DataW.trod enc Tryz.prog W 0 (fun _ =>true) true k 22 [v0]=some x0:=g0
 have g1:=hg 1 f1 rfl
 rw [o1,t1,hcs,hv,show Tryz.prog.cellsOf 23=1 by kernel_rfl] at g1
 have g1:DataW.trod enc Tryz.prog W 0 (fun _ =>true) true k 23 [v1]=some x1:=g1
 have g2:=hg 2 f2 rfl
 rw [o2,t2,hcs,hv,show Tryz.prog.cellsOf 24=1 by kernel_rfl] at g2
 have g2:DataW.trod enc Tryz.prog W 0 (fun _ =>true) true k 24 [v2]=some x2:=g2
 have g3:=hg 3 f3 rfl
 rw [o3,t3,hcs,hv,show Tryz.prog.cellsOf 25=1 by kernel_rfl] at g3
 have g3:DataW.trod enc Tryz.prog W 0 (fun _ =>true) true k 25 [v3]=some x3:=g3
 have g4:=hg 4 f4 rfl
 rw [o4,t4,hcs,hv,show Tryz.prog.cellsOf 26=1 by kernel_rfl] at g4
 have g4:DataW.trod enc Tryz.prog W 0 (fun _ =>true) true k 26 [v4]=some x4:=g4
 have g5:=hg 5 f5 rfl
 rw [o5,t5,hcs,hv,show Tryz.prog.cellsOf 26=1 by kernel_rfl] at g5
 have g5:DataW.trod enc Tryz.prog W 0 (fun _ =>true) true k 26 [v5]=some x5:=g5
 have g6:=hg 6 f6 rfl
 rw [o6,t6,hcs,hv,show Tryz.prog.cellsOf 23=1 by kernel_rfl] at g6
 have g6:DataW.trod enc Tryz.prog W 0 (fun _ =>true) true k 23 [v6]=some x6:=g6
 have g7:=hg 7 f7 rfl
 rw [o7,t7,hcs,hv,show Tryz.prog.cellsOf 23=1 by kernel_rfl] at g7
 have g7:DataW.trod enc Tryz.prog W 0 (fun _ =>true) true k 23 [v7]=some x7:=g7
 obtain ⟨z0,a0,c0,rfl,r0,l0,q0⟩:=zb6 (fun z:ByteArray × List (Int × Int) × Value => [Value.string z.1,z.2.2]) (ScQ W) 2 (by kernel_rfl) (fun _ =>rfl) (by decide) Tryz.underlying22 zlN g0
 obtain ⟨z1,a1,c1,rfl,r1,l1,q1⟩:=zb6 (fun s:Int × Int => [Value.int .i32 s.1,.int .i32 s.2]) (fun z _ =>R32 z.1∧R32 z.2) 2 (by kernel_rfl) (fun _ =>rfl) (by decide) Tryz.underlying23 zhC g1
 obtain ⟨z2,a2,c2,rfl,r2,l2,q2⟩:=zb6 (fun s:Int × Int => [Value.int .i32 s.1,.int .i64 s.2]) (fun z _ =>(-9223372036854775808≤z.2∧z.2≤9223372036854775807)∧R32 z.1) 2 (by kernel_rfl) (fun _ =>rfl) (by decide) Tryz.underlying24 zoV g2
 obtain ⟨z3,a3,c3,rfl,r3,l3,q3⟩:=zb6 (fun s:Int × Int × Int => [Value.int .i32 s.1,.int .i32 s.2.1,.int .i32 s.2.2]) (fun z _ =>R32 z.1∧R32 z.2.1∧R32 z.2.2) 3 (by kernel_rfl) (fun _ =>rfl) (by decide) Tryz.underlying25 zoU g3
 obtain ⟨z4,a4,c4,rfl,r4,l4,q4⟩:=zb6 (fun s:Int × ByteArray => [Value.int .i32 s.1,.string s.2]) (fun z d =>z.2.size≤Rows.uptoBulk d∧R32 z.1) 2 (by kernel_rfl) (fun _ =>rfl) (by decide) Tryz.underlying26 znQ g4
 obtain ⟨z5,a5,c5,rfl,r5,l5,q5⟩:=zb6 (fun s:Int × ByteArray => [Value.int .i32 s.1,.string s.2]) (fun z d =>z.2.size≤Rows.uptoBulk d∧R32 z.1) 2 (by kernel_rfl) (fun _ =>rfl) (by decide) Tryz.underlying26 znQ g5
 obtain ⟨z6,a6,c6,rfl,r6,l6,q6⟩:=zb6 (fun s:Int × Int => [Value.int .i32 s.1,.int .i32 s.2]) (fun z _ =>R32 z.1∧R32 z.2) 2 (by kernel_rfl) (fun _ =>rfl) (by decide) Tryz.underlying23 zhC g6
 obtain ⟨z7,a7,c7,rfl,r7,l7,q7⟩:=zb6 (fun s:Int × Int => [Value.int .i32 s.1,.int .i32 s.2]) (fun z _ =>R32 z.1∧R32 z.2) 2 (by kernel_rfl) (fun _ =>rfl) (by decide) Tryz.underlying23 zhC g7
 have hdx:d=.agg [x0.1,x1.1,x2.1,x3.1,x4.1,x5.1,x6.1,x7.1]:=congrArg Prod.fst hxy
 have hb:=zlS x0.1 x1.1 x2.1 x3.1 x4.1 x5.1 x6.1 x7.1
 rw [← hdx] at hb
 obtain ⟨b0,b1,b2,b3,b4,b5,b6,b7⟩:=hb
 rw [zpV] at r0
 rw [zoP] at r1 r6 r7
 rw [zpT] at r2
 rw [zpS] at r3
 rw [zpU] at r4 r5
 refine ⟨⟨z0.map fun z =>(z.1,z.2.1),z1,z2,z3,z4,z5,z6,z7,[],[],[],[],[],[],[],[]⟩,a0,a1,a2,a3,a4,a5,a6,a7,c0,c1,c2,c3,c4,c5,c6,c7,z0.map fun z =>z.2.2, ?_, ?_, ?_, ?_⟩
 ·unfold zl2
  rw [List.length_map]
  exact Array.ext' hv
 ·refine ⟨by rw [List.length_map,List.length_map],r0,r1,r2,r3,r4,r5,r6,r7,fun j x u hx hu =>?_⟩
  have hx':(z0.map fun z =>(z.1,z.2.1))[j]?=some x:=hx
  rw [List.getElem?_map] at hx' hu
  obtain ⟨z,hz,rfl⟩:=Option.map_eq_some_iff.1 hx'
  rw [hz] at hu
  obtain rfl:=Option.some.inj hu
  obtain ⟨dz,⟨_,_,⟨b,c,e,hr⟩,_⟩,_⟩:=q0 z (List.mem_of_getElem? hz)
  rw [zoP] at hr
  exact ⟨b,c,e,hr⟩
 ·refine ⟨by show (z0.map _).length≤_;rw [List.length_map];omega,by show z1.length≤_;omega,by show z2.length≤_;omega,by show z3.length≤_;omega,by show z4.length≤_;omega,by show z5.length≤_;omega,by show z6.length≤_;omega,by show z7.length≤_;omega,fun x hx =>?_,fun x hx =>?_,fun x hx =>?_,fun x hx =>?_⟩
  ·obtain ⟨z,hz,rfl⟩:=List.mem_map.1 (show x ∈ z0.map fun z =>(z.1,z.2.1) from hx)
   obtain ⟨dz,⟨s1,s2,_⟩,s3⟩:=q0 z hz
   exact ⟨by show z.1.size≤_;omega,by show z.2.1.length≤_;omega⟩
  ·obtain ⟨_,⟨s1,_⟩,_⟩:=q2 x hx
   exact s1
  ·obtain ⟨dz,⟨s1,_⟩,s2⟩:=q4 x hx
   omega
  ·obtain ⟨dz,⟨s1,_⟩,s2⟩:=q5 x hx
   omega
 ·refine ⟨fun x hx y hy =>?_,fun y hy =>?_,fun y hy =>?_,fun y hy =>?_,fun y hy =>?_,fun y hy =>?_,fun y hy =>?_,fun y hy =>?_⟩
  ·obtain ⟨z,hz,rfl⟩:=List.mem_map.1 (show x ∈ z0.map fun z =>(z.1,z.2.1) from hx)
   obtain ⟨dz,⟨_,_,_,s1⟩,_⟩:=q0 z hz
   exact s1 y hy
  ·obtain ⟨_,s1,_⟩:=q1 y hy;exact s1
  ·obtain ⟨_,s1,_⟩:=q6 y hy;exact s1
  ·obtain ⟨_,s1,_⟩:=q7 y hy;exact s1
  ·obtain ⟨_,⟨_,s1⟩,_⟩:=q2 y hy;exact s1
  ·obtain ⟨_,s1,_⟩:=q3 y hy;exact s1
  ·obtain ⟨_,⟨_,s1⟩,_⟩:=q4 y hy;exact s1
  ·obtain ⟨_,⟨_,s1⟩,_⟩:=q5 y hy;exact s1
end Go.Proofs.YtmemedpoaocdkaaGreat
namespace Go.Proofs.YtmemedpoaocdkaaGreat
open Go.RowKit Go.Shelf
set_option linter.unusedVariables false
structure R6 (W wr:World) (v:Value) (zs:List Int):Prop where
 o:wr.ownsRow W.heap.size 21 1 v zs.length (znK zs)
 b:Below W.heap.size W wr
theorem R6.put {W w w':World} {v v':Value} {zs:List Int} {z:Int} {c:Obj} (h:R6 W w v zs) (ho:w'.ownsRow W.heap.size 21 1 v' (zs.length+1) (znK zs++[.int .i32 z])) (hg:(w.alloc c).grownBy w' v.ownBlock):R6 W w' v' (zs++[z]):=by
 refine ⟨?_,(h.b.trans ((Below.refl _ w).alloc h.b.size c)).grown hg (by have:=h.b.size;simp;omega) (fun k hk =>zbI h.o k hk)⟩
 rw [List.length_append]
 unfold znK
 rw [List.map_append]
 exact ho
end Go.Proofs.YtmemedpoaocdkaaGreat
