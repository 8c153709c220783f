/- Texts of this claim, one behind the other. -/
import Derived.Test.YtmemedpoaocdkaaGreatM5
import Derived.Test.YtmemedpoaocdkaaGreatRows
import Derived.Test.YtmemedpoaocdkaaGreatM3
import Derived.ProofKit
import Derived.OpenShut
import Derived.ChangeOld
import Derived.Deep.SlicePairs
/- A Book of tables: mathematics of right rows. -/
namespace Go.Proofs.YtmemedpoaocdkaaGreat
open Go.RowKit Go.Shelf
set_option linter.unusedVariables false
theorem zcQ {list:Int} {n m:Nat} (h:(zeO list n m).1=0):n≤m:=by
 unfold zeO at h
 by_cases e:n≤m
 ·exact e
 ·rw [if_neg e] at h
  exact absurd (show (4:Int)=0 from h) (by decide)
theorem zcC {list:Int} {n:Nat} {f:Nat→Int} (h:(zaK list n f).1=0):∀ i,i < n→f i=0:=by
 rcases zeh list n f with ⟨k,h1,h2,h3,e⟩ | ⟨h1,_⟩
 ·rw [e] at h
  exact absurd h h3
 ·exact h1
theorem zce {α : Type} {l:List α} {d x : α} {i:Nat} (h:l[i]?=some x):l.getD i d=x:=by simp [List.getD,h]
theorem znf {α : Type} {l:List α} {x : α} (h:x ∈ l):∃ i,i < l.length∧l[i]?=some x:=by
 obtain ⟨i,hi,e⟩:=List.getElem_of_mem h
 exact ⟨i,hi,by rw [List.getElem?_eq_getElem hi,e]⟩
theorem zd7 {α : Type} {list:Int} {l:List α} {d : α} {f : α→Int} (h:(zaf list l d f).1=0):∀ x ∈ l,f x=0:=fun x hx =>by
 obtain ⟨i,hi,e⟩:=znf hx
 have:=zcC h i hi
 rwa [zce e] at this
theorem zqw {α β : Type} [BEq β] [LawfulBEq β] {l:List α} {d : α} {key : α→β} (h:∀ i,i < l.length→twF l d key i=0):l.Pairwise (fun x y =>key x≠key y):=by
 rw [List.pairwise_iff_getElem]
 intro i j hi hj hij e
 have:=h j hj
 unfold twF at this
 rw [zce (List.getElem?_eq_getElem hj),if_pos (List.any_eq_true.2 ⟨l[i],List.mem_take_iff_getElem.2 ⟨i,by omega,rfl⟩,by rw [e];exact beq_self_eq_true _⟩)] at this
 exact absurd this (by decide)
theorem zmW {α β : Type} {l:List α} {key : α→β} (h:l.Pairwise (fun x y =>key x≠key y)) {x y : α} (hx:x ∈ l) (hy:y ∈ l) (e:key x=key y):x=y:=by
 obtain ⟨i,hi,ei⟩:=List.getElem_of_mem hx
 obtain ⟨j,hj,ej⟩:=List.getElem_of_mem hy
 rw [List.pairwise_iff_getElem] at h
 rcases Nat.lt_trichotomy i j with c | c | c
 ·exact absurd (by rw [ei,ej];exact e) (h i j hi hj c)
 ·subst c
  rw [← ei, ← ej]
 ·exact absurd (by rw [ei,ej];exact e.symm) (h j i hj hi c)
theorem ziO {α : Type} {l:List α} {p : α→Bool} {x : α} (hx:x ∈ l) (hp:p x=true) (hu:∀ y ∈ l,p y=true→y=x):l.find? p=some x:=by
 cases h:l.find? p with
 | none =>exact absurd hp (by simpa using List.find?_eq_none.1 h x hx)
 | some y =>rw [hu y (List.mem_of_find?_eq_some h) (List.find?_some h)]
structure zam (T:TV):Prop where
 l0:T.sc.length≤64
 s0:∀ x ∈ T.sc,x.2.length≤1024
 l1:T.co.length≤1024
 l2:T.ma.length≤512
 l3:T.pr.length≤4096
 l4:T.fo.length≤4096
 l5:T.lk.length≤4096
 l6:T.dr.length≤1024
 l7:T.al.length≤1024
 f0:∀ x ∈ T.sc,zdL x.1=true∧zbb x.2
 f1:zbb T.co
 f2:∀ x ∈ T.ma,zaq x.1=true∧1≤x.2∧x.2≤254
 f3:∀ x ∈ T.pr,zaq x.1=true∧zaq x.2.1=true∧zaq x.2.2=true
 f4:∀ x ∈ T.fo,zaq x.1=true∧toB x.2=true
 f5:∀ x ∈ T.lk,zaq x.1=true∧toB x.2=true
 f6:zbb T.dr
 f7:zbb T.al
 t2:T.ma.Pairwise (fun x y =>x.1≠y.1)
 t3:T.pr.Pairwise (fun x y =>x.1≠y.1)
 t3b:T.pr.Pairwise (fun x y =>x.2≠y.2)
 t4:T.fo.Pairwise (fun x y =>x.1≠y.1)
 t5:T.lk.Pairwise (fun x y =>x.1≠y.1)
theorem zgP {list:Int} {l:List (Int × Int)} (h:(spW list l).1=0):zbb l:=fun x hx =>by
 obtain ⟨i,hi,e⟩:=znf hx
 have h0:=zcC h i hi
 unfold zaV at h0
 rw [zce e] at h0
 by_cases hw:zbi x=0
 ·unfold zbi at hw
  by_cases he:za8 x=true
  ·refine ⟨he, ?_⟩
   rcases Int.lt_or_le x.2 x.1 with c | c
   ·simp [he,c] at hw
   ·exact c
  ·simp [he] at hw
 ·rw [if_pos hw] at h0
  exact absurd h0 hw
theorem zf7 {s:ByteArray} (h:toB s=true):okU s=true∧1≤(zah s).length∧(zah s).length≤4:=by
 unfold toB at h
 rw [Bool.and_eq_true,decide_eq_true_eq] at h
 exact h
theorem zk4 {x:Int × ByteArray} (h:mpF x=0):zaq x.1=true∧toB x.2=true:=by
 unfold mpF at h
 by_cases h1:zaq x.1=true
 ·rw [if_pos h1] at h
  by_cases h2:toB x.2=true
  ·exact ⟨h1,h2⟩
  ·rw [if_neg h2] at h
   exact absurd h (by decide)
 ·rw [if_neg h1] at h
  exact absurd h (by decide)
theorem zjf {T:TV} (h:(orW [zbU T,zbl T,zbd T]).1=0):zam T:=by
 have h:=zgQ h
 simp only [List.forall_mem_cons] at h
 have hl:=zgQ h.1
 have hf:=zgQ h.2.1
 have ht:=zgQ h.2.2.1
 simp only [List.forall_mem_cons] at hl hf ht
 obtain ⟨a0,a0s,a1,a2,a3,a4,a5,a6,a7,_⟩:=hl
 obtain ⟨f0,f1,f2,f3,f4,f5,f6,f7,_⟩:=hf
 obtain ⟨q0,q2,q3,q4,q5,_⟩:=ht
 have hp:=zcC q3
 refine ⟨zcQ a0,fun x hx =>?_,zcQ a1,zcQ a2,zcQ a3,zcQ a4,zcQ a5,zcQ a6,zcQ a7,fun x hx =>?_,zgP f1,fun x hx =>?_,fun x hx =>?_,fun x hx =>zk4 (zd7 f4 x hx),fun x hx =>zk4 (zd7 f5 x hx),zgP f6,zgP f7,zqw (zcC q2), ?_, ?_,zqw (zcC q4),zqw (zcC q5)⟩
 ·obtain ⟨i,hi,e⟩:=znf hx
  have:=zcC a0s i hi
  rw [show T.sc.getD i (ByteArray.empty,[])=x from zce e] at this
  rcases Nat.lt_or_ge 1024 x.2.length with c | c
  ·rw [if_pos c] at this
   exact absurd this (by decide)
  ·exact c
 ·have:=zd7 f0 x hx
  unfold scF at this
  by_cases hn:zdL x.1=true
  ·rw [if_pos hn] at this
   exact ⟨hn,zgP this⟩
  ·rw [if_neg hn] at this
   exact absurd this (by decide)
 ·have:=zd7 f2 x hx
  unfold maF at this
  by_cases hn:zaq x.1=true
  ·rw [if_pos hn] at this
   by_cases hc:x.2 < 1∨254 < x.2
   ·rw [if_pos hc] at this
    exact absurd this (by decide)
   ·exact ⟨hn,by omega,by omega⟩
  ·rw [if_neg hn] at this
   exact absurd this (by decide)
 ·have:=zd7 f3 x hx
  unfold prF at this
  by_cases hn:(zaq x.1 && (zaq x.2.1 && zaq x.2.2))=true
  ·rw [Bool.and_eq_true,Bool.and_eq_true] at hn
   exact hn
  ·rw [if_neg hn] at this
   exact absurd this (by decide)
 all_goals
  rw [List.pairwise_iff_getElem]
  intro i j hi hj hij e
  have:=hp j hj
  unfold twP at this
  rw [zce (List.getElem?_eq_getElem hj),if_pos (List.any_eq_true.2 ⟨T.pr[i],List.mem_take_iff_getElem.2 ⟨i,by omega,rfl⟩,by simp [e]⟩)] at this
  exact absurd this (by decide)
theorem zle {T:TV} (h:zam T) {x:Int × Int} (hx:x ∈ T.ma):zbk T x.1=x.2:=by
 unfold zbk
 rw [ziO hx (p:=fun y =>y.1 == x.1) (by simp) (fun y hy e =>zmW h.t2 hy hx (by simpa using e))]
theorem zid {T:TV} {r:Int} (h:∀ x ∈ T.ma,x.1≠r):zbk T r=0:=by
 unfold zbk
 rw [List.find?_eq_none.2 (fun x hx =>by simpa using h x hx)]
theorem zfg {T:TV} (h:zam T) (r:Int):(zbk T r == 0) = !za9 T r:=by
 unfold za9
 by_cases e:∃ x ∈ T.ma,x.1=r
 ·obtain ⟨x,hx,rfl⟩:=e
  rw [zle h hx,List.any_eq_true.2 ⟨x,hx,by simp⟩]
  have:=(h.f2 x hx).2
  simp
  omega
 ·rw [zid (fun x hx q =>e ⟨x,hx,q⟩),List.any_eq_false.2 (fun x hx q =>e ⟨x,hx,by simpa using q⟩)]
  rfl
theorem zp7 {T:TV} (h:zam T) {x:Int × Int × Int} (hx:x ∈ T.pr):zbN T x.1=some x:=by
 unfold zbN
 exact ziO hx (by simp) (fun y hy e =>zmW h.t3 hy hx (by simpa using e))
theorem zmr {T:TV} {r:Int} (h:∀ x ∈ T.pr,x.1≠r):zbN T r=none:=List.find?_eq_none.2 (fun x hx =>by simpa using h x hx)
theorem zmq {T:TV} {r:Int}:(zbN T r).isSome=zdP T r:=by
 unfold zbN zdP
 rw [Bool.eq_iff_iff,List.find?_isSome,List.any_eq_true]
def toP (l:List (Int × ByteArray)) (r:Int):Option (Int × ByteArray):=l.find? (fun x =>x.1 == r)
theorem zqe {l:List (Int × ByteArray)} (h:l.Pairwise (fun x y =>x.1≠y.1)) {x:Int × ByteArray} (hx:x ∈ l):toP l x.1=some x:=by
 unfold toP
 exact ziO hx (by simp) (fun y hy e =>zmW h hy hx (by simpa using e))
theorem zmz {l:List (Int × ByteArray)} {r:Int} (h:∀ x ∈ l,x.1≠r):toP l r=none:=List.find?_eq_none.2 (fun x hx =>by simpa using h x hx)
theorem zmy {l:List (Int × ByteArray)} {r:Int}:(toP l r).isSome=zep l r:=by
 unfold toP zep
 rw [Bool.eq_iff_iff,List.find?_isSome,List.any_eq_true]
def zdn (T:TV) (r:Int):List Nat:=(List.range T.sc.length).filter (fun j =>zan (T.sc.getD j sc0).2 r)
end Go.Proofs.YtmemedpoaocdkaaGreat
namespace Go.Proofs.YtmemedpoaocdkaaGreat
open Go.RowKit Go.Shelf Go.ChangeShapes Go.WideShapes Go.Deep
set_option linter.unusedVariables false
theorem laidOutT:laidOutB Tryz.prog=true:=by kernel_rfl
theorem ziW {H:Type}:∀ (l:List (DataW H)) (d:DataW H),d ∈ l→Rows.uptoBulk d≤Rows.uptoBulkAll l
 | [],d,h =>by cases h
 | x::l,d,h =>by
  simp only [Rows.uptoBulkAll]
  rcases List.mem_cons.1 h with rfl | h
  ·omega
  ·have:=ziW l d h;omega
theorem zpL {H:Type} (d:DataW H):1≤Rows.uptoBulk d:=by
 unfold Rows.uptoBulk
 split <;> omega
theorem zlg {H:Type}:∀ (l:List (DataW H)),l.length≤Rows.uptoBulkAll l
 | [] =>Nat.zero_le _
 | x::l =>by
  have:=zlg l
  have:=zpL x
  simp only [Rows.uptoBulkAll,List.length_cons]
  omega
theorem znC {α : Type} (f : α→List Value) (sz:Nat) (hf:∀ z,(f z).length=sz):∀ (zs:List α) (j:Nat) (u:Value),(zs.flatMap f)[j]?=some u→∃ (i k:Nat) (z : α),zs[i]?=some z∧k < sz∧j=i*sz+k∧(f z)[k]?=some u
 | [],j,u,h =>by cases h
 | z::zs,j,u,h =>by
  rw [List.flatMap_cons] at h
  by_cases hj:j < sz
  ·rw [List.getElem?_append_left (by rw [hf];exact hj)] at h
   exact ⟨0,j,z,rfl,hj,by omega,h⟩
  ·rw [List.getElem?_append_right (by rw [hf];omega),hf] at h
   obtain ⟨i,k,y,h1,h2,h3,h4⟩:=znC f sz hf zs (j - sz) u h
   exact ⟨i+1,k,y,h1,h2,by rw [Nat.succ_mul];omega,h4⟩
theorem zcs {H:Type} {enc:TypeId × Value→H} {W:World} {t e:TypeId} {α : Type} [Inhabited α] (encz : α→List Value) (Q : α→DataW H→Prop) (sz:Nat) (hsz:Tryz.prog.cellsOf e=sz) (hlen:∀ z,(encz z).length=sz) (hp:0 < sz)
  (ht:Tryz.prog.underlying t=some (.slice e)) (hel:∀ n cs x,DataW.trod enc Tryz.prog W 0 (fun _ =>true) true n e cs=some x→∃ z,cs=encz z∧Q z x.1) {fuel:Nat} {c:Value} {x:DataW H × List MemPlace} (h:DataW.trod enc Tryz.prog W 0 (fun _ =>true) true fuel t [c]=some x) :
  ∃ (zs:List α) (a:Option Addr) (cap:Nat),c=.slice a zs.length cap∧RowC W W.heap.size a (zs.flatMap encz)∧zs.length≤Rows.uptoBulk x.1∧∀ z ∈ zs, ∃ d,Q z d∧Rows.uptoBulk d≤Rows.uptoBulk x.1:=by
 rcases open_slice ht h with ⟨h0,hx⟩ | ⟨a,len,cap,m,n,D,Pl,hc,_,hl,hm,hmm,hx,hcs⟩
 ·injection h0 with h0
  subst h0
  exact ⟨[],none,0,rfl,fun h =>absurd h (by simp),Nat.zero_le _,fun z hz =>by cases hz⟩
 ·injection hc with hc
  subst hc
  simp only [if_true] at hmm
  subst hmm
  have each:∀ i,i < len→∃ z : α,(∀ j u,(encz z)[j]?=some u→W.cell? (a.add (i*sz+j))=some u)∧Q z (D i):=fun i hi =>by
   obtain ⟨cs',h1,h2⟩:=hcs i (by omega)
   obtain ⟨z,rfl,hq⟩:=hel n cs' _ h2
   rw [hsz] at h1
   obtain ⟨_,h3,h4⟩:=World.cells?_some h1
   refine ⟨z,fun j u hu =>?_,hq⟩
   have hj:=(List.getElem?_eq_some_iff.1 hu).1
   have h5:=h4 j (by rw [← h3];exact hj)
   rw [add_add] at h5
   exact h5.trans hu
  obtain ⟨b,off,spot⟩:=a
  rcases Nat.eq_zero_or_pos len with h0 | h0
  ·subst h0
   exact ⟨[],_,_,rfl,fun h =>absurd h (by simp),Nat.zero_le _,fun z hz =>by cases hz⟩
  ·obtain ⟨z0,hz0,_⟩:=each 0 h0
   obtain ⟨u0,hu0⟩:∃ u,(encz z0)[0]?=some u:=⟨_,List.getElem?_eq_getElem (by rw [hlen];exact hp)⟩
   have hc0:=hz0 0 u0 hu0
   have hspot:spot=none:=by simpa [Addr.add] using World.cell?_spot hc0
   subst hspot
   obtain ⟨Z,hZ⟩:=choose_lt each
   have hblt:b < W.heap.size:=by have:=zc4 hc0;simpa [Addr.add] using this
   refine ⟨(List.range len).map Z,some ⟨b,off,none⟩,_,by simp;rfl,fun _ =>⟨b,off,rfl,hblt,fun j u hu =>?_⟩, ?_,fun z hz =>?_⟩
   ·obtain ⟨i,k,z,h1,h2,h3,h4⟩:=znC encz sz hlen _ j u hu
    have hi:=(List.getElem?_eq_some_iff.1 h1).1
    simp at hi
    simp [hi] at h1
    subst h1
    have:=(hZ i hi).1 k u h4
    rw [← h3,add_plain] at this
    exact this
   ·rw [hx]
    have:=zlg ((List.range len).map D)
    simp only [Rows.uptoBulk,List.length_map,List.length_range] at this ⊢
    omega
   ·obtain ⟨i,hi,rfl⟩:=List.mem_map.1 hz
    have hi:=List.mem_range.1 hi
    refine ⟨D i,(hZ i hi).2, ?_⟩
    rw [hx]
    have:=ziW ((List.range len).map D) (D i) (List.mem_map.2 ⟨i,List.mem_range.2 hi,rfl⟩)
    simp only [Rows.uptoBulk]
    omega
theorem zsm {α : Type}:∀ {l:List α},l.length=2→∃ a b,l=[a,b]
 | [a,b],_ =>⟨a,b,rfl⟩
theorem zsl {α : Type}:∀ {l:List α},l.length=3→∃ a b c,l=[a,b,c]
 | [a,b,c],_ =>⟨a,b,c,rfl⟩
theorem zoQ {H:Type} {enc:TypeId × Value→H} {W:World} {hh:Bool} {e:TypeId} {f0 f1:Field} (he:Tryz.prog.underlying e=some (.struct #[f0,f1])) (ce:Tryz.prog.cellsOf e=2) (o0:f0.offset=0) (o1:f1.offset=1) (c0:Tryz.prog.cellsOf f0.type=1) (c1:Tryz.prog.cellsOf f1.type=1) {n:Nat} {cs:List Value} {x:DataW H × List MemPlace}
  (h:DataW.trod enc Tryz.prog W 0 (fun _ =>true) hh n e cs=some x):∃ v0 v1 y0 y1 k,cs=[v0,v1]∧x.1=.agg [y0.1,y1.1]∧DataW.trod enc Tryz.prog W 0 (fun _ =>true) hh k f0.type [v0]=some y0∧DataW.trod enc Tryz.prog W 0 (fun _ =>true) hh k f1.type [v1]=some y1:=by
 obtain ⟨xs,k,hk,hxy,hcl,hxl,hf⟩:=DataW.trod_struct he h
 rw [ce] at hcl
 obtain ⟨y0,y1,rfl⟩:=zsm hxl
 obtain ⟨v0,v1,rfl⟩:=zsm hcl
 have g0:=hf 0 f0 rfl
 have g1:=hf 1 f1 rfl
 rw [o0,c0] at g0
 rw [o1,c1] at g1
 exact ⟨v0,v1,y0,y1,k,rfl,by rw [hxy];rfl,g0,g1⟩
theorem zr5 {H:Type} {enc:TypeId × Value→H} {W:World} {hh:Bool} {e:TypeId} {f0 f1 f2:Field} (he:Tryz.prog.underlying e=some (.struct #[f0,f1,f2])) (ce:Tryz.prog.cellsOf e=3) (o0:f0.offset=0) (o1:f1.offset=1) (o2:f2.offset=2) (c0:Tryz.prog.cellsOf f0.type=1) (c1:Tryz.prog.cellsOf f1.type=1) (c2:Tryz.prog.cellsOf f2.type=1) {n:Nat} {cs:List Value} {x:DataW H × List MemPlace}
  (h:DataW.trod enc Tryz.prog W 0 (fun _ =>true) hh n e cs=some x):∃ v0 v1 v2 y0 y1 y2 k,cs=[v0,v1,v2]∧x.1=.agg [y0.1,y1.1,y2.1]∧DataW.trod enc Tryz.prog W 0 (fun _ =>true) hh k f0.type [v0]=some y0∧DataW.trod enc Tryz.prog W 0 (fun _ =>true) hh k f1.type [v1]=some y1∧DataW.trod enc Tryz.prog W 0 (fun _ =>true) hh k f2.type [v2]=some y2:=by
 obtain ⟨xs,k,hk,hxy,hcl,hxl,hf⟩:=DataW.trod_struct he h
 rw [ce] at hcl
 obtain ⟨y0,y1,y2,rfl⟩:=zsl hxl
 obtain ⟨v0,v1,v2,rfl⟩:=zsl hcl
 have g0:=hf 0 f0 rfl
 have g1:=hf 1 f1 rfl
 have g2:=hf 2 f2 rfl
 rw [o0,c0] at g0
 rw [o1,c1] at g1
 rw [o2,c2] at g2
 exact ⟨v0,v1,v2,y0,y1,y2,k,rfl,by rw [hxy];rfl,g0,g1,g2⟩
def R32 (x:Int):Prop := -2147483648≤x∧x≤2147483647
theorem zhg {z:Int} (h:Lit.wf (.int .i32 z)=true):R32 z:=by
 simp [Lit.wf,IntKind.min,IntKind.max,IntKind.signed,IntKind.bits] at h
 exact ⟨by omega,by omega⟩
structure zjU (T:TV):Prop where
 s:∀ x ∈ T.sc, ∀ y ∈ x.2,R32 y.1∧R32 y.2
 co:∀ y ∈ T.co,R32 y.1∧R32 y.2
 dr:∀ y ∈ T.dr,R32 y.1∧R32 y.2
 al:∀ y ∈ T.al,R32 y.1∧R32 y.2
 ma:∀ y ∈ T.ma,R32 y.1
 pr:∀ y ∈ T.pr,R32 y.1∧R32 y.2.1∧R32 y.2.2
 fo:∀ y ∈ T.fo,R32 y.1
 lk:∀ y ∈ T.lk,R32 y.1
theorem ziU {H:Type} {enc:TypeId × Value→H} {W:World} (n:Nat) (cs:List Value) (x:DataW H × List MemPlace) (h:DataW.trod enc Tryz.prog W 0 (fun _ =>true) true n 113 cs=some x):∃ z:Int × Int,cs=[.int .i32 z.1,.int .i32 z.2]∧R32 z.1∧R32 z.2:=by
 obtain ⟨v0,v1,y0,y1,k,rfl,_,t0,t1⟩:=zoQ Tryz.underlying113 (by kernel_rfl) rfl rfl (by kernel_rfl) (by kernel_rfl) h
 obtain ⟨z0,e0,_,w0⟩:=DataW.trod_int Tryz.underlying21 t0
 obtain ⟨z1,e1,_,w1⟩:=DataW.trod_int Tryz.underlying21 t1
 injection e0 with e0
 injection e1 with e1
 exact ⟨(z0,z1),by rw [e0,e1],zhg w0,zhg w1⟩
theorem zq3 {H:Type} {enc:TypeId × Value→H} {W:World} (n:Nat) (cs:List Value) (x:DataW H × List MemPlace) (h:DataW.trod enc Tryz.prog W 0 (fun _ =>true) true n 115 cs=some x):∃ z:Int × Int,cs=[.int .i32 z.1,.int .i64 z.2]∧(-9223372036854775808≤z.2∧z.2≤9223372036854775807)∧R32 z.1:=by
 obtain ⟨v0,v1,y0,y1,k,rfl,_,t0,t1⟩:=zoQ Tryz.underlying115 (by kernel_rfl) rfl rfl (by kernel_rfl) (by kernel_rfl) h
 obtain ⟨z0,e0,_,w0⟩:=DataW.trod_int Tryz.underlying21 t0
 obtain ⟨z1,e1,_,w1⟩:=DataW.trod_int Tryz.underlying3 t1
 injection e0 with e0
 injection e1 with e1
 refine ⟨(z0,z1),by rw [e0,e1], ?_⟩
 simp [Lit.wf,IntKind.min,IntKind.max,IntKind.signed,IntKind.bits] at w1
 exact ⟨⟨by show -9223372036854775808≤z1;omega,by show z1≤9223372036854775807;omega⟩,zhg w0⟩
theorem zq2 {H:Type} {enc:TypeId × Value→H} {W:World} (n:Nat) (cs:List Value) (x:DataW H × List MemPlace) (h:DataW.trod enc Tryz.prog W 0 (fun _ =>true) true n 117 cs=some x):∃ z:Int × Int × Int,cs=[.int .i32 z.1,.int .i32 z.2.1,.int .i32 z.2.2]∧R32 z.1∧R32 z.2.1∧R32 z.2.2:=by
 obtain ⟨v0,v1,v2,y0,y1,y2,k,rfl,_,t0,t1,t2⟩:=zr5 Tryz.underlying117 (by kernel_rfl) rfl rfl rfl (by kernel_rfl) (by kernel_rfl) (by kernel_rfl) h
 obtain ⟨z0,e0,_,w0⟩:=DataW.trod_int Tryz.underlying21 t0
 obtain ⟨z1,e1,_,w1⟩:=DataW.trod_int Tryz.underlying21 t1
 obtain ⟨z2,e2,_,w2⟩:=DataW.trod_int Tryz.underlying21 t2
 injection e0 with e0
 injection e1 with e1
 injection e2 with e2
 exact ⟨(z0,z1,z2),by rw [e0,e1,e2],zhg w0,zhg w1,zhg w2⟩
theorem zhy {H:Type} (a b:DataW H):Rows.uptoBulk (.agg [a,b])=Rows.uptoBulk a+Rows.uptoBulk b+1:=by
 simp only [Rows.uptoBulk,Rows.uptoBulkAll]
 omega
theorem zlf {H:Type} (s:ByteArray):Rows.uptoBulk (.lit (.string s.data.toList):DataW H)=s.size+1:=by
 simp only [Rows.uptoBulk]
 rw [Array.length_toList]
 rfl
theorem zp0 {H:Type} {enc:TypeId × Value→H} {W:World} (n:Nat) (cs:List Value) (x:DataW H × List MemPlace) (h:DataW.trod enc Tryz.prog W 0 (fun _ =>true) true n 119 cs=some x):∃ z:Int × ByteArray,cs=[.int .i32 z.1,.string z.2]∧z.2.size≤Rows.uptoBulk x.1∧R32 z.1:=by
 obtain ⟨v0,v1,y0,y1,k,rfl,hx,t0,t1⟩:=zoQ Tryz.underlying119 (by kernel_rfl) rfl rfl (by kernel_rfl) (by kernel_rfl) h
 obtain ⟨z0,e0,_,w0⟩:=DataW.trod_int Tryz.underlying21 t0
 obtain ⟨z1,e1,hy,_⟩:=DataW.trod_string Tryz.underlying9 t1
 injection e0 with e0
 injection e1 with e1
 refine ⟨(z0,z1),by rw [e0,e1], ?_,zhg w0⟩
 rw [hx,zhy,hy,zlf]
 show z1.size≤_
 omega
def ScQ {H:Type} (W:World) (z:ByteArray × List (Int × Int) × Value) (d:DataW H):Prop:=z.1.size≤Rows.uptoBulk d∧z.2.1.length≤Rows.uptoBulk d∧(∃ b c,z.2.2=.slice b z.2.1.length c∧RowC W W.heap.size b (z.2.1.flatMap fun s => [.int .i32 s.1,.int .i32 s.2]))∧∀ y ∈ z.2.1,R32 y.1∧R32 y.2
theorem znO {H:Type} {enc:TypeId × Value→H} {W:World} (n:Nat) (cs:List Value) (x:DataW H × List MemPlace) (h:DataW.trod enc Tryz.prog W 0 (fun _ =>true) true n 109 cs=some x):∃ z:ByteArray × List (Int × Int) × Value,cs=[.string z.1,z.2.2]∧ScQ W z x.1:=by
 obtain ⟨v0,v1,y0,y1,k,rfl,hx,t0,t1⟩:=zoQ Tryz.underlying109 (by kernel_rfl) rfl rfl (by kernel_rfl) (by kernel_rfl) h
 obtain ⟨z0,e0,hy,_⟩:=DataW.trod_string Tryz.underlying9 t0
 injection e0 with e0
 obtain ⟨zs,a,cap,e1,hr,hl,hq⟩:=zcs (fun s:Int × Int => [Value.int .i32 s.1,.int .i32 s.2]) (fun z _ =>R32 z.1∧R32 z.2) 2 (by kernel_rfl) (fun _ =>rfl) (by decide) Tryz.underlying23 ziU t1
 refine ⟨(z0,zs,v1),by rw [e0], ?_, ?_,⟨a,cap,e1,hr⟩,fun y hy =>by obtain ⟨_,h5,_⟩:=hq y hy;exact h5⟩
 ·show z0.size≤_
  rw [hx,zhy,hy,zlf]
  omega
 ·show zs.length≤_
  rw [hx,zhy]
  omega
theorem zqX:∀ (l:List (Int × Int)),(l.flatMap fun s => [Value.int .i32 s.1,.int .i32 s.2])=zaW l
 | [] =>rfl
 | x::l =>by rw [List.flatMap_cons,zqX l];rfl
theorem zrG:∀ (l:List (Int × Int)),(l.flatMap fun s => [Value.int .i32 s.1,.int .i64 s.2])=zdO l
 | [] =>rfl
 | x::l =>by rw [List.flatMap_cons,zrG l];rfl
theorem zrF:∀ (l:List (Int × Int × Int)),(l.flatMap fun s => [Value.int .i32 s.1,.int .i32 s.2.1,.int .i32 s.2.2])=zdb l
 | [] =>rfl
 | x::l =>by rw [List.flatMap_cons,zrF l];rfl
theorem zrH:∀ (l:List (Int × ByteArray)),(l.flatMap fun s => [Value.int .i32 s.1,.string s.2])=zbo l
 | [] =>rfl
 | x::l =>by rw [List.flatMap_cons,zrH l];rfl
theorem zrI:∀ (l:List (ByteArray × List (Int × Int) × Value)),(l.flatMap fun z => [Value.string z.1,z.2.2])=zbB (l.map fun z =>(z.1,z.2.1)) (l.map fun z =>z.2.2)
 | [] =>rfl
 | x::l =>by rw [List.flatMap_cons,zrI l];rfl
theorem zsk {α : Type}:∀ {l:List α},l.length=8→∃ a b c d e f g h,l=[a,b,c,d,e,f,g,h]
 | [a,b,c,d,e,f,g,h],_ =>⟨a,b,c,d,e,f,g,h,rfl⟩
theorem zoc:∃ f0 f1 f2 f3 f4 f5 f6 f7:Field,Tryz.prog.underlying 28=some (.struct #[f0,f1,f2,f3,f4,f5,f6,f7])∧(f0.offset=0∧f0.type=22)∧(f1.offset=1∧f1.type=23)∧(f2.offset=2∧f2.type=24)∧(f3.offset=3∧f3.type=25)∧(f4.offset=4∧f4.type=26)∧(f5.offset=5∧f5.type=26)∧(f6.offset=6∧f6.type=23)∧(f7.offset=7∧f7.type=23) :=
 ⟨_,_,_,_,_,_,_,_,Tryz.underlying28,⟨rfl,rfl⟩,⟨rfl,rfl⟩,⟨rfl,rfl⟩,⟨rfl,rfl⟩,⟨rfl,rfl⟩,⟨rfl,rfl⟩,⟨rfl,rfl⟩,⟨rfl,rfl⟩⟩
theorem znU {H:Type} (a b c d e f g h:DataW H):Rows.uptoBulk a≤Rows.uptoBulk (.agg [a,b,c,d,e,f,g,h])∧Rows.uptoBulk b≤Rows.uptoBulk (.agg [a,b,c,d,e,f,g,h])∧Rows.uptoBulk c≤Rows.uptoBulk (.agg [a,b,c,d,e,f,g,h])∧Rows.uptoBulk d≤Rows.uptoBulk (.agg [a,b,c,d,e,f,g,h])∧Rows.uptoBulk e≤Rows.uptoBulk (.agg [a,b,c,d,e,f,g,h])∧Rows.uptoBulk f≤Rows.uptoBulk (.agg [a,b,c,d,e,f,g,h])∧Rows.uptoBulk g≤Rows.uptoBulk (.agg [a,b,c,d,e,f,g,h])∧Rows.uptoBulk h≤Rows.uptoBulk (.agg [a,b,c,d,e,f,g,h]):=by
 have e0:Rows.uptoBulk (.agg [a,b,c,d,e,f,g,h])=Rows.uptoBulkAll [a,b,c,d,e,f,g,h]+1:=by simp only [Rows.uptoBulk]
 have key:∀ x ∈ [a,b,c,d,e,f,g,h],Rows.uptoBulk x≤Rows.uptoBulkAll [a,b,c,d,e,f,g,h]+1:=fun x hx =>Nat.le_succ_of_le (ziW _ x hx)
 rw [e0]
 exact ⟨key a (by simp),key b (by simp),key c (by simp),key d (by simp),key e (by simp),key f (by simp),key g (by simp),key h (by simp)⟩
set_option maxRecDepth 100000 in
set_option maxHeartbeats 1000000 in
theorem arg_tab {H:Type} {enc:TypeId × Value→H} {W:World} {cs:Array Value} {d:DataW H} {p:List MemPlace} (h:DataW.Trod enc Tryz.prog W 0 (fun _ =>true) true 28 (.agg cs) d p) (hd:Rows.uptoBulk d≤1048576) :
  ∃ (T:TV) (a0 a1 a2 a3 a4 a5 a6 a7:Option Addr) (c0 c1 c2 c3 c4 c5 c6 c7:Nat) (us:List Value),cs=zmG T a0 a1 a2 a3 a4 a5 a6 a7 c0 c1 c2 c3 c4 c5 c6 c7∧TabIn W T a0 a1 a2 a3 a4 a5 a6 a7 us∧TabB T∧zjU T:=by
 obtain ⟨fuel,hf⟩:=h
 obtain ⟨f0,f1,f2,f3,f4,f5,f6,f7,hu,⟨o0,t0⟩,⟨o1,t1⟩,⟨o2,t2⟩,⟨o3,t3⟩,⟨o4,t4⟩,⟨o5,t5⟩,⟨o6,t6⟩,⟨o7,t7⟩⟩:=zoc
 obtain ⟨xs,k,hk,hxy,hcl,hxl,hg⟩:=DataW.trod_struct hu hf
 have hc8:(Value.agg cs).cells.toList.length=8:=hcl.trans (by kernel_rfl)
 have hcs:(Value.agg cs).cells.toList=cs.toList:=by simp [Value.cells]
 obtain ⟨v0,v1,v2,v3,v4,v5,v6,v7,hv⟩:=zsk (hcs ▸ hc8)
 obtain ⟨x0,x1,x2,x3,x4,x5,x6,x7,rfl⟩:=zsk hxl
 have g0:=hg 0 f0 rfl
 rw [o0,t0,hcs,hv,show Tryz.prog.cellsOf 22=1 by kernel_rfl] at g0
 have g0:DataW.trod enc Tryz.prog W 0 (fun _ =>true) true k 22 [v0]=some x0:=g0
 have g1:=hg 1 f1 rfl
 rw [o1,t1,hcs,hv,show Tryz.prog.cellsOf 23=1 by kernel_rfl] at g1
 have g1:DataW.trod enc Tryz.prog W 0 (fun _ =>true) true k 23 [v1]=some x1:=g1
 have g2:=hg 2 f2 rfl
 rw [o2,t2,hcs,hv,show Tryz.prog.cellsOf 24=1 by kernel_rfl] at g2
 have g2:DataW.trod enc Tryz.prog W 0 (fun _ =>true) true k 24 [v2]=some x2:=g2
 have g3:=hg 3 f3 rfl
 rw [o3,t3,hcs,hv,show Tryz.prog.cellsOf 25=1 by kernel_rfl] at g3
 have g3:DataW.trod enc Tryz.prog W 0 (fun _ =>true) true k 25 [v3]=some x3:=g3
 have g4:=hg 4 f4 rfl
 rw [o4,t4,hcs,hv,show Tryz.prog.cellsOf 26=1 by kernel_rfl] at g4
 have g4:DataW.trod enc Tryz.prog W 0 (fun _ =>true) true k 26 [v4]=some x4:=g4
 have g5:=hg 5 f5 rfl
 rw [o5,t5,hcs,hv,show Tryz.prog.cellsOf 26=1 by kernel_rfl] at g5
 have g5:DataW.trod enc Tryz.prog W 0 (fun _ =>true) true k 26 [v5]=some x5:=g5
 have g6:=hg 6 f6 rfl
 rw [o6,t6,hcs,hv,show Tryz.prog.cellsOf 23=1 by kernel_rfl] at g6
 have g6:DataW.trod enc Tryz.prog W 0 (fun _ =>true) true k 23 [v6]=some x6:=g6
 have g7:=hg 7 f7 rfl
 rw [o7,t7,hcs,hv,show Tryz.prog.cellsOf 23=1 by kernel_rfl] at g7
 have g7:DataW.trod enc Tryz.prog W 0 (fun _ =>true) true k 23 [v7]=some x7:=g7
 obtain ⟨z0,a0,c0,rfl,r0,l0,q0⟩:=zcs (fun z:ByteArray × List (Int × Int) × Value => [Value.string z.1,z.2.2]) (ScQ W) 2 (by kernel_rfl) (fun _ =>rfl) (by decide) Tryz.underlying22 znO g0
 obtain ⟨z1,a1,c1,rfl,r1,l1,q1⟩:=zcs (fun s:Int × Int => [Value.int .i32 s.1,.int .i32 s.2]) (fun z _ =>R32 z.1∧R32 z.2) 2 (by kernel_rfl) (fun _ =>rfl) (by decide) Tryz.underlying23 ziU g1
 obtain ⟨z2,a2,c2,rfl,r2,l2,q2⟩:=zcs (fun s:Int × Int => [Value.int .i32 s.1,.int .i64 s.2]) (fun z _ =>(-9223372036854775808≤z.2∧z.2≤9223372036854775807)∧R32 z.1) 2 (by kernel_rfl) (fun _ =>rfl) (by decide) Tryz.underlying24 zq3 g2
 obtain ⟨z3,a3,c3,rfl,r3,l3,q3⟩:=zcs (fun s:Int × Int × Int => [Value.int .i32 s.1,.int .i32 s.2.1,.int .i32 s.2.2]) (fun z _ =>R32 z.1∧R32 z.2.1∧R32 z.2.2) 3 (by kernel_rfl) (fun _ =>rfl) (by decide) Tryz.underlying25 zq2 g3
 obtain ⟨z4,a4,c4,rfl,r4,l4,q4⟩:=zcs (fun s:Int × ByteArray => [Value.int .i32 s.1,.string s.2]) (fun z d =>z.2.size≤Rows.uptoBulk d∧R32 z.1) 2 (by kernel_rfl) (fun _ =>rfl) (by decide) Tryz.underlying26 zp0 g4
 obtain ⟨z5,a5,c5,rfl,r5,l5,q5⟩:=zcs (fun s:Int × ByteArray => [Value.int .i32 s.1,.string s.2]) (fun z d =>z.2.size≤Rows.uptoBulk d∧R32 z.1) 2 (by kernel_rfl) (fun _ =>rfl) (by decide) Tryz.underlying26 zp0 g5
 obtain ⟨z6,a6,c6,rfl,r6,l6,q6⟩:=zcs (fun s:Int × Int => [Value.int .i32 s.1,.int .i32 s.2]) (fun z _ =>R32 z.1∧R32 z.2) 2 (by kernel_rfl) (fun _ =>rfl) (by decide) Tryz.underlying23 ziU g6
 obtain ⟨z7,a7,c7,rfl,r7,l7,q7⟩:=zcs (fun s:Int × Int => [Value.int .i32 s.1,.int .i32 s.2]) (fun z _ =>R32 z.1∧R32 z.2) 2 (by kernel_rfl) (fun _ =>rfl) (by decide) Tryz.underlying23 ziU g7
 have hdx:d=.agg [x0.1,x1.1,x2.1,x3.1,x4.1,x5.1,x6.1,x7.1]:=congrArg Prod.fst hxy
 have hb:=znU x0.1 x1.1 x2.1 x3.1 x4.1 x5.1 x6.1 x7.1
 rw [← hdx] at hb
 obtain ⟨b0,b1,b2,b3,b4,b5,b6,b7⟩:=hb
 rw [zrI] at r0
 rw [zqX] at r1 r6 r7
 rw [zrG] at r2
 rw [zrF] at r3
 rw [zrH] at r4 r5
 refine ⟨⟨z0.map fun z =>(z.1,z.2.1),z1,z2,z3,z4,z5,z6,z7,[],[],[],[],[],[],[],[]⟩,a0,a1,a2,a3,a4,a5,a6,a7,c0,c1,c2,c3,c4,c5,c6,c7,z0.map fun z =>z.2.2, ?_, ?_, ?_, ?_⟩
 ·unfold zmG
  rw [List.length_map]
  exact Array.ext' hv
 ·refine ⟨by rw [List.length_map,List.length_map],r0,r1,r2,r3,r4,r5,r6,r7,fun j x u hx hu =>?_⟩
  have hx':(z0.map fun z =>(z.1,z.2.1))[j]?=some x:=hx
  rw [List.getElem?_map] at hx' hu
  obtain ⟨z,hz,rfl⟩:=Option.map_eq_some_iff.1 hx'
  rw [hz] at hu
  obtain rfl:=Option.some.inj hu
  obtain ⟨dz,⟨_,_,⟨b,c,e,hr⟩,_⟩,_⟩:=q0 z (List.mem_of_getElem? hz)
  rw [zqX] at hr
  exact ⟨b,c,e,hr⟩
 ·refine ⟨by show (z0.map _).length≤_;rw [List.length_map];omega,by show z1.length≤_;omega,by show z2.length≤_;omega,by show z3.length≤_;omega,by show z4.length≤_;omega,by show z5.length≤_;omega,by show z6.length≤_;omega,by show z7.length≤_;omega,fun x hx =>?_,fun x hx =>?_,fun x hx =>?_,fun x hx =>?_⟩
  ·obtain ⟨z,hz,rfl⟩:=List.mem_map.1 (show x ∈ z0.map fun z =>(z.1,z.2.1) from hx)
   obtain ⟨dz,⟨s1,s2,_⟩,s3⟩:=q0 z hz
   exact ⟨by show z.1.size≤_;omega,by show z.2.1.length≤_;omega⟩
  ·obtain ⟨_,⟨s1,_⟩,_⟩:=q2 x hx
   exact s1
  ·obtain ⟨dz,⟨s1,_⟩,s2⟩:=q4 x hx
   omega
  ·obtain ⟨dz,⟨s1,_⟩,s2⟩:=q5 x hx
   omega
 ·refine ⟨fun x hx y hy =>?_,fun y hy =>?_,fun y hy =>?_,fun y hy =>?_,fun y hy =>?_,fun y hy =>?_,fun y hy =>?_,fun y hy =>?_⟩
  ·obtain ⟨z,hz,rfl⟩:=List.mem_map.1 (show x ∈ z0.map fun z =>(z.1,z.2.1) from hx)
   obtain ⟨dz,⟨_,_,_,s1⟩,_⟩:=q0 z hz
   exact s1 y hy
  ·obtain ⟨_,s1,_⟩:=q1 y hy;exact s1
  ·obtain ⟨_,s1,_⟩:=q6 y hy;exact s1
  ·obtain ⟨_,s1,_⟩:=q7 y hy;exact s1
  ·obtain ⟨_,⟨_,s1⟩,_⟩:=q2 y hy;exact s1
  ·obtain ⟨_,s1,_⟩:=q3 y hy;exact s1
  ·obtain ⟨_,⟨_,s1⟩,_⟩:=q4 y hy;exact s1
  ·obtain ⟨_,⟨_,s1⟩,_⟩:=q5 y hy;exact s1
end Go.Proofs.YtmemedpoaocdkaaGreat
