/- Texts of this claim, one behind the other. -/
import Derived.Test.YtoaiicbicdhkkaaGreatM4
import Derived.Test.YtoaiicbicdhkkaaGreatRows
import Derived.Test.YtoaiicbicdhkkaaGreatM3
import Derived.ProofKit
import Derived.OpenShut
import Derived.ChangeOld
import Derived.Deep.SlicePairs
/- Spans laid one behind the other are the fewest; the fewest are one list. -/
namespace Go.Proofs.YtoaiicbicdhkkaaGreat
open Go.RowKit Go.Shelf
set_option linter.unusedVariables false
def zgp (zs:List (Int × Int)) (x:Int × Int):List (Int × Int) :=
 match zs.getLast? with
 | some y =>if zae x.1≤zae y.2+1 then zs.dropLast++[(y.1,max y.2 x.2)] else zs++[x]
 | none => [x]
theorem zfk (x:Int × Int):zgp [] x=[x]:=rfl
theorem zc6 (ys:List (Int × Int)) (y x:Int × Int) (h:zae x.1≤zae y.2+1):zgp (ys++[y]) x=ys++[(y.1,max y.2 x.2)]:=by
 unfold zgp
 rw [List.getLast?_concat,List.dropLast_concat]
 simp only [if_pos h]
theorem zc7 (ys:List (Int × Int)) (y x:Int × Int) (h:¬ zae x.1≤zae y.2+1):zgp (ys++[y]) x=ys++[y]++[x]:=by
 unfold zgp
 rw [List.getLast?_concat]
 simp only [if_neg h]
theorem zgY {ys:List (Int × Int)} {y x:Int × Int} {i:Nat} (h:(ys++[y])[i]?=some x):(i < ys.length∧ys[i]?=some x)∨(i=ys.length∧x=y):=by
 rcases Nat.lt_trichotomy i ys.length with a | a | a
 ·rw [List.getElem?_append_left a] at h;exact .inl ⟨a,h⟩
 ·subst a;simp at h;exact .inr ⟨rfl,h.symm⟩
 ·rw [List.getElem?_append_right (by omega)] at h
  have:=(List.getElem?_eq_some_iff.1 h).1
  simp at this;omega
theorem Spread.init {ys:List (Int × Int)} {y:Int × Int} (h:Spread (ys++[y])):Spread ys where
 ends x hx:=h.ends x (by simp [hx])
 apart i j x z hij hx hz:=by
  have hi:=(List.getElem?_eq_some_iff.1 hx).1
  have hj:=(List.getElem?_eq_some_iff.1 hz).1
  exact h.apart i j x z hij (by rw [List.getElem?_append_left hi];exact hx) (by rw [List.getElem?_append_left hj];exact hz)
theorem Spread.last {ys:List (Int × Int)} {y:Int × Int} (h:Spread (ys++[y])) (x:Int × Int) (hx:x ∈ ys):zae x.2+1 < zae y.1:=by
 obtain ⟨i,hi,rfl⟩:=List.mem_iff_getElem.1 hx
 exact h.apart i ys.length _ _ hi (by rw [List.getElem?_append_left hi,List.getElem?_eq_getElem hi]) (by simp)
theorem Spread.snoc {ys:List (Int × Int)} {y:Int × Int} (h:Spread ys) (he:zaW y=true) (hy:y.1≤y.2) (ha:∀ x ∈ ys,zae x.2+1 < zae y.1):Spread (ys++[y]) where
 ends x hx:=by
  rcases List.mem_append.1 hx with a | a
  ·exact h.ends x a
  ·simp at a;subst a;exact ⟨he,hy⟩
 apart i j x z hij hx hz:=by
  rcases zgY hz with ⟨a,b⟩ | ⟨a,b⟩
  ·rcases zgY hx with ⟨c,d⟩ | ⟨c,d⟩
   ·exact h.apart i j x z hij d b
   ·omega
  ·rcases zgY hx with ⟨c,d⟩ | ⟨c,d⟩
   ·subst b;exact ha x (List.mem_of_getElem? d)
   ·omega
theorem zbD {a b:Int} (ha:a < 55296∨57343 < a) (hb:b < 55296∨57343 < b):zae a≤zae b ↔ a≤b:=by
 have:=zfE hb ha
 omega
theorem zg6 {x:Int × Int} (h1:zaj x.1=true) (h2:zaj x.2=true):zaW x=true:=by unfold zaW;rw [h1,h2];rfl
theorem zaV {x:Int × Int} (h:zaW x=true):zaj x.1=true∧zaj x.2=true:=by unfold zaW at h;rwa [Bool.and_eq_true] at h
theorem zcy {zs:List (Int × Int)} {x:Int × Int} (h:Spread zs) (he:zaW x=true) (hx:x.1≤x.2) (hl:∀ y ∈ zs,y.1≤x.1):Spread (zgp zs x):=by
 rcases List.eq_nil_or_concat zs with rfl | ⟨ys,y,rfl⟩
 ·rw [zfk]
  exact Spread.snoc (ys := []) ⟨fun x h =>by simp at h,fun i j x y _ h =>by simp at h⟩ he hx (fun x h =>by simp at h)
 ·rw [List.concat_eq_append] at *
  have hy:=h.ends y (by simp)
  by_cases t:zae x.1≤zae y.2+1
  ·rw [zc6 _ _ _ t]
   refine Spread.snoc h.init ?_ (by show y.1≤max y.2 x.2;have:=hy.2;omega) (fun z hz =>h.last z hz)
   refine zg6 (zaV hy.1).1 ?_
   show zaj (max y.2 x.2)=true
   rcases Int.le_total y.2 x.2 with a | a
   ·rw [Int.max_eq_right a];exact (zaV he).2
   ·rw [Int.max_eq_left a];exact (zaV hy.1).2
  ·rw [zc7 _ _ _ t]
   refine Spread.snoc h he hx (fun z hz =>?_)
   rcases List.mem_append.1 hz with a | a
   ·have h1:=h.last z a
    have h2:=zam hy.1
    have h3:=(zbD h2.1.2.2 h2.2.2.2).2 hy.2
    omega
   ·simp at a;subst a;omega
theorem zbm (xs ys:List (Int × Int)) (r:Int):zak (xs++ys) r=(zak xs r || zak ys r):=by
 unfold zak
 rw [List.any_append,Bool.and_or_distrib_right]
theorem zau (zs:List (Int × Int)) (r:Int):zak zs r=true ↔ (∃ x ∈ zs,x.1≤r∧r≤x.2)∧zaj r=true:=by
 unfold zak
 simp
theorem zfl {zs:List (Int × Int)} {x:Int × Int} (h:Spread zs) (he:zaW x=true) (hx:x.1≤x.2) (hl:∀ y ∈ zs,y.1≤x.1) (r:Int):zak (zgp zs x) r=(zak zs r || zak [x] r):=by
 rcases List.eq_nil_or_concat zs with rfl | ⟨ys,y,rfl⟩
 ·rw [zfk];simp [zak]
 ·rw [List.concat_eq_append] at *
  have hy:=h.ends y (by simp)
  by_cases t:zae x.1≤zae y.2+1
  ·rw [zc6 _ _ _ t,zbm,zbm,Bool.or_assoc]
   congr 1
   have h1:=zam hy.1
   have h2:=zam he
   have h3:=hl y (by simp)
   rw [Bool.eq_iff_iff,Bool.or_eq_true,zau,zau,zau]
   simp only [List.mem_singleton,exists_eq_left]
   constructor
   ·rintro ⟨⟨a,b⟩,c⟩
    have d:=zaS c
    by_cases e:r≤y.2
    ·exact .inl ⟨⟨a,e⟩,c⟩
    ·have f:=(zfE h1.2.2.2 d.2.2).2 (by omega)
     have g:=(zbD h2.1.2.2 d.2.2).1 (by omega)
     exact .inr ⟨⟨g,by omega⟩,c⟩
   ·rintro (⟨⟨a,b⟩,c⟩ | ⟨⟨a,b⟩,c⟩)
    ·exact ⟨⟨a,by omega⟩,c⟩
    ·exact ⟨⟨by omega,by omega⟩,c⟩
  ·rw [zc7 _ _ _ t,zbm]
theorem zd7 (zs:List (Int × Int)) (x:Int × Int):(zgp zs x).length≤zs.length+1:=by
 rcases List.eq_nil_or_concat zs with rfl | ⟨ys,y,rfl⟩
 ·rw [zfk];simp
 ·rw [List.concat_eq_append]
  by_cases t:zae x.1≤zae y.2+1
  ·rw [zc6 _ _ _ t];simp
  ·rw [zc7 _ _ _ t];simp
theorem layL_fst (zs:List (Int × Int)) (x z:Int × Int) (h:z ∈ zgp zs x):(∃ y ∈ zs,z.1=y.1)∨z.1=x.1:=by
 rcases List.eq_nil_or_concat zs with rfl | ⟨ys,y,rfl⟩
 ·rw [zfk] at h;simp at h;subst h;exact .inr rfl
 ·rw [List.concat_eq_append] at *
  by_cases t:zae x.1≤zae y.2+1
  ·rw [zc6 _ _ _ t] at h
   rcases List.mem_append.1 h with a | a
   ·exact .inl ⟨z,by simp [a],rfl⟩
   ·simp at a;subst a;exact .inl ⟨y,by simp,rfl⟩
  ·rw [zc7 _ _ _ t] at h
   rcases List.mem_append.1 h with a | a
   ·exact .inl ⟨z,a,rfl⟩
   ·simp at a;subst a;exact .inr rfl
def zbC (l:List (Int × Int)):List (Int × Int):=l.foldl zgp []
theorem zfL (l:List (Int × Int)) (x:Int × Int):zbC (l++[x])=zgp (zbC l) x:=by simp [zbC]
def zaY (l:List (Int × Int)):Prop := ∀ x ∈ l,zaW x=true∧x.1≤x.2
def RisingL (l:List (Int × Int)):Prop := ∀ (i j:Nat) (x y:Int × Int),i < j→l[i]?=some x→l[j]?=some y→x.1≤y.1
theorem RisingL.init {ys:List (Int × Int)} {y:Int × Int} (h:RisingL (ys++[y])):RisingL ys:=fun i j x z hij hx hz =>by
 have hi:=(List.getElem?_eq_some_iff.1 hx).1
 have hj:=(List.getElem?_eq_some_iff.1 hz).1
 exact h i j x z hij (by rw [List.getElem?_append_left hi];exact hx) (by rw [List.getElem?_append_left hj];exact hz)
theorem zgq (n:Nat):∀ (l:List (Int × Int)),l.length=n→zaY l→RisingL l→Spread (zbC l)∧(∀ r,zak (zbC l) r=zak l r)∧(zbC l).length≤l.length∧(∀ z ∈ zbC l, ∃ y ∈ l,z.1=y.1):=by
 induction n with
 | zero =>
  intro l hl _ _
  have:=List.eq_nil_of_length_eq_zero hl
  subst this
  exact ⟨⟨fun x h =>by simp [zbC] at h,fun i j x y _ h =>by simp [zbC] at h⟩,fun r =>rfl,by simp [zbC],fun z h =>by simp [zbC] at h⟩
 | succ n ih =>
  intro l hl hR hO
  rcases List.eq_nil_or_concat l with rfl | ⟨ys,y,rfl⟩
  ·simp at hl
  ·rw [List.concat_eq_append] at *
   simp at hl
   obtain ⟨h1,h2,h3,h4⟩:=ih ys hl (fun x hx =>hR x (by simp [hx])) hO.init
   have hy:=hR y (by simp)
   have hle:∀ z ∈ zbC ys,z.1≤y.1:=fun z hz =>by
    obtain ⟨u,hu,e⟩:=h4 z hz
    obtain ⟨i,hi,rfl⟩:=List.mem_iff_getElem.1 hu
    rw [e]
    exact hO i ys.length _ _ hi (by rw [List.getElem?_append_left hi,List.getElem?_eq_getElem hi]) (by simp)
   rw [zfL]
   refine ⟨zcy h1 hy.1 hy.2 hle,fun r =>?_, ?_,fun z hz =>?_⟩
   ·rw [zfl h1 hy.1 hy.2 hle,h2,zbm]
   ·have:=zd7 (zbC ys) y
    simp;omega
   ·rcases layL_fst _ _ _ hz with ⟨u,hu,e⟩ | e
    ·obtain ⟨v,hv,e'⟩:=h4 u hu
     exact ⟨v,by simp [hv],e.trans e'⟩
    ·exact ⟨y,by simp,e⟩
theorem Spread.tail {x:Int × Int} {zs:List (Int × Int)} (h:Spread (x::zs)):Spread zs :=
 ⟨fun y hy =>h.ends y (List.mem_cons_of_mem _ hy),fun i j y z hij hy hz =>h.apart (i+1) (j+1) y z (by omega) (by simpa using hy) (by simpa using hz)⟩
theorem Spread.head {x y:Int × Int} {zs:List (Int × Int)} (h:Spread (x::zs)) (hy:y ∈ zs):zae x.2+1 < zae y.1:=by
 obtain ⟨i,hi,rfl⟩:=List.mem_iff_getElem.1 hy
 exact h.apart 0 (i+1) _ _ (by omega) (by simp) (by simp [hi])
theorem Spread.head_lt {x y:Int × Int} {zs:List (Int × Int)} (h:Spread (x::zs)) (hy:y ∈ zs):x.2 < y.1:=by
 have a:=zam (h.ends x (by simp)).1
 have b:=zam (h.ends y (by simp [hy])).1
 have:=h.head hy
 exact (zfE a.2.2.2 b.1.2.2).1 (by omega)
theorem head_mem {x:Int × Int} {zs:List (Int × Int)} (h:Spread (x::zs)):zak (x::zs) x.1=true∧zak (x::zs) x.2=true:=by
 have a:=h.ends x (by simp)
 have b:=zaV a.1
 exact ⟨(zau _ _).2 ⟨⟨x,by simp,by omega,a.2⟩,b.1⟩,(zau _ _).2 ⟨⟨x,by simp,a.2,by omega⟩,b.2⟩⟩
theorem zlf {xs ys:List (Int × Int)} (h:xs.Perm ys) (r:Int):zak xs r=zak ys r:=by
 rw [Bool.eq_iff_iff,zau,zau]
 constructor
 ·rintro ⟨⟨x,a,b⟩,c⟩;exact ⟨⟨x,h.mem_iff.1 a,b⟩,c⟩
 ·rintro ⟨⟨x,a,b⟩,c⟩;exact ⟨⟨x,h.mem_iff.2 a,b⟩,c⟩
theorem zb8 {list:Int} {n m:Nat} (h:(zdI list n m).1=0):n≤m:=by
 unfold zdI at h
 by_cases e:n≤m
 ·exact e
 ·rw [if_neg e] at h
  exact absurd (show (4:Int)=0 from h) (by decide)
theorem zb2 {list:Int} {n:Nat} {f:Nat→Int} (h:(zaz list n f).1=0):∀ i,i < n→f i=0:=by
 rcases zdg list n f with ⟨k,h1,h2,h3,e⟩ | ⟨h1,_⟩
 ·rw [e] at h
  exact absurd h h3
 ·exact h1
theorem zbN {α : Type} {l:List α} {d x : α} {i:Nat} (h:l[i]?=some x):l.getD i d=x:=by simp [List.getD,h]
theorem zle {α : Type} {l:List α} {x : α} (h:x ∈ l):∃ i,i < l.length∧l[i]?=some x:=by
 obtain ⟨i,hi,e⟩:=List.getElem_of_mem h
 exact ⟨i,hi,by rw [List.getElem?_eq_getElem hi,e]⟩
theorem zda {α : Type} {list:Int} {l:List α} {d : α} {f : α→Int} (h:(zaf list l d f).1=0):∀ x ∈ l,f x=0:=fun x hx =>by
 obtain ⟨i,hi,e⟩:=zle hx
 have:=zb2 h i hi
 rwa [zbN e] at this
theorem pw_of {α β : Type} [BEq β] [LawfulBEq β] {l:List α} {d : α} {key : α→β} (h:∀ i,i < l.length→twF l d key i=0):l.Pairwise (fun x y =>key x≠key y):=by
 rw [List.pairwise_iff_getElem]
 intro i j hi hj hij e
 have:=h j hj
 unfold twF at this
 rw [zbN (List.getElem?_eq_getElem hj),if_pos (List.any_eq_true.2 ⟨l[i],List.mem_take_iff_getElem.2 ⟨i,by omega,rfl⟩,by rw [e];exact beq_self_eq_true _⟩)] at this
 exact absurd this (by decide)
theorem zkY {α β : Type} {l:List α} {key : α→β} (h:l.Pairwise (fun x y =>key x≠key y)) {x y : α} (hx:x ∈ l) (hy:y ∈ l) (e:key x=key y):x=y:=by
 obtain ⟨i,hi,ei⟩:=List.getElem_of_mem hx
 obtain ⟨j,hj,ej⟩:=List.getElem_of_mem hy
 rw [List.pairwise_iff_getElem] at h
 rcases Nat.lt_trichotomy i j with c | c | c
 ·exact absurd (by rw [ei,ej];exact e) (h i j hi hj c)
 ·subst c
  rw [← ei, ← ej]
 ·exact absurd (by rw [ei,ej];exact e.symm) (h j i hj hi c)
theorem zg1 {α : Type} {l:List α} {p : α→Bool} {x : α} (hx:x ∈ l) (hp:p x=true) (hu:∀ y ∈ l,p y=true→y=x):l.find? p=some x:=by
 cases h:l.find? p with
 | none =>exact absurd hp (by simpa using List.find?_eq_none.1 h x hx)
 | some y =>rw [hu y (List.mem_of_find?_eq_some h) (List.find?_some h)]
structure zar (T:TV):Prop where
 l0:T.sc.length≤64
 s0:∀ x ∈ T.sc,x.2.length≤1024
 l1:T.co.length≤1024
 l2:T.ma.length≤512
 l3:T.pr.length≤4096
 l4:T.fo.length≤4096
 l5:T.lk.length≤4096
 l6:T.dr.length≤1024
 l7:T.al.length≤1024
 f0:∀ x ∈ T.sc,zcR x.1=true∧zaY x.2
 f1:zaY T.co
 f2:∀ x ∈ T.ma,zaj x.1=true∧1≤x.2∧x.2≤254
 f3:∀ x ∈ T.pr,zaj x.1=true∧zaj x.2.1=true∧zaj x.2.2=true
 f4:∀ x ∈ T.fo,zaj x.1=true∧toB x.2=true
 f5:∀ x ∈ T.lk,zaj x.1=true∧toB x.2=true
 f6:zaY T.dr
 f7:zaY T.al
 t2:T.ma.Pairwise (fun x y =>x.1≠y.1)
 t3:T.pr.Pairwise (fun x y =>x.1≠y.1)
 t3b:T.pr.Pairwise (fun x y =>x.2≠y.2)
 t4:T.fo.Pairwise (fun x y =>x.1≠y.1)
 t5:T.lk.Pairwise (fun x y =>x.1≠y.1)
theorem zfh {list:Int} {l:List (Int × Int)} (h:(spW list l).1=0):zaY l:=fun x hx =>by
 obtain ⟨i,hi,e⟩:=zle hx
 have h0:=zb2 h i hi
 unfold zaJ at h0
 rw [zbN e] at h0
 by_cases hw:za5 x=0
 ·unfold za5 at hw
  by_cases he:zaW x=true
  ·refine ⟨he, ?_⟩
   rcases Int.lt_or_le x.2 x.1 with c | c
   ·simp [he,c] at hw
   ·exact c
  ·simp [he] at hw
 ·rw [if_pos hw] at h0
  exact absurd h0 hw
theorem zeD {s:ByteArray} (h:toB s=true):okU s=true∧1≤(zah s).length∧(zah s).length≤4:=by
 unfold toB at h
 rw [Bool.and_eq_true,decide_eq_true_eq] at h
 exact h
theorem zi9 {x:Int × ByteArray} (h:mpF x=0):zaj x.1=true∧toB x.2=true:=by
 unfold mpF at h
 by_cases h1:zaj x.1=true
 ·rw [if_pos h1] at h
  by_cases h2:toB x.2=true
  ·exact ⟨h1,h2⟩
  ·rw [if_neg h2] at h
   exact absurd h (by decide)
 ·rw [if_neg h1] at h
  exact absurd h (by decide)
theorem zhq {T:TV} (h:(orW [zbx T,za8 T,za1 T]).1=0):zar T:=by
 have h:=zfi h
 simp only [List.forall_mem_cons] at h
 have hl:=zfi h.1
 have hf:=zfi h.2.1
 have ht:=zfi h.2.2.1
 simp only [List.forall_mem_cons] at hl hf ht
 obtain ⟨a0,a0s,a1,a2,a3,a4,a5,a6,a7,_⟩:=hl
 obtain ⟨f0,f1,f2,f3,f4,f5,f6,f7,_⟩:=hf
 obtain ⟨q0,q2,q3,q4,q5,_⟩:=ht
 have hp:=zb2 q3
 refine ⟨zb8 a0,fun x hx =>?_,zb8 a1,zb8 a2,zb8 a3,zb8 a4,zb8 a5,zb8 a6,zb8 a7,fun x hx =>?_,zfh f1,fun x hx =>?_,fun x hx =>?_,fun x hx =>zi9 (zda f4 x hx),fun x hx =>zi9 (zda f5 x hx),zfh f6,zfh f7,pw_of (zb2 q2), ?_, ?_,pw_of (zb2 q4),pw_of (zb2 q5)⟩
 ·obtain ⟨i,hi,e⟩:=zle hx
  have:=zb2 a0s i hi
  rw [show T.sc.getD i (ByteArray.empty,[])=x from zbN e] at this
  rcases Nat.lt_or_ge 1024 x.2.length with c | c
  ·rw [if_pos c] at this
   exact absurd this (by decide)
  ·exact c
 ·have:=zda f0 x hx
  unfold scF at this
  by_cases hn:zcR x.1=true
  ·rw [if_pos hn] at this
   exact ⟨hn,zfh this⟩
  ·rw [if_neg hn] at this
   exact absurd this (by decide)
 ·have:=zda f2 x hx
  unfold maF at this
  by_cases hn:zaj x.1=true
  ·rw [if_pos hn] at this
   by_cases hc:x.2 < 1∨254 < x.2
   ·rw [if_pos hc] at this
    exact absurd this (by decide)
   ·exact ⟨hn,by omega,by omega⟩
  ·rw [if_neg hn] at this
   exact absurd this (by decide)
 ·have:=zda f3 x hx
  unfold prF at this
  by_cases hn:(zaj x.1 && (zaj x.2.1 && zaj x.2.2))=true
  ·rw [Bool.and_eq_true,Bool.and_eq_true] at hn
   exact hn
  ·rw [if_neg hn] at this
   exact absurd this (by decide)
 all_goals
  rw [List.pairwise_iff_getElem]
  intro i j hi hj hij e
  have:=hp j hj
  unfold twP at this
  rw [zbN (List.getElem?_eq_getElem hj),if_pos (List.any_eq_true.2 ⟨T.pr[i],List.mem_take_iff_getElem.2 ⟨i,by omega,rfl⟩,by simp [e]⟩)] at this
  exact absurd this (by decide)
theorem zjh {T:TV} (h:zar T) {x:Int × Int} (hx:x ∈ T.ma):zcU T x.1=x.2:=by
 unfold zcU
 rw [zg1 hx (p:=fun y =>y.1 == x.1) (by simp) (fun y hy e =>zkY h.t2 hy hx (by simpa using e))]
theorem zgw {T:TV} {r:Int} (h:∀ x ∈ T.ma,x.1≠r):zcU T r=0:=by
 unfold zcU
 rw [List.find?_eq_none.2 (fun x hx =>by simpa using h x hx)]
theorem zd1 {T:TV} (h:zar T) (r:Int):(zcU T r == 0) = !zaX T r:=by
 unfold zaX
 by_cases e:∃ x ∈ T.ma,x.1=r
 ·obtain ⟨x,hx,rfl⟩:=e
  rw [zjh h hx,List.any_eq_true.2 ⟨x,hx,by simp⟩]
  have:=(h.f2 x hx).2
  simp
  omega
 ·rw [zgw (fun x hx q =>e ⟨x,hx,q⟩),List.any_eq_false.2 (fun x hx q =>e ⟨x,hx,by simpa using q⟩)]
  rfl
theorem whol_of {T:TV} (h:zar T) {x:Int × Int × Int} (hx:x ∈ T.pr):zbq T x.1=some x:=by
 unfold zbq
 exact zg1 hx (by simp) (fun y hy e =>zkY h.t3 hy hx (by simpa using e))
theorem zkt {T:TV} {r:Int} (h:∀ x ∈ T.pr,x.1≠r):zbq T r=none:=List.find?_eq_none.2 (fun x hx =>by simpa using h x hx)
theorem zks {T:TV} {r:Int}:(zbq T r).isSome=zcV T r:=by
 unfold zbq zcV
 rw [Bool.eq_iff_iff,List.find?_isSome,List.any_eq_true]
def toP (l:List (Int × ByteArray)) (r:Int):Option (Int × ByteArray):=l.find? (fun x =>x.1 == r)
theorem to_of {l:List (Int × ByteArray)} (h:l.Pairwise (fun x y =>x.1≠y.1)) {x:Int × ByteArray} (hx:x ∈ l):toP l x.1=some x:=by
 unfold toP
 exact zg1 hx (by simp) (fun y hy e =>zkY h hy hx (by simpa using e))
theorem zkB {l:List (Int × ByteArray)} {r:Int} (h:∀ x ∈ l,x.1≠r):toP l r=none:=List.find?_eq_none.2 (fun x hx =>by simpa using h x hx)
theorem zkA {l:List (Int × ByteArray)} {r:Int}:(toP l r).isSome=zdm l r:=by
 unfold toP zdm
 rw [Bool.eq_iff_iff,List.find?_isSome,List.any_eq_true]
end Go.Proofs.YtoaiicbicdhkkaaGreat
namespace Go.Proofs.YtoaiicbicdhkkaaGreat
open Go.RowKit Go.Shelf Go.ChangeShapes Go.WideShapes Go.Deep
set_option linter.unusedVariables false
def R32 (x:Int):Prop := -2147483648≤x∧x≤2147483647
structure TabI (T:TV):Prop where
 s:∀ x ∈ T.sc, ∀ y ∈ x.2,R32 y.1∧R32 y.2
 co:∀ y ∈ T.co,R32 y.1∧R32 y.2
 dr:∀ y ∈ T.dr,R32 y.1∧R32 y.2
 al:∀ y ∈ T.al,R32 y.1∧R32 y.2
 ma:∀ y ∈ T.ma,R32 y.1
 pr:∀ y ∈ T.pr,R32 y.1∧R32 y.2.1∧R32 y.2.2
 fo:∀ y ∈ T.fo,R32 y.1
 lk:∀ y ∈ T.lk,R32 y.1
end Go.Proofs.YtoaiicbicdhkkaaGreat
