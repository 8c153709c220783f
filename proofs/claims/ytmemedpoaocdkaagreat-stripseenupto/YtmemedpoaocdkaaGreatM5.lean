/- Texts of this claim, one behind the other. -/
import Derived.Test.YtmemedpoaocdkaaGreatM4
import Derived.Test.YtmemedpoaocdkaaGreatRows
import Derived.ProofKit
import Derived.OpenShut
import Derived.ChangeOld
import Derived.Deep.SlicePairs
namespace Go.Proofs.YtmemedpoaocdkaaGreat
set_option linter.unusedVariables false
section
open Go.RowKit Go.Shelf
def zhn (zs:List (Int × Int)) (x:Int × Int):List (Int × Int) :=
 match zs.getLast? with
 | some y =>if zae x.1≤zae y.2+1 then zs.dropLast++[(y.1,max y.2 x.2)] else zs++[x]
 | none => [x]
theorem zf2 (x:Int × Int):zhn [] x=[x]:=rfl
theorem zdz (ys:List (Int × Int)) (y x:Int × Int) (h:zae x.1≤zae y.2+1):zhn (ys++[y]) x=ys++[(y.1,max y.2 x.2)]:=by
 unfold zhn
 rw [List.getLast?_concat,List.dropLast_concat]
 simp only [if_pos h]
theorem zdA (ys:List (Int × Int)) (y x:Int × Int) (h:¬ zae x.1≤zae y.2+1):zhn (ys++[y]) x=ys++[y]++[x]:=by
 unfold zhn
 rw [List.getLast?_concat]
 simp only [if_neg h]
theorem zh3 {ys:List (Int × Int)} {y x:Int × Int} {i:Nat} (h:(ys++[y])[i]?=some x):(i < ys.length∧ys[i]?=some x)∨(i=ys.length∧x=y):=by
 rcases Nat.lt_trichotomy i ys.length with a | a | a
 ·rw [List.getElem?_append_left a] at h;exact .inl ⟨a,h⟩
 ·subst a;simp at h;exact .inr ⟨rfl,h.symm⟩
 ·rw [List.getElem?_append_right (by omega)] at h
  have:=(List.getElem?_eq_some_iff.1 h).1
  simp at this;omega
theorem Spread.init {ys:List (Int × Int)} {y:Int × Int} (h:Spread (ys++[y])):Spread ys where
 ends x hx:=h.ends x (by simp [hx])
 apart i j x z hij hx hz:=by
  have hi:=(List.getElem?_eq_some_iff.1 hx).1
  have hj:=(List.getElem?_eq_some_iff.1 hz).1
  exact h.apart i j x z hij (by rw [List.getElem?_append_left hi];exact hx) (by rw [List.getElem?_append_left hj];exact hz)
theorem Spread.last {ys:List (Int × Int)} {y:Int × Int} (h:Spread (ys++[y])) (x:Int × Int) (hx:x ∈ ys):zae x.2+1 < zae y.1:=by
 obtain ⟨i,hi,rfl⟩:=List.mem_iff_getElem.1 hx
 exact h.apart i ys.length _ _ hi (by rw [List.getElem?_append_left hi,List.getElem?_eq_getElem hi]) (by simp)
theorem Spread.snoc {ys:List (Int × Int)} {y:Int × Int} (h:Spread ys) (he:za6 y=true) (hy:y.1≤y.2) (ha:∀ x ∈ ys,zae x.2+1 < zae y.1):Spread (ys++[y]) where
 ends x hx:=by
  rcases List.mem_append.1 hx with a | a
  ·exact h.ends x a
  ·simp at a;subst a;exact ⟨he,hy⟩
 apart i j x z hij hx hz:=by
  rcases zh3 hz with ⟨a,b⟩ | ⟨a,b⟩
  ·rcases zh3 hx with ⟨c,d⟩ | ⟨c,d⟩
   ·exact h.apart i j x z hij d b
   ·omega
  ·rcases zh3 hx with ⟨c,d⟩ | ⟨c,d⟩
   ·subst b;exact ha x (List.mem_of_getElem? d)
   ·omega
theorem zbR {a b:Int} (ha:a < 55296∨57343 < a) (hb:b < 55296∨57343 < b):zae a≤zae b ↔ a≤b:=by
 have:=zgq hb ha
 omega
theorem zib {x:Int × Int} (h1:zan x.1=true) (h2:zan x.2=true):za6 x=true:=by unfold za6;rw [h1,h2];rfl
theorem za4 {x:Int × Int} (h:za6 x=true):zan x.1=true∧zan x.2=true:=by unfold za6 at h;rwa [Bool.and_eq_true] at h
theorem zcY {zs:List (Int × Int)} {x:Int × Int} (h:Spread zs) (he:za6 x=true) (hx:x.1≤x.2) (hl:∀ y ∈ zs,y.1≤x.1):Spread (zhn zs x):=by
 rcases List.eq_nil_or_concat zs with rfl | ⟨ys,y,rfl⟩
 ·rw [zf2]
  exact Spread.snoc (ys := []) ⟨fun x h =>by simp at h,fun i j x y _ h =>by simp at h⟩ he hx (fun x h =>by simp at h)
 ·rw [List.concat_eq_append] at *
  have hy:=h.ends y (by simp)
  by_cases t:zae x.1≤zae y.2+1
  ·rw [zdz _ _ _ t]
   refine Spread.snoc h.init ?_ (by show y.1≤max y.2 x.2;have:=hy.2;omega) (fun z hz =>h.last z hz)
   refine zib (za4 hy.1).1 ?_
   show zan (max y.2 x.2)=true
   rcases Int.le_total y.2 x.2 with a | a
   ·rw [Int.max_eq_right a];exact (za4 he).2
   ·rw [Int.max_eq_left a];exact (za4 hy.1).2
  ·rw [zdA _ _ _ t]
   refine Spread.snoc h he hx (fun z hz =>?_)
   rcases List.mem_append.1 hz with a | a
   ·have h1:=h.last z a
    have h2:=zat hy.1
    have h3:=(zbR h2.1.2.2 h2.2.2.2).2 hy.2
    omega
   ·simp at a;subst a;omega
theorem zby (xs ys:List (Int × Int)) (r:Int):zam (xs++ys) r=(zam xs r || zam ys r):=by
 unfold zam
 rw [List.any_append,Bool.and_or_distrib_right]
theorem zaD (zs:List (Int × Int)) (r:Int):zam zs r=true ↔ (∃ x ∈ zs,x.1≤r∧r≤x.2)∧zan r=true:=by
 unfold zam
 simp
theorem zf3 {zs:List (Int × Int)} {x:Int × Int} (h:Spread zs) (he:za6 x=true) (hx:x.1≤x.2) (hl:∀ y ∈ zs,y.1≤x.1) (r:Int):zam (zhn zs x) r=(zam zs r || zam [x] r):=by
 rcases List.eq_nil_or_concat zs with rfl | ⟨ys,y,rfl⟩
 ·rw [zf2];simp [zam]
 ·rw [List.concat_eq_append] at *
  have hy:=h.ends y (by simp)
  by_cases t:zae x.1≤zae y.2+1
  ·rw [zdz _ _ _ t,zby,zby,Bool.or_assoc]
   congr 1
   have h1:=zat hy.1
   have h2:=zat he
   have h3:=hl y (by simp)
   rw [Bool.eq_iff_iff,Bool.or_eq_true,zaD,zaD,zaD]
   simp only [List.mem_singleton,exists_eq_left]
   constructor
   ·rintro ⟨⟨a,b⟩,c⟩
    have d:=zaZ c
    by_cases e:r≤y.2
    ·exact .inl ⟨⟨a,e⟩,c⟩
    ·have f:=(zgq h1.2.2.2 d.2.2).2 (by omega)
     have g:=(zbR h2.1.2.2 d.2.2).1 (by omega)
     exact .inr ⟨⟨g,by omega⟩,c⟩
   ·rintro (⟨⟨a,b⟩,c⟩ | ⟨⟨a,b⟩,c⟩)
    ·exact ⟨⟨a,by omega⟩,c⟩
    ·exact ⟨⟨by omega,by omega⟩,c⟩
  ·rw [zdA _ _ _ t,zby]
theorem zeE (zs:List (Int × Int)) (x:Int × Int):(zhn zs x).length≤zs.length+1:=by
 rcases List.eq_nil_or_concat zs with rfl | ⟨ys,y,rfl⟩
 ·rw [zf2];simp
 ·rw [List.concat_eq_append]
  by_cases t:zae x.1≤zae y.2+1
  ·rw [zdz _ _ _ t];simp
  ·rw [zdA _ _ _ t];simp
theorem zoT (zs:List (Int × Int)) (x z:Int × Int) (h:z ∈ zhn zs x):(∃ y ∈ zs,z.1=y.1)∨z.1=x.1:=by
 rcases List.eq_nil_or_concat zs with rfl | ⟨ys,y,rfl⟩
 ·rw [zf2] at h;simp at h;subst h;exact .inr rfl
 ·rw [List.concat_eq_append] at *
  by_cases t:zae x.1≤zae y.2+1
  ·rw [zdz _ _ _ t] at h
   rcases List.mem_append.1 h with a | a
   ·exact .inl ⟨z,by simp [a],rfl⟩
   ·simp at a;subst a;exact .inl ⟨y,by simp,rfl⟩
  ·rw [zdA _ _ _ t] at h
   rcases List.mem_append.1 h with a | a
   ·exact .inl ⟨z,a,rfl⟩
   ·simp at a;subst a;exact .inr rfl
def zbP (l:List (Int × Int)):List (Int × Int):=l.foldl zhn []
theorem zgA (l:List (Int × Int)) (x:Int × Int):zbP (l++[x])=zhn (zbP l) x:=by simp [zbP]
def za8 (l:List (Int × Int)):Prop := ∀ x ∈ l,za6 x=true∧x.1≤x.2
def RisingL (l:List (Int × Int)):Prop := ∀ (i j:Nat) (x y:Int × Int),i < j→l[i]?=some x→l[j]?=some y→x.1≤y.1
theorem RisingL.init {ys:List (Int × Int)} {y:Int × Int} (h:RisingL (ys++[y])):RisingL ys:=fun i j x z hij hx hz =>by
 have hi:=(List.getElem?_eq_some_iff.1 hx).1
 have hj:=(List.getElem?_eq_some_iff.1 hz).1
 exact h i j x z hij (by rw [List.getElem?_append_left hi];exact hx) (by rw [List.getElem?_append_left hj];exact hz)
theorem zho (n:Nat):∀ (l:List (Int × Int)),l.length=n→za8 l→RisingL l→Spread (zbP l)∧(∀ r,zam (zbP l) r=zam l r)∧(zbP l).length≤l.length∧(∀ z ∈ zbP l, ∃ y ∈ l,z.1=y.1):=by
 induction n with
 | zero =>
  intro l hl _ _
  have:=List.eq_nil_of_length_eq_zero hl
  subst this
  exact ⟨⟨fun x h =>by simp [zbP] at h,fun i j x y _ h =>by simp [zbP] at h⟩,fun r =>rfl,by simp [zbP],fun z h =>by simp [zbP] at h⟩
 | succ n ih =>
  intro l hl hR hO
  rcases List.eq_nil_or_concat l with rfl | ⟨ys,y,rfl⟩
  ·simp at hl
  ·rw [List.concat_eq_append] at *
   simp at hl
   obtain ⟨h1,h2,h3,h4⟩:=ih ys hl (fun x hx =>hR x (by simp [hx])) hO.init
   have hy:=hR y (by simp)
   have hle:∀ z ∈ zbP ys,z.1≤y.1:=fun z hz =>by
    obtain ⟨u,hu,e⟩:=h4 z hz
    obtain ⟨i,hi,rfl⟩:=List.mem_iff_getElem.1 hu
    rw [e]
    exact hO i ys.length _ _ hi (by rw [List.getElem?_append_left hi,List.getElem?_eq_getElem hi]) (by simp)
   rw [zgA]
   refine ⟨zcY h1 hy.1 hy.2 hle,fun r =>?_, ?_,fun z hz =>?_⟩
   ·rw [zf3 h1 hy.1 hy.2 hle,h2,zby]
   ·have:=zeE (zbP ys) y
    simp;omega
   ·rcases zoT _ _ _ hz with ⟨u,hu,e⟩ | e
    ·obtain ⟨v,hv,e'⟩:=h4 u hu
     exact ⟨v,by simp [hv],e.trans e'⟩
    ·exact ⟨y,by simp,e⟩
theorem Spread.tail {x:Int × Int} {zs:List (Int × Int)} (h:Spread (x::zs)):Spread zs :=
 ⟨fun y hy =>h.ends y (List.mem_cons_of_mem _ hy),fun i j y z hij hy hz =>h.apart (i+1) (j+1) y z (by omega) (by simpa using hy) (by simpa using hz)⟩
theorem Spread.head {x y:Int × Int} {zs:List (Int × Int)} (h:Spread (x::zs)) (hy:y ∈ zs):zae x.2+1 < zae y.1:=by
 obtain ⟨i,hi,rfl⟩:=List.mem_iff_getElem.1 hy
 exact h.apart 0 (i+1) _ _ (by omega) (by simp) (by simp [hi])
theorem Spread.head_lt {x y:Int × Int} {zs:List (Int × Int)} (h:Spread (x::zs)) (hy:y ∈ zs):x.2 < y.1:=by
 have a:=zat (h.ends x (by simp)).1
 have b:=zat (h.ends y (by simp [hy])).1
 have:=h.head hy
 exact (zgq a.2.2.2 b.1.2.2).1 (by omega)
theorem zo0 {x:Int × Int} {zs:List (Int × Int)} (h:Spread (x::zs)):zam (x::zs) x.1=true∧zam (x::zs) x.2=true:=by
 have a:=h.ends x (by simp)
 have b:=za4 a.1
 exact ⟨(zaD _ _).2 ⟨⟨x,by simp,by omega,a.2⟩,b.1⟩,(zaD _ _).2 ⟨⟨x,by simp,a.2,by omega⟩,b.2⟩⟩
theorem zmO {xs ys:List (Int × Int)} (h:xs.Perm ys) (r:Int):zam xs r=zam ys r:=by
 rw [Bool.eq_iff_iff,zaD,zaD]
 constructor
 ·rintro ⟨⟨x,a,b⟩,c⟩;exact ⟨⟨x,h.mem_iff.1 a,b⟩,c⟩
 ·rintro ⟨⟨x,a,b⟩,c⟩;exact ⟨⟨x,h.mem_iff.2 a,b⟩,c⟩
theorem zct {list:Int} {n m:Nat} (h:(zeb list n m).1=0):n≤m:=by
 unfold zeb at h
 by_cases e:n≤m
 ·exact e
 ·rw [if_neg e] at h
  exact absurd (show (4:Int)=0 from h) (by decide)
theorem zcl {list:Int} {n:Nat} {f:Nat→Int} (h:(zaG list n f).1=0):∀ i,i < n→f i=0:=by
 rcases zcm list n f with ⟨k,h1,h2,h3,e⟩ | ⟨h1,_⟩
 ·rw [e] at h
  exact absurd h h3
 ·exact h1
theorem zb1 {α : Type} {l:List α} {d x : α} {i:Nat} (h:l[i]?=some x):l.getD i d=x:=by simp [List.getD,h]
theorem zmN {α : Type} {l:List α} {x : α} (h:x ∈ l):∃ i,i < l.length∧l[i]?=some x:=by
 obtain ⟨i,hi,e⟩:=List.getElem_of_mem h
 exact ⟨i,hi,by rw [List.getElem?_eq_getElem hi,e]⟩
theorem zdD {α : Type} {list:Int} {l:List α} {d : α} {f : α→Int} (h:(zaf list l d f).1=0):∀ x ∈ l,f x=0:=fun x hx =>by
 obtain ⟨i,hi,e⟩:=zmN hx
 have:=zcl h i hi
 rwa [zb1 e] at this
theorem zpL {α β : Type} [BEq β] [LawfulBEq β] {l:List α} {d : α} {key : α→β} (h:∀ i,i < l.length→twF l d key i=0):l.Pairwise (fun x y =>key x≠key y):=by
 rw [List.pairwise_iff_getElem]
 intro i j hi hj hij e
 have:=h j hj
 unfold twF at this
 rw [zb1 (List.getElem?_eq_getElem hj),if_pos (List.any_eq_true.2 ⟨l[i],List.mem_take_iff_getElem.2 ⟨i,by omega,rfl⟩,by rw [e];exact beq_self_eq_true _⟩)] at this
 exact absurd this (by decide)
theorem zmu {α β : Type} {l:List α} {key : α→β} (h:l.Pairwise (fun x y =>key x≠key y)) {x y : α} (hx:x ∈ l) (hy:y ∈ l) (e:key x=key y):x=y:=by
 obtain ⟨i,hi,ei⟩:=List.getElem_of_mem hx
 obtain ⟨j,hj,ej⟩:=List.getElem_of_mem hy
 rw [List.pairwise_iff_getElem] at h
 rcases Nat.lt_trichotomy i j with c | c | c
 ·exact absurd (by rw [ei,ej];exact e) (h i j hi hj c)
 ·subst c
  rw [← ei, ← ej]
 ·exact absurd (by rw [ei,ej];exact e.symm) (h j i hj hi c)
theorem zh6 {α : Type} {l:List α} {p : α→Bool} {x : α} (hx:x ∈ l) (hp:p x=true) (hu:∀ y ∈ l,p y=true→y=x):l.find? p=some x:=by
 cases h:l.find? p with
 | none =>exact absurd hp (by simpa using List.find?_eq_none.1 h x hx)
 | some y =>rw [hu y (List.mem_of_find?_eq_some h) (List.find?_some h)]
structure zav (T:TV):Prop where
 l0:T.sc.length≤64
 s0:∀ x ∈ T.sc,x.2.length≤1024
 l1:T.co.length≤1024
 l2:T.ma.length≤512
 l3:T.pr.length≤4096
 l4:T.fo.length≤4096
 l5:T.lk.length≤4096
 l6:T.dr.length≤1024
 l7:T.al.length≤1024
 f0:∀ x ∈ T.sc,zdi x.1=true∧za8 x.2
 f1:za8 T.co
 f2:∀ x ∈ T.ma,zan x.1=true∧1≤x.2∧x.2≤254
 f3:∀ x ∈ T.pr,zan x.1=true∧zan x.2.1=true∧zan x.2.2=true
 f4:∀ x ∈ T.fo,zan x.1=true∧toB x.2=true
 f5:∀ x ∈ T.lk,zan x.1=true∧toB x.2=true
 f6:za8 T.dr
 f7:za8 T.al
 t2:T.ma.Pairwise (fun x y =>x.1≠y.1)
 t3:T.pr.Pairwise (fun x y =>x.1≠y.1)
 t3b:T.pr.Pairwise (fun x y =>x.2≠y.2)
 t4:T.fo.Pairwise (fun x y =>x.1≠y.1)
 t5:T.lk.Pairwise (fun x y =>x.1≠y.1)
theorem zf0 {list:Int} {l:List (Int × Int)} (h:(spW list l).1=0):za8 l:=fun x hx =>by
 obtain ⟨i,hi,e⟩:=zmN hx
 have h0:=zcl h i hi
 unfold zaP at h0
 rw [zb1 e] at h0
 by_cases hw:zbe x=0
 ·unfold zbe at hw
  by_cases he:za6 x=true
  ·refine ⟨he, ?_⟩
   rcases Int.lt_or_le x.2 x.1 with c | c
   ·simp [he,c] at hw
   ·exact c
  ·simp [he] at hw
 ·rw [if_pos hw] at h0
  exact absurd h0 hw
theorem zff {s:ByteArray} (h:toB s=true):okU s=true∧1≤(zak s).length∧(zak s).length≤4:=by
 unfold toB at h
 rw [Bool.and_eq_true,decide_eq_true_eq] at h
 exact h
theorem zko {x:Int × ByteArray} (h:mpF x=0):zan x.1=true∧toB x.2=true:=by
 unfold mpF at h
 by_cases h1:zan x.1=true
 ·rw [if_pos h1] at h
  by_cases h2:toB x.2=true
  ·exact ⟨h1,h2⟩
  ·rw [if_neg h2] at h
   exact absurd h (by decide)
 ·rw [if_neg h1] at h
  exact absurd h (by decide)
theorem ziz {T:TV} (h:(orW [zbL T,zbh T,za9 T]).1=0):zav T:=by
 have h:=zdc h
 simp only [List.forall_mem_cons] at h
 have hl:=zdc h.1
 have hf:=zdc h.2.1
 have ht:=zdc h.2.2.1
 simp only [List.forall_mem_cons] at hl hf ht
 obtain ⟨a0,a0s,a1,a2,a3,a4,a5,a6,a7,_⟩:=hl
 obtain ⟨f0,f1,f2,f3,f4,f5,f6,f7,_⟩:=hf
 obtain ⟨q0,q2,q3,q4,q5,_⟩:=ht
 have hp:=zcl q3
 refine ⟨zct a0,fun x hx =>?_,zct a1,zct a2,zct a3,zct a4,zct a5,zct a6,zct a7,fun x hx =>?_,zf0 f1,fun x hx =>?_,fun x hx =>?_,fun x hx =>zko (zdD f4 x hx),fun x hx =>zko (zdD f5 x hx),zf0 f6,zf0 f7,zpL (zcl q2), ?_, ?_,zpL (zcl q4),zpL (zcl q5)⟩
 ·obtain ⟨i,hi,e⟩:=zmN hx
  have:=zcl a0s i hi
  rw [show T.sc.getD i (ByteArray.empty,[])=x from zb1 e] at this
  rcases Nat.lt_or_ge 1024 x.2.length with c | c
  ·rw [if_pos c] at this
   exact absurd this (by decide)
  ·exact c
 ·have:=zdD f0 x hx
  unfold scF at this
  by_cases hn:zdi x.1=true
  ·rw [if_pos hn] at this
   exact ⟨hn,zf0 this⟩
  ·rw [if_neg hn] at this
   exact absurd this (by decide)
 ·have:=zdD f2 x hx
  unfold maF at this
  by_cases hn:zan x.1=true
  ·rw [if_pos hn] at this
   by_cases hc:x.2 < 1∨254 < x.2
   ·rw [if_pos hc] at this
    exact absurd this (by decide)
   ·exact ⟨hn,by omega,by omega⟩
  ·rw [if_neg hn] at this
   exact absurd this (by decide)
 ·have:=zdD f3 x hx
  unfold prF at this
  by_cases hn:(zan x.1 && (zan x.2.1 && zan x.2.2))=true
  ·rw [Bool.and_eq_true,Bool.and_eq_true] at hn
   exact hn
  ·rw [if_neg hn] at this
   exact absurd this (by decide)
 all_goals
  rw [List.pairwise_iff_getElem]
  intro i j hi hj hij e
  have:=hp j hj
  unfold twP at this
  rw [zb1 (List.getElem?_eq_getElem hj),if_pos (List.any_eq_true.2 ⟨T.pr[i],List.mem_take_iff_getElem.2 ⟨i,by omega,rfl⟩,by simp [e]⟩)] at this
  exact absurd this (by decide)
theorem zkx {T:TV} (h:zav T) {x:Int × Int} (hx:x ∈ T.ma):zdl T x.1=x.2:=by
 unfold zdl
 rw [zh6 hx (p:=fun y =>y.1 == x.1) (by simp) (fun y hy e =>zmu h.t2 hy hx (by simpa using e))]
theorem zhv {T:TV} {r:Int} (h:∀ x ∈ T.ma,x.1≠r):zdl T r=0:=by
 unfold zdl
 rw [List.find?_eq_none.2 (fun x hx =>by simpa using h x hx)]
theorem zey {T:TV} (h:zav T) (r:Int):(zdl T r == 0) = !za7 T r:=by
 unfold za7
 by_cases e:∃ x ∈ T.ma,x.1=r
 ·obtain ⟨x,hx,rfl⟩:=e
  rw [zkx h hx,List.any_eq_true.2 ⟨x,hx,by simp⟩]
  have:=(h.f2 x hx).2
  simp
  omega
 ·rw [zhv (fun x hx q =>e ⟨x,hx,q⟩),List.any_eq_false.2 (fun x hx q =>e ⟨x,hx,by simpa using q⟩)]
  rfl
theorem zpr {T:TV} (h:zav T) {x:Int × Int × Int} (hx:x ∈ T.pr):zbC T x.1=some x:=by
 unfold zbC
 exact zh6 hx (by simp) (fun y hy e =>zmu h.t3 hy hx (by simpa using e))
theorem zlQ {T:TV} {r:Int} (h:∀ x ∈ T.pr,x.1≠r):zbC T r=none:=List.find?_eq_none.2 (fun x hx =>by simpa using h x hx)
theorem zlP {T:TV} {r:Int}:(zbC T r).isSome=zdn T r:=by
 unfold zbC zdn
 rw [Bool.eq_iff_iff,List.find?_isSome,List.any_eq_true]
def toP (l:List (Int × ByteArray)) (r:Int):Option (Int × ByteArray):=l.find? (fun x =>x.1 == r)
theorem zpx {l:List (Int × ByteArray)} (h:l.Pairwise (fun x y =>x.1≠y.1)) {x:Int × ByteArray} (hx:x ∈ l):toP l x.1=some x:=by
 unfold toP
 exact zh6 hx (by simp) (fun y hy e =>zmu h hy hx (by simpa using e))
theorem zlY {l:List (Int × ByteArray)} {r:Int} (h:∀ x ∈ l,x.1≠r):toP l r=none:=List.find?_eq_none.2 (fun x hx =>by simpa using h x hx)
theorem zlX {l:List (Int × ByteArray)} {r:Int}:(toP l r).isSome=zdN l r:=by
 unfold toP zdN
 rw [Bool.eq_iff_iff,List.find?_isSome,List.any_eq_true]
end
section
open Go.RowKit Go.Shelf Go.ChangeShapes Go.WideShapes Go.Deep
set_option maxRecDepth 100000
set_option maxHeartbeats 8000000
theorem laidOutT:laidOutB Tryz.prog=true:=by kernel_rfl
theorem zig {H:Type}:∀ (l:List (DataW H)) (d:DataW H),d ∈ l→Rows.uptoBulk d≤Rows.uptoBulkAll l
 | [],d,h =>by cases h
 | x::l,d,h =>by
  simp only [Rows.uptoBulkAll]
  rcases List.mem_cons.1 h with rfl | h
  ·omega
  ·have:=zig l d h;omega
theorem zo8 {H:Type} (d:DataW H):1≤Rows.uptoBulk d:=by
 unfold Rows.uptoBulk
 split <;> omega
theorem zkz {H:Type}:∀ (l:List (DataW H)),l.length≤Rows.uptoBulkAll l
 | [] =>Nat.zero_le _
 | x::l =>by
  have:=zkz l
  have:=zo8 x
  simp only [Rows.uptoBulkAll,List.length_cons]
  omega
theorem zna {α : Type} (f : α→List Value) (sz:Nat) (hf:∀ z,(f z).length=sz):∀ (zs:List α) (j:Nat) (u:Value),(zs.flatMap f)[j]?=some u→∃ (i k:Nat) (z : α),zs[i]?=some z∧k < sz∧j=i*sz+k∧(f z)[k]?=some u
 | [],j,u,h =>by cases h
 | z::zs,j,u,h =>by
  rw [List.flatMap_cons] at h
  by_cases hj:j < sz
  ·rw [List.getElem?_append_left (by rw [hf];exact hj)] at h
   exact ⟨0,j,z,rfl,hj,by omega,h⟩
  ·rw [List.getElem?_append_right (by rw [hf];omega),hf] at h
   obtain ⟨i,k,y,h1,h2,h3,h4⟩:=zna f sz hf zs (j - sz) u h
   exact ⟨i+1,k,y,h1,h2,by rw [Nat.succ_mul];omega,h4⟩
theorem zcb {H:Type} {enc:TypeId × Value→H} {W:World} {t e:TypeId} {α : Type} [Inhabited α] (encz : α→List Value) (Q : α→DataW H→Prop) (sz:Nat) (hsz:Tryz.prog.cellsOf e=sz) (hlen:∀ z,(encz z).length=sz) (hp:0 < sz)
  (ht:Tryz.prog.underlying t=some (.slice e)) (hel:∀ n cs x,DataW.trod enc Tryz.prog W 0 (fun _ =>true) true n e cs=some x→∃ z,cs=encz z∧Q z x.1) {fuel:Nat} {c:Value} {x:DataW H × List MemPlace} (h:DataW.trod enc Tryz.prog W 0 (fun _ =>true) true fuel t [c]=some x) :
  ∃ (zs:List α) (a:Option Addr) (cap:Nat),c=.slice a zs.length cap∧RowC W W.heap.size a (zs.flatMap encz)∧zs.length≤Rows.uptoBulk x.1∧∀ z ∈ zs, ∃ d,Q z d∧Rows.uptoBulk d≤Rows.uptoBulk x.1:=by
 rcases open_slice ht h with ⟨h0,hx⟩ | ⟨a,len,cap,m,n,D,Pl,hc,_,hl,hm,hmm,hx,hcs⟩
 ·injection h0 with h0
  subst h0
  exact ⟨[],none,0,rfl,fun h =>absurd h (by simp),Nat.zero_le _,fun z hz =>by cases hz⟩
 ·injection hc with hc
  subst hc
  simp only [if_true] at hmm
  subst hmm
  have each:∀ i,i < len→∃ z : α,(∀ j u,(encz z)[j]?=some u→W.cell? (a.add (i*sz+j))=some u)∧Q z (D i):=fun i hi =>by
   obtain ⟨cs',h1,h2⟩:=hcs i (by omega)
   obtain ⟨z,rfl,hq⟩:=hel n cs' _ h2
   rw [hsz] at h1
   obtain ⟨_,h3,h4⟩:=World.cells?_some h1
   refine ⟨z,fun j u hu =>?_,hq⟩
   have hj:=(List.getElem?_eq_some_iff.1 hu).1
   have h5:=h4 j (by rw [← h3];exact hj)
   rw [add_add] at h5
   exact h5.trans hu
  obtain ⟨b,off,spot⟩:=a
  rcases Nat.eq_zero_or_pos len with h0 | h0
  ·subst h0
   exact ⟨[],_,_,rfl,fun h =>absurd h (by simp),Nat.zero_le _,fun z hz =>by cases hz⟩
  ·obtain ⟨z0,hz0,_⟩:=each 0 h0
   obtain ⟨u0,hu0⟩:∃ u,(encz z0)[0]?=some u:=⟨_,List.getElem?_eq_getElem (by rw [hlen];exact hp)⟩
   have hc0:=hz0 0 u0 hu0
   have hspot:spot=none:=by simpa [Addr.add] using World.cell?_spot hc0
   subst hspot
   obtain ⟨Z,hZ⟩:=choose_lt each
   have hblt:b < W.heap.size:=by have:=za5 hc0;simpa [Addr.add] using this
   refine ⟨(List.range len).map Z,some ⟨b,off,none⟩,_,by simp;rfl,fun _ =>⟨b,off,rfl,hblt,fun j u hu =>?_⟩, ?_,fun z hz =>?_⟩
   ·obtain ⟨i,k,z,h1,h2,h3,h4⟩:=zna encz sz hlen _ j u hu
    have hi:=(List.getElem?_eq_some_iff.1 h1).1
    simp at hi
    simp [hi] at h1
    subst h1
    have:=(hZ i hi).1 k u h4
    rw [← h3,add_plain] at this
    exact this
   ·rw [hx]
    have:=zkz ((List.range len).map D)
    simp only [Rows.uptoBulk,List.length_map,List.length_range] at this ⊢
    omega
   ·obtain ⟨i,hi,rfl⟩:=List.mem_map.1 hz
    have hi:=List.mem_range.1 hi
    refine ⟨D i,(hZ i hi).2, ?_⟩
    rw [hx]
    have:=zig ((List.range len).map D) (D i) (List.mem_map.2 ⟨i,List.mem_range.2 hi,rfl⟩)
    simp only [Rows.uptoBulk]
    omega
theorem zrD {α : Type}:∀ {l:List α},l.length=2→∃ a b,l=[a,b]
 | [a,b],_ =>⟨a,b,rfl⟩
theorem zrC {α : Type}:∀ {l:List α},l.length=3→∃ a b c,l=[a,b,c]
 | [a,b,c],_ =>⟨a,b,c,rfl⟩
theorem zom {H:Type} {enc:TypeId × Value→H} {W:World} {hh:Bool} {e:TypeId} {f0 f1:Field} (he:Tryz.prog.underlying e=some (.struct #[f0,f1])) (ce:Tryz.prog.cellsOf e=2) (o0:f0.offset=0) (o1:f1.offset=1) (c0:Tryz.prog.cellsOf f0.type=1) (c1:Tryz.prog.cellsOf f1.type=1) {n:Nat} {cs:List Value} {x:DataW H × List MemPlace}
  (h:DataW.trod enc Tryz.prog W 0 (fun _ =>true) hh n e cs=some x):∃ v0 v1 y0 y1 k,cs=[v0,v1]∧x.1=.agg [y0.1,y1.1]∧DataW.trod enc Tryz.prog W 0 (fun _ =>true) hh k f0.type [v0]=some y0∧DataW.trod enc Tryz.prog W 0 (fun _ =>true) hh k f1.type [v1]=some y1:=by
 obtain ⟨xs,k,hk,hxy,hcl,hxl,hf⟩:=DataW.trod_struct he h
 rw [ce] at hcl
 obtain ⟨y0,y1,rfl⟩:=zrD hxl
 obtain ⟨v0,v1,rfl⟩:=zrD hcl
 have g0:=hf 0 f0 rfl
 have g1:=hf 1 f1 rfl
 rw [o0,c0] at g0
 rw [o1,c1] at g1
 exact ⟨v0,v1,y0,y1,k,rfl,by rw [hxy];rfl,g0,g1⟩
theorem zrg {H:Type} {enc:TypeId × Value→H} {W:World} {hh:Bool} {e:TypeId} {f0 f1 f2:Field} (he:Tryz.prog.underlying e=some (.struct #[f0,f1,f2])) (ce:Tryz.prog.cellsOf e=3) (o0:f0.offset=0) (o1:f1.offset=1) (o2:f2.offset=2) (c0:Tryz.prog.cellsOf f0.type=1) (c1:Tryz.prog.cellsOf f1.type=1) (c2:Tryz.prog.cellsOf f2.type=1) {n:Nat} {cs:List Value} {x:DataW H × List MemPlace}
  (h:DataW.trod enc Tryz.prog W 0 (fun _ =>true) hh n e cs=some x):∃ v0 v1 v2 y0 y1 y2 k,cs=[v0,v1,v2]∧x.1=.agg [y0.1,y1.1,y2.1]∧DataW.trod enc Tryz.prog W 0 (fun _ =>true) hh k f0.type [v0]=some y0∧DataW.trod enc Tryz.prog W 0 (fun _ =>true) hh k f1.type [v1]=some y1∧DataW.trod enc Tryz.prog W 0 (fun _ =>true) hh k f2.type [v2]=some y2:=by
 obtain ⟨xs,k,hk,hxy,hcl,hxl,hf⟩:=DataW.trod_struct he h
 rw [ce] at hcl
 obtain ⟨y0,y1,y2,rfl⟩:=zrC hxl
 obtain ⟨v0,v1,v2,rfl⟩:=zrC hcl
 have g0:=hf 0 f0 rfl
 have g1:=hf 1 f1 rfl
 have g2:=hf 2 f2 rfl
 rw [o0,c0] at g0
 rw [o1,c1] at g1
 rw [o2,c2] at g2
 exact ⟨v0,v1,v2,y0,y1,y2,k,rfl,by rw [hxy];rfl,g0,g1,g2⟩
def R32 (x:Int):Prop := -2147483648≤x∧x≤2147483647
theorem zgr {z:Int} (h:Lit.wf (.int .i32 z)=true):R32 z:=by
 simp [Lit.wf,IntKind.min,IntKind.max,IntKind.signed,IntKind.bits] at h
 exact ⟨by omega,by omega⟩
structure zlM (T:TV):Prop where
 s:∀ x ∈ T.sc, ∀ y ∈ x.2,R32 y.1∧R32 y.2
 co:∀ y ∈ T.co,R32 y.1∧R32 y.2
 dr:∀ y ∈ T.dr,R32 y.1∧R32 y.2
 al:∀ y ∈ T.al,R32 y.1∧R32 y.2
 ma:∀ y ∈ T.ma,R32 y.1
 pr:∀ y ∈ T.pr,R32 y.1∧R32 y.2.1∧R32 y.2.2
 fo:∀ y ∈ T.fo,R32 y.1
 lk:∀ y ∈ T.lk,R32 y.1
theorem zid {H:Type} {enc:TypeId × Value→H} {W:World} (n:Nat) (cs:List Value) (x:DataW H × List MemPlace) (h:DataW.trod enc Tryz.prog W 0 (fun _ =>true) true n 113 cs=some x):∃ z:Int × Int,cs=[.int .i32 z.1,.int .i32 z.2]∧R32 z.1∧R32 z.2:=by
 obtain ⟨v0,v1,y0,y1,k,rfl,_,t0,t1⟩:=zom Tryz.underlying113 (by kernel_rfl) rfl rfl (by kernel_rfl) (by kernel_rfl) h
 obtain ⟨z0,e0,_,w0⟩:=DataW.trod_int Tryz.underlying21 t0
 obtain ⟨z1,e1,_,w1⟩:=DataW.trod_int Tryz.underlying21 t1
 injection e0 with e0
 injection e1 with e1
 exact ⟨(z0,z1),by rw [e0,e1],zgr w0,zgr w1⟩
theorem zqg {H:Type} {enc:TypeId × Value→H} {W:World} (n:Nat) (cs:List Value) (x:DataW H × List MemPlace) (h:DataW.trod enc Tryz.prog W 0 (fun _ =>true) true n 115 cs=some x):∃ z:Int × Int,cs=[.int .i32 z.1,.int .i64 z.2]∧(-9223372036854775808≤z.2∧z.2≤9223372036854775807)∧R32 z.1:=by
 obtain ⟨v0,v1,y0,y1,k,rfl,_,t0,t1⟩:=zom Tryz.underlying115 (by kernel_rfl) rfl rfl (by kernel_rfl) (by kernel_rfl) h
 obtain ⟨z0,e0,_,w0⟩:=DataW.trod_int Tryz.underlying21 t0
 obtain ⟨z1,e1,_,w1⟩:=DataW.trod_int Tryz.underlying3 t1
 injection e0 with e0
 injection e1 with e1
 refine ⟨(z0,z1),by rw [e0,e1], ?_⟩
 simp [Lit.wf,IntKind.min,IntKind.max,IntKind.signed,IntKind.bits] at w1
 exact ⟨⟨by show -9223372036854775808≤z1;omega,by show z1≤9223372036854775807;omega⟩,zgr w0⟩
theorem zqf {H:Type} {enc:TypeId × Value→H} {W:World} (n:Nat) (cs:List Value) (x:DataW H × List MemPlace) (h:DataW.trod enc Tryz.prog W 0 (fun _ =>true) true n 117 cs=some x):∃ z:Int × Int × Int,cs=[.int .i32 z.1,.int .i32 z.2.1,.int .i32 z.2.2]∧R32 z.1∧R32 z.2.1∧R32 z.2.2:=by
 obtain ⟨v0,v1,v2,y0,y1,y2,k,rfl,_,t0,t1,t2⟩:=zrg Tryz.underlying117 (by kernel_rfl) rfl rfl rfl (by kernel_rfl) (by kernel_rfl) (by kernel_rfl) h
 obtain ⟨z0,e0,_,w0⟩:=DataW.trod_int Tryz.underlying21 t0
 obtain ⟨z1,e1,_,w1⟩:=DataW.trod_int Tryz.underlying21 t1
 obtain ⟨z2,e2,_,w2⟩:=DataW.trod_int Tryz.underlying21 t2
 injection e0 with e0
 injection e1 with e1
 injection e2 with e2
 exact ⟨(z0,z1,z2),by rw [e0,e1,e2],zgr w0,zgr w1,zgr w2⟩
theorem zgN {H:Type} (a b:DataW H):Rows.uptoBulk (.agg [a,b])=Rows.uptoBulk a+Rows.uptoBulk b+1:=by
 simp only [Rows.uptoBulk,Rows.uptoBulkAll]
 omega
theorem zky {H:Type} (s:ByteArray):Rows.uptoBulk (.lit (.string s.data.toList):DataW H)=s.size+1:=by
 simp only [Rows.uptoBulk]
 rw [Array.length_toList]
 rfl
theorem zpl {H:Type} {enc:TypeId × Value→H} {W:World} (n:Nat) (cs:List Value) (x:DataW H × List MemPlace) (h:DataW.trod enc Tryz.prog W 0 (fun _ =>true) true n 119 cs=some x):∃ z:Int × ByteArray,cs=[.int .i32 z.1,.string z.2]∧z.2.size≤Rows.uptoBulk x.1∧R32 z.1:=by
 obtain ⟨v0,v1,y0,y1,k,rfl,hx,t0,t1⟩:=zom Tryz.underlying119 (by kernel_rfl) rfl rfl (by kernel_rfl) (by kernel_rfl) h
 obtain ⟨z0,e0,_,w0⟩:=DataW.trod_int Tryz.underlying21 t0
 obtain ⟨z1,e1,hy,_⟩:=DataW.trod_string Tryz.underlying9 t1
 injection e0 with e0
 injection e1 with e1
 refine ⟨(z0,z1),by rw [e0,e1], ?_,zgr w0⟩
 rw [hx,zgN,hy,zky]
 show z1.size≤_
 omega
def ScQ {H:Type} (W:World) (z:ByteArray × List (Int × Int) × Value) (d:DataW H):Prop:=z.1.size≤Rows.uptoBulk d∧z.2.1.length≤Rows.uptoBulk d∧(∃ b c,z.2.2=.slice b z.2.1.length c∧RowC W W.heap.size b (z.2.1.flatMap fun s => [.int .i32 s.1,.int .i32 s.2]))∧∀ y ∈ z.2.1,R32 y.1∧R32 y.2
theorem znm {H:Type} {enc:TypeId × Value→H} {W:World} (n:Nat) (cs:List Value) (x:DataW H × List MemPlace) (h:DataW.trod enc Tryz.prog W 0 (fun _ =>true) true n 109 cs=some x):∃ z:ByteArray × List (Int × Int) × Value,cs=[.string z.1,z.2.2]∧ScQ W z x.1:=by
 obtain ⟨v0,v1,y0,y1,k,rfl,hx,t0,t1⟩:=zom Tryz.underlying109 (by kernel_rfl) rfl rfl (by kernel_rfl) (by kernel_rfl) h
 obtain ⟨z0,e0,hy,_⟩:=DataW.trod_string Tryz.underlying9 t0
 injection e0 with e0
 obtain ⟨zs,a,cap,e1,hr,hl,hq⟩:=zcb (fun s:Int × Int => [Value.int .i32 s.1,.int .i32 s.2]) (fun z _ =>R32 z.1∧R32 z.2) 2 (by kernel_rfl) (fun _ =>rfl) (by decide) Tryz.underlying23 zid t1
 refine ⟨(z0,zs,v1),by rw [e0], ?_, ?_,⟨a,cap,e1,hr⟩,fun y hy =>by obtain ⟨_,h5,_⟩:=hq y hy;exact h5⟩
 ·show z0.size≤_
  rw [hx,zgN,hy,zky]
  omega
 ·show zs.length≤_
  rw [hx,zgN]
  omega
theorem zqb:∀ (l:List (Int × Int)),(l.flatMap fun s => [Value.int .i32 s.1,.int .i32 s.2])=zaQ l
 | [] =>rfl
 | x::l =>by rw [List.flatMap_cons,zqb l];rfl
theorem zqS:∀ (l:List (Int × Int)),(l.flatMap fun s => [Value.int .i32 s.1,.int .i64 s.2])=zdk l
 | [] =>rfl
 | x::l =>by rw [List.flatMap_cons,zqS l];rfl
theorem zqR:∀ (l:List (Int × Int × Int)),(l.flatMap fun s => [Value.int .i32 s.1,.int .i32 s.2.1,.int .i32 s.2.2])=zcL l
 | [] =>rfl
 | x::l =>by rw [List.flatMap_cons,zqR l];rfl
theorem zqT:∀ (l:List (Int × ByteArray)),(l.flatMap fun s => [Value.int .i32 s.1,.string s.2])=zbl l
 | [] =>rfl
 | x::l =>by rw [List.flatMap_cons,zqT l];rfl
theorem zqU:∀ (l:List (ByteArray × List (Int × Int) × Value)),(l.flatMap fun z => [Value.string z.1,z.2.2])=zbG (l.map fun z =>(z.1,z.2.1)) (l.map fun z =>z.2.2)
 | [] =>rfl
 | x::l =>by rw [List.flatMap_cons,zqU l];rfl
theorem zrB {α : Type}:∀ {l:List α},l.length=8→∃ a b c d e f g h,l=[a,b,c,d,e,f,g,h]
 | [a,b,c,d,e,f,g,h],_ =>⟨a,b,c,d,e,f,g,h,rfl⟩
theorem znI:∃ f0 f1 f2 f3 f4 f5 f6 f7:Field,Tryz.prog.underlying 28=some (.struct #[f0,f1,f2,f3,f4,f5,f6,f7])∧(f0.offset=0∧f0.type=22)∧(f1.offset=1∧f1.type=23)∧(f2.offset=2∧f2.type=24)∧(f3.offset=3∧f3.type=25)∧(f4.offset=4∧f4.type=26)∧(f5.offset=5∧f5.type=26)∧(f6.offset=6∧f6.type=23)∧(f7.offset=7∧f7.type=23) :=
 ⟨_,_,_,_,_,_,_,_,Tryz.underlying28,⟨rfl,rfl⟩,⟨rfl,rfl⟩,⟨rfl,rfl⟩,⟨rfl,rfl⟩,⟨rfl,rfl⟩,⟨rfl,rfl⟩,⟨rfl,rfl⟩,⟨rfl,rfl⟩⟩
theorem zns {H:Type} (a b c d e f g h:DataW H):Rows.uptoBulk a≤Rows.uptoBulk (.agg [a,b,c,d,e,f,g,h])∧Rows.uptoBulk b≤Rows.uptoBulk (.agg [a,b,c,d,e,f,g,h])∧Rows.uptoBulk c≤Rows.uptoBulk (.agg [a,b,c,d,e,f,g,h])∧Rows.uptoBulk d≤Rows.uptoBulk (.agg [a,b,c,d,e,f,g,h])∧Rows.uptoBulk e≤Rows.uptoBulk (.agg [a,b,c,d,e,f,g,h])∧Rows.uptoBulk f≤Rows.uptoBulk (.agg [a,b,c,d,e,f,g,h])∧Rows.uptoBulk g≤Rows.uptoBulk (.agg [a,b,c,d,e,f,g,h])∧Rows.uptoBulk h≤Rows.uptoBulk (.agg [a,b,c,d,e,f,g,h]):=by
 have e0:Rows.uptoBulk (.agg [a,b,c,d,e,f,g,h])=Rows.uptoBulkAll [a,b,c,d,e,f,g,h]+1:=by simp only [Rows.uptoBulk]
 have key:∀ x ∈ [a,b,c,d,e,f,g,h],Rows.uptoBulk x≤Rows.uptoBulkAll [a,b,c,d,e,f,g,h]+1:=fun x hx =>Nat.le_succ_of_le (zig _ x hx)
 rw [e0]
 exact ⟨key a (by simp),key b (by simp),key c (by simp),key d (by simp),key e (by simp),key f (by simp),key g (by simp),key h (by simp)⟩
theorem arg_tab {H:Type} {enc:TypeId × Value→H} {W:World} {cs:Array Value} {d:DataW H} {p:List MemPlace} (h:DataW.Trod enc Tryz.prog W 0 (fun _ =>true) true 28 (.agg cs) d p) (hd:Rows.uptoBulk d≤1048576) :
  ∃ (T:TV) (a0 a1 a2 a3 a4 a5 a6 a7:Option Addr) (c0 c1 c2 c3 c4 c5 c6 c7:Nat) (us:List Value),cs=zop T a0 a1 a2 a3 a4 a5 a6 a7 c0 c1 c2 c3 c4 c5 c6 c7∧TabIn W T a0 a1 a2 a3 a4 a5 a6 a7 us∧TabB T∧zlM T:=by
 obtain ⟨fuel,hf⟩:=h
 obtain ⟨f0,f1,f2,f3,f4,f5,f6,f7,hu,⟨o0,t0⟩,⟨o1,t1⟩,⟨o2,t2⟩,⟨o3,t3⟩,⟨o4,t4⟩,⟨o5,t5⟩,⟨o6,t6⟩,⟨o7,t7⟩⟩:=znI
 obtain ⟨xs,k,hk,hxy,hcl,hxl,hg⟩:=DataW.trod_struct hu hf
 have hc8:(Value.agg cs).cells.toList.length=8:=hcl.trans (by kernel_rfl)
 have hcs:(Value.agg cs).cells.toList=cs.toList:=by simp [Value.cells]
 obtain ⟨v0,v1,v2,v3,v4,v5,v6,v7,hv⟩:=zrB (hcs ▸ hc8)
 obtain ⟨x0,x1,x2,x3,x4,x5,x6,x7,rfl⟩:=zrB hxl
 have g0:=hg 0 f0 rfl
 rw [o0,t0,hcs,hv,show Tryz.prog.cellsOf 22=1 by kernel_rfl] at g0
 have g0:DataW.trod enc Tryz.prog W 0 (fun _ =>true) true k 22 [v0]=some x0:=g0
 have g1:=hg 1 f1 rfl
 rw [o1,t1,hcs,hv,show Tryz.prog.cellsOf 23=1 by kernel_rfl] at g1
 have g1:DataW.trod enc Tryz.prog W 0 (fun _ =>true) true k 23 [v1]=some x1:=g1
 have g2:=hg 2 f2 rfl
 rw [o2,t2,hcs,hv,show Tryz.prog.cellsOf 24=1 by kernel_rfl] at g2
 have g2:DataW.trod enc Tryz.prog W 0 (fun _ =>true) true k 24 [v2]=some x2:=g2
 have g3:=hg 3 f3 rfl
 rw [o3,t3,hcs,hv,show Tryz.prog.cellsOf 25=1 by kernel_rfl] at g3
 have g3:DataW.trod enc Tryz.prog W 0 (fun _ =>true) true k 25 [v3]=some x3:=g3
 have g4:=hg 4 f4 rfl
 rw [o4,t4,hcs,hv,show Tryz.prog.cellsOf 26=1 by kernel_rfl] at g4
 have g4:DataW.trod enc Tryz.prog W 0 (fun _ =>true) true k 26 [v4]=some x4:=g4
 have g5:=hg 5 f5 rfl
 rw [o5,t5,hcs,hv,show Tryz.prog.cellsOf 26=1 by kernel_rfl] at g5
 have g5:DataW.trod enc Tryz.prog W 0 (fun _ =>true) true k 26 [v5]=some x5:=g5
 have g6:=hg 6 f6 rfl
 rw [o6,t6,hcs,hv,show Tryz.prog.cellsOf 23=1 by kernel_rfl] at g6
 have g6:DataW.trod enc Tryz.prog W 0 (fun _ =>true) true k 23 [v6]=some x6:=g6
 have g7:=hg 7 f7 rfl
 rw [o7,t7,hcs,hv,show Tryz.prog.cellsOf 23=1 by kernel_rfl] at g7
 have g7:DataW.trod enc Tryz.prog W 0 (fun _ =>true) true k 23 [v7]=some x7:=g7
 obtain ⟨z0,a0,c0,rfl,r0,l0,q0⟩:=zcb (fun z:ByteArray × List (Int × Int) × Value => [Value.string z.1,z.2.2]) (ScQ W) 2 (by kernel_rfl) (fun _ =>rfl) (by decide) Tryz.underlying22 znm g0
 obtain ⟨z1,a1,c1,rfl,r1,l1,q1⟩:=zcb (fun s:Int × Int => [Value.int .i32 s.1,.int .i32 s.2]) (fun z _ =>R32 z.1∧R32 z.2) 2 (by kernel_rfl) (fun _ =>rfl) (by decide) Tryz.underlying23 zid g1
 obtain ⟨z2,a2,c2,rfl,r2,l2,q2⟩:=zcb (fun s:Int × Int => [Value.int .i32 s.1,.int .i64 s.2]) (fun z _ =>(-9223372036854775808≤z.2∧z.2≤9223372036854775807)∧R32 z.1) 2 (by kernel_rfl) (fun _ =>rfl) (by decide) Tryz.underlying24 zqg g2
 obtain ⟨z3,a3,c3,rfl,r3,l3,q3⟩:=zcb (fun s:Int × Int × Int => [Value.int .i32 s.1,.int .i32 s.2.1,.int .i32 s.2.2]) (fun z _ =>R32 z.1∧R32 z.2.1∧R32 z.2.2) 3 (by kernel_rfl) (fun _ =>rfl) (by decide) Tryz.underlying25 zqf g3
 obtain ⟨z4,a4,c4,rfl,r4,l4,q4⟩:=zcb (fun s:Int × ByteArray => [Value.int .i32 s.1,.string s.2]) (fun z d =>z.2.size≤Rows.uptoBulk d∧R32 z.1) 2 (by kernel_rfl) (fun _ =>rfl) (by decide) Tryz.underlying26 zpl g4
 obtain ⟨z5,a5,c5,rfl,r5,l5,q5⟩:=zcb (fun s:Int × ByteArray => [Value.int .i32 s.1,.string s.2]) (fun z d =>z.2.size≤Rows.uptoBulk d∧R32 z.1) 2 (by kernel_rfl) (fun _ =>rfl) (by decide) Tryz.underlying26 zpl g5
 obtain ⟨z6,a6,c6,rfl,r6,l6,q6⟩:=zcb (fun s:Int × Int => [Value.int .i32 s.1,.int .i32 s.2]) (fun z _ =>R32 z.1∧R32 z.2) 2 (by kernel_rfl) (fun _ =>rfl) (by decide) Tryz.underlying23 zid g6
 obtain ⟨z7,a7,c7,rfl,r7,l7,q7⟩:=zcb (fun s:Int × Int => [Value.int .i32 s.1,.int .i32 s.2]) (fun z _ =>R32 z.1∧R32 z.2) 2 (by kernel_rfl) (fun _ =>rfl) (by decide) Tryz.underlying23 zid g7
 have hdx:d=.agg [x0.1,x1.1,x2.1,x3.1,x4.1,x5.1,x6.1,x7.1]:=congrArg Prod.fst hxy
 have hb:=zns x0.1 x1.1 x2.1 x3.1 x4.1 x5.1 x6.1 x7.1
 rw [← hdx] at hb
 obtain ⟨b0,b1,b2,b3,b4,b5,b6,b7⟩:=hb
 rw [zqU] at r0
 rw [zqb] at r1 r6 r7
 rw [zqS] at r2
 rw [zqR] at r3
 rw [zqT] at r4 r5
 refine ⟨⟨z0.map fun z =>(z.1,z.2.1),z1,z2,z3,z4,z5,z6,z7,[],[],[],[],[],[],[],[]⟩,a0,a1,a2,a3,a4,a5,a6,a7,c0,c1,c2,c3,c4,c5,c6,c7,z0.map fun z =>z.2.2, ?_, ?_, ?_, ?_⟩
 ·unfold zop
  rw [List.length_map]
  exact Array.ext' hv
 ·refine ⟨by rw [List.length_map,List.length_map],r0,r1,r2,r3,r4,r5,r6,r7,fun j x u hx hu =>?_⟩
  have hx':(z0.map fun z =>(z.1,z.2.1))[j]?=some x:=hx
  rw [List.getElem?_map] at hx' hu
  obtain ⟨z,hz,rfl⟩:=Option.map_eq_some_iff.1 hx'
  rw [hz] at hu
  obtain rfl:=Option.some.inj hu
  obtain ⟨dz,⟨_,_,⟨b,c,e,hr⟩,_⟩,_⟩:=q0 z (List.mem_of_getElem? hz)
  rw [zqb] at hr
  exact ⟨b,c,e,hr⟩
 ·refine ⟨by show (z0.map _).length≤_;rw [List.length_map];omega,by show z1.length≤_;omega,by show z2.length≤_;omega,by show z3.length≤_;omega,by show z4.length≤_;omega,by show z5.length≤_;omega,by show z6.length≤_;omega,by show z7.length≤_;omega,fun x hx =>?_,fun x hx =>?_,fun x hx =>?_,fun x hx =>?_⟩
  ·obtain ⟨z,hz,rfl⟩:=List.mem_map.1 (show x ∈ z0.map fun z =>(z.1,z.2.1) from hx)
   obtain ⟨dz,⟨s1,s2,_⟩,s3⟩:=q0 z hz
   exact ⟨by show z.1.size≤_;omega,by show z.2.1.length≤_;omega⟩
  ·obtain ⟨_,⟨s1,_⟩,_⟩:=q2 x hx
   exact s1
  ·obtain ⟨dz,⟨s1,_⟩,s2⟩:=q4 x hx
   omega
  ·obtain ⟨dz,⟨s1,_⟩,s2⟩:=q5 x hx
   omega
 ·refine ⟨fun x hx y hy =>?_,fun y hy =>?_,fun y hy =>?_,fun y hy =>?_,fun y hy =>?_,fun y hy =>?_,fun y hy =>?_,fun y hy =>?_⟩
  ·obtain ⟨z,hz,rfl⟩:=List.mem_map.1 (show x ∈ z0.map fun z =>(z.1,z.2.1) from hx)
   obtain ⟨dz,⟨_,_,_,s1⟩,_⟩:=q0 z hz
   exact s1 y hy
  ·obtain ⟨_,s1,_⟩:=q1 y hy;exact s1
  ·obtain ⟨_,s1,_⟩:=q6 y hy;exact s1
  ·obtain ⟨_,s1,_⟩:=q7 y hy;exact s1
  ·obtain ⟨_,⟨_,s1⟩,_⟩:=q2 y hy;exact s1
  ·obtain ⟨_,s1,_⟩:=q3 y hy;exact s1
  ·obtain ⟨_,⟨_,s1⟩,_⟩:=q4 y hy;exact s1
  ·obtain ⟨_,⟨_,s1⟩,_⟩:=q5 y hy;exact s1
end
end Go.Proofs.YtmemedpoaocdkaaGreat
