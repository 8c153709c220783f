/- Texts of this claim, one behind the other. -/
import Derived.Test.YtmemedpoaocdkaaGreatM25
import Derived.Test.YtmemedpoaocdkaaGreatM18
import Derived.Test.YtmemedpoaocdkaaGreatM19
/- A Book of tables: how rows don't stand together, list by list. -/
namespace Go.Proofs.YtmemedpoaocdkaaGreat
open Go.RowKit Go.Shelf Go.Maps
set_option linter.unusedVariables false
structure StF (w:World) (BB R B:Nat) (T:TV) (a0 a1 a2 a3 a4 a5 a6 a7:Option Addr) (c0 c1 c2 c3 c4 c5 c6 c7:Nat) (us:List Value):Prop where
 bp:BkP w BB B T
 rs:Blk w R #[.int .i64 0,.int .i64 0,.int .i64 0] 76
 tb:BkT w B T a0 a1 a2 a3 a4 a5 a6 a7 c0 c1 c2 c3 c4 c5 c6 c7 us
theorem StF.below {w w':World} {BB R B:Nat} {T:TV} {a0 a1 a2 a3 a4 a5 a6 a7:Option Addr} {c0 c1 c2 c3 c4 c5 c6 c7:Nat} {us:List Value} (h:StF w BB R B T a0 a1 a2 a3 a4 a5 a6 a7 c0 c1 c2 c3 c4 c5 c6 c7 us) (hb:Below w.heap.size w w'):StF w' BB R B T a0 a1 a2 a3 a4 a5 a6 a7 c0 c1 c2 c3 c4 c5 c6 c7 us :=
 ⟨h.bp.below hb,h.rs.below hb h.rs.lt,h.tb.below hb⟩
structure StG (w:World) (R B:Nat) (T:TV) (a0 a1 a2 a3 a4 a5 a6 a7:Option Addr) (c0 c1 c2 c3 c4 c5 c6 c7:Nat) (us:List Value):Prop where
 bk:BookAt w B T
 rs:Blk w R #[.int .i64 0,.int .i64 0,.int .i64 0] 76
 tb:BkT w B T a0 a1 a2 a3 a4 a5 a6 a7 c0 c1 c2 c3 c4 c5 c6 c7 us
theorem StG.below {w w':World} {R B:Nat} {T:TV} {a0 a1 a2 a3 a4 a5 a6 a7:Option Addr} {c0 c1 c2 c3 c4 c5 c6 c7:Nat} {us:List Value} (h:StG w R B T a0 a1 a2 a3 a4 a5 a6 a7 c0 c1 c2 c3 c4 c5 c6 c7 us) (hb:Below w.heap.size w w'):StG w' R B T a0 a1 a2 a3 a4 a5 a6 a7 c0 c1 c2 c3 c4 c5 c6 c7 us :=
 ⟨h.bk.below hb,h.rs.below hb h.rs.lt,h.tb.below hb⟩
def unD (W0s:Nat) (B:Nat) (T:TV) (a0:Option Addr) (a1:Option Addr) (a2:Option Addr) (a3:Option Addr) (a4:Option Addr) (a5:Option Addr) (a6:Option Addr) (a7:Option Addr) (c0:Nat) (c1:Nat) (c2:Nat) (c3:Nat) (c4:Nat) (c5:Nat) (c6:Nat) (c7:Nat) (x0:Int × Int × Int) (x1:Int × Int × Int) (x2:Int × Int × Int) (x3:Int × Int × Int):Nat→Value→World→Prop
 | 0,v,w =>v=.pointer (some ⟨B,0,none⟩)
 | 1,v,w =>v=.pointer (some ⟨B,0,none⟩)
 | 2,v,w =>v=.pointer (some ⟨B,0,none⟩)
 | 3,v,w =>v=.pointer (some ⟨B,2,none⟩)
 | 4,v,w =>v=.slice a2 T.ma.length c2
 | 5,v,w =>v=.func (.func 139) #[] #[.pointer (some ⟨W0s,0,none⟩)]
 | 6,v,w =>v=wrV x0
 | 7,v,w =>v=.pointer (some ⟨B,0,none⟩)
 | 8,v,w =>v=.pointer (some ⟨B,0,none⟩)
 | 9,v,w =>v=.pointer (some ⟨B,0,none⟩)
 | 10,v,w =>v=.pointer (some ⟨B,3,none⟩)
 | 11,v,w =>v=.slice a3 T.pr.length c3
 | 12,v,w =>v=.func (.func 140) #[] #[.pointer (some ⟨W0s,0,none⟩)]
 | 13,v,w =>v=wrV x1
 | 14,v,w =>v=.pointer (some ⟨B,0,none⟩)
 | 15,v,w =>v=.pointer (some ⟨B,0,none⟩)
 | 16,v,w =>v=.pointer (some ⟨B,0,none⟩)
 | 17,v,w =>v=.pointer (some ⟨B,4,none⟩)
 | 18,v,w =>v=.slice a4 T.fo.length c4
 | 19,v,w =>v=.func (.func 137) #[] #[.pointer (some ⟨W0s,0,none⟩)]
 | 20,v,w =>v=wrV x2
 | 21,v,w =>v=.pointer (some ⟨B,0,none⟩)
 | 22,v,w =>v=.pointer (some ⟨B,0,none⟩)
 | 23,v,w =>v=.pointer (some ⟨B,0,none⟩)
 | 24,v,w =>v=.pointer (some ⟨B,5,none⟩)
 | 25,v,w =>v=.slice a5 T.lk.length c5
 | 26,v,w =>v=.func (.func 137) #[] #[.pointer (some ⟨W0s,0,none⟩)]
 | 27,v,w =>v=wrV x3
 | 28,v,w => ∃ g,v=.slice (some ⟨g,0,none⟩) 4 4∧g < w.heap.size∧RwW w g 0 [x0,x1,x2,x3]
 | 29,v,w =>v=wrV (orW [x0,x1,x2,x3])
 | _,v,w =>True
def ufD (W0s:Nat) (B:Nat) (T:TV) (a0:Option Addr) (a1:Option Addr) (a2:Option Addr) (a3:Option Addr) (a4:Option Addr) (a5:Option Addr) (a6:Option Addr) (a7:Option Addr) (c0:Nat) (c1:Nat) (c2:Nat) (c3:Nat) (c4:Nat) (c5:Nat) (c6:Nat) (c7:Nat) (x0:Int × Int × Int) (x1:Int × Int × Int):Nat→Value→World→Prop
 | 0,v,w =>v=.pointer (some ⟨B,0,none⟩)
 | 1,v,w =>v=.pointer (some ⟨B,0,none⟩)
 | 2,v,w =>v=.pointer (some ⟨B,0,none⟩)
 | 3,v,w =>v=.pointer (some ⟨B,4,none⟩)
 | 4,v,w =>v=.slice a4 T.fo.length c4
 | 5,v,w =>v=.func (.func 141) #[] #[.pointer (some ⟨W0s,0,none⟩)]
 | 6,v,w =>v=wrV x0
 | 7,v,w =>v=.pointer (some ⟨B,0,none⟩)
 | 8,v,w =>v=.pointer (some ⟨B,0,none⟩)
 | 9,v,w =>v=.pointer (some ⟨B,0,none⟩)
 | 10,v,w =>v=.pointer (some ⟨B,5,none⟩)
 | 11,v,w =>v=.slice a5 T.lk.length c5
 | 12,v,w =>v=.func (.func 141) #[] #[.pointer (some ⟨W0s,0,none⟩)]
 | 13,v,w =>v=wrV x1
 | 14,v,w => ∃ g,v=.slice (some ⟨g,0,none⟩) 2 2∧g < w.heap.size∧RwW w g 0 [x0,x1]
 | 15,v,w =>v=wrV (orW [x0,x1])
 | _,v,w =>True
def utD (W0s:Nat) (B:Nat) (T:TV) (a0:Option Addr) (a1:Option Addr) (a2:Option Addr) (a3:Option Addr) (a4:Option Addr) (a5:Option Addr) (a6:Option Addr) (a7:Option Addr) (c0:Nat) (c1:Nat) (c2:Nat) (c3:Nat) (c4:Nat) (c5:Nat) (c6:Nat) (c7:Nat) (x0:Int × Int × Int) (x1:Int × Int × Int):Nat→Value→World→Prop
 | 0,v,w =>v=.pointer (some ⟨B,0,none⟩)
 | 1,v,w =>v=.pointer (some ⟨B,0,none⟩)
 | 2,v,w =>v=.pointer (some ⟨B,0,none⟩)
 | 3,v,w =>v=.pointer (some ⟨B,4,none⟩)
 | 4,v,w =>v=.slice a4 T.fo.length c4
 | 5,v,w =>v=.func (.func 146) #[] #[.pointer (some ⟨W0s+2,0,none⟩)]
 | 6,v,w =>v=wrV x0
 | 7,v,w =>v=.pointer (some ⟨B,0,none⟩)
 | 8,v,w =>v=.pointer (some ⟨B,0,none⟩)
 | 9,v,w =>v=.pointer (some ⟨B,0,none⟩)
 | 10,v,w =>v=.pointer (some ⟨B,5,none⟩)
 | 11,v,w =>v=.slice a5 T.lk.length c5
 | 12,v,w =>v=.func (.func 148) #[] #[.pointer (some ⟨W0s+3,0,none⟩)]
 | 13,v,w =>v=wrV x1
 | 14,v,w => ∃ g,v=.slice (some ⟨g,0,none⟩) 2 2∧g < w.heap.size∧RwW w g 0 [x0,x1]
 | 15,v,w =>v=wrV (orW [x0,x1])
 | _,v,w =>True
end Go.Proofs.YtmemedpoaocdkaaGreat
namespace Go.Proofs.YtmemedpoaocdkaaGreat
open Go.RowKit Go.Shelf
set_option linter.unusedVariables false
theorem zhc {x:Int × Int} (he:zaW x=true) (hx:x.1≤x.2):1≤zaH x:=by
 have h:=zar he
 have:=(zbM h.1.2.2 h.2.2.2).2 hx
 unfold zaH
 omega
def zbN:List (Int × Int)→Int→Int
 | [],_ =>0
 | x::zs,n =>if n < zaH x then zaJ (zae x.1+n) else zbN zs (n - zaH x)
theorem zce (x:Int × Int) (zs:List (Int × Int)):total (x::zs)=zaH x+total zs:=rfl
theorem zdd {zs:List (Int × Int)} (h:za0 zs) (i:Nat):0≤total (zs.take i):=(zcM (fun x hx =>h x (List.mem_of_mem_take hx))).1
theorem zlc:∀ (zs:List (Int × Int)) (i:Nat) (x:Int × Int) (n:Int),za0 zs→zs[i]?=some x→total (zs.take i)≤n→n < total (zs.take i)+zaH x→zbN zs n=zaJ (zae x.1+(n - total (zs.take i)))
 | [],i,x,n,_,hx,_,_ =>by simp at hx
 | y::zs,0,x,n,hR,hx,h0,h1 =>by
  simp at hx
  subst hx
  simp only [List.take_zero,total] at h0 h1 ⊢
  show (if n < zaH y then _ else _)=_
  rw [if_pos (by omega)]
  congr 2
  omega
 | y::zs,i+1,x,n,hR,hx,h0,h1 =>by
  simp only [List.take_succ_cons,zce] at h0 h1 ⊢
  have hR':za0 zs:=fun z hz =>hR z (List.mem_cons_of_mem _ hz)
  have hnn:=zdd hR' i
  show (if n < zaH y then _ else zbN zs (n - zaH y))=_
  rw [if_neg (by omega),zlc zs i x (n - zaH y) hR' (by simpa using hx) (by omega) (by omega)]
  congr 2
  omega
def zav:List (Int × Int)→Int→Int
 | [],_ =>0
 | x::zs,r =>(if x.1 < r then min (zae r) (zae x.2+1) - zae x.1 else 0)+zav zs r
theorem zfm:∀ (zs:List (Int × Int)) (r:Int),(∀ x ∈ zs,r≤x.1)→zav zs r=0
 | [],_,_ =>rfl
 | x::zs,r,h =>by
  have:=h x List.mem_cons_self
  show (if x.1 < r then _ else 0)+zav zs r=0
  rw [if_neg (by omega),zfm zs r (fun y hy =>h y (List.mem_cons_of_mem _ hy))]
  rfl
theorem zpG {a b:Int} (ha:a < 55296∨57343 < a) (h:a < b):zae a+1≤zae b∨(55295=a∧zae b=55296):=by
 unfold zae
 split <;> split <;> (try split) <;> (try split) <;> omega
theorem zch {a b:Int} (ha:a < 55296∨57343 < a) (h:a < b):zae a+1≤zae b:=by
 unfold zae
 split <;> split <;> (try split) <;> (try split) <;> omega
theorem zgu:∀ (zs:List (Int × Int)) (r:Int) (k:Nat),Spread zs→Cut (fun x =>x.1) zs r k→zik zs r k=zav zs r
 | zs,r,0,hS,hc =>by
  rw [zfm zs r (fun x hx =>by
   obtain ⟨i,hi,rfl⟩:=List.mem_iff_getElem.1 hx
   exact hc.2.2 i _ (Nat.zero_le _) (List.getElem?_eq_getElem hi))]
  rfl
 | [],r,k+1,hS,hc =>by have:=hc.1;simp at this
 | x::zs,r,k+1,hS,hc =>by
  have hx:x.1 < r:=hc.2.1 0 x (by omega) rfl
  show _=(if x.1 < r then _ else 0)+zav zs r
  rw [if_pos hx]
  have hc':Cut (fun x =>x.1) zs r k:=⟨by have:=hc.1;simp at this;omega,fun j y hj hy =>hc.2.1 (j+1) y (by omega) (by simpa using hy),fun j y hj hy =>hc.2.2 (j+1) y (by omega) (by simpa using hy)⟩
  have ih:=zgu zs r k hS.tail hc'
  cases k with
  | zero =>
   rw [← ih]
   show total []+min (zae r) (zae x.2+1) - zae x.1=min (zae r) (zae x.2+1) - zae x.1+0
   simp [total]
  | succ m =>
   rw [← ih]
   have hm:m < zs.length:=by have:=hc'.1;omega
   obtain ⟨y,hy⟩:∃ y,zs[m]?=some y:=⟨_,List.getElem?_eq_getElem hm⟩
   have hyr:y.1 < r:=hc'.2.1 m y (by omega) hy
   have hlt:=hS.head_lt (List.mem_of_getElem? hy)
   have he:=zar (hS.ends x (by simp)).1
   have h1:=zch he.2.2.2 (show x.2 < r by omega)
   show total ((x::zs).take (m+1))+min (zae r) (zae ((x::zs).getD (m+1) (0,0)).2+1) - zae ((x::zs).getD (m+1) (0,0)).1=_+(total (zs.take m)+min (zae r) (zae (zs.getD m (0,0)).2+1) - zae (zs.getD m (0,0)).1)
   rw [List.take_succ_cons,zce,List.getD_cons_succ,Int.min_eq_right h1]
   unfold zaH
   omega
theorem zf7 {n:Int} (h:0≤n):zae (zaJ n)=n:=by
 unfold zaJ zae
 split <;> split <;> (try split) <;> omega
theorem zdI {n:Int} (h:0≤n) (h1:n≤1112063):zan (zaJ n)=true:=by
 unfold zaJ zan
 apply decide_eq_true
 split <;> omega
theorem zlb {zs:List (Int × Int)} (hS:Spread zs) {i:Nat} {x:Int × Int} {n:Int} (hx:zs[i]?=some x) (h0:total (zs.take i)≤n) (h1:n < total (zs.take i)+zaH x) :
  zan (zbN zs n)=true∧x.1≤zbN zs n∧zbN zs n≤x.2∧zae (zbN zs n)=zae x.1+(n - total (zs.take i)):=by
 have hm:=List.mem_of_getElem? hx
 have he:=zar (hS.ends x hm).1
 have a:=zaz he.1.1 he.1.2.1
 have b:=zaz he.2.1 he.2.2.1
 unfold zaH at h1
 rw [zlc zs i x n hS.ends hx h0 (by unfold zaH;omega)]
 have r:=zf7 (n:=zae x.1+(n - total (zs.take i))) (by omega)
 have q:=zdI (n:=zae x.1+(n - total (zs.take i))) (by omega) (by omega)
 have qq:=zaR q
 refine ⟨q,(zbM he.1.2.2 qq.2.2).1 (by omega),(zbM qq.2.2 he.2.2.2).1 (by omega),r⟩
theorem zfl:∀ (zs:List (Int × Int)) (i:Nat) (x:Int × Int) (r:Int),Spread zs→zs[i]?=some x→x.1 < r→(∀ y,zs[i+1]?=some y→r≤y.1)→zav zs r=total (zs.take i)+(min (zae r) (zae x.2+1) - zae x.1):=by
 intro zs i x r hS hx h1 h2
 have hi:=(List.getElem?_eq_some_iff.1 hx).1
 have hc:Cut (fun x =>x.1) zs r (i+1):=⟨by omega,fun j y hj hy =>by
   show y.1 < r
   rcases Nat.lt_or_eq_of_le (show j≤i by omega) with a | a
   ·have:=hS.los j i y x a hy hx;omega
   ·subst a;rw [hx] at hy;cases hy;exact h1,fun j y hj hy =>by
   show r≤y.1
   rcases Nat.lt_or_eq_of_le hj with a | a
   ·have hj':=(List.getElem?_eq_some_iff.1 hy).1
    obtain ⟨z,hz⟩:∃ z,zs[i+1]?=some z:=⟨_,List.getElem?_eq_getElem (by omega)⟩
    have:=hS.los (i+1) j z y a hz hy
    have:=h2 z hz
    omega
   ·rw [← a] at hy;exact h2 y hy⟩
 rw [← zgu zs r (i+1) hS hc]
 have hg:zs.getD i (0,0)=x:=by simp [List.getD,hx]
 show total (zs.take i)+min (zae r) (zae (zs.getD i (0,0)).2+1) - zae (zs.getD i (0,0)).1=_
 rw [hg]
 omega
theorem zh0:∀ (zs:List (Int × Int)) (n:Int),za0 zs→0≤n→n < total zs→∃ (i:Nat) (x:Int × Int),zs[i]?=some x∧total (zs.take i)≤n∧n < total (zs.take i)+zaH x
 | [],n,_,h0,h1 =>by simp [total] at h1;omega
 | y::zs,n,hR,h0,h1 =>by
  by_cases c:n < zaH y
  ·exact ⟨0,y,rfl,by simpa [total] using h0,by simpa [total] using c⟩
  ·rw [zce] at h1
   obtain ⟨i,x,hx,a,b⟩:=zh0 zs (n - zaH y) (fun z hz =>hR z (List.mem_cons_of_mem _ hz)) (by omega) (by omega)
   exact ⟨i+1,x,by simpa using hx,by rw [List.take_succ_cons,zce];omega,by rw [List.take_succ_cons,zce];omega⟩
theorem zld {zs:List (Int × Int)} (hS:Spread zs) {n:Int} (h0:0≤n) (h1:n < total zs):zal zs (zbN zs n)=true∧zav zs (zbN zs n)=n∧zav zs (zbN zs n+1)=n+1∧0≤zbN zs n∧zbN zs n≤1114111:=by
 obtain ⟨i,x,hx,a,b⟩:=zh0 zs n hS.ends h0 h1
 obtain ⟨hr,h2,h3,h4⟩:=zlb hS hx a b
 have hm:=List.mem_of_getElem? hx
 have he:=zar (hS.ends x hm).1
 have hrr:=zaR hr
 have hle2:=(zbM hrr.2.2 he.2.2.2).2 h3
 have hnext:∀ y,zs[i+1]?=some y→zbN zs n+1≤y.1:=fun y hy =>by
  have:=hS.lt i (i+1) x y (by omega) hx hy
  omega
 have hb1:=zfl zs i x (zbN zs n+1) hS hx (by omega) hnext
 have hr1:=zch hrr.2.2 (show zbN zs n < zbN zs n+1 by omega)
 have hr2:zae (zbN zs n+1)=zae (zbN zs n)+1:=by
  have:zae (zbN zs n+1)≤zae (zbN zs n)+1:=by unfold zae;split <;> split <;> (try split) <;> (try split) <;> omega
  omega
 refine ⟨(zay _ _).2 ⟨⟨x,hm,h2,h3⟩,hr⟩, ?_, ?_,hrr.1,hrr.2.1⟩
 ·by_cases c:x.1 < zbN zs n
  ·rw [zfl zs i x (zbN zs n) hS hx c (fun y hy =>by have:=hnext y hy;omega)]
   omega
  ·have e:zbN zs n=x.1:=by omega
   have hz:n=total (zs.take i):=by rw [e] at h4;omega
   cases i with
   | zero =>
    rw [e,zfm zs x.1 (fun y hy =>by
     obtain ⟨j,hj,rfl⟩:=List.mem_iff_getElem.1 hy
     cases j with
     | zero =>rw [List.getElem?_eq_getElem hj] at hx;cases hx;omega
     | succ j =>have:=hS.los 0 (j+1) x _ (by omega) hx (List.getElem?_eq_getElem hj);omega)]
    rw [hz];rfl
   | succ m =>
    have hml:m < zs.length:=by have:=(List.getElem?_eq_some_iff.1 hx).1;omega
    obtain ⟨y,hy⟩:∃ y,zs[m]?=some y:=⟨_,List.getElem?_eq_getElem hml⟩
    have hlt:=hS.lt m (m+1) y x (by omega) hy hx
    have hey:=hS.ends y (List.mem_of_getElem? hy)
    have hye:=zar hey.1
    rw [e,zfl zs m y x.1 hS hy (by omega) (fun z hz' =>by rw [hx] at hz';cases hz';omega)]
    have hra:=zch hye.2.2.2 hlt
    rw [Int.min_eq_right hra,hz]
    rw [zdf hy,zeh]
    unfold zaH
    omega
 ·rw [hb1,hr2]
  omega
theorem zgD {l:List (Int × Int)} {k:Nat} {x y:Int × Int} (hx:l[k]?=some x) (hy:y ∈ l.take (k+1)):y ∈ l.take k∨y=x:=by
 rw [List.take_add_one,hx] at hy
 simpa using hy
def zlr (zs:List (Int × Int)) (f t:Int):List (Int × Int):=if f < t then zgR zs (zaJ f,zaJ (t - 1)) else zs
theorem zgP {f t:Int} (h0:0≤f) (h1:t≤1112064) (h:f < t):zaW (zaJ f,zaJ (t - 1))=true∧zaJ f≤zaJ (t - 1):=by
 refine ⟨zhB (zdI h0 (by omega)) (zdI (by omega) (by omega)), ?_⟩
 unfold zaJ
 split <;> split <;> omega
theorem zeP {f r:Int} (h0:0≤f) (h1:f≤1112063) (hr:zan r=true):(zaJ f≤r ↔ f≤zae r)∧(r≤zaJ f ↔ zae r≤f):=by
 have q:=zaR (zdI h0 h1)
 have p:=zaR hr
 have e:=zf7 h0
 have a:=zbM q.2.2 p.2.2
 have b:=zbM p.2.2 q.2.2
 rw [e] at a b
 exact ⟨a.symm,b.symm⟩
theorem zgQ {zs:List (Int × Int)} {f t:Int} (hS:Spread zs) (hlow:∀ y ∈ zs,zae y.2 < f) (h0:0≤f) (h1:t≤1112064) (hft:f≤t) :
  Spread (zlr zs f t)∧(∀ r,zan r=true→(zal (zlr zs f t) r=true ↔ zal zs r=true∨(f≤zae r∧zae r < t)))∧(∀ y ∈ zlr zs f t,zae y.2 < t)∧(zlr zs f t).length≤zs.length+1:=by
 unfold zlr
 by_cases h:f < t
 ·rw [if_pos h]
  have hx:=zgP h0 h1 h
  have hle:∀ y ∈ zs,y.1≤zaJ f:=fun y hy =>by
   have a:=hS.ends y hy
   have b:=zar a.1
   have c:=(zeP h0 (by omega) (zba a.1).2).2.2 (by have:=hlow y hy;omega)
   have:=a.2
   omega
  refine ⟨zcT hS hx.1 hx.2 hle,fun r hr =>?_,fun y hy =>?_,zev _ _⟩
  ·rw [zfR hS hx.1 hx.2 hle,Bool.or_eq_true,zay [_]]
   simp only [List.mem_singleton,exists_eq_left]
   rw [(zeP h0 (by omega) hr).1,(zeP (f:=t - 1) (by omega) (by omega) hr).2]
   constructor
   ·rintro (a | ⟨⟨a,b⟩,_⟩)
    ·exact .inl a
    ·exact .inr ⟨a,by omega⟩
   ·rintro (a | ⟨a,b⟩)
    ·exact .inl a
    ·exact .inr ⟨⟨a,by omega⟩,hr⟩
  ·have hm:zal (zgR zs (zaJ f,zaJ (t - 1))) y.2=true:=by
    have a:=(zcT hS hx.1 hx.2 hle).ends y hy
    exact (zay _ _).2 ⟨⟨y,hy,a.2,by omega⟩,(zba a.1).2⟩
   have hyr:zan y.2=true:=(zba ((zcT hS hx.1 hx.2 hle).ends y hy).1).2
   rw [zfR hS hx.1 hx.2 hle,Bool.or_eq_true,zay,zay [_]] at hm
   simp only [List.mem_singleton,exists_eq_left] at hm
   rcases hm with ⟨⟨z,hz,p,q⟩,_⟩ | ⟨⟨p,q⟩,_⟩
   ·have a:=hlow z hz
    have b:=zar (hS.ends z hz).1
    have c:=(zbM (zaR hyr).2.2 b.2.2.2).2 q
    omega
   ·have:=(zeP (f:=t - 1) (by omega) (by omega) hyr).2.1 q
    omega
 ·rw [if_neg h]
  have e:f=t:=by omega
  subst e
  refine ⟨hS,fun r hr =>?_,hlow,by omega⟩
  constructor
  ·exact .inl
  ·rintro (a | ⟨a,b⟩)
   ·exact a
   ·omega
structure zp5 (zs:List (Int × Int)) (k:Nat) (out:List (Int × Int)) (f:Int):Prop where
 spread:Spread out
 rng:0≤f∧f≤1112064
 mem:∀ r,zan r=true→(zal out r=true ↔ zae r < f∧zal (zs.take k) r=false)
 low:∀ y ∈ out,zae y.2 < f
 len:out.length≤k
 past:∀ y ∈ zs.take k,zae y.2+1≤f
 next:∀ x,zs[k]?=some x→f≤zae x.1
theorem zj4 {zs:List (Int × Int)} (hS:Spread zs):zp5 zs 0 [] 0 where
 spread:=⟨fun x h =>by simp at h,fun i j x y _ h =>by simp at h⟩
 rng:=by omega
 mem r hr:=by
  have:=zaz (zaR hr).1 (zaR hr).2.1
  simp [zal]
  omega
 low y h:=by simp at h
 len:=by simp
 past y h:=by simp at h
 next x hx:=by
  have e:=zar (hS.ends x (List.mem_of_getElem? hx)).1
  exact (zaz e.1.1 e.1.2.1).1
theorem zle {zs:List (Int × Int)} (hS:Spread zs) {k:Nat} {out:List (Int × Int)} {f:Int} {x:Int × Int} (h:zp5 zs k out f) (hx:zs[k]?=some x):zp5 zs (k+1) (zlr out f (zae x.1)) (zae x.2+1):=by
 have hm:=List.mem_of_getElem? hx
 have hex:=hS.ends x hm
 have he:=zar hex.1
 have r1:=zaz he.1.1 he.1.2.1
 have r2:=zaz he.2.1 he.2.2.1
 have r12:=(zbM he.1.2.2 he.2.2.2).2 hex.2
 have hf:=h.next x hx
 obtain ⟨a,b,c,d⟩:=zgQ h.spread h.low h.rng.1 (by omega) hf
 refine ⟨a,by omega,fun r hr =>?_,fun y hy =>by have:=c y hy;omega,by have:=h.len;omega,fun y hy =>?_,fun y hy =>?_⟩
 ·have hrr:=zaR hr
  rw [b r hr,h.mem r hr,zdf hx,zbt]
  have q1:=zbM he.1.2.2 hrr.2.2
  have q2:=zbM hrr.2.2 he.2.2.2
  have hx1:zal [x] r=true ↔ zae x.1≤zae r∧zae r≤zae x.2:=by
   rw [zay]
   simp only [List.mem_singleton,exists_eq_left]
   rw [q1,q2]
   exact ⟨fun h =>h.1,fun h =>⟨h,hr⟩⟩
  have hpast:zal (zs.take k) r=true→zae r < f:=fun hmm =>by
   obtain ⟨⟨y,hy,p,q⟩,_⟩:=(zay _ _).1 hmm
   have e:=zar (hS.ends y (List.mem_of_mem_take hy)).1
   have:=(zbM hrr.2.2 e.2.2.2).2 q
   have:=h.past y hy
   omega
  cases m1:zal (zs.take k) r <;> cases m2:zal [x] r
  ·have:¬ (zae x.1≤zae r∧zae r≤zae x.2):=fun e =>by rw [hx1.2 e] at m2;cases m2
   simp
   omega
  ·have:=hx1.1 m2
   simp
   omega
  ·have:=hpast m1
   simp
   omega
  ·have:=hpast m1
   simp
   omega
 ·rcases zgD hx hy with e | e
  ·have:=h.past y e;omega
  ·subst e;omega
 ·have:=hS.apart k (k+1) x y (by omega) hx hy
  omega
theorem zm1 {zs:List (Int × Int)} (hS:Spread zs) {out:List (Int × Int)} {f:Int} (h:zp5 zs zs.length out f):Spread (zlr out f 1112064)∧(∀ r,zal (zlr out f 1112064) r=(zan r && !zal zs r))∧(zlr out f 1112064).length≤zs.length+1:=by
 obtain ⟨a,b,c,d⟩:=zgQ h.spread h.low h.rng.1 (Int.le_refl _) h.rng.2
 refine ⟨a,fun r =>?_,by have:=h.len;omega⟩
 cases hr:zan r with
 | false =>simp [zal,hr]
 | true =>
  have hrr:=zaR hr
  have hk:=zaz hrr.1 hrr.2.1
  have hp:zal zs r=true→zae r < f:=fun hmm =>by
   obtain ⟨⟨y,hy,p,q⟩,_⟩:=(zay _ _).1 hmm
   have e:=zar (hS.ends y hy).1
   have:=(zbM hrr.2.2 e.2.2.2).2 q
   have:=h.past y (by rw [List.take_of_length_le (Nat.le_refl _)];exact hy)
   omega
  rw [Bool.eq_iff_iff,b r hr,h.mem r hr,List.take_of_length_le (Nat.le_refl _)]
  cases m:zal zs r
  ·simp;omega
  ·have:=hp m;simp;omega
set_option maxRecDepth 100000 in
set_option maxHeartbeats 4000000 in
theorem zfr (B lo0:Nat) (zs:List (Int × Int)) (f t:Int) (hn:zs.length≤1000000) (hS:Spread zs) (h0:0≤f) (h1:0≤t∧t≤1112064) (h2:f≤1112064) (w:World) (hG:Grows w B lo0 zs) (hl:lo0≤w.heap.size) :
  Calls Tryz.prog 204 #[.pointer (some ⟨B,0,none⟩),.int .i64 f,.int .i64 t] w fun e w' =>(∃ r,e=.returned r)∧Grows w' B lo0 (zlr zs f t)∧Below lo0 w w'∧zjg w w' B:=by
 unfold zlr
 by_cases h:f < t
 ·rw [if_pos h]
  have HL:=kz (ziO B lo0 zs (zaJ f,zaJ (t - 1)) hn hS (zgP h0 h1.2 h).1 w hG hl)
  have HA:=kz (fun w =>zel f h0 (by omega) w)
  have HBb:=kz (fun w =>zel (t - 1) (by omega) (by omega) w)
  clear hG hS
  go_enter Tryz.func204,Tryz.ntmps204
  go_wp2_with fail
  refine (oz HA _).mono ?_
  rintro e w1 ⟨rfl,rfl⟩
  go_wp2_with fail
  refine (oz HBb _).mono ?_
  rintro e w2 ⟨rfl,rfl⟩
  go_wp2_with fail
  refine (oz HL).mono ?_
  rintro e w3 ⟨⟨r,rfl⟩,hg,hb,hfr⟩
  have HG:=kz hg
  have HB:=kz hb
  have HFr:=kz hfr
  clear hg hb hfr
  go_wp2
  go_end0
  exact ⟨⟨_,rfl⟩,oz HG,oz HB,oz HFr⟩
 ·rw [if_neg h]
  have HG:=kz hG
  clear hG hS
  go_enter Tryz.func204,Tryz.ntmps204
  go_wp2
  go_end0
  exact ⟨⟨_,rfl⟩,oz HG,Below.refl _ _,fun X _ _ _ =>rfl⟩
theorem zny {wr w6:World} {B lo0:Nat} {zs:List (Int × Int)} {cs:Array Value} {t:TypeId} (hm:Made wr B lo0 zs) (hf:zjg (wr.alloc (.cells cs t)) w6 B):Blk w6 wr.heap.size cs t:=by
 obtain ⟨va,vb,h1,h2,h3⟩:=hm.form
 have hlt:=h1.lt
 refine (hf wr.heap.size (by simp) (by omega) fun va' vb' hB =>?_).trans (Blk.new wr cs t)
 have e:=(show (wr.alloc (.cells cs t)).heap[B]?=_ from h1.alloc (.cells cs t)).symm.trans hB
 simp at e
 obtain ⟨rfl,rfl⟩:=e
 exact ⟨fun e =>by have:=(h2.lt _ e).2;omega,fun e =>by have:=(h3.lt _ e).2;omega⟩
set_option maxRecDepth 100000 in
set_option maxHeartbeats 4000000 in
theorem zov (B:Nat) (zs:List (Int × Int)) (hz:zs.length≤100000) (w:World) (hs:SetAt w B zs) :
  Calls Tryz.prog 193 #[.pointer (some ⟨B,0,none⟩)] w fun e w' => ∃ (B' lo0:Nat) (ys:List (Int × Int)),e=.returned (.pointer (some ⟨B',0,none⟩))∧w.heap.size≤lo0∧Made w' B' lo0 ys∧Spread ys∧ys.length≤zs.length+1∧(∀ r,zal ys r=(zan r && !zal zs r))∧Below w.heap.size w w':=by
 obtain ⟨⟨a,ca,b,cb,hb0,hp,ha⟩,hsp,hl⟩:=hs
 have HS:=kz hsp
 have HP:=kz hp
 have HBk:=kz hb0
 have d0:=(hb0.alloc (.cells #[.slice none 0 0,.slice none 0 0] 149)).cell 0
 have hzi:(zs.length:Int)≤100000:=by omega
 clear hsp hp ha hb0
 go_enter Tryz.func193,Tryz.ntmps193
 go_wp2
 go_loopw [4,14] (fun fv iv wr => ∃ (k:Nat) (out:List (Int × Int)) (f:Int),iv=.int .i64 k∧fv=.int .i64 f∧k≤zs.length∧(0≤f∧f≤1112064)∧Hz (zp5 zs k out f)∧Hz (Grows wr w.heap.size w.heap.size out)∧Hz (Below w.heap.size w wr)) (fun _ iv _ =>zs.length - (intOf iv).toNat)
 case atStart =>exact ⟨0,[],0,rfl,rfl,by omega,by omega,kz (zj4 (oz HS)),kz (zeY w _ rfl),kz ((Below.refl _ w).alloc (Nat.le_refl _) _)⟩
 case round =>
  obtain ⟨k,out,f,rfl,rfl,hk,hf,HI,HG,HB⟩:=hrel
  have hol:out.length≤1000000:=by have:=(oz HI).len;omega
  by_cases hkn:k < zs.length
  ·have hk1:(k:Int) < (zs.length:Int):=by omega
   have hk2:((k:Nat):Int).toNat=k:=by omega
   obtain ⟨x,hx⟩:∃ x,zs[k]?=some x:=⟨_,List.getElem?_eq_getElem hkn⟩
   have HI2:=kz (zle (oz HS) (oz HI) hx)
   have he:=zar ((oz HS).ends x (List.mem_of_getElem? hx)).1
   have r1:=zaz he.1.1 he.1.2.1
   have r2:=zaz he.2.1 he.2.2.1
   obtain ⟨g,o,rfl,hg,hc⟩:=oz HP (by omega)
   have c0:=((oz HB).cell (p:=⟨g,o+k*2,none⟩) hg).trans (hc k x hx).1
   have c1:=((oz HB).cell (p:=⟨g,o+k*2+1,none⟩) hg).trans (hc k x hx).2
   obtain ⟨lo,hi⟩:=x
   simp only at c0 c1 he r1 r2 HI2
   have b1:=Blk.new wr #[.int .i32 lo,.int .i32 hi] 113
   have q0:=b1.cell 0
   have HB1:=kz ((oz HB).alloc (oz HB).size (.cells #[.int .i32 lo,.int .i32 hi] 113))
   have HG1:=kz ((oz HG).below ((Below.refl _ wr).alloc (Nat.le_refl _) (.cells #[.int .i32 lo,.int .i32 hi] 113)))
   have HRk:=kz (fun w =>zc2 lo (by omega) (by omega) w)
   have HRh:=kz (fun w =>zc2 hi (by omega) (by omega) w)
   have HLR:=kz (zfr w.heap.size w.heap.size out f (zae lo) hol (oz HI).spread (by omega) (by omega) (by omega) _ (oz HG1) (oz HB1).size)
   clear b1 hc hx
   go_wp2_with fail
   refine (oz HRk _).mono ?_
   rintro e w5 ⟨rfl,rfl⟩
   go_wp2_with fail
   refine (oz HLR).mono ?_
   rintro e w6 ⟨⟨r,rfl⟩,hG,hb,hfr⟩
   have hbx:=zny (oz HG).1 hfr
   have x1:=hbx.cell 1
   have HG2:=kz hG
   have HB2:=kz ((oz HB1).trans hb)
   clear hG hb hfr hbx q0 c0 c1
   go_wp2_with fail
   refine (oz HRh _).mono ?_
   rintro e w7 ⟨rfl,rfl⟩
   go_wp2
   go_roundw
   case rel =>exact ⟨k+1,_,_,by congr 1,rfl,by omega,by omega,HI2,HG2,HB2⟩
   case measure =>simp [intOf];omega
  ·have hk1:¬ (k:Int) < (zs.length:Int):=by omega
   obtain rfl:k=zs.length:=by omega
   have HE:=kz (zm1 (oz HS) (oz HI))
   have HLR:=kz (zfr w.heap.size w.heap.size out f 1112064 hol (oz HI).spread (by omega) (by omega) (by omega) wr (oz HG) (oz HB).size)
   have HRk:=kz (fun w =>zc2 1114111 (by omega) (by omega) w)
   rw [show zae 1114111=1112063 by decide] at HRk
   go_wp2_with fail
   refine (oz HRk _).mono ?_
   rintro e w5 ⟨rfl,rfl⟩
   go_wp2_with fail
   refine (oz HLR).mono ?_
   rintro e w6 ⟨⟨r,rfl⟩,hG,hb,_⟩
   have HG2:=kz hG
   have HB2:=kz ((oz HB).trans hb)
   clear hG hb
   go_wp2
   go_ret
   exact ⟨w.heap.size,w.heap.size,_,rfl,Nat.le_refl _,(oz HG2).1,(oz HE).1,(oz HE).2.2,(oz HE).2.1,oz HB2⟩
structure zhH (zs ys:List (Int × Int)) (i j:Nat) (out:List (Int × Int)):Prop where
 spread:Spread out
 mem:∀ r,zal out r=true ↔ (zal (zs.take i) r=true∧zal ys r=true)∨(zal zs r=true∧zal (ys.take j) r=true)
 len:out.length≤i+j
theorem ziM (zs ys:List (Int × Int)):zhH zs ys 0 0 [] where
 spread:=⟨fun x h =>by simp at h,fun i j x y _ h =>by simp at h⟩
 mem r:=by simp [zal]
 len:=by simp
theorem zh3 {zs:List (Int × Int)} (hS:Spread zs) {i:Nat} {a:Int × Int} (ha:zs[i]?=some a) {r:Int} (h:zal zs r=true):zal (zs.take i) r=true∨zal [a] r=true∨a.2 < r:=by
 obtain ⟨⟨x,hx,p,q⟩,hr⟩:=(zay _ _).1 h
 obtain ⟨k,hk,rfl⟩:=List.mem_iff_getElem.1 hx
 rcases Nat.lt_trichotomy k i with c | c | c
 ·exact .inl ((zay _ _).2 ⟨⟨zs[k],List.mem_iff_getElem.2 ⟨k,by rw [List.length_take];have:=(List.getElem?_eq_some_iff.1 ha).1;omega,by simp⟩,p,q⟩,hr⟩)
 ·subst c
  rw [List.getElem?_eq_getElem hk] at ha
  cases ha
  exact .inr (.inl ((zay _ _).2 ⟨⟨_,by simp,p,q⟩,hr⟩))
 ·have:=hS.lt i k a zs[k] c ha (List.getElem?_eq_getElem hk)
  exact .inr (.inr (by omega))
theorem zkF {zs:List (Int × Int)} (hS:Spread zs) {i:Nat} {a:Int × Int} (ha:zs[i]?=some a) {r:Int} (h:zal (zs.take i) r=true):r < a.1:=by
 obtain ⟨⟨x,hx,p,q⟩,hr⟩:=(zay _ _).1 h
 obtain ⟨k,hk,e⟩:=List.mem_iff_getElem.1 hx
 rw [List.length_take] at hk
 have hx':zs[k]?=some x:=by rw [← e,List.getElem_take,List.getElem?_eq_getElem (by omega)]
 have:=hS.lt k i x a (by omega) hx' ha
 omega
theorem zeu (a:Int × Int) (r:Int):zal [a] r=true ↔ (a.1≤r∧r≤a.2)∧zan r=true:=by
 rw [zay]
 simp only [List.mem_singleton,exists_eq_left]
theorem zeR {zs:List (Int × Int)} {i:Nat} {a:Int × Int} (ha:zs[i]?=some a) (r:Int):zal (zs.take (i+1)) r=(zal (zs.take i) r || zal [a] r):=by rw [zdf ha,zbt]
theorem zgd {zs:List (Int × Int)} {i:Nat} {r:Int} (h:zal (zs.take i) r=true):zal zs r=true:=by
 obtain ⟨⟨x,hx,p⟩,hr⟩:=(zay _ _).1 h
 exact (zay _ _).2 ⟨⟨x,List.mem_of_mem_take hx,p⟩,hr⟩
theorem zem {zs:List (Int × Int)} {i:Nat} {a:Int × Int} (ha:zs[i]?=some a) {r:Int} (h:zal [a] r=true):zal zs r=true:=by
 obtain ⟨p,hr⟩:=(zeu a r).1 h
 exact (zay _ _).2 ⟨⟨a,List.mem_of_getElem? ha,p⟩,hr⟩
def zdN (a b:Int × Int):Int × Int:=(max a.1 b.1,min a.2 b.2)
theorem zjv (a b:Int × Int) (r:Int):zal [zdN a b] r=true ↔ zal [a] r=true∧zal [b] r=true:=by
 rw [zeu,zeu,zeu]
 unfold zdN
 simp only
 constructor
 ·rintro ⟨⟨p,q⟩,h⟩;exact ⟨⟨⟨by omega,by omega⟩,h⟩,⟨⟨by omega,by omega⟩,h⟩⟩
 ·rintro ⟨⟨⟨p,q⟩,h⟩,⟨⟨p',q'⟩,_⟩⟩;exact ⟨⟨by omega,by omega⟩,h⟩
theorem zlU {a b:Int × Int} (ha:zaW a=true) (hb:zaW b=true):zaW (zdN a b)=true:=by
 have p:=zba ha
 have q:=zba hb
 refine zhB ?_ ?_
 ·show zan (max a.1 b.1)=true
  rcases Int.le_total a.1 b.1 with c | c
  ·rw [Int.max_eq_right c];exact q.1
  ·rw [Int.max_eq_left c];exact p.1
 ·show zan (min a.2 b.2)=true
  rcases Int.le_total a.2 b.2 with c | c
  ·rw [Int.min_eq_left c];exact p.2
  ·rw [Int.min_eq_right c];exact q.2
def zgE (out:List (Int × Int)) (a b:Int × Int):List (Int × Int):=if (zdN a b).1≤(zdN a b).2 then zgR out (zdN a b) else out
theorem zge {zs ys:List (Int × Int)} (hS:Spread zs) (hY:Spread ys) {i j:Nat} {out:List (Int × Int)} {a b:Int × Int} (h:zhH zs ys i j out) (ha:zs[i]?=some a) (hb:ys[j]?=some b) :
  Spread (zgE out a b)∧(∀ r,zal (zgE out a b) r=true ↔ zal out r=true∨(zal [a] r=true∧zal [b] r=true))∧(zgE out a b).length≤out.length+1∧zaW (zdN a b)=true:=by
 have hae:=(hS.ends a (List.mem_of_getElem? ha)).1
 have hbe:=(hY.ends b (List.mem_of_getElem? hb)).1
 have he:=zlU hae hbe
 unfold zgE
 by_cases c:(zdN a b).1≤(zdN a b).2
 ·rw [if_pos c]
  have hle:∀ y ∈ out,y.1≤(zdN a b).1:=fun y hy =>by
   have p:=h.spread.ends y hy
   have hm:zal out y.1=true:=(zay _ _).2 ⟨⟨y,hy,by omega,p.2⟩,(zba p.1).1⟩
   show y.1≤max a.1 b.1
   rcases (h.mem y.1).1 hm with ⟨q,_⟩ | ⟨_,q⟩
   ·have:=zkF hS ha q;omega
   ·have:=zkF hY hb q;omega
  refine ⟨zcT h.spread he c hle,fun r =>?_,zev _ _,he⟩
  rw [zfR h.spread he c hle,Bool.or_eq_true,zjv]
 ·rw [if_neg c]
  refine ⟨h.spread,fun r =>?_,by omega,he⟩
  rw [← zjv,zeu]
  constructor
  ·exact .inl
  ·rintro (q | ⟨q,_⟩)
   ·exact q
   ·omega
theorem zj7 {zs ys:List (Int × Int)} (hS:Spread zs) (hY:Spread ys) {i j:Nat} {out:List (Int × Int)} {a b:Int × Int} (h:zhH zs ys i j out) (ha:zs[i]?=some a) (hb:ys[j]?=some b) (hlt:a.2 < b.2):zhH zs ys (i+1) j (zgE out a b):=by
 obtain ⟨p,q,l,_⟩:=zge hS hY h ha hb
 refine ⟨p,fun r =>?_,by have:=h.len;omega⟩
 rw [q r,h.mem r,zeR ha,Bool.or_eq_true]
 constructor
 ·rintro ((⟨x,y⟩ | ⟨x,y⟩) | ⟨x,y⟩)
  ·exact .inl ⟨.inl x,y⟩
  ·exact .inr ⟨x,y⟩
  ·exact .inl ⟨.inr x,zem hb y⟩
 ·rintro (⟨x | x,y⟩ | ⟨x,y⟩)
  ·exact .inl (.inl ⟨x,y⟩)
  ·rcases zh3 hY hb y with z | z | z
   ·exact .inl (.inr ⟨zem ha x,z⟩)
   ·exact .inr ⟨x,z⟩
   ·have:=((zeu a r).1 x).1;omega
  ·exact .inl (.inr ⟨x,y⟩)
theorem ziN {zs ys:List (Int × Int)} (hS:Spread zs) (hY:Spread ys) {i j:Nat} {out:List (Int × Int)} {a b:Int × Int} (h:zhH zs ys i j out) (ha:zs[i]?=some a) (hb:ys[j]?=some b) (hle:b.2≤a.2):zhH zs ys i (j+1) (zgE out a b):=by
 obtain ⟨p,q,l,_⟩:=zge hS hY h ha hb
 refine ⟨p,fun r =>?_,by have:=h.len;omega⟩
 rw [q r,h.mem r,zeR hb,Bool.or_eq_true]
 constructor
 ·rintro ((⟨x,y⟩ | ⟨x,y⟩) | ⟨x,y⟩)
  ·exact .inl ⟨x,y⟩
  ·exact .inr ⟨x,.inl y⟩
  ·exact .inr ⟨zem ha x,.inr y⟩
 ·rintro (⟨x,y⟩ | ⟨x,y | y⟩)
  ·exact .inl (.inl ⟨x,y⟩)
  ·exact .inl (.inr ⟨x,y⟩)
  ·rcases zh3 hS ha x with z | z | z
   ·exact .inl (.inl ⟨z,zem hb y⟩)
   ·exact .inr ⟨z,y⟩
   ·have:=((zeu b r).1 y).1;omega
theorem zh4 {zs ys:List (Int × Int)} {i j:Nat} {out:List (Int × Int)} (h:zhH zs ys i j out) (he:zs.length≤i∨ys.length≤j):∀ r,zal out r=(zal zs r && zal ys r):=fun r =>by
 rw [Bool.eq_iff_iff,h.mem r,Bool.and_eq_true]
 constructor
 ·rintro (⟨x,y⟩ | ⟨x,y⟩)
  ·exact ⟨zgd x,y⟩
  ·exact ⟨x,zgd y⟩
 ·rintro ⟨x,y⟩
  rcases he with e | e
  ·exact .inl ⟨by rw [List.take_of_length_le e];exact x,y⟩
  ·exact .inr ⟨x,by rw [List.take_of_length_le e];exact y⟩
theorem zgV {wr w5 w6:World} {B lo0 X:Nat} {zs:List (Int × Int)} {cs:Array Value} {t:TypeId} (hm:Made wr B lo0 zs) (hb:Below wr.heap.size wr w5) (hX:Blk w5 X cs t) (hge:wr.heap.size≤X) (hf:zjg w5 w6 B):Blk w6 X cs t:=by
 obtain ⟨va,vb,h1,h2,h3⟩:=hm.form
 have hlt:=h1.lt
 refine (hf X hX.lt (by omega) fun va' vb' hB =>?_).trans hX
 have e:=(show w5.heap[B]?=_ from h1.below hb h1.lt).symm.trans hB
 simp at e
 obtain ⟨rfl,rfl⟩:=e
 exact ⟨fun e =>by have:=(h2.lt _ e).2;omega,fun e =>by have:=(h3.lt _ e).2;omega⟩
theorem zhf (C:Nat) (w:World):Calls Tryz.prog 191 #[.pointer (some ⟨C,0,none⟩)] w fun e w' =>e=.returned (.pointer (some ⟨C,0,none⟩))∧w'=w:=by
 go_enter Tryz.func191,Tryz.ntmps191
 go_wp2
 go_ret
 exact ⟨rfl,rfl⟩
end Go.Proofs.YtmemedpoaocdkaaGreat
