/- Texts of this claim, one behind the other. -/
import Derived.Test.YtmemedpoaocdkaaGreatM3
import Derived.Test.YtmemedpoaocdkaaGreatM2
import Derived.Maps.OwnSet
import Derived.Lib.TrimUEq
import Derived.KernelRfl
/- cmp.Compare at runes, and the three comparisons that the sets hand to the library. -/
namespace Go.Proofs.YtmemedpoaocdkaaGreat
open Go.RowKit Go.Shelf
set_option linter.unusedVariables false

def zc3 (a b:Int):Int:=if a < b then -1 else if b < a then 1 else 0
theorem zm9 (a:Int) (w:World):Calls Tryz.prog 167 #[.int .i32 a] w fun e w' =>e=.returned (.bool false)∧w'=w:=by
 go_enter Tryz.func167,Tryz.ntmps167
 go_wp2
 go_ret
 exact ⟨rfl,rfl⟩
theorem zfw (a b:Int) (w:World):Calls Tryz.prog 97 #[.int .i32 a,.int .i32 b] w fun e w' =>e=.returned (.int .i64 (zc3 a b))∧w'=w:=by
 have HA:=kz (zm9 a w)
 have HB:=kz (zm9 b w)
 by_cases h1:a < b
 ·have h:zc3 a b = -1:=by unfold zc3;rw [if_pos h1]
  rw [h]
  clear h
  go_enter Tryz.func97,Tryz.ntmps97
  go_wp2_with fail
  refine (oz HA).mono ?_
  rintro e w2 ⟨rfl,rfl⟩
  go_wp2_with fail
  refine (oz HB).mono ?_
  rintro e w2 ⟨rfl,rfl⟩
  go_wp2
  go_ret
  exact ⟨rfl,rfl⟩
 ·by_cases h2:b < a
  ·have h:zc3 a b=1:=by unfold zc3;rw [if_neg h1,if_pos h2]
   rw [h]
   clear h
   go_enter Tryz.func97,Tryz.ntmps97
   go_wp2_with fail
   refine (oz HA).mono ?_
   rintro e w2 ⟨rfl,rfl⟩
   go_wp2_with fail
   refine (oz HB).mono ?_
   rintro e w2 ⟨rfl,rfl⟩
   go_wp2
   go_ret
   exact ⟨rfl,rfl⟩
  ·have h:zc3 a b=0:=by unfold zc3;rw [if_neg h1,if_neg h2]
   rw [h]
   clear h
   go_enter Tryz.func97,Tryz.ntmps97
   go_wp2_with fail
   refine (oz HA).mono ?_
   rintro e w2 ⟨rfl,rfl⟩
   go_wp2_with fail
   refine (oz HB).mono ?_
   rintro e w2 ⟨rfl,rfl⟩
   go_wp2
   go_ret
   exact ⟨rfl,rfl⟩

theorem znt (x:Int × Int) (r:Int) (w:World):Calls Tryz.prog 96 #[zn4 x,.int .i32 r] w fun e w' =>e=.returned (.int .i64 (zc3 x.2 r))∧Below w.heap.size w w':=by
 have HC:=kz (fun w =>zfw x.2 r w)
 obtain ⟨lo,hi⟩:=x
 simp only at HC
 go_enter Tryz.func96,Tryz.ntmps96
 go_wp2_with fail
 refine (oz HC _).mono ?_
 rintro e w2 ⟨rfl,rfl⟩
 go_wp2
 go_ret
 exact ⟨rfl,(Below.refl _ w).alloc (Nat.le_refl _) _⟩
theorem zio (x:Int × Int) (r:Int) (w:World):Calls Tryz.prog 218 #[zn4 x,.int .i32 r] w fun e w' =>e=.returned (.int .i64 (zc3 x.1 r))∧Below w.heap.size w w':=by
 have HC:=kz (fun w =>zfw x.1 r w)
 obtain ⟨lo,hi⟩:=x
 simp only at HC
 go_enter Tryz.func218,Tryz.ntmps218
 go_wp2_with fail
 refine (oz HC _).mono ?_
 rintro e w2 ⟨rfl,rfl⟩
 go_wp2
 go_ret
 exact ⟨rfl,(Below.refl _ w).alloc (Nat.le_refl _) _⟩


def Cut (key:Int × Int→Int) (zs:List (Int × Int)) (r:Int) (k:Nat):Prop:=k≤zs.length∧(∀ j x,j < k→zs[j]?=some x→key x < r)∧(∀ j x,k≤j→zs[j]?=some x→r≤key x)
theorem zp3 {a b:Int} (h:a < b):zc3 a b = -1:=by unfold zc3;rw [if_pos h]
set_option maxRecDepth 100000 in
set_option maxHeartbeats 4000000 in
theorem zlA (p:Option Addr) (cap:Nat) (zs:List (Int × Int)) (hz:zs.length≤1073741824) (r:Int) (hs:∀ (i j:Nat) (x y:Int × Int),i < j→zs[i]?=some x→zs[j]?=some y→x.2 < y.2) (w:World) (hr:RowP w p zs) :
  Calls Tryz.prog 95 #[.slice p zs.length cap,.int .i32 r,.func (.func 96) #[] #[]] w fun e w' => ∃ (k:Nat) (b:Bool),e=.returned (.tuple #[.int .i64 k,.bool b])∧Cut (fun x =>x.2) zs r k∧Below w.heap.size w w':=by
 have HR:=kz hr
 have HS:=kz hs
 have hzi:(zs.length:Int)≤1073741824:=by omega
 clear hr hs
 go_enter Tryz.func95,Tryz.ntmps95
 go_wp2
 go_loopw [9,10] (fun i j wr => ∃ a b:Nat,a≤b∧b≤zs.length∧i=.int .i64 a∧j=.int .i64 b∧Hz (∀ j x,j < a→zs[j]?=some x→x.2 < r)∧Hz (∀ j x,b≤j→zs[j]?=some x→r≤x.2)∧Hz (Below w.heap.size w wr)) (fun i j _ =>(intOf j).toNat - (intOf i).toNat)
 case atStart =>exact ⟨0,zs.length,by omega,Nat.le_refl _,rfl,rfl,kz (fun j x hj =>by omega),kz (fun j x hj hx =>by have:=(List.getElem?_eq_some_iff.1 hx).1;omega),kz (Below.refl _ _)⟩
 case round =>
  obtain ⟨a,b,hab,hb,rfl,rfl,H1,H2,HB⟩:=hrel
  by_cases hlt:a < b
  ·have h1:(a:Int) < (b:Int):=by omega
   obtain ⟨x,hx⟩:∃ x,zs[(a+b) / 2]?=some x:=⟨_,List.getElem?_eq_getElem (by omega)⟩
   obtain ⟨g,o,rfl,hg,hc⟩:=oz HR (by omega)
   have c0:=((oz HB).cell (p:=⟨g,o+(a+b) / 2*2,none⟩) hg).trans (hc _ x hx).1
   have c1:=((oz HB).cell (p:=⟨g,o+(a+b) / 2*2+1,none⟩) hg).trans (hc _ x hx).2
   have HN:=kz (fun w =>znt x r w)
   have HX:=kz hx
   clear hx hc
   by_cases hxn:x.2 < r
   ·rw [zp3 hxn] at HN
    have H1':Hz (∀ j y,j < (a+b) / 2+1→zs[j]?=some y→y.2 < r):=kz (fun j y hj hy =>by
     by_cases e:j=(a+b) / 2
     ·subst e;rw [oz HX] at hy;cases hy;exact hxn
     ·have:=oz HS j ((a+b) / 2) y x (by omega) hy (oz HX);omega)
    clear hxn
    obtain ⟨lo,hi⟩:=x
    simp only at c0 c1
    go_wp2_with fail
    refine (oz HN _).mono ?_
    rintro e w2 ⟨rfl,hb2⟩
    have HB2:=kz ((oz HB).trans (hb2.mono (oz HB).size))
    clear hb2
    go_wp2
    go_roundw
    case rel =>
     refine ⟨(a+b) / 2+1,b,by omega,hb, ?_,rfl,H1',H2,HB2⟩
     congr 1
    case measure =>simp [intOf];omega
   ·have H2':Hz (∀ j y,(a+b) / 2≤j→zs[j]?=some y→r≤y.2):=kz (fun j y hj hy =>by
     by_cases e:j=(a+b) / 2
     ·subst e;rw [oz HX] at hy;cases hy;omega
     ·have:=oz HS ((a+b) / 2) j x y (by omega) (oz HX) hy;omega)
    have hq:0≤zc3 x.2 r:=by unfold zc3;rw [if_neg hxn];split <;> omega
    generalize zc3 x.2 r=q at HN hq
    have hq1:¬ q < 0:=by omega
    clear hxn
    obtain ⟨lo,hi⟩:=x
    simp only at c0 c1
    go_wp2_with fail
    refine (oz HN _).mono ?_
    rintro e w2 ⟨rfl,hb2⟩
    have HB2:=kz ((oz HB).trans (hb2.mono (oz HB).size))
    clear hb2
    go_wp2
    go_roundw
    case rel =>
     refine ⟨a,(a+b) / 2,by omega,by omega,rfl, ?_,H1,H2',HB2⟩
     congr 1
    case measure =>simp [intOf];omega
  ·have h1:¬ (a:Int) < (b:Int):=by omega
   obtain rfl:a=b:=by omega
   have HK:Hz (Cut (fun x =>x.2) zs r a):=kz ⟨hb,oz H1,oz H2⟩
   by_cases hal:a < zs.length
   ·obtain ⟨x,hx⟩:∃ x,zs[a]?=some x:=⟨_,List.getElem?_eq_getElem hal⟩
    obtain ⟨g,o,rfl,hg,hc⟩:=oz HR (by omega)
    have c0:=((oz HB).cell (p:=⟨g,o+a*2,none⟩) hg).trans (hc _ x hx).1
    have c1:=((oz HB).cell (p:=⟨g,o+a*2+1,none⟩) hg).trans (hc _ x hx).2
    have HN:=kz (fun w =>znt x r w)
    have h2:(a:Int) < (zs.length:Int):=by omega
    have h3:((a:Nat):Int).toNat=a:=by omega
    clear hx hc
    generalize zc3 x.2 r=q at HN
    obtain ⟨lo,hi⟩:=x
    simp only at c0 c1
    go_wp2_with fail
    refine (oz HN _).mono ?_
    rintro e w2 ⟨rfl,hb2⟩
    have HB2:=kz ((oz HB).trans (hb2.mono (oz HB).size))
    clear hb2
    by_cases hq:q=0
    ·subst hq
     go_wp2
     go_ret2
     first | exact ⟨a,_,rfl,oz HK,oz HB2⟩ | exact ⟨oz HK,oz HB2⟩
    ·have hqe:(q == 0)=false:=beq_eq_false_iff_ne.2 hq
     go_wp2
     go_ret2
     first | exact ⟨a,_,rfl,oz HK,oz HB2⟩ | exact ⟨oz HK,oz HB2⟩
   ·have h2:¬ (a:Int) < (zs.length:Int):=by omega
    go_wp2
    go_ret2
    first | exact ⟨a,_,rfl,oz HK,oz HB⟩ | exact ⟨oz HK,oz HB⟩ | exact ⟨a,rfl,oz HK,oz HB⟩ | exact ⟨a,⟨_,rfl⟩,oz HK,oz HB⟩ | exact ⟨a,false,rfl,oz HK,oz HB⟩ | exact ⟨a,by simp;exact ⟨oz HK,oz HB⟩⟩

set_option maxRecDepth 100000 in
set_option maxHeartbeats 4000000 in
theorem zlz (p:Option Addr) (cap:Nat) (zs:List (Int × Int)) (hz:zs.length≤1073741824) (r:Int) (hs:∀ (i j:Nat) (x y:Int × Int),i < j→zs[i]?=some x→zs[j]?=some y→x.1 < y.1) (w:World) (hr:RowP w p zs) :
  Calls Tryz.prog 95 #[.slice p zs.length cap,.int .i32 r,.func (.func 218) #[] #[]] w fun e w' => ∃ (k:Nat) (b:Bool),e=.returned (.tuple #[.int .i64 k,.bool b])∧Cut (fun x =>x.1) zs r k∧Below w.heap.size w w':=by
 have HR:=kz hr
 have HS:=kz hs
 have hzi:(zs.length:Int)≤1073741824:=by omega
 clear hr hs
 go_enter Tryz.func95,Tryz.ntmps95
 go_wp2
 go_loopw [9,10] (fun i j wr => ∃ a b:Nat,a≤b∧b≤zs.length∧i=.int .i64 a∧j=.int .i64 b∧Hz (∀ j x,j < a→zs[j]?=some x→x.1 < r)∧Hz (∀ j x,b≤j→zs[j]?=some x→r≤x.1)∧Hz (Below w.heap.size w wr)) (fun i j _ =>(intOf j).toNat - (intOf i).toNat)
 case atStart =>exact ⟨0,zs.length,by omega,Nat.le_refl _,rfl,rfl,kz (fun j x hj =>by omega),kz (fun j x hj hx =>by have:=(List.getElem?_eq_some_iff.1 hx).1;omega),kz (Below.refl _ _)⟩
 case round =>
  obtain ⟨a,b,hab,hb,rfl,rfl,H1,H2,HB⟩:=hrel
  by_cases hlt:a < b
  ·have h1:(a:Int) < (b:Int):=by omega
   obtain ⟨x,hx⟩:∃ x,zs[(a+b) / 2]?=some x:=⟨_,List.getElem?_eq_getElem (by omega)⟩
   obtain ⟨g,o,rfl,hg,hc⟩:=oz HR (by omega)
   have c0:=((oz HB).cell (p:=⟨g,o+(a+b) / 2*2,none⟩) hg).trans (hc _ x hx).1
   have c1:=((oz HB).cell (p:=⟨g,o+(a+b) / 2*2+1,none⟩) hg).trans (hc _ x hx).2
   have HN:=kz (fun w =>zio x r w)
   have HX:=kz hx
   clear hx hc
   by_cases hxn:x.1 < r
   ·rw [zp3 hxn] at HN
    have H1':Hz (∀ j y,j < (a+b) / 2+1→zs[j]?=some y→y.1 < r):=kz (fun j y hj hy =>by
     by_cases e:j=(a+b) / 2
     ·subst e;rw [oz HX] at hy;cases hy;exact hxn
     ·have:=oz HS j ((a+b) / 2) y x (by omega) hy (oz HX);omega)
    clear hxn
    obtain ⟨lo,hi⟩:=x
    simp only at c0 c1
    go_wp2_with fail
    refine (oz HN _).mono ?_
    rintro e w2 ⟨rfl,hb2⟩
    have HB2:=kz ((oz HB).trans (hb2.mono (oz HB).size))
    clear hb2
    go_wp2
    go_roundw
    case rel =>
     refine ⟨(a+b) / 2+1,b,by omega,hb, ?_,rfl,H1',H2,HB2⟩
     congr 1
    case measure =>simp [intOf];omega
   ·have H2':Hz (∀ j y,(a+b) / 2≤j→zs[j]?=some y→r≤y.1):=kz (fun j y hj hy =>by
     by_cases e:j=(a+b) / 2
     ·subst e;rw [oz HX] at hy;cases hy;omega
     ·have:=oz HS ((a+b) / 2) j x y (by omega) (oz HX) hy;omega)
    have hq:0≤zc3 x.1 r:=by unfold zc3;rw [if_neg hxn];split <;> omega
    generalize zc3 x.1 r=q at HN hq
    have hq1:¬ q < 0:=by omega
    clear hxn
    obtain ⟨lo,hi⟩:=x
    simp only at c0 c1
    go_wp2_with fail
    refine (oz HN _).mono ?_
    rintro e w2 ⟨rfl,hb2⟩
    have HB2:=kz ((oz HB).trans (hb2.mono (oz HB).size))
    clear hb2
    go_wp2
    go_roundw
    case rel =>
     refine ⟨a,(a+b) / 2,by omega,by omega,rfl, ?_,H1,H2',HB2⟩
     congr 1
    case measure =>simp [intOf];omega
  ·have h1:¬ (a:Int) < (b:Int):=by omega
   obtain rfl:a=b:=by omega
   have HK:Hz (Cut (fun x =>x.1) zs r a):=kz ⟨hb,oz H1,oz H2⟩
   by_cases hal:a < zs.length
   ·obtain ⟨x,hx⟩:∃ x,zs[a]?=some x:=⟨_,List.getElem?_eq_getElem hal⟩
    obtain ⟨g,o,rfl,hg,hc⟩:=oz HR (by omega)
    have c0:=((oz HB).cell (p:=⟨g,o+a*2,none⟩) hg).trans (hc _ x hx).1
    have c1:=((oz HB).cell (p:=⟨g,o+a*2+1,none⟩) hg).trans (hc _ x hx).2
    have HN:=kz (fun w =>zio x r w)
    have h2:(a:Int) < (zs.length:Int):=by omega
    have h3:((a:Nat):Int).toNat=a:=by omega
    clear hx hc
    generalize zc3 x.1 r=q at HN
    obtain ⟨lo,hi⟩:=x
    simp only at c0 c1
    go_wp2_with fail
    refine (oz HN _).mono ?_
    rintro e w2 ⟨rfl,hb2⟩
    have HB2:=kz ((oz HB).trans (hb2.mono (oz HB).size))
    clear hb2
    by_cases hq:q=0
    ·subst hq
     go_wp2
     go_ret2
     first | exact ⟨a,_,rfl,oz HK,oz HB2⟩ | exact ⟨oz HK,oz HB2⟩
    ·have hqe:(q == 0)=false:=beq_eq_false_iff_ne.2 hq
     go_wp2
     go_ret2
     first | exact ⟨a,_,rfl,oz HK,oz HB2⟩ | exact ⟨oz HK,oz HB2⟩
   ·have h2:¬ (a:Int) < (zs.length:Int):=by omega
    go_wp2
    go_ret2
    first | exact ⟨a,_,rfl,oz HK,oz HB⟩ | exact ⟨oz HK,oz HB⟩ | exact ⟨a,rfl,oz HK,oz HB⟩ | exact ⟨a,⟨_,rfl⟩,oz HK,oz HB⟩ | exact ⟨a,false,rfl,oz HK,oz HB⟩ | exact ⟨a,by simp;exact ⟨oz HK,oz HB⟩⟩


def zaN (x:Int × Int):Int:=zae x.2+1 - zae x.1
def total:List (Int × Int)→Int
 | [] =>0
 | x::zs =>zaN x+total zs
structure Spread (zs:List (Int × Int)):Prop where
 ends:∀ x ∈ zs,za8 x=true∧x.1≤x.2
 apart:∀ (i j:Nat) (x y:Int × Int),i < j→zs[i]?=some x→zs[j]?=some y→zae x.2+1 < zae y.1
theorem za3 {n:Int} (h:zaq n=true):0≤n∧n≤1114111∧(n < 55296∨57343 < n):=by
 unfold zaq at h
 exact of_decide_eq_true h
theorem zas {x:Int × Int} (h:za8 x=true):(0≤x.1∧x.1≤1114111∧(x.1 < 55296∨57343 < x.1))∧(0≤x.2∧x.2≤1114111∧(x.2 < 55296∨57343 < x.2)):=by
 unfold za8 at h
 rw [Bool.and_eq_true] at h
 exact ⟨za3 h.1,za3 h.2⟩
theorem zhf {a b:Int} (ha:a < 55296∨57343 < a) (hb:b < 55296∨57343 < b):zae a < zae b ↔ a < b:=by
 unfold zae
 split <;> split <;> (try split) <;> (try split) <;> omega
theorem Spread.lt {zs:List (Int × Int)} (h:Spread zs) (i j:Nat) (x y:Int × Int) (hij:i < j) (hx:zs[i]?=some x) (hy:zs[j]?=some y):x.2 < y.1:=by
 have a:=zas (h.ends x (List.mem_of_getElem? hx)).1
 have b:=zas (h.ends y (List.mem_of_getElem? hy)).1
 have:=h.apart i j x y hij hx hy
 exact (zhf a.2.2.2 b.1.2.2).1 (by omega)
theorem Spread.los {zs:List (Int × Int)} (h:Spread zs) (i j:Nat) (x y:Int × Int) (hij:i < j) (hx:zs[i]?=some x) (hy:zs[j]?=some y):x.1 < y.1:=by
 have:=h.lt i j x y hij hx hy
 have:=(h.ends x (List.mem_of_getElem? hx)).2
 omega
theorem Spread.his {zs:List (Int × Int)} (h:Spread zs) (i j:Nat) (x y:Int × Int) (hij:i < j) (hx:zs[i]?=some x) (hy:zs[j]?=some y):x.2 < y.2:=by
 have:=h.lt i j x y hij hx hy
 have:=(h.ends y (List.mem_of_getElem? hy)).2
 omega
theorem zaF {a:Int} (h0:0≤a) (h1:a≤1114111):0≤zae a∧zae a≤1112063:=by
 unfold zae
 split <;> (try split) <;> omega
def RowA (W:World) (a:Option Addr) (zs:List (Int × Int)):Prop:=0 < zs.length→∃ g o,a=some ⟨g,o,none⟩∧g < W.heap.size∧∀ j,j < zs.length→W.cell? ⟨g,o+j,none⟩=some (.int .i64 (total (zs.take j)))
theorem RowA.below {W W':World} {a:Option Addr} {zs:List (Int × Int)} (h:RowA W a zs) (hb:Below W.heap.size W W'):RowA W' a zs:=fun h0 =>by
 obtain ⟨g,o,ha,hg,hc⟩:=h h0
 have:=hb.size
 exact ⟨g,o,ha,by omega,fun j hj =>(hb.cell (p:=⟨g,o+j,none⟩) hg).trans (hc j hj)⟩
theorem zdj {zs:List (Int × Int)} (h:∀ x ∈ zs,za8 x=true∧x.1≤x.2):0≤total zs∧total zs≤1112064*zs.length:=by
 induction zs with
 | nil =>simp [total]
 | cons x zs ih =>
  have:=ih fun y hy =>h y (List.mem_cons_of_mem _ hy)
  have hx:=h x List.mem_cons_self
  have e:=zas hx.1
  have r1:=zaF e.1.1 e.1.2.1
  have r2:=zaF e.2.1 e.2.2.1
  have:=(zhf e.2.2.2 e.1.2.2)
  simp only [total,zaN,List.length_cons]
  omega
def zjM (zs:List (Int × Int)) (r:Int):Nat→Int
 | 0 =>0
 | k+1 =>total (zs.take k)+min (zae r) (zae (zs.getD k (0,0)).2+1) - zae (zs.getD k (0,0)).1
theorem ze6 (zs:List (Int × Int)) (x:Int × Int):total (zs++[x])=total zs+zaN x:=by
 induction zs with
 | nil =>simp [total]
 | cons y zs ih =>simp only [List.cons_append,total,ih];omega
theorem zmf {zs:List (Int × Int)} (h:Spread zs):zjM zs 1114112 zs.length=total zs:=by
 rcases List.eq_nil_or_concat zs with rfl | ⟨ys,x,rfl⟩
 ·rfl
 ·have hx:=h.ends x (by simp)
  have e:=zas hx.1
  have r2:=zaF e.2.1 e.2.2.1
  have hr:zae 1114112=1112064:=by decide
  rw [List.concat_eq_append,List.length_append,List.length_singleton,ze6]
  show total ((ys++[x]).take ys.length)+min (zae 1114112) (zae ((ys++[x]).getD ys.length (0,0)).2+1) - zae ((ys++[x]).getD ys.length (0,0)).1=_
  have hg:(ys++[x]).getD ys.length (0,0)=x:=by simp [List.getD]
  rw [List.take_left' rfl,hg,hr]
  unfold zaN
  omega
structure SetAt (W:World) (B:Nat) (zs:List (Int × Int)):Prop where
 form:∃ a ca b cb,Blk W B #[.slice a zs.length ca,.slice b zs.length cb] 149∧RowP W a zs∧RowA W b zs
 spread:Spread zs
 len:zs.length≤1112064
theorem SetAt.below {W W':World} {B:Nat} {zs:List (Int × Int)} (h:SetAt W B zs) (hb:Below W.heap.size W W'):SetAt W' B zs:=by
 obtain ⟨⟨a,ca,b,cb,h1,h2,h3⟩,hs,hl⟩:=h
 exact ⟨⟨a,ca,b,cb,h1.below hb h1.lt,h2.below hb,h3.below hb⟩,hs,hl⟩

set_option maxRecDepth 100000 in
set_option maxHeartbeats 4000000 in
theorem zjL (B:Nat) (zs:List (Int × Int)) (r:Int) (h0 : -2147483648≤r) (h1:r≤2147483647) (w:World) (hs:SetAt w B zs) :
  Calls Tryz.prog 205 #[.pointer (some ⟨B,0,none⟩),.int .i32 r] w fun e w' => ∃ k,e=.returned (.int .i64 (zjM zs r k))∧Cut (fun x =>x.1) zs r k∧Below w.heap.size w w':=by
 obtain ⟨⟨a,ca,b,cb,hb0,hp,ha⟩,hsp,hl⟩:=hs
 have d0:=hb0.cell 0
 have HQ:=kz (fun w hr =>zlz a ca zs (by omega) r (fun i j x y =>hsp.los i j x y) w hr)
 have HP:=kz hp
 have HA:=kz ha
 have HBk:=kz hb0
 have HS:=kz hsp
 clear hp ha hsp hb0
 go_enter Tryz.func205,Tryz.ntmps205
 go_wp2_with fail
 refine (oz HQ _ (oz HP)).mono ?_
 rintro e w2 ⟨k,bb,rfl,hcut,hb⟩
 have HB:=kz hb
 have HC:=kz hcut
 have e0:=((oz HBk).below hb (oz HBk).lt).cell 0
 have e1:=((oz HBk).below hb (oz HBk).lt).cell 1
 have HP2:=kz ((oz HP).below hb)
 have HA2:=kz ((oz HA).below hb)
 have hk:=hcut.1
 clear hb hcut
 cases k with
 | zero =>
  go_wp2
  go_ret
  exact ⟨0,rfl,oz HC,oz HB⟩
 | succ m =>
  obtain ⟨x,hx⟩:∃ x,zs[m]?=some x:=⟨_,List.getElem?_eq_getElem (by omega)⟩
  obtain ⟨g,o,rfl,hg,hc⟩:=oz HP2 (by omega)
  obtain ⟨g',o',rfl,hg',hc'⟩:=oz HA2 (by omega)
  have c0:=(hc m x hx).1
  have c1:=(hc m x hx).2
  have c2:=hc' m (by omega)
  have hgd:zs.getD m (0,0)=x:=by simp [List.getD,hx]
  have hex:=(oz HS).ends x (List.mem_of_getElem? hx)
  have hee:=zas hex.1
  have r1:=zaF hee.1.1 hee.1.2.1
  have r2:=zaF hee.2.1 hee.2.2.1
  have htb:=zdj (zs:=zs.take m) (fun y hy =>(oz HS).ends y (List.mem_of_mem_take hy))
  have hlt:(zs.take m).length≤1112064:=by rw [List.length_take];omega
  have HV:Hz (zjM zs r (m+1)=total (zs.take m)+min (zae r) (zae x.2+1) - zae x.1):=kz (by show total (zs.take m)+min (zae r) (zae (zs.getD m (0,0)).2+1) - zae (zs.getD m (0,0)).1=_;rw [hgd])
  have hrr : -2147483648≤zae r∧zae r≤2147483647:=by unfold zae;split <;> (try split) <;> omega
  have hlo:0≤x.1∧x.1≤1114111:=⟨hee.1.1,hee.1.2.1⟩
  have hhi:0≤x.2∧x.2≤1114111:=⟨hee.2.1,hee.2.2.1⟩
  generalize total (zs.take m)=tt at c2 htb HV
  have htt:0≤tt∧tt≤1236686340096:=by have:=htb.1;have:=htb.2;omega
  clear hc hc' hgd hex hee htb hx
  obtain ⟨lo,hi⟩:=x
  simp only at c0 c1 HV r1 r2 hlo hhi
  have hm1:((m+1:Nat):Int) - 1=(m:Int):=by omega
  have hm2:((m:Nat):Int).toNat=m:=by omega
  have hm3:(m:Int) < (zs.length:Int):=by omega
  have b1:=Blk.new w2 #[.int .i32 lo,.int .i32 hi] 113
  have q0:=b1.cell 0
  have q1:=b1.cell 1
  have HB1:=kz ((oz HB).alloc (oz HB).size (.cells #[.int .i32 lo,.int .i32 hi] 113))
  have f1:(w2.alloc (.cells #[.int .i32 lo,.int .i32 hi] 113)).cell? ⟨B,1,none⟩=some (.slice (some ⟨g',o',none⟩) zs.length cb):=(((Below.refl _ w2).alloc (Nat.le_refl _) _).cell (p:=⟨B,1,none⟩) ((oz HBk).below (oz HB) (oz HBk).lt).lt).trans e1
  have f2:=(((Below.refl _ w2).alloc (Nat.le_refl _) (.cells #[.int .i32 lo,.int .i32 hi] 113)).cell (p:=⟨g',o' + m,none⟩) hg').trans c2
  clear b1
  go_wp2_with fail
  clear e0 e1 c0 c1 c2 d0 HP HA HP2 HA2 hg hg' HBk HS HQ HB
  go_quiet ((go_at_call 202;exact Calls.quiet_of_same (zdE _ (by omega) (by omega) _)))
  go_wp2
  all_goals
   go_ret
   first
    | exact ⟨m+1,by rw [oz HV,show min (zae r) (zae hi+1)=zae hi+1 by omega];rfl,oz HC,below_drewN (oz HB1) _⟩
    | exact ⟨m+1,by rw [oz HV,show min (zae r) (zae hi+1)=zae r by omega];rfl,oz HC,below_drewN (oz HB1) _⟩
    | exact ⟨m+1,by rw [oz HV,Int.min_def];rfl,oz HC,below_drewN (oz HB1) _⟩

set_option maxRecDepth 100000 in
theorem zfD (B:Nat) (zs:List (Int × Int)) (w:World) (hs:SetAt w B zs) :
  Calls Tryz.prog 194 #[.pointer (some ⟨B,0,none⟩)] w fun e w' =>e=.returned (.int .i64 (total zs))∧Below w.heap.size w w':=by
 have HS:=kz hs.spread
 have HQ:=kz (zjL B zs 1114112 (by decide) (by decide) w hs)
 have HT:Hz (∀ k,Cut (fun x =>x.1) zs 1114112 k→zjM zs 1114112 k=total zs):=kz (fun k hk =>by
  have hkl:k=zs.length:=by
   by_cases e:k=zs.length
   ·exact e
   ·have h1:=hk.1
    obtain ⟨x,hx⟩:∃ x,zs[k]?=some x:=⟨_,List.getElem?_eq_getElem (by omega)⟩
    have:(1114112:Int)≤x.1:=hk.2.2 k x (Nat.le_refl _) hx
    have:=(zas ((oz HS).ends x (List.mem_of_getElem? hx)).1).1.2.1
    omega
  subst hkl
  exact zmf (oz HS))
 clear hs
 go_enter Tryz.func194,Tryz.ntmps194
 go_wp2_with fail
 refine (oz HQ).mono ?_
 rintro e w2 ⟨k,rfl,hc,hb⟩
 rw [oz HT k hc]
 have HB:=kz hb
 clear hb hc
 go_wp2
 go_ret
 exact ⟨rfl,oz HB⟩

def zan (zs:List (Int × Int)) (r:Int):Bool:=zs.any (fun x =>decide (x.1≤r∧r≤x.2)) && zaq r
theorem zqH {zs:List (Int × Int)} (h:Spread zs) {r:Int} {k:Nat} (hc:Cut (fun x =>x.2) zs r k):zs.any (fun x =>decide (x.1≤r∧r≤x.2))=match zs[k]? with
  | some x =>decide (x.1≤r)
  | none =>false:=by
 obtain ⟨h1,h2,h3⟩:=hc
 cases hk:zs[k]? with
 | none =>
  rw [List.any_eq_false]
  intro x hx
  obtain ⟨i,hi,rfl⟩:=List.mem_iff_getElem.1 hx
  have hkl:=List.getElem?_eq_none_iff.1 hk
  have:zs[i].2 < r:=h2 i _ (by omega) (List.getElem?_eq_getElem hi)
  simp;omega
 | some y =>
  have hy:r≤y.2:=h3 k y (Nat.le_refl _) hk
  by_cases hl:y.1≤r
  ·show _=decide (y.1≤r)
   rw [decide_eq_true hl,List.any_eq_true]
   exact ⟨y,List.mem_of_getElem? hk,decide_eq_true ⟨hl,hy⟩⟩
  ·show _=decide (y.1≤r)
   rw [decide_eq_false hl,List.any_eq_false]
   intro x hx
   obtain ⟨i,hi,rfl⟩:=List.mem_iff_getElem.1 hx
   have hxe:=List.getElem?_eq_getElem hi
   by_cases h4:i < k
   ·have:zs[i].2 < r:=h2 i _ h4 hxe
    simp;omega
   ·by_cases h5:i=k
    ·subst h5
     rw [hxe] at hk
     cases hk
     simp;omega
    ·have:=h.lt k i y zs[i] (by omega) hk hxe
     have:=(h.ends y (List.mem_of_getElem? hk)).2
     simp;omega

set_option maxRecDepth 100000 in
set_option maxHeartbeats 4000000 in
theorem zk8 (B:Nat) (zs:List (Int × Int)) (r:Int) (w:World) (hs:SetAt w B zs) :
  Calls Tryz.prog 65 #[.pointer (some ⟨B,0,none⟩),.int .i32 r] w fun e w' =>e=.returned (.bool (zan zs r))∧Below w.heap.size w w':=by
 obtain ⟨⟨a,ca,b,cb,hb0,hp,ha⟩,hsp,hl⟩:=hs
 have d0:=hb0.cell 0
 have HQ:=kz (fun w hr =>zlA a ca zs (by omega) r (fun i j x y =>hsp.his i j x y) w hr)
 have HP:=kz hp
 have HBk:=kz hb0
 have HS:=kz hsp
 have hwr:=zdd r
 clear hp ha hsp hb0
 go_enter Tryz.func65,Tryz.ntmps65
 go_wp2_with fail
 refine (oz HQ _ (oz HP)).mono ?_
 rintro e w2 ⟨k,bb,rfl,hcut,hb⟩
 have HB:=kz hb
 have hmc:=zqH (oz HS) hcut
 have e0:=((oz HBk).below hb (oz HBk).lt).cell 0
 have HP2:=kz ((oz HP).below hb)
 have hk:=hcut.1
 have HV:Hz (zan zs r=(match zs[k]? with | some x =>decide (x.1≤r) | none =>false && zaq r))∨True := .inr trivial
 clear hb hcut HV
 by_cases hkn:k < zs.length
 ·obtain ⟨x,hx⟩:∃ x,zs[k]?=some x:=⟨_,List.getElem?_eq_getElem hkn⟩
  obtain ⟨g,o,rfl,hg,hc⟩:=oz HP2 (by omega)
  have c0:=(hc k x hx).1
  have c1:=(hc k x hx).2
  rw [hx] at hmc
  have hk1:(k:Int) < (zs.length:Int):=by omega
  have hk2:((k:Nat):Int).toNat=k:=by omega
  obtain ⟨lo,hi⟩:=x
  simp only at c0 c1 hmc
  clear hc hx
  by_cases hlr:lo≤r
  ·have HV:Hz (zan zs r=zaq r):=kz (by unfold zan;rw [hmc,decide_eq_true hlr];rfl)
   cases hru:zaq r with
   | true =>
    rw [hru] at HV hwr
    have hw0:(zaA r == 0)=false:=hwr
    have hw1:(zaA r != 0)=true:=by unfold bne;rw [hw0];rfl
    clear hmc hwr hru
    go_wp2_with (go_at_call 66;refine (zbF _ _).mono ?_;rintro e w' ⟨rfl,rfl⟩)
    go_ret
    exact ⟨by rw [oz HV];rfl,oz HB⟩
   | false =>
    rw [hru] at HV hwr
    have hw0:(zaA r == 0)=true:=hwr
    have hw1:(zaA r != 0)=false:=by unfold bne;rw [hw0];rfl
    clear hmc hwr hru
    go_wp2_with (go_at_call 66;refine (zbF _ _).mono ?_;rintro e w' ⟨rfl,rfl⟩)
    go_ret
    exact ⟨by rw [oz HV];rfl,oz HB⟩
  ·have HV:Hz (zan zs r=false):=kz (by unfold zan;rw [hmc,decide_eq_false hlr];rfl)
   clear hmc hwr
   go_wp2_with (go_at_call 66;refine (zbF _ _).mono ?_;rintro e w' ⟨rfl,rfl⟩)
   go_ret
   exact ⟨by rw [oz HV];rfl,oz HB⟩
 ·have hk1:¬ (k:Int) < (zs.length:Int):=by omega
  rw [List.getElem?_eq_none (by omega)] at hmc
  have HV:Hz (zan zs r=false):=kz (by unfold zan;rw [hmc];rfl)
  clear hmc hwr
  go_wp2
  go_ret
  exact ⟨by rw [oz HV];rfl,oz HB⟩
end Go.Proofs.YtmemedpoaocdkaaGreat
namespace Go.Proofs.YtmemedpoaocdkaaGreat
open Go.RowKit Go.Shelf Go.Maps
set_option linter.unusedVariables false
end Go.Proofs.YtmemedpoaocdkaaGreat
namespace Go.Proofs.YtmemedpoaocdkaaGreat
open Go.RowKit Go.Shelf
set_option linter.unusedVariables false
end Go.Proofs.YtmemedpoaocdkaaGreat
namespace Go.Proofs.YtmemedpoaocdkaaGreat
open Go.RowKit Go.Shelf
open Go.Lib (decodeN decode_at)
set_option linter.unusedVariables false

theorem zhc (s:ByteArray) (i:Nat):zaA ((rn s i:Nat):Int)≠0:=by
 have t:=ze5 s i
 have h1:=t.small
 have h2:=t.nosur
 unfold zaA
 simp only [rn]
 rw [if_neg (by omega)]
 repeat' split
 all_goals decide
end Go.Proofs.YtmemedpoaocdkaaGreat
namespace Go.Proofs.YtmemedpoaocdkaaGreat
open Go.RowKit Go.Shelf
set_option linter.unusedVariables false
end Go.Proofs.YtmemedpoaocdkaaGreat
namespace Go.Proofs.YtmemedpoaocdkaaGreat
open Go.RowKit Go.Shelf
open Go.Lib (decode_at)
set_option linter.unusedVariables false
end Go.Proofs.YtmemedpoaocdkaaGreat
namespace Go.Proofs.YtmemedpoaocdkaaGreat
open Go.RowKit Go.Shelf
set_option linter.unusedVariables false
theorem zgp (s:ByteArray):∀ f i,Lib.validGoD f (s.data.toList.drop i)=true ↔ ∀ p ∈ zak s f i,zeC s p=false
 | 0,i =>⟨fun _ p hp =>(by cases hp),fun _ =>rfl⟩
 | f+1,i =>by
  have hl:(s.data.toList.drop i).length=s.size - i:=by rw [List.length_drop,Array.length_toList];rfl
  unfold Lib.validGoD
  by_cases hi:i < s.size
  ·have hne:¬ s.data.toList.drop i=[]:=fun e =>by rw [e] at hl;have:([] : List UInt8).length=0:=rfl;omega
   rw [if_neg hne,zar s f i hi,Lib.decodeL_drop,List.drop_drop]
   by_cases hb:rn s i=65533∧wd s i=1
   ·rw [if_pos hb]
    exact ⟨fun h =>(by cases h),fun h =>by have:=h i (List.mem_cons_self ..);unfold zeC at this;rw [decide_eq_true hb] at this;cases this⟩
   ·rw [if_neg hb]
    have ih:=zgp s f (i+wd s i)
    refine ih.trans ⟨fun h p hp =>?_,fun h p hp =>h p (List.mem_cons_of_mem _ hp)⟩
    rcases List.mem_cons.1 hp with rfl | hp
    ·unfold zeC;exact decide_eq_false hb
    ·exact h p hp
  ·have hne:s.data.toList.drop i=[]:=List.length_eq_zero_iff.1 (by omega)
   rw [if_pos hne,zay s _ i hi]
   exact ⟨fun _ p hp =>(by cases hp),fun _ =>rfl⟩
end Go.Proofs.YtmemedpoaocdkaaGreat
