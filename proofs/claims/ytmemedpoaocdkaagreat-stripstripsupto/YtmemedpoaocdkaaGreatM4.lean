/- Texts of this claim, one behind the other. -/
import Derived.Test.YtmemedpoaocdkaaGreatM3
import Derived.Maps.OwnSet
import Derived.Lib.TrimUEq
import Derived.KernelRfl
import Derived.Deep.RegionHeld3
namespace Go.Proofs.YtmemedpoaocdkaaGreat
set_option linter.unusedVariables false
section
open Go.RowKit Go.Shelf
set_option maxRecDepth 100000
set_option maxHeartbeats 8000000
def zaK (x:Int × Int):Int:=zae x.2+1 - zae x.1
def total:List (Int × Int)→Int
 | [] =>0
 | x::zs =>zaK x+total zs
structure Spread (zs:List (Int × Int)):Prop where
 ends:∀ x ∈ zs,za6 x=true∧x.1≤x.2
 apart:∀ (i j:Nat) (x y:Int × Int),i < j→zs[i]?=some x→zs[j]?=some y→zae x.2+1 < zae y.1
theorem zaZ {n:Int} (h:zan n=true):0≤n∧n≤1114111∧(n < 55296∨57343 < n):=by
 unfold zan at h
 exact of_decide_eq_true h
theorem zat {x:Int × Int} (h:za6 x=true):(0≤x.1∧x.1≤1114111∧(x.1 < 55296∨57343 < x.1))∧(0≤x.2∧x.2≤1114111∧(x.2 < 55296∨57343 < x.2)):=by
 unfold za6 at h
 rw [Bool.and_eq_true] at h
 exact ⟨zaZ h.1,zaZ h.2⟩
theorem zgq {a b:Int} (ha:a < 55296∨57343 < a) (hb:b < 55296∨57343 < b):zae a < zae b ↔ a < b:=by
 unfold zae
 split <;> split <;> (try split) <;> (try split) <;> omega
theorem Spread.lt {zs:List (Int × Int)} (h:Spread zs) (i j:Nat) (x y:Int × Int) (hij:i < j) (hx:zs[i]?=some x) (hy:zs[j]?=some y):x.2 < y.1:=by
 have a:=zat (h.ends x (List.mem_of_getElem? hx)).1
 have b:=zat (h.ends y (List.mem_of_getElem? hy)).1
 have:=h.apart i j x y hij hx hy
 exact (zgq a.2.2.2 b.1.2.2).1 (by omega)
theorem Spread.los {zs:List (Int × Int)} (h:Spread zs) (i j:Nat) (x y:Int × Int) (hij:i < j) (hx:zs[i]?=some x) (hy:zs[j]?=some y):x.1 < y.1:=by
 have:=h.lt i j x y hij hx hy
 have:=(h.ends x (List.mem_of_getElem? hx)).2
 omega
theorem Spread.his {zs:List (Int × Int)} (h:Spread zs) (i j:Nat) (x y:Int × Int) (hij:i < j) (hx:zs[i]?=some x) (hy:zs[j]?=some y):x.2 < y.2:=by
 have:=h.lt i j x y hij hx hy
 have:=(h.ends y (List.mem_of_getElem? hy)).2
 omega
theorem zaE {a:Int} (h0:0≤a) (h1:a≤1114111):0≤zae a∧zae a≤1112063:=by
 unfold zae
 split <;> (try split) <;> omega
def RowA (W:World) (a:Option Addr) (zs:List (Int × Int)):Prop:=0 < zs.length→∃ g o,a=some ⟨g,o,none⟩∧g < W.heap.size∧∀ j,j < zs.length→W.cell? ⟨g,o+j,none⟩=some (.int .i64 (total (zs.take j)))
theorem RowA.below {W W':World} {a:Option Addr} {zs:List (Int × Int)} (h:RowA W a zs) (hb:Below W.heap.size W W'):RowA W' a zs:=fun h0 =>by
 obtain ⟨g,o,ha,hg,hc⟩:=h h0
 have:=hb.size
 exact ⟨g,o,ha,by omega,fun j hj =>(hb.cell (p:=⟨g,o+j,none⟩) hg).trans (hc j hj)⟩
theorem zcR {zs:List (Int × Int)} (h:∀ x ∈ zs,za6 x=true∧x.1≤x.2):0≤total zs∧total zs≤1112064*zs.length:=by
 induction zs with
 | nil =>simp [total]
 | cons x zs ih =>
  have:=ih fun y hy =>h y (List.mem_cons_of_mem _ hy)
  have hx:=h x List.mem_cons_self
  have e:=zat hx.1
  have r1:=zaE e.1.1 e.1.2.1
  have r2:=zaE e.2.1 e.2.2.1
  have:=(zgq e.2.2.2 e.1.2.2)
  simp only [total,zaK,List.length_cons]
  omega
def zi4 (zs:List (Int × Int)) (r:Int):Nat→Int
 | 0 =>0
 | k+1 =>total (zs.take k)+min (zae r) (zae (zs.getD k (0,0)).2+1) - zae (zs.getD k (0,0)).1
theorem zep (zs:List (Int × Int)) (x:Int × Int):total (zs++[x])=total zs+zaK x:=by
 induction zs with
 | nil =>simp [total]
 | cons y zs ih =>simp only [List.cons_append,total,ih];omega
theorem zlC {zs:List (Int × Int)} (h:Spread zs):zi4 zs 1114112 zs.length=total zs:=by
 rcases List.eq_nil_or_concat zs with rfl | ⟨ys,x,rfl⟩
 ·rfl
 ·have hx:=h.ends x (by simp)
  have e:=zat hx.1
  have r2:=zaE e.2.1 e.2.2.1
  have hr:zae 1114112=1112064:=by decide
  rw [List.concat_eq_append,List.length_append,List.length_singleton,zep]
  show total ((ys++[x]).take ys.length)+min (zae 1114112) (zae ((ys++[x]).getD ys.length (0,0)).2+1) - zae ((ys++[x]).getD ys.length (0,0)).1=_
  have hg:(ys++[x]).getD ys.length (0,0)=x:=by simp [List.getD]
  rw [List.take_left' rfl,hg,hr]
  unfold zaK
  omega
structure SetAt (W:World) (B:Nat) (zs:List (Int × Int)):Prop where
 form:∃ a ca b cb,Blk W B #[.slice a zs.length ca,.slice b zs.length cb] 149∧RowP W a zs∧RowA W b zs
 spread:Spread zs
 len:zs.length≤1112064
theorem SetAt.below {W W':World} {B:Nat} {zs:List (Int × Int)} (h:SetAt W B zs) (hb:Below W.heap.size W W'):SetAt W' B zs:=by
 obtain ⟨⟨a,ca,b,cb,h1,h2,h3⟩,hs,hl⟩:=h
 exact ⟨⟨a,ca,b,cb,h1.below hb h1.lt,h2.below hb,h3.below hb⟩,hs,hl⟩
theorem zi3 (B:Nat) (zs:List (Int × Int)) (r:Int) (h0 : -2147483648≤r) (h1:r≤2147483647) (w:World) (hs:SetAt w B zs) :
  Calls Tryz.prog 205 #[.pointer (some ⟨B,0,none⟩),.int .i32 r] w fun e w' => ∃ k,e=.returned (.int .i64 (zi4 zs r k))∧Cut (fun x =>x.1) zs r k∧Below w.heap.size w w':=by
 obtain ⟨⟨a,ca,b,cb,hb0,hp,ha⟩,hsp,hl⟩:=hs
 have d0:=hb0.cell 0
 have HQ:=kz (fun w hr =>zkQ a ca zs (by omega) r (fun i j x y =>hsp.los i j x y) w hr)
 have HP:=kz hp
 have HA:=kz ha
 have HBk:=kz hb0
 have HS:=kz hsp
 clear hp ha hsp hb0
 go_enter Tryz.func205,Tryz.ntmps205
 go_wp2_with fail
 refine (oz HQ _ (oz HP)).mono ?_
 rintro e w2 ⟨k,bb,rfl,hcut,hb⟩
 have HB:=kz hb
 have HC:=kz hcut
 have e0:=((oz HBk).below hb (oz HBk).lt).cell 0
 have e1:=((oz HBk).below hb (oz HBk).lt).cell 1
 have HP2:=kz ((oz HP).below hb)
 have HA2:=kz ((oz HA).below hb)
 have hk:=hcut.1
 clear hb hcut
 cases k with
 | zero =>
  go_wp2
  go_ret
  exact ⟨0,rfl,oz HC,oz HB⟩
 | succ m =>
  obtain ⟨x,hx⟩:∃ x,zs[m]?=some x:=⟨_,List.getElem?_eq_getElem (by omega)⟩
  obtain ⟨g,o,rfl,hg,hc⟩:=oz HP2 (by omega)
  obtain ⟨g',o',rfl,hg',hc'⟩:=oz HA2 (by omega)
  have c0:=(hc m x hx).1
  have c1:=(hc m x hx).2
  have c2:=hc' m (by omega)
  have hgd:zs.getD m (0,0)=x:=by simp [List.getD,hx]
  have hex:=(oz HS).ends x (List.mem_of_getElem? hx)
  have hee:=zat hex.1
  have r1:=zaE hee.1.1 hee.1.2.1
  have r2:=zaE hee.2.1 hee.2.2.1
  have htb:=zcR (zs:=zs.take m) (fun y hy =>(oz HS).ends y (List.mem_of_mem_take hy))
  have hlt:(zs.take m).length≤1112064:=by rw [List.length_take];omega
  have HV:Hz (zi4 zs r (m+1)=total (zs.take m)+min (zae r) (zae x.2+1) - zae x.1):=kz (by show total (zs.take m)+min (zae r) (zae (zs.getD m (0,0)).2+1) - zae (zs.getD m (0,0)).1=_;rw [hgd])
  have hrr : -2147483648≤zae r∧zae r≤2147483647:=by unfold zae;split <;> (try split) <;> omega
  have hlo:0≤x.1∧x.1≤1114111:=⟨hee.1.1,hee.1.2.1⟩
  have hhi:0≤x.2∧x.2≤1114111:=⟨hee.2.1,hee.2.2.1⟩
  generalize total (zs.take m)=tt at c2 htb HV
  have htt:0≤tt∧tt≤1236686340096:=by have:=htb.1;have:=htb.2;omega
  clear hc hc' hgd hex hee htb hx
  obtain ⟨lo,hi⟩:=x
  simp only at c0 c1 HV r1 r2 hlo hhi
  have hm1:((m+1:Nat):Int) - 1=(m:Int):=by omega
  have hm2:((m:Nat):Int).toNat=m:=by omega
  have hm3:(m:Int) < (zs.length:Int):=by omega
  have b1:=Blk.new w2 #[.int .i32 lo,.int .i32 hi] 113
  have q0:=b1.cell 0
  have q1:=b1.cell 1
  have HB1:=kz ((oz HB).alloc (oz HB).size (.cells #[.int .i32 lo,.int .i32 hi] 113))
  have f1:(w2.alloc (.cells #[.int .i32 lo,.int .i32 hi] 113)).cell? ⟨B,1,none⟩=some (.slice (some ⟨g',o',none⟩) zs.length cb):=(((Below.refl _ w2).alloc (Nat.le_refl _) _).cell (p:=⟨B,1,none⟩) ((oz HBk).below (oz HB) (oz HBk).lt).lt).trans e1
  have f2:=(((Below.refl _ w2).alloc (Nat.le_refl _) (.cells #[.int .i32 lo,.int .i32 hi] 113)).cell (p:=⟨g',o' + m,none⟩) hg').trans c2
  clear b1
  go_wp2_with fail
  clear e0 e1 c0 c1 c2 d0 HP HA HP2 HA2 hg hg' HBk HS HQ HB
  go_quiet ((go_at_call 202;exact Calls.quiet_of_same (zdb _ (by omega) (by omega) _)))
  go_wp2
  all_goals
   go_ret
   first
    | exact ⟨m+1,by rw [oz HV,show min (zae r) (zae hi+1)=zae hi+1 by omega];rfl,oz HC,below_drewN (oz HB1) _⟩
    | exact ⟨m+1,by rw [oz HV,show min (zae r) (zae hi+1)=zae r by omega];rfl,oz HC,below_drewN (oz HB1) _⟩
    | exact ⟨m+1,by rw [oz HV,Int.min_def];rfl,oz HC,below_drewN (oz HB1) _⟩
theorem zeN (B:Nat) (zs:List (Int × Int)) (w:World) (hs:SetAt w B zs) :
  Calls Tryz.prog 194 #[.pointer (some ⟨B,0,none⟩)] w fun e w' =>e=.returned (.int .i64 (total zs))∧Below w.heap.size w w':=by
 have HS:=kz hs.spread
 have HQ:=kz (zi3 B zs 1114112 (by decide) (by decide) w hs)
 have HT:Hz (∀ k,Cut (fun x =>x.1) zs 1114112 k→zi4 zs 1114112 k=total zs):=kz (fun k hk =>by
  have hkl:k=zs.length:=by
   by_cases e:k=zs.length
   ·exact e
   ·have h1:=hk.1
    obtain ⟨x,hx⟩:∃ x,zs[k]?=some x:=⟨_,List.getElem?_eq_getElem (by omega)⟩
    have:(1114112:Int)≤x.1:=hk.2.2 k x (Nat.le_refl _) hx
    have:=(zat ((oz HS).ends x (List.mem_of_getElem? hx)).1).1.2.1
    omega
  subst hkl
  exact zlC (oz HS))
 clear hs
 go_enter Tryz.func194,Tryz.ntmps194
 go_wp2_with fail
 refine (oz HQ).mono ?_
 rintro e w2 ⟨k,rfl,hc,hb⟩
 rw [oz HT k hc]
 have HB:=kz hb
 clear hb hc
 go_wp2
 go_ret
 exact ⟨rfl,oz HB⟩
set_option maxRecDepth 100000
set_option maxHeartbeats 8000000
def zam (zs:List (Int × Int)) (r:Int):Bool:=zs.any (fun x =>decide (x.1≤r∧r≤x.2)) && zan r
theorem zmM {zs:List (Int × Int)} (h:Spread zs) {r:Int} {k:Nat} (hc:Cut (fun x =>x.2) zs r k):zs.any (fun x =>decide (x.1≤r∧r≤x.2))=match zs[k]? with
  | some x =>decide (x.1≤r)
  | none =>false:=by
 obtain ⟨h1,h2,h3⟩:=hc
 cases hk:zs[k]? with
 | none =>
  rw [List.any_eq_false]
  intro x hx
  obtain ⟨i,hi,rfl⟩:=List.mem_iff_getElem.1 hx
  have hkl:=List.getElem?_eq_none_iff.1 hk
  have:zs[i].2 < r:=h2 i _ (by omega) (List.getElem?_eq_getElem hi)
  simp;omega
 | some y =>
  have hy:r≤y.2:=h3 k y (Nat.le_refl _) hk
  by_cases hl:y.1≤r
  ·show _=decide (y.1≤r)
   rw [decide_eq_true hl,List.any_eq_true]
   exact ⟨y,List.mem_of_getElem? hk,decide_eq_true ⟨hl,hy⟩⟩
  ·show _=decide (y.1≤r)
   rw [decide_eq_false hl,List.any_eq_false]
   intro x hx
   obtain ⟨i,hi,rfl⟩:=List.mem_iff_getElem.1 hx
   have hxe:=List.getElem?_eq_getElem hi
   by_cases h4:i < k
   ·have:zs[i].2 < r:=h2 i _ h4 hxe
    simp;omega
   ·by_cases h5:i=k
    ·subst h5
     rw [hxe] at hk
     cases hk
     simp;omega
    ·have:=h.lt k i y zs[i] (by omega) hk hxe
     have:=(h.ends y (List.mem_of_getElem? hk)).2
     simp;omega
theorem zks (B:Nat) (zs:List (Int × Int)) (r:Int) (w:World) (hs:SetAt w B zs) :
  Calls Tryz.prog 65 #[.pointer (some ⟨B,0,none⟩),.int .i32 r] w fun e w' =>e=.returned (.bool (zam zs r))∧Below w.heap.size w w':=by
 obtain ⟨⟨a,ca,b,cb,hb0,hp,ha⟩,hsp,hl⟩:=hs
 have d0:=hb0.cell 0
 have HQ:=kz (fun w hr =>zhb a ca zs (by omega) r (fun i j x y =>hsp.his i j x y) w hr)
 have HP:=kz hp
 have HBk:=kz hb0
 have HS:=kz hsp
 have hwr:=zcg r
 clear hp ha hsp hb0
 go_enter Tryz.func65,Tryz.ntmps65
 go_wp2_with fail
 refine (oz HQ _ (oz HP)).mono ?_
 rintro e w2 ⟨k,bb,rfl,hcut,hb⟩
 have HB:=kz hb
 have hmc:=zmM (oz HS) hcut
 have e0:=((oz HBk).below hb (oz HBk).lt).cell 0
 have HP2:=kz ((oz HP).below hb)
 have hk:=hcut.1
 have HV:Hz (zam zs r=(match zs[k]? with | some x =>decide (x.1≤r) | none =>false && zan r))∨True := .inr trivial
 clear hb hcut HV
 by_cases hkn:k < zs.length
 ·obtain ⟨x,hx⟩:∃ x,zs[k]?=some x:=⟨_,List.getElem?_eq_getElem hkn⟩
  obtain ⟨g,o,rfl,hg,hc⟩:=oz HP2 (by omega)
  have c0:=(hc k x hx).1
  have c1:=(hc k x hx).2
  rw [hx] at hmc
  have hk1:(k:Int) < (zs.length:Int):=by omega
  have hk2:((k:Nat):Int).toNat=k:=by omega
  obtain ⟨lo,hi⟩:=x
  simp only at c0 c1 hmc
  clear hc hx
  by_cases hlr:lo≤r
  ·have HV:Hz (zam zs r=zan r):=kz (by unfold zam;rw [hmc,decide_eq_true hlr];rfl)
   cases hru:zan r with
   | true =>
    rw [hru] at HV hwr
    have hw0:(zag r == 0)=false:=hwr
    have hw1:(zag r != 0)=true:=by unfold bne;rw [hw0];rfl
    clear hmc hwr hru
    go_wp2_with (go_at_call 66;refine (zbf _ _).mono ?_;rintro e w' ⟨rfl,rfl⟩)
    go_ret
    exact ⟨by rw [oz HV];rfl,oz HB⟩
   | false =>
    rw [hru] at HV hwr
    have hw0:(zag r == 0)=true:=hwr
    have hw1:(zag r != 0)=false:=by unfold bne;rw [hw0];rfl
    clear hmc hwr hru
    go_wp2_with (go_at_call 66;refine (zbf _ _).mono ?_;rintro e w' ⟨rfl,rfl⟩)
    go_ret
    exact ⟨by rw [oz HV];rfl,oz HB⟩
  ·have HV:Hz (zam zs r=false):=kz (by unfold zam;rw [hmc,decide_eq_false hlr];rfl)
   clear hmc hwr
   go_wp2_with (go_at_call 66;refine (zbf _ _).mono ?_;rintro e w' ⟨rfl,rfl⟩)
   go_ret
   exact ⟨by rw [oz HV];rfl,oz HB⟩
 ·have hk1:¬ (k:Int) < (zs.length:Int):=by omega
  rw [List.getElem?_eq_none (by omega)] at hmc
  have HV:Hz (zam zs r=false):=kz (by unfold zam;rw [hmc];rfl)
  clear hmc hwr
  go_wp2
  go_ret
  exact ⟨by rw [oz HV];rfl,oz HB⟩
end
section
open Go.RowKit Go.Shelf Go.Maps
end
section
open Go.RowKit Go.Shelf
end
section
open Go.RowKit Go.Shelf
open Go.Lib (decodeN decode_at)
theorem zbt {z:Int} (h:zag z≠0):Utf8.valid z=true∧0≤z∧z≤1114111∧¬ (55296≤z∧z≤57343):=by
 unfold zag at h
 split at h
 ·exact absurd rfl h
 ·rename_i hh
  refine ⟨?_,by omega,by omega,by omega⟩
  simp only [Utf8.valid,Bool.or_eq_true,Bool.and_eq_true,decide_eq_true_eq]
  omega
theorem zrH {z:Int} (h:zag z≠0) (h1:z < 128):Utf8.encode z=⟨#[UInt8.ofNat z.toNat]⟩:=by
 obtain ⟨hv,h0,_,_⟩:=zbt h
 unfold Utf8.encode
 simp only [hv,if_true]
 rw [if_pos (by omega)]
theorem zrG {z:Int} (h:zag z≠0) (h1:128≤z) (h2:z < 2048):Utf8.encode z=⟨#[UInt8.ofNat (0xC0+z.toNat / 64),UInt8.ofNat (0x80+z.toNat % 64)]⟩:=by
 obtain ⟨hv,h0,_,_⟩:=zbt h
 unfold Utf8.encode
 simp only [hv,if_true]
 rw [if_neg (by omega),if_pos (by omega)]
theorem zrF {z:Int} (h:zag z≠0) (h1:2048≤z) (h2:z < 65536):Utf8.encode z=⟨#[UInt8.ofNat (0xE0+z.toNat / 4096),UInt8.ofNat (0x80+z.toNat / 64 % 64),UInt8.ofNat (0x80+z.toNat % 64)]⟩:=by
 obtain ⟨hv,h0,_,_⟩:=zbt h
 unfold Utf8.encode
 simp only [hv,if_true]
 rw [if_neg (by omega),if_neg (by omega),if_pos (by omega)]
theorem zrE {z:Int} (h:zag z≠0) (h1:65536≤z):Utf8.encode z=⟨#[UInt8.ofNat (0xF0+z.toNat / 262144),UInt8.ofNat (0x80+z.toNat / 4096 % 64),UInt8.ofNat (0x80+z.toNat / 64 % 64),UInt8.ofNat (0x80+z.toNat % 64)]⟩:=by
 obtain ⟨hv,h0,_,_⟩:=zbt h
 unfold Utf8.encode
 simp only [hv,if_true]
 rw [if_neg (by omega),if_neg (by omega),if_neg (by omega)]
theorem u8n (n:Nat) (h:n < 256):(UInt8.ofNat n).toNat=n:=by rw [UInt8.toNat_ofNat'];omega
theorem zlj {z:Int} (h:zag z≠0):Utf8.decode (Utf8.encode z) 0=(z.toNat,(Utf8.encode z).size)∧((Utf8.encode z).size:Int)=zag z:=by
 obtain ⟨hv,h0,h1,h2⟩:=zbt h
 by_cases c1:z < 128
 ·rw [zrH h c1]
  refine ⟨?_, ?_⟩
  ·rw [decode_at]
   have e0:((⟨#[UInt8.ofNat z.toNat]⟩:ByteArray).get! 0).toNat=z.toNat:=by show (UInt8.ofNat z.toNat).toNat=_;exact u8n _ (by omega)
   rw [e0]
   unfold decodeN
   rw [if_pos (by omega)]
   rfl
  ·unfold zag;rw [if_neg (by omega),if_pos (by omega)];rfl
 by_cases c2:z < 2048
 ·rw [zrG h (by omega) c2]
  refine ⟨?_, ?_⟩
  ·rw [decode_at]
   have e0:((⟨#[UInt8.ofNat (0xC0+z.toNat / 64),UInt8.ofNat (0x80+z.toNat % 64)]⟩:ByteArray).get! 0).toNat=192+z.toNat / 64:=by show (UInt8.ofNat (0xC0+z.toNat / 64)).toNat=_;exact u8n _ (by omega)
   have e1:((⟨#[UInt8.ofNat (0xC0+z.toNat / 64),UInt8.ofNat (0x80+z.toNat % 64)]⟩:ByteArray).get! (0+1)).toNat=128+z.toNat % 64:=by show (UInt8.ofNat (0x80+z.toNat % 64)).toNat=_;exact u8n _ (by omega)
   rw [e0,e1]
   show decodeN 2 _ _ _ _=(_,2)
   unfold decodeN
   rw [if_neg (by omega),if_pos (by omega),if_pos (by omega)]
   rw [Prod.mk.injEq]
   exact ⟨by omega,rfl⟩
  ·unfold zag;rw [if_neg (by omega),if_neg (by omega),if_pos (by omega)];rfl
 by_cases c3:z < 65536
 ·rw [zrF h (by omega) c3]
  refine ⟨?_, ?_⟩
  ·rw [decode_at]
   have e0:((⟨#[UInt8.ofNat (0xE0+z.toNat / 4096),UInt8.ofNat (0x80+z.toNat / 64 % 64),UInt8.ofNat (0x80+z.toNat % 64)]⟩:ByteArray).get! 0).toNat=224+z.toNat / 4096:=by show (UInt8.ofNat (0xE0+z.toNat / 4096)).toNat=_;exact u8n _ (by omega)
   have e1:((⟨#[UInt8.ofNat (0xE0+z.toNat / 4096),UInt8.ofNat (0x80+z.toNat / 64 % 64),UInt8.ofNat (0x80+z.toNat % 64)]⟩:ByteArray).get! (0+1)).toNat=128+z.toNat / 64 % 64:=by show (UInt8.ofNat (0x80+z.toNat / 64 % 64)).toNat=_;exact u8n _ (by omega)
   have e2:((⟨#[UInt8.ofNat (0xE0+z.toNat / 4096),UInt8.ofNat (0x80+z.toNat / 64 % 64),UInt8.ofNat (0x80+z.toNat % 64)]⟩:ByteArray).get! (0+2)).toNat=128+z.toNat % 64:=by show (UInt8.ofNat (0x80+z.toNat % 64)).toNat=_;exact u8n _ (by omega)
   rw [e0,e1,e2]
   show decodeN 3 _ _ _ _=(_,3)
   unfold decodeN
   rw [if_neg (by omega),if_neg (by omega),if_pos (by omega),if_pos (by omega)]
   rw [Prod.mk.injEq]
   exact ⟨by omega,rfl⟩
  ·unfold zag;rw [if_neg (by omega),if_neg (by omega),if_neg (by omega),if_pos (by omega)];rfl
 ·rw [zrE h (by omega)]
  refine ⟨?_, ?_⟩
  ·rw [decode_at]
   have e0:((⟨#[UInt8.ofNat (0xF0+z.toNat / 262144),UInt8.ofNat (0x80+z.toNat / 4096 % 64),UInt8.ofNat (0x80+z.toNat / 64 % 64),UInt8.ofNat (0x80+z.toNat % 64)]⟩:ByteArray).get! 0).toNat=240+z.toNat / 262144:=by show (UInt8.ofNat (0xF0+z.toNat / 262144)).toNat=_;exact u8n _ (by omega)
   have e1:((⟨#[UInt8.ofNat (0xF0+z.toNat / 262144),UInt8.ofNat (0x80+z.toNat / 4096 % 64),UInt8.ofNat (0x80+z.toNat / 64 % 64),UInt8.ofNat (0x80+z.toNat % 64)]⟩:ByteArray).get! (0+1)).toNat=128+z.toNat / 4096 % 64:=by show (UInt8.ofNat (0x80+z.toNat / 4096 % 64)).toNat=_;exact u8n _ (by omega)
   have e2:((⟨#[UInt8.ofNat (0xF0+z.toNat / 262144),UInt8.ofNat (0x80+z.toNat / 4096 % 64),UInt8.ofNat (0x80+z.toNat / 64 % 64),UInt8.ofNat (0x80+z.toNat % 64)]⟩:ByteArray).get! (0+2)).toNat=128+z.toNat / 64 % 64:=by show (UInt8.ofNat (0x80+z.toNat / 64 % 64)).toNat=_;exact u8n _ (by omega)
   have e3:((⟨#[UInt8.ofNat (0xF0+z.toNat / 262144),UInt8.ofNat (0x80+z.toNat / 4096 % 64),UInt8.ofNat (0x80+z.toNat / 64 % 64),UInt8.ofNat (0x80+z.toNat % 64)]⟩:ByteArray).get! (0+3)).toNat=128+z.toNat % 64:=by show (UInt8.ofNat (0x80+z.toNat % 64)).toNat=_;exact u8n _ (by omega)
   rw [e0,e1,e2,e3]
   show decodeN 4 _ _ _ _=(_,4)
   unfold decodeN
   rw [if_neg (by omega),if_neg (by omega),if_neg (by omega),if_pos (by omega),if_pos (by omega)]
   rw [Prod.mk.injEq]
   exact ⟨by omega,rfl⟩
  ·unfold zag;rw [if_neg (by omega),if_neg (by omega),if_neg (by omega),if_neg (by omega)];rfl
theorem zgk (z:Int) (zs:List Int):runesBytes (z::zs)=Utf8.encode z++runesBytes zs:=by
 have:=zd6 [z] zs
 rw [List.singleton_append] at this
 rw [this,show runesBytes [z]=Utf8.encode z by unfold runesBytes;simp]
theorem zgn (s:ByteArray) (i:Nat):zag ((rn s i:Nat):Int)≠0:=by
 have t:=zfx s i
 have h1:=t.small
 have h2:=t.nosur
 unfold zag
 simp only [rn]
 rw [if_neg (by omega)]
 repeat' split
 all_goals decide
end
section
open Go.RowKit Go.Shelf
end
section
open Go.RowKit Go.Shelf
open Go.Lib (decode_at)
end
section
open Go.RowKit Go.Shelf
theorem zfz (s:ByteArray):∀ f i,Lib.validGoD f (s.data.toList.drop i)=true ↔ ∀ p ∈ zaj s f i,zdm s p=false
 | 0,i =>⟨fun _ p hp =>(by cases hp),fun _ =>rfl⟩
 | f+1,i =>by
  have hl:(s.data.toList.drop i).length=s.size - i:=by rw [List.length_drop,Array.length_toList];rfl
  unfold Lib.validGoD
  by_cases hi:i < s.size
  ·have hne:¬ s.data.toList.drop i=[]:=fun e =>by rw [e] at hl;have:([] : List UInt8).length=0:=rfl;omega
   rw [if_neg hne,zar s f i hi,Lib.decodeL_drop,List.drop_drop]
   by_cases hb:rn s i=65533∧wd s i=1
   ·rw [if_pos hb]
    exact ⟨fun h =>(by cases h),fun h =>by have:=h i (List.mem_cons_self ..);unfold zdm at this;rw [decide_eq_true hb] at this;cases this⟩
   ·rw [if_neg hb]
    have ih:=zfz s f (i+wd s i)
    refine ih.trans ⟨fun h p hp =>?_,fun h p hp =>h p (List.mem_cons_of_mem _ hp)⟩
    rcases List.mem_cons.1 hp with rfl | hp
    ·unfold zdm;exact decide_eq_false hb
    ·exact h p hp
  ·have hne:s.data.toList.drop i=[]:=List.length_eq_zero_iff.1 (by omega)
   rw [if_pos hne,zaH s _ i hi]
   exact ⟨fun _ p hp =>(by cases hp),fun _ =>rfl⟩
end
section
open Go.RowKit Go.Shelf
open Go.Lib (decode_at)
theorem zrU (N b0 b1 b2 b3:Nat) (h:(128≤b0∧b0 < 192)∨(248≤b0∧b0 < 256)):Lib.decodeN N b0 b1 b2 b3=(65533,1):=by
 unfold Lib.decodeN
 repeat' split
 all_goals first | rfl | (exfalso;omega)
theorem zrT (N b0 b1 b2 b3:Nat) (h0:192≤b0) (h1:b0 < 224) (hb:b1 < 256):Lib.decodeN N b0 b1 b2 b3=if (1 < N∧128≤b1∧b1 < 192)∧128≤(b0 - 192)*64+(b1 - 128) then ((b0 - 192)*64+(b1 - 128),2) else (65533,1):=by
 have e1:b0 % 32=b0 - 192:=by omega
 unfold Lib.decodeN
 rw [if_neg (by omega),e1]
 by_cases hc:1 < N∧128≤b1∧b1 < 192
 ·have e2:b1 % 64=b1 - 128:=by omega
  rw [if_pos (by omega),e2]
  by_cases hv:128≤(b0 - 192)*64+(b1 - 128)
  ·rw [if_pos hv,if_pos ⟨hc,hv⟩]
  ·rw [if_neg hv,if_neg (fun q =>hv q.2)]
 ·rw [if_neg (by omega),if_neg (by omega),if_neg (by omega),if_neg (fun q =>hc q.1)]
theorem zrS (N b0 b1 b2 b3:Nat) (h0:224≤b0) (h1:b0 < 240) (hb:b1 < 256) (hb2:b2 < 256):Lib.decodeN N b0 b1 b2 b3=if ((1 < N∧128≤b1∧b1 < 192)∧(2 < N∧128≤b2∧b2 < 192))∧2048≤((b0 - 224)*64+(b1 - 128))*64+(b2 - 128)∧(((b0 - 224)*64+(b1 - 128))*64+(b2 - 128) < 55296∨57343 < ((b0 - 224)*64+(b1 - 128))*64+(b2 - 128)) then (((b0 - 224)*64+(b1 - 128))*64+(b2 - 128),3) else (65533,1):=by
 have e1:b0 % 16=b0 - 224:=by omega
 unfold Lib.decodeN
 rw [if_neg (by omega),if_neg (by omega),e1]
 by_cases hc:(1 < N∧128≤b1∧b1 < 192)∧(2 < N∧128≤b2∧b2 < 192)
 ·have e2:b1 % 64=b1 - 128:=by omega
  have e3:b2 % 64=b2 - 128:=by omega
  have e4:(b0 - 224)*4096+(b1 - 128)*64+(b2 - 128)=((b0 - 224)*64+(b1 - 128))*64+(b2 - 128):=by omega
  rw [if_pos (by omega),e2,e3,e4]
  generalize hv:((b0 - 224)*64+(b1 - 128))*64+(b2 - 128)=v
  have hv2:v < 65536:=by omega
  by_cases q:2048≤v∧(v < 55296∨57343 < v)
  ·rw [if_pos (by omega),if_pos ⟨hc,q⟩]
  ·rw [if_neg (by omega),if_neg (fun z =>q z.2)]
 ·rw [if_neg (by omega),if_neg (by omega),if_neg (fun q =>hc q.1)]
theorem zrR (N b0 b1 b2 b3:Nat) (h0:240≤b0) (h1:b0 < 248) (hb:b1 < 256) (hb2:b2 < 256) (hb3:b3 < 256):Lib.decodeN N b0 b1 b2 b3=if ((1 < N∧128≤b1∧b1 < 192)∧(2 < N∧128≤b2∧b2 < 192)∧(3 < N∧128≤b3∧b3 < 192))∧65536≤(((b0 - 240)*64+(b1 - 128))*64+(b2 - 128))*64+(b3 - 128)∧(((b0 - 240)*64+(b1 - 128))*64+(b2 - 128))*64+(b3 - 128)≤1114111 then ((((b0 - 240)*64+(b1 - 128))*64+(b2 - 128))*64+(b3 - 128),4) else (65533,1):=by
 have e1:b0 % 8=b0 - 240:=by omega
 unfold Lib.decodeN
 rw [if_neg (by omega),if_neg (by omega),if_neg (by omega),e1]
 by_cases hc:(1 < N∧128≤b1∧b1 < 192)∧(2 < N∧128≤b2∧b2 < 192)∧(3 < N∧128≤b3∧b3 < 192)
 ·have e2:b1 % 64=b1 - 128:=by omega
  have e3:b2 % 64=b2 - 128:=by omega
  have e5:b3 % 64=b3 - 128:=by omega
  have e4:(b0 - 240)*262144+(b1 - 128)*4096+(b2 - 128)*64+(b3 - 128)=(((b0 - 240)*64+(b1 - 128))*64+(b2 - 128))*64+(b3 - 128):=by omega
  rw [if_pos (by omega),e2,e3,e5,e4]
  generalize hv:(((b0 - 240)*64+(b1 - 128))*64+(b2 - 128))*64+(b3 - 128)=v
  by_cases q:65536≤v∧v≤1114111
  ·rw [if_pos (by omega),if_pos ⟨hc,q⟩]
  ·rw [if_neg (by omega),if_neg (fun z =>q z.2)]
 ·rw [if_neg (by omega),if_neg (fun q =>hc q.1)]
def zcQ (s:ByteArray) (i base:Nat):Nat→Nat
 | 0 =>bt s i - base
 | k+1 =>zcQ s i base k*64+(bt s (i+(k+1)) - 128)
def zfu (s:ByteArray) (j:Nat):Prop:=j < s.size∧128≤bt s j∧bt s j < 192
theorem zhH (s:ByteArray) (i base:Nat) (h:bt s i - base < 32):∀ k,(∀ q,1≤q→q≤k→zfu s (i+q))→zcQ s i base k < 32*64 ^ k
 | 0,_ =>by rw [Nat.pow_zero,Nat.mul_one];exact h
 | k+1,hc =>by
  have ih:=zhH s i base h k (fun q h1 h2 =>hc q h1 (by omega))
  have hb:=hc (k+1) (by omega) (by omega)
  unfold zfu at hb
  have e:zcQ s i base (k+1)=zcQ s i base k*64+(bt s (i+(k+1)) - 128):=rfl
  rw [e,Nat.pow_succ]
  generalize 64 ^ k=P at *
  omega
def cls (n:Nat):Nat × Nat × Nat:=match n with
 | 1 =>(192,224,128)
 | 2 =>(224,240,2048)
 | _ =>(240,248,65536)
def zdI (v:Nat):Bool:=decide (v≤1114111∧(v < 55296∨57343 < v))
theorem zjR {P C:Prop} [Decidable P] {a b:Nat × Nat} (h:P ↔ C):(C→(if P then a else b)=a)∧(¬ C→(if P then a else b)=b):=⟨fun q =>if_pos (h.2 q),fun q =>if_neg (fun z =>q (h.1 z))⟩
theorem zno (s:ByteArray) (i n:Nat) (hn:n=1∨n=2∨n=3) (h0:(cls n).1≤bt s i) (h1:bt s i < (cls n).2.1) :
  ((∀ q,1≤q→q≤n→zfu s (i+q))∧(cls n).2.2≤zcQ s i (cls n).1 n∧zdI (zcQ s i (cls n).1 n)=true→Utf8.decode s i=(zcQ s i (cls n).1 n,n+1))∧(¬ ((∀ q,1≤q→q≤n→zfu s (i+q))∧(cls n).2.2≤zcQ s i (cls n).1 n∧zdI (zcQ s i (cls n).1 n)=true)→Utf8.decode s i=(65533,1)):=by
 rw [decode_at]
 have hb:=fun j =>zd2 s j
 have ed:Lib.decodeN (s.size - i) (s.get! i).toNat (s.get! (i+1)).toNat (s.get! (i+2)).toNat (s.get! (i+3)).toNat=Lib.decodeN (s.size - i) (bt s i) (bt s (i+1)) (bt s (i+2)) (bt s (i+3)):=rfl
 rw [ed]
 have q1:=hb (i+1)
 have q2:=hb (i+2)
 have q3:=hb (i+3)
 rcases hn with rfl | rfl | rfl
 ·have e:zcQ s i (cls 1).1 1=(bt s i - 192)*64+(bt s (i+1) - 128):=rfl
  rw [zrT _ _ _ _ _ h0 h1 q1,e]
  generalize bt s i=b0 at *
  have hc:(∀ q,1≤q→q≤1→zfu s (i+q)) ↔ (1 < s.size - i∧128≤bt s (i+1)∧bt s (i+1) < 192):=by
   constructor
   ·intro h;have:=h 1 (by omega) (by omega);unfold zfu at this;omega
   ·intro h q a b;obtain rfl:q=1:=by omega
    unfold zfu;omega
  generalize bt s (i+1)=b1 at *
  have hv:(b0 - 192)*64+(b1 - 128) < 55296∨¬ (1 < s.size - i∧128≤b1∧b1 < 192):=by
   have h1':b0 < 224:=h1
   omega
  generalize (b0 - 192)*64+(b1 - 128)=v at *
  refine zjR ?_
  rw [hc]
  unfold zdI
  rw [decide_eq_true_iff]
  show _∧128≤v ↔ _∧128≤v∧_
  constructor
  ·rintro ⟨a,b⟩;exact ⟨a,b,by rcases hv with q | q;omega;exact absurd a q⟩
  ·rintro ⟨a,b,_⟩;exact ⟨a,b⟩
 ·have e:zcQ s i (cls 2).1 2=((bt s i - 224)*64+(bt s (i+1) - 128))*64+(bt s (i+2) - 128):=rfl
  rw [zrS _ _ _ _ _ h0 h1 q1 q2,e]
  generalize bt s i=b0 at *
  have hc:(∀ q,1≤q→q≤2→zfu s (i+q)) ↔ ((1 < s.size - i∧128≤bt s (i+1)∧bt s (i+1) < 192)∧(2 < s.size - i∧128≤bt s (i+2)∧bt s (i+2) < 192)):=by
   constructor
   ·intro h;have a:=h 1 (by omega) (by omega);have b:=h 2 (by omega) (by omega);unfold zfu at a b;omega
   ·intro h q a b
    rcases (by omega:q=1∨q=2) with rfl | rfl <;> (unfold zfu;omega)
  generalize bt s (i+1)=b1 at *
  generalize bt s (i+2)=b2 at *
  have hv:((b0 - 224)*64+(b1 - 128))*64+(b2 - 128)≤65535∨¬ ((1 < s.size - i∧128≤b1∧b1 < 192)∧(2 < s.size - i∧128≤b2∧b2 < 192)):=by
   have h1':b0 < 240:=h1
   omega
  generalize ((b0 - 224)*64+(b1 - 128))*64+(b2 - 128)=v at *
  refine zjR ?_
  rw [hc]
  unfold zdI
  rw [decide_eq_true_iff]
  show _∧2048≤v∧_ ↔ _∧2048≤v∧_
  constructor
  ·rintro ⟨a,b,c⟩;exact ⟨a,b,by rcases hv with q | q;exact ⟨by omega,c⟩;exact absurd a q⟩
  ·rintro ⟨a,b,c⟩;exact ⟨a,b,c.2⟩
 ·have e:zcQ s i (cls 3).1 3=(((bt s i - 240)*64+(bt s (i+1) - 128))*64+(bt s (i+2) - 128))*64+(bt s (i+3) - 128):=rfl
  rw [zrR _ _ _ _ _ h0 h1 q1 q2 q3,e]
  generalize bt s i=b0 at *
  have hc:(∀ q,1≤q→q≤3→zfu s (i+q)) ↔ ((1 < s.size - i∧128≤bt s (i+1)∧bt s (i+1) < 192)∧(2 < s.size - i∧128≤bt s (i+2)∧bt s (i+2) < 192)∧(3 < s.size - i∧128≤bt s (i+3)∧bt s (i+3) < 192)):=by
   constructor
   ·intro h;have a:=h 1 (by omega) (by omega);have b:=h 2 (by omega) (by omega);have c:=h 3 (by omega) (by omega);unfold zfu at a b c;omega
   ·intro h q a b
    rcases (by omega:q=1∨q=2∨q=3) with rfl | rfl | rfl <;> (unfold zfu;omega)
  generalize bt s (i+1)=b1 at *
  generalize bt s (i+2)=b2 at *
  generalize bt s (i+3)=b3 at *
  generalize (((b0 - 240)*64+(b1 - 128))*64+(b2 - 128))*64+(b3 - 128)=v at *
  refine zjR ?_
  rw [hc]
  unfold zdI
  rw [decide_eq_true_iff]
  show _∧65536≤v∧_ ↔ _∧65536≤v∧_
  constructor
  ·rintro ⟨a,b,c⟩;exact ⟨a,b,by omega⟩
  ·rintro ⟨a,b,c⟩;exact ⟨a,b,by omega⟩
theorem zqh (s:ByteArray) (i:Nat) (h:bt s i < 128):rn s i=bt s i∧wd s i=1∧zdm s i=false:=by
 have e:Utf8.decode s i=(bt s i,1):=by
  rw [decode_at]
  show Lib.decodeN _ (bt s i) _ _ _=_
  unfold Lib.decodeN
  rw [if_pos h]
 refine ⟨by unfold rn;rw [e],by unfold wd;rw [e], ?_⟩
 unfold zdm rn wd
 rw [e]
 exact decide_eq_false (by dsimp only;omega)
theorem zkw (s:ByteArray) (i:Nat) (h:(128≤bt s i∧bt s i < 192)∨248≤bt s i):zdm s i=true:=by
 have hb:=zd2 s i
 have e:Utf8.decode s i=(65533,1):=by
  rw [decode_at]
  exact zrU _ _ _ _ _ (by show (128≤bt s i∧bt s i < 192)∨(248≤bt s i∧bt s i < 256);omega)
 unfold zdm rn wd
 rw [e]
 rfl
theorem zj0 (s:ByteArray) (i n:Nat) (hn:n=1∨n=2∨n=3) (h0:(cls n).1≤bt s i) (h1:bt s i < (cls n).2.1) (hc:∀ q,1≤q→q≤n→zfu s (i+q)) (hl:(cls n).2.2≤zcQ s i (cls n).1 n) (hs:zdI (zcQ s i (cls n).1 n)=true):rn s i=zcQ s i (cls n).1 n∧wd s i=n+1∧zdm s i=false:=by
 have e:=(zno s i n hn h0 h1).1 ⟨hc,hl,hs⟩
 refine ⟨by unfold rn;rw [e],by unfold wd;rw [e], ?_⟩
 unfold zdm rn wd
 rw [e]
 exact decide_eq_false (by dsimp only;omega)
theorem zc3 (s:ByteArray) (i n:Nat) (hn:n=1∨n=2∨n=3) (h0:(cls n).1≤bt s i) (h1:bt s i < (cls n).2.1) (hc:¬ ((∀ q,1≤q→q≤n→zfu s (i+q))∧(cls n).2.2≤zcQ s i (cls n).1 n∧zdI (zcQ s i (cls n).1 n)=true)):zdm s i=true:=by
 have e:=(zno s i n hn h0 h1).2 hc
 unfold zdm rn wd
 rw [e]
 rfl
def okU (s:ByteArray):Bool:=Lib.validD s.data.toList
theorem zjA {s:ByteArray}:okU s=true ↔ ∀ p ∈ zah s,zdm s p=false:=zfz s s.size 0
structure RuQ (s:ByteArray) (i f:Nat) (zs:List Int):Prop where
 le:i≤s.size
 fu:s.size≤i+f
 rs:zak s=zs++(zaj s f i).map (fun p =>((rn s p:Nat):Int))
 ok:okU s=true ↔ ∀ p ∈ zaj s f i,zdm s p=false
 ln:zs.length≤i
theorem RuQ.start (s:ByteArray):RuQ s 0 s.size []:=⟨Nat.zero_le _,by omega,rfl,zjA,Nat.le_refl _⟩
theorem RuQ.next {s:ByteArray} {i f:Nat} {zs:List Int} (h:RuQ s i f zs) (hi:i < s.size) (hb:zdm s i=false):∃ f',RuQ s (i+wd s i) f' (zs++[((rn s i:Nat):Int)]):=by
 have hfu:=h.fu
 obtain ⟨g,rfl⟩:∃ g,f=g+1:=⟨f - 1,by omega⟩
 have hr:=h.rs
 have ho:=h.ok
 rw [zar s g i hi] at hr ho
 have hw:=zbv s i
 have hl:=h.ln
 refine ⟨g,zdg s i hi,by omega, ?_, ?_,by rw [List.length_append,List.length_singleton];omega⟩
 ·rw [hr,List.map_cons,List.append_assoc];rfl
 ·refine ho.trans ⟨fun q p hp =>q p (List.mem_cons_of_mem _ hp),fun q p hp =>?_⟩
  rcases List.mem_cons.1 hp with rfl | hp
  ·exact hb
  ·exact q p hp
theorem RuQ.bad {s:ByteArray} {i f:Nat} {zs:List Int} (h:RuQ s i f zs) (hi:i < s.size) (hb:zdm s i=true):okU s=false:=by
 have hfu:=h.fu
 obtain ⟨g,rfl⟩:∃ g,f=g+1:=⟨f - 1,by omega⟩
 have ho:=h.ok
 rw [zar s g i hi] at ho
 cases hk:okU s with
 | false =>rfl
 | true =>
  have:=ho.1 hk i (List.mem_cons_self ..)
  rw [hb] at this
  cases this
theorem RuQ.fin {s:ByteArray} {i f:Nat} {zs:List Int} (h:RuQ s i f zs) (hi:¬ i < s.size):okU s=true∧zak s=zs:=by
 have hr:=h.rs
 have ho:=h.ok
 rw [zaH s f i hi] at hr ho
 exact ⟨ho.2 (fun p hp =>by cases hp),by rw [hr];simp⟩
end
section
open Go.RowKit Go.Shelf
def zaG (list:Int) (n:Nat) (f:Nat→Int):Int × Int × Int :=
 match (List.range n).find? (fun j =>f j != 0) with
 | some k =>(f k,list,(k:Int))
 | none =>(0,0,0)
theorem zba {list:Int} {n:Nat} {f:Nat→Int} (k:Nat) (hk:k < n) (h0:∀ i,i < k→f i=0) (h1:f k≠0):zaG list n f=(f k,list,(k:Int)):=by
 have:(List.range n).find? (fun j =>f j != 0)=some k:=by
  rw [List.find?_range_eq_some]
  exact ⟨by simpa using h1,by simpa using hk,fun j hj =>by simp [h0 j hj]⟩
 unfold zaG
 rw [this]
theorem zbE {list:Int} {n:Nat} {f:Nat→Int} (h0:∀ i,i < n→f i=0):zaG list n f=(0,0,0):=by
 have:(List.range n).find? (fun j =>f j != 0)=none:=by
  rw [List.find?_eq_none]
  intro j hj
  simp [h0 j (by simpa using hj)]
 unfold zaG
 rw [this]
theorem zcm (list:Int) (n:Nat) (f:Nat→Int):(∃ k,k < n∧(∀ i,i < k→f i=0)∧f k≠0∧zaG list n f=(f k,list,(k:Int)))∨((∀ i,i < n→f i=0)∧zaG list n f=(0,0,0)):=by
 cases h:(List.range n).find? (fun j =>f j != 0) with
 | none =>
  refine .inr ⟨fun i hi =>?_,by unfold zaG;rw [h]⟩
  have:=List.find?_eq_none.1 h i (List.mem_range.2 hi)
  simpa using this
 | some k =>
  rw [List.find?_range_eq_some] at h
  obtain ⟨h1,h2,h3⟩:=h
  refine .inl ⟨k,by simpa using h2,fun i hi =>by simpa using h3 i hi,by simpa using h1,zba k (by simpa using h2) (fun i hi =>by simpa using h3 i hi) (by simpa using h1)⟩
def OkW (x:Int × Int × Int):Prop:=x.1=0→x=(0,0,0)
theorem zbN (list:Int) (n:Nat) (f:Nat→Int):OkW (zaG list n f):=by
 rcases zcm list n f with ⟨k,h1,h2,h3,e⟩ | ⟨h1,e⟩
 ·rw [e];intro h;exact absurd h h3
 ·rw [e];intro _;rfl
def orW:List (Int × Int × Int)→Int × Int × Int
 | [] =>(0,0,0)
 | x::r =>if x.1=0 then orW r else x
theorem zbu:∀ (l:List (Int × Int × Int)),OkW (orW l)
 | [] =>fun _ =>rfl
 | x::r =>by
  show OkW (if x.1=0 then orW r else x)
  by_cases h:x.1=0
  ·rw [if_pos h];exact zbu r
  ·rw [if_neg h];intro h';exact absurd h' h
theorem zad {x:Int × Int × Int} {r:List (Int × Int × Int)} (h:x.1=0):orW (x::r)=orW r:=by
 show (if x.1=0 then orW r else x)=orW r
 rw [if_pos h]
theorem zai {x:Int × Int × Int} {r:List (Int × Int × Int)} (h:x.1≠0):orW (x::r)=x:=by
 show (if x.1=0 then orW r else x)=x
 rw [if_neg h]
theorem zdc {l:List (Int × Int × Int)} (h:(orW l).1=0):∀ x ∈ l,x.1=0:=by
 induction l with
 | nil =>intro x hx;cases hx
 | cons y r ih =>
  by_cases hy:y.1=0
  ·rw [zad hy] at h
   intro x hx
   rcases List.mem_cons.1 hx with rfl | hx
   ·exact hy
   ·exact ih h x hx
  ·rw [zai hy] at h;exact absurd h hy
theorem za3 (l m:List (Int × Int × Int)):orW (l++m)=if (orW l).1=0 then orW m else orW l:=by
 induction l with
 | nil =>simp [orW]
 | cons y r ih =>
  by_cases hy:y.1=0
  ·rw [List.cons_append,zad hy,zad hy,ih]
  ·rw [List.cons_append,zai hy,zai hy,if_neg hy]
def zeb (list:Int) (n m:Nat):Int × Int × Int:=if n≤m then (0,0,0) else (4,list,(m:Int))
def zbL (T:TV):Int × Int × Int:=orW [zeb 1 T.sc.length 64,zaG 1 T.sc.length (fun i =>if 1024 < (T.sc.getD i (ByteArray.empty,[])).2.length then 4 else 0),zeb 2 T.co.length 1024,zeb 3 T.ma.length 512,zeb 4 T.pr.length 4096,zeb 5 T.fo.length 4096,zeb 6 T.lk.length 4096,zeb 7 T.dr.length 1024,zeb 8 T.al.length 1024]
def zbH (c:Nat):Bool:=decide (97≤c∧c≤122)
def zdi (s:ByteArray):Bool:=decide (1≤s.size∧s.size≤32) && (zbH (bt s 0) && (List.range s.size).all (fun i =>zbH (bt s i) || decide (bt s i=45∨(48≤bt s i∧bt s i≤57))))
def spW (list:Int) (l:List (Int × Int)):Int × Int × Int:=zaG list l.length (zaP l)
def scF (x:ByteArray × List (Int × Int)):Int:=if zdi x.1 then (spW 1 x.2).1 else 38
def maF (x:Int × Int):Int:=if zan x.1 then (if x.2 < 1∨254 < x.2 then 30 else 0) else 12
def prF (x:Int × Int × Int):Int:=if zan x.1 && (zan x.2.1 && zan x.2.2) then 0 else 12
def toB (s:ByteArray):Bool:=okU s && decide (1≤(zak s).length∧(zak s).length≤4)
def mpF (x:Int × ByteArray):Int:=if zan x.1 then (if toB x.2 then 0 else 35) else 12
def sc0:ByteArray × List (Int × Int):=(ByteArray.empty,[])
def ma0:Int × Int:=(0,0)
def pr0:Int × Int × Int:=(0,0,0)
def mp0:Int × ByteArray:=(0,ByteArray.empty)
def zaf {α : Type} (list:Int) (l:List α) (d : α) (f : α→Int):Int × Int × Int:=zaG list l.length (fun i =>f (l.getD i d))
def zbh (T:TV):Int × Int × Int:=orW [zaf 1 T.sc sc0 scF,spW 2 T.co,zaf 3 T.ma ma0 maF,zaf 4 T.pr pr0 prF,zaf 5 T.fo mp0 mpF,zaf 6 T.lk mp0 mpF,spW 7 T.dr,spW 8 T.al]
def twF {α β : Type} [BEq β] (l:List α) (d : α) (key : α→β) (i:Nat):Int:=if (l.take i).any (fun y =>key y == key (l.getD i d)) then 14 else 0
def twP (l:List (Int × Int × Int)) (i:Nat):Int:=if (l.take i).any (fun y =>decide (y.1=(l.getD i pr0).1∨(y.2.1=(l.getD i pr0).2.1∧y.2.2=(l.getD i pr0).2.2))) then 14 else 0
def za9 (T:TV):Int × Int × Int:=orW [zaG 1 T.sc.length (twF T.sc sc0 (fun x =>x.1.data.toList)),zaG 3 T.ma.length (twF T.ma ma0 (fun x =>x.1)),zaG 4 T.pr.length (twP T.pr),zaG 5 T.fo.length (twF T.fo mp0 (fun x =>x.1)),zaG 6 T.lk.length (twF T.lk mp0 (fun x =>x.1))]
def za7 (T:TV) (r:Int):Bool:=T.ma.any (fun x =>x.1 == r)
def zbC (T:TV) (r:Int):Option (Int × Int × Int):=T.pr.find? (fun x =>x.1 == r)
def zdn (T:TV) (r:Int):Bool:=T.pr.any (fun x =>x.1 == r)
def zdN (l:List (Int × ByteArray)) (r:Int):Bool:=l.any (fun x =>x.1 == r)
def zdl (T:TV) (r:Int):Int:=match T.ma.find? (fun x =>x.1 == r) with
 | some x =>x.2
 | none =>0
def prE (T:TV) (x:Int × Int × Int):Int:=if za7 T x.1 || (za7 T x.2.1 || !za7 T x.2.2) then 32 else 0
def zcu (T:TV):Nat→Int→Nat→Option Nat
 | 0,_,_ =>none
 | f+1,b,n =>match zbC T b with
  | none =>some n
  | some q =>zcu T f q.2.1 (n+1)
def prR (T:TV) (x:Int × Int × Int):Int:=match zcu T T.pr.length x.2.1 1 with
 | none =>33
 | some n =>if 4 < n then 34 else 0
def drB (T:TV) (r:Int):Bool:=zam T.dr r
def zaN (T:TV) (r:Int):Bool:=zan r && (!za7 T r && (!zdn T r && (!drB T r && !zdN T.fo r)))
def zb5 (T:TV):Int × Int × Int:=orW [zaf 3 T.ma ma0 (fun x =>if drB T x.1 then 37 else 0),zaf 4 T.pr pr0 (fun x =>if drB T x.1 || (drB T x.2.1 || drB T x.2.2) then 37 else 0),zaf 5 T.fo mp0 (fun x =>if drB T x.1 then 37 else 0),zaf 6 T.lk mp0 (fun x =>if drB T x.1 then 37 else 0)]
def zca (T:TV):Int × Int × Int:=orW [zaf 5 T.fo mp0 (fun x =>if za7 T x.1 || zdn T x.1 then 31 else 0),zaf 6 T.lk mp0 (fun x =>if za7 T x.1 || zdn T x.1 then 31 else 0)]
def zhI (T:TV):Int × Int × Int:=orW [zaf 5 T.fo mp0 (fun x =>if (zak x.2).any (fun r => !zaN T r) then 35 else 0),zaf 6 T.lk mp0 (fun x =>if (zak x.2).any (fun r => !zaN T r || zdN T.lk r) then 36 else 0)]
def ziv (r:Int):Bool:=decide (r < 32∨r=45∨r=46∨r=65533)
def zfO (r:Int):Bool:=decide (r < 128∨r=65533)
def zeC (s:ByteArray):Bool:=(zak s).any ziv
def zi9 (r:Int):Bool:=decide (r=45∨(48≤r∧r≤57)∨(97≤r∧r≤122))
def zbM (list:Int) (l:List (Int × Int)) (must:List Int):Int × Int × Int:=if must.all (fun r =>zam l r) then (0,0,0) else (5,list,0)
def comL:List Int := [45,46,48,49,50,51,52,53,54,55,56,57]
def labL:List Int := [45,48,49,50,51,52,53,54,55,56,57]++(List.range 26).map (fun k =>((97+k:Nat):Int))
def drF (x:Int × Int):Int:=if x.1 < 128∨(x.1≤65533∧65533≤x.2) then 5 else 0
def alF (x:Int × Int):Int:=if (List.range 128).any (fun k =>decide (x.1≤(k:Int)∧(k:Int)≤x.2) && !zi9 k) then 5 else 0
def zcZ (T:TV):Int × Int × Int:=orW [zbM 2 T.co comL,zaf 3 T.ma ma0 (fun x =>if zfO x.1 then 5 else 0),zaf 4 T.pr pr0 (fun x =>if zfO x.1 then 5 else 0),zaf 5 T.fo mp0 (fun x =>if (zfO x.1 && decide (x.1 < 65∨90 < x.1)) || zeC x.2 then 5 else 0),zaf 6 T.lk mp0 (fun x =>if ziv x.1 || zeC x.2 then 5 else 0),zaf 7 T.dr ma0 drF,zaf 8 T.al ma0 alF,zbM 8 T.al labL]
def zbI (T:TV):Int × Int × Int:=zaf 4 T.pr pr0 (prE T)
def zc8 (T:TV):Int × Int × Int:=zaf 4 T.pr pr0 (prR T)
def zcJ (T:TV):Int × Int × Int:=orW [zbL T,zbh T,za9 T,zbI T,zc8 T,zb5 T,zca T,zhI T,zcZ T]
theorem zhw (T:TV):OkW (zcJ T):=zbu _
set_option maxRecDepth 100000
set_option maxHeartbeats 8000000
def wrV (x:Int × Int × Int):Value := .agg #[.int .i64 x.1,.int .i64 x.2.1,.int .i64 x.2.2]
theorem zaF (b:Bool) (y:Int) (w:World):Calls Tryz.prog 106 #[.bool b,.int .i64 y] w fun e w' =>e=.returned (.int .i64 (if b=true then y else 0))∧w'=w:=by
 go_enter Tryz.func106,Tryz.ntmps106
 cases b <;> go_wp2 <;> go_ret <;> exact ⟨rfl,rfl⟩
theorem zb3 (list:Int) (n m:Nat) (w:World):Calls Tryz.prog 103 #[.int .i64 list,.int .i64 n,.int .i64 m] w fun e w' =>e=.returned (wrV (zeb list n m))∧Below w.heap.size w w':=by
 have hB:Below w.heap.size w (w.alloc (.cells #[.int .i64 0,.int .i64 0,.int .i64 0] 76)):=(Below.refl _ w).alloc (Nat.le_refl _) _
 by_cases h:n≤m
 ·have h':(n:Int)≤(m:Int):=by omega
  have e:zeb list n m=(0,0,0):=if_pos h
  rw [e]
  go_enter Tryz.func103,Tryz.ntmps103
  go_wp2
  exact bodyPost_ret (v:=wrV (0,0,0)) (by simp [results,Tryz.results103,go_sem,wrV]) rfl ⟨rfl,hB⟩
 ·have h':¬ (n:Int)≤(m:Int):=by omega
  have e:zeb list n m=(4,list,(m:Int)):=if_neg h
  rw [e]
  go_enter Tryz.func103,Tryz.ntmps103
  go_wp2
  exact bodyPost_ret (v:=wrV (4,list,(m:Int))) (by simp [results,Tryz.results103,go_sem,wrV]) rfl ⟨rfl,(Below.refl _ w).alloc (Nat.le_refl _) _⟩
theorem zcf {w:World} {R:Nat} {t:TypeId} {v0 v1 v2:Value} (hb:Blk w R #[v0,v1,v2] t) (x y z:Value):Blk (((w.setCell ⟨R,0,none⟩ x).setCell ⟨R,1,none⟩ y).setCell ⟨R,2,none⟩ z) R #[x,y,z] t:=((hb.set 0 x).set 1 y).set 2 z
theorem zb8 {fn:Func} {p:Tmp} {tmps:Array Value} {w:World} {R:Nat} {cs:Array Value} (h:fn.results=#[.cell p 76]) (hp:tmps.getD p undef=.pointer (some ⟨R,0,none⟩)) (hb:Blk w R cs 76) (hc:cs.size=3):(results fn tmps).run Tryz.prog w=.ok (.agg cs) w :=
 results_cell_row h tmps w R _ cs _ _ hp hb Tryz.underlying76 rfl (by rw [hc];kernel_rfl)
theorem zaW {lo R:Nat} {W w:World} (h:Below lo W w) (hl:lo≤R) (hs:lo≤w.heap.size) (x y z:Value):Below lo W (((w.setCell ⟨R,0,none⟩ x).setCell ⟨R,1,none⟩ y).setCell ⟨R,2,none⟩ z):=by
 have g1:=zaO w R 0 x
 have g2:=zaO (w.setCell ⟨R,0,none⟩ x) R 1 y
 have g3:=zaO ((w.setCell ⟨R,0,none⟩ x).setCell ⟨R,1,none⟩ y) R 2 z
 exact ((h.grown g1 hs (fun k hk =>by have:=Option.some.inj hk;omega)).grown g2 (Nat.le_trans hs g1.size) (fun k hk =>by have:=Option.some.inj hk;omega)).grown g3 (Nat.le_trans hs (Nat.le_trans g1.size g2.size)) (fun k hk =>by have:=Option.some.inj hk;omega)
def RwW (w:World) (g o:Nat) (l:List (Int × Int × Int)):Prop := ∀ j x,l[j]?=some x→w.cell? ⟨g,o+j*3,none⟩=some (.int .i64 x.1)∧w.cell? ⟨g,o+j*3+1,none⟩=some (.int .i64 x.2.1)∧w.cell? ⟨g,o+j*3+2,none⟩=some (.int .i64 x.2.2)
structure OrS (W w:World):Prop where
 bl:Below W.heap.size W w
 r:Blk w W.heap.size #[.int .i64 0,.int .i64 0,.int .i64 0] 76
 z:Blk w (W.heap.size+1) #[.int .i64 0,.int .i64 0,.int .i64 0] 76
theorem OrS.alloc {W w:World} (h:OrS W w) (o:Obj):OrS W (w.alloc o):=⟨h.bl.alloc h.bl.size o,h.r.alloc o,h.z.alloc o⟩
theorem zbT (l:List (Int × Int × Int)) (hl:l.length≤100) (hk:∀ x ∈ l,OkW x) (g o c:Nat) (w:World) (hg:g < w.heap.size) (hc:RwW w g o l) :
  Calls Tryz.prog 102 #[.slice (some ⟨g,o,none⟩) l.length c] w fun e w' =>e=.returned (wrV (orW l))∧Below w.heap.size w w':=by
 have hB0:Below w.heap.size w ((w.alloc (.cells #[.int .i64 0,.int .i64 0,.int .i64 0] 76)).alloc (.cells #[.int .i64 0,.int .i64 0,.int .i64 0] 76)):=((Below.refl _ w).alloc (Nat.le_refl _) _).alloc (by simp) _
 have bR:=(Blk.new w #[.int .i64 0,.int .i64 0,.int .i64 0] 76).alloc (.cells #[.int .i64 0,.int .i64 0,.int .i64 0] 76)
 have bZ:=Blk.new (w.alloc (.cells #[.int .i64 0,.int .i64 0,.int .i64 0] 76)) #[.int .i64 0,.int .i64 0,.int .i64 0] 76
 rw [World.size_alloc] at bZ
 have HS0:Hz (OrS w _):=kz ⟨hB0,bR,bZ⟩
 have HC:=kz hc
 have HK:=kz hk
 clear hB0 bR bZ hc hk
 go_enter Tryz.func102,Tryz.ntmps102
 go_wp2
 generalize (w.alloc (.cells #[.int .i64 0,.int .i64 0,.int .i64 0] 76)).alloc (.cells #[.int .i64 0,.int .i64 0,.int .i64 0] 76)=w1 at *
 go_loopw [5,8] (fun _ s8 wr => ∃ k:Nat,k≤l.length∧s8=.int .i64 k∧Hz (orW l=orW (l.drop k))∧Hz (OrS w wr)) (fun _ s8 _ =>l.length - (intOf s8).toNat)
 case atStart =>exact ⟨0,by omega,rfl,kz (by rw [List.drop_zero]),HS0⟩
 case round =>
  obtain ⟨k,hkl,rfl,HO,HS⟩:=hrel
  clear HS0
  by_cases hkn:k < l.length
  ·obtain ⟨x,hx⟩:∃ x,l[k]?=some x:=⟨_,List.getElem?_eq_getElem hkn⟩
   have hd:l.drop k=x::l.drop (k+1):=by
    rw [List.drop_eq_getElem_cons hkn]
    congr 1
    exact Option.some.inj ((List.getElem?_eq_getElem hkn).symm.trans hx)
   obtain ⟨e0,e1,e2⟩:=oz HC k x hx
   have c0:wr.cell? ⟨g,o+k*3,none⟩=some (.int .i64 x.1):=((oz HS).bl.cell (p:=⟨g,o+k*3,none⟩) hg).trans e0
   have c1:wr.cell? ⟨g,o+k*3+1,none⟩=some (.int .i64 x.2.1):=((oz HS).bl.cell (p:=⟨g,o+k*3+1,none⟩) hg).trans e1
   have c2:wr.cell? ⟨g,o+k*3+2,none⟩=some (.int .i64 x.2.2):=((oz HS).bl.cell (p:=⟨g,o+k*3+2,none⟩) hg).trans e2
   have hk1:(k:Int) < (l.length:Int):=by omega
   have hk2:((k:Nat):Int).toNat=k:=by omega
   clear e0 e1 e2
   by_cases hx0:x.1=0
   ·have HO2:Hz (orW l=orW (l.drop (k+1))):=kz (by rw [oz HO,hd,zad hx0])
    obtain rfl:=oz HK x (List.mem_of_getElem? hx) hx0
    dsimp only at c0 c1 c2
    have HS2:=kz ((oz HS).alloc (.cells #[.int .i64 0,.int .i64 0,.int .i64 0] 76))
    have z0:=(oz HS2).z.cell 0
    have z1:=(oz HS2).z.cell 1
    have z2:=(oz HS2).z.cell 2
    clear hx hd hx0 HO HS
    go_wp2_with fail
    exact ⟨⟨k+1,by omega,by go_num,HO2,HS2⟩,by simp [intOf];omega⟩
   ·have HO2:Hz (orW l=x):=kz (by rw [oz HO,hd,zai hx0])
    obtain ⟨x0,x1,x2⟩:=x
    dsimp only at c0 c1 c2 hx0
    have HS2:=kz ((oz HS).alloc (.cells #[.int .i64 x0,.int .i64 x1,.int .i64 x2] 76))
    have z0:=(oz HS2).z.cell 0
    have z1:=(oz HS2).z.cell 1
    have z2:=(oz HS2).z.cell 2
    have r0:=(oz HS2).r.cell 0
    have r1:=(oz HS2).r.cell 1
    have r2:=(oz HS2).r.cell 2
    have f0:=(oz HS2).r.frozen 0
    have f1:=(oz HS2).r.frozen 1
    have f2:=(oz HS2).r.frozen 2
    have q0:(x0 == 0)=false:=by simpa using hx0
    clear hx hd hx0 HO HS
    go_wp2_with fail
    rw [oz HO2]
    exact bodyPost_ret (v:=wrV (x0,x1,x2)) (zb8 Tryz.results102 rfl (zcf (oz HS2).r _ _ _) rfl) rfl ⟨rfl,zaW (oz HS2).bl (Nat.le_refl _) (oz HS2).bl.size _ _ _⟩
  ·have hk1:¬ (k:Int) < (l.length:Int):=by omega
   have HO2:Hz (orW l=(0,0,0)):=kz (by rw [oz HO,List.drop_of_length_le (by omega)];rfl)
   have z0:=(oz HS).z.cell 0
   have z1:=(oz HS).z.cell 1
   have z2:=(oz HS).z.cell 2
   have r0:=(oz HS).r.cell 0
   have r1:=(oz HS).r.cell 1
   have r2:=(oz HS).r.cell 2
   have f0:=(oz HS).r.frozen 0
   have f1:=(oz HS).r.frozen 1
   have f2:=(oz HS).r.frozen 2
   go_wp2_with fail
   rw [oz HO2]
   exact bodyPost_ret (v:=wrV (0,0,0)) (zb8 Tryz.results102 rfl (zcf (oz HS).r _ _ _) rfl) rfl ⟨rfl,zaW (oz HS).bl (Nat.le_refl _) (oz HS).bl.size _ _ _⟩
end
end Go.Proofs.YtmemedpoaocdkaaGreat
