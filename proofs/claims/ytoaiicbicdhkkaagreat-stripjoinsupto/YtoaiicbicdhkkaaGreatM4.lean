/- Texts of this claim, one behind the other. -/
import Derived.Test.YtoaiicbicdhkkaaGreatM3
import Derived.Test.YtoaiicbicdhkkaaGreatM2
import Derived.Maps.OwnSet
import Derived.Test.YtoaiicbicdhkkaaGreatM1
import Derived.Lib.TrimUEq
import Derived.KernelRfl
import Derived.Deep.RegionHeld3
/- In of a set. -/
namespace Go.Proofs.YtoaiicbicdhkkaaGreat
open Go.RowKit Go.Shelf
set_option linter.unusedVariables false

def zak (zs:List (Int × Int)) (r:Int):Bool:=zs.any (fun x =>decide (x.1≤r∧r≤x.2)) && zaj r
theorem mem_cut {zs:List (Int × Int)} (h:Spread zs) {r:Int} {k:Nat} (hc:Cut (fun x =>x.2) zs r k):zs.any (fun x =>decide (x.1≤r∧r≤x.2))=match zs[k]? with
  | some x =>decide (x.1≤r)
  | none =>false:=by
 obtain ⟨h1,h2,h3⟩:=hc
 cases hk:zs[k]? with
 | none =>
  rw [List.any_eq_false]
  intro x hx
  obtain ⟨i,hi,rfl⟩:=List.mem_iff_getElem.1 hx
  have hkl:=List.getElem?_eq_none_iff.1 hk
  have:zs[i].2 < r:=h2 i _ (by omega) (List.getElem?_eq_getElem hi)
  simp;omega
 | some y =>
  have hy:r≤y.2:=h3 k y (Nat.le_refl _) hk
  by_cases hl:y.1≤r
  ·show _=decide (y.1≤r)
   rw [decide_eq_true hl,List.any_eq_true]
   exact ⟨y,List.mem_of_getElem? hk,decide_eq_true ⟨hl,hy⟩⟩
  ·show _=decide (y.1≤r)
   rw [decide_eq_false hl,List.any_eq_false]
   intro x hx
   obtain ⟨i,hi,rfl⟩:=List.mem_iff_getElem.1 hx
   have hxe:=List.getElem?_eq_getElem hi
   by_cases h4:i < k
   ·have:zs[i].2 < r:=h2 i _ h4 hxe
    simp;omega
   ·by_cases h5:i=k
    ·subst h5
     rw [hxe] at hk
     cases hk
     simp;omega
    ·have:=h.lt k i y zs[i] (by omega) hk hxe
     have:=(h.ends y (List.mem_of_getElem? hk)).2
     simp;omega

set_option maxRecDepth 100000 in
set_option maxHeartbeats 4000000 in
theorem zjd (B:Nat) (zs:List (Int × Int)) (r:Int) (w:World) (hs:SetAt w B zs) :
  Calls Tryz.prog 53 #[.pointer (some ⟨B,0,none⟩),.int .i32 r] w fun e w' =>e=.returned (.bool (zak zs r))∧Below w.heap.size w w':=by
 obtain ⟨⟨a,ca,b,cb,hb0,hp,ha⟩,hsp,hl⟩:=hs
 have d0:=hb0.cell 0
 have HQ:=kz (fun w hr =>zjx a ca zs (by omega) r (fun i j x y =>hsp.his i j x y) w hr)
 have HP:=kz hp
 have HBk:=kz hb0
 have HS:=kz hsp
 have hwr:=zcq r
 clear hp ha hsp hb0
 go_enter Tryz.func53,Tryz.ntmps53
 go_wp2_with fail
 refine (oz HQ _ (oz HP)).mono ?_
 rintro e w2 ⟨k,bb,rfl,hcut,hb⟩
 have HB:=kz hb
 have hmc:=mem_cut (oz HS) hcut
 have e0:=((oz HBk).below hb (oz HBk).lt).cell 0
 have HP2:=kz ((oz HP).below hb)
 have hk:=hcut.1
 have HV:Hz (zak zs r=(match zs[k]? with | some x =>decide (x.1≤r) | none =>false && zaj r))∨True := .inr trivial
 clear hb hcut HV
 by_cases hkn:k < zs.length
 ·obtain ⟨x,hx⟩:∃ x,zs[k]?=some x:=⟨_,List.getElem?_eq_getElem hkn⟩
  obtain ⟨g,o,rfl,hg,hc⟩:=oz HP2 (by omega)
  have c0:=(hc k x hx).1
  have c1:=(hc k x hx).2
  rw [hx] at hmc
  have hk1:(k:Int) < (zs.length:Int):=by omega
  have hk2:((k:Nat):Int).toNat=k:=by omega
  obtain ⟨lo,hi⟩:=x
  simp only at c0 c1 hmc
  clear hc hx
  by_cases hlr:lo≤r
  ·have HV:Hz (zak zs r=zaj r):=kz (by unfold zak;rw [hmc,decide_eq_true hlr];rfl)
   cases hru:zaj r with
   | true =>
    rw [hru] at HV hwr
    have hw0:(zaw r == 0)=false:=hwr
    have hw1:(zaw r != 0)=true:=by unfold bne;rw [hw0];rfl
    clear hmc hwr hru
    go_wp2_with (go_at_call 56;refine (zbk _ _).mono ?_;rintro e w' ⟨rfl,rfl⟩)
    go_ret
    exact ⟨by rw [oz HV];rfl,oz HB⟩
   | false =>
    rw [hru] at HV hwr
    have hw0:(zaw r == 0)=true:=hwr
    have hw1:(zaw r != 0)=false:=by unfold bne;rw [hw0];rfl
    clear hmc hwr hru
    go_wp2_with (go_at_call 56;refine (zbk _ _).mono ?_;rintro e w' ⟨rfl,rfl⟩)
    go_ret
    exact ⟨by rw [oz HV];rfl,oz HB⟩
  ·have HV:Hz (zak zs r=false):=kz (by unfold zak;rw [hmc,decide_eq_false hlr];rfl)
   clear hmc hwr
   go_wp2_with (go_at_call 56;refine (zbk _ _).mono ?_;rintro e w' ⟨rfl,rfl⟩)
   go_ret
   exact ⟨by rw [oz HV];rfl,oz HB⟩
 ·have hk1:¬ (k:Int) < (zs.length:Int):=by omega
  rw [List.getElem?_eq_none (by omega)] at hmc
  have HV:Hz (zak zs r=false):=kz (by unfold zak;rw [hmc];rfl)
  clear hmc hwr
  go_wp2
  go_ret
  exact ⟨by rw [oz HV];rfl,oz HB⟩
end Go.Proofs.YtoaiicbicdhkkaaGreat
namespace Go.Proofs.YtoaiicbicdhkkaaGreat
open Go.RowKit Go.Shelf Go.Maps
set_option linter.unusedVariables false
end Go.Proofs.YtoaiicbicdhkkaaGreat
namespace Go.Proofs.YtoaiicbicdhkkaaGreat
open Go.RowKit Go.Shelf
set_option linter.unusedVariables false
end Go.Proofs.YtoaiicbicdhkkaaGreat
namespace Go.Proofs.YtoaiicbicdhkkaaGreat
open Go.RowKit Go.Shelf
open Go.Lib (decodeN decode_at)
set_option linter.unusedVariables false

theorem zkQ (s:ByteArray) (i:Nat):zaw ((rn s i:Nat):Int)≠0:=by
 have t:=zeT s i
 have h1:=t.small
 have h2:=t.nosur
 unfold zaw
 simp only [rn]
 rw [if_neg (by omega)]
 repeat' split
 all_goals decide
end Go.Proofs.YtoaiicbicdhkkaaGreat
namespace Go.Proofs.YtoaiicbicdhkkaaGreat
open Go.RowKit Go.Shelf
set_option linter.unusedVariables false
end Go.Proofs.YtoaiicbicdhkkaaGreat
namespace Go.Proofs.YtoaiicbicdhkkaaGreat
open Go.RowKit Go.Shelf
open Go.Lib (decode_at)
set_option linter.unusedVariables false
end Go.Proofs.YtoaiicbicdhkkaaGreat
namespace Go.Proofs.YtoaiicbicdhkkaaGreat
open Go.RowKit Go.Shelf
set_option linter.unusedVariables false
theorem zeV (s:ByteArray):∀ f i,Lib.validGoD f (s.data.toList.drop i)=true ↔ ∀ p ∈ zal s f i,zfc s p=false
 | 0,i =>⟨fun _ p hp =>(by cases hp),fun _ =>rfl⟩
 | f+1,i =>by
  have hl:(s.data.toList.drop i).length=s.size - i:=by rw [List.length_drop,Array.length_toList];rfl
  unfold Lib.validGoD
  by_cases hi:i < s.size
  ·have hne:¬ s.data.toList.drop i=[]:=fun e =>by rw [e] at hl;have:([] : List UInt8).length=0:=rfl;omega
   rw [if_neg hne,zaF s f i hi,Lib.decodeL_drop,List.drop_drop]
   by_cases hb:rn s i=65533∧wd s i=1
   ·rw [if_pos hb]
    exact ⟨fun h =>(by cases h),fun h =>by have:=h i (List.mem_cons_self ..);unfold zfc at this;rw [decide_eq_true hb] at this;cases this⟩
   ·rw [if_neg hb]
    have ih:=zeV s f (i+wd s i)
    refine ih.trans ⟨fun h p hp =>?_,fun h p hp =>h p (List.mem_cons_of_mem _ hp)⟩
    rcases List.mem_cons.1 hp with rfl | hp
    ·unfold zfc;exact decide_eq_false hb
    ·exact h p hp
  ·have hne:s.data.toList.drop i=[]:=List.length_eq_zero_iff.1 (by omega)
   rw [if_pos hne,zaZ s _ i hi]
   exact ⟨fun _ p hp =>(by cases hp),fun _ =>rfl⟩
end Go.Proofs.YtoaiicbicdhkkaaGreat
namespace Go.Proofs.YtoaiicbicdhkkaaGreat
open Go.RowKit Go.Shelf
open Go.Lib (decode_at)
set_option linter.unusedVariables false
theorem dec0 (N b0 b1 b2 b3:Nat) (h:(128≤b0∧b0 < 192)∨(248≤b0∧b0 < 256)):Lib.decodeN N b0 b1 b2 b3=(65533,1):=by
 unfold Lib.decodeN
 repeat' split
 all_goals first | rfl | (exfalso;omega)
theorem dec1 (N b0 b1 b2 b3:Nat) (h0:192≤b0) (h1:b0 < 224) (hb:b1 < 256):Lib.decodeN N b0 b1 b2 b3=if (1 < N∧128≤b1∧b1 < 192)∧128≤(b0 - 192)*64+(b1 - 128) then ((b0 - 192)*64+(b1 - 128),2) else (65533,1):=by
 have e1:b0 % 32=b0 - 192:=by omega
 unfold Lib.decodeN
 rw [if_neg (by omega),e1]
 by_cases hc:1 < N∧128≤b1∧b1 < 192
 ·have e2:b1 % 64=b1 - 128:=by omega
  rw [if_pos (by omega),e2]
  by_cases hv:128≤(b0 - 192)*64+(b1 - 128)
  ·rw [if_pos hv,if_pos ⟨hc,hv⟩]
  ·rw [if_neg hv,if_neg (fun q =>hv q.2)]
 ·rw [if_neg (by omega),if_neg (by omega),if_neg (by omega),if_neg (fun q =>hc q.1)]
theorem dec2 (N b0 b1 b2 b3:Nat) (h0:224≤b0) (h1:b0 < 240) (hb:b1 < 256) (hb2:b2 < 256):Lib.decodeN N b0 b1 b2 b3=if ((1 < N∧128≤b1∧b1 < 192)∧(2 < N∧128≤b2∧b2 < 192))∧2048≤((b0 - 224)*64+(b1 - 128))*64+(b2 - 128)∧(((b0 - 224)*64+(b1 - 128))*64+(b2 - 128) < 55296∨57343 < ((b0 - 224)*64+(b1 - 128))*64+(b2 - 128)) then (((b0 - 224)*64+(b1 - 128))*64+(b2 - 128),3) else (65533,1):=by
 have e1:b0 % 16=b0 - 224:=by omega
 unfold Lib.decodeN
 rw [if_neg (by omega),if_neg (by omega),e1]
 by_cases hc:(1 < N∧128≤b1∧b1 < 192)∧(2 < N∧128≤b2∧b2 < 192)
 ·have e2:b1 % 64=b1 - 128:=by omega
  have e3:b2 % 64=b2 - 128:=by omega
  have e4:(b0 - 224)*4096+(b1 - 128)*64+(b2 - 128)=((b0 - 224)*64+(b1 - 128))*64+(b2 - 128):=by omega
  rw [if_pos (by omega),e2,e3,e4]
  generalize hv:((b0 - 224)*64+(b1 - 128))*64+(b2 - 128)=v
  have hv2:v < 65536:=by omega
  by_cases q:2048≤v∧(v < 55296∨57343 < v)
  ·rw [if_pos (by omega),if_pos ⟨hc,q⟩]
  ·rw [if_neg (by omega),if_neg (fun z =>q z.2)]
 ·rw [if_neg (by omega),if_neg (by omega),if_neg (fun q =>hc q.1)]
theorem dec3 (N b0 b1 b2 b3:Nat) (h0:240≤b0) (h1:b0 < 248) (hb:b1 < 256) (hb2:b2 < 256) (hb3:b3 < 256):Lib.decodeN N b0 b1 b2 b3=if ((1 < N∧128≤b1∧b1 < 192)∧(2 < N∧128≤b2∧b2 < 192)∧(3 < N∧128≤b3∧b3 < 192))∧65536≤(((b0 - 240)*64+(b1 - 128))*64+(b2 - 128))*64+(b3 - 128)∧(((b0 - 240)*64+(b1 - 128))*64+(b2 - 128))*64+(b3 - 128)≤1114111 then ((((b0 - 240)*64+(b1 - 128))*64+(b2 - 128))*64+(b3 - 128),4) else (65533,1):=by
 have e1:b0 % 8=b0 - 240:=by omega
 unfold Lib.decodeN
 rw [if_neg (by omega),if_neg (by omega),if_neg (by omega),e1]
 by_cases hc:(1 < N∧128≤b1∧b1 < 192)∧(2 < N∧128≤b2∧b2 < 192)∧(3 < N∧128≤b3∧b3 < 192)
 ·have e2:b1 % 64=b1 - 128:=by omega
  have e3:b2 % 64=b2 - 128:=by omega
  have e5:b3 % 64=b3 - 128:=by omega
  have e4:(b0 - 240)*262144+(b1 - 128)*4096+(b2 - 128)*64+(b3 - 128)=(((b0 - 240)*64+(b1 - 128))*64+(b2 - 128))*64+(b3 - 128):=by omega
  rw [if_pos (by omega),e2,e3,e5,e4]
  generalize hv:(((b0 - 240)*64+(b1 - 128))*64+(b2 - 128))*64+(b3 - 128)=v
  by_cases q:65536≤v∧v≤1114111
  ·rw [if_pos (by omega),if_pos ⟨hc,q⟩]
  ·rw [if_neg (by omega),if_neg (fun z =>q z.2)]
 ·rw [if_neg (by omega),if_neg (fun q =>hc q.1)]
def zct (s:ByteArray) (i base:Nat):Nat→Nat
 | 0 =>bt s i - base
 | k+1 =>zct s i base k*64+(bt s (i+(k+1)) - 128)
def zeQ (s:ByteArray) (j:Nat):Prop:=j < s.size∧128≤bt s j∧bt s j < 192
theorem zgH (s:ByteArray) (i base:Nat) (h:bt s i - base < 32):∀ k,(∀ q,1≤q→q≤k→zeQ s (i+q))→zct s i base k < 32*64 ^ k
 | 0,_ =>by rw [Nat.pow_zero,Nat.mul_one];exact h
 | k+1,hc =>by
  have ih:=zgH s i base h k (fun q h1 h2 =>hc q h1 (by omega))
  have hb:=hc (k+1) (by omega) (by omega)
  unfold zeQ at hb
  have e:zct s i base (k+1)=zct s i base k*64+(bt s (i+(k+1)) - 128):=rfl
  rw [e,Nat.pow_succ]
  generalize 64 ^ k=P at *
  omega
def cls (n:Nat):Nat × Nat × Nat:=match n with
 | 1 =>(192,224,128)
 | 2 =>(224,240,2048)
 | _ =>(240,248,65536)
def zdf (v:Nat):Bool:=decide (v≤1114111∧(v < 55296∨57343 < v))
theorem ziz {P C:Prop} [Decidable P] {a b:Nat × Nat} (h:P ↔ C):(C→(if P then a else b)=a)∧(¬ C→(if P then a else b)=b):=⟨fun q =>if_pos (h.2 q),fun q =>if_neg (fun z =>q (h.1 z))⟩
theorem dec_cls (s:ByteArray) (i n:Nat) (hn:n=1∨n=2∨n=3) (h0:(cls n).1≤bt s i) (h1:bt s i < (cls n).2.1) :
  ((∀ q,1≤q→q≤n→zeQ s (i+q))∧(cls n).2.2≤zct s i (cls n).1 n∧zdf (zct s i (cls n).1 n)=true→Utf8.decode s i=(zct s i (cls n).1 n,n+1))∧(¬ ((∀ q,1≤q→q≤n→zeQ s (i+q))∧(cls n).2.2≤zct s i (cls n).1 n∧zdf (zct s i (cls n).1 n)=true)→Utf8.decode s i=(65533,1)):=by
 rw [decode_at]
 have hb:=fun j =>zf9 s j
 have ed:Lib.decodeN (s.size - i) (s.get! i).toNat (s.get! (i+1)).toNat (s.get! (i+2)).toNat (s.get! (i+3)).toNat=Lib.decodeN (s.size - i) (bt s i) (bt s (i+1)) (bt s (i+2)) (bt s (i+3)):=rfl
 rw [ed]
 have q1:=hb (i+1)
 have q2:=hb (i+2)
 have q3:=hb (i+3)
 rcases hn with rfl | rfl | rfl
 ·have e:zct s i (cls 1).1 1=(bt s i - 192)*64+(bt s (i+1) - 128):=rfl
  rw [dec1 _ _ _ _ _ h0 h1 q1,e]
  generalize bt s i=b0 at *
  have hc:(∀ q,1≤q→q≤1→zeQ s (i+q)) ↔ (1 < s.size - i∧128≤bt s (i+1)∧bt s (i+1) < 192):=by
   constructor
   ·intro h;have:=h 1 (by omega) (by omega);unfold zeQ at this;omega
   ·intro h q a b;obtain rfl:q=1:=by omega
    unfold zeQ;omega
  generalize bt s (i+1)=b1 at *
  have hv:(b0 - 192)*64+(b1 - 128) < 55296∨¬ (1 < s.size - i∧128≤b1∧b1 < 192):=by
   have h1':b0 < 224:=h1
   omega
  generalize (b0 - 192)*64+(b1 - 128)=v at *
  refine ziz ?_
  rw [hc]
  unfold zdf
  rw [decide_eq_true_iff]
  show _∧128≤v ↔ _∧128≤v∧_
  constructor
  ·rintro ⟨a,b⟩;exact ⟨a,b,by rcases hv with q | q;omega;exact absurd a q⟩
  ·rintro ⟨a,b,_⟩;exact ⟨a,b⟩
 ·have e:zct s i (cls 2).1 2=((bt s i - 224)*64+(bt s (i+1) - 128))*64+(bt s (i+2) - 128):=rfl
  rw [dec2 _ _ _ _ _ h0 h1 q1 q2,e]
  generalize bt s i=b0 at *
  have hc:(∀ q,1≤q→q≤2→zeQ s (i+q)) ↔ ((1 < s.size - i∧128≤bt s (i+1)∧bt s (i+1) < 192)∧(2 < s.size - i∧128≤bt s (i+2)∧bt s (i+2) < 192)):=by
   constructor
   ·intro h;have a:=h 1 (by omega) (by omega);have b:=h 2 (by omega) (by omega);unfold zeQ at a b;omega
   ·intro h q a b
    rcases (by omega:q=1∨q=2) with rfl | rfl <;> (unfold zeQ;omega)
  generalize bt s (i+1)=b1 at *
  generalize bt s (i+2)=b2 at *
  have hv:((b0 - 224)*64+(b1 - 128))*64+(b2 - 128)≤65535∨¬ ((1 < s.size - i∧128≤b1∧b1 < 192)∧(2 < s.size - i∧128≤b2∧b2 < 192)):=by
   have h1':b0 < 240:=h1
   omega
  generalize ((b0 - 224)*64+(b1 - 128))*64+(b2 - 128)=v at *
  refine ziz ?_
  rw [hc]
  unfold zdf
  rw [decide_eq_true_iff]
  show _∧2048≤v∧_ ↔ _∧2048≤v∧_
  constructor
  ·rintro ⟨a,b,c⟩;exact ⟨a,b,by rcases hv with q | q;exact ⟨by omega,c⟩;exact absurd a q⟩
  ·rintro ⟨a,b,c⟩;exact ⟨a,b,c.2⟩
 ·have e:zct s i (cls 3).1 3=(((bt s i - 240)*64+(bt s (i+1) - 128))*64+(bt s (i+2) - 128))*64+(bt s (i+3) - 128):=rfl
  rw [dec3 _ _ _ _ _ h0 h1 q1 q2 q3,e]
  generalize bt s i=b0 at *
  have hc:(∀ q,1≤q→q≤3→zeQ s (i+q)) ↔ ((1 < s.size - i∧128≤bt s (i+1)∧bt s (i+1) < 192)∧(2 < s.size - i∧128≤bt s (i+2)∧bt s (i+2) < 192)∧(3 < s.size - i∧128≤bt s (i+3)∧bt s (i+3) < 192)):=by
   constructor
   ·intro h;have a:=h 1 (by omega) (by omega);have b:=h 2 (by omega) (by omega);have c:=h 3 (by omega) (by omega);unfold zeQ at a b c;omega
   ·intro h q a b
    rcases (by omega:q=1∨q=2∨q=3) with rfl | rfl | rfl <;> (unfold zeQ;omega)
  generalize bt s (i+1)=b1 at *
  generalize bt s (i+2)=b2 at *
  generalize bt s (i+3)=b3 at *
  generalize (((b0 - 240)*64+(b1 - 128))*64+(b2 - 128))*64+(b3 - 128)=v at *
  refine ziz ?_
  rw [hc]
  unfold zdf
  rw [decide_eq_true_iff]
  show _∧65536≤v∧_ ↔ _∧65536≤v∧_
  constructor
  ·rintro ⟨a,b,c⟩;exact ⟨a,b,by omega⟩
  ·rintro ⟨a,b,c⟩;exact ⟨a,b,by omega⟩
theorem dec_asc (s:ByteArray) (i:Nat) (h:bt s i < 128):rn s i=bt s i∧wd s i=1∧zfc s i=false:=by
 have e:Utf8.decode s i=(bt s i,1):=by
  rw [decode_at]
  show Lib.decodeN _ (bt s i) _ _ _=_
  unfold Lib.decodeN
  rw [if_pos h]
 refine ⟨by unfold rn;rw [e],by unfold wd;rw [e], ?_⟩
 unfold zfc rn wd
 rw [e]
 exact decide_eq_false (by dsimp only;omega)
theorem zjg (s:ByteArray) (i:Nat) (h:(128≤bt s i∧bt s i < 192)∨248≤bt s i):zfc s i=true:=by
 have hb:=zf9 s i
 have e:Utf8.decode s i=(65533,1):=by
  rw [decode_at]
  exact dec0 _ _ _ _ _ (by show (128≤bt s i∧bt s i < 192)∨(248≤bt s i∧bt s i < 256);omega)
 unfold zfc rn wd
 rw [e]
 rfl
theorem ziK (s:ByteArray) (i n:Nat) (hn:n=1∨n=2∨n=3) (h0:(cls n).1≤bt s i) (h1:bt s i < (cls n).2.1) (hc:∀ q,1≤q→q≤n→zeQ s (i+q)) (hl:(cls n).2.2≤zct s i (cls n).1 n) (hs:zdf (zct s i (cls n).1 n)=true):rn s i=zct s i (cls n).1 n∧wd s i=n+1∧zfc s i=false:=by
 have e:=(dec_cls s i n hn h0 h1).1 ⟨hc,hl,hs⟩
 refine ⟨by unfold rn;rw [e],by unfold wd;rw [e], ?_⟩
 unfold zfc rn wd
 rw [e]
 exact decide_eq_false (by dsimp only;omega)
theorem zcD (s:ByteArray) (i n:Nat) (hn:n=1∨n=2∨n=3) (h0:(cls n).1≤bt s i) (h1:bt s i < (cls n).2.1) (hc:¬ ((∀ q,1≤q→q≤n→zeQ s (i+q))∧(cls n).2.2≤zct s i (cls n).1 n∧zdf (zct s i (cls n).1 n)=true)):zfc s i=true:=by
 have e:=(dec_cls s i n hn h0 h1).2 hc
 unfold zfc rn wd
 rw [e]
 rfl
def okU (s:ByteArray):Bool:=Lib.validD s.data.toList
theorem zij {s:ByteArray}:okU s=true ↔ ∀ p ∈ zav s,zfc s p=false:=zeV s s.size 0
structure RuQ (s:ByteArray) (i f:Nat) (zs:List Int):Prop where
 le:i≤s.size
 fu:s.size≤i+f
 rs:zah s=zs++(zal s f i).map (fun p =>((rn s p:Nat):Int))
 ok:okU s=true ↔ ∀ p ∈ zal s f i,zfc s p=false
 ln:zs.length≤i
theorem RuQ.start (s:ByteArray):RuQ s 0 s.size []:=⟨Nat.zero_le _,by omega,rfl,zij,Nat.le_refl _⟩
theorem RuQ.next {s:ByteArray} {i f:Nat} {zs:List Int} (h:RuQ s i f zs) (hi:i < s.size) (hb:zfc s i=false):∃ f',RuQ s (i+wd s i) f' (zs++[((rn s i:Nat):Int)]):=by
 have hfu:=h.fu
 obtain ⟨g,rfl⟩:∃ g,f=g+1:=⟨f - 1,by omega⟩
 have hr:=h.rs
 have ho:=h.ok
 rw [zaF s g i hi] at hr ho
 have hw:=zcW s i
 have hl:=h.ln
 refine ⟨g,zeB s i hi,by omega, ?_, ?_,by rw [List.length_append,List.length_singleton];omega⟩
 ·rw [hr,List.map_cons,List.append_assoc];rfl
 ·refine ho.trans ⟨fun q p hp =>q p (List.mem_cons_of_mem _ hp),fun q p hp =>?_⟩
  rcases List.mem_cons.1 hp with rfl | hp
  ·exact hb
  ·exact q p hp
theorem RuQ.bad {s:ByteArray} {i f:Nat} {zs:List Int} (h:RuQ s i f zs) (hi:i < s.size) (hb:zfc s i=true):okU s=false:=by
 have hfu:=h.fu
 obtain ⟨g,rfl⟩:∃ g,f=g+1:=⟨f - 1,by omega⟩
 have ho:=h.ok
 rw [zaF s g i hi] at ho
 cases hk:okU s with
 | false =>rfl
 | true =>
  have:=ho.1 hk i (List.mem_cons_self ..)
  rw [hb] at this
  cases this
theorem RuQ.fin {s:ByteArray} {i f:Nat} {zs:List Int} (h:RuQ s i f zs) (hi:¬ i < s.size):okU s=true∧zah s=zs:=by
 have hr:=h.rs
 have ho:=h.ok
 rw [zaZ s f i hi] at hr ho
 exact ⟨ho.2 (fun p hp =>by cases hp),by rw [hr];simp⟩
end Go.Proofs.YtoaiicbicdhkkaaGreat
namespace Go.Proofs.YtoaiicbicdhkkaaGreat
open Go.RowKit Go.Shelf
set_option linter.unusedVariables false
def zaz (list:Int) (n:Nat) (f:Nat→Int):Int × Int × Int :=
 match (List.range n).find? (fun j =>f j != 0) with
 | some k =>(f k,list,(k:Int))
 | none =>(0,0,0)
theorem za2 {list:Int} {n:Nat} {f:Nat→Int} (k:Nat) (hk:k < n) (h0:∀ i,i < k→f i=0) (h1:f k≠0):zaz list n f=(f k,list,(k:Int)):=by
 have:(List.range n).find? (fun j =>f j != 0)=some k:=by
  rw [List.find?_range_eq_some]
  exact ⟨by simpa using h1,by simpa using hk,fun j hj =>by simp [h0 j hj]⟩
 unfold zaz
 rw [this]
theorem zbs {list:Int} {n:Nat} {f:Nat→Int} (h0:∀ i,i < n→f i=0):zaz list n f=(0,0,0):=by
 have:(List.range n).find? (fun j =>f j != 0)=none:=by
  rw [List.find?_eq_none]
  intro j hj
  simp [h0 j (by simpa using hj)]
 unfold zaz
 rw [this]
theorem zdg (list:Int) (n:Nat) (f:Nat→Int):(∃ k,k < n∧(∀ i,i < k→f i=0)∧f k≠0∧zaz list n f=(f k,list,(k:Int)))∨((∀ i,i < n→f i=0)∧zaz list n f=(0,0,0)):=by
 cases h:(List.range n).find? (fun j =>f j != 0) with
 | none =>
  refine .inr ⟨fun i hi =>?_,by unfold zaz;rw [h]⟩
  have:=List.find?_eq_none.1 h i (List.mem_range.2 hi)
  simpa using this
 | some k =>
  rw [List.find?_range_eq_some] at h
  obtain ⟨h1,h2,h3⟩:=h
  refine .inl ⟨k,by simpa using h2,fun i hi =>by simpa using h3 i hi,by simpa using h1,za2 k (by simpa using h2) (fun i hi =>by simpa using h3 i hi) (by simpa using h1)⟩
def OkW (x:Int × Int × Int):Prop:=x.1=0→x=(0,0,0)
theorem zbA (list:Int) (n:Nat) (f:Nat→Int):OkW (zaz list n f):=by
 rcases zdg list n f with ⟨k,h1,h2,h3,e⟩ | ⟨h1,e⟩
 ·rw [e];intro h;exact absurd h h3
 ·rw [e];intro _;rfl
def orW:List (Int × Int × Int)→Int × Int × Int
 | [] =>(0,0,0)
 | x::r =>if x.1=0 then orW r else x
theorem zbj:∀ (l:List (Int × Int × Int)),OkW (orW l)
 | [] =>fun _ =>rfl
 | x::r =>by
  show OkW (if x.1=0 then orW r else x)
  by_cases h:x.1=0
  ·rw [if_pos h];exact zbj r
  ·rw [if_neg h];intro h';exact absurd h' h
theorem zad {x:Int × Int × Int} {r:List (Int × Int × Int)} (h:x.1=0):orW (x::r)=orW r:=by
 show (if x.1=0 then orW r else x)=orW r
 rw [if_pos h]
theorem zag {x:Int × Int × Int} {r:List (Int × Int × Int)} (h:x.1≠0):orW (x::r)=x:=by
 show (if x.1=0 then orW r else x)=x
 rw [if_neg h]
theorem zfi {l:List (Int × Int × Int)} (h:(orW l).1=0):∀ x ∈ l,x.1=0:=by
 induction l with
 | nil =>intro x hx;cases hx
 | cons y r ih =>
  by_cases hy:y.1=0
  ·rw [zad hy] at h
   intro x hx
   rcases List.mem_cons.1 hx with rfl | hx
   ·exact hy
   ·exact ih h x hx
  ·rw [zag hy] at h;exact absurd h hy
theorem zaU (l m:List (Int × Int × Int)):orW (l++m)=if (orW l).1=0 then orW m else orW l:=by
 induction l with
 | nil =>simp [orW]
 | cons y r ih =>
  by_cases hy:y.1=0
  ·rw [List.cons_append,zad hy,zad hy,ih]
  ·rw [List.cons_append,zag hy,zag hy,if_neg hy]
def zdI (list:Int) (n m:Nat):Int × Int × Int:=if n≤m then (0,0,0) else (4,list,(m:Int))
def zbx (T:TV):Int × Int × Int:=orW [zdI 1 T.sc.length 64,zaz 1 T.sc.length (fun i =>if 1024 < (T.sc.getD i (ByteArray.empty,[])).2.length then 4 else 0),zdI 2 T.co.length 1024,zdI 3 T.ma.length 512,zdI 4 T.pr.length 4096,zdI 5 T.fo.length 4096,zdI 6 T.lk.length 4096,zdI 7 T.dr.length 1024,zdI 8 T.al.length 1024]
def zbt (c:Nat):Bool:=decide (97≤c∧c≤122)
def zcR (s:ByteArray):Bool:=decide (1≤s.size∧s.size≤32) && (zbt (bt s 0) && (List.range s.size).all (fun i =>zbt (bt s i) || decide (bt s i=45∨(48≤bt s i∧bt s i≤57))))
def spW (list:Int) (l:List (Int × Int)):Int × Int × Int:=zaz list l.length (zaJ l)
def scF (x:ByteArray × List (Int × Int)):Int:=if zcR x.1 then (spW 1 x.2).1 else 38
def maF (x:Int × Int):Int:=if zaj x.1 then (if x.2 < 1∨254 < x.2 then 30 else 0) else 12
def prF (x:Int × Int × Int):Int:=if zaj x.1 && (zaj x.2.1 && zaj x.2.2) then 0 else 12
def toB (s:ByteArray):Bool:=okU s && decide (1≤(zah s).length∧(zah s).length≤4)
def mpF (x:Int × ByteArray):Int:=if zaj x.1 then (if toB x.2 then 0 else 35) else 12
def sc0:ByteArray × List (Int × Int):=(ByteArray.empty,[])
def ma0:Int × Int:=(0,0)
def pr0:Int × Int × Int:=(0,0,0)
def mp0:Int × ByteArray:=(0,ByteArray.empty)
def zaf {α : Type} (list:Int) (l:List α) (d : α) (f : α→Int):Int × Int × Int:=zaz list l.length (fun i =>f (l.getD i d))
def za8 (T:TV):Int × Int × Int:=orW [zaf 1 T.sc sc0 scF,spW 2 T.co,zaf 3 T.ma ma0 maF,zaf 4 T.pr pr0 prF,zaf 5 T.fo mp0 mpF,zaf 6 T.lk mp0 mpF,spW 7 T.dr,spW 8 T.al]
def twF {α β : Type} [BEq β] (l:List α) (d : α) (key : α→β) (i:Nat):Int:=if (l.take i).any (fun y =>key y == key (l.getD i d)) then 14 else 0
def twP (l:List (Int × Int × Int)) (i:Nat):Int:=if (l.take i).any (fun y =>decide (y.1=(l.getD i pr0).1∨(y.2.1=(l.getD i pr0).2.1∧y.2.2=(l.getD i pr0).2.2))) then 14 else 0
def za1 (T:TV):Int × Int × Int:=orW [zaz 1 T.sc.length (twF T.sc sc0 (fun x =>x.1.data.toList)),zaz 3 T.ma.length (twF T.ma ma0 (fun x =>x.1)),zaz 4 T.pr.length (twP T.pr),zaz 5 T.fo.length (twF T.fo mp0 (fun x =>x.1)),zaz 6 T.lk.length (twF T.lk mp0 (fun x =>x.1))]
def zaX (T:TV) (r:Int):Bool:=T.ma.any (fun x =>x.1 == r)
def zbq (T:TV) (r:Int):Option (Int × Int × Int):=T.pr.find? (fun x =>x.1 == r)
def zcV (T:TV) (r:Int):Bool:=T.pr.any (fun x =>x.1 == r)
def zdm (l:List (Int × ByteArray)) (r:Int):Bool:=l.any (fun x =>x.1 == r)
def zcU (T:TV) (r:Int):Int:=match T.ma.find? (fun x =>x.1 == r) with
 | some x =>x.2
 | none =>0
def prE (T:TV) (x:Int × Int × Int):Int:=if zaX T x.1 || (zaX T x.2.1 || !zaX T x.2.2) then 32 else 0
def zb9 (T:TV):Nat→Int→Nat→Option Nat
 | 0,_,_ =>none
 | f+1,b,n =>match zbq T b with
  | none =>some n
  | some q =>zb9 T f q.2.1 (n+1)
def prR (T:TV) (x:Int × Int × Int):Int:=match zb9 T T.pr.length x.2.1 1 with
 | none =>33
 | some n =>if 4 < n then 34 else 0
def drB (T:TV) (r:Int):Bool:=zak T.dr r
def zaH (T:TV) (r:Int):Bool:=zaj r && (!zaX T r && (!zcV T r && (!drB T r && !zdm T.fo r)))
def zbR (T:TV):Int × Int × Int:=orW [zaf 3 T.ma ma0 (fun x =>if drB T x.1 then 37 else 0),zaf 4 T.pr pr0 (fun x =>if drB T x.1 || (drB T x.2.1 || drB T x.2.2) then 37 else 0),zaf 5 T.fo mp0 (fun x =>if drB T x.1 then 37 else 0),zaf 6 T.lk mp0 (fun x =>if drB T x.1 then 37 else 0)]
def zbU (T:TV):Int × Int × Int:=orW [zaf 5 T.fo mp0 (fun x =>if zaX T x.1 || zcV T x.1 then 31 else 0),zaf 6 T.lk mp0 (fun x =>if zaX T x.1 || zcV T x.1 then 31 else 0)]
def zgI (T:TV):Int × Int × Int:=orW [zaf 5 T.fo mp0 (fun x =>if (zah x.2).any (fun r => !zaH T r) then 35 else 0),zaf 6 T.lk mp0 (fun x =>if (zah x.2).any (fun r => !zaH T r || zdm T.lk r) then 36 else 0)]
def zhk (r:Int):Bool:=decide (r < 32∨r=45∨r=46∨r=65533)
def ze6 (r:Int):Bool:=decide (r < 128∨r=65533)
def zd5 (s:ByteArray):Bool:=(zah s).any zhk
def zhU (r:Int):Bool:=decide (r=45∨(48≤r∧r≤57)∨(97≤r∧r≤122))
def zby (list:Int) (l:List (Int × Int)) (must:List Int):Int × Int × Int:=if must.all (fun r =>zak l r) then (0,0,0) else (5,list,0)
def comL:List Int := [45,46,48,49,50,51,52,53,54,55,56,57]
def labL:List Int := [45,48,49,50,51,52,53,54,55,56,57]++(List.range 26).map (fun k =>((97+k:Nat):Int))
def drF (x:Int × Int):Int:=if x.1 < 128∨(x.1≤65533∧65533≤x.2) then 5 else 0
def alF (x:Int × Int):Int:=if (List.range 128).any (fun k =>decide (x.1≤(k:Int)∧(k:Int)≤x.2) && !zhU k) then 5 else 0
def zcz (T:TV):Int × Int × Int:=orW [zby 2 T.co comL,zaf 3 T.ma ma0 (fun x =>if ze6 x.1 then 5 else 0),zaf 4 T.pr pr0 (fun x =>if ze6 x.1 then 5 else 0),zaf 5 T.fo mp0 (fun x =>if (ze6 x.1 && decide (x.1 < 65∨90 < x.1)) || zd5 x.2 then 5 else 0),zaf 6 T.lk mp0 (fun x =>if zhk x.1 || zd5 x.2 then 5 else 0),zaf 7 T.dr ma0 drF,zaf 8 T.al ma0 alF,zby 8 T.al labL]
def zbu (T:TV):Int × Int × Int:=zaf 4 T.pr pr0 (prE T)
def zcH (T:TV):Int × Int × Int:=zaf 4 T.pr pr0 (prR T)
def zcN (T:TV):Int × Int × Int:=orW [zbx T,za8 T,za1 T,zbu T,zcH T,zbR T,zbU T,zgI T,zcz T]
theorem zgx (T:TV):OkW (zcN T):=zbj _
def wrV (x:Int × Int × Int):Value := .agg #[.int .i64 x.1,.int .i64 x.2.1,.int .i64 x.2.2]
set_option maxRecDepth 100000 in
theorem zay (b:Bool) (y:Int) (w:World):Calls Tryz.prog 89 #[.bool b,.int .i64 y] w fun e w' =>e=.returned (.int .i64 (if b=true then y else 0))∧w'=w:=by
 go_enter Tryz.func89,Tryz.ntmps89
 cases b <;> go_wp2 <;> go_ret <;> exact ⟨rfl,rfl⟩
set_option maxRecDepth 100000 in
set_option maxHeartbeats 2000000 in
theorem zbP (list:Int) (n m:Nat) (w:World):Calls Tryz.prog 86 #[.int .i64 list,.int .i64 n,.int .i64 m] w fun e w' =>e=.returned (wrV (zdI list n m))∧Below w.heap.size w w':=by
 have hB:Below w.heap.size w (w.alloc (.cells #[.int .i64 0,.int .i64 0,.int .i64 0] 72)):=(Below.refl _ w).alloc (Nat.le_refl _) _
 by_cases h:n≤m
 ·have h':(n:Int)≤(m:Int):=by omega
  have e:zdI list n m=(0,0,0):=if_pos h
  rw [e]
  go_enter Tryz.func86,Tryz.ntmps86
  go_wp2
  exact bodyPost_ret (v:=wrV (0,0,0)) (by simp [results,Tryz.results86,go_sem,wrV]) rfl ⟨rfl,hB⟩
 ·have h':¬ (n:Int)≤(m:Int):=by omega
  have e:zdI list n m=(4,list,(m:Int)):=if_neg h
  rw [e]
  go_enter Tryz.func86,Tryz.ntmps86
  go_wp2
  exact bodyPost_ret (v:=wrV (4,list,(m:Int))) (by simp [results,Tryz.results86,go_sem,wrV]) rfl ⟨rfl,(Below.refl _ w).alloc (Nat.le_refl _) _⟩
theorem zbY {w:World} {R:Nat} {t:TypeId} {v0 v1 v2:Value} (hb:Blk w R #[v0,v1,v2] t) (x y z:Value):Blk (((w.setCell ⟨R,0,none⟩ x).setCell ⟨R,1,none⟩ y).setCell ⟨R,2,none⟩ z) R #[x,y,z] t:=((hb.set 0 x).set 1 y).set 2 z
theorem zbT {fn:Func} {p:Tmp} {tmps:Array Value} {w:World} {R:Nat} {cs:Array Value} (h:fn.results=#[.cell p 72]) (hp:tmps.getD p undef=.pointer (some ⟨R,0,none⟩)) (hb:Blk w R cs 72) (hc:cs.size=3):(results fn tmps).run Tryz.prog w=.ok (.agg cs) w :=
 results_cell_row h tmps w R _ cs _ _ hp hb Tryz.underlying72 rfl (by rw [hc];kernel_rfl)
theorem zaP {lo R:Nat} {W w:World} (h:Below lo W w) (hl:lo≤R) (hs:lo≤w.heap.size) (x y z:Value):Below lo W (((w.setCell ⟨R,0,none⟩ x).setCell ⟨R,1,none⟩ y).setCell ⟨R,2,none⟩ z):=by
 have g1:=zaI w R 0 x
 have g2:=zaI (w.setCell ⟨R,0,none⟩ x) R 1 y
 have g3:=zaI ((w.setCell ⟨R,0,none⟩ x).setCell ⟨R,1,none⟩ y) R 2 z
 exact ((h.grown g1 hs (fun k hk =>by have:=Option.some.inj hk;omega)).grown g2 (Nat.le_trans hs g1.size) (fun k hk =>by have:=Option.some.inj hk;omega)).grown g3 (Nat.le_trans hs (Nat.le_trans g1.size g2.size)) (fun k hk =>by have:=Option.some.inj hk;omega)
def RwW (w:World) (g o:Nat) (l:List (Int × Int × Int)):Prop := ∀ j x,l[j]?=some x→w.cell? ⟨g,o+j*3,none⟩=some (.int .i64 x.1)∧w.cell? ⟨g,o+j*3+1,none⟩=some (.int .i64 x.2.1)∧w.cell? ⟨g,o+j*3+2,none⟩=some (.int .i64 x.2.2)
structure OrS (W w:World):Prop where
 bl:Below W.heap.size W w
 r:Blk w W.heap.size #[.int .i64 0,.int .i64 0,.int .i64 0] 72
 z:Blk w (W.heap.size+1) #[.int .i64 0,.int .i64 0,.int .i64 0] 72
theorem OrS.alloc {W w:World} (h:OrS W w) (o:Obj):OrS W (w.alloc o):=⟨h.bl.alloc h.bl.size o,h.r.alloc o,h.z.alloc o⟩
set_option maxRecDepth 100000 in
set_option maxHeartbeats 2000000 in
theorem zbF (l:List (Int × Int × Int)) (hl:l.length≤100) (hk:∀ x ∈ l,OkW x) (g o c:Nat) (w:World) (hg:g < w.heap.size) (hc:RwW w g o l) :
  Calls Tryz.prog 85 #[.slice (some ⟨g,o,none⟩) l.length c] w fun e w' =>e=.returned (wrV (orW l))∧Below w.heap.size w w':=by
 have hB0:Below w.heap.size w ((w.alloc (.cells #[.int .i64 0,.int .i64 0,.int .i64 0] 72)).alloc (.cells #[.int .i64 0,.int .i64 0,.int .i64 0] 72)):=((Below.refl _ w).alloc (Nat.le_refl _) _).alloc (by simp) _
 have bR:=(Blk.new w #[.int .i64 0,.int .i64 0,.int .i64 0] 72).alloc (.cells #[.int .i64 0,.int .i64 0,.int .i64 0] 72)
 have bZ:=Blk.new (w.alloc (.cells #[.int .i64 0,.int .i64 0,.int .i64 0] 72)) #[.int .i64 0,.int .i64 0,.int .i64 0] 72
 rw [World.size_alloc] at bZ
 have HS0:Hz (OrS w _):=kz ⟨hB0,bR,bZ⟩
 have HC:=kz hc
 have HK:=kz hk
 clear hB0 bR bZ hc hk
 go_enter Tryz.func85,Tryz.ntmps85
 go_wp2
 generalize (w.alloc (.cells #[.int .i64 0,.int .i64 0,.int .i64 0] 72)).alloc (.cells #[.int .i64 0,.int .i64 0,.int .i64 0] 72)=w1 at *
 go_loopw [5,8] (fun _ s8 wr => ∃ k:Nat,k≤l.length∧s8=.int .i64 k∧Hz (orW l=orW (l.drop k))∧Hz (OrS w wr)) (fun _ s8 _ =>l.length - (intOf s8).toNat)
 case atStart =>exact ⟨0,by omega,rfl,kz (by rw [List.drop_zero]),HS0⟩
 case round =>
  obtain ⟨k,hkl,rfl,HO,HS⟩:=hrel
  clear HS0
  by_cases hkn:k < l.length
  ·obtain ⟨x,hx⟩:∃ x,l[k]?=some x:=⟨_,List.getElem?_eq_getElem hkn⟩
   have hd:l.drop k=x::l.drop (k+1):=by
    rw [List.drop_eq_getElem_cons hkn]
    congr 1
    exact Option.some.inj ((List.getElem?_eq_getElem hkn).symm.trans hx)
   obtain ⟨e0,e1,e2⟩:=oz HC k x hx
   have c0:wr.cell? ⟨g,o+k*3,none⟩=some (.int .i64 x.1):=((oz HS).bl.cell (p:=⟨g,o+k*3,none⟩) hg).trans e0
   have c1:wr.cell? ⟨g,o+k*3+1,none⟩=some (.int .i64 x.2.1):=((oz HS).bl.cell (p:=⟨g,o+k*3+1,none⟩) hg).trans e1
   have c2:wr.cell? ⟨g,o+k*3+2,none⟩=some (.int .i64 x.2.2):=((oz HS).bl.cell (p:=⟨g,o+k*3+2,none⟩) hg).trans e2
   have hk1:(k:Int) < (l.length:Int):=by omega
   have hk2:((k:Nat):Int).toNat=k:=by omega
   clear e0 e1 e2
   by_cases hx0:x.1=0
   ·have HO2:Hz (orW l=orW (l.drop (k+1))):=kz (by rw [oz HO,hd,zad hx0])
    obtain rfl:=oz HK x (List.mem_of_getElem? hx) hx0
    dsimp only at c0 c1 c2
    have HS2:=kz ((oz HS).alloc (.cells #[.int .i64 0,.int .i64 0,.int .i64 0] 72))
    have z0:=(oz HS2).z.cell 0
    have z1:=(oz HS2).z.cell 1
    have z2:=(oz HS2).z.cell 2
    clear hx hd hx0 HO HS
    go_wp2_with fail
    exact ⟨⟨k+1,by omega,by go_num,HO2,HS2⟩,by simp [intOf];omega⟩
   ·have HO2:Hz (orW l=x):=kz (by rw [oz HO,hd,zag hx0])
    obtain ⟨x0,x1,x2⟩:=x
    dsimp only at c0 c1 c2 hx0
    have HS2:=kz ((oz HS).alloc (.cells #[.int .i64 x0,.int .i64 x1,.int .i64 x2] 72))
    have z0:=(oz HS2).z.cell 0
    have z1:=(oz HS2).z.cell 1
    have z2:=(oz HS2).z.cell 2
    have r0:=(oz HS2).r.cell 0
    have r1:=(oz HS2).r.cell 1
    have r2:=(oz HS2).r.cell 2
    have f0:=(oz HS2).r.frozen 0
    have f1:=(oz HS2).r.frozen 1
    have f2:=(oz HS2).r.frozen 2
    have q0:(x0 == 0)=false:=by simpa using hx0
    clear hx hd hx0 HO HS
    go_wp2_with fail
    rw [oz HO2]
    exact bodyPost_ret (v:=wrV (x0,x1,x2)) (zbT Tryz.results85 rfl (zbY (oz HS2).r _ _ _) rfl) rfl ⟨rfl,zaP (oz HS2).bl (Nat.le_refl _) (oz HS2).bl.size _ _ _⟩
  ·have hk1:¬ (k:Int) < (l.length:Int):=by omega
   have HO2:Hz (orW l=(0,0,0)):=kz (by rw [oz HO,List.drop_of_length_le (by omega)];rfl)
   have z0:=(oz HS).z.cell 0
   have z1:=(oz HS).z.cell 1
   have z2:=(oz HS).z.cell 2
   have r0:=(oz HS).r.cell 0
   have r1:=(oz HS).r.cell 1
   have r2:=(oz HS).r.cell 2
   have f0:=(oz HS).r.frozen 0
   have f1:=(oz HS).r.frozen 1
   have f2:=(oz HS).r.frozen 2
   go_wp2_with fail
   rw [oz HO2]
   exact bodyPost_ret (v:=wrV (0,0,0)) (zbT Tryz.results85 rfl (zbY (oz HS).r _ _ _) rfl) rfl ⟨rfl,zaP (oz HS).bl (Nat.le_refl _) (oz HS).bl.size _ _ _⟩
end Go.Proofs.YtoaiicbicdhkkaaGreat
