/- Texts of this claim, one behind the other. -/
import Derived.Test.YthchopdfmchpkaaGreatM1
import Derived.Maps.AppendAt
import Derived.Laws.StructEq
import Derived.BigRegion
import Derived.Laws.OwnMore
import Derived.Deep.AppendLies
import Derived.Deep.RegionLaw
import Derived.Lib.UnsafeStr
import Derived.Lib.Builder
import Derived.Lib.AppendStr
import Derived.Laws.Bits64b
import Derived.Test.YthchopdfmchpkaaGreatShB
import Derived.ScopeJumps
import Derived.WalkMore
import Derived.Deep.RegionWith
import Derived.OwnWalk
import Derived.Test.YthchopdfmchpkaaGreatShC
import Derived.Test.YthchopdfmchpkaaGreatShK
import Derived.Test.YthchopdfmchpkaaGreatShD
import Derived.Lib.ItoaLen
import Derived.Lib.AppendIntMem
import Derived.Test.YthchopdfmchpkaaGreatShV
namespace Go.Proofs.YthchopdfmchpkaaGreat
open Go.RowKit Go.Shelf
set_option linter.unusedVariables false
set_option maxRecDepth 100000
set_option maxHeartbeats 8000000
theorem ZD (c:Nat) (w:World):Calls Tryz.prog 78 #[.int .u8 c] w fun e w' =>e=.returned (.tuple #[.int .u8 (zF c).1,.int .u8 (zF c).2])∧w'=w:=by
 have hc:(c < 194∧zF c=(0,0))∨(194≤c∧c≤223∧zF c=(128,191))∨(c=224∧zF c=(160,191))∨(225≤c∧c≤236∧zF c=(128,191))∨(c=237∧zF c=(128,159))∨(c=238∧zF c=(128,191))∨(c=239∧zF c=(128,191)) ∨
   (c=240∧zF c=(144,191))∨(241≤c∧c≤243∧zF c=(128,191))∨(c=244∧zF c=(128,143))∨(245≤c∧zF c=(0,0)):=by
  unfold zF;repeat' split
  all_goals simp
  all_goals omega
 rcases hc with ⟨h,e⟩ | ⟨h,h',e⟩ | ⟨rfl,e⟩ | ⟨h,h',e⟩ | ⟨rfl,e⟩ | ⟨rfl,e⟩ | ⟨rfl,e⟩ | ⟨rfl,e⟩ | ⟨h,h',e⟩ | ⟨rfl,e⟩ | ⟨h,e⟩
 all_goals
  rw [e];clear e;go_enter Tryz.func78,Tryz.ntmps78;go_wp2
  go_ret2
  exact ⟨rfl,rfl⟩
theorem zfB (t:ByteArray) (ht:t.size≤maxLen) (h:t.size=0∨(0 < t.size∧bt t 0 < 128)) (w:World):Calls Tryz.prog 51 #[.string t] w fun e w' =>e=.returned (zij (JW t))∧w'=w:=by
 unfold maxLen at ht;rcases h with h | ⟨h,hb⟩
 ·have HV:=kz (show JW t=(0,0) by unfold JW;rw [if_pos (.inl h)]);have h':((t.size:Int) == 0)=true:=by simp [h]
  clear h;go_enter Tryz.func51,Tryz.ntmps51;go_wp2
  go_ret2
  exact ⟨by rw [oz HV];rfl,rfl⟩
 ·have HV:=kz (zdP t h hb);have hg:=qQ t 0 h;obtain ⟨b0,e0⟩:∃ b0,(t[0]'h).toNat=b0:=⟨_,rfl⟩;have HB:=kz (hg.trans e0);rw [hg,e0] at hb;have hb':decide ((b0:Int) < 128)=true:=JS (by omega);have hb2:(b0:Int) < 128:=by omega
  have h':((t.size:Int) == 0)=false:=beq_eq_false_iff_ne.2 (by omega);clear hg;go_enter Tryz.func51,Tryz.ntmps51;go_wp2
  go_ret2
  exact ⟨by rw [oz HV,oz HB];rfl,rfl⟩
theorem zdO (t:ByteArray) (ht:t.size≤maxLen) (h:0 < t.size) (hb:128≤bt t 0)
  (hx:(zF (bt t 0)).1=0∨((zF (bt t 0)).1≠0∧(t.size < 2∨(2≤t.size∧(bt t 1 < (zF (bt t 0)).1∨((zF (bt t 0)).1≤bt t 1∧(zF (bt t 0)).2 < bt t 1)))))) (w:World) :
  Calls Tryz.prog 51 #[.string t] w fun e w' =>e=.returned (zij (JW t))∧w'=w:=by
 have HV:Hz (JW t=(0,0)):=by
  rcases hx with hx | ⟨hs,hx⟩
  ·exact kz (zfF t h hb hx)
  ·refine kz (Qg t h hb hs ?_);rcases hx with hx | ⟨_,hx | ⟨_,hx⟩⟩
   ·exact .inl hx
   ·exact .inr (.inl hx)
   ·exact .inr (.inr (.inl hx))
 unfold maxLen at ht;have hg:=qQ t 0 h;obtain ⟨b0,e0⟩:∃ b0,(t[0]'h).toNat=b0:=⟨_,rfl⟩;rw [hg,e0] at hx hb;have h':((t.size:Int) == 0)=false:=beq_eq_false_iff_ne.2 (by omega);have hb':decide ((b0:Int) < 128)=false:=Zq (by omega);have HC:=kz (ZD b0);obtain ⟨lo,hlo⟩:∃ lo,(zF b0).1=lo:=⟨_,rfl⟩;obtain ⟨hi,hhi⟩:∃ hi,(zF b0).2=hi:=⟨_,rfl⟩;rw [hlo,hhi] at HC hx;clear hlo hhi hg;rcases hx with rfl | ⟨hs,hx⟩
 ·go_enter Tryz.func51,Tryz.ntmps51;go_wp2_with fail
  refine (oz HC _).mono ?_;rintro e w1 ⟨rfl,rfl⟩;go_wp2
  go_ret2
  exact ⟨by rw [oz HV];rfl,rfl⟩
 ·have hs':((lo:Int) == 0)=false:=beq_eq_false_iff_ne.2 (by omega);rcases hx with hx | ⟨h2,hx⟩
  ·have hx':decide ((t.size:Int) < 2)=true:=JS (by omega);clear hs;go_enter Tryz.func51,Tryz.ntmps51;go_wp2_with fail
   refine (oz HC _).mono ?_;rintro e w1 ⟨rfl,rfl⟩;go_wp2
   go_ret2
   exact ⟨by rw [oz HV];rfl,rfl⟩
  ·have hg1:=qQ t 1 h2;obtain ⟨b1,e1⟩:∃ b1,(t[1]'h2).toNat=b1:=⟨_,rfl⟩;rw [hg1,e1] at hx;have h2':decide ((t.size:Int) < 2)=false:=Zq (by omega);have h3':(1:Int) < t.size:=by omega
   rcases hx with hx | ⟨hx1,hx2⟩
   ·have hx':decide (b1 < lo)=true:=JS (by omega);clear hs hg1;go_enter Tryz.func51,Tryz.ntmps51;go_wp2_with fail
    refine (oz HC _).mono ?_;rintro e w1 ⟨rfl,rfl⟩;go_wp2
    go_ret2
    exact ⟨by rw [oz HV];rfl,rfl⟩
   ·have hx':decide (b1 < lo)=false:=Zq (by omega);have hx'':decide (hi < b1)=true:=JS (by omega);clear hs hg1;have hx1n:¬ b1 < lo:=by omega
    go_enter Tryz.func51,Tryz.ntmps51;go_wp2_with fail
    refine (oz HC _).mono ?_;rintro e w1 ⟨rfl,rfl⟩;go_wp2
    go_ret2
    exact ⟨by rw [oz HV];rfl,rfl⟩
def zcf (k:Nat):Nat:=if k=1 then 32 else if k=2 then 2048 else if k=3 then 131072 else 8388608
theorem zav (k A c:Nat) (h1:1≤k) (h4:k < 4) (hA:A < zcf k):A < 33554432∧A*64+c % 64 < zcf (k+1):=by
 have:k=1∨k=2∨k=3:=by omega
 rcases this with rfl | rfl | rfl <;> simp [zcf] at hA ⊢ <;> omega
theorem QJ (A c:Nat) (hA:A < 33554432):bits BinOp.or IntKind.i32 (wrap32 (↑A*64)) (↑c % 64)=((A*64+c % 64:Nat):Int):=by
 rw [show wrap32 ((A:Int)*64)=(A:Int)*64 by unfold wrap32;omega];have h:=i32_or6 ((A:Int)*64) ((c:Int) % 64) (by omega) (by omega) (by omega) (by omega) (by omega);rw [h];omega
theorem zld (b:Nat) (h:b < 256):bits BinOp.and IntKind.u8 (b:Int) 7=(b:Int) % 8:=by
 have e:=u8_and_nat b 7 h (by omega);rw [show ((7:Nat):Int)=7 from rfl] at e;rw [e,show (7:Nat)=2 ^ 3 - 1 from rfl,Nat.and_two_pow_sub_one_eq_mod];omega
theorem zfE (t:ByteArray) (ht:t.size≤maxLen) (h2:2≤t.size) (hb:128≤bt t 0) (hq:bt t 0 < 224) (hs:(zF (bt t 0)).1≠0) (hx1:(zF (bt t 0)).1≤bt t 1) (hx2:bt t 1≤(zF (bt t 0)).2) (w:World) :
  Calls Tryz.prog 51 #[.string t] w fun e w' =>e=.returned (zij (JW t))∧w'=w:=by
 have h:0 < t.size:=by omega
 have hz:Xz (bt t 0)=2:=by
  unfold Xz;repeat' split
  all_goals omega
 have hl1:Yf t 1=bt t 0 % 32:=by
  show XX (bt t 0)=_;unfold XX;repeat' split
  all_goals omega
 have hGG:=QK t h hb hs hx1 hx2;have hBB:=fun k h1 h2 h3 =>Qg t h hb hs (.inr (.inr (.inr ⟨k,h1,h2,h3⟩)))
 rw [hz] at hGG hBB;have HG:=kz hGG;have HB:=kz hBB;clear hGG hBB hz;unfold maxLen at ht;have hg:=qQ t 0 h;obtain ⟨b0,e0⟩:∃ b0,(t[0]'h).toNat=b0:=⟨_,rfl⟩;have hg1:=qQ t 1 h2;obtain ⟨b1,e1⟩:∃ b1,(t[1]'h2).toNat=b1:=⟨_,rfl⟩;rw [hg,e0] at hb hs hx1 hx2 hl1 hq;rw [hg1,e1] at hx1 hx2;have HL:=kz hl1;have h':((t.size:Int) == 0)=false:=beq_eq_false_iff_ne.2 (by omega);have hb':decide ((b0:Int) < 128)=false:=Zq (by omega);have HC:=kz (ZD b0);obtain ⟨lo,hlo⟩:∃ lo,(zF b0).1=lo:=⟨_,rfl⟩;obtain ⟨hi,hhi⟩:∃ hi,(zF b0).2=hi:=⟨_,rfl⟩;rw [hlo] at HC hx1 hs;rw [hhi] at HC hx2;have hs':((lo:Int) == 0)=false:=beq_eq_false_iff_ne.2 (by omega);have h2':decide ((t.size:Int) < 2)=false:=Zq (by omega);have h3':(1:Int) < t.size:=by omega
 have hx':decide (b1 < lo)=false:=Zq (by omega);have hx'':decide (hi < b1)=false:=Zq (by omega);have hx1n:¬ b1 < lo:=by omega
 have hx2n:¬ hi < b1:=by omega
 have hq1:(b0:Int) < 224:=by omega
 clear hs hx1 hx2 hg1 hg hlo hhi hl1 hq;go_enter Tryz.func51,Tryz.ntmps51;go_wp2_with fail
 refine (oz HC _).mono ?_;rintro e w1 ⟨rfl,rfl⟩;go_wp2_with fail
 go_loop [8,9] (fun r i => ∃ k:Nat,1≤k∧k≤2∧i=.int .i64 k∧r=.int .i32 (Yf t k)∧Hz (zj8 t k)∧Hz (Yf t k < zcf k)) (fun _ i =>2 - (intOf i).toNat)
 case atStart =>exact ⟨1,by omega,by omega,rfl,by rw [oz HL];rfl,kz (fun j h1 h2 =>by omega),kz (by rw [oz HL];show _ < 32;omega)⟩
 case round =>
  obtain ⟨k,hk1,hk2,rfl,rfl,HGo,HA⟩:=hrel;by_cases hkz:k < 2
  ·have hkz':(k:Int) < 2:=by omega
   by_cases hkn:k < t.size
   ·have hgk:=qQ t k hkn;obtain ⟨c,ec⟩:∃ c,(t[k]'hkn).toNat=c:=⟨_,rfl⟩;have hst:=zax t k hk1;rw [ec] at hgk;rw [hgk] at hst;have hA:=oz HA;generalize Yf t k=A at hst hA;have HST:=kz hst;have HGK:=kz hgk;have HBS:=kz (zav k A c hk1 (by omega) hA);clear hgk hst HA hA;have hkn':decide ((t.size:Int)≤k)=false:=Zq (by omega);have hkn2:(k:Int) < t.size:=by omega
    by_cases hc1:c < 128
    ·have hc1':decide ((c:Int) < 128)=true:=JS (by omega);go_wp2
     go_ret2
     exact ⟨by rw [oz HB k hk1 hkz (.inr (.inl (by rw [oz HGK];exact hc1)))];rfl,rfl⟩
    ·have hc1':decide ((c:Int) < 128)=false:=Zq (by omega);by_cases hc2:191 < c
     ·have hc2':decide ((191:Int) < c)=true:=JS (by omega);go_wp2
      go_ret2
      exact ⟨by rw [oz HB k hk1 hkz (.inr (.inr (by rw [oz HGK];exact hc2)))];rfl,rfl⟩
     ·have hc2':decide ((191:Int) < c)=false:=Zq (by omega);go_wp2
      go_round
      case rel =>
       refine ⟨k+1,by omega,by omega,by go_num, ?_,kz (fun j h1 h2 =>?_),kz ?_⟩
       ·rw [oz HST,QJ A c (oz HBS).1]
       ·by_cases e:j=k
        ·subst e;rw [oz HGK];omega
        ·exact oz HGo j h1 (by omega)
       ·rw [oz HST];exact (oz HBS).2
      case measure =>simp [intOf];omega
   ·have hkn':decide ((t.size:Int)≤k)=true:=JS (by omega);go_wp2
    go_ret2
    exact ⟨by rw [oz HB k hk1 hkz (.inl (by omega))];rfl,rfl⟩
  ·have hkz':¬ (k:Int) < 2:=by omega
   obtain rfl:k=2:=by omega
   go_wp2
   go_ret2
   exact ⟨by rw [oz HG (oz HGo)];rfl,rfl⟩
theorem zfD (t:ByteArray) (ht:t.size≤maxLen) (h2:2≤t.size) (hb:128≤bt t 0) (hq:224≤bt t 0∧bt t 0 < 240) (hs:(zF (bt t 0)).1≠0) (hx1:(zF (bt t 0)).1≤bt t 1) (hx2:bt t 1≤(zF (bt t 0)).2) (w:World) :
  Calls Tryz.prog 51 #[.string t] w fun e w' =>e=.returned (zij (JW t))∧w'=w:=by
 have h:0 < t.size:=by omega
 have hz:Xz (bt t 0)=3:=by
  unfold Xz;repeat' split
  all_goals omega
 have hl1:Yf t 1=bt t 0 % 16:=by
  show XX (bt t 0)=_;unfold XX;repeat' split
  all_goals omega
 have hGG:=QK t h hb hs hx1 hx2;have hBB:=fun k h1 h2 h3 =>Qg t h hb hs (.inr (.inr (.inr ⟨k,h1,h2,h3⟩)))
 rw [hz] at hGG hBB;have HG:=kz hGG;have HB:=kz hBB;clear hGG hBB hz;unfold maxLen at ht;have hg:=qQ t 0 h;obtain ⟨b0,e0⟩:∃ b0,(t[0]'h).toNat=b0:=⟨_,rfl⟩;have hg1:=qQ t 1 h2;obtain ⟨b1,e1⟩:∃ b1,(t[1]'h2).toNat=b1:=⟨_,rfl⟩;rw [hg,e0] at hb hs hx1 hx2 hl1 hq;rw [hg1,e1] at hx1 hx2;have HL:=kz hl1;have h':((t.size:Int) == 0)=false:=beq_eq_false_iff_ne.2 (by omega);have hb':decide ((b0:Int) < 128)=false:=Zq (by omega);have HC:=kz (ZD b0);obtain ⟨lo,hlo⟩:∃ lo,(zF b0).1=lo:=⟨_,rfl⟩;obtain ⟨hi,hhi⟩:∃ hi,(zF b0).2=hi:=⟨_,rfl⟩;rw [hlo] at HC hx1 hs;rw [hhi] at HC hx2;have hs':((lo:Int) == 0)=false:=beq_eq_false_iff_ne.2 (by omega);have h2':decide ((t.size:Int) < 2)=false:=Zq (by omega);have h3':(1:Int) < t.size:=by omega
 have hx':decide (b1 < lo)=false:=Zq (by omega);have hx'':decide (hi < b1)=false:=Zq (by omega);have hx1n:¬ b1 < lo:=by omega
 have hx2n:¬ hi < b1:=by omega
 have hq1:(224:Int)≤b0:=by omega
 have hq2:(b0:Int) < 240:=by omega
 clear hs hx1 hx2 hg1 hg hlo hhi hl1 hq;go_enter Tryz.func51,Tryz.ntmps51;go_wp2_with fail
 refine (oz HC _).mono ?_;rintro e w1 ⟨rfl,rfl⟩;go_wp2_with fail
 go_loop [8,9] (fun r i => ∃ k:Nat,1≤k∧k≤3∧i=.int .i64 k∧r=.int .i32 (Yf t k)∧Hz (zj8 t k)∧Hz (Yf t k < zcf k)) (fun _ i =>3 - (intOf i).toNat)
 case atStart =>exact ⟨1,by omega,by omega,rfl,by rw [oz HL];rfl,kz (fun j h1 h2 =>by omega),kz (by rw [oz HL];show _ < 32;omega)⟩
 case round =>
  obtain ⟨k,hk1,hk2,rfl,rfl,HGo,HA⟩:=hrel;by_cases hkz:k < 3
  ·have hkz':(k:Int) < 3:=by omega
   by_cases hkn:k < t.size
   ·have hgk:=qQ t k hkn;obtain ⟨c,ec⟩:∃ c,(t[k]'hkn).toNat=c:=⟨_,rfl⟩;have hst:=zax t k hk1;rw [ec] at hgk;rw [hgk] at hst;have hA:=oz HA;generalize Yf t k=A at hst hA;have HST:=kz hst;have HGK:=kz hgk;have HBS:=kz (zav k A c hk1 (by omega) hA);clear hgk hst HA hA;have hkn':decide ((t.size:Int)≤k)=false:=Zq (by omega);have hkn2:(k:Int) < t.size:=by omega
    by_cases hc1:c < 128
    ·have hc1':decide ((c:Int) < 128)=true:=JS (by omega);go_wp2
     go_ret2
     exact ⟨by rw [oz HB k hk1 hkz (.inr (.inl (by rw [oz HGK];exact hc1)))];rfl,rfl⟩
    ·have hc1':decide ((c:Int) < 128)=false:=Zq (by omega);by_cases hc2:191 < c
     ·have hc2':decide ((191:Int) < c)=true:=JS (by omega);go_wp2
      go_ret2
      exact ⟨by rw [oz HB k hk1 hkz (.inr (.inr (by rw [oz HGK];exact hc2)))];rfl,rfl⟩
     ·have hc2':decide ((191:Int) < c)=false:=Zq (by omega);go_wp2
      go_round
      case rel =>
       refine ⟨k+1,by omega,by omega,by go_num, ?_,kz (fun j h1 h2 =>?_),kz ?_⟩
       ·rw [oz HST,QJ A c (oz HBS).1]
       ·by_cases e:j=k
        ·subst e;rw [oz HGK];omega
        ·exact oz HGo j h1 (by omega)
       ·rw [oz HST];exact (oz HBS).2
      case measure =>simp [intOf];omega
   ·have hkn':decide ((t.size:Int)≤k)=true:=JS (by omega);go_wp2
    go_ret2
    exact ⟨by rw [oz HB k hk1 hkz (.inl (by omega))];rfl,rfl⟩
  ·have hkz':¬ (k:Int) < 3:=by omega
   obtain rfl:k=3:=by omega
   go_wp2
   go_ret2
   exact ⟨by rw [oz HG (oz HGo)];rfl,rfl⟩
theorem zfC (t:ByteArray) (ht:t.size≤maxLen) (h2:2≤t.size) (hb:128≤bt t 0) (hq:240≤bt t 0) (hs:(zF (bt t 0)).1≠0) (hx1:(zF (bt t 0)).1≤bt t 1) (hx2:bt t 1≤(zF (bt t 0)).2) (w:World) :
  Calls Tryz.prog 51 #[.string t] w fun e w' =>e=.returned (zij (JW t))∧w'=w:=by
 have h:0 < t.size:=by omega
 have hz:Xz (bt t 0)=4:=by
  unfold Xz;repeat' split
  all_goals omega
 have hl1:Yf t 1=bt t 0 % 8:=by
  show XX (bt t 0)=_;unfold XX;repeat' split
  all_goals omega
 have hGG:=QK t h hb hs hx1 hx2;have hBB:=fun k h1 h2 h3 =>Qg t h hb hs (.inr (.inr (.inr ⟨k,h1,h2,h3⟩)))
 rw [hz] at hGG hBB;have HG:=kz hGG;have HB:=kz hBB;clear hGG hBB hz;unfold maxLen at ht;have hg:=qQ t 0 h;have hb256:=Yr t 0;obtain ⟨b0,e0⟩:∃ b0,(t[0]'h).toNat=b0:=⟨_,rfl⟩;have hg1:=qQ t 1 h2;obtain ⟨b1,e1⟩:∃ b1,(t[1]'h2).toNat=b1:=⟨_,rfl⟩;rw [hg,e0] at hb hs hx1 hx2 hl1 hq hb256;rw [hg1,e1] at hx1 hx2;have HL:=kz hl1;have h':((t.size:Int) == 0)=false:=beq_eq_false_iff_ne.2 (by omega);have hb':decide ((b0:Int) < 128)=false:=Zq (by omega);have HC:=kz (ZD b0);obtain ⟨lo,hlo⟩:∃ lo,(zF b0).1=lo:=⟨_,rfl⟩;obtain ⟨hi,hhi⟩:∃ hi,(zF b0).2=hi:=⟨_,rfl⟩;rw [hlo] at HC hx1 hs;rw [hhi] at HC hx2;have hs':((lo:Int) == 0)=false:=beq_eq_false_iff_ne.2 (by omega);have h2':decide ((t.size:Int) < 2)=false:=Zq (by omega);have h3':(1:Int) < t.size:=by omega
 have hx':decide (b1 < lo)=false:=Zq (by omega);have hx'':decide (hi < b1)=false:=Zq (by omega);have hx1n:¬ b1 < lo:=by omega
 have hx2n:¬ hi < b1:=by omega
 have hq1:(240:Int)≤b0:=by omega
 have hq7:=zld b0 hb256;clear hs hx1 hx2 hg1 hg hlo hhi hl1 hq;go_enter Tryz.func51,Tryz.ntmps51;go_wp2_with fail
 refine (oz HC _).mono ?_;rintro e w1 ⟨rfl,rfl⟩;go_wp2_with fail
 go_loop [8,9] (fun r i => ∃ k:Nat,1≤k∧k≤4∧i=.int .i64 k∧r=.int .i32 (Yf t k)∧Hz (zj8 t k)∧Hz (Yf t k < zcf k)) (fun _ i =>4 - (intOf i).toNat)
 case atStart =>exact ⟨1,by omega,by omega,rfl,by rw [oz HL];rfl,kz (fun j h1 h2 =>by omega),kz (by rw [oz HL];show _ < 32;omega)⟩
 case round =>
  obtain ⟨k,hk1,hk2,rfl,rfl,HGo,HA⟩:=hrel;by_cases hkz:k < 4
  ·have hkz':(k:Int) < 4:=by omega
   by_cases hkn:k < t.size
   ·have hgk:=qQ t k hkn;obtain ⟨c,ec⟩:∃ c,(t[k]'hkn).toNat=c:=⟨_,rfl⟩;have hst:=zax t k hk1;rw [ec] at hgk;rw [hgk] at hst;have hA:=oz HA;generalize Yf t k=A at hst hA;have HST:=kz hst;have HGK:=kz hgk;have HBS:=kz (zav k A c hk1 (by omega) hA);clear hgk hst HA hA;have hkn':decide ((t.size:Int)≤k)=false:=Zq (by omega);have hkn2:(k:Int) < t.size:=by omega
    by_cases hc1:c < 128
    ·have hc1':decide ((c:Int) < 128)=true:=JS (by omega);go_wp2
     go_ret2
     exact ⟨by rw [oz HB k hk1 hkz (.inr (.inl (by rw [oz HGK];exact hc1)))];rfl,rfl⟩
    ·have hc1':decide ((c:Int) < 128)=false:=Zq (by omega);by_cases hc2:191 < c
     ·have hc2':decide ((191:Int) < c)=true:=JS (by omega);go_wp2
      go_ret2
      exact ⟨by rw [oz HB k hk1 hkz (.inr (.inr (by rw [oz HGK];exact hc2)))];rfl,rfl⟩
     ·have hc2':decide ((191:Int) < c)=false:=Zq (by omega);go_wp2;refine ⟨⟨u2,u3,_,_, ?_,rfl,rfl,rfl,rfl⟩,by simp [intOf];omega⟩;refine ⟨k+1,by omega,by omega,by go_num, ?_,kz (fun j h1 h2 =>?_),kz ?_⟩
      ·rw [oz HST,QJ A c (oz HBS).1]
      ·by_cases e:j=k
       ·subst e;rw [oz HGK];omega
       ·exact oz HGo j h1 (by omega)
      ·rw [oz HST];exact (oz HBS).2
   ·have hkn':decide ((t.size:Int)≤k)=true:=JS (by omega);go_wp2
    go_ret2
    exact ⟨by rw [oz HB k hk1 hkz (.inl (by omega))];rfl,rfl⟩
  ·have hkz':¬ (k:Int) < 4:=by omega
   obtain rfl:k=4:=by omega
   go_wp2
   go_ret2
   exact ⟨by rw [oz HG (oz HGo)];rfl,rfl⟩
theorem ze2 (t:ByteArray) (ht:t.size≤maxLen) (w:World):Calls Tryz.prog 51 #[.string t] w fun e w' =>e=.returned (zij (JW t))∧w'=w:=by
 by_cases h0:t.size=0∨(0 < t.size∧bt t 0 < 128)
 ·exact zfB t ht h0 w
 by_cases h1:(zF (bt t 0)).1=0∨((zF (bt t 0)).1≠0∧(t.size < 2∨(2≤t.size∧(bt t 1 < (zF (bt t 0)).1∨((zF (bt t 0)).1≤bt t 1∧(zF (bt t 0)).2 < bt t 1)))))
 ·exact zdO t ht (by omega) (by omega) h1 w
 by_cases h2:bt t 0 < 224
 ·exact zfE t ht (by omega) (by omega) h2 (by omega) (by omega) (by omega) w
 by_cases h3:bt t 0 < 240
 ·exact zfD t ht (by omega) (by omega) ⟨by omega,h3⟩ (by omega) (by omega) (by omega) w
 ·exact zfC t ht (by omega) (by omega) (by omega) (by omega) (by omega) (by omega) w
def yG (s:ByteArray) (i:Nat):List Value := [.int .i32 (rn s i),.int .i64 i,.int .i64 (wd s i),.bool (decide (rn s i=65533∧wd s i=1))]
theorem zhY:(Tryz.prog.info? 75).map (fun i =>(i.zero,i.size,i.bytes))=some (some (.agg #[.int .i32 0,.int .i64 0,.int .i64 0,.bool false]),4,32):=by kernel_rfl
theorem zi0 (s:ByteArray) (i:Nat) (h:i < s.size):JW (s.extract i s.size)=if rn s i=65533∧wd s i=1 then (0,0) else ((wd s i:Int),(rn s i:Int)):=by
 unfold JW;have e:(s.extract i s.size).size≠0:=by rw [ByteArray.size_extract];omega
 simp only [rn,wd,zaQ s i 0 (Nat.le_of_lt h),Nat.add_zero,e,false_or]
theorem zeO {W:World} {base:Nat} {e:TypeId} {size:Nat} {v:Value} {n:Nat} {xs:List Value} (h:W.ownsRow base e size v n xs):∀ g,v.ownBlock=some g→base≤g∧g < W.heap.size:=by
 intro g hg;rcases h.2 with ⟨rfl,_⟩ | ⟨g',cap,cur,rfl,hb,hh,_⟩
 ·cases hg
 ·cases hg
  exact ⟨hb,(zeI.1 hh).1⟩
theorem zbe (W:World) (c0 c1 c2 c3:Value) (t:TypeId):∀ j u,[c0,c1,c2,c3][j]?=some u→(W.alloc (.cells #[c0,c1,c2,c3] t)).cell? ((⟨W.heap.size,0,none⟩:Addr).add j)=some u:=by
 intro j u hj;have:=(Blk.new W #[c0,c1,c2,c3] t).cell j;rw [show (⟨W.heap.size,0,none⟩:Addr).add j=⟨W.heap.size,j,none⟩ by unfold Addr.add;split <;> simp_all,this, ← hj];simp
theorem ze4 {s:ByteArray} {w w1 w2:World} {v v':Value} {pre:List Nat} {pos:Nat} {c0 c1 c2 c3:Value} (hrc:yG s pos=[c0,c1,c2,c3])
  (hown:w1.ownsRow w.heap.size 75 4 v pre.length (pre.flatMap (yG s))) (hB:Below w.heap.size w w1)
  (hown':w2.ownsRow w.heap.size 75 4 v' (pre.length+1) (pre.flatMap (yG s)++[c0,c1,c2,c3]))
  (hgrow:((w1.alloc (.cells #[c0,c1,c2,c3] 75)).alloc (.cells #[c0,c1,c2,c3] 75)).grownBy w2 v.ownBlock) :
  w2.ownsRow w.heap.size 75 4 v' (pre++[pos]).length ((pre++[pos]).flatMap (yG s))∧Below w.heap.size w w2∧Blk w2 w1.heap.size #[c0,c1,c2,c3] 75:=by
 have e:(pre++[pos]).flatMap (yG s)=pre.flatMap (yG s)++[c0,c1,c2,c3]:=by rw [List.flatMap_append];simp [hrc]
 have hl:=zeO hown;refine ⟨?_, ?_, ?_⟩
 ·rw [e,List.length_append];exact hown'
 ·refine ((hB.alloc hB.size _).alloc (by have:=hB.size;simp;omega) _).grown hgrow (by have:=hB.size;simp;omega) (fun k hk =>(hl k hk).1)
 ·exact ((Blk.new w1 #[c0,c1,c2,c3] 75).alloc _).kept hgrow (fun e =>by have:=(hl _ e.symm).2;omega)
theorem Zr (s:ByteArray) (hs:s.size≤1099511627776) (w:World) :
  Calls Tryz.prog 19 #[.string s] w fun e w' => ∃ v,e=.returned v∧w'.ownsRow w.heap.size 75 4 v (zh s).length ((zh s).flatMap (yG s))∧Below w.heap.size w w':=by
 obtain ⟨i0,hi,hz0,hz1,hz2⟩:=info_parts zhY;have HI:=kz hi;have HZ0:=kz hz0;have HZ1:=kz hz1;have HZ2:=kz hz2;clear hi hz0 hz1 hz2;go_enter Tryz.func19,Tryz.ntmps19;go_wp2
 go_loopw [3,4] (fun v i wr => ∃ (pre:List Nat) (pos f:Nat),Hz (zh s=pre++zo s f pos)∧s.size≤pos+f∧i=.int .i64 pos∧wr.ownsRow w.heap.size 75 4 v pre.length (pre.flatMap (yG s))∧Below w.heap.size w wr)
  (fun _ i _ =>s.size - (intOf i).toNat)
 case atStart =>exact ⟨[],0,s.size,kz rfl,by omega,rfl,World.ownsRow_nil _ _ _ _,zl⟩
 case round =>
  obtain ⟨pre,pos,f,HS,hf,rfl,hown,hB⟩:=hrel;by_cases hp:pos < s.size
  ·have hp':(pos:Int) < s.size:=by omega
   have hpl:pre.length < s.size:=by
    have h1:=zX s;rw [oz HS,List.length_append] at h1;obtain ⟨g,rfl⟩:∃ g,f=g+1:=⟨f - 1,by omega⟩;rw [zW s g pos hp] at h1;simp at h1;omega
   have hsv:=zi0 s pos hp;have hroom:=Jk s pos hp;have hpos:=Jl s pos;have hrc:yG s pos=[.int .i32 (rn s pos),.int .i64 pos,.int .i64 (wd s pos),.bool (decide (rn s pos=65533∧wd s pos=1))]:=rfl;by_cases hbad:rn s pos=65533∧wd s pos=1
   ·rw [if_pos hbad] at hsv;rw [JS hbad,hbad.1,hbad.2] at hrc;have HV:=kz hsv;have HRC:=kz hrc;have HBD:=kz hbad;clear hsv hrc hbad hroom hpos;go_wp2_with fail
    refine (ze2 _ (by rw [ByteArray.size_extract];unfold maxLen;omega) _).mono ?_;rintro e w1 ⟨rfl,rfl⟩;rw [oz HV];have hln:=zbe (w1.alloc (.cells #[.int .i32 65533,.int .i64 pos,.int .i64 1,.bool true] 75)) (.int .i32 65533) (.int .i64 pos) (.int .i64 1) (.bool true) 75;have HLN:=kz hln;clear hln;go_wp2_with (at_builtin;refine wpList_append_own _ rfl _ _ 52 rfl w.heap.size 75 i0 (.agg #[.int .i32 0,.int .i64 0,.int .i64 0,.bool false]) 4 32 Tryz.underlying52 (oz HI) (oz HZ0) (oz HZ1) (oz HZ2) rfl (by decide) _ _ _ rfl ((hown.alloc _).alloc _) ⟨w1.heap.size+1,0,none⟩ 1 1 [.int .i32 65533,.int .i64 pos,.int .i64 1,.bool true] rfl rfl ?c1 ?c2 ?c3 ?c4 ?c5 ?_)
    case c1 =>have:=oz HLN;simpa using this
    case c2 =>intro u hu;simp at hu;rcases hu with rfl | rfl | rfl | rfl <;> rfl
    case c3 =>unfold maxLen;omega
    case c4 =>omega
    case c5 =>have:=hB.size;simp;omega
    intro v' w2 hown' hgrow _;obtain ⟨hown2,hB2,bX⟩:=ze4 (oz HRC) hown hB hown' hgrow;have x2:=bX.cell 2;clear hown' hgrow hown hB HLN bX;go_wp2
    go_roundw
    case rel =>exact ⟨pre++[pos],pos+1,f - 1,kz (by
     obtain ⟨g,rfl⟩:∃ g,f=g+1:=⟨f - 1,by omega⟩;rw [oz HS,zW s g pos hp,(oz HBD).2];simp),by omega,by go_num,hown2,hB2⟩
    case measure =>simp [intOf];omega
   ·rw [if_neg hbad] at hsv;rw [Zq hbad] at hrc;have hcons:∀ g,zo s (g+1) pos=pos::zo s g (pos+wd s pos):=fun g =>zW s g pos hp
    generalize rn s pos=r at hsv hrc;generalize wd s pos=d at hsv hrc hroom hpos hcons;have HV:=kz hsv;have HRC:=kz hrc;have HCO:=kz hcons;have hd0:((d:Int) == 0)=false:=beq_eq_false_iff_ne.2 (by omega);have hd1:(1:Int)≤d:=by omega
    have hd2:(pos:Int)+d≤s.size:=by omega
    clear hsv hrc hbad hcons;go_wp2_with fail
    refine (ze2 _ (by rw [ByteArray.size_extract];unfold maxLen;omega) _).mono ?_;rintro e w1 ⟨rfl,rfl⟩;rw [oz HV];have hln:=zbe (w1.alloc (.cells #[.int .i32 r,.int .i64 pos,.int .i64 d,.bool false] 75)) (.int .i32 r) (.int .i64 pos) (.int .i64 d) (.bool false) 75;have HLN:=kz hln;clear hln;go_wp2_with (at_builtin;refine wpList_append_own _ rfl _ _ 52 rfl w.heap.size 75 i0 (.agg #[.int .i32 0,.int .i64 0,.int .i64 0,.bool false]) 4 32 Tryz.underlying52 (oz HI) (oz HZ0) (oz HZ1) (oz HZ2) rfl (by decide) _ _ _ rfl ((hown.alloc _).alloc _) ⟨w1.heap.size+1,0,none⟩ 1 1 [.int .i32 r,.int .i64 pos,.int .i64 d,.bool false] rfl rfl ?c1 ?c2 ?c3 ?c4 ?c5 ?_)
    case c1 =>have:=oz HLN;simpa using this
    case c2 =>intro u hu;simp at hu;rcases hu with rfl | rfl | rfl | rfl <;> rfl
    case c3 =>unfold maxLen;omega
    case c4 =>omega
    case c5 =>have:=hB.size;simp;omega
    intro v' w2 hown' hgrow _;obtain ⟨hown2,hB2,bX⟩:=ze4 (oz HRC) hown hB hown' hgrow;have x2:=bX.cell 2;clear hown' hgrow hown hB HLN bX;go_wp2
    go_roundw
    case rel =>exact ⟨pre++[pos],pos+d,f - 1,kz (by
     obtain ⟨g,rfl⟩:∃ g,f=g+1:=⟨f - 1,by omega⟩;rw [oz HS,oz HCO g];simp),by omega,by go_num,hown2,hB2⟩
    case measure =>simp [intOf];omega
  ·have hp':¬ (pos:Int) < s.size:=by omega
   have hst:=oz HS;rw [jB s f pos hp,List.append_nil] at hst;have HST:=kz hst;clear hst HS;go_wp2;go_ret;exact ⟨_,rfl,by rw [oz HST];exact hown,hB⟩
theorem J8 {B:Nat} {a w:World} (h:Below B a w) (n:Nat):Below B a (w.drewN n):=h.trans ⟨rfl,rfl,rfl,zD,fun _ _ =>rfl⟩
theorem j8 {a b c:World} {row:Option Nat} (h:a.grownBy b row) (k:b.grownBy c row):a.grownBy c row :=
 ⟨k.os.trans h.os,k.tape.trans h.tape,k.output.trans h.output,Nat.le_trans h.size k.size,fun i hi hn =>(k.block i (by have:=h.size;omega) hn).trans (h.block i hi hn)⟩
theorem yA (W:World) (B i:Nat) (v:Value):W.grownBy (W.setCell ⟨B,i,none⟩ v) (some B):=⟨rfl,rfl,rfl,(KeepsWalks.setCell W _ _).size,fun k hk hn =>Below.heap_setCell W ⟨B,i,none⟩ _ k (fun e =>hn (by rw [e]))⟩
theorem zlc {W:World} {N:Nat} {a0 a1 a2 a3 a4 a5 a6 a7:Value} {ty:TypeId} (h:Blk W N #[a0,a1,a2,a3,a4,a5,a6,a7] ty) (v0 v1 v2 v3 v4 v5 v6 v7:Value):Blk ((((((((W.setCell ⟨N,0,none⟩ v0).setCell ⟨N,1,none⟩ v1).setCell ⟨N,2,none⟩ v2).setCell ⟨N,3,none⟩ v3).setCell ⟨N,4,none⟩ v4).setCell ⟨N,5,none⟩ v5).setCell ⟨N,6,none⟩ v6).setCell ⟨N,7,none⟩ v7) N #[v0,v1,v2,v3,v4,v5,v6,v7] ty:=by
 have h0:Blk (_:World) N #[v0,a1,a2,a3,a4,a5,a6,a7] ty:=h.set 0 v0;have h1:Blk (_:World) N #[v0,v1,a2,a3,a4,a5,a6,a7] ty:=h0.set 1 v1;have h2:Blk (_:World) N #[v0,v1,v2,a3,a4,a5,a6,a7] ty:=h1.set 2 v2;have h3:Blk (_:World) N #[v0,v1,v2,v3,a4,a5,a6,a7] ty:=h2.set 3 v3;have h4:Blk (_:World) N #[v0,v1,v2,v3,v4,a5,a6,a7] ty:=h3.set 4 v4;have h5:Blk (_:World) N #[v0,v1,v2,v3,v4,v5,a6,a7] ty:=h4.set 5 v5;have h6:Blk (_:World) N #[v0,v1,v2,v3,v4,v5,v6,a7] ty:=h5.set 6 v6;have h7:Blk (_:World) N #[v0,v1,v2,v3,v4,v5,v6,v7] ty:=h6.set 7 v7;exact h7
theorem zeS (W:World) (N:Nat) (v0 v1 v2 v3 v4 v5 v6 v7:Value):W.grownBy ((((((((W.setCell ⟨N,0,none⟩ v0).setCell ⟨N,1,none⟩ v1).setCell ⟨N,2,none⟩ v2).setCell ⟨N,3,none⟩ v3).setCell ⟨N,4,none⟩ v4).setCell ⟨N,5,none⟩ v5).setCell ⟨N,6,none⟩ v6).setCell ⟨N,7,none⟩ v7) (some N) :=
 j8 (j8 (j8 (j8 (j8 (j8 (j8 (yA W N 0 v0) (yA _ N 1 v1)) (yA _ N 2 v2)) (yA _ N 3 v3)) (yA _ N 4 v4)) (yA _ N 5 v5)) (yA _ N 6 v6)) (yA _ N 7 v7)
theorem zgx {W:World} {B:Nat} {cs cs':Array Value} {t t':TypeId} (h:Blk W B cs t) (h':Blk W B cs' t'):t=t':=by
 have:=h.symm.trans h';injection this with e;injection e
theorem XN {W W':World} {lo E sz n:Nat} {v:Value} {xs:List Value} {row:Option Nat} (h:W.ownsRow lo E sz v n xs) (hg:W.grownBy W' row) (hne:v.ownBlock=none∨v.ownBlock≠row):W'.ownsRow lo E sz v n xs:=by
 refine ⟨h.1, ?_⟩;rcases h.2 with h2 | ⟨g,cap,cur,e,hb,h3,r⟩
 ·exact .inl h2
 ·refine .inr ⟨g,cap,cur,e,hb, ?_,r⟩;subst e;rw [hg.block g (zeI.1 h3).1 (by rcases hne with h4 | h4;exact absurd h4 (by simp [Value.ownBlock]);exact h4)];exact h3
theorem zc8 {W:World} {base base' E E' sz sz' n n':Nat} {v v':Value} {xs xs':List Value} (h:W.ownsRow base E sz v n xs) (h':W.ownsRow base' E' sz' v' n' xs') (hE:E≠E'):v.ownBlock=none∨v.ownBlock≠v'.ownBlock:=by
 rcases h.2 with ⟨rfl,_⟩ | ⟨g,cap,cur,rfl,_,hg,_⟩
 ·exact .inl rfl
 ·refine .inr ?_;rcases h'.2 with ⟨rfl,_⟩ | ⟨g',cap',cur',rfl,_,hg',_⟩
  ·simp [Value.ownBlock]
  ·simp only [Value.ownBlock];intro e;have e:=Zo e;subst e;exact hE (zgx (show Blk W g cur E from hg) (show Blk W g cur' E' from hg'))
theorem jO {W:World} {lo E sz n:Nat} {v:Value} {xs:List Value} (h:W.ownsRow lo E sz v n xs):∀ k,v.ownBlock=some k→lo≤k:=by
 rcases h.2 with ⟨rfl,_⟩ | ⟨g,cap,cur,rfl,hl,hg,_⟩
 ·intro k e;simp [Value.ownBlock] at e
 ·intro k e;simp [Value.ownBlock] at e;omega
def zM:List (Int × Int)→List Value
 | [] => []
 | x::t =>.int .i32 x.1::.int .i32 x.2::zM t
structure Ln where
 E:Nat
 sz:Nat
 n:Nat
 xs:List Value
theorem qF {W:World} {lo E sz n:Nat} {v:Value} {xs:List Value} (h:W.ownsRow lo E sz v n xs):∀ k,v.ownBlock=some k→k < W.heap.size:=by
 rcases h.2 with ⟨rfl,_⟩ | ⟨g,cap,cur,rfl,hl,hg,_⟩
 ·intro k e;simp [Value.ownBlock] at e
 ·intro k e;simp [Value.ownBlock] at e;subst e;exact (zeI.1 hg).1
theorem zQ {W:World} {lo E sz n:Nat} {v:Value} {xs:List Value} (h:W.ownsRow lo E sz v n xs):∃ a c,v=.slice a n c:=by
 rcases h.2 with ⟨rfl,rfl⟩ | ⟨g,cap,cur,rfl,_⟩
 ·exact ⟨none,0,rfl⟩
 ·exact ⟨_,_,rfl⟩
theorem J6 {W W':World} {row:Option Nat} (h:Below W.heap.size W W'):W.grownBy W' row:=⟨h.os,h.tape,h.output,h.size,fun i hi _ =>h.block i hi⟩
theorem zcg (r:Int) (h:zI r≠0):0≤r∧r≤1114111:=by
 unfold zI at h;repeat' split at h
 all_goals first | omega | (exfalso;exact h rfl)
theorem Zv (t:List (Int × Int)):(zM t).length=t.length*2:=by
 induction t with
 | nil =>rfl
 | cons x t ih =>show (zM t).length+1+1=(t.length+1)*2;omega
theorem zgl (t:List (Int × Int)):∀ u ∈ zM t,u.oneCell'=true:=by
 induction t with
 | nil =>intro u hu;cases hu
 | cons x t ih =>
  intro u hu;rcases List.mem_cons.1 hu with rfl | hu
  ·rfl
  ·rcases List.mem_cons.1 hu with rfl | hu
   ·rfl
   ·exact ih u hu
theorem zhC {W:World} {lo E sz n:Nat} {v:Value} {xs:List Value} (h:W.ownsRow lo E sz v n xs) (h0:n=0→v=.slice none 0 0):(v=.slice none 0 0∧n=0∧xs=[])∨∃ g c,v=.slice (some ⟨g,0,none⟩) n c∧0 < n∧lo≤g∧n≤c∧∀ j u,xs[j]?=some u→W.cell? ((⟨g,0,none⟩:Addr).add j)=some u:=by
 by_cases hn:n=0
 ·subst hn;exact .inl ⟨h0 rfl,rfl,by have:=h.1;rw [Nat.zero_mul] at this;exact List.length_eq_zero_iff.1 this⟩
 ·rcases h.2 with ⟨_,h2⟩ | ⟨g,cap,cur,rfl,hl,hg,hc,_,hcs,hx⟩
  ·exact absurd h2 hn
  ·refine .inr ⟨g,cap,rfl,by omega,hl,hc,fun j u hu =>?_⟩;have hj:=(Ze.1 hu).1;rw [h.1] at hj;rw [← hx,List.getElem?_take_of_lt hj] at hu;have ea:(⟨g,0,none⟩:Addr).add j=⟨g,j,none⟩:=by cases j <;> simp [Addr.add]
   rw [ea];have b:Blk W g cur E:=hg;rw [b.cell j, ← hu,Array.getElem?_toList]
theorem yH {W:World} {lo lo' E sz n:Nat} {v:Value} {xs:List Value} (h:W.ownsRow lo E sz v n xs) (hl:lo'≤lo):W.ownsRow lo' E sz v n xs:=by
 refine ⟨h.1, ?_⟩;rcases h.2 with h2 | ⟨g,cap,cur,e,hb,h3⟩
 ·exact .inl h2
 ·exact .inr ⟨g,cap,cur,e,by omega,h3⟩
theorem YV {W W':World} {row:Option Nat} (h:Below W.heap.size W W'):W.grownBy W' row:=⟨h.os,h.tape,h.output,h.size,fun i hi _ =>h.block i hi⟩
def zb7 (l:List Int):List Value:=l.map (Value.int .i32)
theorem zjq:(Tryz.prog.info? 21).map (fun i =>(i.zero,i.size,i.bytes))=some (some (.int .i32 0),1,4):=by kernel_rfl
structure TV where
 sc:List (ByteArray × List (Int × Int))
 co:List (Int × Int)
 ma:List (Int × Int)
 pr:List (Int × Int × Int)
 fo:List (Int × ByteArray)
 lk:List (Int × ByteArray)
 dr:List (Int × Int)
 al:List (Int × Int)
 r1:List (Int × Int × Int)
 r2:List (Int × Int × Int)
 r3:List (Int × Int × Int)
 r4:List (Int × Int × Int)
 r5:List (Int × Int × Int)
 r6:List (Int × Int × Int)
 r7:List (Int × Int × Int)
 r8:List (Int × Int × Int)
def XP:List (Int × Int)→List Value
 | [] => []
 | x::t =>.int .i32 x.1::.int .i64 x.2::XP t
def Xh:List (Int × Int × Int)→List Value
 | [] => []
 | x::t =>.int .i32 x.1::.int .i32 x.2.1::.int .i32 x.2.2::Xh t
def yW:List (Int × ByteArray)→List Value
 | [] => []
 | x::t =>.int .i32 x.1::.string x.2::yW t
def jE:List (ByteArray × List (Int × Int))→List Value→List Value
 | x::t,u::us =>.string x.1::u::jE t us
 | _,_ => []
theorem zgo (t:List (Int × Int)):∀ u ∈ XP t,u.oneCell'=true:=by
 induction t with
 | nil =>intro u hu;cases hu
 | cons x t ih =>
  intro u hu;rcases List.mem_cons.1 hu with rfl | hu
  ·rfl
  ·rcases List.mem_cons.1 hu with rfl | hu
   ·rfl
   ·exact ih u hu
theorem zgp (t:List (Int × ByteArray)):∀ u ∈ yW t,u.oneCell'=true:=by
 induction t with
 | nil =>intro u hu;cases hu
 | cons x t ih =>
  intro u hu;rcases List.mem_cons.1 hu with rfl | hu
  ·rfl
  ·rcases List.mem_cons.1 hu with rfl | hu
   ·rfl
   ·exact ih u hu
theorem zgn (t:List (Int × Int × Int)):∀ u ∈ Xh t,u.oneCell'=true:=by
 induction t with
 | nil =>intro u hu;cases hu
 | cons x t ih =>
  intro u hu;rcases List.mem_cons.1 hu with rfl | hu
  ·rfl
  ·rcases List.mem_cons.1 hu with rfl | hu
   ·rfl
   ·rcases List.mem_cons.1 hu with rfl | hu
    ·rfl
    ·exact ih u hu
theorem zgk (t:List (ByteArray × List (Int × Int))) (us:List Value) (hu:∀ u ∈ us,u.oneCell'=true):∀ u ∈ jE t us,u.oneCell'=true:=by
 induction t generalizing us with
 | nil =>intro u h;cases us <;> cases h
 | cons x t ih =>cases us with
  | nil =>intro u h;cases h
  | cons v us =>
   intro u h;rcases List.mem_cons.1 h with rfl | h
   ·rfl
   ·rcases List.mem_cons.1 h with rfl | h
    ·exact hu _ List.mem_cons_self
    ·exact ih us (fun y hy =>hu y (List.mem_cons_of_mem _ hy)) u h
theorem Zm (t:List (ByteArray × List (Int × Int))) (us:List Value) (h:us.length=t.length) (j:Nat):(jE t us)[2*j+1]?=us[j]?:=by
 induction t generalizing us j with
 | nil =>cases us with
  | nil =>simp [jE]
  | cons v us =>cases h
 | cons x t ih =>cases us with
  | nil =>cases h
  | cons v us =>cases j with
   | zero =>rfl
   | succ j =>show (_::_::jE t us)[2*j+1+2]?=_;rw [List.getElem?_cons_succ,List.getElem?_cons_succ,List.getElem?_cons_succ];exact ih us (by simpa using h) j
theorem zgj (t:List (ByteArray × List (Int × Int))) (us:List Value) (h:us.length=t.length) (j:Nat) (v:Value):(jE t us).set (2*j+1) v=jE t (us.set j v):=by
 induction t generalizing us j with
 | nil =>cases us with
  | nil =>simp [jE]
  | cons v us =>cases h
 | cons x t ih =>cases us with
  | nil =>cases h
  | cons u us =>cases j with
   | zero =>rfl
   | succ j =>show (_::_::jE t us).set (2*j+1+2) v=_::_::jE t (us.set j v);rw [List.set_cons_succ,List.set_cons_succ,ih us (by simpa using h) j]
theorem Zu (t:List (ByteArray × List (Int × Int))) (us:List Value) (h:us.length=t.length):(jE t us).length=t.length*2:=by
 induction t generalizing us with
 | nil =>cases us <;> rfl
 | cons x t ih =>cases us with
  | nil =>cases h
  | cons u us =>show (jE t us).length+1+1=(t.length+1)*2;rw [ih us (by simpa using h)];omega
theorem ze7 {W:World} {lo E sz n g cap:Nat} {xs:List Value} (h:W.ownsRow lo E sz (.slice (some ⟨g,0,none⟩) n cap) n xs) (i:Nat) (hi:i < n*sz) (u:Value):(W.setCell ⟨g,i,none⟩ u).ownsRow lo E sz (.slice (some ⟨g,0,none⟩) n cap) n (xs.set i u):=by
 refine ⟨by rw [List.length_set];exact h.1, ?_⟩;rcases h.2 with ⟨e,_⟩ | ⟨g',cap',cur,e,hb,hg,hc,hm,hcs,hx⟩
 ·cases e
 ·injection e with e1 e2 e3;injection e1 with e1;injection e1 with e1;subst e1 e3;have b:=(show Blk W g cur E from hg).set i u;refine .inr ⟨g,cap,_,rfl,hb,b,hc,hm,by rw [Array.size_setIfInBounds];exact hcs, ?_⟩;rw [Array.toList_setIfInBounds,List.take_set,hx]
def RowC (W:World) (hi:Nat) (a:Option Addr) (xs:List Value):Prop:=0 < xs.length→∃ g o,a=some ⟨g,o,none⟩∧g < hi∧∀ j u,xs[j]?=some u→W.cell? ⟨g,o+j,none⟩=some u
theorem Z5 (l:List (Int × Int)) (j:Nat) (x:Int × Int) (h:l[j]?=some x):(zM l)[j*2]?=some (.int .i32 x.1)∧(zM l)[j*2+1]?=some (.int .i32 x.2):=by
 induction l generalizing j with
 | nil =>simp at h
 | cons y l ih =>cases j with
  | zero =>obtain rfl:=Zo h;exact ⟨rfl,rfl⟩
  | succ j =>have:=ih j (by simpa using h);rw [show (j+1)*2=j*2+1+1 by omega];exact this
theorem Zw (t:List (Int × Int × Int)):(Xh t).length=t.length*3:=by
 induction t with
 | nil =>rfl
 | cons x t ih =>show (Xh t).length+1+1+1=(t.length+1)*3;omega
theorem Yk (l:List (Int × Int × Int)) (j:Nat) (x:Int × Int × Int) (h:l[j]?=some x):(Xh l)[j*3]?=some (.int .i32 x.1)∧(Xh l)[j*3+1]?=some (.int .i32 x.2.1)∧(Xh l)[j*3+2]?=some (.int .i32 x.2.2):=by
 induction l generalizing j with
 | nil =>simp at h
 | cons y l ih =>cases j with
  | zero =>obtain rfl:=Zo h;exact ⟨rfl,rfl,rfl⟩
  | succ j =>have:=ih j (by simpa using h);rw [show (j+1)*3=j*3+1+1+1 by omega];exact this
theorem J3 (t:List (Int × Int)):(XP t).length=t.length*2:=by
 induction t with
 | nil =>rfl
 | cons x t ih =>show (XP t).length+1+1=(t.length+1)*2;omega
theorem Qr (l:List (Int × Int)) (j:Nat) (x:Int × Int) (h:l[j]?=some x):(XP l)[j*2]?=some (.int .i32 x.1)∧(XP l)[j*2+1]?=some (.int .i64 x.2):=by
 induction l generalizing j with
 | nil =>simp at h
 | cons y l ih =>cases j with
  | zero =>obtain rfl:=Zo h;exact ⟨rfl,rfl⟩
  | succ j =>have:=ih j (by simpa using h);rw [show (j+1)*2=j*2+1+1 by omega];exact this
theorem zbp (t:List (ByteArray × List (Int × Int))) (us:List Value) (h:us.length=t.length) (j:Nat) (x:ByteArray × List (Int × Int)) (hx:t[j]?=some x):(jE t us)[j*2]?=some (.string x.1):=by
 induction t generalizing us j with
 | nil =>simp at hx
 | cons y t ih =>cases us with
  | nil =>cases h
  | cons v us =>cases j with
   | zero =>obtain rfl:=Zo hx;rfl
   | succ j =>have:=ih us (by simpa using h) j (by simpa using hx);rw [show (j+1)*2=j*2+1+1 by omega];exact this
theorem Zx (t:List (Int × ByteArray)):(yW t).length=t.length*2:=by
 induction t with
 | nil =>rfl
 | cons x t ih =>show (yW t).length+1+1=(t.length+1)*2;omega
theorem YI (l:List (Int × ByteArray)) (j:Nat) (x:Int × ByteArray) (h:l[j]?=some x):(yW l)[j*2]?=some (.int .i32 x.1)∧(yW l)[j*2+1]?=some (.string x.2):=by
 induction l generalizing j with
 | nil =>simp at h
 | cons y l ih =>cases j with
  | zero =>obtain rfl:=Zo h;exact ⟨rfl,rfl⟩
  | succ j =>have:=ih j (by simpa using h);rw [show (j+1)*2=j*2+1+1 by omega];exact this
structure TabIn (W:World) (T:TV) (a0 a1 a2 a3 a4 a5 a6 a7:Option Addr) (us:List Value):Prop where
 lu:us.length=T.sc.length
 r0:RowC W W.heap.size a0 (jE T.sc us)
 r1:RowC W W.heap.size a1 (zM T.co)
 r2:RowC W W.heap.size a2 (XP T.ma)
 r3:RowC W W.heap.size a3 (Xh T.pr)
 r4:RowC W W.heap.size a4 (yW T.fo)
 r5:RowC W W.heap.size a5 (yW T.lk)
 r6:RowC W W.heap.size a6 (zM T.dr)
 r7:RowC W W.heap.size a7 (zM T.al)
 rs:∀ (j:Nat) (x:ByteArray × List (Int × Int)) (u:Value),T.sc[j]?=some x→us[j]?=some u→∃ b d,u=.slice b x.2.length d∧RowC W W.heap.size b (zM x.2)
structure Jj (T:TV):Prop where
 n0:T.sc.length≤1000000
 n1:T.co.length≤1000000
 n2:T.ma.length≤1000000
 n3:T.pr.length≤1000000
 n4:T.fo.length≤1000000
 n5:T.lk.length≤1000000
 n6:T.dr.length≤1000000
 n7:T.al.length≤1000000
 z0:∀ x ∈ T.sc,x.1.size≤maxLen∧x.2.length≤1000000
 z2:∀ x ∈ T.ma, -9223372036854775808≤x.2∧x.2≤9223372036854775807
 z4:∀ x ∈ T.fo,x.2.size≤maxLen
 z5:∀ x ∈ T.lk,x.2.size≤maxLen
theorem RowC.below {W W':World} {hi hi':Nat} {a:Option Addr} {xs:List Value} (h:RowC W hi a xs) (hb:Below hi W W') (hl:hi≤hi'):RowC W' hi' a xs:=by
 intro h0;obtain ⟨g,o,h1,h2,h3⟩:=h h0;exact ⟨g,o,h1,by omega,fun j u hu =>(hb.cell (p:=⟨g,o+j,none⟩) h2).trans (h3 j u hu)⟩
def ze0 (T:TV) (a0 a1 a2 a3 a4 a5 a6 a7:Option Addr) (c0 c1 c2 c3 c4 c5 c6 c7:Nat):Array Value:=#[.slice a0 T.sc.length c0,.slice a1 T.co.length c1,.slice a2 T.ma.length c2,.slice a3 T.pr.length c3,.slice a4 T.fo.length c4,.slice a5 T.lk.length c5,.slice a6 T.dr.length c6,.slice a7 T.al.length c7]
theorem TabIn.lower {W W':World} {T:TV} {a0 a1 a2 a3 a4 a5 a6 a7:Option Addr} {us:List Value} (h:TabIn W T a0 a1 a2 a3 a4 a5 a6 a7 us) (hb:Below W.heap.size W W'):TabIn W' T a0 a1 a2 a3 a4 a5 a6 a7 us :=
 ⟨h.lu,h.r0.below hb hb.size,h.r1.below hb hb.size,h.r2.below hb hb.size,h.r3.below hb hb.size,h.r4.below hb hb.size,h.r5.below hb hb.size,h.r6.below hb hb.size,h.r7.below hb hb.size,fun j x u hx hu =>by
  obtain ⟨b,d,e,hr⟩:=h.rs j x u hx hu;exact ⟨b,d,e,hr.below hb hb.size⟩⟩
end Go.Proofs.YthchopdfmchpkaaGreat
