/- Texts of this claim, one behind the other. -/
import Derived.Test.YtmdgejgokoadlaaGreatDoorM2
import Derived.Test.YtmdgejgokoadlaaGreatDoorShA
import Derived.Test.YtmdgejgokoadlaaGreatDoorM1
import Derived.RangeFuncNested
/- named: how many bytes the name has with which a text begins. -/
namespace Go.Proofs.YtmdgejgokoadlaaGreatDoor
open Go.RowKit Go.Shelf
set_option linter.unusedVariables false
theorem zlm {k:IntKind} {a b:Int} (h:a=b):Ending.returned (.int k a)=.returned (.int k b):=by rw [h]
theorem za4 (t:ByteArray) (h:t.size=0):t=ByteArray.empty:=by
 apply ByteArray.ext
 apply Array.eq_empty_of_size_eq_zero
 exact h
theorem zdQ (t:ByteArray) (h:0 < t.size):¬ t.toList=[]:=fun e =>by
 have:=congrArg List.length e
 rw [ByteArray.toList_eq,Array.length_toList] at this
 have h2:t.data.size=0:=this
 have h3:t.size=t.data.size:=rfl
 omega
set_option maxRecDepth 100000 in
set_option maxHeartbeats 2000000 in
theorem ziy (t:ByteArray) (ht:t.size≤maxLen) (w:World):Calls Tryz.prog 101 #[.string t] w fun e w' =>e=.returned (.int .i64 (zao t))∧w'=w:=by
 unfold maxLen at ht
 by_cases h0:t.size=0
 ·obtain rfl:=za4 t h0
  go_enter Tryz.func101,Tryz.ntmps101
  go_wp2
  go_ret
  exact ⟨rfl,rfl⟩
 ·have hp:0 < t.size:=by omega
  have hb0:=zaz t 0 hp
  have hne:=zdQ t hp
  have hne':(t.toList == [])=false:=by simpa using hne
  cases hsm:zaP (bt t 0) with
  | false =>
   have hv:zao t=0:=by unfold zao;rw [if_pos (.inr hsm)]
   rw [hb0] at hsm
   clear hb0
   go_enter Tryz.func101,Tryz.ntmps101
   go_wp2_with (go_at_call 98;refine (zbG _ _).mono ?_;rintro e w' ⟨rfl,rfl⟩)
   go_ret
   exact ⟨zlm (by rw [hv];rfl),rfl⟩
  | true =>
   have hv:zao t=za2 (fun n =>zcd (bt t n)) (min t.size 32) 1:=by unfold zao;rw [if_neg (fun q =>q.elim h0 (fun q2 =>by rw [hsm] at q2;cases q2))]
   rw [hb0] at hsm
   clear hb0
   have HV:=kz hv
   clear hv
   go_enter Tryz.func101,Tryz.ntmps101
   go_wp2_with (go_at_call 98;refine (zbG _ _).mono ?_;rintro e w' ⟨rfl,rfl⟩)
   go_loop [3] (fun i => ∃ k:Nat,1≤k∧k≤min t.size 32∧i=.int .i64 k∧Hz (zao t=za2 (fun n =>zcd (bt t n)) (min t.size 32) k)) (fun i =>t.size - (intOf i).toNat)
   case atStart =>exact ⟨1,by omega,by omega,rfl,HV⟩
   case round =>
    obtain ⟨k,hk1,hk2,rfl,HK⟩:=hrel
    clear hne hne' hsm HV
    by_cases hkt:k < t.size
    ·have hkt':(k:Int) < (t.size:Int):=by omega
     have hi2:((k:Nat):Int).toNat=k:=by omega
     have hbk:=zaz t k hkt
     by_cases hk32:k < 32
     ·have hk32':(k:Int) < 32:=by omega
      cases hin:zcd (bt t k) with
      | true =>
       have HN:=kz (zbx (p:=fun n =>zcd (bt t n)) (hi:=min t.size 32) (n:=k) (by omega) hin)
       rw [hbk] at hin
       clear hbk
       go_wp2_with (go_at_call 140;refine (zdn _ _).mono ?_;rintro e w' ⟨rfl,rfl⟩)
       go_round
       case rel =>exact ⟨k+1,by omega,by omega,by go_num,kz ((oz HK).trans (oz HN))⟩
       case measure =>simp [intOf];omega
      | false =>
       have HN:=kz (zbb (p:=fun n =>zcd (bt t n)) (hi:=min t.size 32) (n:=k) hin)
       rw [hbk] at hin
       clear hbk
       go_wp2_with (go_at_call 140;refine (zdn _ _).mono ?_;rintro e w' ⟨rfl,rfl⟩)
       go_ret
       exact ⟨zlm (by rw [oz HK,oz HN]),rfl⟩
     ·have hk32':¬ (k:Int) < 32:=by omega
      have HN:=kz (zaC (p:=fun n =>zcd (bt t n)) (hi:=min t.size 32) (n:=k) (by omega))
      clear hbk
      go_wp2_with (go_at_call 140;refine (zdn _ _).mono ?_;rintro e w' ⟨rfl,rfl⟩)
      go_ret
      exact ⟨zlm (by rw [oz HK,oz HN]),rfl⟩
    ·have hkt':¬ (k:Int) < (t.size:Int):=by omega
     have HN:=kz (zaC (p:=fun n =>zcd (bt t n)) (hi:=min t.size 32) (n:=k) (by omega))
     go_wp2_with (go_at_call 140;refine (zdn _ _).mono ?_;rintro e w' ⟨rfl,rfl⟩)
     go_ret
     exact ⟨zlm (by rw [oz HK,oz HN]),rfl⟩
set_option maxRecDepth 100000 in
set_option maxHeartbeats 2000000 in
theorem number_any (t:ByteArray) (ht:t.size≤4611686018427387904) (hp:0 < t.size) (hd:zcr (bt t 0)=true) (w:World):Calls Tryz.prog 102 #[.string t] w fun e w' =>e=.returned (.tuple #[.int .i64 (zcH t).1,.int .i64 (zcH t).2])∧w'=w:=by
 have hb0:=zaz t 0 hp
 have hd0:=zdC.1 hd
 have HV:Hz (zcH t=zcW t (bt t 0 - 48) 1):=kz rfl
 rw [hb0] at HV hd0
 clear hb0 hd
 have hd1:(48:Int)≤(t[0].toNat:Int):=by omega
 have hd2:(t[0].toNat:Int)≤57:=by omega
 go_enter Tryz.func102,Tryz.ntmps102
 go_wp2
 go_loop [4,5] (fun x i => ∃ v k:Nat,1≤k∧k≤t.size∧v≤65535∧x=.int .i64 v∧i=.int .i64 k∧Hz (zcH t=zcW t v k)) (fun _ i =>t.size - (intOf i).toNat)
 case atStart =>exact ⟨t[0].toNat - 48,1,by omega,by omega,by omega,by go_num,rfl,HV⟩
 case round =>
  obtain ⟨v,k,hk1,hk2,hv,rfl,rfl,HK⟩:=hrel
  clear HV hd0 hd1 hd2
  by_cases hkt:k < t.size
  ·have hkt':(k:Int) < (t.size:Int):=by omega
   have hi2:((k:Nat):Int).toNat=k:=by omega
   have hbk:=zaz t k hkt
   cases hdg:zcr (bt t k) with
   | true =>
    have hdk:=zdC.1 hdg
    by_cases hv0:0 < v
    ·have hv0':(0:Int) < (v:Int):=by omega
     by_cases hm:v*10+(bt t k - 48)≤65535
     ·have HN:=kz (zed hkt hdg hv0 hm)
      rw [hbk] at hdg hdk HN hm
      clear hbk
      have hc1:(48:Int)≤(t[k].toNat:Int):=by omega
      have hc2:(t[k].toNat:Int)≤57:=by omega
      have hm':¬ (65535:Int) < (v:Int)*10+((t[k].toNat:Int) - 48):=by omega
      go_wp2_with (go_at_call 99;refine (za7 _ _).mono ?_;rintro e w' ⟨rfl,rfl⟩)
      go_round
      case rel =>exact ⟨v*10+(t[k].toNat - 48),k+1,by omega,by omega,hm,by go_num,by go_num,kz ((oz HK).trans (oz HN))⟩
      case measure =>simp [intOf];omega
     ·have HN:=kz (za5 (t:=t) (v:=v) (n:=k) (fun q =>hm q.2.2.2))
      rw [hbk] at hdg hdk hm
      clear hbk
      have hc1:(48:Int)≤(t[k].toNat:Int):=by omega
      have hc2:(t[k].toNat:Int)≤57:=by omega
      have hm':(65535:Int) < (v:Int)*10+((t[k].toNat:Int) - 48):=by omega
      go_wp2_with (go_at_call 99;refine (za7 _ _).mono ?_;rintro e w' ⟨rfl,rfl⟩)
      go_ret2
      exact ⟨by rw [show zcH t=(v,k) from (oz HK).trans (oz HN)];rfl,rfl⟩
    ·have hv0':¬ (0:Int) < (v:Int):=by omega
     have HN:=kz (za5 (t:=t) (v:=v) (n:=k) (fun q =>hv0 q.2.2.1))
     rw [hbk] at hdg
     clear hbk hdk
     go_wp2_with (go_at_call 99;refine (za7 _ _).mono ?_;rintro e w' ⟨rfl,rfl⟩)
     go_ret2
     exact ⟨by rw [show zcH t=(v,k) from (oz HK).trans (oz HN)];rfl,rfl⟩
   | false =>
    have HN:=kz (za5 (t:=t) (v:=v) (n:=k) (fun q =>by rw [hdg] at q;cases q.2.1))
    rw [hbk] at hdg
    clear hbk
    go_wp2_with (go_at_call 99;refine (za7 _ _).mono ?_;rintro e w' ⟨rfl,rfl⟩)
    go_ret2
    exact ⟨by rw [show zcH t=(v,k) from (oz HK).trans (oz HN)];rfl,rfl⟩
  ·have hkt':¬ (k:Int) < (t.size:Int):=by omega
   have HN:=kz (za5 (t:=t) (v:=v) (n:=k) (fun q =>hkt q.1))
   go_wp2_with (go_at_call 99;refine (za7 _ _).mono ?_;rintro e w' ⟨rfl,rfl⟩)
   go_ret2
   exact ⟨by rw [show zcH t=(v,k) from (oz HK).trans (oz HN)];rfl,rfl⟩
theorem ziJ (s p:ByteArray) (w:World):Calls Tryz.prog 139 #[.string s,.string p] w fun e w' =>e=.returned (.bool (Lib.hasPrefix s.data.toList p.data.toList))∧w'=w:=Any.strings_HasPrefix lay99 s p w
theorem ziH (s:ByteArray) (c:Int) (w:World):Calls Tryz.prog 141 #[.string s,.int .u8 c] w fun e w' =>e=.returned (.int .i64 (Lib.indexByte s.data.toList c.toNat.toUInt8))∧w'=w:=Any.strings_IndexByte lay137 s c w
def zej (t:ByteArray):Bool:=Lib.hasPrefix t.data.toList [46,46]
def zck (t:ByteArray):Nat × Nat × Bool :=
 if bt t 0=123 then (4,1,true) else if bt t 0=125 then (5,1,true) else if bt t 0=59 then (6,1,true) else if bt t 0=61 then (7,1,true) else if bt t 0=43 then (8,1,true)
 else if bt t 0=46 then (if zej t=true then (9,2,true) else (0,1,false)) else (0,0,false)
abbrev tup3 (x:Nat × Nat × Bool):Value := .tuple #[.int .i64 x.1,.int .i64 x.2.1,.bool x.2.2]
theorem tup3_of {x y:Nat × Nat × Bool} (h:x=y):Ending.returned (tup3 x)=.returned (tup3 y):=by rw [h]
set_option maxRecDepth 100000 in
set_option maxHeartbeats 2000000 in
theorem sign_any (t:ByteArray) (hp:0 < t.size) (w:World):Calls Tryz.prog 100 #[.string t] w fun e w' =>e=.returned (tup3 (zck t))∧w'=w:=by
 have hb0:=zaz t 0 hp
 unfold zck
 rw [hb0]
 clear hb0
 go_enter Tryz.func100,Tryz.ntmps100
 go_wp2_with (go_at_call 139;refine (ziJ t ⟨#[46,46]⟩ _).mono ?_;rintro e w' ⟨rfl,rfl⟩;rw [show Lib.hasPrefix t.data.toList (ByteArray.mk #[46,46]).data.toList=zej t from rfl])
 all_goals go_ret3
 all_goals refine ⟨tup3_of (x:=(_,_,_)) ?_,rfl⟩
 all_goals simp only [beq_iff_eq,beq_eq_false_iff_ne,ne_eq] at *
 all_goals (repeat' split) <;> first | rfl | (exfalso;omega) | (exfalso;simp_all;done)
def zbM (c:Nat):Int:=if 48≤c∧c≤57 then (c:Int) - 48 else if 65≤c∧c≤70 then (c:Int) - 55 else -1
theorem hexI_eq:∀ c,c < 256→Lib.indexByte [48,49,50,51,52,53,54,55,56,57,65,66,67,68,69,70] c.toUInt8=zbM c:=by decide +kernel
theorem hexI_le (c:Nat) : -1≤zbM c∧zbM c≤15:=by unfold zbM;split <;> (try split) <;> omega
def numdF (t:ByteArray):Nat→Nat→Nat→Nat × Nat
 | 0,v,n =>(v,n)
 | f+1,v,n =>if n < t.size∧(n < 6∨bt t 2≠48)∧0≤zbM (bt t n)∧v*16+(zbM (bt t n)).toNat≤1114111 then numdF t f (v*16+(zbM (bt t n)).toNat) (n+1) else (v,n)
def zaO (t:ByteArray) (v n:Nat):Nat × Nat:=numdF t (t.size - n) v n
theorem zcO {t:ByteArray} {v n:Nat} (h:n < t.size∧(n < 6∨bt t 2≠48)∧0≤zbM (bt t n)∧v*16+(zbM (bt t n)).toNat≤1114111):zaO t v n=zaO t (v*16+(zbM (bt t n)).toNat) (n+1):=by
 unfold zaO
 obtain ⟨f,hf⟩:∃ f,t.size - n=f+1:=⟨t.size - n - 1,by omega⟩
 rw [hf,show t.size - (n+1)=f by omega,numdF,if_pos h]
theorem zaH {t:ByteArray} {v n:Nat} (h:¬ (n < t.size∧(n < 6∨bt t 2≠48)∧0≤zbM (bt t n)∧v*16+(zbM (bt t n)).toNat≤1114111)):zaO t v n=(v,n):=by
 unfold zaO
 cases t.size - n with
 | zero =>rfl
 | succ f =>rw [numdF,if_neg h]
def zax (t:ByteArray):Nat × Nat × Bool :=
 if t.size < 2∨bt t 1≠43 then (0,1,false) else if (zaO t 0 2).2 < 6∨zag (zaO t 0 2).1=0 then (0,(zaO t 0 2).2,false) else ((zaO t 0 2).1,(zaO t 0 2).2,true)
abbrev tupR (x:Nat × Nat × Bool):Value := .tuple #[.int .i32 x.1,.int .i64 x.2.1,.bool x.2.2]
set_option maxRecDepth 100000 in
set_option maxHeartbeats 4000000 in
theorem zjx (t:ByteArray) (ht:t.size≤4611686018427387904) (h:t.size < 2∨bt t 1≠43) (w:World):Calls Tryz.prog 103 #[.string t] w fun e w' =>e=.returned (tupR (zax t))∧w'=w:=by
 have hv:zax t=(0,1,false):=by unfold zax;rw [if_pos h]
 rw [hv]
 clear hv
 by_cases h2:t.size < 2
 ·have h2':(t.size:Int) < 2:=by omega
  go_enter Tryz.func103,Tryz.ntmps103
  go_wp2
  go_ret3
  exact ⟨rfl,rfl⟩
 ·have h2':¬ (t.size:Int) < 2:=by omega
  have hb1:=zaz t 1 (by omega)
  have h3:(((t[1]'(by omega)).toNat:Int) != 43)=true:=by rw [bne_iff_ne];omega
  have h4:(1:Int) < (t.size:Int):=by omega
  clear hb1
  go_enter Tryz.func103,Tryz.ntmps103
  go_wp2
  go_ret3
  exact ⟨rfl,rfl⟩
theorem zdJ (c:Nat) (hc:c < 256) (w:World):Calls Tryz.prog 141 #[.string ⟨#[48,49,50,51,52,53,54,55,56,57,65,66,67,68,69,70]⟩,.int .u8 (c:Int)] w fun e w' =>e=.returned (.int .i64 (zbM c))∧w'=w :=
 (ziH ⟨#[48,49,50,51,52,53,54,55,56,57,65,66,67,68,69,70]⟩ c w).mono fun e w' ⟨h1,h2⟩ =>⟨by rw [h1, ← hexI_eq c hc];rfl,h2⟩
set_option maxRecDepth 100000 in
set_option maxHeartbeats 8000000 in
theorem ziu (t:ByteArray) (ht:t.size≤4611686018427387904) (hno:¬ (t.size < 2∨bt t 1≠43)) (w:World):Calls Tryz.prog 103 #[.string t] w fun e w' =>e=.returned (tupR (zax t))∧w'=w:=by
 have h2:2≤t.size:=by omega
 have h43:bt t 1=43:=by omega
 have h1s:1 < t.size:=h2
 have hb1:=zaz t 1 h1s
 have h2':¬ (t.size:Int) < 2:=by omega
 have h3:(((t[1]'h1s).toNat:Int) != 43)=false:=by rw [← hb1,h43];rfl
 have h4:(1:Int) < (t.size:Int):=by omega
 have HNO:=kz hno
 clear hb1 h43 hno
 go_enter Tryz.func103,Tryz.ntmps103
 go_wp2
 go_loop [5,6,7] (fun x i _ => ∃ v k:Nat,2≤k∧k≤t.size∧v≤1114111∧x=.int .i64 v∧i=.int .i64 k∧Hz (zaO t 0 2=zaO t v k)) (fun _ i _ =>t.size - (intOf i).toNat)
 case atStart =>exact ⟨0,2,by omega,by omega,by omega,rfl,rfl,kz rfl⟩
 case round =>
  obtain ⟨v,k,hk1,hk2,hv,rfl,rfl,HK⟩:=hrel
  have hno:=oz HNO
  clear h3
  have hvb:(v:Int)≤1114111:=by omega
  by_cases hkt:k < t.size
  ·have hkt':(k:Int) < (t.size:Int):=by omega
   have hi2:((k:Nat):Int).toNat=k:=by omega
   have hbk:=zaz t k hkt
   have h2s:2 < t.size:=Nat.lt_of_le_of_lt hk1 hkt
   have h2t:(2:Int) < (t.size:Int):=by omega
   have hb2:=zaz t 2 h2s
   by_cases hz:k < 6∨bt t 2≠48
   ·have hgd:(k:Int) < 6∨(¬ (k:Int) < 6∧(((t[2]'h2s).toNat:Int) != 48)=true):=by
     rcases hz with hz | hz
     ·exact .inl (by omega)
     ·by_cases h6:k < 6
      ·exact .inl (by omega)
      ·exact .inr ⟨by omega,by rw [bne_iff_ne];omega⟩
    by_cases hd0:0≤zbM (bt t k)
    ·obtain ⟨d,hd⟩:∃ d:Nat,zbM (bt t k)=d:=⟨(zbM (bt t k)).toNat,by omega⟩
     have hd15:=(hexI_le (bt t k)).2
     have hdn:(zbM (bt t k)).toNat=d:=by omega
     have hd16:(d:Int)≤15:=by omega
     have hd00:¬ (d:Int) < 0:=by omega
     by_cases hm:v*16+d≤1114111
     ·have HN:Hz (zaO t v k=zaO t (v*16+d) (k+1)):=kz (by rw [zcO ⟨hkt,hz,hd0,by rw [hdn];exact hm⟩,hdn])
      rw [hbk] at hd
      have hm':¬ (1114111:Int) < (v:Int)*16+(d:Int):=by omega
      clear hbk hd0 hdn hb2 hz hd15
      rcases hgd with h6 | ⟨h6,hz2⟩
      all_goals
       go_wp2_with (first | (go_at_call 141;refine (zdJ _ (UInt8.toNat_lt _) _).mono ?_;rintro e w' ⟨rfl,rfl⟩) | (go_at_call 142;refine (zaY _ _).mono ?_;rintro e w' ⟨rfl,rfl⟩))
       go_round
       case rel =>exact ⟨v*16+d,k+1,by omega,by omega,hm,by go_num,by go_num,kz ((oz HK).trans (oz HN))⟩
       case measure =>simp [intOf];omega
     ·have hst:=zaH (t:=t) (v:=v) (n:=k) (fun q =>hm (by have:=q.2.2.2;rw [hdn] at this;exact this))
      rw [hbk] at hd
      have hm':(1114111:Int) < (v:Int)*16+(d:Int):=by omega
      clear hbk hd0 hdn hb2 hz hd15
      rcases hgd with h6 | ⟨h6,hz2⟩
      ·have hE:zaO t 0 2=(v,k):=(oz HK).trans hst
       have HE:=kz hE
       clear hE
       have hk6:k < 6:=by omega
       have hk6':(k:Int) < 6:=by omega
       have hres:zax t=(0,k,false):=by unfold zax;rw [if_neg hno,oz HE,if_pos (.inl hk6)]
       have HRES:=kz hres
       clear hres hno
       go_wp2_with (first | (go_at_call 141;refine (zdJ _ (UInt8.toNat_lt _) _).mono ?_;rintro e w' ⟨rfl,rfl⟩) | (go_at_call 142;refine (zaY _ _).mono ?_;rintro e w' ⟨rfl,rfl⟩))
       go_ret3
       exact ⟨by rw [oz HRES];rfl,rfl⟩
      ·have hE:zaO t 0 2=(v,k):=(oz HK).trans hst
       have HE:=kz hE
       clear hE
       have hk6:¬ k < 6:=by omega
       have hk6':¬ (k:Int) < 6:=by omega
       by_cases hw0:zag v=0
       ·have hres:zax t=(0,k,false):=by unfold zax;rw [if_neg hno,oz HE,if_pos (.inr hw0)]
        have HRES:=kz hres
        clear hres hno
        have hw1:(zag v == 0)=true:=by simpa using hw0
        clear hw0
        go_wp2_with (first | (go_at_call 141;refine (zdJ _ (UInt8.toNat_lt _) _).mono ?_;rintro e w' ⟨rfl,rfl⟩) | (go_at_call 142;refine (zaY _ _).mono ?_;rintro e w' ⟨rfl,rfl⟩))
        go_ret3
        exact ⟨by rw [oz HRES];rfl,rfl⟩
       ·have hres:zax t=(v,k,true):=by unfold zax;rw [if_neg hno,oz HE,if_neg (by simp only [not_or];exact ⟨hk6,hw0⟩)]
        have HRES:=kz hres
        clear hres hno
        have hw1:(zag v == 0)=false:=by simpa using hw0
        clear hw0
        go_wp2_with (first | (go_at_call 141;refine (zdJ _ (UInt8.toNat_lt _) _).mono ?_;rintro e w' ⟨rfl,rfl⟩) | (go_at_call 142;refine (zaY _ _).mono ?_;rintro e w' ⟨rfl,rfl⟩))
        go_ret3
        exact ⟨by rw [oz HRES];rfl,rfl⟩
    ·have hst:=zaH (t:=t) (v:=v) (n:=k) (fun q =>hd0 q.2.2.1)
     have hdm:zbM (bt t k) = -1:=by have:=hexI_le (bt t k);omega
     rw [hbk] at hdm
     clear hbk hb2 hz hd0
     rcases hgd with h6 | ⟨h6,hz2⟩
     ·have hE:zaO t 0 2=(v,k):=(oz HK).trans hst
      have HE:=kz hE
      clear hE
      have hk6:k < 6:=by omega
      have hk6':(k:Int) < 6:=by omega
      have hres:zax t=(0,k,false):=by unfold zax;rw [if_neg hno,oz HE,if_pos (.inl hk6)]
      have HRES:=kz hres
      clear hres hno
      go_wp2_with (first | (go_at_call 141;refine (zdJ _ (UInt8.toNat_lt _) _).mono ?_;rintro e w' ⟨rfl,rfl⟩) | (go_at_call 142;refine (zaY _ _).mono ?_;rintro e w' ⟨rfl,rfl⟩))
      go_ret3
      exact ⟨by rw [oz HRES];rfl,rfl⟩
     ·have hE:zaO t 0 2=(v,k):=(oz HK).trans hst
      have HE:=kz hE
      clear hE
      have hk6:¬ k < 6:=by omega
      have hk6':¬ (k:Int) < 6:=by omega
      by_cases hw0:zag v=0
      ·have hres:zax t=(0,k,false):=by unfold zax;rw [if_neg hno,oz HE,if_pos (.inr hw0)]
       have HRES:=kz hres
       clear hres hno
       have hw1:(zag v == 0)=true:=by simpa using hw0
       clear hw0
       go_wp2_with (first | (go_at_call 141;refine (zdJ _ (UInt8.toNat_lt _) _).mono ?_;rintro e w' ⟨rfl,rfl⟩) | (go_at_call 142;refine (zaY _ _).mono ?_;rintro e w' ⟨rfl,rfl⟩))
       go_ret3
       exact ⟨by rw [oz HRES];rfl,rfl⟩
      ·have hres:zax t=(v,k,true):=by unfold zax;rw [if_neg hno,oz HE,if_neg (by simp only [not_or];exact ⟨hk6,hw0⟩)]
       have HRES:=kz hres
       clear hres hno
       have hw1:(zag v == 0)=false:=by simpa using hw0
       clear hw0
       go_wp2_with (first | (go_at_call 141;refine (zdJ _ (UInt8.toNat_lt _) _).mono ?_;rintro e w' ⟨rfl,rfl⟩) | (go_at_call 142;refine (zaY _ _).mono ?_;rintro e w' ⟨rfl,rfl⟩))
       go_ret3
       exact ⟨by rw [oz HRES];rfl,rfl⟩
   ·have hst:=zaH (t:=t) (v:=v) (n:=k) (fun q =>hz q.2.1)
    have h6:¬ (k:Int) < 6:=by omega
    have hz2:(((t[2]'h2s).toNat:Int) != 48)=false:=by
     rw [← hb2,show bt t 2=48 by omega];rfl
    clear hbk hb2 hz
    have hE:zaO t 0 2=(v,k):=(oz HK).trans hst
    have HE:=kz hE
    clear hE
    have hk6:¬ k < 6:=by omega
    have hk6':¬ (k:Int) < 6:=by omega
    by_cases hw0:zag v=0
    ·have hres:zax t=(0,k,false):=by unfold zax;rw [if_neg hno,oz HE,if_pos (.inr hw0)]
     have HRES:=kz hres
     clear hres hno
     have hw1:(zag v == 0)=true:=by simpa using hw0
     clear hw0
     go_wp2_with (first | (go_at_call 141;refine (zdJ _ (UInt8.toNat_lt _) _).mono ?_;rintro e w' ⟨rfl,rfl⟩) | (go_at_call 142;refine (zaY _ _).mono ?_;rintro e w' ⟨rfl,rfl⟩))
     go_ret3
     exact ⟨by rw [oz HRES];rfl,rfl⟩
    ·have hres:zax t=(v,k,true):=by unfold zax;rw [if_neg hno,oz HE,if_neg (by simp only [not_or];exact ⟨hk6,hw0⟩)]
     have HRES:=kz hres
     clear hres hno
     have hw1:(zag v == 0)=false:=by simpa using hw0
     clear hw0
     go_wp2_with (first | (go_at_call 141;refine (zdJ _ (UInt8.toNat_lt _) _).mono ?_;rintro e w' ⟨rfl,rfl⟩) | (go_at_call 142;refine (zaY _ _).mono ?_;rintro e w' ⟨rfl,rfl⟩))
     go_ret3
     exact ⟨by rw [oz HRES];rfl,rfl⟩
  ·have hkt':¬ (k:Int) < (t.size:Int):=by omega
   have hst:=zaH (t:=t) (v:=v) (n:=k) (fun q =>hkt q.1)
   have hE:zaO t 0 2=(v,k):=(oz HK).trans hst
   have HE:=kz hE
   clear hE
   by_cases hk6:k < 6
   ·have hk6':(k:Int) < 6:=by omega
    have hres:zax t=(0,k,false):=by unfold zax;rw [if_neg hno,oz HE,if_pos (.inl hk6)]
    have HRES:=kz hres
    clear hres hno
    go_wp2_with (first | (go_at_call 141;refine (zdJ _ (UInt8.toNat_lt _) _).mono ?_;rintro e w' ⟨rfl,rfl⟩) | (go_at_call 142;refine (zaY _ _).mono ?_;rintro e w' ⟨rfl,rfl⟩))
    go_ret3
    exact ⟨by rw [oz HRES];rfl,rfl⟩
   ·have hk6':¬ (k:Int) < 6:=by omega
    by_cases hw0:zag v=0
    ·have hres:zax t=(0,k,false):=by unfold zax;rw [if_neg hno,oz HE,if_pos (.inr hw0)]
     have HRES:=kz hres
     clear hres hno
     have hw1:(zag v == 0)=true:=by simpa using hw0
     clear hw0
     go_wp2_with (first | (go_at_call 141;refine (zdJ _ (UInt8.toNat_lt _) _).mono ?_;rintro e w' ⟨rfl,rfl⟩) | (go_at_call 142;refine (zaY _ _).mono ?_;rintro e w' ⟨rfl,rfl⟩))
     go_ret3
     exact ⟨by rw [oz HRES];rfl,rfl⟩
    ·have hres:zax t=(v,k,true):=by unfold zax;rw [if_neg hno,oz HE,if_neg (by simp only [not_or];exact ⟨hk6,hw0⟩)]
     have HRES:=kz hres
     clear hres hno
     have hw1:(zag v == 0)=false:=by simpa using hw0
     clear hw0
     go_wp2_with (first | (go_at_call 141;refine (zdJ _ (UInt8.toNat_lt _) _).mono ?_;rintro e w' ⟨rfl,rfl⟩) | (go_at_call 142;refine (zaY _ _).mono ?_;rintro e w' ⟨rfl,rfl⟩))
     go_ret3
     exact ⟨by rw [oz HRES];rfl,rfl⟩
theorem ziv (t:ByteArray) (ht:t.size≤4611686018427387904) (w:World):Calls Tryz.prog 103 #[.string t] w fun e w' =>e=.returned (tupR (zax t))∧w'=w:=by
 by_cases h:t.size < 2∨bt t 1≠43
 ·exact zjx t ht h w
 ·exact ziu t ht h w
def zb1 (t:ByteArray):Bool:=decide (0 < t.size) && !zbe t 0
set_option maxHeartbeats 1000000 in
theorem whole_any (t:ByteArray) (ht:t.size≤maxLen) (w:World):Calls Tryz.prog 143 #[.string t] w fun e w' =>e=.returned (.bool (zb1 t))∧Below w.heap.size w w':=by
 by_cases hp:0 < t.size
 ·have hv:zb1 t = !zbe t 0:=by unfold zb1;simp [hp]
  rw [hv]
  clear hv
  go_enter Tryz.func143,Tryz.ntmps143
  go_wp2_with fail
  refine (zd4 t ht _).mono ?_
  rintro e w1 ⟨rfl,hb⟩
  rw [zdq hp]
  have x2:=(Blk.new w1 (zaI (zdd t 0)) 234).cell 2
  have HB:=kz (hb.alloc hb.size (.cells (zaI (zdd t 0)) 234))
  simp only [zaI] at x2
  clear hb
  go_wp2
  go_ret
  exact ⟨rfl,oz HB⟩
 ·have hv:zb1 t=false:=by unfold zb1;simp [hp]
  rw [hv]
  clear hv
  go_enter Tryz.func143,Tryz.ntmps143
  go_wp2_with fail
  refine (zd4 t ht _).mono ?_
  rintro e w1 ⟨rfl,hb⟩
  rw [zgX hp]
  have HB:=kz (hb.alloc hb.size (.cells #[.int .i32 0,.int .i64 0,.bool false] 234))
  clear hb
  go_wp2
  go_ret
  exact ⟨rfl,oz HB⟩
abbrev zdM:ByteArray:=⟨#[128,128,128]⟩
abbrev zdL:ByteArray:=⟨#[160,128,128]⟩
def zgB (t:ByteArray):Bool:=decide (t.size < wd (t++zdM) 0) || decide (t.size < wd (t++zdL) 0)
theorem size_tail (t:ByteArray):(t++zdM).size=t.size+3∧(t++zdL).size=t.size+3:=by
 rw [ByteArray.size_append,ByteArray.size_append];exact ⟨rfl,rfl⟩
theorem tails_0 (w:World):(Instr.index 265 (.agg #[.string zdM,.string zdL]) (.int .i64 0)).run Tryz.prog w=.ok (.string zdM) w:=by kernel_rfl
theorem tails_1 (w:World):(Instr.index 265 (.agg #[.string zdM,.string zdL]) (.int .i64 1)).run Tryz.prog w=.ok (.string zdL) w:=by kernel_rfl
set_option maxRecDepth 100000 in
set_option maxHeartbeats 4000000 in
theorem zha (t:ByteArray) (ht:t.size≤4611686018427387904) (w:World):Calls Tryz.prog 163 #[.string t] w fun e w' =>e=.returned (.bool (zgB t))∧Below w.heap.size w w':=by
 obtain ⟨z1,z2⟩:=size_tail t
 have hA:(t++zdM).size≤maxLen:=by unfold maxLen;omega
 have hB:(t++zdL).size≤maxLen:=by unfold maxLen;omega
 obtain ⟨nA,hnA⟩:∃ nA,nA=wd (t++zdM) 0:=⟨_,rfl⟩
 obtain ⟨nB,hnB⟩:∃ nB,nB=wd (t++zdL) 0:=⟨_,rfl⟩
 have hbv:zgB t=(decide (t.size < nA) || decide (t.size < nB)):=by unfold zgB;rw [hnA,hnB]
 have HBV:=kz hbv
 have HNA:=kz hnA
 have HNB:=kz hnB
 clear hnA hnB hbv
 have vA:=zdq (s:=t++zdM) (by omega)
 have vB:=zdq (s:=t++zdL) (by omega)
 have HA:=kz hA
 have HB:=kz hB
 have hsz:t.size+3≤maxLen:=by unfold maxLen;omega
 have hx0:=tails_0
 have hx1:=tails_1
 clear z1 z2 hA hB
 go_enter Tryz.func163,Tryz.ntmps163
 go_wp2_with fail
 refine wp_loop_rounds 3 ?_
 rw [rounds_succ]
 go_wp2_with fail
 refine (zd4 (t++zdM) (oz HA) _).mono ?_
 rintro e w1 ⟨rfl,hb⟩
 rw [vA]
 have x1:(w1.alloc (.cells (zaI (zdd (t++zdM) 0)) 234)).cell? ⟨w1.heap.size,1,none⟩=some (.int .i64 (nA:Int)):=by rw [oz HNA];exact (Blk.new w1 (zaI (zdd (t++zdM) 0)) 234).cell 1
 have HWA:=kz (hb.alloc hb.size (.cells (zaI (zdd (t++zdM) 0)) 234))
 dsimp only [zaI] at x1
 clear hb
 by_cases hA:t.size < nA
 ·have hv:zgB t=true:=by rw [oz HBV];simp [hA]
  have HV:=kz hv
  have hA':(t.size:Int) < (nA:Int):=by omega
  clear hv hA
  go_wp2_with fail
  go_ret
  exact ⟨by rw [oz HV];rfl,oz HWA⟩
 have hA':¬ (t.size:Int) < (nA:Int):=by omega
 go_wp2_with fail
 rw [rounds_succ]
 go_wp2_with fail
 clear x1 hA'
 refine (zd4 (t++zdL) (oz HB) _).mono ?_
 rintro e w2 ⟨rfl,hb⟩
 rw [vB]
 have x1:(w2.alloc (.cells (zaI (zdd (t++zdL) 0)) 234)).cell? ⟨w2.heap.size,1,none⟩=some (.int .i64 (nB:Int)):=by rw [oz HNB];exact (Blk.new w2 (zaI (zdd (t++zdL) 0)) 234).cell 1
 have hq:=(oz HWA).trans (hb.mono (oz HWA).size)
 have HWB:=kz (hq.alloc hq.size (.cells (zaI (zdd (t++zdL) 0)) 234))
 clear hq
 dsimp only [zaI] at x1
 clear hb
 by_cases hB:t.size < nB
 ·have hv:zgB t=true:=by rw [oz HBV];simp [hB]
  have HV:=kz hv
  have hB':(t.size:Int) < (nB:Int):=by omega
  clear hv hB hA
  go_wp2_with fail
  go_ret
  exact ⟨by rw [oz HV];rfl,oz HWB⟩
 have hv:zgB t=false:=by rw [oz HBV];simp [hA,hB]
 have HV:=kz hv
 have hB':¬ (t.size:Int) < (nB:Int):=by omega
 clear hv hB hA
 go_wp2_with fail
 rw [rounds_succ]
 go_wp2
 go_ret
 exact ⟨by rw [oz HV];rfl,oz HWB⟩
def zaZ (t:ByteArray):Nat:=za2 (fun n =>zgB (t.extract 0 (n+1))) t.size 0
set_option maxRecDepth 100000 in
set_option maxHeartbeats 4000000 in
theorem zg9 (t:ByteArray) (ht:t.size≤4611686018427387904) (w:World):Calls Tryz.prog 144 #[.string t] w fun e w' =>e=.returned (.int .i64 (zaZ t))∧Below w.heap.size w w':=by
 go_enter Tryz.func144,Tryz.ntmps144
 go_wp2
 go_loopw [3] (fun i wr => ∃ k:Nat,k≤t.size∧i=.int .i64 k∧Hz (zaZ t=za2 (fun n =>zgB (t.extract 0 (n+1))) t.size k)∧Hz (Below w.heap.size w wr)) (fun i _ =>t.size - (intOf i).toNat)
 case atStart =>exact ⟨0,by omega,rfl,kz rfl,kz (Below.refl _ _)⟩
 case round =>
  obtain ⟨k,hk,rfl,HK,HW⟩:=hrel
  by_cases hkt:k < t.size
  ·have hkt':(k:Int) < (t.size:Int):=by omega
   have hi1:(k:Int)+1≤(t.size:Int):=by omega
   have hi2:((k:Int)+1).toNat=k+1:=by omega
   cases hbg:zgB (t.extract 0 (k+1)) with
   | true =>
    have HN:=kz (zbx (p:=fun n =>zgB (t.extract 0 (n+1))) (hi:=t.size) (n:=k) hkt hbg)
    go_wp2_with fail
    refine (zha (t.extract 0 (k+1)) (by rw [ByteArray.size_extract];omega) _).mono ?_
    rintro e w1 ⟨rfl,hb⟩
    have HW1:=kz ((oz HW).trans (hb.mono (oz HW).size))
    clear hb
    rw [hbg]
    go_wp2_with fail
    go_roundw
    case rel =>exact ⟨k+1,by omega,by go_num,kz ((oz HK).trans (oz HN)),HW1⟩
    case measure =>simp [intOf];omega
   | false =>
    have HN:=kz (zbb (p:=fun n =>zgB (t.extract 0 (n+1))) (hi:=t.size) (n:=k) hbg)
    go_wp2_with fail
    refine (zha (t.extract 0 (k+1)) (by rw [ByteArray.size_extract];omega) _).mono ?_
    rintro e w1 ⟨rfl,hb⟩
    have HW1:=kz ((oz HW).trans (hb.mono (oz HW).size))
    clear hb
    rw [hbg]
    go_wp2_with fail
    go_ret
    exact ⟨zlm (by rw [oz HK,oz HN]),oz HW1⟩
  ·have hkt':¬ (k:Int) < (t.size:Int):=by omega
   have HN:=kz (zaC (p:=fun n =>zgB (t.extract 0 (n+1))) (hi:=t.size) (n:=k) hkt)
   go_wp2_with fail
   go_ret
   exact ⟨zlm (by rw [oz HK,oz HN]),oz HW⟩
theorem below_put {B l:Nat} (W:World) (hl:B≤l) (o:Obj):Below B W (W.putObj l o):=⟨rfl,rfl,rfl,by simp,fun k hk =>World.putObj_heap_other (by omega)⟩
def tl1 (t:ByteArray):ByteArray:=t.extract 1 t.size
def zcV (t:ByteArray):Nat × Nat × Bool :=
 if (tl1 t).size=0 then (0,t.size,false) else if rn (tl1 t) 0 < 32∨rn (tl1 t) 0=39∨rn (tl1 t) 0=127 then (0,1,false) else if zb1 (tl1 t)=false then (0,1+zaZ (tl1 t),false)
 else if ¬ wd (tl1 t) 0 < (tl1 t).size then (0,t.size,false) else if rn (tl1 t) (wd (tl1 t) 0)=39 then (rn (tl1 t) 0,wd (tl1 t) 0+2,true) else (0,1+wd (tl1 t) 0,false)
theorem zfH (t:ByteArray):(tl1 t).size=t.size - 1:=by unfold tl1;rw [ByteArray.size_extract];omega
theorem tupR_mk {a n:Nat} {i:Int} {b:Bool} (h:i=n):Ending.returned (.tuple #[.int .i32 (a:Int),.int .i64 i,.bool b])=.returned (tupR (a,n,b)):=by subst h;rfl
set_option maxRecDepth 100000 in
set_option maxHeartbeats 4000000 in
theorem zlq (t:ByteArray) (ht:t.size≤4611686018427387904) (hp:0 < t.size) (w:World):Calls Tryz.prog 104 #[.string t] w fun e w' =>e=.returned (tupR (zcV t))∧Below w.heap.size w w':=by
 have hz:=zfH t
 have h1t:(1:Int)≤(t.size:Int):=by omega
 obtain ⟨u,hu⟩:∃ u,u=tl1 t:=⟨_,rfl⟩
 have hue:t.extract 1 t.size=u:=by rw [hu];rfl
 have hq:zcV t=if u.size=0 then (0,t.size,false) else if rn u 0 < 32∨rn u 0=39∨rn u 0=127 then (0,1,false) else if zb1 u=false then (0,1+zaZ u,false) else if ¬ wd u 0 < u.size then (0,t.size,false) else if rn u (wd u 0)=39 then (rn u 0,wd u 0+2,true) else (0,1+wd u 0,false):=by unfold zcV;rw [hu]
 rw [← hu] at hz
 clear hu
 have HQ:=kz hq
 have HZ:=kz hz
 clear hq hz
 go_enter Tryz.func104,Tryz.ntmps104
 go_wp2_with fail
 refine wp_loop_rounds 3 ?_
 rw [rounds_succ]
 by_cases h0:0 < u.size
 ·have hnx:∀ ty,(Instr.next (.pointer (some ⟨w.heap.size,0,none⟩)) true ty).run Tryz.prog (w.iter u 0)=_:=fun ty =>run_next_any w u 0 ty h0
  have hr:=(zcj u 0)
  obtain ⟨x,hx⟩:∃ x,x=rn u 0:=⟨_,rfl⟩
  obtain ⟨d,hd⟩:∃ d,d=wd u 0:=⟨_,rfl⟩
  have hdr:=zbC u 0 h0
  have hdp:=zbh u 0
  rw [← hd] at hdr hdp
  rw [show (Utf8.decode u 0).1=x from hx.symm,show 0+(Utf8.decode u 0).2=d by rw [Nat.zero_add];exact hd.symm] at hnx
  have hq:=oz HQ
  rw [← hx, ← hd,if_neg (by omega)] at hq
  clear HQ
  by_cases hlow:x < 32∨x=39∨x=127
  ·rw [if_pos hlow] at hq
   have HQ:=kz hq
   clear hq hr hd hx
   have hb:Below w.heap.size w (w.iter u d):=(Below.refl _ w).alloc (Nat.le_refl _) _
   have HB:=kz hb
   clear hb
   rcases hlow with h | h | h
   ·have h':(x:Int) < 32:=by omega
    clear h
    go_wp2_with fail
    go_ret3
    exact ⟨by rw [oz HQ];rfl,oz HB⟩
   ·have h':¬ (x:Int) < 32:=by omega
    have h'':((x:Int) == 39)=true:=by rw [beq_iff_eq];omega
    clear h
    go_wp2_with fail
    go_ret3
    exact ⟨by rw [oz HQ];rfl,oz HB⟩
   ·have h':¬ (x:Int) < 32:=by omega
    have h'':((x:Int) == 39)=false:=by rw [beq_eq_false_iff_ne];omega
    have h3:((x:Int) == 127)=true:=by rw [beq_iff_eq];omega
    clear h
    go_wp2_with fail
    go_ret3
    exact ⟨by rw [oz HQ];rfl,oz HB⟩
  ·rw [if_neg hlow] at hq
   have h1:¬ (x:Int) < 32:=by omega
   have h2:((x:Int) == 39)=false:=by rw [beq_eq_false_iff_ne];omega
   have h3:((x:Int) == 127)=false:=by rw [beq_eq_false_iff_ne];omega
   clear hlow
   have HQ:=kz hq
   clear hq hr
   have hu1:u.size≤maxLen:=by have:=oz HZ;unfold maxLen;omega
   have hu2:u.size≤4611686018427387904:=by have:=oz HZ;omega
   have hb:Below w.heap.size w (w.iter u d):=(Below.refl _ w).alloc (Nat.le_refl _) _
   have hit:(w.iter u d).heap[w.heap.size]?=some (.stringIter u d):=World.alloc_heap_new w _
   have hsz:(w.iter u d).heap.size=w.heap.size+1:=World.size_alloc w _
   have HB:=kz hb
   have HIT:=kz hit
   have HSZ:=kz hsz
   have HX:=kz hx
   have HD:=kz hd
   clear hb hit hsz hx hd
   go_wp2_with fail
   refine (whole_any u hu1 _).mono ?_
   rintro e w1 ⟨rfl,hb1⟩
   have HB1:=kz ((oz HB).trans (hb1.mono (oz HB).size))
   have HIT1:Hz (w1.heap[w.heap.size]?=some (.stringIter u d)):=kz ((hb1.block _ (by rw [oz HSZ];omega)).trans (oz HIT))
   clear hb1 HB HIT HSZ hnx
   cases hwh:zb1 u with
   | false =>
    have hq:=oz HQ
    rw [if_pos hwh] at hq
    have HQ2:=kz hq
    clear hq HQ hwh
    go_wp2_with fail
    refine (zg9 u hu2 _).mono ?_
    rintro e w2 ⟨rfl,hb2⟩
    have HB2:=kz ((oz HB1).trans (hb2.mono (oz HB1).size))
    have hbl:zaZ u≤u.size:=(zbT _ (Nat.zero_le _)).2
    have hbl':(zaZ u:Int)≤4611686018427387904:=by omega
    clear hb2
    go_wp2_with fail
    go_ret3
    exact ⟨by rw [oz HQ2];go_num,oz HB2⟩
   | true =>
    have hq:=oz HQ
    rw [if_neg (by rw [hwh];decide)] at hq
    clear HQ hwh
    have HQ:=kz hq
    clear hq
    go_wp2_with fail
    rw [rounds_succ]
    by_cases hdu:d < u.size
    ·have hnx:∀ ty,(Instr.next (.pointer (some ⟨w.heap.size,0,none⟩)) true ty).run Tryz.prog w1=_:=fun ty =>Lib.run_next_any_at w1 w.heap.size u d ty (oz HIT1) hdu
     obtain ⟨y,hy⟩:∃ y,y=rn u d:=⟨_,rfl⟩
     rw [show (Utf8.decode u d).1=y from hy.symm] at hnx
     have hq:=oz HQ
     rw [if_neg (by omega), ← hy] at hq
     have hB2:Below w.heap.size w (w1.iterAt w.heap.size u (d+(Utf8.decode u d).2)):=(oz HB1).trans (below_put w1 (Nat.le_refl _) _)
     have HB2:=kz hB2
     have hd0:(0:Int) < (d:Int):=by omega
     have hdb:(d:Int)≤4611686018427387904:=by omega
     clear HQ hy hB2
     by_cases h39:y=39
     ·rw [if_pos h39] at hq
      have HQ2:=kz hq
      have h':((y:Int) == 39)=true:=by rw [beq_iff_eq];omega
      clear hq h39
      go_wp2_with fail
      go_ret3
      exact ⟨by rw [oz HQ2];exact tupR_mk (by omega),oz HB2⟩
     ·rw [if_neg h39] at hq
      have HQ2:=kz hq
      have h':((y:Int) == 39)=false:=by rw [beq_eq_false_iff_ne];omega
      clear hq h39
      go_wp2_with fail
      go_ret3
      exact ⟨by rw [oz HQ2];exact tupR_mk (a:=0) (by omega),oz HB2⟩
    ·have hnx:∀ ty,(Instr.next (.pointer (some ⟨w.heap.size,0,none⟩)) true ty).run Tryz.prog w1=_:=fun ty =>Lib.run_next_end_at w1 w.heap.size u d ty (oz HIT1) hdu
     have hq:=oz HQ
     rw [if_pos (by omega)] at hq
     have HQ2:=kz hq
     clear hq HQ
     go_wp2_with fail
     go_ret3
     exact ⟨by rw [oz HQ2];rfl,oz HB1⟩
 ·have hu0:u.size=0:=by omega
  have hnx:∀ ty,(Instr.next (.pointer (some ⟨w.heap.size,0,none⟩)) true ty).run Tryz.prog (w.iter u 0)=_:=fun ty =>run_next_end w u 0 ty h0
  have hq:=oz HQ
  rw [if_pos hu0] at hq
  have HQ2:=kz hq
  have hb:Below w.heap.size w (w.iter u 0):=(Below.refl _ w).alloc (Nat.le_refl _) _
  have HB:=kz hb
  clear hq hb HQ hu0
  go_wp2_with fail
  go_ret3
  exact ⟨by rw [oz HQ2];rfl,oz HB⟩
theorem cut_sh (s sep:ByteArray) (m:Int) (w:World) (hs:s.size < 4294967281) (hm:w.cell? ⟨7,0,none⟩=some (.int .i64 m)) :
  Calls Tryz.prog 159 #[.string s,.string sep] w fun e w' =>e=.returned (.tuple #[.string ⟨(Lib.cut s.data.toList sep.data.toList).1.toArray⟩,.string ⟨(Lib.cut s.data.toList sep.data.toList).2.1.toArray⟩,.bool (Lib.cut s.data.toList sep.data.toList).2.2])∧∃ n,w'=w.drewN n:=Any.strings_Cut lay145 s sep m w hs hm
def zd0 (t:ByteArray):Nat:=za2 (fun n => !decide (bt t n=10)) t.size 0
theorem zer (t:ByteArray):zd0 t≤t.size:=(zbT _ (Nat.zero_le _)).2
theorem zcG {p:Nat→Bool} {hi m:Nat}:∀ k n,m=n+k→m≤hi→(∀ j,n≤j→j < m→p j=true)→za2 p hi n=za2 p hi m
 | 0,n,h,_,_ =>by rw [h];rfl
 | k+1,n,h,hm,hp =>by
  rw [zbx (by omega) (hp n (Nat.le_refl _) (by omega))]
  exact zcG k (n+1) (by omega) hm (fun j h1 h2 =>hp j (by omega) h2)
theorem zjS (t:ByteArray) (k:Nat) (h:k < t.size):t.data.toList[k]?=some (t.get! k):=by
 rw [zcy t k h];simp
theorem cut_nl (t:ByteArray):(⟨(Lib.cut t.data.toList [10]).1.toArray⟩:ByteArray)=t.extract 0 (zd0 t):=by
 have hx:=Lib.index_one t.data.toList 10
 have hlen:t.data.toList.length=t.size:=Array.length_toList
 unfold Lib.cut
 rw [hx]
 by_cases h:0≤Lib.indexByte t.data.toList 10
 ·obtain ⟨o,ho⟩:∃ o:Nat,Lib.indexByte t.data.toList 10=o:=⟨(Lib.indexByte t.data.toList 10).toNat,by omega⟩
  obtain ⟨h1,h2⟩:=Lib.indexByte_some ho
  have hos:o < t.size:=by rw [← hlen];exact (List.getElem?_eq_some_iff.1 h1).1
  have e:zd0 t=o:=by
   unfold zd0
   rw [zcG (m:=o) o 0 (by omega) (by omega) (fun j _ hj =>?_),zbb ?_]
   ·rw [zjS t o hos] at h1
    have:t.get! o=10:=Option.some.inj h1
    unfold bt
    rw [this];rfl
   ·have:=h2 j hj
    rw [zjS t j (by omega)] at this
    have hn:t.get! j≠10:=fun e =>this (by rw [e])
    have:¬ bt t j=10:=fun e =>hn (UInt8.toNat.inj (by unfold bt at e;rw [e];rfl))
    simp [this]
  rw [if_pos h,ho,e]
  apply ByteArray.ext
  rw [ByteArray.data_extract]
  apply Array.toList_inj.1
  simp [Array.toList_extract,List.extract]
 ·have hn:Lib.indexByte t.data.toList 10 = -1:=by have:=Lib.indexByte_ge t.data.toList 10;omega
  have h2:=Lib.indexByte_none hn
  have e:zd0 t=t.size:=by
   unfold zd0
   rw [zcG (m:=t.size) t.size 0 (by omega) (by omega) (fun j _ hj =>?_),zaC (by omega)]
   have:=h2 j
   rw [zjS t j hj] at this
   have hn:t.get! j≠10:=fun e =>this (by rw [e])
   have:¬ bt t j=10:=fun e =>hn (UInt8.toNat.inj (by unfold bt at e;rw [e];rfl))
   simp [this]
  rw [if_neg h,e,ByteArray.extract_zero_size]
def zbv (s:ByteArray):Option Nat:=(zaw s).find? (zbe s)
theorem zi7 {s:ByteArray} {x:Nat} (h:zbv s=some x):∃ y:Nat,zeB s=.tuple #[.agg #[.int .i64 x,.int .i64 y],.bool false]:=by
 obtain ⟨hb,q,r,e,hq⟩:=List.find?_eq_some_iff_append.1 h
 refine ⟨q.length, ?_⟩
 unfold zeB
 rw [e,zdb s x r hb q 0 (fun i hi =>by simpa using hq i hi),Nat.zero_add]
theorem zi8 {s:ByteArray} (h:zbv s=none):zeB s=.tuple #[.agg #[.int .i64 0,.int .i64 0],.bool true]:=by
 unfold zeB
 exact zdc s _ 0 (fun i hi =>by simpa using List.find?_eq_none.1 h i hi)
def zeh (t:ByteArray):Nat × Bool :=
 match zbv (t.extract 0 (zd0 t)) with
 | none =>((t.extract 0 (zd0 t)).size,true)
 | some x =>(x+zaZ ((t.extract 0 (zd0 t)).extract x (t.extract 0 (zd0 t)).size),false)
abbrev tupB (x:Nat × Bool):Value := .tuple #[.int .i64 x.1,.bool x.2]
theorem tupB_mk {n:Nat} {i:Int} {b:Bool} (h:i=n):Ending.returned (.tuple #[.int .i64 i,.bool b])=.returned (tupB (n,b)):=by subst h;rfl
theorem zhc {n:Int} (h1 : -9223372036854775808≤n) (h2:n≤9223372036854775807):IntKind.i64.wrap n=n:=by
 simp [IntKind.wrap,IntKind.bits,IntKind.signed]
 omega

def bndOf (k:Nat):Nat:=if k=1 then 32 else if k=2 then 2048 else if k=3 then 131072 else 8388608
theorem bnd_step (k A c:Nat) (h1:1≤k) (h4:k < 4) (hA:A < bndOf k):A < 33554432∧A*64+c % 64 < bndOf (k+1):=by
 have:k=1∨k=2∨k=3:=by omega
 rcases this with rfl | rfl | rfl <;> simp [bndOf] at hA ⊢ <;> omega


theorem own_lt {W:World} {base:Nat} {e:TypeId} {size:Nat} {v:Value} {n:Nat} {xs:List Value} (h:W.ownsRow base e size v n xs):∀ g,v.ownBlock=some g→base≤g∧g < W.heap.size:=by
 intro g hg
 rcases h.2 with ⟨rfl,_⟩ | ⟨g',cap,cur,rfl,hb,hh,_⟩
 ·cases hg
 ·cases hg
  exact ⟨hb,(Array.getElem?_eq_some_iff.1 hh).1⟩
end Go.Proofs.YtmdgejgokoadlaaGreatDoor
