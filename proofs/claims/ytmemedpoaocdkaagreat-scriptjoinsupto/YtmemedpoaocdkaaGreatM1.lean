/- Texts of this claim, one behind the other. -/
import Derived.Lib.DecodeN
import Derived.Laws.Strings
import Derived.Laws.RangeAny
import Derived.RangeFuncNested
import Derived.RangeFuncBound
import Derived.RangeFuncCalls
import Derived.RangeFuncLeaves
import Derived.Shelf.Abstract
import Derived.Shelf.RegionOpen
import Derived.WalkKit
import Derived.OwnWalkIn
import Derived.TacticsInMore
import Derived.LoopNIn
import Derived.LoopIn
import Derived.Test.YtmemedpoaocdkaaGreatProg
import Derived.Lib.OthersKept
/- Plain facts on UTF-8 sequences: what the model's decoding says of a text's bytes; no program is named here. -/
namespace Go.Proofs.YtmemedpoaocdkaaGreat
set_option linter.unusedVariables false
open Go.Lib (decodeN decode_at)

def zaA (r:Int):Int :=
 if r < 0∨(55296≤r∧r≤57343)∨1114111 < r then 0 else if r≤127 then 1 else if r≤2047 then 2 else if r≤65535 then 3 else 4
def zft (s:ByteArray):Bool:=decide (3≤s.size) && ((s.extract 0 3).toList == [239,191,189])
def zhM (s:ByteArray) (r:Int):Int × Int × Bool:=if r=65533∧zft s=false then (65533,1,true) else (r,zaA r,false)

abbrev bt (s:ByteArray) (i:Nat):Nat:=(s.get! i).toNat
abbrev rn (s:ByteArray) (i:Nat):Nat:=(Utf8.decode s i).1
abbrev wd (s:ByteArray) (i:Nat):Nat:=(Utf8.decode s i).2

theorem zfX (s:ByteArray) (i:Nat):bt s i < 256:=(s.get! i).toNat_lt

structure zso (n b0 b1 b2 b3:Nat) (x:Nat × Nat):Prop where
 pos:1≤x.2
 four:x.2≤4
 room:1≤n→x.2≤n
 c1:2≤x.2→b1 / 64=2
 c2:3≤x.2→b2 / 64=2
 c3:4≤x.2→b3 / 64=2
 lead:2≤x.2→192≤b0
 small:x.1≤1114111
 nosur:¬ (55296≤x.1∧x.1≤57343)
 width:¬ (x.1=65533∧x.2=1)→(x.2=1∧x.1≤127)∨(x.2=2∧128≤x.1∧x.1≤2047)∨(x.2=3∧2048≤x.1∧x.1≤65535)∨(x.2=4∧65536≤x.1)
 one:x.2=1→x.1=65533∧128≤b0∨x.1=b0∧b0 < 128
 repl:x.1=65533→x.2=1∨(x.2=3∧3≤n∧b0=239∧b1=191∧b2=189)

set_option maxHeartbeats 2000000 in
theorem told (n b0 b1 b2 b3:Nat) (h0:b0 < 256) (h1:b1 < 256) (h2:b2 < 256) (h3:b3 < 256):zso n b0 b1 b2 b3 (decodeN n b0 b1 b2 b3):=by
 unfold decodeN
 repeat' split
 all_goals (constructor <;> intros <;> dsimp only at * <;> omega)

theorem zjC (n b3:Nat) (h:3≤n):decodeN n 239 191 189 b3=(65533,3):=by
 unfold decodeN
 rw [if_neg (by omega),if_neg (by omega),if_pos (by omega),if_pos (by omega)]

theorem zgy (n m b0 b1 b2 b3:Nat) (h:n=m∨(4≤n∧4≤m)):decodeN n b0 b1 b2 b3=decodeN m b0 b1 b2 b3:=by
 rcases h with rfl | ⟨h,k⟩
 ·rfl
 ·have e1:(1 < n)=(1 < m):=propext ⟨fun _ =>by omega,fun _ =>by omega⟩
  have e2:(2 < n)=(2 < m):=propext ⟨fun _ =>by omega,fun _ =>by omega⟩
  have e3:(3 < n)=(3 < m):=propext ⟨fun _ =>by omega,fun _ =>by omega⟩
  unfold decodeN
  simp only [e1,e2,e3]

theorem zgz (n b0 b1 b2 b3 c1 c2 c3:Nat) (h1:1 < n→b1=c1) (h2:2 < n→b2=c2) (h3:3 < n→b3=c3):decodeN n b0 b1 b2 b3=decodeN n b0 c1 c2 c3:=by
 by_cases k1:1 < n
 ·by_cases k2:2 < n
  ·by_cases k3:3 < n
   ·rw [h1 k1,h2 k2,h3 k3]
   ·rw [h1 k1,h2 k2];unfold decodeN;simp only [k3,false_and,and_false,if_false]
  ·have k3:¬ 3 < n:=by omega
   rw [h1 k1];unfold decodeN;simp only [k2,k3,false_and,and_false,if_false]
 ·have k2:¬ 2 < n:=by omega
  have k3:¬ 3 < n:=by omega
  unfold decodeN;simp only [k1,k2,k3,false_and,and_false,if_false]

theorem zfj (s:ByteArray) (i:Nat) (h:i < s.size):s.get! i=s.data[i]'h:=by
 show s.data[i]! = _
 exact getElem!_pos s.data i h
theorem zk9 (s:ByteArray) (i:Nat) (h:s.size≤i):s.get! i=default:=by
 show s.data[i]! = _
 exact getElem!_neg s.data i (by show ¬ i < s.data.size;have:s.data.size=s.size:=rfl;omega)
theorem zfu (s:ByteArray) (a b j:Nat) (h:a+j < b) (hb:b≤s.size):(s.extract a b).get! j=s.get! (a+j):=by
 rw [zfj _ _ (by rw [ByteArray.size_extract];omega),zfj _ _ (by omega)]
 simp
theorem zh6 (s:ByteArray) (a j:Nat) (ha:a≤s.size):(s.extract a s.size).get! j=s.get! (a+j):=by
 by_cases h:a+j < s.size
 ·exact zfu s a s.size j h (Nat.le_refl _)
 ·rw [zk9 _ _ (by rw [ByteArray.size_extract];omega),zk9 _ _ (by omega)]

theorem zeu (s:ByteArray) (a j:Nat) (ha:a≤s.size):Utf8.decode (s.extract a s.size) j=Utf8.decode s (a+j):=by
 rw [decode_at,decode_at,ByteArray.size_extract]
 simp only [zh6 s a _ ha,Nat.min_self,Nat.sub_sub,Nat.add_assoc]

theorem ze5 (s:ByteArray) (i:Nat):zso (s.size - i) (bt s i) (bt s (i+1)) (bt s (i+2)) (bt s (i+3)) (Utf8.decode s i):=by
 rw [decode_at];exact told _ _ _ _ _ (zfX s i) (zfX s _) (zfX s _) (zfX s _)
theorem zcx (s:ByteArray) (i:Nat):1≤wd s i:=(ze5 s i).pos
theorem zir (s:ByteArray) (i:Nat):wd s i≤4:=(ze5 s i).four
theorem zdh (s:ByteArray) (i:Nat) (h:i < s.size):i+wd s i≤s.size:=by have:=(ze5 s i).room (by omega);show i+(Utf8.decode s i).2≤_;omega
theorem zp9 (s:ByteArray) (i k:Nat) (h0:0 < k) (h:k < wd s i):bt s (i+k) / 64=2:=by
 have t:=ze5 s i
 have f:=zir s i
 have:k=1∨k=2∨k=3:=by omega
 rcases this with rfl | rfl | rfl
 ·exact t.c1 h
 ·exact t.c2 h
 ·exact t.c3 h
theorem zp8 (s:ByteArray) (i:Nat) (h:2≤wd s i):192≤bt s i:=(ze5 s i).lead h

def zb1 (s:ByteArray) (i:Nat):Int × Int × Bool:=(rn s i,wd s i,decide (rn s i=65533∧wd s i=1))

theorem zmB (l:List UInt8) (hl:3≤l.length):(l.extract 0 3 == [239,191,189])=true ↔ l[0].toNat=239∧l[1].toNat=191∧l[2].toNat=189:=by
 match l,hl with
 | a::b::c::r,_ =>simp [List.extract, ← UInt8.toNat_inj]

theorem znv (t:ByteArray):zft t=true ↔ 3≤t.size∧bt t 0=239∧bt t 1=191∧bt t 2=189:=by
 unfold zft
 rw [ByteArray.toList_eq,ByteArray.data_extract,Array.toList_extract]
 by_cases h:3≤t.size
 ·have g0:=zfj t 0 (by omega)
  have g1:=zfj t 1 (by omega)
  have g2:=zfj t 2 (by omega)
  have hl:3≤t.data.toList.length:=by simpa using h
  have e0:t.get! 0=t.data.toList[0]:=by rw [g0];simp
  have e1:t.get! 1=t.data.toList[1]:=by rw [g1];simp
  have e2:t.get! 2=t.data.toList[2]:=by rw [g2];simp
  simp only [bt,e0,e1,e2]
  rw [← zmB t.data.toList hl]
  simp [h]
 ·simp [h]

theorem zhT (s:ByteArray) (i:Nat) (h:¬ (rn s i=65533∧wd s i=1)):zaA (rn s i)=wd s i:=by
 have t:=ze5 s i
 have hw:=t.width h
 have hs:=t.small
 have hn:=t.nosur
 unfold zaA
 simp only [rn,wd]
 rw [if_neg (by omega)]
 rcases hw with ⟨e,h1⟩ | ⟨e,h1,h2⟩ | ⟨e,h1,h2⟩ | ⟨e,h1⟩
 ·rw [if_pos (by omega),e];rfl
 ·rw [if_neg (by omega),if_pos (by omega),e];rfl
 ·rw [if_neg (by omega),if_neg (by omega),if_pos (by omega),e];rfl
 ·rw [if_neg (by omega),if_neg (by omega),if_neg (by omega),e];rfl

theorem zoZ (s:ByteArray) (i:Nat) (h:i < s.size):zhM (s.extract i s.size) (rn s i)=zb1 s i:=by
 have hb:zft (s.extract i s.size)=true ↔ 3≤s.size - i∧bt s i=239∧bt s (i+1)=191∧bt s (i+2)=189:=by
  rw [znv,ByteArray.size_extract,Nat.min_self]
  simp only [bt,zh6 s i _ (Nat.le_of_lt h),Nat.add_zero]
 unfold zhM zb1
 by_cases hr:rn s i=65533
 ·rcases (ze5 s i).repl hr with h1 | ⟨h3,hn,c0,c1,c2⟩
  ·have hf:zft (s.extract i s.size)=false:=by
    cases hx:zft (s.extract i s.size) with
    | false =>rfl
    | true =>
     obtain ⟨hn,c0,c1,c2⟩:=hb.1 hx
     have:=decode_at s i
     rw [show (s.get! i).toNat=239 from c0,show (s.get! (i+1)).toNat=191 from c1,show (s.get! (i+2)).toNat=189 from c2,zjC _ _ hn] at this
     rw [this] at h1
     simp at h1
   rw [if_pos ⟨by rw [hr];rfl,hf⟩]
   have e2:wd s i=1:=h1
   rw [hr,e2]
   rfl
  ·have ht:zft (s.extract i s.size)=true:=hb.2 ⟨hn,c0,c1,c2⟩
   have e2:wd s i=3:=h3
   rw [if_neg (by rw [ht];simp),zhT s i (by omega)]
   simp [e2]
 ·rw [if_neg (by intro hh;apply hr;have:=hh.1;omega),zhT s i (by intro hh;exact hr hh.1)]
  simp [hr]

def zak (s:ByteArray):Nat→Nat→List Nat
 | 0,_ => []
 | f+1,i =>if i < s.size then i::zak s f (i+wd s i) else []
def zai (s:ByteArray):List Nat:=zak s s.size 0
theorem zay (s:ByteArray) (f i:Nat) (h:¬ i < s.size):zak s f i=[]:=by cases f <;> simp [zak,h]
theorem zar (s:ByteArray) (f i:Nat) (h:i < s.size):zak s (f+1) i=i::zak s f (i+wd s i):=by simp [zak,h]

def bdB (s:ByteArray) (p:Nat):Bool:=decide ((1≤p→wd s (p - 1)≤1)∧(2≤p→wd s (p - 2)≤2)∧(3≤p→wd s (p - 3)≤3))
theorem zfl (s:ByteArray) (p:Nat):bdB s p=true ↔ ∀ n,n < 4→1≤n→n≤p→wd s (p - n)≤n:=by
 unfold bdB
 rw [decide_eq_true_iff]
 constructor
 ·rintro ⟨a,b,c⟩ n h4 h1 hn
  have:n=1∨n=2∨n=3:=by omega
  rcases this with rfl | rfl | rfl
  ·exact a hn
  ·exact b hn
  ·exact c hn
 ·intro h
  exact ⟨h 1 (by omega) (by omega),h 2 (by omega) (by omega),h 3 (by omega) (by omega)⟩
theorem zhG (s:ByteArray):bdB s 0=true:=(zfl s 0).2 fun n _ h1 h2 =>by omega
theorem ziZ (s:ByteArray) (p:Nat) (h:bdB s p=true) (hp:p < s.size):bdB s (p+wd s p)=true:=by
 rw [zfl] at h ⊢
 intro n h4 h1 hn
 have hw:=zcx s p
 rcases Nat.lt_or_ge n (wd s p+1) with hlt | hge
 ·by_cases e:n=wd s p
  ·rw [show p+wd s p - n=p by omega];omega
  ·-- within the sequence of p: a byte that begins none of more than one byte
   have hk:=zp9 s p (wd s p - n) (by omega) (by omega)
   rcases Nat.lt_or_ge (wd s (p+wd s p - n)) 2 with h2 | h2
   ·omega
   ·have:=zp8 s _ h2
    rw [show p+(wd s p - n)=p+wd s p - n by omega] at hk
    omega
 ·have hh:=h (n - wd s p) (by omega) (by omega) (by omega)
  rw [show p+wd s p - n=p - (n - wd s p) by omega]
  omega
theorem zq9 (s u:ByteArray) (p q:Nat) (hp:p≤s.size) (hq:q≤u.size) (hl:p=q∨(3≤p∧3≤q)) (hr:s.size - p=u.size - q∨(3≤s.size - p∧3≤u.size - q))
  (hb:∀ i j,p+j=q+i→i < s.size→j < u.size→i+3 ≥ p→i < p+3→bt s i=bt u j):bdB s p=bdB u q:=by
 have hd:∀ n,n < 4→1≤n→n≤p→n≤q→wd s (p - n)=wd u (q - n):=by
  intro n h4 h1 hnp hnq
  show (Utf8.decode s (p - n)).2=(Utf8.decode u (q - n)).2
  rw [decode_at,decode_at]
  rw [zgy (u.size - (q - n)) (s.size - (p - n)) _ _ _ _ (by omega)]
  rw [show (s.get! (p - n)).toNat=(u.get! (q - n)).toNat from hb _ _ (by omega) (by omega) (by omega) (by omega) (by omega)]
  rw [zgz (s.size - (p - n)) _ _ _ _ (u.get! (q - n+1)).toNat (u.get! (q - n+2)).toNat (u.get! (q - n+3)).toNat]
  ·intro h;exact hb _ _ (by omega) (by omega) (by omega) (by omega) (by omega)
  ·intro h;exact hb _ _ (by omega) (by omega) (by omega) (by omega) (by omega)
  ·intro h;exact hb _ _ (by omega) (by omega) (by omega) (by omega) (by omega)
 rw [Bool.eq_iff_iff,zfl,zfl]
 constructor
 ·intro h n h4 h1 hn
  rw [← hd n h4 h1 (by omega) hn]
  exact h n h4 h1 (by omega)
 ·intro h n h4 h1 hn
  rw [hd n h4 h1 hn (by omega)]
  exact h n h4 h1 (by omega)
end Go.Proofs.YtmemedpoaocdkaaGreat
namespace Go.Proofs.YtmemedpoaocdkaaGreat
open Go.RowKit Go.Shelf

theorem zbF (r:Int) (w:World):Calls Tryz.prog 66 #[.int .i32 r] w fun e w' =>e=.returned (.int .i64 (zaA r))∧w'=w:=by
 by_cases h0:r < 0
 ·have:zaA r=0:=by unfold zaA;rw [if_pos (by omega)]
  rw [this]
  go_enter Tryz.func66,Tryz.ntmps66
  go_wp2
  go_ret
  exact ⟨rfl,rfl⟩
 by_cases h1:55296≤r
 ·by_cases h2:r≤57343
  ·have:zaA r=0:=by unfold zaA;rw [if_pos (by omega)]
   rw [this]
   go_enter Tryz.func66,Tryz.ntmps66
   go_wp2
   go_ret
   exact ⟨rfl,rfl⟩
  by_cases h3:1114111 < r
  ·have:zaA r=0:=by unfold zaA;rw [if_pos (by omega)]
   rw [this]
   go_enter Tryz.func66,Tryz.ntmps66
   go_wp2
   go_ret
   exact ⟨rfl,rfl⟩
  by_cases h4:r≤65535
  ·have:zaA r=3:=by unfold zaA;rw [if_neg (by omega),if_neg (by omega),if_neg (by omega),if_pos h4]
   rw [this]
   go_enter Tryz.func66,Tryz.ntmps66
   go_wp2
   go_ret
   exact ⟨rfl,rfl⟩
  ·have:zaA r=4:=by unfold zaA;rw [if_neg (by omega),if_neg (by omega),if_neg (by omega),if_neg (by omega)]
   rw [this]
   go_enter Tryz.func66,Tryz.ntmps66
   go_wp2
   go_ret
   exact ⟨rfl,rfl⟩
 by_cases h5:r≤127
 ·have:zaA r=1:=by unfold zaA;rw [if_neg (by omega),if_pos (by omega)]
  rw [this]
  go_enter Tryz.func66,Tryz.ntmps66
  go_wp2
  go_ret
  exact ⟨rfl,rfl⟩
 by_cases h6:r≤2047
 ·have:zaA r=2:=by unfold zaA;rw [if_neg (by omega),if_neg (by omega),if_pos (by omega)]
  rw [this]
  go_enter Tryz.func66,Tryz.ntmps66
  go_wp2
  go_ret
  exact ⟨rfl,rfl⟩
 ·have:zaA r=3:=by unfold zaA;rw [if_neg (by omega),if_neg (by omega),if_neg (by omega),if_pos (by omega)]
  rw [this]
  go_enter Tryz.func66,Tryz.ntmps66
  go_wp2
  go_ret
  exact ⟨rfl,rfl⟩

theorem zkK (w:World):Calls Tryz.prog 94 #[] w fun e w' =>e=.returned (.agg #[.int .i32 65533,.int .i64 1,.bool true])∧w'=w.alloc (.cells #[.int .i32 65533,.int .i64 1,.bool true] 70):=by
 go_enter Tryz.func94,Tryz.ntmps94
 go_wp2
 exact bodyPost_ret (v := .agg #[.int .i32 65533,.int .i64 1,.bool true]) (by simp [results,Tryz.results94,go_sem]) rfl ⟨rfl,rfl⟩

theorem zfS (s:ByteArray) (hs:s.size≤maxLen) (w:World):Calls Tryz.prog 93 #[.string s,.string ⟨#[239,191,189]⟩] w fun e w' =>e=.returned (.bool (zft s))∧w'=w:=by
 unfold maxLen at hs
 by_cases h:3≤s.size
 ·have e:zft s=((s.extract 0 3).toList == [239,191,189]):=by simp [zft,h]
  rw [e]
  clear e
  go_enter Tryz.func93,Tryz.ntmps93
  go_wp2
  go_ret
  exact ⟨rfl,rfl⟩
 ·have e:zft s=false:=by simp [zft,h]
  rw [e]
  clear e
  go_enter Tryz.func93,Tryz.ntmps93
  go_wp2
  go_ret
  exact ⟨rfl,rfl⟩

abbrev zbn (x:Int × Int × Bool):Value := .agg #[.int .i32 x.1,.int .i64 x.2.1,.bool x.2.2]

theorem zlv (s:ByteArray) (hs:s.size≤maxLen) (r:Int) (w:World):Calls Tryz.prog 64 #[.string s,.int .i32 r] w fun e w' =>e=.returned (zbn (zhM s r))∧Below w.heap.size w w':=by
 by_cases h:r=65533
 ·subst h
  cases hb:zft s with
  | true =>
   have e:zhM s 65533=(65533,zaA 65533,false):=by simp [zhM,hb]
   rw [e]
   clear e
   have H:Hid (zft s=true):=hb
   clear hb
   go_enter Tryz.func64,Tryz.ntmps64
   go_wp2_with (first | (go_at_call 93;refine (zfS _ hs _).mono ?_;rintro e w' ⟨rfl,rfl⟩;rw [H.out]) | (go_at_call 66;refine (zbF _ _).mono ?_;rintro e w' ⟨rfl,rfl⟩))
   exact bodyPost_ret (v:=zbn (65533,zaA 65533,false)) (by simp [results,Tryz.results64,go_sem]) rfl ⟨rfl,(Below.refl _ _).alloc (Nat.le_refl _) _⟩
  | false =>
   have e:zhM s 65533=(65533,1,true):=by simp [zhM,hb]
   rw [e]
   clear e
   have H:Hid (zft s=false):=hb
   clear hb
   go_enter Tryz.func64,Tryz.ntmps64
   go_wp2_with (first | (go_at_call 93;refine (zfS _ hs _).mono ?_;rintro e w' ⟨rfl,rfl⟩;rw [H.out]) | (go_at_call 94;refine (zkK _).mono ?_;rintro e w1 ⟨rfl,rfl⟩))
   exact bodyPost_ret (v:=zbn (65533,1,true)) (by simp [results,Tryz.results64,go_sem]) rfl ⟨rfl,((Below.refl _ _).alloc (Nat.le_refl _) _).alloc (by simp) _⟩
 ·have e:zhM s r=(r,zaA r,false):=by simp [zhM,h]
  rw [e]
  clear e
  have hb:(r == 65533)=false:=by simpa using h
  go_enter Tryz.func64,Tryz.ntmps64
  go_wp2_with (go_at_call 66;refine (zbF _ _).mono ?_;rintro e w' ⟨rfl,rfl⟩)
  exact bodyPost_ret (v:=zbn (r,zaA r,false)) (by simp [results,Tryz.results64,go_sem]) rfl ⟨rfl,(Below.refl _ _).alloc (Nat.le_refl _) _⟩
attribute [local go_sem] Oper.semAt_some
set_option linter.unusedVariables false

structure Hz (p:Prop):Prop where
 out:p
theorem kz {p:Prop} (h:p):Hz p:=⟨h⟩
theorem oz {p:Prop} (h:Hz p):p:=h.out

theorem zbz {W W':World} (h:Below W.heap.size W W'):W.grownBy W' none:=⟨h.os,h.tape,h.output,h.size,fun k hk _ =>h.block k hk⟩
theorem zgu (w:World) (k:Nat) (s:ByteArray) (pos:Nat):w.grownBy (w.iterAt k s pos) (some k) :=
 ⟨rfl,rfl,rfl,by rw [Lib.iterAt_size];exact Nat.le_refl _,fun i _ h =>Lib.iterAt_other w k i s pos (fun e =>h (by rw [e]))⟩
theorem zby {w:World} {k:Nat} {s:ByteArray} {pos:Nat} (h:w.heap[k]?=some (.stringIter s pos)):w.iterPos k=pos:=by unfold World.iterPos;rw [h]

def KpS (b:Nat) (W W':World):Prop:=W'.cell? ⟨b,0,none⟩=W.cell? ⟨b,0,none⟩∧KeepsWalks W W'
abbrev zq0 (s:ByteArray) (i:Nat):Array Value:=#[.int .i64 i,zbn (zb1 s i)]

theorem zc4 {W:World} {a:Addr} {v:Value} (h:W.cell? a=some v):a.block < W.heap.size:=by
 obtain ⟨o,ho,_⟩:=cells_of_cell h
 exact (Array.getElem?_eq_some_iff.1 ho).1
theorem zdT (s:ByteArray):∀ f i,(zak s f i).length≤f
 | 0,i =>by simp [zak]
 | f+1,i =>by
  unfold zak
  split
  ·have:=zdT s f (i+wd s i);simp;omega
  ·simp
theorem zav (s:ByteArray):(zai s).length≤s.size:=zdT s _ _

set_option maxRecDepth 100000 in
set_option maxHeartbeats 2000000 in
theorem zqN (n l Bn:Nat) (hn:1≤n) (s:ByteArray) (hs:s.size≤maxLen) (J Jx:List Nat→World→Prop) (W0:World) (hJ:AbidesFrom W0.heap.size J)
  (hY:∀ pre x W,J pre W→pre.length < s.size→YieldAt Fence.wide (n - 1) Tryz.prog l (zq0 s x) W fun e W' =>
   (e=.returned (.bool true)∧J (pre++[x]) W'∧KpS Bn W W')∨(e=.returned (.bool false)∧Jx (pre++[x]) W'))
  (hBn:W0.cell? ⟨Bn,0,none⟩=some (.string s)) (h0:J [] W0) :
  CallsIn Fence.wide n Tryz.prog 63 #[.func (.yield l) #[] #[],.pointer (some ⟨Bn,0,none⟩)] W0 fun e W' =>(∃ v,e=.returned v) ∧
   ((∃ ys,ys=zai s∧J ys W')∨(∃ pre,pre <+: zai s∧Jx pre W')):=by
 unfold maxLen at hs
 refine callsIn_of_wp Tryz.func63 rfl trivial ?_ rfl
 simp only [Tryz.ntmps63,List.size_toArray,List.length_cons,List.length_nil,Nat.reduceAdd,Nat.reduceSub,Array.replicate_succ,Array.replicate_zero,List.push_toArray,List.append_toArray,List.nil_append,List.cons_append]
 have hlt:Bn < W0.heap.size:=zc4 hBn
 gi_wp2
 gi_loopw [3] (fun _ wr => ∃ (pre:List Nat) (pos f:Nat),zai s=pre++zak s f pos∧s.size≤pos+f∧wr.heap[W0.heap.size]?=some (.stringIter s pos)∧wr.cell? ⟨Bn,0,none⟩=some (.string s)∧J pre wr)
  (fun _ wr =>s.size - wr.iterPos W0.heap.size)
 case atStart =>
  exact ⟨[],0,s.size,rfl,by omega,World.iter_heap W0 s 0,((World.grownBy_alloc W0 (.stringIter s 0) none).cell hBn (by simp)),hJ _ _ _ none h0 (World.grownBy_alloc W0 (.stringIter s 0) none) (fun r e =>by cases e)⟩
 case round =>
  obtain ⟨pre,pos,f,hst,hf,hit,hc,hj⟩:=hrel
  have hpl:pre.length+(zak s f pos).length≤s.size:=by rw [← List.length_append, ← hst];exact zav s
  by_cases hp:pos < s.size
  ·obtain ⟨f,rfl⟩:∃ g,f=g+1:=⟨f - 1,by omega⟩
   rw [zar s f pos hp] at hst hpl
   have hnx:∀ ty,(Instr.next (.pointer (some ⟨W0.heap.size,0,none⟩)) true ty).run Tryz.prog wr=_:=fun ty =>Lib.run_next_any_at wr W0.heap.size s pos ty hit hp
   have hg1:=zgu wr W0.heap.size s (pos+(Utf8.decode s pos).2)
   have hj1:=hJ pre _ _ _ hj hg1 (fun r e =>by cases e;exact ⟨Nat.le_refl _,_,hit,rfl⟩)
   have hc1:=hg1.cell hc (by simp;omega)
   have hi1:=Lib.iterAt_heap wr W0.heap.size s pos (pos+(Utf8.decode s pos).2) hit
   have hsz:W0.heap.size < (wr.iterAt W0.heap.size s (pos+(Utf8.decode s pos).2)).heap.size:=(Array.getElem?_eq_some_iff.1 hi1).1
   have HY:=kz hY
   have HJ:=kz hJ
   have HS:=kz hst
   have HP:=kz hit
   have HR:=kz (zoZ s pos hp)
   clear hg1 hj hit hst hY hJ h0
   gi_wp2_with fail
   refine ⟨trivial, ?_⟩
   refine (callsIn_wide.2 (zlv _ (by rw [ByteArray.size_extract];unfold maxLen;omega) _ _)).mono ?_
   rintro e W2 ⟨rfl,hb2⟩
   rw [show zhM (s.extract pos s.size) ((Utf8.decode s pos).1:Int)=zb1 s pos from oz HR]
   have hj2:=(oz HJ) pre _ _ none hj1 (zbz hb2) (fun r e =>by cases e)
   have hc2:W2.cell? ⟨Bn,0,none⟩=some (.string s):=(hb2.cell (p:=⟨Bn,0,none⟩) (by show Bn < _;omega)).trans hc1
   have hi2:W2.heap[W0.heap.size]?=some (.stringIter s (pos+(Utf8.decode s pos).2)):=(hb2.block _ hsz).trans hi1
   obtain ⟨fn,tmps,assign,body,hy,hR⟩:=(oz HY) pre pos W2 hj2 (by simp at hpl;omega)
   dsimp only [zq0] at hy
   clear hj2 hb2 hnx hj1 hc1 hi1
   gi_wp2
   refine hR.mono ?_
   rintro e W3 (⟨rfl,hJ3,hk3⟩ | ⟨rfl,hJx3⟩)
   ·have hi3:=hk3.2.same _ _ hi2 rfl
    have hc3:=hk3.1.trans hc2
    gi_wp2
    go_roundw
    case rel =>exact ⟨pre++[pos],pos+wd s pos,f,by rw [oz HS];simp,by have:=zcx s pos;omega,hi3,hc3,hJ3⟩
    case measure =>rw [zby hi3,zby (oz HP)];have:=zcx s pos;simp only [wd] at this;omega
   ·gi_wp2
    refine bodyPost_ret (results_none rfl _ _ _) rfl ?_
    exact ⟨⟨_,rfl⟩,.inr ⟨pre++[pos],⟨zak s f (pos+wd s pos),by rw [oz HS];simp⟩,hJx3⟩⟩
  ·have hnx:∀ ty,(Instr.next (.pointer (some ⟨W0.heap.size,0,none⟩)) true ty).run Tryz.prog wr=_:=fun ty =>Lib.run_next_end_at wr W0.heap.size s pos ty hit hp
   rw [zay s f pos hp,List.append_nil] at hst
   have HS:=kz hst
   clear hst hY hJ h0 hpl
   gi_wp2
   go_end0
   exact ⟨⟨_,rfl⟩,.inl ⟨pre,(oz HS).symm,hj⟩⟩

theorem zbG (n Bn:Nat) (hn:1≤n) (s:ByteArray) (hs:s.size≤maxLen) (w:World) (hc:w.cell? ⟨Bn,0,none⟩=some (.string s)) :
  SeqStopsK Fence.wide n Tryz.prog 63 #[.pointer (some ⟨Bn,0,none⟩)] (zq0 s) (KpS Bn) (fun ys =>ys=zai s) (fun pre =>pre <+: zai s) s.size w:=fun l J Jx W hW hJ _ hY h0 =>
 zqN n l Bn hn s hs J Jx W hJ hY ((hW.cell (p:=⟨Bn,0,none⟩) (zc4 hc)).trans hc) h0

theorem zjQ {b:Nat} {A B C:World} (h:KpS b A B) (k:KpS b B C):KpS b A C:=⟨k.1.trans h.1,h.2.trans k.2⟩
theorem zjR {b:Nat} {w:World} (hb:b < w.heap.size) (W:World) (l:Nat) (o o':Obj) (hl:w.heap.size≤l) (h:W.heap[l]?=some o) (_:o.isCells=false) (hw:o.isWalk=false):KpS b W (W.putObj l o') :=
 ⟨World.cell?_of_block (World.putObj_heap_other (by show b≠l;omega)),KeepsWalks.putObj _ h hw⟩

theorem zcJ (s:ByteArray) (w:World):Calls Tryz.prog 41 #[.string s] w fun e w' =>e=.returned (.func (.func 63) #[] #[.pointer (some ⟨w.heap.size,0,none⟩)])∧w'=w.alloc (.cells #[.string s] 9):=by
 go_enter Tryz.func41,Tryz.ntmps41
 go_wp2
 go_ret
 exact ⟨rfl,rfl⟩
attribute [local go_sem] Oper.semAt_some
set_option linter.unusedVariables false

def Blk (W:World) (B:Nat) (cs:Array Value) (t:TypeId):Prop:=W.heap[B]?=some (.cells cs t (0,0))
theorem Blk.lt {W:World} {B:Nat} {cs:Array Value} {t:TypeId} (h:Blk W B cs t):B < W.heap.size:=(Array.getElem?_eq_some_iff.1 h).1
theorem Blk.cell {W:World} {B:Nat} {cs:Array Value} {t:TypeId} (h:Blk W B cs t) (i:Nat):W.cell? ⟨B,i,none⟩=cs[i]?:=by
 simp [World.cell?,show W.heap[B]?=_ from h]
theorem Blk.frozen {W:World} {B:Nat} {cs:Array Value} {t:TypeId} (h:Blk W B cs t) (i:Nat):W.frozen? ⟨B,i,none⟩=false:=by simp [World.frozen?,show W.heap[B]?=_ from h]
theorem Blk.new (W:World) (cs:Array Value) (t:TypeId):Blk (W.alloc (.cells cs t)) W.heap.size cs t:=World.alloc_heap_new W _
theorem Blk.kept {W W':World} {row:Option Nat} {B:Nat} {cs:Array Value} {t:TypeId} (h:Blk W B cs t) (hg:W.grownBy W' row) (hne:some B≠row):Blk W' B cs t:=(hg.block B h.lt hne).trans h
theorem Blk.alloc {W:World} {B:Nat} {cs:Array Value} {t:TypeId} (h:Blk W B cs t) (o:Obj):Blk (W.alloc o) B cs t:=h.kept (World.grownBy_alloc W o none) (by simp)
theorem Blk.below {W W':World} {N B:Nat} {cs:Array Value} {t:TypeId} (h:Blk W B cs t) (hb:Below N W W') (hlt:B < N):Blk W' B cs t:=(hb.block B hlt).trans h
theorem Blk.own {β : Type} (B:Nat) (cs : β→Array Value) (t:TypeId):Own (fun s W =>Blk W B (cs s) t):=fun s A A' row hs hg hr =>hs.kept hg (fun e =>by
 obtain ⟨o,ho,hc⟩:=hr B e.symm
 rw [show A.heap[B]?=_ from hs] at ho
 cases ho
 simp [Obj.isCells] at hc)

theorem Blk.set {W:World} {B:Nat} {cs:Array Value} {t:TypeId} (h:Blk W B cs t) (i:Nat) (v:Value):Blk (W.setCell ⟨B,i,none⟩ v) B (cs.setIfInBounds i v) t:=by
 show (W.heap.modify B _)[B]?=_
 rw [Array.getElem?_modify,if_pos rfl,show W.heap[B]?=_ from h]
 rfl
theorem Blk.other {W:World} {B B' i:Nat} {cs:Array Value} {t:TypeId} (h:Blk W B cs t) (hne:B≠B') (v:Value):Blk (W.setCell ⟨B',i,none⟩ v) B cs t :=
 (Below.heap_setCell W ⟨B',i,none⟩ v B hne).trans h
theorem Blk.put {W:World} {B l:Nat} {cs:Array Value} {t:TypeId} {o:Obj} (h:Blk W B cs t) (o':Obj) (hl:W.heap[l]?=some o) (ho:o.isCells=false):Blk (W.putObj l o') B cs t :=
 (World.putObj_heap_other (fun e =>by subst e;rw [show W.heap[B]?=_ from h] at hl;cases hl;simp [Obj.isCells] at ho)).trans h
abbrev zaS (x:Int × Int × Bool):Array Value:=#[.int .i32 x.1,.int .i64 x.2.1,.bool x.2.2]
def zh8 (s:ByteArray):Value:=if 0 < s.size then .tuple #[zbn (zb1 s 0),.bool true] else .tuple #[zbn (0,0,false),.bool false]
theorem zgk {s:ByteArray} (h:0 < s.size):zh8 s=.tuple #[zbn (zb1 s 0),.bool true]:=if_pos h
theorem zlT {s:ByteArray} (h:¬ 0 < s.size):zh8 s=.tuple #[zbn (0,0,false),.bool false]:=if_neg h
theorem zg4 (s:ByteArray) (h:0 < s.size):∃ r,zai s=0::r:=by
 unfold zai
 obtain ⟨m,hm⟩:∃ m,s.size=m+1:=⟨s.size - 1,by omega⟩
 rw [hm,zar s m 0 h]
 exact ⟨_,rfl⟩
theorem zi7 (s:ByteArray) (h:¬ 0 < s.size):zai s=[]:=zay s _ _ h

set_option maxRecDepth 100000 in
set_option maxHeartbeats 2000000 in
theorem zpD (n:Nat) (hn:3≤n) (s:ByteArray) (hs:s.size≤maxLen) (w:World) :
  CallsIn Fence.wide n Tryz.prog 34 #[.string s] w fun e W' =>e=.returned (zh8 s)∧Below w.heap.size w W':=by
 have h1:1≤n:=by omega
 refine callsIn_of_wp_marks Tryz.func34 rfl trivial ?_ rfl
 simp only [Tryz.ntmps34,List.size_toArray,List.length_cons,List.length_nil,Nat.reduceAdd,Nat.reduceSub,Array.replicate_succ,Array.replicate_zero,List.push_toArray,List.append_toArray,List.nil_append,List.cons_append]
 gi_wp2_with (refine ⟨trivial, ?_⟩;gi_at_call 41;refine (callsIn_wide.2 (zcJ _ _)).mono ?_;rintro e w' ⟨rfl,rfl⟩)
 have b2:=((Blk.new w (zaS (0,0,false)) 70).alloc (.cells #[.bool false] 4)).alloc (.cells #[.string s] 9)
 have b3:=(Blk.new (w.alloc (.cells (zaS (0,0,false)) 70)) #[.bool false] 4).alloc (.cells #[.string s] 9)
 have bS:=Blk.new ((w.alloc (.cells (zaS (0,0,false)) 70)).alloc (.cells #[.bool false] 4)) #[.string s] 9
 simp only [World.size_alloc] at b3 bS
 have hB0:Below w.heap.size w (((w.alloc (.cells (zaS (0,0,false)) 70)).alloc (.cells #[.bool false] 4)).alloc (.cells #[.string s] 9)):=(((Below.refl _ w).alloc (Nat.le_refl _) _).alloc (by simp) _).alloc (by simp;omega) _
 have hsz:(((w.alloc (.cells (zaS (0,0,false)) 70)).alloc (.cells #[.bool false] 4)).alloc (.cells #[.string s] 9)).heap.size=w.heap.size+3:=by simp
 obtain ⟨W0,hW0⟩:∃ W0,((w.alloc (.cells (zaS (0,0,false)) 70)).alloc (.cells #[.bool false] 4)).alloc (.cells #[.string s] 9)=W0:=⟨_,rfl⟩
 rw [hW0] at b2 b3 bS hB0 hsz ⊢
 clear hW0
 refine wpIn_rangeFunc_ownH rfl h1 (gf:=63) (lb:=#[.pointer (some ⟨w.heap.size+1+1,0,none⟩)]) rfl trivial (enters_of Tryz.func63 (by kernel_rfl) rfl)
  (zbG (n - 1) (w.heap.size+1+1) (by omega) s hs W0 (bS.cell 0)) zjQ (zjR (by omega)) (Below.refl _ _) (fun _ =>rfl)
  (fun pre W =>(pre=[]∧Blk W w.heap.size (zaS (0,0,false)) 70∧Blk W (w.heap.size+1) #[.bool false] 4∧Blk W (w.heap.size+1+1) #[.string s] 9)∧Below w.heap.size w W)
  (fun c pre W =>(c=.ret∧∃ x,pre=[x]∧Blk W w.heap.size (zaS (zb1 s x)) 70∧Blk W (w.heap.size+1) #[.bool true] 4)∧Below w.heap.size w W)
  (OwnFrom.and (Own.from (fun s A B row hs hg hr =>⟨hs.1,Blk.own _ (fun _ =>_) _ () A B row hs.2.1 hg hr,Blk.own _ (fun _ =>_) _ () A B row hs.2.2.1 hg hr,Blk.own _ (fun _ =>_) _ () A B row hs.2.2.2 hg hr⟩) _) (ownFrom_below (Nat.le_refl _) (by omega)))
  (fun c =>OwnFrom.and (Own.from (fun s A B row hs hg hr =>by
   obtain ⟨hc,x,hx,k2,k3⟩:=hs
   exact ⟨hc,x,hx,Blk.own _ (fun _ =>_) _ () A B row k2 hg hr,Blk.own _ (fun _ =>_) _ () A B row k3 hg hr⟩) _) (ownFrom_below (Nat.le_refl _) (by omega)))
  ⟨⟨rfl,b2,b3,bS⟩,hB0⟩
  (fun x a' W => ∃ Bx,w.heap.size+1+1 < Bx∧Blk W Bx (zaS (zb1 s x)) 70∧a' = { tmps:=#[.string s,undef,.pointer (some ⟨w.heap.size,0,none⟩),.pointer (some ⟨w.heap.size+1,0,none⟩),undef,.pointer (some ⟨Bx,0,none⟩),.string s,.func (.func 63) #[] #[.pointer (some ⟨w.heap.size+1+1,0,none⟩)],.int .i64 x,zbn (zb1 s x),undef,undef],defers := [] })
  (fun x a' =>Own.from (fun u A B row hs hg hr =>by
   obtain ⟨Bx,h1,h2,h3⟩:=hs
   exact ⟨Bx,h1,Blk.own _ (fun _ =>_) _ () A B row h2 hg hr,h3⟩) _)
  ?assign ?body ?done ?stop
 case assign =>
  rintro l pre x W K ⟨⟨hp,k2,k3,kS⟩,hB⟩ hK
  gi_wp2
  exact hK _ _ ((KeepsOthers.alloc _ _).from _) ⟨(kS.alloc _).cell 0 |>.trans (kS.cell 0).symm,KeepsWalks.alloc _ _⟩ ⟨⟨hp,k2.alloc _,k3.alloc _,kS.alloc _⟩,hB.alloc hB.size _⟩ ⟨W.heap.size,kS.lt,Blk.new W _ 70,rfl⟩
 case body =>
  rintro l pre x a' W hl ⟨r,hr⟩ ⟨⟨rfl,k2,k3,kS⟩,hB⟩ ⟨Bx,hBx,bX,rfl⟩ hlt
  have x0:=bX.cell 0
  have x1:=bX.cell 1
  have x2:=bX.cell 2
  have c0:=k2.cell 0
  have c1:=k2.cell 1
  have c2:=k2.cell 2
  have c3:=k3.cell 0
  have f0:=k2.frozen
  have f3:=k3.frozen
  gi_wp2
  refine ⟨((((KeepsOthers.setCell _ _ _).trans (KeepsOthers.setCell _ _ _)).trans (KeepsOthers.setCell _ _ _)).trans (KeepsOthers.setCell _ _ _)).from _,⟨rfl,x,rfl, ?_, ?_⟩, ?_⟩
  ·exact Blk.other (((k2.set 0 _).set 1 _).set 2 _) (by omega) _
  ·exact (((k3.other (by omega) _).other (by omega) _).other (by omega) _).set 0 _
  ·exact (((hB.setCell (p:=⟨w.heap.size,0,none⟩) (Nat.le_refl _) _).setCell (p:=⟨w.heap.size,1,none⟩) (Nat.le_refl _) _).setCell (p:=⟨w.heap.size,2,none⟩) (Nat.le_refl _) _).setCell (p:=⟨w.heap.size+1,0,none⟩) (by simp) _
 case done =>
  rintro D ys W hD hys ⟨⟨hne,k2,k3,_⟩,hB⟩ hK
  have hz:¬ 0 < s.size:=fun h =>by
   obtain ⟨r,hr⟩:=zg4 s h
   rw [hys,hr] at hne
   cases hne
  have c0:=k2.cell 0
  have c1:=k2.cell 1
  have c2:=k2.cell 2
  have c3:=k3.cell 0
  have f0:=k2.frozen
  have f3:=k3.frozen
  clear hys hne
  gi_wp2
  have hK':=((((KeepsOthers.setCell W ⟨w.heap.size,0,none⟩ (.int .i32 0)).trans (KeepsOthers.setCell _ ⟨w.heap.size,1,none⟩ (.int .i64 0))).trans (KeepsOthers.setCell _ ⟨w.heap.size,2,none⟩ (.bool false))).trans (KeepsOthers.setCell _ ⟨w.heap.size+1,0,none⟩ (.bool false))).same D _ hK rfl
  have k2':=Blk.other (i:=0) (((k2.set 0 (.int .i32 0)).set 1 (.int .i64 0)).set 2 (.bool false)) (B':=w.heap.size+1) (by omega) (.bool false)
  have k3':=(((k3.other (B':=w.heap.size) (i:=0) (by omega) (.int .i32 0)).other (B':=w.heap.size) (i:=1) (by omega) (.int .i64 0)).other (B':=w.heap.size) (i:=2) (by omega) (.bool false)).set 0 (.bool false)
  have hB':=(((hB.setCell (p:=⟨w.heap.size,0,none⟩) (Nat.le_refl _) (.int .i32 0)).setCell (p:=⟨w.heap.size,1,none⟩) (Nat.le_refl _) (.int .i64 0)).setCell (p:=⟨w.heap.size,2,none⟩) (Nat.le_refl _) (.bool false)).setCell (p:=⟨w.heap.size+1,0,none⟩) (by simp) (.bool false)
  clear hK k2 k3 hB c0 c1 c2 c3 f0 f3
  refine ⟨by simp,.inl ⟨_,_,rfl,run_takeDeferred hK', ?_⟩⟩
  have q2:=k2'.put (.deferred Option.none) hK' rfl
  have q3:=k3'.put (.deferred Option.none) hK' rfl
  have c0:=q2.cell 0
  have c1:=q2.cell 1
  have c2:=q2.cell 2
  have c3:=q3.cell 0
  refine ⟨.tuple #[zbn (0,0,false),.bool false], ?_,by rw [zlT hz],hB'.trans (belowK_b (w:=w) (Nat.le_refl _) _ D _ _ (by omega) hK' rfl rfl)⟩
  simp [results,Tryz.f34,go_sem,c0,c1,c2,c3]
 case stop =>
  rintro D c pre W hD hpre ⟨⟨rfl,x,rfl,k2,k3⟩,hB⟩ hK
  have hz:0 < s.size:=by
   rcases Nat.eq_zero_or_pos s.size with h | h
   ·rw [zi7 s (by omega)] at hpre;simp at hpre
   ·exact h
  obtain ⟨r,hr⟩:=zg4 s hz
  rw [hr] at hpre
  obtain rfl:x=0:=by obtain ⟨t,ht⟩:=hpre;simp at ht;exact ht.1
  clear hpre hr
  gi_wp2
  refine ⟨by simp,.inl ⟨_,_,rfl,run_takeDeferred hK, ?_⟩⟩
  have q2:=k2.put (.deferred Option.none) hK rfl
  have q3:=k3.put (.deferred Option.none) hK rfl
  have c0:=q2.cell 0
  have c1:=q2.cell 1
  have c2:=q2.cell 2
  have c3:=q3.cell 0
  refine ⟨.tuple #[zbn (zb1 s 0),.bool true], ?_,by rw [zgk hz],hB.trans (belowK_b (w:=w) (Nat.le_refl _) W D _ _ (by omega) hK rfl rfl)⟩
  simp [results,Tryz.f34,go_sem,c0,c1,c2,c3]
end Go.Proofs.YtmemedpoaocdkaaGreat
