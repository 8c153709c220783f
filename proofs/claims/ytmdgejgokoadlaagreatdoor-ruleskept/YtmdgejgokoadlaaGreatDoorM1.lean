/- Texts of this claim, one behind the other. -/
import Derived.Lib.DecodeN
import Derived.Laws.Strings
import Derived.Laws.RangeAny
import Derived.RangeFuncNested
import Derived.RangeFuncBound
import Derived.RangeFuncCalls
import Derived.RangeFuncLeaves
import Derived.Shelf.Abstract
import Derived.Shelf.RegionOpen
import Derived.WalkKit
import Derived.OwnWalkIn
import Derived.TacticsInMore
import Derived.LoopNIn
import Derived.LoopIn
import Derived.Test.YtmdgejgokoadlaaGreatDoorProg
import Derived.Lib.OthersKept
import Derived.ArgAppend
import Derived.Laws.Rows
import Derived.RegionTactic
import Derived.Deep.QuietTactic
import Derived.BigQuiet
import Derived.WalkSmall
/- Plain facts on UTF-8 sequences: what the model's decoding says of a text's bytes; no program is named here. -/
namespace Go.Proofs.YtmdgejgokoadlaaGreatDoor
set_option linter.unusedVariables false
open Go.Lib (decodeN decode_at)

def zag (r:Int):Int :=
 if r < 0∨(55296≤r∧r≤57343)∨1114111 < r then 0 else if r≤127 then 1 else if r≤2047 then 2 else if r≤65535 then 3 else 4
def zeu (s:ByteArray):Bool:=decide (3≤s.size) && ((s.extract 0 3).toList == [239,191,189])
def zgu (s:ByteArray) (r:Int):Int × Int × Bool:=if r=65533∧zeu s=false then (65533,1,true) else (r,zag r,false)

abbrev bt (s:ByteArray) (i:Nat):Nat:=(s.get! i).toNat
abbrev rn (s:ByteArray) (i:Nat):Nat:=(Utf8.decode s i).1
abbrev wd (s:ByteArray) (i:Nat):Nat:=(Utf8.decode s i).2

theorem zaX (s:ByteArray) (i:Nat):bt s i < 256:=(s.get! i).toNat_lt

structure Told (n b0 b1 b2 b3:Nat) (x:Nat × Nat):Prop where
 pos:1≤x.2
 four:x.2≤4
 room:1≤n→x.2≤n
 c1:2≤x.2→b1 / 64=2
 c2:3≤x.2→b2 / 64=2
 c3:4≤x.2→b3 / 64=2
 lead:2≤x.2→192≤b0
 small:x.1≤1114111
 nosur:¬ (55296≤x.1∧x.1≤57343)
 width:¬ (x.1=65533∧x.2=1)→(x.2=1∧x.1≤127)∨(x.2=2∧128≤x.1∧x.1≤2047)∨(x.2=3∧2048≤x.1∧x.1≤65535)∨(x.2=4∧65536≤x.1)
 one:x.2=1→x.1=65533∧128≤b0∨x.1=b0∧b0 < 128
 repl:x.1=65533→x.2=1∨(x.2=3∧3≤n∧b0=239∧b1=191∧b2=189)

set_option maxHeartbeats 2000000 in
theorem zhj (n b0 b1 b2 b3:Nat) (h0:b0 < 256) (h1:b1 < 256) (h2:b2 < 256) (h3:b3 < 256):Told n b0 b1 b2 b3 (decodeN n b0 b1 b2 b3):=by
 unfold decodeN
 repeat' split
 all_goals (constructor <;> intros <;> dsimp only at * <;> omega)

theorem ziU (n b3:Nat) (h:3≤n):decodeN n 239 191 189 b3=(65533,3):=by
 unfold decodeN
 rw [if_neg (by omega),if_neg (by omega),if_pos (by omega),if_pos (by omega)]

theorem zfz (n m b0 b1 b2 b3:Nat) (h:n=m∨(4≤n∧4≤m)):decodeN n b0 b1 b2 b3=decodeN m b0 b1 b2 b3:=by
 rcases h with rfl | ⟨h,k⟩
 ·rfl
 ·have e1:(1 < n)=(1 < m):=propext ⟨fun _ =>by omega,fun _ =>by omega⟩
  have e2:(2 < n)=(2 < m):=propext ⟨fun _ =>by omega,fun _ =>by omega⟩
  have e3:(3 < n)=(3 < m):=propext ⟨fun _ =>by omega,fun _ =>by omega⟩
  unfold decodeN
  simp only [e1,e2,e3]

theorem zfB (n b0 b1 b2 b3 c1 c2 c3:Nat) (h1:1 < n→b1=c1) (h2:2 < n→b2=c2) (h3:3 < n→b3=c3):decodeN n b0 b1 b2 b3=decodeN n b0 c1 c2 c3:=by
 by_cases k1:1 < n
 ·by_cases k2:2 < n
  ·by_cases k3:3 < n
   ·rw [h1 k1,h2 k2,h3 k3]
   ·rw [h1 k1,h2 k2];unfold decodeN;simp only [k3,false_and,and_false,if_false]
  ·have k3:¬ 3 < n:=by omega
   rw [h1 k1];unfold decodeN;simp only [k2,k3,false_and,and_false,if_false]
 ·have k2:¬ 2 < n:=by omega
  have k3:¬ 3 < n:=by omega
  unfold decodeN;simp only [k1,k2,k3,false_and,and_false,if_false]

theorem zcy (s:ByteArray) (i:Nat) (h:i < s.size):s.get! i=s.data[i]'h:=by
 show s.data[i]! = _
 exact getElem!_pos s.data i h
theorem zkz (s:ByteArray) (i:Nat) (h:s.size≤i):s.get! i=default:=by
 show s.data[i]! = _
 exact getElem!_neg s.data i (by show ¬ i < s.data.size;have:s.data.size=s.size:=rfl;omega)
theorem zbt (s:ByteArray) (a b j:Nat) (h:a+j < b) (hb:b≤s.size):(s.extract a b).get! j=s.get! (a+j):=by
 rw [zcy _ _ (by rw [ByteArray.size_extract];omega),zcy _ _ (by omega)]
 simp
theorem zbN (s:ByteArray) (a j:Nat) (ha:a≤s.size):(s.extract a s.size).get! j=s.get! (a+j):=by
 by_cases h:a+j < s.size
 ·exact zbt s a s.size j h (Nat.le_refl _)
 ·rw [zkz _ _ (by rw [ByteArray.size_extract];omega),zkz _ _ (by omega)]

theorem zbO (s:ByteArray) (a j:Nat) (ha:a≤s.size):Utf8.decode (s.extract a s.size) j=Utf8.decode s (a+j):=by
 rw [decode_at,decode_at,ByteArray.size_extract]
 simp only [zbN s a _ ha,Nat.min_self,Nat.sub_sub,Nat.add_assoc]

theorem zcj (s:ByteArray) (i:Nat):Told (s.size - i) (bt s i) (bt s (i+1)) (bt s (i+2)) (bt s (i+3)) (Utf8.decode s i):=by
 rw [decode_at];exact zhj _ _ _ _ _ (zaX s i) (zaX s _) (zaX s _) (zaX s _)
theorem zbh (s:ByteArray) (i:Nat):1≤wd s i:=(zcj s i).pos
theorem ze0 (s:ByteArray) (i:Nat):wd s i≤4:=(zcj s i).four
theorem zbC (s:ByteArray) (i:Nat) (h:i < s.size):i+wd s i≤s.size:=by have:=(zcj s i).room (by omega);show i+(Utf8.decode s i).2≤_;omega
theorem zhf (s:ByteArray) (i k:Nat) (h0:0 < k) (h:k < wd s i):bt s (i+k) / 64=2:=by
 have t:=zcj s i
 have f:=ze0 s i
 have:k=1∨k=2∨k=3:=by omega
 rcases this with rfl | rfl | rfl
 ·exact t.c1 h
 ·exact t.c2 h
 ·exact t.c3 h
theorem zdv (s:ByteArray) (i:Nat) (h:2≤wd s i):192≤bt s i:=(zcj s i).lead h

def zdd (s:ByteArray) (i:Nat):Int × Int × Bool:=(rn s i,wd s i,decide (rn s i=65533∧wd s i=1))

theorem three_iff (l:List UInt8) (hl:3≤l.length):(l.extract 0 3 == [239,191,189])=true ↔ l[0].toNat=239∧l[1].toNat=191∧l[2].toNat=189:=by
 match l,hl with
 | a::b::c::r,_ =>simp [List.extract, ← UInt8.toNat_inj]

theorem hasRB_iff (t:ByteArray):zeu t=true ↔ 3≤t.size∧bt t 0=239∧bt t 1=191∧bt t 2=189:=by
 unfold zeu
 rw [ByteArray.toList_eq,ByteArray.data_extract,Array.toList_extract]
 by_cases h:3≤t.size
 ·have g0:=zcy t 0 (by omega)
  have g1:=zcy t 1 (by omega)
  have g2:=zcy t 2 (by omega)
  have hl:3≤t.data.toList.length:=by simpa using h
  have e0:t.get! 0=t.data.toList[0]:=by rw [g0];simp
  have e1:t.get! 1=t.data.toList[1]:=by rw [g1];simp
  have e2:t.get! 2=t.data.toList[2]:=by rw [g2];simp
  simp only [bt,e0,e1,e2]
  rw [← three_iff t.data.toList hl]
  simp [h]
 ·simp [h]

theorem zeZ (s:ByteArray) (i:Nat) (h:¬ (rn s i=65533∧wd s i=1)):zag (rn s i)=wd s i:=by
 have t:=zcj s i
 have hw:=t.width h
 have hs:=t.small
 have hn:=t.nosur
 unfold zag
 simp only [rn,wd]
 rw [if_neg (by omega)]
 rcases hw with ⟨e,h1⟩ | ⟨e,h1,h2⟩ | ⟨e,h1,h2⟩ | ⟨e,h1⟩
 ·rw [if_pos (by omega),e];rfl
 ·rw [if_neg (by omega),if_pos (by omega),e];rfl
 ·rw [if_neg (by omega),if_neg (by omega),if_pos (by omega),e];rfl
 ·rw [if_neg (by omega),if_neg (by omega),if_neg (by omega),e];rfl

theorem spotR_eq (s:ByteArray) (i:Nat) (h:i < s.size):zgu (s.extract i s.size) (rn s i)=zdd s i:=by
 have hb:zeu (s.extract i s.size)=true ↔ 3≤s.size - i∧bt s i=239∧bt s (i+1)=191∧bt s (i+2)=189:=by
  rw [hasRB_iff,ByteArray.size_extract,Nat.min_self]
  simp only [bt,zbN s i _ (Nat.le_of_lt h),Nat.add_zero]
 unfold zgu zdd
 by_cases hr:rn s i=65533
 ·rcases (zcj s i).repl hr with h1 | ⟨h3,hn,c0,c1,c2⟩
  ·have hf:zeu (s.extract i s.size)=false:=by
    cases hx:zeu (s.extract i s.size) with
    | false =>rfl
    | true =>
     obtain ⟨hn,c0,c1,c2⟩:=hb.1 hx
     have:=decode_at s i
     rw [show (s.get! i).toNat=239 from c0,show (s.get! (i+1)).toNat=191 from c1,show (s.get! (i+2)).toNat=189 from c2,ziU _ _ hn] at this
     rw [this] at h1
     simp at h1
   rw [if_pos ⟨by rw [hr];rfl,hf⟩]
   have e2:wd s i=1:=h1
   rw [hr,e2]
   rfl
  ·have ht:zeu (s.extract i s.size)=true:=hb.2 ⟨hn,c0,c1,c2⟩
   have e2:wd s i=3:=h3
   rw [if_neg (by rw [ht];simp),zeZ s i (by omega)]
   simp [e2]
 ·rw [if_neg (by intro hh;apply hr;have:=hh.1;omega),zeZ s i (by intro hh;exact hr hh.1)]
  simp [hr]

def zaj (s:ByteArray):Nat→Nat→List Nat
 | 0,_ => []
 | f+1,i =>if i < s.size then i::zaj s f (i+wd s i) else []
def zaw (s:ByteArray):List Nat:=zaj s s.size 0
theorem zav (s:ByteArray) (f i:Nat) (h:¬ i < s.size):zaj s f i=[]:=by cases f <;> simp [zaj,h]
theorem zas (s:ByteArray) (f i:Nat) (h:i < s.size):zaj s (f+1) i=i::zaj s f (i+wd s i):=by simp [zaj,h]

def bdB (s:ByteArray) (p:Nat):Bool:=decide ((1≤p→wd s (p - 1)≤1)∧(2≤p→wd s (p - 2)≤2)∧(3≤p→wd s (p - 3)≤3))
theorem zdu (s:ByteArray) (p:Nat):bdB s p=true ↔ ∀ n,n < 4→1≤n→n≤p→wd s (p - n)≤n:=by
 unfold bdB
 rw [decide_eq_true_iff]
 constructor
 ·rintro ⟨a,b,c⟩ n h4 h1 hn
  have:n=1∨n=2∨n=3:=by omega
  rcases this with rfl | rfl | rfl
  ·exact a hn
  ·exact b hn
  ·exact c hn
 ·intro h
  exact ⟨h 1 (by omega) (by omega),h 2 (by omega) (by omega),h 3 (by omega) (by omega)⟩
theorem zdG (s:ByteArray):bdB s 0=true:=(zdu s 0).2 fun n _ h1 h2 =>by omega
theorem zfn (s:ByteArray) (p:Nat) (h:bdB s p=true) (hp:p < s.size):bdB s (p+wd s p)=true:=by
 rw [zdu] at h ⊢
 intro n h4 h1 hn
 have hw:=zbh s p
 rcases Nat.lt_or_ge n (wd s p+1) with hlt | hge
 ·by_cases e:n=wd s p
  ·rw [show p+wd s p - n=p by omega];omega
  ·-- within the sequence of p: a byte that begins none of more than one byte
   have hk:=zhf s p (wd s p - n) (by omega) (by omega)
   rcases Nat.lt_or_ge (wd s (p+wd s p - n)) 2 with h2 | h2
   ·omega
   ·have:=zdv s _ h2
    rw [show p+(wd s p - n)=p+wd s p - n by omega] at hk
    omega
 ·have hh:=h (n - wd s p) (by omega) (by omega) (by omega)
  rw [show p+wd s p - n=p - (n - wd s p) by omega]
  omega
theorem bd_near (s u:ByteArray) (p q:Nat) (hp:p≤s.size) (hq:q≤u.size) (hl:p=q∨(3≤p∧3≤q)) (hr:s.size - p=u.size - q∨(3≤s.size - p∧3≤u.size - q))
  (hb:∀ i j,p+j=q+i→i < s.size→j < u.size→i+3 ≥ p→i < p+3→bt s i=bt u j):bdB s p=bdB u q:=by
 have hd:∀ n,n < 4→1≤n→n≤p→n≤q→wd s (p - n)=wd u (q - n):=by
  intro n h4 h1 hnp hnq
  show (Utf8.decode s (p - n)).2=(Utf8.decode u (q - n)).2
  rw [decode_at,decode_at]
  rw [zfz (u.size - (q - n)) (s.size - (p - n)) _ _ _ _ (by omega)]
  rw [show (s.get! (p - n)).toNat=(u.get! (q - n)).toNat from hb _ _ (by omega) (by omega) (by omega) (by omega) (by omega)]
  rw [zfB (s.size - (p - n)) _ _ _ _ (u.get! (q - n+1)).toNat (u.get! (q - n+2)).toNat (u.get! (q - n+3)).toNat]
  ·intro h;exact hb _ _ (by omega) (by omega) (by omega) (by omega) (by omega)
  ·intro h;exact hb _ _ (by omega) (by omega) (by omega) (by omega) (by omega)
  ·intro h;exact hb _ _ (by omega) (by omega) (by omega) (by omega) (by omega)
 rw [Bool.eq_iff_iff,zdu,zdu]
 constructor
 ·intro h n h4 h1 hn
  rw [← hd n h4 h1 (by omega) hn]
  exact h n h4 h1 (by omega)
 ·intro h n h4 h1 hn
  rw [hd n h4 h1 hn (by omega)]
  exact h n h4 h1 (by omega)
end Go.Proofs.YtmdgejgokoadlaaGreatDoor
namespace Go.Proofs.YtmdgejgokoadlaaGreatDoor
open Go.RowKit Go.Shelf

theorem zaY (r:Int) (w:World):Calls Tryz.prog 142 #[.int .i32 r] w fun e w' =>e=.returned (.int .i64 (zag r))∧w'=w:=by
 by_cases h0:r < 0
 ·have:zag r=0:=by unfold zag;rw [if_pos (by omega)]
  rw [this]
  go_enter Tryz.func142,Tryz.ntmps142
  go_wp2
  go_ret
  exact ⟨rfl,rfl⟩
 by_cases h1:55296≤r
 ·by_cases h2:r≤57343
  ·have:zag r=0:=by unfold zag;rw [if_pos (by omega)]
   rw [this]
   go_enter Tryz.func142,Tryz.ntmps142
   go_wp2
   go_ret
   exact ⟨rfl,rfl⟩
  by_cases h3:1114111 < r
  ·have:zag r=0:=by unfold zag;rw [if_pos (by omega)]
   rw [this]
   go_enter Tryz.func142,Tryz.ntmps142
   go_wp2
   go_ret
   exact ⟨rfl,rfl⟩
  by_cases h4:r≤65535
  ·have:zag r=3:=by unfold zag;rw [if_neg (by omega),if_neg (by omega),if_neg (by omega),if_pos h4]
   rw [this]
   go_enter Tryz.func142,Tryz.ntmps142
   go_wp2
   go_ret
   exact ⟨rfl,rfl⟩
  ·have:zag r=4:=by unfold zag;rw [if_neg (by omega),if_neg (by omega),if_neg (by omega),if_neg (by omega)]
   rw [this]
   go_enter Tryz.func142,Tryz.ntmps142
   go_wp2
   go_ret
   exact ⟨rfl,rfl⟩
 by_cases h5:r≤127
 ·have:zag r=1:=by unfold zag;rw [if_neg (by omega),if_pos (by omega)]
  rw [this]
  go_enter Tryz.func142,Tryz.ntmps142
  go_wp2
  go_ret
  exact ⟨rfl,rfl⟩
 by_cases h6:r≤2047
 ·have:zag r=2:=by unfold zag;rw [if_neg (by omega),if_neg (by omega),if_pos (by omega)]
  rw [this]
  go_enter Tryz.func142,Tryz.ntmps142
  go_wp2
  go_ret
  exact ⟨rfl,rfl⟩
 ·have:zag r=3:=by unfold zag;rw [if_neg (by omega),if_neg (by omega),if_neg (by omega),if_pos (by omega)]
  rw [this]
  go_enter Tryz.func142,Tryz.ntmps142
  go_wp2
  go_ret
  exact ⟨rfl,rfl⟩

theorem zjV (w:World):Calls Tryz.prog 197 #[] w fun e w' =>e=.returned (.agg #[.int .i32 65533,.int .i64 1,.bool true])∧w'=w.alloc (.cells #[.int .i32 65533,.int .i64 1,.bool true] 234):=by
 go_enter Tryz.func197,Tryz.ntmps197
 go_wp2
 exact bodyPost_ret (v := .agg #[.int .i32 65533,.int .i64 1,.bool true]) (by simp [results,Tryz.results197,go_sem]) rfl ⟨rfl,rfl⟩

theorem zeQ (s:ByteArray) (hs:s.size≤maxLen) (w:World):Calls Tryz.prog 139 #[.string s,.string ⟨#[239,191,189]⟩] w fun e w' =>e=.returned (.bool (zeu s))∧w'=w:=by
 unfold maxLen at hs
 by_cases h:3≤s.size
 ·have e:zeu s=((s.extract 0 3).toList == [239,191,189]):=by simp [zeu,h]
  rw [e]
  clear e
  go_enter Tryz.func139,Tryz.ntmps139
  go_wp2
  go_ret
  exact ⟨rfl,rfl⟩
 ·have e:zeu s=false:=by simp [zeu,h]
  rw [e]
  clear e
  go_enter Tryz.func139,Tryz.ntmps139
  go_wp2
  go_ret
  exact ⟨rfl,rfl⟩

abbrev zb6 (x:Int × Int × Bool):Value := .agg #[.int .i32 x.1,.int .i64 x.2.1,.bool x.2.2]

theorem zk4 (s:ByteArray) (hs:s.size≤maxLen) (r:Int) (w:World):Calls Tryz.prog 182 #[.string s,.int .i32 r] w fun e w' =>e=.returned (zb6 (zgu s r))∧Below w.heap.size w w':=by
 by_cases h:r=65533
 ·subst h
  cases hb:zeu s with
  | true =>
   have e:zgu s 65533=(65533,zag 65533,false):=by simp [zgu,hb]
   rw [e]
   clear e
   have H:Hid (zeu s=true):=hb
   clear hb
   go_enter Tryz.func182,Tryz.ntmps182
   go_wp2_with (first | (go_at_call 139;refine (zeQ _ hs _).mono ?_;rintro e w' ⟨rfl,rfl⟩;rw [H.out]) | (go_at_call 142;refine (zaY _ _).mono ?_;rintro e w' ⟨rfl,rfl⟩))
   exact bodyPost_ret (v:=zb6 (65533,zag 65533,false)) (by simp [results,Tryz.results182,go_sem]) rfl ⟨rfl,(Below.refl _ _).alloc (Nat.le_refl _) _⟩
  | false =>
   have e:zgu s 65533=(65533,1,true):=by simp [zgu,hb]
   rw [e]
   clear e
   have H:Hid (zeu s=false):=hb
   clear hb
   go_enter Tryz.func182,Tryz.ntmps182
   go_wp2_with (first | (go_at_call 139;refine (zeQ _ hs _).mono ?_;rintro e w' ⟨rfl,rfl⟩;rw [H.out]) | (go_at_call 197;refine (zjV _).mono ?_;rintro e w1 ⟨rfl,rfl⟩))
   exact bodyPost_ret (v:=zb6 (65533,1,true)) (by simp [results,Tryz.results182,go_sem]) rfl ⟨rfl,((Below.refl _ _).alloc (Nat.le_refl _) _).alloc (by simp) _⟩
 ·have e:zgu s r=(r,zag r,false):=by simp [zgu,h]
  rw [e]
  clear e
  have hb:(r == 65533)=false:=by simpa using h
  go_enter Tryz.func182,Tryz.ntmps182
  go_wp2_with (go_at_call 142;refine (zaY _ _).mono ?_;rintro e w' ⟨rfl,rfl⟩)
  exact bodyPost_ret (v:=zb6 (r,zag r,false)) (by simp [results,Tryz.results182,go_sem]) rfl ⟨rfl,(Below.refl _ _).alloc (Nat.le_refl _) _⟩
attribute [local go_sem] Oper.semAt_some
set_option linter.unusedVariables false

structure Hz (p:Prop):Prop where
 out:p
theorem kz {p:Prop} (h:p):Hz p:=⟨h⟩
theorem oz {p:Prop} (h:Hz p):p:=h.out

theorem zgx {W W':World} (h:Below W.heap.size W W'):W.grownBy W' none:=⟨h.os,h.tape,h.output,h.size,fun k hk _ =>h.block k hk⟩
theorem zc6 (w:World) (k:Nat) (s:ByteArray) (pos:Nat):w.grownBy (w.iterAt k s pos) (some k) :=
 ⟨rfl,rfl,rfl,by rw [Lib.iterAt_size];exact Nat.le_refl _,fun i _ h =>Lib.iterAt_other w k i s pos (fun e =>h (by rw [e]))⟩
theorem zbA {w:World} {k:Nat} {s:ByteArray} {pos:Nat} (h:w.heap[k]?=some (.stringIter s pos)):w.iterPos k=pos:=by unfold World.iterPos;rw [h]

def KpS (b:Nat) (W W':World):Prop:=W'.cell? ⟨b,0,none⟩=W.cell? ⟨b,0,none⟩∧KeepsWalks W W'
abbrev encsS (s:ByteArray) (i:Nat):Array Value:=#[.int .i64 i,zb6 (zdd s i)]

theorem zdF {W:World} {a:Addr} {v:Value} (h:W.cell? a=some v):a.block < W.heap.size:=by
 obtain ⟨o,ho,_⟩:=cells_of_cell h
 exact (Array.getElem?_eq_some_iff.1 ho).1
theorem zdh (s:ByteArray):∀ f i,(zaj s f i).length≤f
 | 0,i =>by simp [zaj]
 | f+1,i =>by
  unfold zaj
  split
  ·have:=zdh s f (i+wd s i);simp;omega
  ·simp
theorem zbL (s:ByteArray):(zaw s).length≤s.size:=zdh s _ _

set_option maxRecDepth 100000 in
set_option maxHeartbeats 2000000 in
theorem iter_in (n l Bn:Nat) (hn:1≤n) (s:ByteArray) (hs:s.size≤maxLen) (J Jx:List Nat→World→Prop) (W0:World) (hJ:AbidesFrom W0.heap.size J)
  (hY:∀ pre x W,J pre W→pre.length < s.size→YieldAt Fence.wide (n - 1) Tryz.prog l (encsS s x) W fun e W' =>
   (e=.returned (.bool true)∧J (pre++[x]) W'∧KpS Bn W W')∨(e=.returned (.bool false)∧Jx (pre++[x]) W'))
  (hBn:W0.cell? ⟨Bn,0,none⟩=some (.string s)) (h0:J [] W0) :
  CallsIn Fence.wide n Tryz.prog 181 #[.func (.yield l) #[] #[],.pointer (some ⟨Bn,0,none⟩)] W0 fun e W' =>(∃ v,e=.returned v) ∧
   ((∃ ys,ys=zaw s∧J ys W')∨(∃ pre,pre <+: zaw s∧Jx pre W')):=by
 unfold maxLen at hs
 refine callsIn_of_wp Tryz.func181 rfl trivial ?_ rfl
 simp only [Tryz.ntmps181,List.size_toArray,List.length_cons,List.length_nil,Nat.reduceAdd,Nat.reduceSub,Array.replicate_succ,Array.replicate_zero,List.push_toArray,List.append_toArray,List.nil_append,List.cons_append]
 have hlt:Bn < W0.heap.size:=zdF hBn
 gi_wp2
 gi_loopw [3] (fun _ wr => ∃ (pre:List Nat) (pos f:Nat),zaw s=pre++zaj s f pos∧s.size≤pos+f∧wr.heap[W0.heap.size]?=some (.stringIter s pos)∧wr.cell? ⟨Bn,0,none⟩=some (.string s)∧J pre wr)
  (fun _ wr =>s.size - wr.iterPos W0.heap.size)
 case atStart =>
  exact ⟨[],0,s.size,rfl,by omega,World.iter_heap W0 s 0,((World.grownBy_alloc W0 (.stringIter s 0) none).cell hBn (by simp)),hJ _ _ _ none h0 (World.grownBy_alloc W0 (.stringIter s 0) none) (fun r e =>by cases e)⟩
 case round =>
  obtain ⟨pre,pos,f,hst,hf,hit,hc,hj⟩:=hrel
  have hpl:pre.length+(zaj s f pos).length≤s.size:=by rw [← List.length_append, ← hst];exact zbL s
  by_cases hp:pos < s.size
  ·obtain ⟨f,rfl⟩:∃ g,f=g+1:=⟨f - 1,by omega⟩
   rw [zas s f pos hp] at hst hpl
   have hnx:∀ ty,(Instr.next (.pointer (some ⟨W0.heap.size,0,none⟩)) true ty).run Tryz.prog wr=_:=fun ty =>Lib.run_next_any_at wr W0.heap.size s pos ty hit hp
   have hg1:=zc6 wr W0.heap.size s (pos+(Utf8.decode s pos).2)
   have hj1:=hJ pre _ _ _ hj hg1 (fun r e =>by cases e;exact ⟨Nat.le_refl _,_,hit,rfl⟩)
   have hc1:=hg1.cell hc (by simp;omega)
   have hi1:=Lib.iterAt_heap wr W0.heap.size s pos (pos+(Utf8.decode s pos).2) hit
   have hsz:W0.heap.size < (wr.iterAt W0.heap.size s (pos+(Utf8.decode s pos).2)).heap.size:=(Array.getElem?_eq_some_iff.1 hi1).1
   have HY:=kz hY
   have HJ:=kz hJ
   have HS:=kz hst
   have HP:=kz hit
   have HR:=kz (spotR_eq s pos hp)
   clear hg1 hj hit hst hY hJ h0
   gi_wp2_with fail
   refine ⟨trivial, ?_⟩
   refine (callsIn_wide.2 (zk4 _ (by rw [ByteArray.size_extract];unfold maxLen;omega) _ _)).mono ?_
   rintro e W2 ⟨rfl,hb2⟩
   rw [show zgu (s.extract pos s.size) ((Utf8.decode s pos).1:Int)=zdd s pos from oz HR]
   have hj2:=(oz HJ) pre _ _ none hj1 (zgx hb2) (fun r e =>by cases e)
   have hc2:W2.cell? ⟨Bn,0,none⟩=some (.string s):=(hb2.cell (p:=⟨Bn,0,none⟩) (by show Bn < _;omega)).trans hc1
   have hi2:W2.heap[W0.heap.size]?=some (.stringIter s (pos+(Utf8.decode s pos).2)):=(hb2.block _ hsz).trans hi1
   obtain ⟨fn,tmps,assign,body,hy,hR⟩:=(oz HY) pre pos W2 hj2 (by simp at hpl;omega)
   dsimp only [encsS] at hy
   clear hj2 hb2 hnx hj1 hc1 hi1
   gi_wp2
   refine hR.mono ?_
   rintro e W3 (⟨rfl,hJ3,hk3⟩ | ⟨rfl,hJx3⟩)
   ·have hi3:=hk3.2.same _ _ hi2 rfl
    have hc3:=hk3.1.trans hc2
    gi_wp2
    go_roundw
    case rel =>exact ⟨pre++[pos],pos+wd s pos,f,by rw [oz HS];simp,by have:=zbh s pos;omega,hi3,hc3,hJ3⟩
    case measure =>rw [zbA hi3,zbA (oz HP)];have:=zbh s pos;simp only [wd] at this;omega
   ·gi_wp2
    refine bodyPost_ret (results_none rfl _ _ _) rfl ?_
    exact ⟨⟨_,rfl⟩,.inr ⟨pre++[pos],⟨zaj s f (pos+wd s pos),by rw [oz HS];simp⟩,hJx3⟩⟩
  ·have hnx:∀ ty,(Instr.next (.pointer (some ⟨W0.heap.size,0,none⟩)) true ty).run Tryz.prog wr=_:=fun ty =>Lib.run_next_end_at wr W0.heap.size s pos ty hit hp
   rw [zav s f pos hp,List.append_nil] at hst
   have HS:=kz hst
   clear hst hY hJ h0 hpl
   gi_wp2
   go_end0
   exact ⟨⟨_,rfl⟩,.inl ⟨pre,(oz HS).symm,hj⟩⟩

theorem zfW (n Bn:Nat) (hn:1≤n) (s:ByteArray) (hs:s.size≤maxLen) (w:World) (hc:w.cell? ⟨Bn,0,none⟩=some (.string s)) :
  SeqStopsK Fence.wide n Tryz.prog 181 #[.pointer (some ⟨Bn,0,none⟩)] (encsS s) (KpS Bn) (fun ys =>ys=zaw s) (fun pre =>pre <+: zaw s) s.size w:=fun l J Jx W hW hJ _ hY h0 =>
 iter_in n l Bn hn s hs J Jx W hJ hY ((hW.cell (p:=⟨Bn,0,none⟩) (zdF hc)).trans hc) h0

theorem KpS_t {b:Nat} {A B C:World} (h:KpS b A B) (k:KpS b B C):KpS b A C:=⟨k.1.trans h.1,h.2.trans k.2⟩
theorem KpS_b {b:Nat} {w:World} (hb:b < w.heap.size) (W:World) (l:Nat) (o o':Obj) (hl:w.heap.size≤l) (h:W.heap[l]?=some o) (_:o.isCells=false) (hw:o.isWalk=false):KpS b W (W.putObj l o') :=
 ⟨World.cell?_of_block (World.putObj_heap_other (by show b≠l;omega)),KeepsWalks.putObj _ h hw⟩

theorem zh1 (s:ByteArray) (w:World):Calls Tryz.prog 164 #[.string s] w fun e w' =>e=.returned (.func (.func 181) #[] #[.pointer (some ⟨w.heap.size,0,none⟩)])∧w'=w.alloc (.cells #[.string s] 9):=by
 go_enter Tryz.func164,Tryz.ntmps164
 go_wp2
 go_ret
 exact ⟨rfl,rfl⟩
attribute [local go_sem] Oper.semAt_some
set_option linter.unusedVariables false

def Blk (W:World) (B:Nat) (cs:Array Value) (t:TypeId):Prop:=W.heap[B]?=some (.cells cs t (0,0))
theorem Blk.lt {W:World} {B:Nat} {cs:Array Value} {t:TypeId} (h:Blk W B cs t):B < W.heap.size:=(Array.getElem?_eq_some_iff.1 h).1
theorem Blk.cell {W:World} {B:Nat} {cs:Array Value} {t:TypeId} (h:Blk W B cs t) (i:Nat):W.cell? ⟨B,i,none⟩=cs[i]?:=by
 simp [World.cell?,show W.heap[B]?=_ from h]
theorem Blk.frozen {W:World} {B:Nat} {cs:Array Value} {t:TypeId} (h:Blk W B cs t) (i:Nat):W.frozen? ⟨B,i,none⟩=false:=by simp [World.frozen?,show W.heap[B]?=_ from h]
theorem Blk.new (W:World) (cs:Array Value) (t:TypeId):Blk (W.alloc (.cells cs t)) W.heap.size cs t:=World.alloc_heap_new W _
theorem Blk.kept {W W':World} {row:Option Nat} {B:Nat} {cs:Array Value} {t:TypeId} (h:Blk W B cs t) (hg:W.grownBy W' row) (hne:some B≠row):Blk W' B cs t:=(hg.block B h.lt hne).trans h
theorem Blk.alloc {W:World} {B:Nat} {cs:Array Value} {t:TypeId} (h:Blk W B cs t) (o:Obj):Blk (W.alloc o) B cs t:=h.kept (World.grownBy_alloc W o none) (by simp)
theorem Blk.below {W W':World} {N B:Nat} {cs:Array Value} {t:TypeId} (h:Blk W B cs t) (hb:Below N W W') (hlt:B < N):Blk W' B cs t:=(hb.block B hlt).trans h
theorem Blk.own {β : Type} (B:Nat) (cs : β→Array Value) (t:TypeId):Own (fun s W =>Blk W B (cs s) t):=fun s A A' row hs hg hr =>hs.kept hg (fun e =>by
 obtain ⟨o,ho,hc⟩:=hr B e.symm
 rw [show A.heap[B]?=_ from hs] at ho
 cases ho
 simp [Obj.isCells] at hc)

theorem Blk.set {W:World} {B:Nat} {cs:Array Value} {t:TypeId} (h:Blk W B cs t) (i:Nat) (v:Value):Blk (W.setCell ⟨B,i,none⟩ v) B (cs.setIfInBounds i v) t:=by
 show (W.heap.modify B _)[B]?=_
 rw [Array.getElem?_modify,if_pos rfl,show W.heap[B]?=_ from h]
 rfl
theorem Blk.other {W:World} {B B' i:Nat} {cs:Array Value} {t:TypeId} (h:Blk W B cs t) (hne:B≠B') (v:Value):Blk (W.setCell ⟨B',i,none⟩ v) B cs t :=
 (Below.heap_setCell W ⟨B',i,none⟩ v B hne).trans h
theorem Blk.put {W:World} {B l:Nat} {cs:Array Value} {t:TypeId} {o:Obj} (h:Blk W B cs t) (o':Obj) (hl:W.heap[l]?=some o) (ho:o.isCells=false):Blk (W.putObj l o') B cs t :=
 (World.putObj_heap_other (fun e =>by subst e;rw [show W.heap[B]?=_ from h] at hl;cases hl;simp [Obj.isCells] at ho)).trans h
abbrev zaI (x:Int × Int × Bool):Array Value:=#[.int .i32 x.1,.int .i64 x.2.1,.bool x.2.2]
def ziN (s:ByteArray):Value:=if 0 < s.size then .tuple #[zb6 (zdd s 0),.bool true] else .tuple #[zb6 (0,0,false),.bool false]
theorem zdq {s:ByteArray} (h:0 < s.size):ziN s=.tuple #[zb6 (zdd s 0),.bool true]:=if_pos h
theorem zgX {s:ByteArray} (h:¬ 0 < s.size):ziN s=.tuple #[zb6 (0,0,false),.bool false]:=if_neg h
theorem zen (s:ByteArray) (h:0 < s.size):∃ r,zaw s=0::r:=by
 unfold zaw
 obtain ⟨m,hm⟩:∃ m,s.size=m+1:=⟨s.size - 1,by omega⟩
 rw [hm,zas s m 0 h]
 exact ⟨_,rfl⟩
theorem zh0 (s:ByteArray) (h:¬ 0 < s.size):zaw s=[]:=zav s _ _ h

set_option maxRecDepth 100000 in
set_option maxHeartbeats 2000000 in
theorem first_in (n:Nat) (hn:3≤n) (s:ByteArray) (hs:s.size≤maxLen) (w:World) :
  CallsIn Fence.wide n Tryz.prog 145 #[.string s] w fun e W' =>e=.returned (ziN s)∧Below w.heap.size w W':=by
 have h1:1≤n:=by omega
 refine callsIn_of_wp_marks Tryz.func145 rfl trivial ?_ rfl
 simp only [Tryz.ntmps145,List.size_toArray,List.length_cons,List.length_nil,Nat.reduceAdd,Nat.reduceSub,Array.replicate_succ,Array.replicate_zero,List.push_toArray,List.append_toArray,List.nil_append,List.cons_append]
 gi_wp2_with (refine ⟨trivial, ?_⟩;gi_at_call 164;refine (callsIn_wide.2 (zh1 _ _)).mono ?_;rintro e w' ⟨rfl,rfl⟩)
 have b2:=((Blk.new w (zaI (0,0,false)) 234).alloc (.cells #[.bool false] 4)).alloc (.cells #[.string s] 9)
 have b3:=(Blk.new (w.alloc (.cells (zaI (0,0,false)) 234)) #[.bool false] 4).alloc (.cells #[.string s] 9)
 have bS:=Blk.new ((w.alloc (.cells (zaI (0,0,false)) 234)).alloc (.cells #[.bool false] 4)) #[.string s] 9
 simp only [World.size_alloc] at b3 bS
 have hB0:Below w.heap.size w (((w.alloc (.cells (zaI (0,0,false)) 234)).alloc (.cells #[.bool false] 4)).alloc (.cells #[.string s] 9)):=(((Below.refl _ w).alloc (Nat.le_refl _) _).alloc (by simp) _).alloc (by simp;omega) _
 have hsz:(((w.alloc (.cells (zaI (0,0,false)) 234)).alloc (.cells #[.bool false] 4)).alloc (.cells #[.string s] 9)).heap.size=w.heap.size+3:=by simp
 obtain ⟨W0,hW0⟩:∃ W0,((w.alloc (.cells (zaI (0,0,false)) 234)).alloc (.cells #[.bool false] 4)).alloc (.cells #[.string s] 9)=W0:=⟨_,rfl⟩
 rw [hW0] at b2 b3 bS hB0 hsz ⊢
 clear hW0
 refine wpIn_rangeFunc_ownH rfl h1 (gf:=181) (lb:=#[.pointer (some ⟨w.heap.size+1+1,0,none⟩)]) rfl trivial (enters_of Tryz.func181 (by kernel_rfl) rfl)
  (zfW (n - 1) (w.heap.size+1+1) (by omega) s hs W0 (bS.cell 0)) KpS_t (KpS_b (by omega)) (Below.refl _ _) (fun _ =>rfl)
  (fun pre W =>(pre=[]∧Blk W w.heap.size (zaI (0,0,false)) 234∧Blk W (w.heap.size+1) #[.bool false] 4∧Blk W (w.heap.size+1+1) #[.string s] 9)∧Below w.heap.size w W)
  (fun c pre W =>(c=.ret∧∃ x,pre=[x]∧Blk W w.heap.size (zaI (zdd s x)) 234∧Blk W (w.heap.size+1) #[.bool true] 4)∧Below w.heap.size w W)
  (OwnFrom.and (Own.from (fun s A B row hs hg hr =>⟨hs.1,Blk.own _ (fun _ =>_) _ () A B row hs.2.1 hg hr,Blk.own _ (fun _ =>_) _ () A B row hs.2.2.1 hg hr,Blk.own _ (fun _ =>_) _ () A B row hs.2.2.2 hg hr⟩) _) (ownFrom_below (Nat.le_refl _) (by omega)))
  (fun c =>OwnFrom.and (Own.from (fun s A B row hs hg hr =>by
   obtain ⟨hc,x,hx,k2,k3⟩:=hs
   exact ⟨hc,x,hx,Blk.own _ (fun _ =>_) _ () A B row k2 hg hr,Blk.own _ (fun _ =>_) _ () A B row k3 hg hr⟩) _) (ownFrom_below (Nat.le_refl _) (by omega)))
  ⟨⟨rfl,b2,b3,bS⟩,hB0⟩
  (fun x a' W => ∃ Bx,w.heap.size+1+1 < Bx∧Blk W Bx (zaI (zdd s x)) 234∧a' = { tmps:=#[.string s,undef,.pointer (some ⟨w.heap.size,0,none⟩),.pointer (some ⟨w.heap.size+1,0,none⟩),undef,.pointer (some ⟨Bx,0,none⟩),.string s,.func (.func 181) #[] #[.pointer (some ⟨w.heap.size+1+1,0,none⟩)],.int .i64 x,zb6 (zdd s x),undef,undef],defers := [] })
  (fun x a' =>Own.from (fun u A B row hs hg hr =>by
   obtain ⟨Bx,h1,h2,h3⟩:=hs
   exact ⟨Bx,h1,Blk.own _ (fun _ =>_) _ () A B row h2 hg hr,h3⟩) _)
  ?assign ?body ?done ?stop
 case assign =>
  rintro l pre x W K ⟨⟨hp,k2,k3,kS⟩,hB⟩ hK
  gi_wp2
  exact hK _ _ ((KeepsOthers.alloc _ _).from _) ⟨(kS.alloc _).cell 0 |>.trans (kS.cell 0).symm,KeepsWalks.alloc _ _⟩ ⟨⟨hp,k2.alloc _,k3.alloc _,kS.alloc _⟩,hB.alloc hB.size _⟩ ⟨W.heap.size,kS.lt,Blk.new W _ 234,rfl⟩
 case body =>
  rintro l pre x a' W hl ⟨r,hr⟩ ⟨⟨rfl,k2,k3,kS⟩,hB⟩ ⟨Bx,hBx,bX,rfl⟩ hlt
  have x0:=bX.cell 0
  have x1:=bX.cell 1
  have x2:=bX.cell 2
  have c0:=k2.cell 0
  have c1:=k2.cell 1
  have c2:=k2.cell 2
  have c3:=k3.cell 0
  have f0:=k2.frozen
  have f3:=k3.frozen
  gi_wp2
  refine ⟨((((KeepsOthers.setCell _ _ _).trans (KeepsOthers.setCell _ _ _)).trans (KeepsOthers.setCell _ _ _)).trans (KeepsOthers.setCell _ _ _)).from _,⟨rfl,x,rfl, ?_, ?_⟩, ?_⟩
  ·exact Blk.other (((k2.set 0 _).set 1 _).set 2 _) (by omega) _
  ·exact (((k3.other (by omega) _).other (by omega) _).other (by omega) _).set 0 _
  ·exact (((hB.setCell (p:=⟨w.heap.size,0,none⟩) (Nat.le_refl _) _).setCell (p:=⟨w.heap.size,1,none⟩) (Nat.le_refl _) _).setCell (p:=⟨w.heap.size,2,none⟩) (Nat.le_refl _) _).setCell (p:=⟨w.heap.size+1,0,none⟩) (by simp) _
 case done =>
  rintro D ys W hD hys ⟨⟨hne,k2,k3,_⟩,hB⟩ hK
  have hz:¬ 0 < s.size:=fun h =>by
   obtain ⟨r,hr⟩:=zen s h
   rw [hys,hr] at hne
   cases hne
  have c0:=k2.cell 0
  have c1:=k2.cell 1
  have c2:=k2.cell 2
  have c3:=k3.cell 0
  have f0:=k2.frozen
  have f3:=k3.frozen
  clear hys hne
  gi_wp2
  have hK':=((((KeepsOthers.setCell W ⟨w.heap.size,0,none⟩ (.int .i32 0)).trans (KeepsOthers.setCell _ ⟨w.heap.size,1,none⟩ (.int .i64 0))).trans (KeepsOthers.setCell _ ⟨w.heap.size,2,none⟩ (.bool false))).trans (KeepsOthers.setCell _ ⟨w.heap.size+1,0,none⟩ (.bool false))).same D _ hK rfl
  have k2':=Blk.other (i:=0) (((k2.set 0 (.int .i32 0)).set 1 (.int .i64 0)).set 2 (.bool false)) (B':=w.heap.size+1) (by omega) (.bool false)
  have k3':=(((k3.other (B':=w.heap.size) (i:=0) (by omega) (.int .i32 0)).other (B':=w.heap.size) (i:=1) (by omega) (.int .i64 0)).other (B':=w.heap.size) (i:=2) (by omega) (.bool false)).set 0 (.bool false)
  have hB':=(((hB.setCell (p:=⟨w.heap.size,0,none⟩) (Nat.le_refl _) (.int .i32 0)).setCell (p:=⟨w.heap.size,1,none⟩) (Nat.le_refl _) (.int .i64 0)).setCell (p:=⟨w.heap.size,2,none⟩) (Nat.le_refl _) (.bool false)).setCell (p:=⟨w.heap.size+1,0,none⟩) (by simp) (.bool false)
  clear hK k2 k3 hB c0 c1 c2 c3 f0 f3
  refine ⟨by simp,.inl ⟨_,_,rfl,run_takeDeferred hK', ?_⟩⟩
  have q2:=k2'.put (.deferred Option.none) hK' rfl
  have q3:=k3'.put (.deferred Option.none) hK' rfl
  have c0:=q2.cell 0
  have c1:=q2.cell 1
  have c2:=q2.cell 2
  have c3:=q3.cell 0
  refine ⟨.tuple #[zb6 (0,0,false),.bool false], ?_,by rw [zgX hz],hB'.trans (belowK_b (w:=w) (Nat.le_refl _) _ D _ _ (by omega) hK' rfl rfl)⟩
  simp [results,Tryz.f145,go_sem,c0,c1,c2,c3]
 case stop =>
  rintro D c pre W hD hpre ⟨⟨rfl,x,rfl,k2,k3⟩,hB⟩ hK
  have hz:0 < s.size:=by
   rcases Nat.eq_zero_or_pos s.size with h | h
   ·rw [zh0 s (by omega)] at hpre;simp at hpre
   ·exact h
  obtain ⟨r,hr⟩:=zen s hz
  rw [hr] at hpre
  obtain rfl:x=0:=by obtain ⟨t,ht⟩:=hpre;simp at ht;exact ht.1
  clear hpre hr
  gi_wp2
  refine ⟨by simp,.inl ⟨_,_,rfl,run_takeDeferred hK, ?_⟩⟩
  have q2:=k2.put (.deferred Option.none) hK rfl
  have q3:=k3.put (.deferred Option.none) hK rfl
  have c0:=q2.cell 0
  have c1:=q2.cell 1
  have c2:=q2.cell 2
  have c3:=q3.cell 0
  refine ⟨.tuple #[zb6 (zdd s 0),.bool true], ?_,by rw [zdq hz],hB.trans (belowK_b (w:=w) (Nat.le_refl _) W D _ _ (by omega) hK rfl rfl)⟩
  simp [results,Tryz.f145,go_sem,c0,c1,c2,c3]
end Go.Proofs.YtmdgejgokoadlaaGreatDoor
namespace Go.Proofs.YtmdgejgokoadlaaGreatDoor
open Go.RowKit Go.Shelf
set_option linter.unusedVariables false

theorem zaL (W:World) (a:Addr) (v:Value):W.grownBy (W.setCell a v) (some a.block) :=
 ⟨rfl,rfl,rfl,by simp,fun k _ hk =>Below.heap_setCell _ _ _ k (fun e =>hk (by rw [e]))⟩

def slotAt:List Value→Nat→Value
 | [],_ =>undef
 | v::_,0 =>v
 | _::L,k+1 =>slotAt L k
theorem zc3 {ds:List Deferred} {L:List Value} {G:(Nat→Value)→List Value} (h:L=G (slotAt L)):∃ U,({ tmps:=L.toArray,defers:=ds }:Act) = { tmps:=(G U).toArray,defers:=ds }:=⟨_,by rw [← h]⟩

theorem zd4 (s:ByteArray) (hs:s.size≤maxLen) (w:World):Calls Tryz.prog 145 #[.string s] w fun e W' =>e=.returned (ziN s)∧Below w.heap.size w W' :=
 callsIn_wide.1 (first_in 3 (Nat.le_refl _) s hs w)

theorem firstV_at (s:ByteArray) (i:Nat) (h:i < s.size):ziN (s.extract i s.size)=.tuple #[.agg #[.int .i32 (rn s i),.int .i64 (wd s i),.bool (decide (rn s i=65533∧wd s i=1))],.bool true]:=by
 rw [zdq (by rw [ByteArray.size_extract];omega)]
 simp only [zb6,zdd,rn,wd,zbO s i 0 (Nat.le_of_lt h),Nat.add_zero]

set_option maxHeartbeats 1000000 in
theorem bound_out (s:ByteArray) (hs:s.size≤maxLen) (a:Int) (ha:a < 0∨(s.size:Int) < a) (w:World) :
  Calls Tryz.prog 106 #[.string s,.int .i64 a] w fun e w' =>e=.returned (.bool false)∧w'=w:=by
 unfold maxLen at hs
 rcases ha with ha | ha
 ·go_enter Tryz.func106,Tryz.ntmps106
  go_wp2
  go_ret
  exact ⟨rfl,rfl⟩
 ·have h0:¬ a < 0:=by omega
  go_enter Tryz.func106,Tryz.ntmps106
  go_wp2
  go_ret
  exact ⟨rfl,rfl⟩

set_option maxHeartbeats 1000000 in
theorem bound_in (s:ByteArray) (hs:s.size≤maxLen) (p:Nat) (hp:p≤s.size) (w:World) :
  Calls Tryz.prog 106 #[.string s,.int .i64 p] w fun e w' =>e=.returned (.bool (bdB s p))∧Below w.heap.size w w':=by
 unfold maxLen at hs
 have h0:¬ (p:Int) < 0:=by omega
 have h1:¬ (s.size:Int) < (p:Int):=by omega
 go_enter Tryz.func106,Tryz.ntmps106
 go_wp2
 go_loopw [5] (fun i wr => ∃ k:Nat,1≤k∧k≤4∧i=.int .i64 k∧Hz (∀ m,m < k→1≤m→m≤p→wd s (p - m)≤m)∧Below w.heap.size w wr) (fun i _ =>4 - (intOf i).toNat)
 case atStart =>exact ⟨1,by omega,by omega,rfl,kz (fun m h1 h2 =>by omega),Below.refl _ _⟩
 case round =>
  obtain ⟨k,hk1,hk4,rfl,H,hB⟩:=hrel
  by_cases h4:k < 4
  ·by_cases hkp:k≤p
   ·have hfv:=firstV_at s (p - k) (by omega)
    generalize decide (rn s (p - k)=65533∧wd s (p - k)=1)=b at hfv
    generalize rn s (p - k)=r at hfv
    obtain ⟨d,hd⟩:∃ d,wd s (p - k)=d:=⟨_,rfl⟩
    rw [hd] at hfv
    have HF:=kz hfv
    have HD:=kz hd
    clear hfv hd
    go_wp2_with fail
    refine (zd4 _ (by rw [ByteArray.size_extract];unfold maxLen;omega) _).mono ?_
    rintro e w1 ⟨rfl,hb1⟩
    rw [HF.out]
    have hB1:Below w.heap.size w w1:=hB.trans (hb1.mono hB.size)
    clear hb1
    by_cases hdk:(k:Int) < d
    ·go_wp2
     go_ret
     refine ⟨?_,hB1.alloc hB1.size _⟩
     have:bdB s p=false:=by
      rw [← Bool.not_eq_true,zdu]
      intro h
      have:=h k h4 hk1 hkp
      rw [HD.out] at this
      omega
     rw [this]
     rfl
    ·go_wp2
     go_roundw
     case rel =>
      refine ⟨k+1,by omega,by omega,by go_num,kz (fun m h1 h2 h3 =>?_),hB1.alloc hB1.size _⟩
      by_cases e:m=k
      ·subst e;rw [HD.out];omega
      ·exact H.out m (by omega) h2 h3
     case measure =>simp [intOf];omega
   ·go_wp2
    go_ret
    refine ⟨?_,hB⟩
    rw [(zdu s p).2 (fun m h1 h2 h3 =>H.out m (by omega) h2 h3)]
    rfl
  ·go_wp2
   go_ret
   refine ⟨?_,hB⟩
   rw [(zdu s p).2 (fun m h1 h2 h3 =>H.out m (by omega) h2 h3)]
   rfl

def zcU (s:ByteArray):Nat→Nat
 | 0 =>0
 | p+1 =>if bdB s (p+1) then p+1 else zcU s p
theorem zfP (s:ByteArray):∀ p,zcU s p≤p
 | 0 =>Nat.le_refl _
 | p+1 =>by unfold zcU;split;exact Nat.le_refl _;exact Nat.le_succ_of_le (zfP s p)
theorem zkR (s:ByteArray):∀ p,bdB s (zcU s p)=true
 | 0 =>zdG s
 | p+1 =>by
  unfold zcU
  split
  ·assumption
  ·exact zkR s p
theorem zgn (s:ByteArray):∀ p q,q≤p→bdB s q=true→q≤zcU s p
 | 0,q,h,_ =>h
 | p+1,q,h,hq =>by
  unfold zcU
  split
  ·exact h
  ·rename_i hn
   exact zgn s p q (by
    rcases Nat.lt_or_ge q (p+1) with hl | hl
    ·omega
    ·have:q=p+1:=by omega
     subst this;exact absurd hq hn) hq
theorem zg5 (s:ByteArray) (p:Nat) (h:bdB s p=true):zcU s p=p:=Nat.le_antisymm (zfP s p) (zgn s p p (Nat.le_refl _) h)
theorem cutAt_pred (s:ByteArray) (p:Nat) (h:bdB s p=false):1≤p∧zcU s p=zcU s (p - 1):=by
 cases p with
 | zero =>rw [zdG] at h;cases h
 | succ p =>refine ⟨by omega, ?_⟩;rw [zcU,if_neg (by simp [h])];rfl
def zg8 (s:ByteArray) (a:Int):Nat:=min a.toNat s.size

set_option maxHeartbeats 2000000 in
theorem cut_any (s:ByteArray) (hs:s.size≤maxLen) (a:Int) (w:World) :
  Calls Tryz.prog 58 #[.string s,.int .i64 a] w fun e w' =>e=.returned (.tuple #[.string (s.extract 0 (zcU s (zg8 s a))),.string (s.extract (zcU s (zg8 s a)) s.size)])∧Below w.heap.size w w':=by
 have hs':=hs
 unfold maxLen at hs
 obtain ⟨c,hc,hcs⟩:∃ c,zg8 s a=c∧c≤s.size:=⟨_,rfl,Nat.min_le_right _ _⟩
 have hc3:(a < 0∧c=0)∨(0≤a∧a≤s.size∧a=c)∨((s.size:Int) < a∧c=s.size):=by unfold zg8 at hc;omega
 rw [hc]
 have HS:=kz hs'
 clear hc hs'
 rcases hc3 with ⟨h0,rfl⟩ | ⟨h0,h1,rfl⟩ | ⟨h0,rfl⟩
 all_goals
  go_enter Tryz.func58,Tryz.ntmps58
  go_wp2
  go_loopw [1] (fun i wr => ∃ k:Nat,k≤s.size∧i=.int .i64 k∧Hz (zcU s k=zcU s _)∧Below w.heap.size w wr) (fun i _ =>(intOf i).toNat)
  case atStart =>exact ⟨_,hcs,rfl,kz rfl,Below.refl _ _⟩
  case round =>
   obtain ⟨k,hk,rfl,H,hB⟩:=hrel
   go_wp2_with fail
   refine (bound_in s (oz HS) k hk _).mono ?_
   rintro e w1 ⟨rfl,hb1⟩
   have hB1:Below w.heap.size w w1:=hB.trans (hb1.mono hB.size)
   clear hb1 hB
   cases hb:bdB s k with
   | true =>
    have he:=(zg5 s k hb).symm.trans (oz H)
    have HE:=kz he
    clear hb H he
    have hk0:(0:Int)≤k:=by omega
    have hk1:(k:Int)≤s.size:=by omega
    go_wp2
    go_quiet (fail)
    go_wp2
    go_ret2
    exact ⟨by rw [← oz HE];rfl,below_drewN hB1 _⟩
   | false =>
    obtain ⟨hk1,he⟩:=cutAt_pred s k hb
    have HE:=kz (he.symm.trans (oz H))
    clear hb H he
    go_wp2
    go_roundw
    case rel =>exact ⟨k - 1,by omega,by go_num,HE,hB1⟩
    case measure =>simp [intOf];omega

def zkt (s t:ByteArray):Bool:=bdB (s.extract (s.size - 3) s.size++t.extract 0 (min t.size 3)) (min s.size 3)


end Go.Proofs.YtmdgejgokoadlaaGreatDoor
