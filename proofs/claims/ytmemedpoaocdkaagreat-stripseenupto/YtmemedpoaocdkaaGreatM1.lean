/- Texts of this claim, one behind the other. -/
import Derived.Lib.DecodeN
import Derived.Laws.Strings
import Derived.Laws.RangeAny
import Derived.RangeFuncNested
import Derived.RangeFuncBound
import Derived.RangeFuncCalls
import Derived.RangeFuncLeaves
import Derived.Shelf.Abstract
import Derived.Shelf.RegionOpen
import Derived.WalkKit
import Derived.OwnWalkIn
import Derived.TacticsInMore
import Derived.LoopNIn
import Derived.LoopIn
import Derived.Test.YtmemedpoaocdkaaGreatProg
import Derived.Lib.OthersKept
import Derived.Deep.QuietTactic
import Derived.BigQuiet
import Derived.WalkSmall
namespace Go.Proofs.YtmemedpoaocdkaaGreat
set_option linter.unusedVariables false
section
set_option maxRecDepth 100000
set_option maxHeartbeats 8000000
open Go.Lib (decodeN decode_at)
def zag (r:Int):Int :=
 if r < 0∨(55296≤r∧r≤57343)∨1114111 < r then 0 else if r≤127 then 1 else if r≤2047 then 2 else if r≤65535 then 3 else 4
def zeF (s:ByteArray):Bool:=decide (3≤s.size) && ((s.extract 0 3).toList == [239,191,189])
def zgd (s:ByteArray) (r:Int):Int × Int × Bool:=if r=65533∧zeF s=false then (65533,1,true) else (r,zag r,false)
abbrev bt (s:ByteArray) (i:Nat):Nat:=(s.get! i).toNat
abbrev rn (s:ByteArray) (i:Nat):Nat:=(Utf8.decode s i).1
abbrev wd (s:ByteArray) (i:Nat):Nat:=(Utf8.decode s i).2
theorem zd2 (s:ByteArray) (i:Nat):bt s i < 256:=(s.get! i).toNat_lt
structure zrJ (n b0 b1 b2 b3:Nat) (x:Nat × Nat):Prop where
 pos:1≤x.2
 four:x.2≤4
 room:1≤n→x.2≤n
 c1:2≤x.2→b1 / 64=2
 c2:3≤x.2→b2 / 64=2
 c3:4≤x.2→b3 / 64=2
 lead:2≤x.2→192≤b0
 small:x.1≤1114111
 nosur:¬ (55296≤x.1∧x.1≤57343)
 width:¬ (x.1=65533∧x.2=1)→(x.2=1∧x.1≤127)∨(x.2=2∧128≤x.1∧x.1≤2047)∨(x.2=3∧2048≤x.1∧x.1≤65535)∨(x.2=4∧65536≤x.1)
 one:x.2=1→x.1=65533∧128≤b0∨x.1=b0∧b0 < 128
 repl:x.1=65533→x.2=1∨(x.2=3∧3≤n∧b0=239∧b1=191∧b2=189)
theorem zfe (n b0 b1 b2 b3:Nat) (h0:b0 < 256) (h1:b1 < 256) (h2:b2 < 256) (h3:b3 < 256):zrJ n b0 b1 b2 b3 (decodeN n b0 b1 b2 b3):=by
 unfold decodeN
 repeat' split
 all_goals (constructor <;> intros <;> dsimp only at * <;> omega)
theorem ziY (n b3:Nat) (h:3≤n):decodeN n 239 191 189 b3=(65533,3):=by
 unfold decodeN
 rw [if_neg (by omega),if_neg (by omega),if_pos (by omega),if_pos (by omega)]
theorem zhq (s:ByteArray) (i:Nat) (h:i < s.size):s.get! i=s.data[i]'h:=by
 show s.data[i]! = _
 exact getElem!_pos s.data i h
theorem zpj (s:ByteArray) (i:Nat) (h:s.size≤i):s.get! i=default:=by
 show s.data[i]! = _
 exact getElem!_neg s.data i (by show ¬ i < s.data.size;have:s.data.size=s.size:=rfl;omega)
theorem zjU (s:ByteArray) (a b j:Nat) (h:a+j < b) (hb:b≤s.size):(s.extract a b).get! j=s.get! (a+j):=by
 rw [zhq _ _ (by rw [ByteArray.size_extract];omega),zhq _ _ (by omega)]
 simp
theorem zhp (s:ByteArray) (a j:Nat) (ha:a≤s.size):(s.extract a s.size).get! j=s.get! (a+j):=by
 by_cases h:a+j < s.size
 ·exact zjU s a s.size j h (Nat.le_refl _)
 ·rw [zpj _ _ (by rw [ByteArray.size_extract];omega),zpj _ _ (by omega)]
theorem zie (s:ByteArray) (a j:Nat) (ha:a≤s.size):Utf8.decode (s.extract a s.size) j=Utf8.decode s (a+j):=by
 rw [decode_at,decode_at,ByteArray.size_extract]
 simp only [zhp s a _ ha,Nat.min_self,Nat.sub_sub,Nat.add_assoc]
theorem zfx (s:ByteArray) (i:Nat):zrJ (s.size - i) (bt s i) (bt s (i+1)) (bt s (i+2)) (bt s (i+3)) (Utf8.decode s i):=by
 rw [decode_at];exact zfe _ _ _ _ _ (zd2 s i) (zd2 s _) (zd2 s _) (zd2 s _)
theorem zbv (s:ByteArray) (i:Nat):1≤wd s i:=(zfx s i).pos
theorem zps (s:ByteArray) (i:Nat):wd s i≤4:=(zfx s i).four
theorem zdg (s:ByteArray) (i:Nat) (h:i < s.size):i+wd s i≤s.size:=by have:=(zfx s i).room (by omega);show i+(Utf8.decode s i).2≤_;omega
def zhM (s:ByteArray) (i:Nat):Int × Int × Bool:=(rn s i,wd s i,decide (rn s i=65533∧wd s i=1))
theorem zl0 (l:List UInt8) (hl:3≤l.length):(l.extract 0 3 == [239,191,189])=true ↔ l[0].toNat=239∧l[1].toNat=191∧l[2].toNat=189:=by
 match l,hl with
 | a::b::c::r,_ =>simp [List.extract, ← UInt8.toNat_inj]
theorem zm3 (t:ByteArray):zeF t=true ↔ 3≤t.size∧bt t 0=239∧bt t 1=191∧bt t 2=189:=by
 unfold zeF
 rw [ByteArray.toList_eq,ByteArray.data_extract,Array.toList_extract]
 by_cases h:3≤t.size
 ·have g0:=zhq t 0 (by omega)
  have g1:=zhq t 1 (by omega)
  have g2:=zhq t 2 (by omega)
  have hl:3≤t.data.toList.length:=by simpa using h
  have e0:t.get! 0=t.data.toList[0]:=by rw [g0];simp
  have e1:t.get! 1=t.data.toList[1]:=by rw [g1];simp
  have e2:t.get! 2=t.data.toList[2]:=by rw [g2];simp
  simp only [bt,e0,e1,e2]
  rw [← zl0 t.data.toList hl]
  simp [h]
 ·simp [h]
theorem zg6 (s:ByteArray) (i:Nat) (h:¬ (rn s i=65533∧wd s i=1)):zag (rn s i)=wd s i:=by
 have t:=zfx s i
 have hw:=t.width h
 have hs:=t.small
 have hn:=t.nosur
 unfold zag
 simp only [rn,wd]
 rw [if_neg (by omega)]
 rcases hw with ⟨e,h1⟩ | ⟨e,h1,h2⟩ | ⟨e,h1,h2⟩ | ⟨e,h1⟩
 ·rw [if_pos (by omega),e];rfl
 ·rw [if_neg (by omega),if_pos (by omega),e];rfl
 ·rw [if_neg (by omega),if_neg (by omega),if_pos (by omega),e];rfl
 ·rw [if_neg (by omega),if_neg (by omega),if_neg (by omega),e];rfl
theorem zkd (s:ByteArray) (i:Nat) (h:i < s.size):zgd (s.extract i s.size) (rn s i)=zhM s i:=by
 have hb:zeF (s.extract i s.size)=true ↔ 3≤s.size - i∧bt s i=239∧bt s (i+1)=191∧bt s (i+2)=189:=by
  rw [zm3,ByteArray.size_extract,Nat.min_self]
  simp only [bt,zhp s i _ (Nat.le_of_lt h),Nat.add_zero]
 unfold zgd zhM
 by_cases hr:rn s i=65533
 ·rcases (zfx s i).repl hr with h1 | ⟨h3,hn,c0,c1,c2⟩
  ·have hf:zeF (s.extract i s.size)=false:=by
    cases hx:zeF (s.extract i s.size) with
    | false =>rfl
    | true =>
     obtain ⟨hn,c0,c1,c2⟩:=hb.1 hx
     have:=decode_at s i
     rw [show (s.get! i).toNat=239 from c0,show (s.get! (i+1)).toNat=191 from c1,show (s.get! (i+2)).toNat=189 from c2,ziY _ _ hn] at this
     rw [this] at h1
     simp at h1
   rw [if_pos ⟨by rw [hr];rfl,hf⟩]
   have e2:wd s i=1:=h1
   rw [hr,e2]
   rfl
  ·have ht:zeF (s.extract i s.size)=true:=hb.2 ⟨hn,c0,c1,c2⟩
   have e2:wd s i=3:=h3
   rw [if_neg (by rw [ht];simp),zg6 s i (by omega)]
   simp [e2]
 ·rw [if_neg (by intro hh;apply hr;have:=hh.1;omega),zg6 s i (by intro hh;exact hr hh.1)]
  simp [hr]
def zaj (s:ByteArray):Nat→Nat→List Nat
 | 0,_ => []
 | f+1,i =>if i < s.size then i::zaj s f (i+wd s i) else []
def zah (s:ByteArray):List Nat:=zaj s s.size 0
theorem zaH (s:ByteArray) (f i:Nat) (h:¬ i < s.size):zaj s f i=[]:=by cases f <;> simp [zaj,h]
theorem zar (s:ByteArray) (f i:Nat) (h:i < s.size):zaj s (f+1) i=i::zaj s f (i+wd s i):=by simp [zaj,h]
end
section
open Go.RowKit Go.Shelf
theorem zbf (r:Int) (w:World):Calls Tryz.prog 66 #[.int .i32 r] w fun e w' =>e=.returned (.int .i64 (zag r))∧w'=w:=by
 by_cases h0:r < 0
 ·have:zag r=0:=by unfold zag;rw [if_pos (by omega)]
  rw [this]
  go_enter Tryz.func66,Tryz.ntmps66
  go_wp2
  go_ret
  exact ⟨rfl,rfl⟩
 by_cases h1:55296≤r
 ·by_cases h2:r≤57343
  ·have:zag r=0:=by unfold zag;rw [if_pos (by omega)]
   rw [this]
   go_enter Tryz.func66,Tryz.ntmps66
   go_wp2
   go_ret
   exact ⟨rfl,rfl⟩
  by_cases h3:1114111 < r
  ·have:zag r=0:=by unfold zag;rw [if_pos (by omega)]
   rw [this]
   go_enter Tryz.func66,Tryz.ntmps66
   go_wp2
   go_ret
   exact ⟨rfl,rfl⟩
  by_cases h4:r≤65535
  ·have:zag r=3:=by unfold zag;rw [if_neg (by omega),if_neg (by omega),if_neg (by omega),if_pos h4]
   rw [this]
   go_enter Tryz.func66,Tryz.ntmps66
   go_wp2
   go_ret
   exact ⟨rfl,rfl⟩
  ·have:zag r=4:=by unfold zag;rw [if_neg (by omega),if_neg (by omega),if_neg (by omega),if_neg (by omega)]
   rw [this]
   go_enter Tryz.func66,Tryz.ntmps66
   go_wp2
   go_ret
   exact ⟨rfl,rfl⟩
 by_cases h5:r≤127
 ·have:zag r=1:=by unfold zag;rw [if_neg (by omega),if_pos (by omega)]
  rw [this]
  go_enter Tryz.func66,Tryz.ntmps66
  go_wp2
  go_ret
  exact ⟨rfl,rfl⟩
 by_cases h6:r≤2047
 ·have:zag r=2:=by unfold zag;rw [if_neg (by omega),if_neg (by omega),if_pos (by omega)]
  rw [this]
  go_enter Tryz.func66,Tryz.ntmps66
  go_wp2
  go_ret
  exact ⟨rfl,rfl⟩
 ·have:zag r=3:=by unfold zag;rw [if_neg (by omega),if_neg (by omega),if_neg (by omega),if_pos (by omega)]
  rw [this]
  go_enter Tryz.func66,Tryz.ntmps66
  go_wp2
  go_ret
  exact ⟨rfl,rfl⟩
theorem zj4 (w:World):Calls Tryz.prog 94 #[] w fun e w' =>e=.returned (.agg #[.int .i32 65533,.int .i64 1,.bool true])∧w'=w.alloc (.cells #[.int .i32 65533,.int .i64 1,.bool true] 70):=by
 go_enter Tryz.func94,Tryz.ntmps94
 go_wp2
 exact bodyPost_ret (v := .agg #[.int .i32 65533,.int .i64 1,.bool true]) (by simp [results,Tryz.results94,go_sem]) rfl ⟨rfl,rfl⟩
theorem zeZ (s:ByteArray) (hs:s.size≤maxLen) (w:World):Calls Tryz.prog 93 #[.string s,.string ⟨#[239,191,189]⟩] w fun e w' =>e=.returned (.bool (zeF s))∧w'=w:=by
 unfold maxLen at hs
 by_cases h:3≤s.size
 ·have e:zeF s=((s.extract 0 3).toList == [239,191,189]):=by simp [zeF,h]
  rw [e]
  clear e
  go_enter Tryz.func93,Tryz.ntmps93
  go_wp2
  go_ret
  exact ⟨rfl,rfl⟩
 ·have e:zeF s=false:=by simp [zeF,h]
  rw [e]
  clear e
  go_enter Tryz.func93,Tryz.ntmps93
  go_wp2
  go_ret
  exact ⟨rfl,rfl⟩
abbrev zft (x:Int × Int × Bool):Value := .agg #[.int .i32 x.1,.int .i64 x.2.1,.bool x.2.2]
theorem zha (s:ByteArray) (hs:s.size≤maxLen) (r:Int) (w:World):Calls Tryz.prog 64 #[.string s,.int .i32 r] w fun e w' =>e=.returned (zft (zgd s r))∧Below w.heap.size w w':=by
 by_cases h:r=65533
 ·subst h
  cases hb:zeF s with
  | true =>
   have e:zgd s 65533=(65533,zag 65533,false):=by simp [zgd,hb]
   rw [e]
   clear e
   have H:Hid (zeF s=true):=hb
   clear hb
   go_enter Tryz.func64,Tryz.ntmps64
   go_wp2_with (first | (go_at_call 93;refine (zeZ _ hs _).mono ?_;rintro e w' ⟨rfl,rfl⟩;rw [H.out]) | (go_at_call 66;refine (zbf _ _).mono ?_;rintro e w' ⟨rfl,rfl⟩))
   exact bodyPost_ret (v:=zft (65533,zag 65533,false)) (by simp [results,Tryz.results64,go_sem]) rfl ⟨rfl,(Below.refl _ _).alloc (Nat.le_refl _) _⟩
  | false =>
   have e:zgd s 65533=(65533,1,true):=by simp [zgd,hb]
   rw [e]
   clear e
   have H:Hid (zeF s=false):=hb
   clear hb
   go_enter Tryz.func64,Tryz.ntmps64
   go_wp2_with (first | (go_at_call 93;refine (zeZ _ hs _).mono ?_;rintro e w' ⟨rfl,rfl⟩;rw [H.out]) | (go_at_call 94;refine (zj4 _).mono ?_;rintro e w1 ⟨rfl,rfl⟩))
   exact bodyPost_ret (v:=zft (65533,1,true)) (by simp [results,Tryz.results64,go_sem]) rfl ⟨rfl,((Below.refl _ _).alloc (Nat.le_refl _) _).alloc (by simp) _⟩
 ·have e:zgd s r=(r,zag r,false):=by simp [zgd,h]
  rw [e]
  clear e
  have hb:(r == 65533)=false:=by simpa using h
  go_enter Tryz.func64,Tryz.ntmps64
  go_wp2_with (go_at_call 66;refine (zbf _ _).mono ?_;rintro e w' ⟨rfl,rfl⟩)
  exact bodyPost_ret (v:=zft (r,zag r,false)) (by simp [results,Tryz.results64,go_sem]) rfl ⟨rfl,(Below.refl _ _).alloc (Nat.le_refl _) _⟩
attribute [local go_sem] Oper.semAt_some
set_option maxRecDepth 100000
set_option maxHeartbeats 8000000
structure Hz (p:Prop):Prop where
 out:p
theorem kz {p:Prop} (h:p):Hz p:=⟨h⟩
theorem oz {p:Prop} (h:Hz p):p:=h.out
theorem zbQ {W W':World} (h:Below W.heap.size W W'):W.grownBy W' none:=⟨h.os,h.tape,h.output,h.size,fun k hk _ =>h.block k hk⟩
theorem zee (w:World) (k:Nat) (s:ByteArray) (pos:Nat):w.grownBy (w.iterAt k s pos) (some k) :=
 ⟨rfl,rfl,rfl,by rw [Lib.iterAt_size];exact Nat.le_refl _,fun i _ h =>Lib.iterAt_other w k i s pos (fun e =>h (by rw [e]))⟩
theorem zaA {w:World} {k:Nat} {s:ByteArray} {pos:Nat} (h:w.heap[k]?=some (.stringIter s pos)):w.iterPos k=pos:=by unfold World.iterPos;rw [h]
def KpS (b:Nat) (W W':World):Prop:=W'.cell? ⟨b,0,none⟩=W.cell? ⟨b,0,none⟩∧KeepsWalks W W'
abbrev zjY (s:ByteArray) (i:Nat):Array Value:=#[.int .i64 i,zft (zhM s i)]
theorem za5 {W:World} {a:Addr} {v:Value} (h:W.cell? a=some v):a.block < W.heap.size:=by
 obtain ⟨o,ho,_⟩:=cells_of_cell h
 exact (Array.getElem?_eq_some_iff.1 ho).1
theorem zdq (s:ByteArray):∀ f i,(zaj s f i).length≤f
 | 0,i =>by simp [zaj]
 | f+1,i =>by
  unfold zaj
  split
  ·have:=zdq s f (i+wd s i);simp;omega
  ·simp
theorem zap (s:ByteArray):(zah s).length≤s.size:=zdq s _ _
theorem zp2 (n l Bn:Nat) (hn:1≤n) (s:ByteArray) (hs:s.size≤maxLen) (J Jx:List Nat→World→Prop) (W0:World) (hJ:AbidesFrom W0.heap.size J)
  (hY:∀ pre x W,J pre W→pre.length < s.size→YieldAt Fence.wide (n - 1) Tryz.prog l (zjY s x) W fun e W' =>
   (e=.returned (.bool true)∧J (pre++[x]) W'∧KpS Bn W W')∨(e=.returned (.bool false)∧Jx (pre++[x]) W'))
  (hBn:W0.cell? ⟨Bn,0,none⟩=some (.string s)) (h0:J [] W0) :
  CallsIn Fence.wide n Tryz.prog 63 #[.func (.yield l) #[] #[],.pointer (some ⟨Bn,0,none⟩)] W0 fun e W' =>(∃ v,e=.returned v) ∧
   ((∃ ys,ys=zah s∧J ys W')∨(∃ pre,pre <+: zah s∧Jx pre W')):=by
 unfold maxLen at hs
 refine callsIn_of_wp Tryz.func63 rfl trivial ?_ rfl
 simp only [Tryz.ntmps63,List.size_toArray,List.length_cons,List.length_nil,Nat.reduceAdd,Nat.reduceSub,Array.replicate_succ,Array.replicate_zero,List.push_toArray,List.append_toArray,List.nil_append,List.cons_append]
 have hlt:Bn < W0.heap.size:=za5 hBn
 gi_wp2
 gi_loopw [3] (fun _ wr => ∃ (pre:List Nat) (pos f:Nat),zah s=pre++zaj s f pos∧s.size≤pos+f∧wr.heap[W0.heap.size]?=some (.stringIter s pos)∧wr.cell? ⟨Bn,0,none⟩=some (.string s)∧J pre wr)
  (fun _ wr =>s.size - wr.iterPos W0.heap.size)
 case atStart =>
  exact ⟨[],0,s.size,rfl,by omega,World.iter_heap W0 s 0,((World.grownBy_alloc W0 (.stringIter s 0) none).cell hBn (by simp)),hJ _ _ _ none h0 (World.grownBy_alloc W0 (.stringIter s 0) none) (fun r e =>by cases e)⟩
 case round =>
  obtain ⟨pre,pos,f,hst,hf,hit,hc,hj⟩:=hrel
  have hpl:pre.length+(zaj s f pos).length≤s.size:=by rw [← List.length_append, ← hst];exact zap s
  by_cases hp:pos < s.size
  ·obtain ⟨f,rfl⟩:∃ g,f=g+1:=⟨f - 1,by omega⟩
   rw [zar s f pos hp] at hst hpl
   have hnx:∀ ty,(Instr.next (.pointer (some ⟨W0.heap.size,0,none⟩)) true ty).run Tryz.prog wr=_:=fun ty =>Lib.run_next_any_at wr W0.heap.size s pos ty hit hp
   have hg1:=zee wr W0.heap.size s (pos+(Utf8.decode s pos).2)
   have hj1:=hJ pre _ _ _ hj hg1 (fun r e =>by cases e;exact ⟨Nat.le_refl _,_,hit,rfl⟩)
   have hc1:=hg1.cell hc (by simp;omega)
   have hi1:=Lib.iterAt_heap wr W0.heap.size s pos (pos+(Utf8.decode s pos).2) hit
   have hsz:W0.heap.size < (wr.iterAt W0.heap.size s (pos+(Utf8.decode s pos).2)).heap.size:=(Array.getElem?_eq_some_iff.1 hi1).1
   have HY:=kz hY
   have HJ:=kz hJ
   have HS:=kz hst
   have HP:=kz hit
   have HR:=kz (zkd s pos hp)
   clear hg1 hj hit hst hY hJ h0
   gi_wp2_with fail
   refine ⟨trivial, ?_⟩
   refine (callsIn_wide.2 (zha _ (by rw [ByteArray.size_extract];unfold maxLen;omega) _ _)).mono ?_
   rintro e W2 ⟨rfl,hb2⟩
   rw [show zgd (s.extract pos s.size) ((Utf8.decode s pos).1:Int)=zhM s pos from oz HR]
   have hj2:=(oz HJ) pre _ _ none hj1 (zbQ hb2) (fun r e =>by cases e)
   have hc2:W2.cell? ⟨Bn,0,none⟩=some (.string s):=(hb2.cell (p:=⟨Bn,0,none⟩) (by show Bn < _;omega)).trans hc1
   have hi2:W2.heap[W0.heap.size]?=some (.stringIter s (pos+(Utf8.decode s pos).2)):=(hb2.block _ hsz).trans hi1
   obtain ⟨fn,tmps,assign,body,hy,hR⟩:=(oz HY) pre pos W2 hj2 (by simp at hpl;omega)
   dsimp only [zjY] at hy
   clear hj2 hb2 hnx hj1 hc1 hi1
   gi_wp2
   refine hR.mono ?_
   rintro e W3 (⟨rfl,hJ3,hk3⟩ | ⟨rfl,hJx3⟩)
   ·have hi3:=hk3.2.same _ _ hi2 rfl
    have hc3:=hk3.1.trans hc2
    gi_wp2
    go_roundw
    case rel =>exact ⟨pre++[pos],pos+wd s pos,f,by rw [oz HS];simp,by have:=zbv s pos;omega,hi3,hc3,hJ3⟩
    case measure =>rw [zaA hi3,zaA (oz HP)];have:=zbv s pos;simp only [wd] at this;omega
   ·gi_wp2
    refine bodyPost_ret (results_none rfl _ _ _) rfl ?_
    exact ⟨⟨_,rfl⟩,.inr ⟨pre++[pos],⟨zaj s f (pos+wd s pos),by rw [oz HS];simp⟩,hJx3⟩⟩
  ·have hnx:∀ ty,(Instr.next (.pointer (some ⟨W0.heap.size,0,none⟩)) true ty).run Tryz.prog wr=_:=fun ty =>Lib.run_next_end_at wr W0.heap.size s pos ty hit hp
   rw [zaH s f pos hp,List.append_nil] at hst
   have HS:=kz hst
   clear hst hY hJ h0 hpl
   gi_wp2
   go_end0
   exact ⟨⟨_,rfl⟩,.inl ⟨pre,(oz HS).symm,hj⟩⟩
theorem zjh (n Bn:Nat) (hn:1≤n) (s:ByteArray) (hs:s.size≤maxLen) (w:World) (hc:w.cell? ⟨Bn,0,none⟩=some (.string s)) :
  SeqStopsK Fence.wide n Tryz.prog 63 #[.pointer (some ⟨Bn,0,none⟩)] (zjY s) (KpS Bn) (fun ys =>ys=zah s) (fun pre =>pre <+: zah s) s.size w:=fun l J Jx W hW hJ _ hY h0 =>
 zp2 n l Bn hn s hs J Jx W hJ hY ((hW.cell (p:=⟨Bn,0,none⟩) (za5 hc)).trans hc) h0
theorem zro {b:Nat} {A B C:World} (h:KpS b A B) (k:KpS b B C):KpS b A C:=⟨k.1.trans h.1,h.2.trans k.2⟩
theorem zrp {b:Nat} {w:World} (hb:b < w.heap.size) (W:World) (l:Nat) (o o':Obj) (hl:w.heap.size≤l) (h:W.heap[l]?=some o) (_:o.isCells=false) (hw:o.isWalk=false):KpS b W (W.putObj l o') :=
 ⟨World.cell?_of_block (World.putObj_heap_other (by show b≠l;omega)),KeepsWalks.putObj _ h hw⟩
theorem ziu (s:ByteArray) (w:World):Calls Tryz.prog 41 #[.string s] w fun e w' =>e=.returned (.func (.func 63) #[] #[.pointer (some ⟨w.heap.size,0,none⟩)])∧w'=w.alloc (.cells #[.string s] 9):=by
 go_enter Tryz.func41,Tryz.ntmps41
 go_wp2
 go_ret
 exact ⟨rfl,rfl⟩
attribute [local go_sem] Oper.semAt_some
def Blk (W:World) (B:Nat) (cs:Array Value) (t:TypeId):Prop:=W.heap[B]?=some (.cells cs t (0,0))
theorem Blk.lt {W:World} {B:Nat} {cs:Array Value} {t:TypeId} (h:Blk W B cs t):B < W.heap.size:=(Array.getElem?_eq_some_iff.1 h).1
theorem Blk.cell {W:World} {B:Nat} {cs:Array Value} {t:TypeId} (h:Blk W B cs t) (i:Nat):W.cell? ⟨B,i,none⟩=cs[i]?:=by
 simp [World.cell?,show W.heap[B]?=_ from h]
theorem Blk.frozen {W:World} {B:Nat} {cs:Array Value} {t:TypeId} (h:Blk W B cs t) (i:Nat):W.frozen? ⟨B,i,none⟩=false:=by simp [World.frozen?,show W.heap[B]?=_ from h]
theorem Blk.new (W:World) (cs:Array Value) (t:TypeId):Blk (W.alloc (.cells cs t)) W.heap.size cs t:=World.alloc_heap_new W _
theorem Blk.kept {W W':World} {row:Option Nat} {B:Nat} {cs:Array Value} {t:TypeId} (h:Blk W B cs t) (hg:W.grownBy W' row) (hne:some B≠row):Blk W' B cs t:=(hg.block B h.lt hne).trans h
theorem Blk.alloc {W:World} {B:Nat} {cs:Array Value} {t:TypeId} (h:Blk W B cs t) (o:Obj):Blk (W.alloc o) B cs t:=h.kept (World.grownBy_alloc W o none) (by simp)
theorem Blk.below {W W':World} {N B:Nat} {cs:Array Value} {t:TypeId} (h:Blk W B cs t) (hb:Below N W W') (hlt:B < N):Blk W' B cs t:=(hb.block B hlt).trans h
theorem Blk.own {β : Type} (B:Nat) (cs : β→Array Value) (t:TypeId):Own (fun s W =>Blk W B (cs s) t):=fun s A A' row hs hg hr =>hs.kept hg (fun e =>by
 obtain ⟨o,ho,hc⟩:=hr B e.symm
 rw [show A.heap[B]?=_ from hs] at ho
 cases ho
 simp [Obj.isCells] at hc)
theorem Blk.set {W:World} {B:Nat} {cs:Array Value} {t:TypeId} (h:Blk W B cs t) (i:Nat) (v:Value):Blk (W.setCell ⟨B,i,none⟩ v) B (cs.setIfInBounds i v) t:=by
 show (W.heap.modify B _)[B]?=_
 rw [Array.getElem?_modify,if_pos rfl,show W.heap[B]?=_ from h]
 rfl
theorem Blk.other {W:World} {B B' i:Nat} {cs:Array Value} {t:TypeId} (h:Blk W B cs t) (hne:B≠B') (v:Value):Blk (W.setCell ⟨B',i,none⟩ v) B cs t :=
 (Below.heap_setCell W ⟨B',i,none⟩ v B hne).trans h
theorem Blk.put {W:World} {B l:Nat} {cs:Array Value} {t:TypeId} {o:Obj} (h:Blk W B cs t) (o':Obj) (hl:W.heap[l]?=some o) (ho:o.isCells=false):Blk (W.putObj l o') B cs t :=
 (World.putObj_heap_other (fun e =>by subst e;rw [show W.heap[B]?=_ from h] at hl;cases hl;simp [Obj.isCells] at ho)).trans h
abbrev zge (x:Int × Int × Bool):Array Value:=#[.int .i32 x.1,.int .i64 x.2.1,.bool x.2.2]
end
section
open Go.RowKit Go.Shelf
end
end Go.Proofs.YtmemedpoaocdkaaGreat
