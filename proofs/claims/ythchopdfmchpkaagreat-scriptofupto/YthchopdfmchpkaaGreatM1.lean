/- Texts of this claim, one behind the other. -/
import Derived.Test.YthchopdfmchpkaaGreatRows
import Derived.Below
import Derived.RegionTactic
import Derived.Lib.QuietBelow
import Derived.Tactics
import Derived.Laws.Strings
import Derived.Laws.RangeAny
import Derived.RangeFuncNested
import Derived.RangeFuncBound
import Derived.RangeFuncCalls
import Derived.RangeFuncLeaves
import Derived.Shelf.Abstract
import Derived.Shelf.RegionOpen
import Derived.WalkKit
import Derived.OwnWalkIn
import Derived.TacticsInMore
import Derived.LoopNIn
import Derived.LoopIn
import Derived.Lib.OthersKept
import Derived.ArgAppend
import Derived.Laws.Rows
import Derived.Deep.QuietTactic
import Derived.BigQuiet
import Derived.WalkSmall
import Derived.Laws.Cover4
import Derived.Laws.IdiomStrings
import Derived.Test.YthchopdfmchpkaaGreatShA
namespace Go.Proofs.YthchopdfmchpkaaGreat
set_option linter.unusedVariables false
section
open Go.RowKit
theorem zl {n:Nat} {w:World}:Below n w w:=Below.refl n w
theorem zD {n:Nat}:n≤n:=Nat.le_refl n
theorem zJ {b:Bool} {p:Prop} (h:b=false):b=true→p:=fun e =>absurd (h.symm.trans e) (by decide)
theorem zdA:Tryz.prog.follows .mixedOrders=true:=by kernel_rfl
theorem zkv (fn:Fn) (first cap:Array Value) (w:World):(Instr.makeFunc fn first cap).run Tryz.prog w=.ok (.func fn first cap) w:=rfl
theorem Zp (k:Nat):((k:Nat):Int).toNat=k:=by omega
abbrev Ky:=@wpOp_step
abbrev zP:=@cell_regrown
abbrev Xu:=@below_regrown
abbrev XS:=@bodyPost_ret
abbrev QH:=@Calls.regrown_of
abbrev JG:=@wp_region_quiet_below
abbrev Zq:=@decide_eq_false
abbrev JS:=@decide_eq_true
abbrev YH:=@List.mem_of_getElem?
abbrev qR:=@List.getElem?_eq_getElem
abbrev zeI:=@Array.getElem?_eq_some_iff
abbrev Ze:=@List.getElem?_eq_some_iff
abbrev Zo:=@Option.some.inj
abbrev Zn:=@Nat.zero_le
abbrev zaY:=@Nat.lt_of_lt_of_le
abbrev yB:=@And.intro
end
section
set_option maxRecDepth 100000
set_option maxHeartbeats 8000000
open Go.Lib (decodeN decode_at)
def zI (r:Int):Int :=
 if r < 0∨(55296≤r∧r≤57343)∨1114111 < r then 0 else if r≤127 then 1 else if r≤2047 then 2 else if r≤65535 then 3 else 4
def Zc (s:ByteArray):Bool:=decide (3≤s.size) && ((s.extract 0 3).toList == [239,191,189])
def JK (s:ByteArray) (r:Int):Int × Int × Bool:=if r=65533∧Zc s=false then (65533,1,true) else (r,zI r,false)
abbrev bt (s:ByteArray) (i:Nat):Nat:=(s.get! i).toNat
abbrev rn (s:ByteArray) (i:Nat):Nat:=(Utf8.decode s i).1
abbrev wd (s:ByteArray) (i:Nat):Nat:=(Utf8.decode s i).2
theorem Yr (s:ByteArray) (i:Nat):bt s i < 256:=(s.get! i).toNat_lt
structure zkZ (n b0 b1 b2 b3:Nat) (x:Nat × Nat):Prop where
 pos:1≤x.2
 four:x.2≤4
 room:1≤n→x.2≤n
 c1:2≤x.2→b1 / 64=2
 c2:3≤x.2→b2 / 64=2
 c3:4≤x.2→b3 / 64=2
 lead:2≤x.2→192≤b0
 small:x.1≤1114111
 nosur:¬ (55296≤x.1∧x.1≤57343)
 width:¬ (x.1=65533∧x.2=1)→(x.2=1∧x.1≤127)∨(x.2=2∧128≤x.1∧x.1≤2047)∨(x.2=3∧2048≤x.1∧x.1≤65535)∨(x.2=4∧65536≤x.1)
 one:x.2=1→x.1=65533∧128≤b0∨x.1=b0∧b0 < 128
 repl:x.1=65533→x.2=1∨(x.2=3∧3≤n∧b0=239∧b1=191∧b2=189)
theorem ZL (n b0 b1 b2 b3:Nat) (h0:b0 < 256) (h1:b1 < 256) (h2:b2 < 256) (h3:b3 < 256):zkZ n b0 b1 b2 b3 (decodeN n b0 b1 b2 b3):=by
 unfold decodeN;repeat' split
 all_goals (constructor <;> intros <;> dsimp only at * <;> omega)
theorem zbF (n b3:Nat) (h:3≤n):decodeN n 239 191 189 b3=(65533,3):=by
 unfold decodeN;rw [if_neg (by omega),if_neg (by omega),if_pos (by omega),if_pos (by omega)]
theorem Kt (s:ByteArray) (i:Nat) (h:i < s.size):s.get! i=s.data[i]'h:=by
 show s.data[i]! = _;exact getElem!_pos s.data i h
theorem ziw (s:ByteArray) (i:Nat) (h:s.size≤i):s.get! i=default:=by
 show s.data[i]! = _;exact getElem!_neg s.data i (by show ¬ i < s.data.size;have:s.data.size=s.size:=rfl;omega)
theorem zcL (s:ByteArray) (a b j:Nat) (h:a+j < b) (hb:b≤s.size):(s.extract a b).get! j=s.get! (a+j):=by
 rw [Kt _ _ (by rw [ByteArray.size_extract];omega),Kt _ _ (by omega)];simp
theorem KW (s:ByteArray) (a j:Nat) (ha:a≤s.size):(s.extract a s.size).get! j=s.get! (a+j):=by
 by_cases h:a+j < s.size
 ·exact zcL s a s.size j h zD
 ·rw [ziw _ _ (by rw [ByteArray.size_extract];omega),ziw _ _ (by omega)]
theorem zaQ (s:ByteArray) (a j:Nat) (ha:a≤s.size):Utf8.decode (s.extract a s.size) j=Utf8.decode s (a+j):=by
 rw [decode_at,decode_at,ByteArray.size_extract];simp only [KW s a _ ha,Nat.min_self,Nat.sub_sub,Nat.add_assoc]
theorem JE (s:ByteArray) (i:Nat):zkZ (s.size - i) (bt s i) (bt s (i+1)) (bt s (i+2)) (bt s (i+3)) (Utf8.decode s i):=by
 rw [decode_at];exact ZL _ _ _ _ _ (Yr s i) (Yr s _) (Yr s _) (Yr s _)
theorem Jl (s:ByteArray) (i:Nat):1≤wd s i:=(JE s i).pos
theorem ziN (s:ByteArray) (i:Nat):wd s i≤4:=(JE s i).four
theorem Jk (s:ByteArray) (i:Nat) (h:i < s.size):i+wd s i≤s.size:=by have:=(JE s i).room (by omega);show i+(Utf8.decode s i).2≤_;omega
def ZQ (s:ByteArray) (i:Nat):Int × Int × Bool:=(rn s i,wd s i,decide (rn s i=65533∧wd s i=1))
theorem zft (l:List UInt8) (hl:3≤l.length):(l.extract 0 3 == [239,191,189])=true ↔ l[0].toNat=239∧l[1].toNat=191∧l[2].toNat=189:=by
 match l,hl with
 | a::b::c::r,_ =>simp [List.extract, ← UInt8.toNat_inj]
theorem zgb (t:ByteArray):Zc t=true ↔ 3≤t.size∧bt t 0=239∧bt t 1=191∧bt t 2=189:=by
 unfold Zc;rw [ByteArray.toList_eq,ByteArray.data_extract,Array.toList_extract];by_cases h:3≤t.size
 ·have g0:=Kt t 0 (by omega);have g1:=Kt t 1 (by omega);have g2:=Kt t 2 (by omega);have hl:3≤t.data.toList.length:=by simpa using h
  have e0:t.get! 0=t.data.toList[0]:=by rw [g0];simp
  have e1:t.get! 1=t.data.toList[1]:=by rw [g1];simp
  have e2:t.get! 2=t.data.toList[2]:=by rw [g2];simp
  simp only [bt,e0,e1,e2];rw [← zft t.data.toList hl];simp [h]
 ·simp [h]
theorem KF (s:ByteArray) (i:Nat) (h:¬ (rn s i=65533∧wd s i=1)):zI (rn s i)=wd s i:=by
 have t:=JE s i;have hw:=t.width h;have hs:=t.small;have hn:=t.nosur;unfold zI;simp only [rn,wd];rw [if_neg (by omega)];rcases hw with ⟨e,h1⟩ | ⟨e,h1,h2⟩ | ⟨e,h1,h2⟩ | ⟨e,h1⟩
 ·rw [if_pos (by omega),e];rfl
 ·rw [if_neg (by omega),if_pos (by omega),e];rfl
 ·rw [if_neg (by omega),if_neg (by omega),if_pos (by omega),e];rfl
 ·rw [if_neg (by omega),if_neg (by omega),if_neg (by omega),e];rfl
theorem zc3 (s:ByteArray) (i:Nat) (h:i < s.size):JK (s.extract i s.size) (rn s i)=ZQ s i:=by
 have hb:Zc (s.extract i s.size)=true ↔ 3≤s.size - i∧bt s i=239∧bt s (i+1)=191∧bt s (i+2)=189:=by
  rw [zgb,ByteArray.size_extract,Nat.min_self];simp only [bt,KW s i _ (Nat.le_of_lt h),Nat.add_zero]
 unfold JK ZQ;by_cases hr:rn s i=65533
 ·rcases (JE s i).repl hr with h1 | ⟨h3,hn,c0,c1,c2⟩
  ·have hf:Zc (s.extract i s.size)=false:=by
    cases hx:Zc (s.extract i s.size) with
    | false =>rfl
    | true =>
     obtain ⟨hn,c0,c1,c2⟩:=hb.1 hx;have:=decode_at s i;rw [show (s.get! i).toNat=239 from c0,show (s.get! (i+1)).toNat=191 from c1,show (s.get! (i+2)).toNat=189 from c2,zbF _ _ hn] at this;rw [this] at h1;simp at h1
   rw [if_pos ⟨by rw [hr];rfl,hf⟩];have e2:wd s i=1:=h1;rw [hr,e2];rfl
  ·have ht:Zc (s.extract i s.size)=true:=hb.2 ⟨hn,c0,c1,c2⟩;have e2:wd s i=3:=h3;rw [if_neg (by rw [ht];simp),KF s i (by omega)];simp [e2]
 ·rw [if_neg (by intro hh;apply hr;have:=hh.1;omega),KF s i (by intro hh;exact hr hh.1)];simp [hr]
def zo (s:ByteArray):Nat→Nat→List Nat
 | 0,_ => []
 | f+1,i =>if i < s.size then i::zo s f (i+wd s i) else []
def zh (s:ByteArray):List Nat:=zo s s.size 0
theorem jB (s:ByteArray) (f i:Nat) (h:¬ i < s.size):zo s f i=[]:=by cases f <;> simp [zo,h]
theorem zW (s:ByteArray) (f i:Nat) (h:i < s.size):zo s (f+1) i=i::zo s f (i+wd s i):=by simp [zo,h]
end
section
open Go.RowKit Go.Shelf
theorem qX (r:Int) (w:World):Calls Tryz.prog 107 #[.int .i32 r] w fun e w' =>e=.returned (.int .i64 (zI r))∧w'=w:=by
 by_cases h0:r < 0
 ·have:zI r=0:=by unfold zI;rw [if_pos (by omega)]
  rw [this];go_enter Tryz.func107,Tryz.ntmps107;go_wp2;go_ret;exact ⟨rfl,rfl⟩
 by_cases h1:55296≤r
 ·by_cases h2:r≤57343
  ·have:zI r=0:=by unfold zI;rw [if_pos (by omega)]
   rw [this];go_enter Tryz.func107,Tryz.ntmps107;go_wp2;go_ret;exact ⟨rfl,rfl⟩
  by_cases h3:1114111 < r
  ·have:zI r=0:=by unfold zI;rw [if_pos (by omega)]
   rw [this];go_enter Tryz.func107,Tryz.ntmps107;go_wp2;go_ret;exact ⟨rfl,rfl⟩
  by_cases h4:r≤65535
  ·have:zI r=3:=by unfold zI;rw [if_neg (by omega),if_neg (by omega),if_neg (by omega),if_pos h4]
   rw [this];go_enter Tryz.func107,Tryz.ntmps107;go_wp2;go_ret;exact ⟨rfl,rfl⟩
  ·have:zI r=4:=by unfold zI;rw [if_neg (by omega),if_neg (by omega),if_neg (by omega),if_neg (by omega)]
   rw [this];go_enter Tryz.func107,Tryz.ntmps107;go_wp2;go_ret;exact ⟨rfl,rfl⟩
 by_cases h5:r≤127
 ·have:zI r=1:=by unfold zI;rw [if_neg (by omega),if_pos (by omega)]
  rw [this];go_enter Tryz.func107,Tryz.ntmps107;go_wp2;go_ret;exact ⟨rfl,rfl⟩
 by_cases h6:r≤2047
 ·have:zI r=2:=by unfold zI;rw [if_neg (by omega),if_neg (by omega),if_pos (by omega)]
  rw [this];go_enter Tryz.func107,Tryz.ntmps107;go_wp2;go_ret;exact ⟨rfl,rfl⟩
 ·have:zI r=3:=by unfold zI;rw [if_neg (by omega),if_neg (by omega),if_neg (by omega),if_pos (by omega)]
  rw [this];go_enter Tryz.func107,Tryz.ntmps107;go_wp2;go_ret;exact ⟨rfl,rfl⟩
theorem zcT (w:World):Calls Tryz.prog 106 #[] w fun e w' =>e=.returned (.agg #[.int .i32 65533,.int .i64 1,.bool true])∧w'=w.alloc (.cells #[.int .i32 65533,.int .i64 1,.bool true] 110):=by
 go_enter Tryz.func106,Tryz.ntmps106;go_wp2;exact XS (v := .agg #[.int .i32 65533,.int .i64 1,.bool true]) (by simp [results,Tryz.results106,go_sem]) rfl ⟨rfl,rfl⟩
theorem JA (s:ByteArray) (hs:s.size≤maxLen) (w:World):Calls Tryz.prog 105 #[.string s,.string ⟨#[239,191,189]⟩] w fun e w' =>e=.returned (.bool (Zc s))∧w'=w:=by
 unfold maxLen at hs;by_cases h:3≤s.size
 ·have e:Zc s=((s.extract 0 3).toList == [239,191,189]):=by simp [Zc,h]
  rw [e];clear e;go_enter Tryz.func105,Tryz.ntmps105;go_wp2;go_ret;exact ⟨rfl,rfl⟩
 ·have e:Zc s=false:=by simp [Zc,h]
  rw [e];clear e;go_enter Tryz.func105,Tryz.ntmps105;go_wp2;go_ret;exact ⟨rfl,rfl⟩
abbrev Y9 (x:Int × Int × Bool):Value := .agg #[.int .i32 x.1,.int .i64 x.2.1,.bool x.2.2]
theorem KJ (s:ByteArray) (hs:s.size≤maxLen) (r:Int) (w:World):Calls Tryz.prog 70 #[.string s,.int .i32 r] w fun e w' =>e=.returned (Y9 (JK s r))∧Below w.heap.size w w':=by
 by_cases h:r=65533
 ·subst h;cases hb:Zc s with
  | true =>
   have e:JK s 65533=(65533,zI 65533,false):=by simp [JK,hb]
   rw [e];clear e;have H:Hid (Zc s=true):=hb;clear hb;go_enter Tryz.func70,Tryz.ntmps70;go_wp2_with (first | (go_at_call 105;refine (JA _ hs _).mono ?_;rintro e w' ⟨rfl,rfl⟩;rw [H.out]) | (go_at_call 107;refine (qX _ _).mono ?_;rintro e w' ⟨rfl,rfl⟩))
   exact XS (v:=Y9 (65533,zI 65533,false)) (by simp [results,Tryz.results70,go_sem]) rfl ⟨rfl,zl.alloc zD _⟩
  | false =>
   have e:JK s 65533=(65533,1,true):=by simp [JK,hb]
   rw [e];clear e;have H:Hid (Zc s=false):=hb;clear hb;go_enter Tryz.func70,Tryz.ntmps70;go_wp2_with (first | (go_at_call 105;refine (JA _ hs _).mono ?_;rintro e w' ⟨rfl,rfl⟩;rw [H.out]) | (go_at_call 106;refine (zcT _).mono ?_;rintro e w1 ⟨rfl,rfl⟩))
   exact XS (v:=Y9 (65533,1,true)) (by simp [results,Tryz.results70,go_sem]) rfl ⟨rfl,(zl.alloc zD _).alloc (by simp) _⟩
 ·have e:JK s r=(r,zI r,false):=by simp [JK,h]
  rw [e];clear e;have hb:(r == 65533)=false:=by simpa using h
  go_enter Tryz.func70,Tryz.ntmps70;go_wp2_with (go_at_call 107;refine (qX _ _).mono ?_;rintro e w' ⟨rfl,rfl⟩)
  exact XS (v:=Y9 (r,zI r,false)) (by simp [results,Tryz.results70,go_sem]) rfl ⟨rfl,zl.alloc zD _⟩
attribute [local go_sem] Oper.semAt_some
set_option maxRecDepth 100000
set_option maxHeartbeats 8000000
structure Hz (p:Prop):Prop where
 out:p
theorem kz {p:Prop} (h:p):Hz p:=⟨h⟩
theorem oz {p:Prop} (h:Hz p):p:=h.out
theorem XI {W W':World} (h:Below W.heap.size W W'):W.grownBy W' none:=⟨h.os,h.tape,h.output,h.size,fun k hk _ =>h.block k hk⟩
theorem J2 (w:World) (k:Nat) (s:ByteArray) (pos:Nat):w.grownBy (w.iterAt k s pos) (some k) :=
 ⟨rfl,rfl,rfl,by rw [Lib.iterAt_size];exact zD,fun i _ h =>Lib.iterAt_other w k i s pos (fun e =>h (by rw [e]))⟩
theorem XY {w:World} {k:Nat} {s:ByteArray} {pos:Nat} (h:w.heap[k]?=some (.stringIter s pos)):w.iterPos k=pos:=by unfold World.iterPos;rw [h]
def KpS (b:Nat) (W W':World):Prop:=W'.cell? ⟨b,0,none⟩=W.cell? ⟨b,0,none⟩∧KeepsWalks W W'
abbrev za0 (s:ByteArray) (i:Nat):Array Value:=#[.int .i64 i,Y9 (ZQ s i)]
theorem YG {W:World} {a:Addr} {v:Value} (h:W.cell? a=some v):a.block < W.heap.size:=by
 obtain ⟨o,ho,_⟩:=cells_of_cell h;exact (zeI.1 ho).1
theorem YL (s:ByteArray):∀ f i,(zo s f i).length≤f
 | 0,i =>by simp [zo]
 | f+1,i =>by
  unfold zo;split
  ·have:=YL s f (i+wd s i);simp;omega
  ·simp
theorem zX (s:ByteArray):(zh s).length≤s.size:=YL s _ _
theorem zjn (n l Bn:Nat) (hn:1≤n) (s:ByteArray) (hs:s.size≤maxLen) (J Jx:List Nat→World→Prop) (W0:World) (hJ:AbidesFrom W0.heap.size J)
  (hY:∀ pre x W,J pre W→pre.length < s.size→YieldAt Fence.wide (n - 1) Tryz.prog l (za0 s x) W fun e W' =>
   (e=.returned (.bool true)∧J (pre++[x]) W'∧KpS Bn W W')∨(e=.returned (.bool false)∧Jx (pre++[x]) W'))
  (hBn:W0.cell? ⟨Bn,0,none⟩=some (.string s)) (h0:J [] W0) :
  CallsIn Fence.wide n Tryz.prog 69 #[.func (.yield l) #[] #[],.pointer (some ⟨Bn,0,none⟩)] W0 fun e W' =>(∃ v,e=.returned v) ∧
   ((∃ ys,ys=zh s∧J ys W')∨(∃ pre,pre <+: zh s∧Jx pre W')):=by
 unfold maxLen at hs;refine callsIn_of_wp Tryz.func69 rfl trivial ?_ rfl;simp only [Tryz.ntmps69,List.size_toArray,List.length_cons,List.length_nil,Nat.reduceAdd,Nat.reduceSub,Array.replicate_succ,Array.replicate_zero,List.push_toArray,List.append_toArray,List.nil_append,List.cons_append];have hlt:Bn < W0.heap.size:=YG hBn
 gi_wp2
 gi_loopw [3] (fun _ wr => ∃ (pre:List Nat) (pos f:Nat),zh s=pre++zo s f pos∧s.size≤pos+f∧wr.heap[W0.heap.size]?=some (.stringIter s pos)∧wr.cell? ⟨Bn,0,none⟩=some (.string s)∧J pre wr)
  (fun _ wr =>s.size - wr.iterPos W0.heap.size)
 case atStart =>
  exact ⟨[],0,s.size,rfl,by omega,World.iter_heap W0 s 0,((World.grownBy_alloc W0 (.stringIter s 0) none).cell hBn (by simp)),hJ _ _ _ none h0 (World.grownBy_alloc W0 (.stringIter s 0) none) (fun r e =>by cases e)⟩
 case round =>
  obtain ⟨pre,pos,f,hst,hf,hit,hc,hj⟩:=hrel;have hpl:pre.length+(zo s f pos).length≤s.size:=by rw [← List.length_append, ← hst];exact zX s
  by_cases hp:pos < s.size
  ·obtain ⟨f,rfl⟩:∃ g,f=g+1:=⟨f - 1,by omega⟩;rw [zW s f pos hp] at hst hpl;have hnx:∀ ty,(Instr.next (.pointer (some ⟨W0.heap.size,0,none⟩)) true ty).run Tryz.prog wr=_:=fun ty =>Lib.run_next_any_at wr W0.heap.size s pos ty hit hp
   have hg1:=J2 wr W0.heap.size s (pos+(Utf8.decode s pos).2);have hj1:=hJ pre _ _ _ hj hg1 (fun r e =>by cases e;exact ⟨zD,_,hit,rfl⟩);have hc1:=hg1.cell hc (by simp;omega);have hi1:=Lib.iterAt_heap wr W0.heap.size s pos (pos+(Utf8.decode s pos).2) hit;have hsz:W0.heap.size < (wr.iterAt W0.heap.size s (pos+(Utf8.decode s pos).2)).heap.size:=(zeI.1 hi1).1;have HY:=kz hY;have HJ:=kz hJ;have HS:=kz hst;have HP:=kz hit;have HR:=kz (zc3 s pos hp);clear hg1 hj hit hst hY hJ h0
   gi_wp2_with fail
   refine ⟨trivial, ?_⟩;refine (callsIn_wide.2 (KJ _ (by rw [ByteArray.size_extract];unfold maxLen;omega) _ _)).mono ?_;rintro e W2 ⟨rfl,hb2⟩;rw [show JK (s.extract pos s.size) ((Utf8.decode s pos).1:Int)=ZQ s pos from oz HR];have hj2:=(oz HJ) pre _ _ none hj1 (XI hb2) (fun r e =>by cases e);have hc2:W2.cell? ⟨Bn,0,none⟩=some (.string s):=(hb2.cell (p:=⟨Bn,0,none⟩) (by show Bn < _;omega)).trans hc1;have hi2:W2.heap[W0.heap.size]?=some (.stringIter s (pos+(Utf8.decode s pos).2)):=(hb2.block _ hsz).trans hi1;obtain ⟨fn,tmps,assign,body,hy,hR⟩:=(oz HY) pre pos W2 hj2 (by simp at hpl;omega);dsimp only [za0] at hy;clear hj2 hb2 hnx hj1 hc1 hi1
   gi_wp2
   refine hR.mono ?_;rintro e W3 (⟨rfl,hJ3,hk3⟩ | ⟨rfl,hJx3⟩)
   ·have hi3:=hk3.2.same _ _ hi2 rfl;have hc3:=hk3.1.trans hc2
    gi_wp2
    go_roundw
    case rel =>exact ⟨pre++[pos],pos+wd s pos,f,by rw [oz HS];simp,by have:=Jl s pos;omega,hi3,hc3,hJ3⟩
    case measure =>rw [XY hi3,XY (oz HP)];have:=Jl s pos;simp only [wd] at this;omega
   ·gi_wp2
    refine XS (results_none rfl _ _ _) rfl ?_;exact ⟨⟨_,rfl⟩,.inr ⟨pre++[pos],⟨zo s f (pos+wd s pos),by rw [oz HS];simp⟩,hJx3⟩⟩
  ·have hnx:∀ ty,(Instr.next (.pointer (some ⟨W0.heap.size,0,none⟩)) true ty).run Tryz.prog wr=_:=fun ty =>Lib.run_next_end_at wr W0.heap.size s pos ty hit hp
   rw [jB s f pos hp,List.append_nil] at hst;have HS:=kz hst;clear hst hY hJ h0 hpl
   gi_wp2
   go_end0
   exact ⟨⟨_,rfl⟩,.inl ⟨pre,(oz HS).symm,hj⟩⟩
theorem ZU (n Bn:Nat) (hn:1≤n) (s:ByteArray) (hs:s.size≤maxLen) (w:World) (hc:w.cell? ⟨Bn,0,none⟩=some (.string s)) :
  SeqStopsK Fence.wide n Tryz.prog 69 #[.pointer (some ⟨Bn,0,none⟩)] (za0 s) (KpS Bn) (fun ys =>ys=zh s) (fun pre =>pre <+: zh s) s.size w:=fun l J Jx W hW hJ _ hY h0 =>
 zjn n l Bn hn s hs J Jx W hJ hY ((hW.cell (p:=⟨Bn,0,none⟩) (YG hc)).trans hc) h0
theorem ziK {b:Nat} {A B C:World} (h:KpS b A B) (k:KpS b B C):KpS b A C:=⟨k.1.trans h.1,h.2.trans k.2⟩
theorem ziL {b:Nat} {w:World} (hb:b < w.heap.size) (W:World) (l:Nat) (o o':Obj) (hl:w.heap.size≤l) (h:W.heap[l]?=some o) (_:o.isCells=false) (hw:o.isWalk=false):KpS b W (W.putObj l o') :=
 ⟨World.cell?_of_block (World.putObj_heap_other (by show b≠l;omega)),KeepsWalks.putObj _ h hw⟩
theorem Z9 (s:ByteArray) (w:World):Calls Tryz.prog 41 #[.string s] w fun e w' =>e=.returned (.func (.func 69) #[] #[.pointer (some ⟨w.heap.size,0,none⟩)])∧w'=w.alloc (.cells #[.string s] 9):=by
 go_enter Tryz.func41,Tryz.ntmps41;go_wp2;go_ret;exact ⟨rfl,rfl⟩
attribute [local go_sem] Oper.semAt_some
def Blk (W:World) (B:Nat) (cs:Array Value) (t:TypeId):Prop:=W.heap[B]?=some (.cells cs t (0,0))
theorem Blk.lt {W:World} {B:Nat} {cs:Array Value} {t:TypeId} (h:Blk W B cs t):B < W.heap.size:=(zeI.1 h).1
theorem Blk.cell {W:World} {B:Nat} {cs:Array Value} {t:TypeId} (h:Blk W B cs t) (i:Nat):W.cell? ⟨B,i,none⟩=cs[i]?:=by
 simp [World.cell?,show W.heap[B]?=_ from h]
theorem Blk.frozen {W:World} {B:Nat} {cs:Array Value} {t:TypeId} (h:Blk W B cs t) (i:Nat):W.frozen? ⟨B,i,none⟩=false:=by simp [World.frozen?,show W.heap[B]?=_ from h]
theorem Blk.new (W:World) (cs:Array Value) (t:TypeId):Blk (W.alloc (.cells cs t)) W.heap.size cs t:=World.alloc_heap_new W _
theorem Blk.kept {W W':World} {row:Option Nat} {B:Nat} {cs:Array Value} {t:TypeId} (h:Blk W B cs t) (hg:W.grownBy W' row) (hne:some B≠row):Blk W' B cs t:=(hg.block B h.lt hne).trans h
theorem Blk.alloc {W:World} {B:Nat} {cs:Array Value} {t:TypeId} (h:Blk W B cs t) (o:Obj):Blk (W.alloc o) B cs t:=h.kept (World.grownBy_alloc W o none) (by simp)
theorem Blk.below {W W':World} {N B:Nat} {cs:Array Value} {t:TypeId} (h:Blk W B cs t) (hb:Below N W W') (hlt:B < N):Blk W' B cs t:=(hb.block B hlt).trans h
theorem Blk.own {β : Type} (B:Nat) (cs : β→Array Value) (t:TypeId):Own (fun s W =>Blk W B (cs s) t):=fun s A A' row hs hg hr =>hs.kept hg (fun e =>by
 obtain ⟨o,ho,hc⟩:=hr B e.symm;rw [show A.heap[B]?=_ from hs] at ho;cases ho
 simp [Obj.isCells] at hc)
theorem Blk.set {W:World} {B:Nat} {cs:Array Value} {t:TypeId} (h:Blk W B cs t) (i:Nat) (v:Value):Blk (W.setCell ⟨B,i,none⟩ v) B (cs.setIfInBounds i v) t:=by
 show (W.heap.modify B _)[B]?=_;rw [Array.getElem?_modify,if_pos rfl,show W.heap[B]?=_ from h];rfl
theorem Blk.other {W:World} {B B' i:Nat} {cs:Array Value} {t:TypeId} (h:Blk W B cs t) (hne:B≠B') (v:Value):Blk (W.setCell ⟨B',i,none⟩ v) B cs t :=
 (Below.heap_setCell W ⟨B',i,none⟩ v B hne).trans h
theorem Blk.put {W:World} {B l:Nat} {cs:Array Value} {t:TypeId} {o:Obj} (h:Blk W B cs t) (o':Obj) (hl:W.heap[l]?=some o) (ho:o.isCells=false):Blk (W.putObj l o') B cs t :=
 (World.putObj_heap_other (fun e =>by subst e;rw [show W.heap[B]?=_ from h] at hl;cases hl;simp [Obj.isCells] at ho)).trans h
abbrev Zf (x:Int × Int × Bool):Array Value:=#[.int .i32 x.1,.int .i64 x.2.1,.bool x.2.2]
end
section
open Go.RowKit Go.Shelf
def SlAt (W:World) (lo:Nat) (E:TypeId) (v:Value) (us:List Value):Prop :=
 (v=.slice none 0 0∧us=[])∨∃ g o cap cur,v=.slice (some ⟨g,o,none⟩) us.length cap∧lo≤g∧Blk W g cur E∧us.length≤cap∧cap≤maxLen∧o+cap≤cur.size∧∀ j u,us[j]?=some u→cur[o+j]?=some u
theorem SlAt.nil (W:World) (lo:Nat) (E:TypeId):SlAt W lo E (.slice none 0 0) [] := .inl ⟨rfl,rfl⟩
theorem SlAt.kept {W W':World} {row:Option Nat} {lo:Nat} {E:TypeId} {v:Value} {us:List Value} (h:SlAt W lo E v us) (hg:W.grownBy W' row) (hne:v.ownBlock=none∨v.ownBlock≠row):SlAt W' lo E v us:=by
 rcases h with h | ⟨g,o,cap,cur,rfl,hl,hb,h1,h2,h3,h4⟩
 ·exact .inl h
 ·refine .inr ⟨g,o,cap,cur,rfl,hl,hb.kept hg ?_,h1,h2,h3,h4⟩;rcases hne with hne | hne
  ·simp [Value.ownBlock] at hne
  ·simpa [Value.ownBlock] using hne
theorem SlAt.alloc {W:World} {lo:Nat} {E:TypeId} {v:Value} {us:List Value} (h:SlAt W lo E v us) (o:Obj):SlAt (W.alloc o) lo E v us :=
 h.kept (World.grownBy_alloc W o none) (by cases hv:v.ownBlock <;> simp)
theorem SlAt.not_row {W:World} {lo:Nat} {E t:TypeId} {v:Value} {us:List Value} {B:Nat} {cs:Array Value} (h:SlAt W lo E v us) (hb:Blk W B cs t) (hne:t≠E):v.ownBlock=none∨v.ownBlock≠some B:=by
 rcases h with ⟨rfl,_⟩ | ⟨g,o,cap,cur,rfl,hl,hg,_⟩
 ·exact .inl rfl
 ·refine .inr fun e =>?_
  obtain rfl:g=B:=by simpa [Value.ownBlock] using e
  have:=(show W.heap[g]?=_ from hg).symm.trans hb;simp at this;exact hne this.2.symm
theorem SlAt.blk_ne {W:World} {lo:Nat} {E t:TypeId} {v:Value} {us:List Value} {B:Nat} {cs:Array Value} (h:SlAt W lo E v us) (hb:Blk W B cs t) (hne:t≠E):some B≠v.ownBlock:=by
 rcases h.not_row hb hne with e | e
 ·rw [e];simp
 ·exact fun x =>e x.symm
theorem SlAt.set {W:World} {lo:Nat} {E t:TypeId} {v:Value} {us:List Value} {B i:Nat} {cs:Array Value} (h:SlAt W lo E v us) (hb:Blk W B cs t) (hne:t≠E) (u:Value):SlAt (W.setCell ⟨B,i,none⟩ u) lo E v us :=
 h.kept (row:=some B) ⟨rfl,rfl,rfl,by simp,fun k _ hk =>Below.heap_setCell _ _ _ k (fun e =>hk (by rw [e]))⟩ (h.not_row hb hne)
theorem SlAt.lt {W:World} {lo:Nat} {E:TypeId} {v:Value} {us:List Value} (h:SlAt W lo E v us):∀ g,v.ownBlock=some g→lo≤g∧g < W.heap.size:=by
 rcases h with ⟨rfl,_⟩ | ⟨g,o,cap,cur,rfl,hl,hg,_⟩
 ·simp [Value.ownBlock]
 ·intro g' e;obtain rfl:g=g':=by simpa [Value.ownBlock] using e
  exact ⟨hl,hg.lt⟩
theorem SlAt.form {W:World} {lo:Nat} {E:TypeId} {v:Value} {us:List Value} (h:SlAt W lo E v us) (h0:0 < us.length) :
  ∃ g o cap,v=.slice (some ⟨g,o,none⟩) us.length cap∧us.length≤cap∧cap≤maxLen∧∀ j u,us[j]?=some u→W.cell? ⟨g,o+j,none⟩=some u:=by
 rcases h with ⟨rfl,rfl⟩ | ⟨g,o,cap,cur,rfl,hl,hg,h1,h2,h3,h4⟩
 ·simp at h0
 ·exact ⟨g,o,cap,rfl,h1,h2,fun j u hj =>(hg.cell _).trans (h4 j u hj)⟩
theorem SlAt.tail {W:World} {lo:Nat} {E:TypeId} {g o n cap:Nat} {u:Value} {us:List Value} (h:SlAt W lo E (.slice (some ⟨g,o,none⟩) n cap) (u::us)):SlAt W lo E (.slice (some ⟨g,o+1,none⟩) us.length (cap - 1)) us:=by
 rcases h with ⟨h,_⟩ | ⟨g',o',cap',cur,e,hl,hg,h1,h2,h3,h4⟩
 ·cases h
 ·cases e
  simp only [List.length_cons] at h1;refine .inr ⟨g,o+1,cap - 1,cur,rfl,hl,hg,by omega,by omega,by omega,fun j x hj =>?_⟩;have:=h4 (j+1) x (by simpa using hj)
  rwa [show o+1+j=o+(j+1) by omega]
theorem zhx {W:World} {lo:Nat} {E:TypeId} {v:Value} {n:Nat} {us:List Value} (h:W.ownsRow lo E 1 v n us):SlAt W lo E v us:=by
 have hn:=h.1;rw [Nat.mul_one] at hn;rcases h.2 with ⟨rfl,h0⟩ | ⟨g,cap,cur,rfl,hb,hg,h1,h2,h3,h4⟩
 ·exact .inl ⟨rfl,List.eq_nil_of_length_eq_zero (by omega)⟩
 ·refine .inr ⟨g,0,cap,cur,by rw [hn],hb,hg,by omega,h2,by omega,fun j u hj =>?_⟩;have hl:=(Ze.1 hj).1;rw [← h4,List.getElem?_take,if_pos (by omega)] at hj;simpa using hj
theorem Kk {a b:Option Nat} (h:a=none∨a≠b):b=none∨b≠a:=by
 cases b with
 | none =>exact .inl rfl
 | some x =>
  refine .inr fun e =>?_
  rcases h with h | h
  ·rw [h] at e;cases e
  ·exact h e.symm
theorem zV (W:World) (a:Addr) (v:Value):W.grownBy (W.setCell a v) (some a.block) :=
 ⟨rfl,rfl,rfl,by simp,fun k _ hk =>Below.heap_setCell _ _ _ k (fun e =>hk (by rw [e]))⟩
theorem Xb (g o j:Nat):(⟨g,o,none⟩:Addr).add j=⟨g,o+j,none⟩:=by unfold Addr.add;split <;> simp_all
def zii:List Value→Nat→Value
 | [],_ =>undef
 | v::_,0 =>v
 | _::L,k+1 =>zii L k
theorem zq {ds:List Deferred} {L:List Value} {G:(Nat→Value)→List Value} (h:L=G (zii L)):∃ U,({ tmps:=L.toArray,defers:=ds }:Act) = { tmps:=(G U).toArray,defers:=ds }:=⟨_,by rw [← h]⟩
theorem zaA {P:Program} (W:World) (lo:Nat) (t ty e:TypeId) (i:TypeInfo) (z:Value) (bytes:Nat) (ht:P.underlying t=some (.slice e)) (hi:P.info? e=some i) (hz:i.zero=some z)
  (hsize:i.size=1) (hby:i.bytes=bytes) (hzs:z.cells.size=1) (v:Value) (us:List Value) (h:SlAt W lo e v us) (ad:Addr) (c:Nat) (u:Value) (hu:W.cell? ad=some u) (h1:u.oneCell'=true)
  (h63:us.length+1≤maxLen) (hbytes:(us.length+1)*bytes≤140737488355328) (hlo:lo≤W.heap.size) :
  ∃ g o cap W',(Builtin.append_ #[t,t] ty #[v,.slice (some ad) 1 c]).run P W=.ok (.slice (some ⟨g,o,none⟩) (us.length+1) cap) W'∧SlAt W' lo e (.slice (some ⟨g,o,none⟩) (us.length+1) cap) (us++[u])∧W.grownBy W' v.ownBlock∧(v.ownBlock=some g∨W.heap.size≤g):=by
 have hnews:∀ j x,[u][j]?=some x→W.cell? (ad.add j)=some x:=by
  intro j x hj;obtain ⟨b,off,sp⟩:=ad;have hs:=World.cell?_spot hu;simp only at hs;subst hs;rw [Xb];have:j=0:=by have:=(Ze.1 hj).1;simpa using this
  subst this;simp at hj;rw [← hj];exact hu
 have fin:∀ v' W',W'.ownsRow W.heap.size e 1 v' (us.length+1) (us++[u])→∃ g o cap,v'=.slice (some ⟨g,o,none⟩) (us.length+1) cap∧SlAt W' lo e v' (us++[u])∧W.heap.size≤g:=by
  intro v' W' r1;have hs:=zhx r1;rcases r1.2 with ⟨_,h0⟩ | ⟨g,cap,cur,rfl,hb,hg,q1,q2,q3,q4⟩
  ·omega
  ·refine ⟨g,0,cap,rfl, ?_,hb⟩;rcases hs with ⟨e,_⟩ | ⟨g',o',cap',cur',e,hl,rest⟩
   ·cases e
   ·exact .inr ⟨g',o',cap',cur',e,by omega,rest⟩
 rcases h with ⟨rfl,rfl⟩ | ⟨g,o,cap,cur,rfl,hl,hb,k1,k2,k3,k4⟩
 ·obtain ⟨v',w',hr,r1,r2,_⟩:=run_append_own (P:=P) W W.heap.size t ty e i z 1 bytes ht hi hz hsize hby hzs (by omega) (.slice none 0 0) 0 [] (World.ownsRow_nil W _ e 1) ad 1 c [u] (by simp) hnews (by simpa using h1) (by simpa using h63) (by simpa using hbytes) zD;obtain ⟨g,o,cap,rfl,hsl,hge⟩:=fin v' w' (by simpa using r1);exact ⟨g,o,cap,w',hr,hsl,r2,.inr hge⟩
 ·have holds:∀ j x,us[j]?=some x→W.cell? ((⟨g,o,none⟩:Addr).add j)=some x:=fun j x hj =>by
   rw [Xb];exact (hb.cell _).trans (k4 j x hj)
  by_cases hroom:us.length+1≤cap
  ·have hr:=run_append_room_cells (P:=P) W t ty e i ht hi g o us.length cap ad 1 c [u] (by simp [hsize]) hnews (by simpa using h1) hroom
    (fun j hj =>by
     simp at hj;subst hj;rw [hsize,Nat.mul_one,Nat.add_zero,hb.cell,Array.getElem?_eq_getElem (by omega)];rfl)
    (fun j hj =>hb.frozen _)
   rw [hsize,Nat.mul_one] at hr;refine ⟨g,o,cap,_,hr,.inr ⟨g,o,cap,cur.setIfInBounds (o+us.length) u,by simp,hl,hb.set _ u,by simpa using hroom,k2,by simpa using k3,fun j x hj =>?_⟩, ?_,.inl rfl⟩
   ·by_cases hj':j < us.length
    ·rw [List.getElem?_append_left hj'] at hj;rw [Array.getElem?_setIfInBounds_ne (by omega)];exact k4 j x hj
    ·have hlt:=(Ze.1 hj).1;simp at hlt;have e:j=us.length:=by omega
     subst e;simp at hj;rw [Array.getElem?_setIfInBounds_self_of_lt (by omega),hj]
   ·exact ⟨rfl,rfl,rfl,by simp [World.setCells],fun k _ hk =>Below.heap_setCell _ _ _ k (fun e =>hk (by rw [e];rfl))⟩
  ·obtain ⟨v',w',hr,r1,r2⟩:=run_append_arg_grows (P:=P) W t ty e i z 1 bytes ht hi hz hsize hby hzs (by omega) ⟨g,o,none⟩ us.length cap us (by simp) holds ad 1 c [u] (by simp) hnews (by omega) h63 hbytes;obtain ⟨g',o',cap',rfl,hsl,hge⟩:=fin v' w' r1;exact ⟨g',o',cap',w',hr,hsl,⟨r2.os,r2.tape,r2.output,r2.size,fun k hk _ =>r2.block k hk (by simp)⟩,.inr hge⟩
section
variable {P:Program} (w:World)
theorem JT {o:Oper} {a:Act} {K:Act→World→Prop} {Q:Exit→Act→World→Prop} (s x:Operand) (t:TypeId)
  (ho:o.op=.call { callee := .builtin .append,args:=#[s,x],argTypes:=#[t,t] }) (lo:Nat) (e:TypeId) (i:TypeInfo) (z:Value) (bytes:Nat) (ht:P.underlying t=some (.slice e)) (hi:P.info? e=some i) (hz:i.zero=some z)
  (hsize:i.size=1) (hby:i.bytes=bytes) (hzs:z.cells.size=1) (v:Value) (us:List Value) (hs:a.eval s=v) (hsl:SlAt w lo e v us) (ad:Addr) (c:Nat) (u:Value) (hx:a.eval x=.slice (some ad) 1 c) (hu:w.cell? ad=some u) (h1:u.oneCell'=true)
  (h63:us.length+1≤maxLen) (hbytes:(us.length+1)*bytes≤140737488355328) (hlo:lo≤w.heap.size)
  (h:∀ g o' cap w',SlAt w' lo e (.slice (some ⟨g,o',none⟩) (us.length+1) cap) (us++[u])→w.grownBy w' v.ownBlock→(v.ownBlock=some g∨w.heap.size≤g)→K (a.put o.dst (.slice (some ⟨g,o',none⟩) (us.length+1) cap)) w'):o.wp P a w K Q:=by
 obtain ⟨g,o',cap,w',hr,h2,h3,h4⟩:=zaA (P:=P) w lo t o.type e i z bytes ht hi hz hsize hby hzs v us hsl ad c u hu h1 h63 hbytes hlo;unfold Oper.wp execOp;simp only [ho,resolve,invoke,builtin,Sem.run_bind,Sem.run_pure,Result.andThen_ok,List.map_toArray,List.map_cons,List.map_nil,hs,hx,hr];exact h g o' cap w' h2 h3 h4
theorem Y4 {ops:Array Oper} {rest:List Oper} {o:Oper} {a:Act} {Q:Exit→Act→World→Prop} (hgd:o.guard=none) (s x:Operand) (t:TypeId)
  (ho:o.op=.call { callee := .builtin .append,args:=#[s,x],argTypes:=#[t,t] }) (lo:Nat) (e:TypeId) (i:TypeInfo) (z:Value) (bytes:Nat) (ht:P.underlying t=some (.slice e)) (hi:P.info? e=some i) (hz:i.zero=some z)
  (hsize:i.size=1) (hby:i.bytes=bytes) (hzs:z.cells.size=1) (v:Value) (us:List Value) (hs:a.eval s=v) (hsl:SlAt w lo e v us) (ad:Addr) (c:Nat) (u:Value) (hx:a.eval x=.slice (some ad) 1 c) (hu:w.cell? ad=some u) (h1:u.oneCell'=true)
  (h63:us.length+1≤maxLen) (hbytes:(us.length+1)*bytes≤140737488355328) (hlo:lo≤w.heap.size)
  (h:∀ g o' cap w',SlAt w' lo e (.slice (some ⟨g,o',none⟩) (us.length+1) cap) (us++[u])→w.grownBy w' v.ownBlock→(v.ownBlock=some g∨w.heap.size≤g)→wpList P ops Q rest (a.put o.dst (.slice (some ⟨g,o',none⟩) (us.length+1) cap)) w'):wpList P ops Q (o::rest) a w :=
 wpList_plain hgd fun _ hK =>JT w s x t ho lo e i z bytes ht hi hz hsize hby hzs v us hs hsl ad c u hx hu h1 h63 hbytes hlo fun g o' cap w' h2 h3 h4 =>hK _ _ (h g o' cap w' h2 h3 h4)
theorem ZS {ops:Array Oper} {o:Oper} {a:Act} {K:Act→World→Prop} {Q:Exit→Act→World→Prop} {E:Prop} (hgd:o.guard=none) (s x:Operand) (t:TypeId)
  (ho:o.op=.call { callee := .builtin .append,args:=#[s,x],argTypes:=#[t,t] }) (lo:Nat) (e:TypeId) (i:TypeInfo) (z:Value) (bytes:Nat) (ht:P.underlying t=some (.slice e)) (hi:P.info? e=some i) (hz:i.zero=some z)
  (hsize:i.size=1) (hby:i.bytes=bytes) (hzs:z.cells.size=1) (v:Value) (us:List Value) (hs:a.eval s=v) (hsl:SlAt w lo e v us) (ad:Addr) (c:Nat) (u:Value) (hx:a.eval x=.slice (some ad) 1 c) (hu:w.cell? ad=some u) (h1:u.oneCell'=true)
  (h63:us.length+1≤maxLen) (hbytes:(us.length+1)*bytes≤140737488355328) (hlo:lo≤w.heap.size)
  (h:∀ g o' cap w',SlAt w' lo e (.slice (some ⟨g,o',none⟩) (us.length+1) cap) (us++[u])→w.grownBy w' v.ownBlock→(v.ownBlock=some g∨w.heap.size≤g)→K (a.put o.dst (.slice (some ⟨g,o',none⟩) (us.length+1) cap)) w') :
  if Region.wanted o (yielded ops a.tmps)=true then Oper.wp P o a w K Q else E:=by
 have hw:Region.wanted o (yielded ops a.tmps)=true:=by simp [Region.wanted,hgd]
 rw [if_pos hw];exact JT w s x t ho lo e i z bytes ht hi hz hsize hby hzs v us hs hsl ad c u hx hu h1 h63 hbytes hlo h
theorem Y6 {ops:Array Oper} {o:Oper} {a:Act} {K:Act→World→Prop} {Q:Exit→Act→World→Prop} {E:Prop} (hgd:o.guard=none) (s x:Operand) (t:TypeId)
  (ho:o.op=.call { callee := .builtin .append,args:=#[s,x],argTypes:=#[t,t] }) (e:TypeId) (i:TypeInfo) (ht:P.underlying t=some (.slice e)) (hi:P.info? e=some i) (hs:a.eval s=.slice none 0 0) (b:Option Addr) (n c:Nat) (hn:n=0) (hx:a.eval x=.slice b n c)
  (h:K (a.put o.dst (.slice none 0 0)) w):if Region.wanted o (yielded ops a.tmps)=true then Oper.wp P o a w K Q else E:=by
 have hw:Region.wanted o (yielded ops a.tmps)=true:=by simp [Region.wanted,hgd]
 rw [if_pos hw];subst hn;have hr:(Builtin.append_ #[t,t] o.type #[.slice none 0 0,.slice b 0 c]).run P w=.ok (.slice none 0 0) w:=by
  cases b <;> simp [Builtin.append_,run_underlying ht,sizeOf,typeInfo,hi,Builtin.lenOf,Builtin.firstCells,loadCells,loadCellsFrom]
 unfold Oper.wp execOp;simp only [ho,resolve,invoke,builtin,Sem.run_bind,Sem.run_pure,Result.andThen_ok,List.map_toArray,List.map_cons,List.map_nil,hs,hx,hr];exact h
end
end
section
open Go.RowKit Go.Shelf
attribute [local go_sem] Oper.semAt_some
set_option maxRecDepth 100000
set_option maxHeartbeats 8000000
def zk (s:ByteArray):List Int:=(zh s).map (fun i =>((rn s i:Nat):Int))
theorem JX (s:ByteArray):∀ f i (acc:Array Value),Conv.runesFrom s f i acc=acc++((zo s f i).map (fun i =>Value.int .i32 (rn s i))).toArray
 | 0,i,acc =>by simp [Conv.runesFrom,zo]
 | f+1,i,acc =>by
  unfold Conv.runesFrom zo;split
  ·show Conv.runesFrom s f (i+wd s i) (acc.push (.int .i32 (rn s i)))=_;rw [JX s f];simp
  ·simp
theorem Js (s:ByteArray):Conv.runesFrom s s.size 0 #[]=((zk s).map (Value.int .i32)).toArray:=by
 rw [JX];simp [zk,zh]
theorem j9 (s:ByteArray):(zk s).length=(zh s).length:=by simp [zk]
theorem zfJ (s:ByteArray) (hs:s.size≤70368744177664) (w:World):Calls Tryz.prog 152 #[.string s] w fun e w' => ∃ cap,e=.returned (.slice (some ⟨w.heap.size,0,none⟩) (zk s).length cap)∧(zk s).length≤cap ∧
  (∃ cs:Array Value,w'=w.drew.alloc (.cells (((zk s).map (Value.int .i32)).toArray++cs) 21)):=by
 have hl:(Conv.runesFrom s s.size 0 #[]).size=(zk s).length:=by rw [Js];simp
 have h46:(Conv.runesFrom s s.size 0 #[]).size≤70368744177664:=by
  have:=zX s;rw [hl,j9];omega
 have kc:=run_runes_of_string (P:=Tryz.prog) w 9 165 21 s Tryz.underlying9 Tryz.underlying165 Tryz.underlying21 h46;have hge:=grownCap_ge w (Conv.runesFrom s s.size 0 #[]).size 0 21;rw [hl] at hge;rw [hl,Js] at kc;generalize grownCap w (zk s).length 0 21=cap at kc hge;generalize Array.replicate (cap - (zk s).length) (Value.int IntKind.i32 0)=cs at kc;clear h46 hl;go_enter Tryz.func152,Tryz.ntmps152;go_wp2;go_ret;exact ⟨cap,rfl,hge,cs,rfl⟩
def j6 (s:ByteArray) (i:Nat):Bool:=decide (rn s i=65533∧wd s i=1)
end
section
open Go.RowKit Go.Shelf
open Go.Lib (decodeN decode_at)
end
section
open Go.RowKit Go.Shelf
theorem zkD {a b:Bool} (h:a=b):Ending.returned (.bool a)=.returned (.bool b):=by rw [h]
end
section
open Go.Lib (decode_at)
def zF (c:Nat):Nat × Nat :=
 if c < 194 then (0,0) else if c < 224 then (128,191) else if c=224 then (160,191) else if c < 237 then (128,191) else if c=237 then (128,159) else if c < 240 then (128,191)
 else if c=240 then (144,191) else if c < 244 then (128,191) else if c=244 then (128,143) else (0,0)
theorem QW (c:Nat) (h:(zF c).1≠0):(194≤c∧c < 224∧zF c=(128,191))∨(c=224∧zF c=(160,191))∨(((225≤c∧c < 237)∨(238≤c∧c < 240))∧zF c=(128,191))∨(c=237∧zF c=(128,159)) ∨
  (c=240∧zF c=(144,191))∨(241≤c∧c < 244∧zF c=(128,191))∨(c=244∧zF c=(128,143)):=by
 unfold zF at h ⊢;repeat' split at h
 all_goals simp_all
 all_goals omega
def Xz (b0:Nat):Nat:=if b0 < 224 then 2 else if b0 < 240 then 3 else 4
theorem zdJ (b0:Nat):Xz b0=2∨Xz b0=3∨Xz b0=4:=by
 unfold Xz;repeat' split
 all_goals simp
def XX (b0:Nat):Nat:=if b0 < 224 then b0 % 32 else if b0 < 240 then b0 % 16 else b0 % 8
def Yf (t:ByteArray):Nat→Nat
 | 0 =>0
 | 1 =>XX (bt t 0)
 | k+2 =>Yf t (k+1)*64+bt t (k+1) % 64
theorem zax (t:ByteArray) (k:Nat) (h:1≤k):Yf t (k+1)=Yf t k*64+bt t k % 64:=by
 obtain ⟨j,rfl⟩:∃ j,k=j+1:=⟨k - 1,by omega⟩;rfl
def JW (t:ByteArray):Int × Int:=if t.size=0∨(rn t 0=65533∧wd t 0=1) then (0,0) else (wd t 0,rn t 0)
abbrev zij (x:Int × Int):Value := .tuple #[.int .i64 x.1,.int .i32 x.2]
theorem qQ (t:ByteArray) (k:Nat) (h:k < t.size):bt t k=(t[k]'h).toNat:=by unfold bt;rw [Kt t k h];rfl
theorem zdP (t:ByteArray) (h:0 < t.size) (hb:bt t 0 < 128):JW t=(1,(bt t 0:Int)):=by
 have e:Utf8.decode t 0=(bt t 0,1):=by rw [decode_at];unfold Lib.decodeN;rw [if_pos hb]
 unfold JW;rw [if_neg (by simp only [rn,wd,e];omega)];simp only [rn,wd,e];rfl
theorem zbW (t:ByteArray) (h:0 < t.size) (hb:128≤bt t 0) (x:Nat × Nat) (e:Lib.decodeN (t.size - 0) (bt t 0) (bt t 1) (bt t 2) (bt t 3)=x):JW t=if x.1=65533∧x.2=1 then (0,0) else ((x.2:Int),(x.1:Int)):=by
 have e':Utf8.decode t 0=x:=by rw [decode_at];exact e
 unfold JW;simp only [rn,wd,e'];have:¬ t.size=0:=by omega
 simp only [this,false_or]
theorem zbG (n b0 b1 b2 b3:Nat) (h:128≤b0) (h0:b0 < 256) (hs:(zF b0).1=0):Lib.decodeN n b0 b1 b2 b3=(65533,1):=by
 have hc:b0 < 194∨245≤b0:=by
  unfold zF at hs;repeat' split at hs
  all_goals simp at hs
  all_goals omega
 unfold Lib.decodeN;repeat' split
 all_goals first | rfl | (exfalso;omega)
theorem J4 (n b0 b1 b2 b3:Nat) (hn:1≤n) (h1:b1 < 256) (h2:b2 < 256) (h3:b3 < 256) (hs:(zF b0).1≠0) :
  Lib.decodeN n b0 b1 b2 b3=Lib.slowN n b0 b1 b2 b3 (Xz b0) (zF b0).1 (zF b0).2:=by
 rcases QW b0 hs with ⟨a,b,e⟩ | ⟨a,e⟩ | ⟨a,e⟩ | ⟨a,e⟩ | ⟨a,e⟩ | ⟨a,b,e⟩ | ⟨a,e⟩
 ·rw [e,show Xz b0=2 by unfold Xz;rw [if_pos (by omega)]];exact (Lib.slow_C2 n b0 b1 b2 b3 hn h1 h2 h3 (by omega)).symm
 ·rw [e,show Xz b0=3 by unfold Xz;rw [if_neg (by omega),if_pos (by omega)]];exact (Lib.slow_E0 n b0 b1 b2 b3 hn h1 h2 h3 (by omega)).symm
 ·rw [e,show Xz b0=3 by unfold Xz;rw [if_neg (by omega),if_pos (by omega)]];exact (Lib.slow_E1 n b0 b1 b2 b3 hn h1 h2 h3 (by omega)).symm
 ·rw [e,show Xz b0=3 by unfold Xz;rw [if_neg (by omega),if_pos (by omega)]];exact (Lib.slow_ED n b0 b1 b2 b3 hn h1 h2 h3 (by omega)).symm
 ·rw [e,show Xz b0=4 by unfold Xz;rw [if_neg (by omega),if_neg (by omega)]];exact (Lib.slow_F0 n b0 b1 b2 b3 hn h1 h2 h3 (by omega)).symm
 ·rw [e,show Xz b0=4 by unfold Xz;rw [if_neg (by omega),if_neg (by omega)]];exact (Lib.slow_F1 n b0 b1 b2 b3 hn h1 h2 h3 (by omega)).symm
 ·rw [e,show Xz b0=4 by unfold Xz;rw [if_neg (by omega),if_neg (by omega)]];exact (Lib.slow_F4 n b0 b1 b2 b3 hn h1 h2 h3 (by omega)).symm
def zj8 (t:ByteArray) (k:Nat):Prop := ∀ j,1≤j→j < k→j < t.size∧128≤bt t j∧bt t j≤191
theorem zfF (t:ByteArray) (h:0 < t.size) (hb:128≤bt t 0) (hs:(zF (bt t 0)).1=0):JW t=(0,0):=by
 rw [zbW t h hb _ (zbG _ _ _ _ _ hb (Yr t 0) hs),if_pos ⟨rfl,rfl⟩]
theorem Qg (t:ByteArray) (h:0 < t.size) (hb:128≤bt t 0) (hs:(zF (bt t 0)).1≠0)
  (hx:t.size < 2∨bt t 1 < (zF (bt t 0)).1∨(zF (bt t 0)).2 < bt t 1∨∃ k,1≤k∧k < Xz (bt t 0)∧(t.size≤k∨bt t k < 128∨191 < bt t k)):JW t=(0,0):=by
 rw [zbW t h hb _ (J4 _ _ _ _ _ (by omega) (Yr t _) (Yr t _) (Yr t _) hs)];have hz:Xz (bt t 0)=2∨Xz (bt t 0)=3∨Xz (bt t 0)=4:=zdJ _;have hlo:128≤(zF (bt t 0)).1∧(zF (bt t 0)).2≤191:=by
  rcases QW _ hs with ⟨a,b,e⟩ | ⟨a,e⟩ | ⟨a,e⟩ | ⟨a,e⟩ | ⟨a,e⟩ | ⟨a,b,e⟩ | ⟨a,e⟩ <;> rw [e] <;> simp
 have:Lib.slowN (t.size - 0) (bt t 0) (bt t 1) (bt t 2) (bt t 3) (Xz (bt t 0)) (zF (bt t 0)).1 (zF (bt t 0)).2=(65533,1):=by
  generalize (zF (bt t 0)).1=lo at *;generalize (zF (bt t 0)).2=hi at *;generalize Xz (bt t 0)=z at *;have hx':t.size < 2∨bt t 1 < lo∨hi < bt t 1∨(t.size < z)∨(3≤z∧(bt t 2 < 128∨191 < bt t 2))∨(4≤z∧(bt t 3 < 128∨191 < bt t 3)):=by
   rcases hx with h | h | h | ⟨k,h1,h2,h3⟩
   ·exact .inl h
   ·exact .inr (.inl h)
   ·exact .inr (.inr (.inl h))
   ·rcases h3 with h3 | h3
    ·exact .inr (.inr (.inr (.inl (by omega))))
    ·have hk:k=1∨k=2∨k=3:=by omega
     rcases hk with rfl | rfl | rfl
     ·omega
     ·exact .inr (.inr (.inr (.inr (.inl ⟨by omega,h3⟩))))
     ·exact .inr (.inr (.inr (.inr (.inr ⟨by omega,h3⟩))))
  clear hx;unfold Lib.slowN;repeat' split
  all_goals first | rfl | (exfalso;omega)
 rw [this,if_pos ⟨rfl,rfl⟩]
theorem QK (t:ByteArray) (h:0 < t.size) (hb:128≤bt t 0) (hs:(zF (bt t 0)).1≠0) (h1:(zF (bt t 0)).1≤bt t 1) (h2:bt t 1≤(zF (bt t 0)).2) (hg:zj8 t (Xz (bt t 0))) :
  JW t=((Xz (bt t 0):Int),(Yf t (Xz (bt t 0)):Int)):=by
 rw [zbW t h hb _ (J4 _ _ _ _ _ (by omega) (Yr t _) (Yr t _) (Yr t _) hs)];have hz:(Xz (bt t 0)=2∧XX (bt t 0)=bt t 0 % 32)∨(Xz (bt t 0)=3∧XX (bt t 0)=bt t 0 % 16)∨(Xz (bt t 0)=4∧XX (bt t 0)=bt t 0 % 8):=by
  unfold Xz XX;repeat' split
  all_goals simp
 generalize (zF (bt t 0)).1=lo at *;generalize (zF (bt t 0)).2=hi at *;rcases hz with ⟨e,l⟩ | ⟨e,l⟩ | ⟨e,l⟩
 ·have g1:=hg 1 (by omega) (by omega);rw [e];have:Lib.slowN (t.size - 0) (bt t 0) (bt t 1) (bt t 2) (bt t 3) 2 lo hi=(bt t 0 % 32*64+bt t 1 % 64,2):=by
   unfold Lib.slowN;repeat' split
   all_goals first | (exfalso;omega) | rfl
  rw [this,if_neg (by simp),show Yf t 2=XX (bt t 0)*64+bt t 1 % 64 from rfl,l]
 ·have g1:=hg 1 (by omega) (by omega);have g2:=hg 2 (by omega) (by omega);rw [e];have:Lib.slowN (t.size - 0) (bt t 0) (bt t 1) (bt t 2) (bt t 3) 3 lo hi=(bt t 0 % 16*4096+bt t 1 % 64*64+bt t 2 % 64,3):=by
   unfold Lib.slowN;repeat' split
   all_goals first | (exfalso;omega) | rfl
  rw [this,if_neg (by simp),show Yf t 3=(XX (bt t 0)*64+bt t 1 % 64)*64+bt t 2 % 64 from rfl,l];rw [Prod.mk.injEq];exact ⟨rfl,by omega⟩
 ·have g1:=hg 1 (by omega) (by omega);have g2:=hg 2 (by omega) (by omega);have g3:=hg 3 (by omega) (by omega);rw [e];have:Lib.slowN (t.size - 0) (bt t 0) (bt t 1) (bt t 2) (bt t 3) 4 lo hi=(bt t 0 % 8*262144+bt t 1 % 64*4096+bt t 2 % 64*64+bt t 3 % 64,4):=by
   unfold Lib.slowN;repeat' split
   all_goals first | (exfalso;omega) | rfl
  rw [this,if_neg (by simp),show Yf t 4=((XX (bt t 0)*64+bt t 1 % 64)*64+bt t 2 % 64)*64+bt t 3 % 64 from rfl,l];rw [Prod.mk.injEq];exact ⟨rfl,by omega⟩
end
section
open Go.RowKit Go.Shelf
theorem zdI (t:ByteArray) (h:t.size=0):t=ByteArray.empty:=by
 apply ByteArray.ext;apply Array.eq_empty_of_size_eq_zero;exact h
structure Above (B:Nat) (W W':World):Prop where
 size:W.heap.size≤W'.heap.size
 same:∀ k,B≤k→k < W.heap.size→W'.heap[k]?=W.heap[k]?
theorem Above.trans {B:Nat} {X Y Z:World} (h:Above B X Y) (k:Above B Y Z):Above B X Z:=⟨Nat.le_trans h.size k.size,fun i hB hi =>(k.same i hB (by have:=h.size;omega)).trans (h.same i hB hi)⟩
theorem Above.mono {B B':Nat} {X Y:World} (h:Above B X Y) (hB:B≤B'):Above B' X Y:=⟨h.size,fun i hi hk =>h.same i (by omega) hk⟩
theorem Above.below {B:Nat} {X Y:World} (h:Below X.heap.size X Y):Above B X Y:=⟨h.size,fun k _ hk =>h.block k hk⟩
theorem Above.set {B b i:Nat} {X Y:World} (h:Above B X Y) (hb:b < B) (v:Value):Above B X (Y.setCell ⟨b,i,none⟩ v):=h.trans ⟨(KeepsWalks.setCell Y _ v).size,fun k hk _ =>Below.heap_setCell Y ⟨b,i,none⟩ v k (by show k≠b;omega)⟩
theorem Above.put {B l:Nat} {X Y:World} (h:Above B X Y) (hl:l < B) (o:Obj):Above B X (Y.putObj l o):=h.trans ⟨by simp,fun k hk _ =>World.putObj_heap_other (by omega)⟩
theorem X6 {B l:Nat} (W:World) (hl:B≤l) (o:Obj):Below B W (W.putObj l o):=⟨rfl,rfl,rfl,by simp,fun k hk =>World.putObj_heap_other (by omega)⟩
def Old {β : Type} (B:Nat) (I : β→World→Prop):Prop := ∀ s X Y,I s X→Below B X Y→I s Y
def zfm {α : Type} (F:Fence) (n:Nat) (P:Program) (g:Nat) (lb:Array Value) (encs : α→Array Value) (Kp:World→World→Prop) (S Sp:List α→Prop) (Nx:List α→α→Prop) (w:World):Prop :=
 ∀ (l:Nat) (J Jx:List α→World→Prop) (W:World),Below w.heap.size w W→Old W.heap.size J→Old W.heap.size Jx →
  (∀ pre x W1,J pre W1→Nx pre x→W.heap.size≤W1.heap.size→YieldAt F (n - 1) P l (encs x) W1 fun e W' =>Above W.heap.size W1 W' ∧
   ((e=.returned (.bool true)∧J (pre++[x]) W'∧Kp W1 W')∨(e=.returned (.bool false)∧Jx (pre++[x]) W'))) →
  J [] W→CallsIn F n P g (#[.func (.yield l) #[] #[]]++lb) W fun e W' =>(∃ v,e=.returned v)∧((∃ xs,S xs∧J xs W')∨(∃ pre,Sp pre∧Jx pre W'))
def zh4 {α : Type} (B:Nat) (Kp:World→World→Prop) (I:List α→World→Prop) (Ix:Code→List α→World→Prop) (xs:List α) (W:World):Exit→Act→World→Prop
 | .normal,_,W' =>Above B W W'∧Kp W W'∧I xs W'
 | .ret,_,W' =>Above B W W'∧Ix .ret xs W'
 | .exit id,_,W' =>Above B W W'∧Ix (.exit id) xs W'
 | .goto t,_,W' =>Above B W W'∧Ix (.goto t) xs W'
 | .panic _,_,_ =>False
 | .outgrown,_,_ =>False
section
variable {F:Fence} {n:Nat} {P:Program}
theorem zgi {l D:Nat} {r:Loop} {Wr W3:World} {B:Nat} (hl:Wr.heap[l]?=some (.loop r)) (hD:Wr.heap[D]?=some (.deferred (some []))) (hlD:l≠D) (hBl:B≤l) (hBD:B≤D) (h:Above B Wr W3) (jump:Option Code) :
  (Instr.endRound l jump).run P W3=.ok (.bool jump.isNone) (W3.putObj l (.loop { r with state:=if jump.isNone then .ready else .done,pending:=jump })) ∧
  (W3.putObj l (.loop { r with state:=if jump.isNone then .ready else .done,pending:=jump })).heap[l]?=some (.loop { r with state:=if jump.isNone then .ready else .done,pending:=jump }) ∧
  (W3.putObj l (.loop { r with state:=if jump.isNone then .ready else .done,pending:=jump })).heap[D]?=some (.deferred (some [])):=by
 have h1:=(h.same l hBl (zeI.1 hl).1).trans hl;have h2:=(h.same D hBD (zeI.1 hD).1).trans hD;exact ⟨run_endRound jump h1,World.putObj_heap_same (zeI.1 h1).1,(World.putObj_heap_other (Ne.symm hlD)).trans h2⟩
def Booked (B:Nat) (st:LoopState) (pe:Option Code) (r:Loop) (W:World):Prop:=W.heap[B+1]?=some (.loop { r with state:=st,pending:=pe })∧W.heap[B]?=some (.deferred (some []))
theorem Booked.below {B:Nat} {st:LoopState} {pe:Option Code} {r:Loop} {X Y:World} (h:Booked B st pe r X) (hb:Below (B+2) X Y):Booked B st pe r Y:=⟨(hb.block _ (by omega)).trans h.1,(hb.block _ (by omega)).trans h.2⟩
theorem zd3 {α : Type} {g:Operand} {ps:Array Tmp} {assign body:Code} {Q:Exit→Act→World→Prop} {a:Act} {w:World}
  (hro:F.round=none) (h1:1≤n) {gf:Nat} {lb:Array Value} (hg:a.eval g=.func (.func gf) #[] lb) (hFg:F.fn gf) (eg:∀ args w,(callFunc gf args).run P w=.ok (.enter gf args) w)
  {encs : α→Array Value} {Kp:World→World→Prop} {S Sp:List α→Prop} {Nx:List α→α→Prop} {w0:World} (hseq:zfm F (n - 1) P gf lb encs Kp S Sp Nx w0)
  (hKt:∀ {A B C:World},Kp A B→Kp B C→Kp A C) (hKb:∀ (W:World) (l:Nat) (o:Obj),w.heap.size≤l→Kp W (W.putObj l o)) (hb0:Below w0.heap.size w0 w) (hps:∀ x,(encs x).size=ps.size)
  (I:List α→World→Prop) (Ix:Code→List α→World→Prop) (hI:Old w.heap.size I) (hIx:∀ c,Old w.heap.size (Ix c)) (h0:I [] w)
  (hround : ∀ (pre : List α) (x : α) (W : World), I pre W → Nx pre x → w.heap.size + 2 ≤ W.heap.size →
    assign.wpIn (F.inRound (w.heap.size+1)) (n - 1 - 1) P (Exit.then (fun a' Wa =>Above w.heap.size W Wa∧Kp W Wa∧I pre Wa ∧
      (∀ Wr,Wa.grownBy Wr (some (w.heap.size+1))→Wr.heap.size=Wa.heap.size→I pre Wr→body.wpIn (F.inRound (w.heap.size+1)) (n - 1 - 1) P (zh4 w.heap.size Kp I Ix (pre++[x]) Wr) a' Wr)) (fun _ _ _ =>False))
      { tmps:=(ps.zip (encs x)).foldl (fun t (p,v) =>t.setIfInBounds p v) a.tmps,defers := [] } W)
  (hdone:∀ (D:Nat) (xs:List α) (W:World),w.heap.size≤D→S xs→I xs W→W.heap[D]?=some (.deferred (some []))→Q .normal { a with defers:={ target := .collected D,args:=#[] } :: a.defers } W)
  (hstop:∀ (D:Nat) (c:Code) (pre:List α) (W:World),w.heap.size≤D→Sp pre→Ix c pre W→W.heap[D]?=some (.deferred (some []))→c.wpIn F n P Q { a with defers:={ target := .collected D,args:=#[] } :: a.defers } W) :
  (Code.rangeFunc g ps assign body).wpIn F n P Q a w:=by
 refine wpIn_rangeFunc fun fn hfn =>?_
 rw [hro];obtain ⟨r,hr⟩:∃ r:Loop,r = { state := .ready,pending:=none,fn,tmps:=a.tmps,params:=ps,assign,body,defers:=w.heap.size }:=⟨_,rfl⟩;have r1:r.state=.ready:=by rw [hr]
 have r2:r.pending=none:=by rw [hr]
 obtain ⟨W1,hW1⟩:∃ W1,W1=(w.alloc (.deferred (some []))).alloc (.loop r):=⟨_,rfl⟩;have hsz:W1.heap.size=w.heap.size+2:=by rw [hW1];simp
 have hbw:Below w.heap.size w W1:=by rw [hW1];exact ((Below.refl _ w).alloc zD _).alloc (by simp) _
 have hre : { r with state := .ready,pending:=none }=r:=by rw [hr]
 have hbk:Booked w.heap.size .ready none r W1:=by
  refine ⟨?_, ?_⟩
  ·rw [hre,hW1];have:=World.alloc_heap_new (w.alloc (.deferred (some []))) (.loop r)
   rwa [World.size_alloc] at this
  ·rw [hW1];exact (Below.heap_alloc _ _ _ (by simp)).trans (World.alloc_heap_new w _)
 refine ⟨w.heap.size+1,[{ target := .collected w.heap.size,args:=#[] }],W1, { target := .fn (.func gf) lb,args:=#[.func (.yield (w.heap.size+1)) #[] #[]] },W1,gf,#[.func (.yield (w.heap.size+1)) #[] #[]]++lb,W1, ?_, ?_, ?_, ?_,fun _ =>h1, ?_⟩
 ·rw [hW1,hr];exact run_enterLoop_outer _ _ _ _ _
 ·simp only [resolve,hg];simp [go_sem]
 ·intro f' hf';simp [Target.leads] at hf';subst hf';exact hFg
 ·simp [invoke,go_sem,eg]
 ·refine (hseq (w.heap.size+1) (fun pre W =>I pre W∧Booked w.heap.size .ready none r W) (fun pre W => ∃ c,Ix c pre W∧Booked w.heap.size .done (some c) r W) W1 (hb0.trans (hbw.mono hb0.size))
   (fun s X Y hs hb =>⟨hI s X Y hs.1 (hb.mono (by omega)),hs.2.below (by rw [← hsz];exact hb)⟩)
   (fun s X Y hs hb =>by obtain ⟨c,h1,h2⟩:=hs;exact ⟨c,hIx c s X Y h1 (hb.mono (by omega)),h2.below (by rw [← hsz];exact hb)⟩) ?_ ⟨hI [] w W1 h0 hbw,hbk⟩).mono ?_
  ·rintro pre x W ⟨hi,hl,hd⟩ hlen hge;rw [hre] at hl;have hy:=run_yield (P:=P) (args:=encs x) hl (by rw [hr];exact hps x);refine ⟨r.fn,_,r.assign,r.body,hy,roundIn_of_wpIn (by rw [hr];exact hfn) ?_⟩;rw [show r.params=ps by rw [hr],show r.tmps=a.tmps by rw [hr],show r.assign=assign by rw [hr],show r.body=body by rw [hr]];refine wpIn_mono (hround pre x W hi hlen (by omega)) ?_;intro e a' Wa hp;cases e with
   | normal =>
    obtain ⟨hab,hkp,hia,hgo⟩:=hp;have hl':=(hab.same _ (by omega) (zeI.1 hl).1).trans hl;have hd':=(hab.same _ zD (zeI.1 hd).1).trans hd;refine ⟨_,run_beginRound hl' r1, ?_⟩;have hgw:=grownBy_putObj' Wa (w.heap.size+1) (.loop { r with state := .busy });obtain ⟨Wr,hWr⟩:∃ Wr,Wr=Wa.putObj (w.heap.size+1) (.loop { r with state := .busy }):=⟨_,rfl⟩;rw [← hWr] at hgw ⊢;have hlr:Wr.heap[w.heap.size+1]?=some (.loop { r with state := .busy }):=by rw [hWr];exact World.putObj_heap_same (zeI.1 hl').1
    have hdr:Wr.heap[w.heap.size]?=some (.deferred (some [])):=by rw [hWr];exact (World.putObj_heap_other (by omega)).trans hd'
    have hkr:Kp Wa Wr:=by rw [hWr];exact hKb _ _ _ (by omega)
    have har:Above W1.heap.size W Wr:=by rw [hWr];exact (hab.mono (by omega)).put (by omega) _
    have hir:I pre Wr:=hI _ _ _ hia (by rw [hWr];exact X6 Wa (by omega) _);refine wpIn_mono (hgo Wr hgw (by rw [hWr];simp) hir) ?_;intro e a3 W3 hp;have fin:∀ jump:Option Code,Above w.heap.size Wr W3→(Instr.endRound (w.heap.size+1) jump).run P W3=.ok (.bool jump.isNone) (W3.putObj (w.heap.size+1) (.loop { r with state:=if jump.isNone then .ready else .done,pending:=jump }))∧Booked w.heap.size (if jump.isNone then .ready else .done) jump r (W3.putObj (w.heap.size+1) (.loop { r with state:=if jump.isNone then .ready else .done,pending:=jump }))∧Above W1.heap.size W (W3.putObj (w.heap.size+1) (.loop { r with state:=if jump.isNone then .ready else .done,pending:=jump })):=fun jump h =>by
     have q:=zgi (P:=P) hlr hdr (by omega) (by omega) zD h jump;exact ⟨q.1,⟨q.2.1,q.2.2⟩,(har.trans (h.mono (by omega))).put (by omega) _⟩
    cases e with
    | normal =>
     obtain ⟨p1,p2,p3⟩:=hp;obtain ⟨q1,q2,q3⟩:=fin none p1;exact ⟨_,_,q1,q3,.inl ⟨rfl,⟨hI _ _ _ p3 (X6 W3 (by omega) _),q2⟩,hKt hkp (hKt hkr (hKt p2 (hKb _ _ _ (by omega))))⟩⟩
    | ret =>
     obtain ⟨p1,p3⟩:=hp;obtain ⟨q1,q2,q3⟩:=fin (some .ret) p1;exact ⟨_,_,q1,q3,.inr ⟨rfl,.ret,hIx _ _ _ _ p3 (X6 W3 (by omega) _),q2⟩⟩
    | exit id =>
     obtain ⟨p1,p3⟩:=hp;obtain ⟨q1,q2,q3⟩:=fin (some (.exit id)) p1;exact ⟨_,_,q1,q3,.inr ⟨rfl,.exit id,hIx _ _ _ _ p3 (X6 W3 (by omega) _),q2⟩⟩
    | goto t =>
     obtain ⟨p1,p3⟩:=hp;obtain ⟨q1,q2,q3⟩:=fin (some (.goto t)) p1;exact ⟨_,_,q1,q3,.inr ⟨rfl,.goto t,hIx _ _ _ _ p3 (X6 W3 (by omega) _),q2⟩⟩
    | panic ch =>exact hp.elim
    | outgrown =>exact hp.elim
   | ret =>exact hp.elim
   | exit id =>exact hp.elim
   | goto t =>exact hp.elim
   | panic ch =>exact hp.elim
   | outgrown =>exact hp.elim
  ·rintro e W2 ⟨⟨v,rfl⟩,(⟨xs,hS,hi,hb⟩ | ⟨pre,hSp,c,hi,hb⟩)⟩
   ·exact ⟨none,_,run_endLoop (P:=P) hb.1 (by simp),hdone _ xs _ zD hS (hI _ _ _ hi (X6 W2 (by omega) _)) ((World.putObj_heap_other (by omega)).trans hb.2)⟩
   ·exact ⟨some c,_,run_endLoop (P:=P) hb.1 (by simp),hstop _ c pre _ zD hSp (hIx c _ _ _ hi (X6 W2 (by omega) _)) ((World.putObj_heap_other (by omega)).trans hb.2)⟩
end
end
end Go.Proofs.YthchopdfmchpkaaGreat
