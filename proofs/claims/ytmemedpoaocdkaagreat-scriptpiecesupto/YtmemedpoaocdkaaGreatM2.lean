/- Texts of this claim, one behind the other. -/
import Derived.Test.YtmemedpoaocdkaaGreatM1
import Derived.ArgAppend
import Derived.Laws.Rows
import Derived.RegionTactic
import Derived.Test.YtmemedpoaocdkaaGreatBound
import Derived.Laws.Cover4
import Derived.Laws.IdiomStrings
import Derived.Test.YtmemedpoaocdkaaGreatShA
import Derived.RangeFuncNested
import Derived.Lib.QuietBelow
import Derived.BigQuiet
import Derived.Maps.AppendAt
import Derived.Deep.QuietTactic
import Derived.Laws.StructEq
import Derived.WalkKit
import Derived.BigRegion
import Derived.Laws.OwnMore
import Derived.Deep.AppendLies
import Derived.Deep.RegionLaw
/- A list of values in memory that may begin inside its block: how it lies, and what an append, or a cut at its front, makes of it. -/
namespace Go.Proofs.YtmemedpoaocdkaaGreat
open Go.RowKit Go.Shelf
set_option linter.unusedVariables false

theorem zau (W:World) (a:Addr) (v:Value):W.grownBy (W.setCell a v) (some a.block) :=
 ⟨rfl,rfl,rfl,by simp,fun k _ hk =>Below.heap_setCell _ _ _ k (fun e =>hk (by rw [e]))⟩

theorem zeb (g o j:Nat):(⟨g,o,none⟩:Addr).add j=⟨g,o+j,none⟩:=by unfold Addr.add;split <;> simp_all

def zpU:List Value→Nat→Value
 | [],_ =>undef
 | v::_,0 =>v
 | _::L,k+1 =>zpU L k
theorem zax {ds:List Deferred} {L:List Value} {G:(Nat→Value)→List Value} (h:L=G (zpU L)):∃ U,({ tmps:=L.toArray,defers:=ds }:Act) = { tmps:=(G U).toArray,defers:=ds }:=⟨_,by rw [← h]⟩
section
variable {P:Program} (w:World)
theorem zgE {ops:Array Oper} {o:Oper} {a:Act} {K:Act→World→Prop} {Q:Exit→Act→World→Prop} {E:Prop} (hgd:o.guard=none) (s x:Operand) (t:TypeId)
  (ho:o.op=.call { callee := .builtin .append,args:=#[s,x],argTypes:=#[t,t] }) (e:TypeId) (i:TypeInfo) (ht:P.underlying t=some (.slice e)) (hi:P.info? e=some i) (hs:a.eval s=.slice none 0 0) (b:Option Addr) (n c:Nat) (hn:n=0) (hx:a.eval x=.slice b n c)
  (h:K (a.put o.dst (.slice none 0 0)) w):if Region.wanted o (yielded ops a.tmps)=true then Oper.wp P o a w K Q else E:=by
 have hw:Region.wanted o (yielded ops a.tmps)=true:=by simp [Region.wanted,hgd]
 rw [if_pos hw]
 subst hn
 have hr:(Builtin.append_ #[t,t] o.type #[.slice none 0 0,.slice b 0 c]).run P w=.ok (.slice none 0 0) w:=by
  cases b <;> simp [Builtin.append_,run_underlying ht,sizeOf,typeInfo,hi,Builtin.lenOf,Builtin.firstCells,loadCells,loadCellsFrom]
 unfold Oper.wp execOp
 simp only [ho,resolve,invoke,builtin,Sem.run_bind,Sem.run_pure,Result.andThen_ok,List.map_toArray,List.map_cons,List.map_nil,hs,hx,hr]
 exact h
end

end Go.Proofs.YtmemedpoaocdkaaGreat
namespace Go.Proofs.YtmemedpoaocdkaaGreat
open Go.RowKit Go.Shelf
attribute [local go_sem] Oper.semAt_some
set_option linter.unusedVariables false

set_option maxRecDepth 100000 in
set_option maxHeartbeats 2000000 in
theorem zjH (s:ByteArray) (hs:s.size≤maxLen) (w:World):Calls Tryz.prog 33 #[.string s] w fun e w' =>e=.returned (.int .i64 (zai s).length)∧Below w.heap.size w w':=by
 unfold maxLen at hs
 go_enter Tryz.func33,Tryz.ntmps33
 go_wp2
 go_loopw [3] (fun n w' => ∃ (pre:List Nat) (pos f:Nat),w'=w.iter s pos∧n=.int .i64 pre.length∧Hz (zai s=pre++zak s f pos)∧s.size≤pos+f) (fun _ w' =>s.size - w'.iterPos w.heap.size)
 case atStart =>exact ⟨[],0,s.size,rfl,rfl,kz rfl,by omega⟩
 case round =>
  obtain ⟨pre,pos,f,rfl,rfl,HS,hf⟩:=hrel
  by_cases hp:pos < s.size
  ·have hnx:∀ ty,(Instr.next (.pointer (some ⟨w.heap.size,0,none⟩)) true ty).run Tryz.prog (w.iter s pos)=_:=fun ty =>run_next_any w s pos ty hp
   have hpl:(pre.length:Int) < 2 ^ 63 - 1:=by
    have h1:=zav s
    obtain ⟨g,rfl⟩:∃ g,f=g+1:=⟨f - 1,by omega⟩
    rw [oz HS,List.length_append,zar s g pos hp] at h1
    simp at h1
    omega
   go_wp2
   have hwd:=zcx s pos
   go_roundw
   case rel =>
    refine ⟨pre++[pos],pos+wd s pos,f - 1,rfl, ?_,kz ?_,by omega⟩
    ·rw [List.length_append];go_num
    ·obtain ⟨g,rfl⟩:∃ g,f=g+1:=⟨f - 1,by omega⟩
     rw [oz HS,zar s g pos hp];simp
   case measure =>
    simp
    simp only [wd] at hwd
    omega
  ·have hnx:∀ ty,(Instr.next (.pointer (some ⟨w.heap.size,0,none⟩)) true ty).run Tryz.prog (w.iter s pos)=_:=fun ty =>run_next_end w s pos ty hp
   have hst:=oz HS
   rw [zay s f pos hp,List.append_nil] at hst
   have HST:=kz hst
   clear hst HS
   go_wp2
   go_ret
   exact ⟨by rw [oz HST];rfl,(Below.refl _ _).alloc (Nat.le_refl _) _⟩

def zah (s:ByteArray):List Int:=(zai s).map (fun i =>((rn s i:Nat):Int))
theorem zgq (s:ByteArray):∀ f i (acc:Array Value),Conv.runesFrom s f i acc=acc++((zak s f i).map (fun i =>Value.int .i32 (rn s i))).toArray
 | 0,i,acc =>by simp [Conv.runesFrom,zak]
 | f+1,i,acc =>by
  unfold Conv.runesFrom zak
  split
  ·show Conv.runesFrom s f (i+wd s i) (acc.push (.int .i32 (rn s i)))=_
   rw [zgq s f]
   simp
  ·simp
theorem zfG (s:ByteArray):Conv.runesFrom s s.size 0 #[]=((zah s).map (Value.int .i32)).toArray:=by
 rw [zgq];simp [zah,zai]
theorem zaJ (s:ByteArray):(zah s).length=(zai s).length:=by simp [zah]

set_option maxHeartbeats 2000000 in
theorem zmM (s:ByteArray) (hs:s.size≤70368744177664) (w:World):Calls Tryz.prog 134 #[.string s] w fun e w' => ∃ cap,e=.returned (.slice (some ⟨w.heap.size,0,none⟩) (zah s).length cap)∧(zah s).length≤cap ∧
  (∃ cs:Array Value,w'=w.drew.alloc (.cells (((zah s).map (Value.int .i32)).toArray++cs) 21)):=by
 have hl:(Conv.runesFrom s s.size 0 #[]).size=(zah s).length:=by rw [zfG];simp
 have h46:(Conv.runesFrom s s.size 0 #[]).size≤70368744177664:=by
  have:=zav s;rw [hl,zaJ];omega
 have kc:=run_runes_of_string (P:=Tryz.prog) w 9 88 21 s Tryz.underlying9 Tryz.underlying88 Tryz.underlying21 h46
 have hge:=grownCap_ge w (Conv.runesFrom s s.size 0 #[]).size 0 21
 rw [hl] at hge
 rw [hl,zfG] at kc
 generalize grownCap w (zah s).length 0 21=cap at kc hge
 generalize Array.replicate (cap - (zah s).length) (Value.int IntKind.i32 0)=cs at kc
 clear h46 hl
 go_enter Tryz.func134,Tryz.ntmps134
 go_wp2
 go_ret
 exact ⟨cap,rfl,hge,cs,rfl⟩

def zeC (s:ByteArray) (i:Nat):Bool:=decide (rn s i=65533∧wd s i=1)
end Go.Proofs.YtmemedpoaocdkaaGreat
namespace Go.Proofs.YtmemedpoaocdkaaGreat
open Go.RowKit Go.Shelf
open Go.Lib (decodeN decode_at)
set_option linter.unusedVariables false

theorem zjE (n m b0 b1 b2 b3:Nat) (hnm:n≤m) (hg:¬ ((decodeN m b0 b1 b2 b3).1=65533∧(decodeN m b0 b1 b2 b3).2=1)) (hw:(decodeN m b0 b1 b2 b3).2≤n):decodeN n b0 b1 b2 b3=decodeN m b0 b1 b2 b3:=by
 by_cases h0:b0 < 128
 ·unfold decodeN;rw [if_pos h0,if_pos h0]
 by_cases h2:b0 / 32=6∧(1 < m∧b1 / 64=2)
 ·by_cases hc:b0 % 32*64+b1 % 64 ≥ 128
  ·have e:decodeN m b0 b1 b2 b3=(b0 % 32*64+b1 % 64,2):=by unfold decodeN;rw [if_neg h0,if_pos h2,if_pos hc]
   rw [e] at hw
   rw [e]
   simp only at hw
   unfold decodeN
   rw [if_neg h0,if_pos ⟨h2.1,by omega,h2.2.2⟩,if_pos hc]
  ·have e:decodeN m b0 b1 b2 b3=(65533,1):=by unfold decodeN;rw [if_neg h0,if_pos h2,if_neg hc]
   rw [e] at hg
   exact absurd ⟨rfl,rfl⟩ hg
 by_cases h3:b0 / 16=14∧(1 < m∧b1 / 64=2)∧(2 < m∧b2 / 64=2)
 ·by_cases hc:b0 % 16*4096+b1 % 64*64+b2 % 64 ≥ 2048∧(b0 % 16*4096+b1 % 64*64+b2 % 64 < 55296∨(57344≤b0 % 16*4096+b1 % 64*64+b2 % 64∧b0 % 16*4096+b1 % 64*64+b2 % 64≤1114111))
  ·have e:decodeN m b0 b1 b2 b3=(b0 % 16*4096+b1 % 64*64+b2 % 64,3):=by unfold decodeN;rw [if_neg h0,if_neg h2,if_pos h3,if_pos hc]
   rw [e] at hw
   rw [e]
   simp only at hw
   unfold decodeN
   rw [if_neg h0,if_neg (by omega),if_pos ⟨h3.1,⟨by omega,h3.2.1.2⟩,⟨by omega,h3.2.2.2⟩⟩,if_pos hc]
  ·have e:decodeN m b0 b1 b2 b3=(65533,1):=by unfold decodeN;rw [if_neg h0,if_neg h2,if_pos h3,if_neg hc]
   rw [e] at hg
   exact absurd ⟨rfl,rfl⟩ hg
 by_cases h4:b0 / 8=30∧(1 < m∧b1 / 64=2)∧(2 < m∧b2 / 64=2)∧(3 < m∧b3 / 64=2)
 ·by_cases hc:b0 % 8*262144+b1 % 64*4096+b2 % 64*64+b3 % 64 ≥ 65536∧(b0 % 8*262144+b1 % 64*4096+b2 % 64*64+b3 % 64 < 55296∨(57344≤b0 % 8*262144+b1 % 64*4096+b2 % 64*64+b3 % 64∧b0 % 8*262144+b1 % 64*4096+b2 % 64*64+b3 % 64≤1114111))
  ·have e:decodeN m b0 b1 b2 b3=(b0 % 8*262144+b1 % 64*4096+b2 % 64*64+b3 % 64,4):=by unfold decodeN;rw [if_neg h0,if_neg h2,if_neg h3,if_pos h4,if_pos hc]
   rw [e] at hw
   rw [e]
   simp only at hw
   unfold decodeN
   rw [if_neg h0,if_neg (by omega),if_neg (by omega),if_pos ⟨h4.1,⟨by omega,h4.2.1.2⟩,⟨by omega,h4.2.2.1.2⟩,⟨by omega,h4.2.2.2.2⟩⟩,if_pos hc]
  ·have e:decodeN m b0 b1 b2 b3=(65533,1):=by unfold decodeN;rw [if_neg h0,if_neg h2,if_neg h3,if_pos h4,if_neg hc]
   rw [e] at hg
   exact absurd ⟨rfl,rfl⟩ hg
 ·have e:decodeN m b0 b1 b2 b3=(65533,1):=by unfold decodeN;rw [if_neg h0,if_neg h2,if_neg h3,if_neg h4]
  rw [e] at hg
  exact absurd ⟨rfl,rfl⟩ hg
theorem zjD (n m b0 b1 b2 b3:Nat) (hnm:n≤m) (hn:1≤n) (h1:b1 < 256) (h2:b2 < 256) (h3:b3 < 256) (h0:b0 < 256) (hg:¬ ((decodeN n b0 b1 b2 b3).1=65533∧(decodeN n b0 b1 b2 b3).2=1)):decodeN m b0 b1 b2 b3=decodeN n b0 b1 b2 b3:=by
 have t:=told n b0 b1 b2 b3 h0 h1 h2 h3
 by_cases hm:4≤n
 ·exact zgy m n _ _ _ _ (.inr ⟨by omega,hm⟩)
 by_cases c0:b0 < 128
 ·unfold decodeN;rw [if_pos c0,if_pos c0]
 by_cases c2:b0 / 32=6∧(1 < n∧b1 / 64=2)
 ·unfold decodeN
  rw [if_neg c0,if_neg c0,if_pos c2,if_pos ⟨c2.1,by omega,c2.2.2⟩]
 by_cases c3:b0 / 16=14∧(1 < n∧b1 / 64=2)∧(2 < n∧b2 / 64=2)
 ·unfold decodeN
  rw [if_neg c0,if_neg c0,if_neg c2,if_neg (by omega),if_pos c3,if_pos ⟨c3.1,⟨by omega,c3.2.1.2⟩,⟨by omega,c3.2.2.2⟩⟩]
 ·have e:decodeN n b0 b1 b2 b3=(65533,1):=by unfold decodeN;rw [if_neg c0,if_neg c2,if_neg c3,if_neg (by omega)]
  rw [e] at hg
  exact absurd ⟨rfl,rfl⟩ hg

theorem zgj (u v:ByteArray) (i:Nat):(u++v).get! i=if i < u.size then u.get! i else v.get! (i - u.size):=by
 by_cases h:i < u.size
 ·rw [if_pos h,zfj _ _ (by rw [ByteArray.size_append];omega),zfj _ _ h]
  simp [Array.getElem_append_left,h]
 ·rw [if_neg h]
  by_cases k:i < (u++v).size
  ·rw [zfj _ _ k,zfj _ _ (by rw [ByteArray.size_append] at k;omega)]
   simp [Array.getElem_append_right,Nat.le_of_not_lt h]
  ·rw [zk9 _ _ (by omega),zk9 _ _ (by rw [ByteArray.size_append] at k;omega)]
theorem ziX (s t:ByteArray) (i:Nat) (h:i < s.size):bt (s++t) i=bt s i:=by unfold bt;rw [zgj,if_pos h]
theorem zpM (s t:ByteArray) (j:Nat):bt (s++t) (s.size+j)=bt t j:=by unfold bt;rw [zgj,if_neg (by omega)];congr 2;omega

theorem zhv (s t:ByteArray) (i:Nat) (hi:i < s.size):Utf8.decode s i=decodeN (s.size - i) (bt (s++t) i) (bt (s++t) (i+1)) (bt (s++t) (i+2)) (bt (s++t) (i+3)):=by
 rw [decode_at,ziX s t i hi]
 refine zgz _ _ _ _ _ _ _ _ (fun h =>?_) (fun h =>?_) (fun h =>?_)
 ·exact (ziX s t _ (by omega)).symm
 ·exact (ziX s t _ (by omega)).symm
 ·exact (ziX s t _ (by omega)).symm
theorem zhw (s t:ByteArray) (i:Nat) (hi:i < s.size) (hg:¬ (rn s i=65533∧wd s i=1)):Utf8.decode (s++t) i=Utf8.decode s i:=by
 have e:=zhv s t i hi
 simp only [rn,wd] at hg
 rw [e] at hg ⊢
 rw [decode_at]
 exact zjD _ _ _ _ _ _ (by rw [ByteArray.size_append];omega) (by omega) (zfX _ _) (zfX _ _) (zfX _ _) (zfX _ _) hg
theorem zhu (s t:ByteArray) (i:Nat) (hi:i < s.size) (hw:i+wd (s++t) i≤s.size):Utf8.decode s i=Utf8.decode (s++t) i:=by
 by_cases hg:rn s i=65533∧wd s i=1
 ·by_cases hk:rn (s++t) i=65533∧wd (s++t) i=1
  ·exact Prod.ext (hg.1.trans hk.1.symm) (hg.2.trans hk.2.symm)
  ·have e:=zhv s t i hi
   have e2:Utf8.decode (s++t) i=decodeN ((s++t).size - i) (bt (s++t) i) (bt (s++t) (i+1)) (bt (s++t) (i+2)) (bt (s++t) (i+3)):=decode_at _ _
   rw [e,e2]
   simp only [rn,wd] at hk hw
   rw [e2] at hk hw
   exact zjE _ _ _ _ _ _ (by rw [ByteArray.size_append];omega) hk (by omega)
 ·exact (zhw s t i hi hg).symm
theorem zct (s t:ByteArray) (j:Nat):Utf8.decode (s++t) (s.size+j)=Utf8.decode t j:=by
 rw [decode_at,decode_at,ByteArray.size_append,show s.size+t.size - (s.size+j)=t.size - j by omega]
 have h:=zpM s t
 unfold bt at h
 rw [h j,show s.size+j+1=s.size+(j+1) by omega,h,show s.size+j+2=s.size+(j+2) by omega,h,show s.size+j+3=s.size+(j+3) by omega,h]

theorem zdU (s t:ByteArray):∀ f j,zak (s++t) f (s.size+j)=(zak t f j).map (s.size + ·)
 | 0,j =>rfl
 | f+1,j =>by
  unfold zak
  rw [ByteArray.size_append]
  by_cases h:j < t.size
  ·rw [if_pos (by omega),if_pos h,List.map_cons]
   have e:wd (s++t) (s.size+j)=wd t j:=by simp only [wd];rw [zct]
   rw [e,Nat.add_assoc,zdU s t f]
  ·rw [if_neg (by omega),if_neg h];rfl
theorem zdk (s:ByteArray):∀ f g i,s.size≤i+f→s.size≤i+g→zak s f i=zak s g i
 | 0,g,i,hf,hg =>by rw [zay s g i (by omega)];rfl
 | f+1,0,i,hf,hg =>by rw [zay s (f+1) i (by omega)];rfl
 | f+1,g+1,i,hf,hg =>by
  unfold zak
  by_cases h:i < s.size
  ·have:=zcx s i
   rw [if_pos h,if_pos h,zdk s f g _ (by omega) (by omega)]
  ·rw [if_neg h,if_neg h]
theorem zeG (s t:ByteArray) (hb:bdB (s++t) s.size=true):∀ f i,s.size+t.size≤i+f→i≤s.size→bdB (s++t) i=true →
  zak (s++t) f i=zak s f i++(zai t).map (s.size + ·)∧∀ p ∈ zak s f i,Utf8.decode s p=Utf8.decode (s++t) p
 | 0,i,hf,hi,hbi =>by
  have:s.size=0∨t.size=0:=by omega
  have ht:t.size=0:=by omega
  refine ⟨?_,fun p hp =>by cases hp⟩
  rw [show zai t=[] from zay t _ _ (by omega)]
  rfl
 | f+1,i,hf,hi,hbi =>by
  by_cases h:i < s.size
  ·have hw:=zcx (s++t) i
   have hr:i+wd (s++t) i≤s.size:=by
    rcases Nat.lt_or_ge s.size (i+wd (s++t) i) with hx | hx
    ·have h4:=zir (s++t) i
     have:=(zfl (s++t) s.size).1 hb (s.size - i) (by omega) (by omega) (by omega)
     rw [show s.size - (s.size - i)=i by omega] at this
     omega
    ·exact hx
   have e:=zhu s t i h hr
   have ew:wd s i=wd (s++t) i:=by simp only [wd];rw [e]
   obtain ⟨h1,h2⟩:=zeG s t hb f (i+wd (s++t) i) (by omega) hr (ziZ (s++t) i hbi (by rw [ByteArray.size_append];omega))
   rw [zar (s++t) f i (by rw [ByteArray.size_append];omega),zar s f i h,h1,ew]
   refine ⟨rfl,fun p hp =>?_⟩
   rcases List.mem_cons.1 hp with rfl | hp
   ·exact e
   ·exact h2 p hp
  ·obtain rfl:i=s.size:=by omega
   rw [zay s _ _ h]
   refine ⟨?_,fun p hp =>by cases hp⟩
   have:=zdU s t (f+1) 0
   rw [List.nil_append,show zai t=zak t (f+1) 0 from zdk t _ _ _ (by omega) (by omega)]
   exact this
theorem zed (s t:ByteArray) (hb:bdB (s++t) s.size=true):zai (s++t)=zai s++(zai t).map (s.size + ·)∧(∀ p ∈ zai s,Utf8.decode s p=Utf8.decode (s++t) p):=by
 obtain ⟨h1,h2⟩:=zeG s t hb (s.size+t.size) 0 (by omega) (by omega) (zhG _)
 have e:zak s (s.size+t.size) 0=zai s:=zdk s _ _ _ (by omega) (by omega)
 rw [e] at h1 h2
 refine ⟨?_,h2⟩
 unfold zai
 rw [ByteArray.size_append]
 exact h1
theorem zfq (s t:ByteArray) (hb:bdB (s++t) s.size=true):zah (s++t)=zah s++zah t:=by
 obtain ⟨h1,h2⟩:=zed s t hb
 unfold zah
 rw [h1,List.map_append,List.map_map]
 congr 1
 ·refine List.map_congr_left (fun p hp =>?_)
  simp only [rn]
  rw [h2 p hp]
 ·refine List.map_congr_left (fun p hp =>?_)
  simp only [Function.comp,rn]
  rw [zct]
theorem znB (l:List Int):∀ r:ByteArray,l.foldl (fun r n =>r++Utf8.encode n) r=r++l.foldl (fun r n =>r++Utf8.encode n) ByteArray.empty:=by
 induction l with
 | nil =>intro r;simp
 | cons a l ih =>
  intro r
  rw [List.foldl_cons,ih,List.foldl_cons,ih (ByteArray.empty++Utf8.encode a),ByteArray.append_assoc]
  simp
theorem zg9 (a b:List Int):runesBytes (a++b)=runesBytes a++runesBytes b:=by
 unfold runesBytes
 rw [List.foldl_append,znB b]
theorem znr (s:ByteArray) (p:Nat) (h:p≤s.size):zeQ (s.extract 0 p) (s.extract p s.size)=bdB s p:=by
 unfold zeQ
 have e0:(s.extract 0 p).size=p:=by rw [ByteArray.size_extract];omega
 have e1:(s.extract p s.size).size=s.size - p:=by rw [ByteArray.size_extract];omega
 rw [e0,e1,ByteArray.extract_extract,ByteArray.extract_extract]
 symm
 refine zq9 s _ p _ h ?_ ?_ ?_ ?_
 ·rw [ByteArray.size_append,ByteArray.size_extract,ByteArray.size_extract];omega
 ·omega
 ·rw [ByteArray.size_append,ByteArray.size_extract,ByteArray.size_extract];omega
 ·intro i j hij hi hj h3 h4
  rw [ByteArray.size_append,ByteArray.size_extract,ByteArray.size_extract] at hj
  unfold bt
  rw [zgj,ByteArray.size_extract]
  split
  ·rw [zfu _ _ _ _ (by omega) (by omega)]
   congr 2;omega
  ·rw [zfu _ _ _ _ (by omega) (by omega)]
   congr 2;omega
theorem ziI (s t:ByteArray):zeQ s t=bdB (s++t) s.size:=by
 have:=znr (s++t) s.size (by rw [ByteArray.size_append];omega)
 rw [ByteArray.extract_append_eq_left rfl,ByteArray.extract_append_eq_right rfl (by rw [ByteArray.size_append])] at this
 exact this
theorem zfh (s:ByteArray):∀ f i,s.size≤i+f→bdB s i=true→∀ p,i≤p→p < s.size→bdB s p=true→p ∈ zak s f i
 | 0,i,hf,hb,p,h1,h2,hp =>by omega
 | f+1,i,hf,hb,p,h1,h2,hp =>by
  have hi:i < s.size:=by omega
  have hw:=zcx s i
  have h4:=zir s i
  rw [zar s f i hi,List.mem_cons]
  by_cases e:p=i
  ·exact .inl e
  ·refine .inr ?_
   rcases Nat.lt_or_ge p (i+wd s i) with hlt | hge
   ·have:=(zfl s p).1 hp (p - i) (by omega) (by omega) (by omega)
    rw [show p - (p - i)=i by omega] at this
    omega
   ·exact zfh s f (i+wd s i) (by omega) (ziZ s i hb hi) p hge h2 hp
theorem zlt (s:ByteArray) (p:Nat) (h:p < s.size) (hb:bdB s p=true):p ∈ zai s:=zfh s s.size 0 (by omega) (zhG s) p (Nat.zero_le _) h hb

end Go.Proofs.YtmemedpoaocdkaaGreat
namespace Go.Proofs.YtmemedpoaocdkaaGreat
open Go.RowKit Go.Shelf
set_option linter.unusedVariables false
theorem zr6 {a b:Bool} (h:a=b):Ending.returned (.bool a)=.returned (.bool b):=by rw [h]
end Go.Proofs.YtmemedpoaocdkaaGreat
namespace Go.Proofs.YtmemedpoaocdkaaGreat
open Go.Lib (decode_at)
set_option linter.unusedVariables false

theorem zhz (t:ByteArray) (k:Nat) (h:k < t.size):bt t k=(t[k]'h).toNat:=by unfold bt;rw [zfj t k h];rfl

end Go.Proofs.YtmemedpoaocdkaaGreat
namespace Go.Proofs.YtmemedpoaocdkaaGreat
open Go.RowKit Go.Shelf
set_option linter.unusedVariables false
theorem zlp (t:ByteArray) (h:t.size=0):t=ByteArray.empty:=by
 apply ByteArray.ext
 apply Array.eq_empty_of_size_eq_zero
 exact h
structure Above (B:Nat) (W W':World):Prop where
 size:W.heap.size≤W'.heap.size
 same:∀ k,B≤k→k < W.heap.size→W'.heap[k]?=W.heap[k]?
theorem Above.refl (B:Nat) (W:World):Above B W W:=⟨Nat.le_refl _,fun _ _ _ =>rfl⟩
theorem Above.trans {B:Nat} {X Y Z:World} (h:Above B X Y) (k:Above B Y Z):Above B X Z:=⟨Nat.le_trans h.size k.size,fun i hB hi =>(k.same i hB (by have:=h.size;omega)).trans (h.same i hB hi)⟩
theorem Above.mono {B B':Nat} {X Y:World} (h:Above B X Y) (hB:B≤B'):Above B' X Y:=⟨h.size,fun i hi hk =>h.same i (by omega) hk⟩
theorem Above.set {B b i:Nat} {X Y:World} (h:Above B X Y) (hb:b < B) (v:Value):Above B X (Y.setCell ⟨b,i,none⟩ v):=h.trans ⟨(KeepsWalks.setCell Y _ v).size,fun k hk _ =>Below.heap_setCell Y ⟨b,i,none⟩ v k (by show k≠b;omega)⟩
theorem Above.put {B l:Nat} {X Y:World} (h:Above B X Y) (hl:l < B) (o:Obj):Above B X (Y.putObj l o):=h.trans ⟨by simp,fun k hk _ =>World.putObj_heap_other (by omega)⟩
theorem zcT {B l:Nat} (W:World) (hl:B≤l) (o:Obj):Below B W (W.putObj l o):=⟨rfl,rfl,rfl,by simp,fun k hk =>World.putObj_heap_other (by omega)⟩
def Old {β : Type} (B:Nat) (I : β→World→Prop):Prop := ∀ s X Y,I s X→Below B X Y→I s Y
def zn1 {α : Type} (F:Fence) (n:Nat) (P:Program) (g:Nat) (lb:Array Value) (encs : α→Array Value) (Kp:World→World→Prop) (S Sp:List α→Prop) (Nx:List α→α→Prop) (w:World):Prop :=
 ∀ (l:Nat) (J Jx:List α→World→Prop) (W:World),Below w.heap.size w W→Old W.heap.size J→Old W.heap.size Jx →
  (∀ pre x W1,J pre W1→Nx pre x→W.heap.size≤W1.heap.size→YieldAt F (n - 1) P l (encs x) W1 fun e W' =>Above W.heap.size W1 W' ∧
   ((e=.returned (.bool true)∧J (pre++[x]) W'∧Kp W1 W')∨(e=.returned (.bool false)∧Jx (pre++[x]) W'))) →
  J [] W→CallsIn F n P g (#[.func (.yield l) #[] #[]]++lb) W fun e W' =>(∃ v,e=.returned v)∧((∃ xs,S xs∧J xs W')∨(∃ pre,Sp pre∧Jx pre W'))
def zpF {α : Type} (B:Nat) (Kp:World→World→Prop) (I:List α→World→Prop) (Ix:Code→List α→World→Prop) (xs:List α) (W:World):Exit→Act→World→Prop
 | .normal,_,W' =>Above B W W'∧Kp W W'∧I xs W'
 | .ret,_,W' =>Above B W W'∧Ix .ret xs W'
 | .exit id,_,W' =>Above B W W'∧Ix (.exit id) xs W'
 | .goto t,_,W' =>Above B W W'∧Ix (.goto t) xs W'
 | .panic _,_,_ =>False
 | .outgrown,_,_ =>False
section
variable {F:Fence} {n:Nat} {P:Program}
theorem znE {l D:Nat} {r:Loop} {Wr W3:World} {B:Nat} (hl:Wr.heap[l]?=some (.loop r)) (hD:Wr.heap[D]?=some (.deferred (some []))) (hlD:l≠D) (hBl:B≤l) (hBD:B≤D) (h:Above B Wr W3) (jump:Option Code) :
  (Instr.endRound l jump).run P W3=.ok (.bool jump.isNone) (W3.putObj l (.loop { r with state:=if jump.isNone then .ready else .done,pending:=jump })) ∧
  (W3.putObj l (.loop { r with state:=if jump.isNone then .ready else .done,pending:=jump })).heap[l]?=some (.loop { r with state:=if jump.isNone then .ready else .done,pending:=jump }) ∧
  (W3.putObj l (.loop { r with state:=if jump.isNone then .ready else .done,pending:=jump })).heap[D]?=some (.deferred (some [])):=by
 have h1:=(h.same l hBl (Array.getElem?_eq_some_iff.1 hl).1).trans hl
 have h2:=(h.same D hBD (Array.getElem?_eq_some_iff.1 hD).1).trans hD
 exact ⟨run_endRound jump h1,World.putObj_heap_same (Array.getElem?_eq_some_iff.1 h1).1,(World.putObj_heap_other (Ne.symm hlD)).trans h2⟩
def Booked (B:Nat) (st:LoopState) (pe:Option Code) (r:Loop) (W:World):Prop:=W.heap[B+1]?=some (.loop { r with state:=st,pending:=pe })∧W.heap[B]?=some (.deferred (some []))
theorem Booked.below {B:Nat} {st:LoopState} {pe:Option Code} {r:Loop} {X Y:World} (h:Booked B st pe r X) (hb:Below (B+2) X Y):Booked B st pe r Y:=⟨(hb.block _ (by omega)).trans h.1,(hb.block _ (by omega)).trans h.2⟩
theorem zlG {α : Type} {g:Operand} {ps:Array Tmp} {assign body:Code} {Q:Exit→Act→World→Prop} {a:Act} {w:World}
  (hro:F.round=none) (h1:1≤n) {gf:Nat} {lb:Array Value} (hg:a.eval g=.func (.func gf) #[] lb) (hFg:F.fn gf) (eg:∀ args w,(callFunc gf args).run P w=.ok (.enter gf args) w)
  {encs : α→Array Value} {Kp:World→World→Prop} {S Sp:List α→Prop} {Nx:List α→α→Prop} {w0:World} (hseq:zn1 F (n - 1) P gf lb encs Kp S Sp Nx w0)
  (hKt:∀ {A B C:World},Kp A B→Kp B C→Kp A C) (hKb:∀ (W:World) (l:Nat) (o:Obj),w.heap.size≤l→Kp W (W.putObj l o)) (hb0:Below w0.heap.size w0 w) (hps:∀ x,(encs x).size=ps.size)
  (I:List α→World→Prop) (Ix:Code→List α→World→Prop) (hI:Old w.heap.size I) (hIx:∀ c,Old w.heap.size (Ix c)) (h0:I [] w)
  (hround : ∀ (pre : List α) (x : α) (W : World), I pre W → Nx pre x → w.heap.size + 2 ≤ W.heap.size →
    assign.wpIn (F.inRound (w.heap.size+1)) (n - 1 - 1) P (Exit.then (fun a' Wa =>Above w.heap.size W Wa∧Kp W Wa∧I pre Wa ∧
      (∀ Wr,Wa.grownBy Wr (some (w.heap.size+1))→Wr.heap.size=Wa.heap.size→I pre Wr→body.wpIn (F.inRound (w.heap.size+1)) (n - 1 - 1) P (zpF w.heap.size Kp I Ix (pre++[x]) Wr) a' Wr)) (fun _ _ _ =>False))
      { tmps:=(ps.zip (encs x)).foldl (fun t (p,v) =>t.setIfInBounds p v) a.tmps,defers := [] } W)
  (hdone:∀ (D:Nat) (xs:List α) (W:World),w.heap.size≤D→S xs→I xs W→W.heap[D]?=some (.deferred (some []))→Q .normal { a with defers:={ target := .collected D,args:=#[] } :: a.defers } W)
  (hstop:∀ (D:Nat) (c:Code) (pre:List α) (W:World),w.heap.size≤D→Sp pre→Ix c pre W→W.heap[D]?=some (.deferred (some []))→c.wpIn F n P Q { a with defers:={ target := .collected D,args:=#[] } :: a.defers } W) :
  (Code.rangeFunc g ps assign body).wpIn F n P Q a w:=by
 refine wpIn_rangeFunc fun fn hfn =>?_
 rw [hro]
 obtain ⟨r,hr⟩:∃ r:Loop,r = { state := .ready,pending:=none,fn,tmps:=a.tmps,params:=ps,assign,body,defers:=w.heap.size }:=⟨_,rfl⟩
 have r1:r.state=.ready:=by rw [hr]
 have r2:r.pending=none:=by rw [hr]
 obtain ⟨W1,hW1⟩:∃ W1,W1=(w.alloc (.deferred (some []))).alloc (.loop r):=⟨_,rfl⟩
 have hsz:W1.heap.size=w.heap.size+2:=by rw [hW1];simp
 have hbw:Below w.heap.size w W1:=by rw [hW1];exact ((Below.refl _ w).alloc (Nat.le_refl _) _).alloc (by simp) _
 have hre : { r with state := .ready,pending:=none }=r:=by rw [hr]
 have hbk:Booked w.heap.size .ready none r W1:=by
  refine ⟨?_, ?_⟩
  ·rw [hre,hW1]
   have:=World.alloc_heap_new (w.alloc (.deferred (some []))) (.loop r)
   rwa [World.size_alloc] at this
  ·rw [hW1]
   exact (Below.heap_alloc _ _ _ (by simp)).trans (World.alloc_heap_new w _)
 refine ⟨w.heap.size+1,[{ target := .collected w.heap.size,args:=#[] }],W1, { target := .fn (.func gf) lb,args:=#[.func (.yield (w.heap.size+1)) #[] #[]] },W1,gf,#[.func (.yield (w.heap.size+1)) #[] #[]]++lb,W1, ?_, ?_, ?_, ?_,fun _ =>h1, ?_⟩
 ·rw [hW1,hr]
  exact run_enterLoop_outer _ _ _ _ _
 ·simp only [resolve,hg]
  simp [go_sem]
 ·intro f' hf'
  simp [Target.leads] at hf'
  subst hf'
  exact hFg
 ·simp [invoke,go_sem,eg]
 ·refine (hseq (w.heap.size+1) (fun pre W =>I pre W∧Booked w.heap.size .ready none r W) (fun pre W => ∃ c,Ix c pre W∧Booked w.heap.size .done (some c) r W) W1 (hb0.trans (hbw.mono hb0.size))
   (fun s X Y hs hb =>⟨hI s X Y hs.1 (hb.mono (by omega)),hs.2.below (by rw [← hsz];exact hb)⟩)
   (fun s X Y hs hb =>by obtain ⟨c,h1,h2⟩:=hs;exact ⟨c,hIx c s X Y h1 (hb.mono (by omega)),h2.below (by rw [← hsz];exact hb)⟩) ?_ ⟨hI [] w W1 h0 hbw,hbk⟩).mono ?_
  ·rintro pre x W ⟨hi,hl,hd⟩ hlen hge
   rw [hre] at hl
   have hy:=run_yield (P:=P) (args:=encs x) hl (by rw [hr];exact hps x)
   refine ⟨r.fn,_,r.assign,r.body,hy,roundIn_of_wpIn (by rw [hr];exact hfn) ?_⟩
   rw [show r.params=ps by rw [hr],show r.tmps=a.tmps by rw [hr],show r.assign=assign by rw [hr],show r.body=body by rw [hr]]
   refine wpIn_mono (hround pre x W hi hlen (by omega)) ?_
   intro e a' Wa hp
   cases e with
   | normal =>
    obtain ⟨hab,hkp,hia,hgo⟩:=hp
    have hl':=(hab.same _ (by omega) (Array.getElem?_eq_some_iff.1 hl).1).trans hl
    have hd':=(hab.same _ (Nat.le_refl _) (Array.getElem?_eq_some_iff.1 hd).1).trans hd
    refine ⟨_,run_beginRound hl' r1, ?_⟩
    have hgw:=grownBy_putObj' Wa (w.heap.size+1) (.loop { r with state := .busy })
    obtain ⟨Wr,hWr⟩:∃ Wr,Wr=Wa.putObj (w.heap.size+1) (.loop { r with state := .busy }):=⟨_,rfl⟩
    rw [← hWr] at hgw ⊢
    have hlr:Wr.heap[w.heap.size+1]?=some (.loop { r with state := .busy }):=by rw [hWr];exact World.putObj_heap_same (Array.getElem?_eq_some_iff.1 hl').1
    have hdr:Wr.heap[w.heap.size]?=some (.deferred (some [])):=by rw [hWr];exact (World.putObj_heap_other (by omega)).trans hd'
    have hkr:Kp Wa Wr:=by rw [hWr];exact hKb _ _ _ (by omega)
    have har:Above W1.heap.size W Wr:=by rw [hWr];exact (hab.mono (by omega)).put (by omega) _
    have hir:I pre Wr:=hI _ _ _ hia (by rw [hWr];exact zcT Wa (by omega) _)
    refine wpIn_mono (hgo Wr hgw (by rw [hWr];simp) hir) ?_
    intro e a3 W3 hp
    have fin:∀ jump:Option Code,Above w.heap.size Wr W3→(Instr.endRound (w.heap.size+1) jump).run P W3=.ok (.bool jump.isNone) (W3.putObj (w.heap.size+1) (.loop { r with state:=if jump.isNone then .ready else .done,pending:=jump }))∧Booked w.heap.size (if jump.isNone then .ready else .done) jump r (W3.putObj (w.heap.size+1) (.loop { r with state:=if jump.isNone then .ready else .done,pending:=jump }))∧Above W1.heap.size W (W3.putObj (w.heap.size+1) (.loop { r with state:=if jump.isNone then .ready else .done,pending:=jump })):=fun jump h =>by
     have q:=znE (P:=P) hlr hdr (by omega) (by omega) (Nat.le_refl _) h jump
     exact ⟨q.1,⟨q.2.1,q.2.2⟩,(har.trans (h.mono (by omega))).put (by omega) _⟩
    cases e with
    | normal =>
     obtain ⟨p1,p2,p3⟩:=hp
     obtain ⟨q1,q2,q3⟩:=fin none p1
     exact ⟨_,_,q1,q3,.inl ⟨rfl,⟨hI _ _ _ p3 (zcT W3 (by omega) _),q2⟩,hKt hkp (hKt hkr (hKt p2 (hKb _ _ _ (by omega))))⟩⟩
    | ret =>
     obtain ⟨p1,p3⟩:=hp
     obtain ⟨q1,q2,q3⟩:=fin (some .ret) p1
     exact ⟨_,_,q1,q3,.inr ⟨rfl,.ret,hIx _ _ _ _ p3 (zcT W3 (by omega) _),q2⟩⟩
    | exit id =>
     obtain ⟨p1,p3⟩:=hp
     obtain ⟨q1,q2,q3⟩:=fin (some (.exit id)) p1
     exact ⟨_,_,q1,q3,.inr ⟨rfl,.exit id,hIx _ _ _ _ p3 (zcT W3 (by omega) _),q2⟩⟩
    | goto t =>
     obtain ⟨p1,p3⟩:=hp
     obtain ⟨q1,q2,q3⟩:=fin (some (.goto t)) p1
     exact ⟨_,_,q1,q3,.inr ⟨rfl,.goto t,hIx _ _ _ _ p3 (zcT W3 (by omega) _),q2⟩⟩
    | panic ch =>exact hp.elim
    | outgrown =>exact hp.elim
   | ret =>exact hp.elim
   | exit id =>exact hp.elim
   | goto t =>exact hp.elim
   | panic ch =>exact hp.elim
   | outgrown =>exact hp.elim
  ·rintro e W2 ⟨⟨v,rfl⟩,(⟨xs,hS,hi,hb⟩ | ⟨pre,hSp,c,hi,hb⟩)⟩
   ·exact ⟨none,_,run_endLoop (P:=P) hb.1 (by simp),hdone _ xs _ (Nat.le_refl _) hS (hI _ _ _ hi (zcT W2 (by omega) _)) ((World.putObj_heap_other (by omega)).trans hb.2)⟩
   ·exact ⟨some c,_,run_endLoop (P:=P) hb.1 (by simp),hstop _ c pre _ (Nat.le_refl _) hSp (hIx c _ _ _ hi (zcT W2 (by omega) _)) ((World.putObj_heap_other (by omega)).trans hb.2)⟩
end




theorem zgD {B:Nat} {a w:World} (h:Below B a w) (n:Nat):Below B a (w.drewN n):=h.trans ⟨rfl,rfl,rfl,Nat.le_refl _,fun _ _ =>rfl⟩
theorem zbK {a b c:World} {row:Option Nat} (h:a.grownBy b row) (k:b.grownBy c row):a.grownBy c row :=
 ⟨k.os.trans h.os,k.tape.trans h.tape,k.output.trans h.output,Nat.le_trans h.size k.size,fun i hi hn =>(k.block i (by have:=h.size;omega) hn).trans (h.block i hi hn)⟩
theorem zaU (W:World) (B i:Nat) (v:Value):W.grownBy (W.setCell ⟨B,i,none⟩ v) (some B):=⟨rfl,rfl,rfl,(KeepsWalks.setCell W _ _).size,fun k hk hn =>Below.heap_setCell W ⟨B,i,none⟩ _ k (fun e =>hn (by rw [e]))⟩
theorem zsC {W:World} {N:Nat} {a0 a1 a2 a3 a4 a5 a6 a7:Value} {ty:TypeId} (h:Blk W N #[a0,a1,a2,a3,a4,a5,a6,a7] ty) (v0 v1 v2 v3 v4 v5 v6 v7:Value):Blk ((((((((W.setCell ⟨N,0,none⟩ v0).setCell ⟨N,1,none⟩ v1).setCell ⟨N,2,none⟩ v2).setCell ⟨N,3,none⟩ v3).setCell ⟨N,4,none⟩ v4).setCell ⟨N,5,none⟩ v5).setCell ⟨N,6,none⟩ v6).setCell ⟨N,7,none⟩ v7) N #[v0,v1,v2,v3,v4,v5,v6,v7] ty:=by
 have h0:Blk (_:World) N #[v0,a1,a2,a3,a4,a5,a6,a7] ty:=h.set 0 v0
 have h1:Blk (_:World) N #[v0,v1,a2,a3,a4,a5,a6,a7] ty:=h0.set 1 v1
 have h2:Blk (_:World) N #[v0,v1,v2,a3,a4,a5,a6,a7] ty:=h1.set 2 v2
 have h3:Blk (_:World) N #[v0,v1,v2,v3,a4,a5,a6,a7] ty:=h2.set 3 v3
 have h4:Blk (_:World) N #[v0,v1,v2,v3,v4,a5,a6,a7] ty:=h3.set 4 v4
 have h5:Blk (_:World) N #[v0,v1,v2,v3,v4,v5,a6,a7] ty:=h4.set 5 v5
 have h6:Blk (_:World) N #[v0,v1,v2,v3,v4,v5,v6,a7] ty:=h5.set 6 v6
 have h7:Blk (_:World) N #[v0,v1,v2,v3,v4,v5,v6,v7] ty:=h6.set 7 v7
 exact h7
theorem znw (W:World) (N:Nat) (v0 v1 v2 v3 v4 v5 v6 v7:Value):W.grownBy ((((((((W.setCell ⟨N,0,none⟩ v0).setCell ⟨N,1,none⟩ v1).setCell ⟨N,2,none⟩ v2).setCell ⟨N,3,none⟩ v3).setCell ⟨N,4,none⟩ v4).setCell ⟨N,5,none⟩ v5).setCell ⟨N,6,none⟩ v6).setCell ⟨N,7,none⟩ v7) (some N) :=
 zbK (zbK (zbK (zbK (zbK (zbK (zbK (zaU W N 0 v0) (zaU _ N 1 v1)) (zaU _ N 2 v2)) (zaU _ N 3 v3)) (zaU _ N 4 v4)) (zaU _ N 5 v5)) (zaU _ N 6 v6)) (zaU _ N 7 v7)
theorem znX {W:World} {B:Nat} {cs cs':Array Value} {t t':TypeId} (h:Blk W B cs t) (h':Blk W B cs' t'):t=t':=by
 have:=h.symm.trans h'
 injection this with e
 injection e
theorem zda {W W':World} {lo E sz n:Nat} {v:Value} {xs:List Value} {row:Option Nat} (h:W.ownsRow lo E sz v n xs) (hg:W.grownBy W' row) (hne:v.ownBlock=none∨v.ownBlock≠row):W'.ownsRow lo E sz v n xs:=by
 refine ⟨h.1, ?_⟩
 rcases h.2 with h2 | ⟨g,cap,cur,e,hb,h3,r⟩
 ·exact .inl h2
 ·refine .inr ⟨g,cap,cur,e,hb, ?_,r⟩
  subst e
  rw [hg.block g (Array.getElem?_eq_some_iff.1 h3).1 (by rcases hne with h4 | h4;exact absurd h4 (by simp [Value.ownBlock]);exact h4)]
  exact h3
theorem zkX {W:World} {base base' E E' sz sz' n n':Nat} {v v':Value} {xs xs':List Value} (h:W.ownsRow base E sz v n xs) (h':W.ownsRow base' E' sz' v' n' xs') (hE:E≠E'):v.ownBlock=none∨v.ownBlock≠v'.ownBlock:=by
 rcases h.2 with ⟨rfl,_⟩ | ⟨g,cap,cur,rfl,_,hg,_⟩
 ·exact .inl rfl
 ·refine .inr ?_
  rcases h'.2 with ⟨rfl,_⟩ | ⟨g',cap',cur',rfl,_,hg',_⟩
  ·simp [Value.ownBlock]
  ·simp only [Value.ownBlock]
   intro e
   have e:=Option.some.inj e
   subst e
   exact hE (znX (show Blk W g cur E from hg) (show Blk W g cur' E' from hg'))
theorem zbH {W:World} {lo E sz n:Nat} {v:Value} {xs:List Value} (h:W.ownsRow lo E sz v n xs):∀ k,v.ownBlock=some k→lo≤k:=by
 rcases h.2 with ⟨rfl,_⟩ | ⟨g,cap,cur,rfl,hl,hg,_⟩
 ·intro k e;simp [Value.ownBlock] at e
 ·intro k e;simp [Value.ownBlock] at e;omega
def zaW:List (Int × Int)→List Value
 | [] => []
 | x::t =>.int .i32 x.1::.int .i32 x.2::zaW t
structure Ln where
 E:Nat
 sz:Nat
 n:Nat
 xs:List Value
theorem zb4 {W:World} {lo E sz n:Nat} {v:Value} {xs:List Value} (h:W.ownsRow lo E sz v n xs):∀ k,v.ownBlock=some k→k < W.heap.size:=by
 rcases h.2 with ⟨rfl,_⟩ | ⟨g,cap,cur,rfl,hl,hg,_⟩
 ·intro k e;simp [Value.ownBlock] at e
 ·intro k e;simp [Value.ownBlock] at e;subst e;exact (Array.getElem?_eq_some_iff.1 hg).1
theorem zaL {W:World} {lo E sz n:Nat} {v:Value} {xs:List Value} (h:W.ownsRow lo E sz v n xs):∃ a c,v=.slice a n c:=by
 rcases h.2 with ⟨rfl,rfl⟩ | ⟨g,cap,cur,rfl,_⟩
 ·exact ⟨none,0,rfl⟩
 ·exact ⟨_,_,rfl⟩
end Go.Proofs.YtmemedpoaocdkaaGreat
