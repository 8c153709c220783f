/- Texts of this claim, one behind the other. -/
import Derived.Test.YtmemedpoaocdkaaGreatM1
import Derived.ArgAppend
import Derived.Laws.Rows
import Derived.RegionTactic
import Derived.Laws.Cover4
import Derived.Laws.IdiomStrings
import Derived.Test.YtmemedpoaocdkaaGreatShA
import Derived.Lib.QuietBelow
import Derived.Maps.AppendAt
import Derived.Laws.StructEq
import Derived.BigRegion
namespace Go.Proofs.YtmemedpoaocdkaaGreat
set_option linter.unusedVariables false
section
open Go.RowKit Go.Shelf
theorem zaR (W:World) (a:Addr) (v:Value):W.grownBy (W.setCell a v) (some a.block) :=
 ⟨rfl,rfl,rfl,by simp,fun k _ hk =>Below.heap_setCell _ _ _ k (fun e =>hk (by rw [e]))⟩
theorem zdG (g o j:Nat):(⟨g,o,none⟩:Addr).add j=⟨g,o+j,none⟩:=by unfold Addr.add;split <;> simp_all
def zpe:List Value→Nat→Value
 | [],_ =>undef
 | v::_,0 =>v
 | _::L,k+1 =>zpe L k
theorem zau {ds:List Deferred} {L:List Value} {G:(Nat→Value)→List Value} (h:L=G (zpe L)):∃ U,({ tmps:=L.toArray,defers:=ds }:Act) = { tmps:=(G U).toArray,defers:=ds }:=⟨_,by rw [← h]⟩
section
variable {P:Program} (w:World)
theorem zfN {ops:Array Oper} {o:Oper} {a:Act} {K:Act→World→Prop} {Q:Exit→Act→World→Prop} {E:Prop} (hgd:o.guard=none) (s x:Operand) (t:TypeId)
  (ho:o.op=.call { callee := .builtin .append,args:=#[s,x],argTypes:=#[t,t] }) (e:TypeId) (i:TypeInfo) (ht:P.underlying t=some (.slice e)) (hi:P.info? e=some i) (hs:a.eval s=.slice none 0 0) (b:Option Addr) (n c:Nat) (hn:n=0) (hx:a.eval x=.slice b n c)
  (h:K (a.put o.dst (.slice none 0 0)) w):if Region.wanted o (yielded ops a.tmps)=true then Oper.wp P o a w K Q else E:=by
 have hw:Region.wanted o (yielded ops a.tmps)=true:=by simp [Region.wanted,hgd]
 rw [if_pos hw]
 subst hn
 have hr:(Builtin.append_ #[t,t] o.type #[.slice none 0 0,.slice b 0 c]).run P w=.ok (.slice none 0 0) w:=by
  cases b <;> simp [Builtin.append_,run_underlying ht,sizeOf,typeInfo,hi,Builtin.lenOf,Builtin.firstCells,loadCells,loadCellsFrom]
 unfold Oper.wp execOp
 simp only [ho,resolve,invoke,builtin,Sem.run_bind,Sem.run_pure,Result.andThen_ok,List.map_toArray,List.map_cons,List.map_nil,hs,hx,hr]
 exact h
end
end
section
open Go.RowKit Go.Shelf
attribute [local go_sem] Oper.semAt_some
set_option maxRecDepth 100000
set_option maxHeartbeats 8000000
theorem zgJ (s:ByteArray) (hs:s.size≤maxLen) (w:World):Calls Tryz.prog 33 #[.string s] w fun e w' =>e=.returned (.int .i64 (zah s).length)∧Below w.heap.size w w':=by
 unfold maxLen at hs
 go_enter Tryz.func33,Tryz.ntmps33
 go_wp2
 go_loopw [3] (fun n w' => ∃ (pre:List Nat) (pos f:Nat),w'=w.iter s pos∧n=.int .i64 pre.length∧Hz (zah s=pre++zaj s f pos)∧s.size≤pos+f) (fun _ w' =>s.size - w'.iterPos w.heap.size)
 case atStart =>exact ⟨[],0,s.size,rfl,rfl,kz rfl,by omega⟩
 case round =>
  obtain ⟨pre,pos,f,rfl,rfl,HS,hf⟩:=hrel
  by_cases hp:pos < s.size
  ·have hnx:∀ ty,(Instr.next (.pointer (some ⟨w.heap.size,0,none⟩)) true ty).run Tryz.prog (w.iter s pos)=_:=fun ty =>run_next_any w s pos ty hp
   have hpl:(pre.length:Int) < 2 ^ 63 - 1:=by
    have h1:=zap s
    obtain ⟨g,rfl⟩:∃ g,f=g+1:=⟨f - 1,by omega⟩
    rw [oz HS,List.length_append,zar s g pos hp] at h1
    simp at h1
    omega
   go_wp2
   have hwd:=zbv s pos
   go_roundw
   case rel =>
    refine ⟨pre++[pos],pos+wd s pos,f - 1,rfl, ?_,kz ?_,by omega⟩
    ·rw [List.length_append];go_num
    ·obtain ⟨g,rfl⟩:∃ g,f=g+1:=⟨f - 1,by omega⟩
     rw [oz HS,zar s g pos hp];simp
   case measure =>
    simp
    simp only [wd] at hwd
    omega
  ·have hnx:∀ ty,(Instr.next (.pointer (some ⟨w.heap.size,0,none⟩)) true ty).run Tryz.prog (w.iter s pos)=_:=fun ty =>run_next_end w s pos ty hp
   have hst:=oz HS
   rw [zaH s f pos hp,List.append_nil] at hst
   have HST:=kz hst
   clear hst HS
   go_wp2
   go_ret
   exact ⟨by rw [oz HST];rfl,(Below.refl _ _).alloc (Nat.le_refl _) _⟩
def zak (s:ByteArray):List Int:=(zah s).map (fun i =>((rn s i:Nat):Int))
theorem zfA (s:ByteArray):∀ f i (acc:Array Value),Conv.runesFrom s f i acc=acc++((zaj s f i).map (fun i =>Value.int .i32 (rn s i))).toArray
 | 0,i,acc =>by simp [Conv.runesFrom,zaj]
 | f+1,i,acc =>by
  unfold Conv.runesFrom zaj
  split
  ·show Conv.runesFrom s f (i+wd s i) (acc.push (.int .i32 (rn s i)))=_
   rw [zfA s f]
   simp
  ·simp
theorem zeQ (s:ByteArray):Conv.runesFrom s s.size 0 #[]=((zak s).map (Value.int .i32)).toArray:=by
 rw [zfA];simp [zak,zah]
theorem zbD (s:ByteArray):(zak s).length=(zah s).length:=by simp [zak]
theorem zmh (s:ByteArray) (hs:s.size≤70368744177664) (w:World):Calls Tryz.prog 134 #[.string s] w fun e w' => ∃ cap,e=.returned (.slice (some ⟨w.heap.size,0,none⟩) (zak s).length cap)∧(zak s).length≤cap ∧
  (∃ cs:Array Value,w'=w.drew.alloc (.cells (((zak s).map (Value.int .i32)).toArray++cs) 21)):=by
 have hl:(Conv.runesFrom s s.size 0 #[]).size=(zak s).length:=by rw [zeQ];simp
 have h46:(Conv.runesFrom s s.size 0 #[]).size≤70368744177664:=by
  have:=zap s;rw [hl,zbD];omega
 have kc:=run_runes_of_string (P:=Tryz.prog) w 9 88 21 s Tryz.underlying9 Tryz.underlying88 Tryz.underlying21 h46
 have hge:=grownCap_ge w (Conv.runesFrom s s.size 0 #[]).size 0 21
 rw [hl] at hge
 rw [hl,zeQ] at kc
 generalize grownCap w (zak s).length 0 21=cap at kc hge
 generalize Array.replicate (cap - (zak s).length) (Value.int IntKind.i32 0)=cs at kc
 clear h46 hl
 go_enter Tryz.func134,Tryz.ntmps134
 go_wp2
 go_ret
 exact ⟨cap,rfl,hge,cs,rfl⟩
def zdm (s:ByteArray) (i:Nat):Bool:=decide (rn s i=65533∧wd s i=1)
end
section
open Go.RowKit Go.Shelf
open Go.Lib (decodeN decode_at)
theorem zm9 (l:List Int):∀ r:ByteArray,l.foldl (fun r n =>r++Utf8.encode n) r=r++l.foldl (fun r n =>r++Utf8.encode n) ByteArray.empty:=by
 induction l with
 | nil =>intro r;simp
 | cons a l ih =>
  intro r
  rw [List.foldl_cons,ih,List.foldl_cons,ih (ByteArray.empty++Utf8.encode a),ByteArray.append_assoc]
  simp
theorem zd6 (a b:List Int):runesBytes (a++b)=runesBytes a++runesBytes b:=by
 unfold runesBytes
 rw [List.foldl_append,zm9 b]
end
section
open Go.RowKit Go.Shelf
theorem zrh {a b:Bool} (h:a=b):Ending.returned (.bool a)=.returned (.bool b):=by rw [h]
end
section
open Go.Lib (decode_at)
def zaI (c:Nat):Nat × Nat :=
 if c < 194 then (0,0) else if c < 224 then (128,191) else if c=224 then (160,191) else if c < 237 then (128,191) else if c=237 then (128,159) else if c < 240 then (128,191)
 else if c=240 then (144,191) else if c < 244 then (128,191) else if c=244 then (128,143) else (0,0)
theorem zgi (c:Nat) (h:(zaI c).1≠0):(194≤c∧c < 224∧zaI c=(128,191))∨(c=224∧zaI c=(160,191))∨(((225≤c∧c < 237)∨(238≤c∧c < 240))∧zaI c=(128,191))∨(c=237∧zaI c=(128,159)) ∨
  (c=240∧zaI c=(144,191))∨(241≤c∧c < 244∧zaI c=(128,191))∨(c=244∧zaI c=(128,143)):=by
 unfold zaI at h ⊢
 repeat' split at h
 all_goals simp_all
 all_goals omega
def zdX (b0:Nat):Nat:=if b0 < 224 then 2 else if b0 < 240 then 3 else 4
theorem zkK (b0:Nat):zdX b0=2∨zdX b0=3∨zdX b0=4:=by
 unfold zdX
 repeat' split
 all_goals simp
def zde (b0:Nat):Nat:=if b0 < 224 then b0 % 32 else if b0 < 240 then b0 % 16 else b0 % 8
def zdW (t:ByteArray):Nat→Nat
 | 0 =>0
 | 1 =>zde (bt t 0)
 | k+2 =>zdW t (k+1)*64+bt t (k+1) % 64
theorem zil (t:ByteArray) (k:Nat) (h:1≤k):zdW t (k+1)=zdW t k*64+bt t k % 64:=by
 obtain ⟨j,rfl⟩:∃ j,k=j+1:=⟨k - 1,by omega⟩
 rfl
def zio (t:ByteArray):Int × Int:=if t.size=0∨(rn t 0=65533∧wd t 0=1) then (0,0) else (wd t 0,rn t 0)
abbrev zqo (x:Int × Int):Value := .tuple #[.int .i64 x.1,.int .i32 x.2]
theorem zcd (t:ByteArray) (k:Nat) (h:k < t.size):bt t k=(t[k]'h).toNat:=by unfold bt;rw [zhq t k h];rfl
theorem zkO (t:ByteArray) (h:0 < t.size) (hb:bt t 0 < 128):zio t=(1,(bt t 0:Int)):=by
 have e:Utf8.decode t 0=(bt t 0,1):=by rw [decode_at];unfold Lib.decodeN;rw [if_pos hb]
 unfold zio
 rw [if_neg (by simp only [rn,wd,e];omega)]
 simp only [rn,wd,e]
 rfl
theorem zjj (t:ByteArray) (h:0 < t.size) (hb:128≤bt t 0) (x:Nat × Nat) (e:Lib.decodeN (t.size - 0) (bt t 0) (bt t 1) (bt t 2) (bt t 3)=x):zio t=if x.1=65533∧x.2=1 then (0,0) else ((x.2:Int),(x.1:Int)):=by
 have e':Utf8.decode t 0=x:=by rw [decode_at];exact e
 unfold zio
 simp only [rn,wd,e']
 have:¬ t.size=0:=by omega
 simp only [this,false_or]
theorem ziZ (n b0 b1 b2 b3:Nat) (h:128≤b0) (h0:b0 < 256) (hs:(zaI b0).1=0):Lib.decodeN n b0 b1 b2 b3=(65533,1):=by
 have hc:b0 < 194∨245≤b0:=by
  unfold zaI at hs
  repeat' split at hs
  all_goals simp at hs
  all_goals omega
 unfold Lib.decodeN
 repeat' split
 all_goals first | rfl | (exfalso;omega)
theorem zfI (n b0 b1 b2 b3:Nat) (hn:1≤n) (h1:b1 < 256) (h2:b2 < 256) (h3:b3 < 256) (hs:(zaI b0).1≠0) :
  Lib.decodeN n b0 b1 b2 b3=Lib.slowN n b0 b1 b2 b3 (zdX b0) (zaI b0).1 (zaI b0).2:=by
 rcases zgi b0 hs with ⟨a,b,e⟩ | ⟨a,e⟩ | ⟨a,e⟩ | ⟨a,e⟩ | ⟨a,e⟩ | ⟨a,b,e⟩ | ⟨a,e⟩
 ·rw [e,show zdX b0=2 by unfold zdX;rw [if_pos (by omega)]];exact (Lib.slow_C2 n b0 b1 b2 b3 hn h1 h2 h3 (by omega)).symm
 ·rw [e,show zdX b0=3 by unfold zdX;rw [if_neg (by omega),if_pos (by omega)]];exact (Lib.slow_E0 n b0 b1 b2 b3 hn h1 h2 h3 (by omega)).symm
 ·rw [e,show zdX b0=3 by unfold zdX;rw [if_neg (by omega),if_pos (by omega)]];exact (Lib.slow_E1 n b0 b1 b2 b3 hn h1 h2 h3 (by omega)).symm
 ·rw [e,show zdX b0=3 by unfold zdX;rw [if_neg (by omega),if_pos (by omega)]];exact (Lib.slow_ED n b0 b1 b2 b3 hn h1 h2 h3 (by omega)).symm
 ·rw [e,show zdX b0=4 by unfold zdX;rw [if_neg (by omega),if_neg (by omega)]];exact (Lib.slow_F0 n b0 b1 b2 b3 hn h1 h2 h3 (by omega)).symm
 ·rw [e,show zdX b0=4 by unfold zdX;rw [if_neg (by omega),if_neg (by omega)]];exact (Lib.slow_F1 n b0 b1 b2 b3 hn h1 h2 h3 (by omega)).symm
 ·rw [e,show zdX b0=4 by unfold zdX;rw [if_neg (by omega),if_neg (by omega)]];exact (Lib.slow_F4 n b0 b1 b2 b3 hn h1 h2 h3 (by omega)).symm
def zrd (t:ByteArray) (k:Nat):Prop := ∀ j,1≤j→j < k→j < t.size∧128≤bt t j∧bt t j≤191
theorem zmd (t:ByteArray) (h:0 < t.size) (hb:128≤bt t 0) (hs:(zaI (bt t 0)).1=0):zio t=(0,0):=by
 rw [zjj t h hb _ (ziZ _ _ _ _ _ hb (zd2 t 0) hs),if_pos ⟨rfl,rfl⟩]
theorem zfY (t:ByteArray) (h:0 < t.size) (hb:128≤bt t 0) (hs:(zaI (bt t 0)).1≠0)
  (hx:t.size < 2∨bt t 1 < (zaI (bt t 0)).1∨(zaI (bt t 0)).2 < bt t 1∨∃ k,1≤k∧k < zdX (bt t 0)∧(t.size≤k∨bt t k < 128∨191 < bt t k)):zio t=(0,0):=by
 rw [zjj t h hb _ (zfI _ _ _ _ _ (by omega) (zd2 t _) (zd2 t _) (zd2 t _) hs)]
 have hz:zdX (bt t 0)=2∨zdX (bt t 0)=3∨zdX (bt t 0)=4:=zkK _
 have hlo:128≤(zaI (bt t 0)).1∧(zaI (bt t 0)).2≤191:=by
  rcases zgi _ hs with ⟨a,b,e⟩ | ⟨a,e⟩ | ⟨a,e⟩ | ⟨a,e⟩ | ⟨a,e⟩ | ⟨a,b,e⟩ | ⟨a,e⟩ <;> rw [e] <;> simp
 have:Lib.slowN (t.size - 0) (bt t 0) (bt t 1) (bt t 2) (bt t 3) (zdX (bt t 0)) (zaI (bt t 0)).1 (zaI (bt t 0)).2=(65533,1):=by
  generalize (zaI (bt t 0)).1=lo at *
  generalize (zaI (bt t 0)).2=hi at *
  generalize zdX (bt t 0)=z at *
  have hx':t.size < 2∨bt t 1 < lo∨hi < bt t 1∨(t.size < z)∨(3≤z∧(bt t 2 < 128∨191 < bt t 2))∨(4≤z∧(bt t 3 < 128∨191 < bt t 3)):=by
   rcases hx with h | h | h | ⟨k,h1,h2,h3⟩
   ·exact .inl h
   ·exact .inr (.inl h)
   ·exact .inr (.inr (.inl h))
   ·rcases h3 with h3 | h3
    ·exact .inr (.inr (.inr (.inl (by omega))))
    ·have hk:k=1∨k=2∨k=3:=by omega
     rcases hk with rfl | rfl | rfl
     ·omega
     ·exact .inr (.inr (.inr (.inr (.inl ⟨by omega,h3⟩))))
     ·exact .inr (.inr (.inr (.inr (.inr ⟨by omega,h3⟩))))
  clear hx
  unfold Lib.slowN
  repeat' split
  all_goals first | rfl | (exfalso;omega)
 rw [this,if_pos ⟨rfl,rfl⟩]
theorem zgg (t:ByteArray) (h:0 < t.size) (hb:128≤bt t 0) (hs:(zaI (bt t 0)).1≠0) (h1:(zaI (bt t 0)).1≤bt t 1) (h2:bt t 1≤(zaI (bt t 0)).2) (hg:zrd t (zdX (bt t 0))) :
  zio t=((zdX (bt t 0):Int),(zdW t (zdX (bt t 0)):Int)):=by
 rw [zjj t h hb _ (zfI _ _ _ _ _ (by omega) (zd2 t _) (zd2 t _) (zd2 t _) hs)]
 have hz:(zdX (bt t 0)=2∧zde (bt t 0)=bt t 0 % 32)∨(zdX (bt t 0)=3∧zde (bt t 0)=bt t 0 % 16)∨(zdX (bt t 0)=4∧zde (bt t 0)=bt t 0 % 8):=by
  unfold zdX zde;repeat' split
  all_goals simp
 generalize (zaI (bt t 0)).1=lo at *
 generalize (zaI (bt t 0)).2=hi at *
 rcases hz with ⟨e,l⟩ | ⟨e,l⟩ | ⟨e,l⟩
 ·have g1:=hg 1 (by omega) (by omega)
  rw [e]
  have:Lib.slowN (t.size - 0) (bt t 0) (bt t 1) (bt t 2) (bt t 3) 2 lo hi=(bt t 0 % 32*64+bt t 1 % 64,2):=by
   unfold Lib.slowN
   repeat' split
   all_goals first | (exfalso;omega) | rfl
  rw [this,if_neg (by simp),show zdW t 2=zde (bt t 0)*64+bt t 1 % 64 from rfl,l]
 ·have g1:=hg 1 (by omega) (by omega)
  have g2:=hg 2 (by omega) (by omega)
  rw [e]
  have:Lib.slowN (t.size - 0) (bt t 0) (bt t 1) (bt t 2) (bt t 3) 3 lo hi=(bt t 0 % 16*4096+bt t 1 % 64*64+bt t 2 % 64,3):=by
   unfold Lib.slowN
   repeat' split
   all_goals first | (exfalso;omega) | rfl
  rw [this,if_neg (by simp),show zdW t 3=(zde (bt t 0)*64+bt t 1 % 64)*64+bt t 2 % 64 from rfl,l]
  rw [Prod.mk.injEq]
  exact ⟨rfl,by omega⟩
 ·have g1:=hg 1 (by omega) (by omega)
  have g2:=hg 2 (by omega) (by omega)
  have g3:=hg 3 (by omega) (by omega)
  rw [e]
  have:Lib.slowN (t.size - 0) (bt t 0) (bt t 1) (bt t 2) (bt t 3) 4 lo hi=(bt t 0 % 8*262144+bt t 1 % 64*4096+bt t 2 % 64*64+bt t 3 % 64,4):=by
   unfold Lib.slowN
   repeat' split
   all_goals first | (exfalso;omega) | rfl
  rw [this,if_neg (by simp),show zdW t 4=((zde (bt t 0)*64+bt t 1 % 64)*64+bt t 2 % 64)*64+bt t 3 % 64 from rfl,l]
  rw [Prod.mk.injEq]
  exact ⟨rfl,by omega⟩
end
section
open Go.RowKit Go.Shelf
theorem zkJ (t:ByteArray) (h:t.size=0):t=ByteArray.empty:=by
 apply ByteArray.ext
 apply Array.eq_empty_of_size_eq_zero
 exact h
structure Above (B:Nat) (W W':World):Prop where
 size:W.heap.size≤W'.heap.size
 same:∀ k,B≤k→k < W.heap.size→W'.heap[k]?=W.heap[k]?
theorem Above.refl (B:Nat) (W:World):Above B W W:=⟨Nat.le_refl _,fun _ _ _ =>rfl⟩
theorem Above.trans {B:Nat} {X Y Z:World} (h:Above B X Y) (k:Above B Y Z):Above B X Z:=⟨Nat.le_trans h.size k.size,fun i hB hi =>(k.same i hB (by have:=h.size;omega)).trans (h.same i hB hi)⟩
theorem Above.mono {B B':Nat} {X Y:World} (h:Above B X Y) (hB:B≤B'):Above B' X Y:=⟨h.size,fun i hi hk =>h.same i (by omega) hk⟩
theorem Above.below {B:Nat} {X Y:World} (h:Below X.heap.size X Y):Above B X Y:=⟨h.size,fun k _ hk =>h.block k hk⟩
theorem Above.set {B b i:Nat} {X Y:World} (h:Above B X Y) (hb:b < B) (v:Value):Above B X (Y.setCell ⟨b,i,none⟩ v):=h.trans ⟨(KeepsWalks.setCell Y _ v).size,fun k hk _ =>Below.heap_setCell Y ⟨b,i,none⟩ v k (by show k≠b;omega)⟩
theorem Above.put {B l:Nat} {X Y:World} (h:Above B X Y) (hl:l < B) (o:Obj):Above B X (Y.putObj l o):=h.trans ⟨by simp,fun k hk _ =>World.putObj_heap_other (by omega)⟩
theorem zce {B l:Nat} (W:World) (hl:B≤l) (o:Obj):Below B W (W.putObj l o):=⟨rfl,rfl,rfl,by simp,fun k hk =>World.putObj_heap_other (by omega)⟩
def Old {β : Type} (B:Nat) (I : β→World→Prop):Prop := ∀ s X Y,I s X→Below B X Y→I s Y
def zgW {α : Type} (F:Fence) (n:Nat) (P:Program) (g:Nat) (lb:Array Value) (encs : α→Array Value) (Kp:World→World→Prop) (S Sp:List α→Prop) (Nx:List α→α→Prop) (w:World):Prop :=
 ∀ (l:Nat) (J Jx:List α→World→Prop) (W:World),Below w.heap.size w W→Old W.heap.size J→Old W.heap.size Jx →
  (∀ pre x W1,J pre W1→Nx pre x→W.heap.size≤W1.heap.size→YieldAt F (n - 1) P l (encs x) W1 fun e W' =>Above W.heap.size W1 W' ∧
   ((e=.returned (.bool true)∧J (pre++[x]) W'∧Kp W1 W')∨(e=.returned (.bool false)∧Jx (pre++[x]) W'))) →
  J [] W→CallsIn F n P g (#[.func (.yield l) #[] #[]]++lb) W fun e W' =>(∃ v,e=.returned v)∧((∃ xs,S xs∧J xs W')∨(∃ pre,Sp pre∧Jx pre W'))
def zo3 {α : Type} (B:Nat) (Kp:World→World→Prop) (I:List α→World→Prop) (Ix:Code→List α→World→Prop) (xs:List α) (W:World):Exit→Act→World→Prop
 | .normal,_,W' =>Above B W W'∧Kp W W'∧I xs W'
 | .ret,_,W' =>Above B W W'∧Ix .ret xs W'
 | .exit id,_,W' =>Above B W W'∧Ix (.exit id) xs W'
 | .goto t,_,W' =>Above B W W'∧Ix (.goto t) xs W'
 | .panic _,_,_ =>False
 | .outgrown,_,_ =>False
section
variable {F:Fence} {n:Nat} {P:Program}
theorem znc {l D:Nat} {r:Loop} {Wr W3:World} {B:Nat} (hl:Wr.heap[l]?=some (.loop r)) (hD:Wr.heap[D]?=some (.deferred (some []))) (hlD:l≠D) (hBl:B≤l) (hBD:B≤D) (h:Above B Wr W3) (jump:Option Code) :
  (Instr.endRound l jump).run P W3=.ok (.bool jump.isNone) (W3.putObj l (.loop { r with state:=if jump.isNone then .ready else .done,pending:=jump })) ∧
  (W3.putObj l (.loop { r with state:=if jump.isNone then .ready else .done,pending:=jump })).heap[l]?=some (.loop { r with state:=if jump.isNone then .ready else .done,pending:=jump }) ∧
  (W3.putObj l (.loop { r with state:=if jump.isNone then .ready else .done,pending:=jump })).heap[D]?=some (.deferred (some [])):=by
 have h1:=(h.same l hBl (Array.getElem?_eq_some_iff.1 hl).1).trans hl
 have h2:=(h.same D hBD (Array.getElem?_eq_some_iff.1 hD).1).trans hD
 exact ⟨run_endRound jump h1,World.putObj_heap_same (Array.getElem?_eq_some_iff.1 h1).1,(World.putObj_heap_other (Ne.symm hlD)).trans h2⟩
def Booked (B:Nat) (st:LoopState) (pe:Option Code) (r:Loop) (W:World):Prop:=W.heap[B+1]?=some (.loop { r with state:=st,pending:=pe })∧W.heap[B]?=some (.deferred (some []))
theorem Booked.below {B:Nat} {st:LoopState} {pe:Option Code} {r:Loop} {X Y:World} (h:Booked B st pe r X) (hb:Below (B+2) X Y):Booked B st pe r Y:=⟨(hb.block _ (by omega)).trans h.1,(hb.block _ (by omega)).trans h.2⟩
theorem zdu {α : Type} {g:Operand} {ps:Array Tmp} {assign body:Code} {Q:Exit→Act→World→Prop} {a:Act} {w:World}
  (hro:F.round=none) (h1:1≤n) {gf:Nat} {lb:Array Value} (hg:a.eval g=.func (.func gf) #[] lb) (hFg:F.fn gf) (eg:∀ args w,(callFunc gf args).run P w=.ok (.enter gf args) w)
  {encs : α→Array Value} {Kp:World→World→Prop} {S Sp:List α→Prop} {Nx:List α→α→Prop} {w0:World} (hseq:zgW F (n - 1) P gf lb encs Kp S Sp Nx w0)
  (hKt:∀ {A B C:World},Kp A B→Kp B C→Kp A C) (hKb:∀ (W:World) (l:Nat) (o:Obj),w.heap.size≤l→Kp W (W.putObj l o)) (hb0:Below w0.heap.size w0 w) (hps:∀ x,(encs x).size=ps.size)
  (I:List α→World→Prop) (Ix:Code→List α→World→Prop) (hI:Old w.heap.size I) (hIx:∀ c,Old w.heap.size (Ix c)) (h0:I [] w)
  (hround : ∀ (pre : List α) (x : α) (W : World), I pre W → Nx pre x → w.heap.size + 2 ≤ W.heap.size →
    assign.wpIn (F.inRound (w.heap.size+1)) (n - 1 - 1) P (Exit.then (fun a' Wa =>Above w.heap.size W Wa∧Kp W Wa∧I pre Wa ∧
      (∀ Wr,Wa.grownBy Wr (some (w.heap.size+1))→Wr.heap.size=Wa.heap.size→I pre Wr→body.wpIn (F.inRound (w.heap.size+1)) (n - 1 - 1) P (zo3 w.heap.size Kp I Ix (pre++[x]) Wr) a' Wr)) (fun _ _ _ =>False))
      { tmps:=(ps.zip (encs x)).foldl (fun t (p,v) =>t.setIfInBounds p v) a.tmps,defers := [] } W)
  (hdone:∀ (D:Nat) (xs:List α) (W:World),w.heap.size≤D→S xs→I xs W→W.heap[D]?=some (.deferred (some []))→Q .normal { a with defers:={ target := .collected D,args:=#[] } :: a.defers } W)
  (hstop:∀ (D:Nat) (c:Code) (pre:List α) (W:World),w.heap.size≤D→Sp pre→Ix c pre W→W.heap[D]?=some (.deferred (some []))→c.wpIn F n P Q { a with defers:={ target := .collected D,args:=#[] } :: a.defers } W) :
  (Code.rangeFunc g ps assign body).wpIn F n P Q a w:=by
 refine wpIn_rangeFunc fun fn hfn =>?_
 rw [hro]
 obtain ⟨r,hr⟩:∃ r:Loop,r = { state := .ready,pending:=none,fn,tmps:=a.tmps,params:=ps,assign,body,defers:=w.heap.size }:=⟨_,rfl⟩
 have r1:r.state=.ready:=by rw [hr]
 have r2:r.pending=none:=by rw [hr]
 obtain ⟨W1,hW1⟩:∃ W1,W1=(w.alloc (.deferred (some []))).alloc (.loop r):=⟨_,rfl⟩
 have hsz:W1.heap.size=w.heap.size+2:=by rw [hW1];simp
 have hbw:Below w.heap.size w W1:=by rw [hW1];exact ((Below.refl _ w).alloc (Nat.le_refl _) _).alloc (by simp) _
 have hre : { r with state := .ready,pending:=none }=r:=by rw [hr]
 have hbk:Booked w.heap.size .ready none r W1:=by
  refine ⟨?_, ?_⟩
  ·rw [hre,hW1]
   have:=World.alloc_heap_new (w.alloc (.deferred (some []))) (.loop r)
   rwa [World.size_alloc] at this
  ·rw [hW1]
   exact (Below.heap_alloc _ _ _ (by simp)).trans (World.alloc_heap_new w _)
 refine ⟨w.heap.size+1,[{ target := .collected w.heap.size,args:=#[] }],W1, { target := .fn (.func gf) lb,args:=#[.func (.yield (w.heap.size+1)) #[] #[]] },W1,gf,#[.func (.yield (w.heap.size+1)) #[] #[]]++lb,W1, ?_, ?_, ?_, ?_,fun _ =>h1, ?_⟩
 ·rw [hW1,hr]
  exact run_enterLoop_outer _ _ _ _ _
 ·simp only [resolve,hg]
  simp [go_sem]
 ·intro f' hf'
  simp [Target.leads] at hf'
  subst hf'
  exact hFg
 ·simp [invoke,go_sem,eg]
 ·refine (hseq (w.heap.size+1) (fun pre W =>I pre W∧Booked w.heap.size .ready none r W) (fun pre W => ∃ c,Ix c pre W∧Booked w.heap.size .done (some c) r W) W1 (hb0.trans (hbw.mono hb0.size))
   (fun s X Y hs hb =>⟨hI s X Y hs.1 (hb.mono (by omega)),hs.2.below (by rw [← hsz];exact hb)⟩)
   (fun s X Y hs hb =>by obtain ⟨c,h1,h2⟩:=hs;exact ⟨c,hIx c s X Y h1 (hb.mono (by omega)),h2.below (by rw [← hsz];exact hb)⟩) ?_ ⟨hI [] w W1 h0 hbw,hbk⟩).mono ?_
  ·rintro pre x W ⟨hi,hl,hd⟩ hlen hge
   rw [hre] at hl
   have hy:=run_yield (P:=P) (args:=encs x) hl (by rw [hr];exact hps x)
   refine ⟨r.fn,_,r.assign,r.body,hy,roundIn_of_wpIn (by rw [hr];exact hfn) ?_⟩
   rw [show r.params=ps by rw [hr],show r.tmps=a.tmps by rw [hr],show r.assign=assign by rw [hr],show r.body=body by rw [hr]]
   refine wpIn_mono (hround pre x W hi hlen (by omega)) ?_
   intro e a' Wa hp
   cases e with
   | normal =>
    obtain ⟨hab,hkp,hia,hgo⟩:=hp
    have hl':=(hab.same _ (by omega) (Array.getElem?_eq_some_iff.1 hl).1).trans hl
    have hd':=(hab.same _ (Nat.le_refl _) (Array.getElem?_eq_some_iff.1 hd).1).trans hd
    refine ⟨_,run_beginRound hl' r1, ?_⟩
    have hgw:=grownBy_putObj' Wa (w.heap.size+1) (.loop { r with state := .busy })
    obtain ⟨Wr,hWr⟩:∃ Wr,Wr=Wa.putObj (w.heap.size+1) (.loop { r with state := .busy }):=⟨_,rfl⟩
    rw [← hWr] at hgw ⊢
    have hlr:Wr.heap[w.heap.size+1]?=some (.loop { r with state := .busy }):=by rw [hWr];exact World.putObj_heap_same (Array.getElem?_eq_some_iff.1 hl').1
    have hdr:Wr.heap[w.heap.size]?=some (.deferred (some [])):=by rw [hWr];exact (World.putObj_heap_other (by omega)).trans hd'
    have hkr:Kp Wa Wr:=by rw [hWr];exact hKb _ _ _ (by omega)
    have har:Above W1.heap.size W Wr:=by rw [hWr];exact (hab.mono (by omega)).put (by omega) _
    have hir:I pre Wr:=hI _ _ _ hia (by rw [hWr];exact zce Wa (by omega) _)
    refine wpIn_mono (hgo Wr hgw (by rw [hWr];simp) hir) ?_
    intro e a3 W3 hp
    have fin:∀ jump:Option Code,Above w.heap.size Wr W3→(Instr.endRound (w.heap.size+1) jump).run P W3=.ok (.bool jump.isNone) (W3.putObj (w.heap.size+1) (.loop { r with state:=if jump.isNone then .ready else .done,pending:=jump }))∧Booked w.heap.size (if jump.isNone then .ready else .done) jump r (W3.putObj (w.heap.size+1) (.loop { r with state:=if jump.isNone then .ready else .done,pending:=jump }))∧Above W1.heap.size W (W3.putObj (w.heap.size+1) (.loop { r with state:=if jump.isNone then .ready else .done,pending:=jump })):=fun jump h =>by
     have q:=znc (P:=P) hlr hdr (by omega) (by omega) (Nat.le_refl _) h jump
     exact ⟨q.1,⟨q.2.1,q.2.2⟩,(har.trans (h.mono (by omega))).put (by omega) _⟩
    cases e with
    | normal =>
     obtain ⟨p1,p2,p3⟩:=hp
     obtain ⟨q1,q2,q3⟩:=fin none p1
     exact ⟨_,_,q1,q3,.inl ⟨rfl,⟨hI _ _ _ p3 (zce W3 (by omega) _),q2⟩,hKt hkp (hKt hkr (hKt p2 (hKb _ _ _ (by omega))))⟩⟩
    | ret =>
     obtain ⟨p1,p3⟩:=hp
     obtain ⟨q1,q2,q3⟩:=fin (some .ret) p1
     exact ⟨_,_,q1,q3,.inr ⟨rfl,.ret,hIx _ _ _ _ p3 (zce W3 (by omega) _),q2⟩⟩
    | exit id =>
     obtain ⟨p1,p3⟩:=hp
     obtain ⟨q1,q2,q3⟩:=fin (some (.exit id)) p1
     exact ⟨_,_,q1,q3,.inr ⟨rfl,.exit id,hIx _ _ _ _ p3 (zce W3 (by omega) _),q2⟩⟩
    | goto t =>
     obtain ⟨p1,p3⟩:=hp
     obtain ⟨q1,q2,q3⟩:=fin (some (.goto t)) p1
     exact ⟨_,_,q1,q3,.inr ⟨rfl,.goto t,hIx _ _ _ _ p3 (zce W3 (by omega) _),q2⟩⟩
    | panic ch =>exact hp.elim
    | outgrown =>exact hp.elim
   | ret =>exact hp.elim
   | exit id =>exact hp.elim
   | goto t =>exact hp.elim
   | panic ch =>exact hp.elim
   | outgrown =>exact hp.elim
  ·rintro e W2 ⟨⟨v,rfl⟩,(⟨xs,hS,hi,hb⟩ | ⟨pre,hSp,c,hi,hb⟩)⟩
   ·exact ⟨none,_,run_endLoop (P:=P) hb.1 (by simp),hdone _ xs _ (Nat.le_refl _) hS (hI _ _ _ hi (zce W2 (by omega) _)) ((World.putObj_heap_other (by omega)).trans hb.2)⟩
   ·exact ⟨some c,_,run_endLoop (P:=P) hb.1 (by simp),hstop _ c pre _ (Nat.le_refl _) hSp (hIx c _ _ _ hi (zce W2 (by omega) _)) ((World.putObj_heap_other (by omega)).trans hb.2)⟩
end
set_option maxRecDepth 100000
set_option maxHeartbeats 8000000
theorem zeq (c:Nat) (w:World):Calls Tryz.prog 67 #[.int .u8 c] w fun e w' =>e=.returned (.tuple #[.int .u8 (zaI c).1,.int .u8 (zaI c).2])∧w'=w:=by
 have hc:(c < 194∧zaI c=(0,0))∨(194≤c∧c≤223∧zaI c=(128,191))∨(c=224∧zaI c=(160,191))∨(225≤c∧c≤236∧zaI c=(128,191))∨(c=237∧zaI c=(128,159))∨(c=238∧zaI c=(128,191))∨(c=239∧zaI c=(128,191)) ∨
   (c=240∧zaI c=(144,191))∨(241≤c∧c≤243∧zaI c=(128,191))∨(c=244∧zaI c=(128,143))∨(245≤c∧zaI c=(0,0)):=by
  unfold zaI
  repeat' split
  all_goals simp
  all_goals omega
 rcases hc with ⟨h,e⟩ | ⟨h,h',e⟩ | ⟨rfl,e⟩ | ⟨h,h',e⟩ | ⟨rfl,e⟩ | ⟨rfl,e⟩ | ⟨rfl,e⟩ | ⟨rfl,e⟩ | ⟨h,h',e⟩ | ⟨rfl,e⟩ | ⟨h,e⟩
 all_goals
  rw [e];clear e
  go_enter Tryz.func67,Tryz.ntmps67
  go_wp2
  go_ret2
  exact ⟨rfl,rfl⟩
theorem zl8 (t:ByteArray) (ht:t.size≤maxLen) (h:t.size=0∨(0 < t.size∧bt t 0 < 128)) (w:World):Calls Tryz.prog 44 #[.string t] w fun e w' =>e=.returned (zqo (zio t))∧w'=w:=by
 unfold maxLen at ht
 rcases h with h | ⟨h,hb⟩
 ·have HV:=kz (show zio t=(0,0) by unfold zio;rw [if_pos (.inl h)])
  have h':((t.size:Int) == 0)=true:=by simp [h]
  clear h
  go_enter Tryz.func44,Tryz.ntmps44
  go_wp2
  go_ret2
  exact ⟨by rw [oz HV];rfl,rfl⟩
 ·have HV:=kz (zkO t h hb)
  have hg:=zcd t 0 h
  obtain ⟨b0,e0⟩:∃ b0,(t[0]'h).toNat=b0:=⟨_,rfl⟩
  have HB:=kz (hg.trans e0)
  rw [hg,e0] at hb
  have hb':decide ((b0:Int) < 128)=true:=decide_eq_true (by omega)
  have hb2:(b0:Int) < 128:=by omega
  have h':((t.size:Int) == 0)=false:=beq_eq_false_iff_ne.2 (by omega)
  clear hg
  go_enter Tryz.func44,Tryz.ntmps44
  go_wp2
  go_ret2
  exact ⟨by rw [oz HV,oz HB];rfl,rfl⟩
theorem zkN (t:ByteArray) (ht:t.size≤maxLen) (h:0 < t.size) (hb:128≤bt t 0)
  (hx:(zaI (bt t 0)).1=0∨((zaI (bt t 0)).1≠0∧(t.size < 2∨(2≤t.size∧(bt t 1 < (zaI (bt t 0)).1∨((zaI (bt t 0)).1≤bt t 1∧(zaI (bt t 0)).2 < bt t 1)))))) (w:World) :
  Calls Tryz.prog 44 #[.string t] w fun e w' =>e=.returned (zqo (zio t))∧w'=w:=by
 have HV:Hz (zio t=(0,0)):=by
  rcases hx with hx | ⟨hs,hx⟩
  ·exact kz (zmd t h hb hx)
  ·refine kz (zfY t h hb hs ?_)
   rcases hx with hx | ⟨_,hx | ⟨_,hx⟩⟩
   ·exact .inl hx
   ·exact .inr (.inl hx)
   ·exact .inr (.inr (.inl hx))
 unfold maxLen at ht
 have hg:=zcd t 0 h
 obtain ⟨b0,e0⟩:∃ b0,(t[0]'h).toNat=b0:=⟨_,rfl⟩
 rw [hg,e0] at hx hb
 have h':((t.size:Int) == 0)=false:=beq_eq_false_iff_ne.2 (by omega)
 have hb':decide ((b0:Int) < 128)=false:=decide_eq_false (by omega)
 have HC:=kz (zeq b0)
 obtain ⟨lo,hlo⟩:∃ lo,(zaI b0).1=lo:=⟨_,rfl⟩
 obtain ⟨hi,hhi⟩:∃ hi,(zaI b0).2=hi:=⟨_,rfl⟩
 rw [hlo,hhi] at HC hx
 clear hlo hhi hg
 rcases hx with rfl | ⟨hs,hx⟩
 ·go_enter Tryz.func44,Tryz.ntmps44
  go_wp2_with fail
  refine (oz HC _).mono ?_
  rintro e w1 ⟨rfl,rfl⟩
  go_wp2
  go_ret2
  exact ⟨by rw [oz HV];rfl,rfl⟩
 ·have hs':((lo:Int) == 0)=false:=beq_eq_false_iff_ne.2 (by omega)
  rcases hx with hx | ⟨h2,hx⟩
  ·have hx':decide ((t.size:Int) < 2)=true:=decide_eq_true (by omega)
   clear hs
   go_enter Tryz.func44,Tryz.ntmps44
   go_wp2_with fail
   refine (oz HC _).mono ?_
   rintro e w1 ⟨rfl,rfl⟩
   go_wp2
   go_ret2
   exact ⟨by rw [oz HV];rfl,rfl⟩
  ·have hg1:=zcd t 1 h2
   obtain ⟨b1,e1⟩:∃ b1,(t[1]'h2).toNat=b1:=⟨_,rfl⟩
   rw [hg1,e1] at hx
   have h2':decide ((t.size:Int) < 2)=false:=decide_eq_false (by omega)
   have h3':(1:Int) < t.size:=by omega
   rcases hx with hx | ⟨hx1,hx2⟩
   ·have hx':decide (b1 < lo)=true:=decide_eq_true (by omega)
    clear hs hg1
    go_enter Tryz.func44,Tryz.ntmps44
    go_wp2_with fail
    refine (oz HC _).mono ?_
    rintro e w1 ⟨rfl,rfl⟩
    go_wp2
    go_ret2
    exact ⟨by rw [oz HV];rfl,rfl⟩
   ·have hx':decide (b1 < lo)=false:=decide_eq_false (by omega)
    have hx'':decide (hi < b1)=true:=decide_eq_true (by omega)
    clear hs hg1
    have hx1n:¬ b1 < lo:=by omega
    go_enter Tryz.func44,Tryz.ntmps44
    go_wp2_with fail
    refine (oz HC _).mono ?_
    rintro e w1 ⟨rfl,rfl⟩
    go_wp2
    go_ret2
    exact ⟨by rw [oz HV];rfl,rfl⟩
def zlp (k:Nat):Nat:=if k=1 then 32 else if k=2 then 2048 else if k=3 then 131072 else 8388608
theorem zii (k A c:Nat) (h1:1≤k) (h4:k < 4) (hA:A < zlp k):A < 33554432∧A*64+c % 64 < zlp (k+1):=by
 have:k=1∨k=2∨k=3:=by omega
 rcases this with rfl | rfl | rfl <;> simp [zlp] at hA ⊢ <;> omega
theorem zgc (A c:Nat) (hA:A < 33554432):bits BinOp.or IntKind.i32 (wrap32 (↑A*64)) (↑c % 64)=((A*64+c % 64:Nat):Int):=by
 rw [show wrap32 ((A:Int)*64)=(A:Int)*64 by unfold wrap32;omega]
 have h:=i32_or6 ((A:Int)*64) ((c:Int) % 64) (by omega) (by omega) (by omega) (by omega) (by omega)
 rw [h]
 omega
theorem zrX (b:Nat) (h:b < 256):bits BinOp.and IntKind.u8 (b:Int) 7=(b:Int) % 8:=by
 have e:=u8_and_nat b 7 h (by omega)
 rw [show ((7:Nat):Int)=7 from rfl] at e
 rw [e,show (7:Nat)=2 ^ 3 - 1 from rfl,Nat.and_two_pow_sub_one_eq_mod]
 omega
theorem zmb (t:ByteArray) (ht:t.size≤maxLen) (h2:2≤t.size) (hb:128≤bt t 0) (hq:bt t 0 < 224) (hs:(zaI (bt t 0)).1≠0) (hx1:(zaI (bt t 0)).1≤bt t 1) (hx2:bt t 1≤(zaI (bt t 0)).2) (w:World) :
  Calls Tryz.prog 44 #[.string t] w fun e w' =>e=.returned (zqo (zio t))∧w'=w:=by
 have h:0 < t.size:=by omega
 have hz:zdX (bt t 0)=2:=by
  unfold zdX;repeat' split
  all_goals omega
 have hl1:zdW t 1=bt t 0 % 32:=by
  show zde (bt t 0)=_
  unfold zde;repeat' split
  all_goals omega
 have hGG:=zgg t h hb hs hx1 hx2
 have hBB:=fun k h1 h2 h3 =>zfY t h hb hs (.inr (.inr (.inr ⟨k,h1,h2,h3⟩)))
 rw [hz] at hGG hBB
 have HG:=kz hGG
 have HB:=kz hBB
 clear hGG hBB hz
 unfold maxLen at ht
 have hg:=zcd t 0 h
 obtain ⟨b0,e0⟩:∃ b0,(t[0]'h).toNat=b0:=⟨_,rfl⟩
 have hg1:=zcd t 1 h2
 obtain ⟨b1,e1⟩:∃ b1,(t[1]'h2).toNat=b1:=⟨_,rfl⟩
 rw [hg,e0] at hb hs hx1 hx2 hl1 hq
 rw [hg1,e1] at hx1 hx2
 have HL:=kz hl1
 have h':((t.size:Int) == 0)=false:=beq_eq_false_iff_ne.2 (by omega)
 have hb':decide ((b0:Int) < 128)=false:=decide_eq_false (by omega)
 have HC:=kz (zeq b0)
 obtain ⟨lo,hlo⟩:∃ lo,(zaI b0).1=lo:=⟨_,rfl⟩
 obtain ⟨hi,hhi⟩:∃ hi,(zaI b0).2=hi:=⟨_,rfl⟩
 rw [hlo] at HC hx1 hs
 rw [hhi] at HC hx2
 have hs':((lo:Int) == 0)=false:=beq_eq_false_iff_ne.2 (by omega)
 have h2':decide ((t.size:Int) < 2)=false:=decide_eq_false (by omega)
 have h3':(1:Int) < t.size:=by omega
 have hx':decide (b1 < lo)=false:=decide_eq_false (by omega)
 have hx'':decide (hi < b1)=false:=decide_eq_false (by omega)
 have hx1n:¬ b1 < lo:=by omega
 have hx2n:¬ hi < b1:=by omega
 have hq1:(b0:Int) < 224:=by omega
 clear hs hx1 hx2 hg1 hg hlo hhi hl1 hq
 go_enter Tryz.func44,Tryz.ntmps44
 go_wp2_with fail
 refine (oz HC _).mono ?_
 rintro e w1 ⟨rfl,rfl⟩
 go_wp2_with fail
 go_loop [8,9] (fun r i => ∃ k:Nat,1≤k∧k≤2∧i=.int .i64 k∧r=.int .i32 (zdW t k)∧Hz (zrd t k)∧Hz (zdW t k < zlp k)) (fun _ i =>2 - (intOf i).toNat)
 case atStart =>exact ⟨1,by omega,by omega,rfl,by rw [oz HL];rfl,kz (fun j h1 h2 =>by omega),kz (by rw [oz HL];show _ < 32;omega)⟩
 case round =>
  obtain ⟨k,hk1,hk2,rfl,rfl,HGo,HA⟩:=hrel
  by_cases hkz:k < 2
  ·have hkz':(k:Int) < 2:=by omega
   by_cases hkn:k < t.size
   ·have hgk:=zcd t k hkn
    obtain ⟨c,ec⟩:∃ c,(t[k]'hkn).toNat=c:=⟨_,rfl⟩
    have hst:=zil t k hk1
    rw [ec] at hgk
    rw [hgk] at hst
    have hA:=oz HA
    generalize zdW t k=A at hst hA
    have HST:=kz hst
    have HGK:=kz hgk
    have HBS:=kz (zii k A c hk1 (by omega) hA)
    clear hgk hst HA hA
    have hkn':decide ((t.size:Int)≤k)=false:=decide_eq_false (by omega)
    have hkn2:(k:Int) < t.size:=by omega
    by_cases hc1:c < 128
    ·have hc1':decide ((c:Int) < 128)=true:=decide_eq_true (by omega)
     go_wp2
     go_ret2
     exact ⟨by rw [oz HB k hk1 hkz (.inr (.inl (by rw [oz HGK];exact hc1)))];rfl,rfl⟩
    ·have hc1':decide ((c:Int) < 128)=false:=decide_eq_false (by omega)
     by_cases hc2:191 < c
     ·have hc2':decide ((191:Int) < c)=true:=decide_eq_true (by omega)
      go_wp2
      go_ret2
      exact ⟨by rw [oz HB k hk1 hkz (.inr (.inr (by rw [oz HGK];exact hc2)))];rfl,rfl⟩
     ·have hc2':decide ((191:Int) < c)=false:=decide_eq_false (by omega)
      go_wp2
      go_round
      case rel =>
       refine ⟨k+1,by omega,by omega,by go_num, ?_,kz (fun j h1 h2 =>?_),kz ?_⟩
       ·rw [oz HST,zgc A c (oz HBS).1]
       ·by_cases e:j=k
        ·subst e;rw [oz HGK];omega
        ·exact oz HGo j h1 (by omega)
       ·rw [oz HST];exact (oz HBS).2
      case measure =>simp [intOf];omega
   ·have hkn':decide ((t.size:Int)≤k)=true:=decide_eq_true (by omega)
    go_wp2
    go_ret2
    exact ⟨by rw [oz HB k hk1 hkz (.inl (by omega))];rfl,rfl⟩
  ·have hkz':¬ (k:Int) < 2:=by omega
   obtain rfl:k=2:=by omega
   go_wp2
   go_ret2
   exact ⟨by rw [oz HG (oz HGo)];rfl,rfl⟩
theorem zma (t:ByteArray) (ht:t.size≤maxLen) (h2:2≤t.size) (hb:128≤bt t 0) (hq:224≤bt t 0∧bt t 0 < 240) (hs:(zaI (bt t 0)).1≠0) (hx1:(zaI (bt t 0)).1≤bt t 1) (hx2:bt t 1≤(zaI (bt t 0)).2) (w:World) :
  Calls Tryz.prog 44 #[.string t] w fun e w' =>e=.returned (zqo (zio t))∧w'=w:=by
 have h:0 < t.size:=by omega
 have hz:zdX (bt t 0)=3:=by
  unfold zdX;repeat' split
  all_goals omega
 have hl1:zdW t 1=bt t 0 % 16:=by
  show zde (bt t 0)=_
  unfold zde;repeat' split
  all_goals omega
 have hGG:=zgg t h hb hs hx1 hx2
 have hBB:=fun k h1 h2 h3 =>zfY t h hb hs (.inr (.inr (.inr ⟨k,h1,h2,h3⟩)))
 rw [hz] at hGG hBB
 have HG:=kz hGG
 have HB:=kz hBB
 clear hGG hBB hz
 unfold maxLen at ht
 have hg:=zcd t 0 h
 obtain ⟨b0,e0⟩:∃ b0,(t[0]'h).toNat=b0:=⟨_,rfl⟩
 have hg1:=zcd t 1 h2
 obtain ⟨b1,e1⟩:∃ b1,(t[1]'h2).toNat=b1:=⟨_,rfl⟩
 rw [hg,e0] at hb hs hx1 hx2 hl1 hq
 rw [hg1,e1] at hx1 hx2
 have HL:=kz hl1
 have h':((t.size:Int) == 0)=false:=beq_eq_false_iff_ne.2 (by omega)
 have hb':decide ((b0:Int) < 128)=false:=decide_eq_false (by omega)
 have HC:=kz (zeq b0)
 obtain ⟨lo,hlo⟩:∃ lo,(zaI b0).1=lo:=⟨_,rfl⟩
 obtain ⟨hi,hhi⟩:∃ hi,(zaI b0).2=hi:=⟨_,rfl⟩
 rw [hlo] at HC hx1 hs
 rw [hhi] at HC hx2
 have hs':((lo:Int) == 0)=false:=beq_eq_false_iff_ne.2 (by omega)
 have h2':decide ((t.size:Int) < 2)=false:=decide_eq_false (by omega)
 have h3':(1:Int) < t.size:=by omega
 have hx':decide (b1 < lo)=false:=decide_eq_false (by omega)
 have hx'':decide (hi < b1)=false:=decide_eq_false (by omega)
 have hx1n:¬ b1 < lo:=by omega
 have hx2n:¬ hi < b1:=by omega
 have hq1:(224:Int)≤b0:=by omega
 have hq2:(b0:Int) < 240:=by omega
 clear hs hx1 hx2 hg1 hg hlo hhi hl1 hq
 go_enter Tryz.func44,Tryz.ntmps44
 go_wp2_with fail
 refine (oz HC _).mono ?_
 rintro e w1 ⟨rfl,rfl⟩
 go_wp2_with fail
 go_loop [8,9] (fun r i => ∃ k:Nat,1≤k∧k≤3∧i=.int .i64 k∧r=.int .i32 (zdW t k)∧Hz (zrd t k)∧Hz (zdW t k < zlp k)) (fun _ i =>3 - (intOf i).toNat)
 case atStart =>exact ⟨1,by omega,by omega,rfl,by rw [oz HL];rfl,kz (fun j h1 h2 =>by omega),kz (by rw [oz HL];show _ < 32;omega)⟩
 case round =>
  obtain ⟨k,hk1,hk2,rfl,rfl,HGo,HA⟩:=hrel
  by_cases hkz:k < 3
  ·have hkz':(k:Int) < 3:=by omega
   by_cases hkn:k < t.size
   ·have hgk:=zcd t k hkn
    obtain ⟨c,ec⟩:∃ c,(t[k]'hkn).toNat=c:=⟨_,rfl⟩
    have hst:=zil t k hk1
    rw [ec] at hgk
    rw [hgk] at hst
    have hA:=oz HA
    generalize zdW t k=A at hst hA
    have HST:=kz hst
    have HGK:=kz hgk
    have HBS:=kz (zii k A c hk1 (by omega) hA)
    clear hgk hst HA hA
    have hkn':decide ((t.size:Int)≤k)=false:=decide_eq_false (by omega)
    have hkn2:(k:Int) < t.size:=by omega
    by_cases hc1:c < 128
    ·have hc1':decide ((c:Int) < 128)=true:=decide_eq_true (by omega)
     go_wp2
     go_ret2
     exact ⟨by rw [oz HB k hk1 hkz (.inr (.inl (by rw [oz HGK];exact hc1)))];rfl,rfl⟩
    ·have hc1':decide ((c:Int) < 128)=false:=decide_eq_false (by omega)
     by_cases hc2:191 < c
     ·have hc2':decide ((191:Int) < c)=true:=decide_eq_true (by omega)
      go_wp2
      go_ret2
      exact ⟨by rw [oz HB k hk1 hkz (.inr (.inr (by rw [oz HGK];exact hc2)))];rfl,rfl⟩
     ·have hc2':decide ((191:Int) < c)=false:=decide_eq_false (by omega)
      go_wp2
      go_round
      case rel =>
       refine ⟨k+1,by omega,by omega,by go_num, ?_,kz (fun j h1 h2 =>?_),kz ?_⟩
       ·rw [oz HST,zgc A c (oz HBS).1]
       ·by_cases e:j=k
        ·subst e;rw [oz HGK];omega
        ·exact oz HGo j h1 (by omega)
       ·rw [oz HST];exact (oz HBS).2
      case measure =>simp [intOf];omega
   ·have hkn':decide ((t.size:Int)≤k)=true:=decide_eq_true (by omega)
    go_wp2
    go_ret2
    exact ⟨by rw [oz HB k hk1 hkz (.inl (by omega))];rfl,rfl⟩
  ·have hkz':¬ (k:Int) < 3:=by omega
   obtain rfl:k=3:=by omega
   go_wp2
   go_ret2
   exact ⟨by rw [oz HG (oz HGo)];rfl,rfl⟩
set_option maxRecDepth 100000
set_option maxHeartbeats 8000000
theorem zl9 (t:ByteArray) (ht:t.size≤maxLen) (h2:2≤t.size) (hb:128≤bt t 0) (hq:240≤bt t 0) (hs:(zaI (bt t 0)).1≠0) (hx1:(zaI (bt t 0)).1≤bt t 1) (hx2:bt t 1≤(zaI (bt t 0)).2) (w:World) :
  Calls Tryz.prog 44 #[.string t] w fun e w' =>e=.returned (zqo (zio t))∧w'=w:=by
 have h:0 < t.size:=by omega
 have hz:zdX (bt t 0)=4:=by
  unfold zdX;repeat' split
  all_goals omega
 have hl1:zdW t 1=bt t 0 % 8:=by
  show zde (bt t 0)=_
  unfold zde;repeat' split
  all_goals omega
 have hGG:=zgg t h hb hs hx1 hx2
 have hBB:=fun k h1 h2 h3 =>zfY t h hb hs (.inr (.inr (.inr ⟨k,h1,h2,h3⟩)))
 rw [hz] at hGG hBB
 have HG:=kz hGG
 have HB:=kz hBB
 clear hGG hBB hz
 unfold maxLen at ht
 have hg:=zcd t 0 h
 have hb256:=zd2 t 0
 obtain ⟨b0,e0⟩:∃ b0,(t[0]'h).toNat=b0:=⟨_,rfl⟩
 have hg1:=zcd t 1 h2
 obtain ⟨b1,e1⟩:∃ b1,(t[1]'h2).toNat=b1:=⟨_,rfl⟩
 rw [hg,e0] at hb hs hx1 hx2 hl1 hq hb256
 rw [hg1,e1] at hx1 hx2
 have HL:=kz hl1
 have h':((t.size:Int) == 0)=false:=beq_eq_false_iff_ne.2 (by omega)
 have hb':decide ((b0:Int) < 128)=false:=decide_eq_false (by omega)
 have HC:=kz (zeq b0)
 obtain ⟨lo,hlo⟩:∃ lo,(zaI b0).1=lo:=⟨_,rfl⟩
 obtain ⟨hi,hhi⟩:∃ hi,(zaI b0).2=hi:=⟨_,rfl⟩
 rw [hlo] at HC hx1 hs
 rw [hhi] at HC hx2
 have hs':((lo:Int) == 0)=false:=beq_eq_false_iff_ne.2 (by omega)
 have h2':decide ((t.size:Int) < 2)=false:=decide_eq_false (by omega)
 have h3':(1:Int) < t.size:=by omega
 have hx':decide (b1 < lo)=false:=decide_eq_false (by omega)
 have hx'':decide (hi < b1)=false:=decide_eq_false (by omega)
 have hx1n:¬ b1 < lo:=by omega
 have hx2n:¬ hi < b1:=by omega
 have hq1:(240:Int)≤b0:=by omega
 have hq7:=zrX b0 hb256
 clear hs hx1 hx2 hg1 hg hlo hhi hl1 hq
 go_enter Tryz.func44,Tryz.ntmps44
 go_wp2_with fail
 refine (oz HC _).mono ?_
 rintro e w1 ⟨rfl,rfl⟩
 go_wp2_with fail
 go_loop [8,9] (fun r i => ∃ k:Nat,1≤k∧k≤4∧i=.int .i64 k∧r=.int .i32 (zdW t k)∧Hz (zrd t k)∧Hz (zdW t k < zlp k)) (fun _ i =>4 - (intOf i).toNat)
 case atStart =>exact ⟨1,by omega,by omega,rfl,by rw [oz HL];rfl,kz (fun j h1 h2 =>by omega),kz (by rw [oz HL];show _ < 32;omega)⟩
 case round =>
  obtain ⟨k,hk1,hk2,rfl,rfl,HGo,HA⟩:=hrel
  by_cases hkz:k < 4
  ·have hkz':(k:Int) < 4:=by omega
   by_cases hkn:k < t.size
   ·have hgk:=zcd t k hkn
    obtain ⟨c,ec⟩:∃ c,(t[k]'hkn).toNat=c:=⟨_,rfl⟩
    have hst:=zil t k hk1
    rw [ec] at hgk
    rw [hgk] at hst
    have hA:=oz HA
    generalize zdW t k=A at hst hA
    have HST:=kz hst
    have HGK:=kz hgk
    have HBS:=kz (zii k A c hk1 (by omega) hA)
    clear hgk hst HA hA
    have hkn':decide ((t.size:Int)≤k)=false:=decide_eq_false (by omega)
    have hkn2:(k:Int) < t.size:=by omega
    by_cases hc1:c < 128
    ·have hc1':decide ((c:Int) < 128)=true:=decide_eq_true (by omega)
     go_wp2
     go_ret2
     exact ⟨by rw [oz HB k hk1 hkz (.inr (.inl (by rw [oz HGK];exact hc1)))];rfl,rfl⟩
    ·have hc1':decide ((c:Int) < 128)=false:=decide_eq_false (by omega)
     by_cases hc2:191 < c
     ·have hc2':decide ((191:Int) < c)=true:=decide_eq_true (by omega)
      go_wp2
      go_ret2
      exact ⟨by rw [oz HB k hk1 hkz (.inr (.inr (by rw [oz HGK];exact hc2)))];rfl,rfl⟩
     ·have hc2':decide ((191:Int) < c)=false:=decide_eq_false (by omega)
      go_wp2
      refine ⟨⟨u2,u3,_,_, ?_,rfl,rfl,rfl,rfl⟩,by simp [intOf];omega⟩
      refine ⟨k+1,by omega,by omega,by go_num, ?_,kz (fun j h1 h2 =>?_),kz ?_⟩
      ·rw [oz HST,zgc A c (oz HBS).1]
      ·by_cases e:j=k
       ·subst e;rw [oz HGK];omega
       ·exact oz HGo j h1 (by omega)
      ·rw [oz HST];exact (oz HBS).2
   ·have hkn':decide ((t.size:Int)≤k)=true:=decide_eq_true (by omega)
    go_wp2
    go_ret2
    exact ⟨by rw [oz HB k hk1 hkz (.inl (by omega))];rfl,rfl⟩
  ·have hkz':¬ (k:Int) < 4:=by omega
   obtain rfl:k=4:=by omega
   go_wp2
   go_ret2
   exact ⟨by rw [oz HG (oz HGo)];rfl,rfl⟩
theorem zmc (t:ByteArray) (ht:t.size≤maxLen) (w:World):Calls Tryz.prog 44 #[.string t] w fun e w' =>e=.returned (zqo (zio t))∧w'=w:=by
 by_cases h0:t.size=0∨(0 < t.size∧bt t 0 < 128)
 ·exact zl8 t ht h0 w
 by_cases h1:(zaI (bt t 0)).1=0∨((zaI (bt t 0)).1≠0∧(t.size < 2∨(2≤t.size∧(bt t 1 < (zaI (bt t 0)).1∨((zaI (bt t 0)).1≤bt t 1∧(zaI (bt t 0)).2 < bt t 1)))))
 ·exact zkN t ht (by omega) (by omega) h1 w
 by_cases h2:bt t 0 < 224
 ·exact zmb t ht (by omega) (by omega) h2 (by omega) (by omega) (by omega) w
 by_cases h3:bt t 0 < 240
 ·exact zma t ht (by omega) (by omega) ⟨by omega,h3⟩ (by omega) (by omega) (by omega) w
 ·exact zl9 t ht (by omega) (by omega) (by omega) (by omega) (by omega) (by omega) w
set_option maxRecDepth 100000
set_option maxHeartbeats 8000000
def zaz (s:ByteArray) (i:Nat):List Value := [.int .i32 (rn s i),.int .i64 i,.int .i64 (wd s i),.bool (decide (rn s i=65533∧wd s i=1))]
theorem zh0:(Tryz.prog.info? 56).map (fun i =>(i.zero,i.size,i.bytes))=some (some (.agg #[.int .i32 0,.int .i64 0,.int .i64 0,.bool false]),4,32):=by kernel_rfl
theorem zpF (s:ByteArray) (i:Nat) (h:i < s.size):zio (s.extract i s.size)=if rn s i=65533∧wd s i=1 then (0,0) else ((wd s i:Int),(rn s i:Int)):=by
 unfold zio
 have e:(s.extract i s.size).size≠0:=by rw [ByteArray.size_extract];omega
 simp only [rn,wd,zie s i 0 (Nat.le_of_lt h),Nat.add_zero,e,false_or]
theorem zez {W:World} {base:Nat} {e:TypeId} {size:Nat} {v:Value} {n:Nat} {xs:List Value} (h:W.ownsRow base e size v n xs):∀ g,v.ownBlock=some g→base≤g∧g < W.heap.size:=by
 intro g hg
 rcases h.2 with ⟨rfl,_⟩ | ⟨g',cap,cur,rfl,hb,hh,_⟩
 ·cases hg
 ·cases hg
  exact ⟨hb,(Array.getElem?_eq_some_iff.1 hh).1⟩
theorem zdy (W:World) (c0 c1 c2 c3:Value) (t:TypeId):∀ j u,[c0,c1,c2,c3][j]?=some u→(W.alloc (.cells #[c0,c1,c2,c3] t)).cell? ((⟨W.heap.size,0,none⟩:Addr).add j)=some u:=by
 intro j u hj
 have:=(Blk.new W #[c0,c1,c2,c3] t).cell j
 rw [show (⟨W.heap.size,0,none⟩:Addr).add j=⟨W.heap.size,j,none⟩ by unfold Addr.add;split <;> simp_all,this, ← hj]
 simp
theorem zmk {s:ByteArray} {w w1 w2:World} {v v':Value} {pre:List Nat} {pos:Nat} {c0 c1 c2 c3:Value} (hrc:zaz s pos=[c0,c1,c2,c3])
  (hown:w1.ownsRow w.heap.size 56 4 v pre.length (pre.flatMap (zaz s))) (hB:Below w.heap.size w w1)
  (hown':w2.ownsRow w.heap.size 56 4 v' (pre.length+1) (pre.flatMap (zaz s)++[c0,c1,c2,c3]))
  (hgrow:((w1.alloc (.cells #[c0,c1,c2,c3] 56)).alloc (.cells #[c0,c1,c2,c3] 56)).grownBy w2 v.ownBlock) :
  w2.ownsRow w.heap.size 56 4 v' (pre++[pos]).length ((pre++[pos]).flatMap (zaz s))∧Below w.heap.size w w2∧Blk w2 w1.heap.size #[c0,c1,c2,c3] 56:=by
 have e:(pre++[pos]).flatMap (zaz s)=pre.flatMap (zaz s)++[c0,c1,c2,c3]:=by rw [List.flatMap_append];simp [hrc]
 have hl:=zez hown
 refine ⟨?_, ?_, ?_⟩
 ·rw [e,List.length_append];exact hown'
 ·refine ((hB.alloc hB.size _).alloc (by have:=hB.size;simp;omega) _).grown hgrow (by have:=hB.size;simp;omega) (fun k hk =>(hl k hk).1)
 ·exact ((Blk.new w1 #[c0,c1,c2,c3] 56).alloc _).kept hgrow (fun e =>by have:=(hl _ e.symm).2;omega)
theorem zcr (s:ByteArray) (hs:s.size≤1099511627776) (w:World) :
  Calls Tryz.prog 20 #[.string s] w fun e w' => ∃ v,e=.returned v∧w'.ownsRow w.heap.size 56 4 v (zah s).length ((zah s).flatMap (zaz s))∧Below w.heap.size w w':=by
 obtain ⟨i0,hi,hz0,hz1,hz2⟩:=info_parts zh0
 have HI:=kz hi
 have HZ0:=kz hz0
 have HZ1:=kz hz1
 have HZ2:=kz hz2
 clear hi hz0 hz1 hz2
 go_enter Tryz.func20,Tryz.ntmps20
 go_wp2
 go_loopw [3,4] (fun v i wr => ∃ (pre:List Nat) (pos f:Nat),Hz (zah s=pre++zaj s f pos)∧s.size≤pos+f∧i=.int .i64 pos∧wr.ownsRow w.heap.size 56 4 v pre.length (pre.flatMap (zaz s))∧Below w.heap.size w wr)
  (fun _ i _ =>s.size - (intOf i).toNat)
 case atStart =>exact ⟨[],0,s.size,kz rfl,by omega,rfl,World.ownsRow_nil _ _ _ _,Below.refl _ _⟩
 case round =>
  obtain ⟨pre,pos,f,HS,hf,rfl,hown,hB⟩:=hrel
  by_cases hp:pos < s.size
  ·have hp':(pos:Int) < s.size:=by omega
   have hpl:pre.length < s.size:=by
    have h1:=zap s
    rw [oz HS,List.length_append] at h1
    obtain ⟨g,rfl⟩:∃ g,f=g+1:=⟨f - 1,by omega⟩
    rw [zar s g pos hp] at h1
    simp at h1
    omega
   have hsv:=zpF s pos hp
   have hroom:=zdg s pos hp
   have hpos:=zbv s pos
   have hrc:zaz s pos=[.int .i32 (rn s pos),.int .i64 pos,.int .i64 (wd s pos),.bool (decide (rn s pos=65533∧wd s pos=1))]:=rfl
   by_cases hbad:rn s pos=65533∧wd s pos=1
   ·rw [if_pos hbad] at hsv
    rw [decide_eq_true hbad,hbad.1,hbad.2] at hrc
    have HV:=kz hsv
    have HRC:=kz hrc
    have HBD:=kz hbad
    clear hsv hrc hbad hroom hpos
    go_wp2_with fail
    refine (zmc _ (by rw [ByteArray.size_extract];unfold maxLen;omega) _).mono ?_
    rintro e w1 ⟨rfl,rfl⟩
    rw [oz HV]
    have hln:=zdy (w1.alloc (.cells #[.int .i32 65533,.int .i64 pos,.int .i64 1,.bool true] 56)) (.int .i32 65533) (.int .i64 pos) (.int .i64 1) (.bool true) 56
    have HLN:=kz hln
    clear hln
    go_wp2_with (at_builtin;refine wpList_append_own _ rfl _ _ 35 rfl w.heap.size 56 i0 (.agg #[.int .i32 0,.int .i64 0,.int .i64 0,.bool false]) 4 32 Tryz.underlying35 (oz HI) (oz HZ0) (oz HZ1) (oz HZ2) rfl (by decide) _ _ _ rfl ((hown.alloc _).alloc _) ⟨w1.heap.size+1,0,none⟩ 1 1 [.int .i32 65533,.int .i64 pos,.int .i64 1,.bool true] rfl rfl ?c1 ?c2 ?c3 ?c4 ?c5 ?_)
    case c1 =>have:=oz HLN;simpa using this
    case c2 =>intro u hu;simp at hu;rcases hu with rfl | rfl | rfl | rfl <;> rfl
    case c3 =>unfold maxLen;omega
    case c4 =>omega
    case c5 =>have:=hB.size;simp;omega
    intro v' w2 hown' hgrow _
    obtain ⟨hown2,hB2,bX⟩:=zmk (oz HRC) hown hB hown' hgrow
    have x2:=bX.cell 2
    clear hown' hgrow hown hB HLN bX
    go_wp2
    go_roundw
    case rel =>exact ⟨pre++[pos],pos+1,f - 1,kz (by
     obtain ⟨g,rfl⟩:∃ g,f=g+1:=⟨f - 1,by omega⟩
     rw [oz HS,zar s g pos hp,(oz HBD).2];simp),by omega,by go_num,hown2,hB2⟩
    case measure =>simp [intOf];omega
   ·rw [if_neg hbad] at hsv
    rw [decide_eq_false hbad] at hrc
    have hcons:∀ g,zaj s (g+1) pos=pos::zaj s g (pos+wd s pos):=fun g =>zar s g pos hp
    generalize rn s pos=r at hsv hrc
    generalize wd s pos=d at hsv hrc hroom hpos hcons
    have HV:=kz hsv
    have HRC:=kz hrc
    have HCO:=kz hcons
    have hd0:((d:Int) == 0)=false:=beq_eq_false_iff_ne.2 (by omega)
    have hd1:(1:Int)≤d:=by omega
    have hd2:(pos:Int)+d≤s.size:=by omega
    clear hsv hrc hbad hcons
    go_wp2_with fail
    refine (zmc _ (by rw [ByteArray.size_extract];unfold maxLen;omega) _).mono ?_
    rintro e w1 ⟨rfl,rfl⟩
    rw [oz HV]
    have hln:=zdy (w1.alloc (.cells #[.int .i32 r,.int .i64 pos,.int .i64 d,.bool false] 56)) (.int .i32 r) (.int .i64 pos) (.int .i64 d) (.bool false) 56
    have HLN:=kz hln
    clear hln
    go_wp2_with (at_builtin;refine wpList_append_own _ rfl _ _ 35 rfl w.heap.size 56 i0 (.agg #[.int .i32 0,.int .i64 0,.int .i64 0,.bool false]) 4 32 Tryz.underlying35 (oz HI) (oz HZ0) (oz HZ1) (oz HZ2) rfl (by decide) _ _ _ rfl ((hown.alloc _).alloc _) ⟨w1.heap.size+1,0,none⟩ 1 1 [.int .i32 r,.int .i64 pos,.int .i64 d,.bool false] rfl rfl ?c1 ?c2 ?c3 ?c4 ?c5 ?_)
    case c1 =>have:=oz HLN;simpa using this
    case c2 =>intro u hu;simp at hu;rcases hu with rfl | rfl | rfl | rfl <;> rfl
    case c3 =>unfold maxLen;omega
    case c4 =>omega
    case c5 =>have:=hB.size;simp;omega
    intro v' w2 hown' hgrow _
    obtain ⟨hown2,hB2,bX⟩:=zmk (oz HRC) hown hB hown' hgrow
    have x2:=bX.cell 2
    clear hown' hgrow hown hB HLN bX
    go_wp2
    go_roundw
    case rel =>exact ⟨pre++[pos],pos+d,f - 1,kz (by
     obtain ⟨g,rfl⟩:∃ g,f=g+1:=⟨f - 1,by omega⟩
     rw [oz HS,oz HCO g];simp),by omega,by go_num,hown2,hB2⟩
    case measure =>simp [intOf];omega
  ·have hp':¬ (pos:Int) < s.size:=by omega
   have hst:=oz HS
   rw [zaH s f pos hp,List.append_nil] at hst
   have HST:=kz hst
   clear hst HS
   go_wp2
   go_ret
   exact ⟨_,rfl,by rw [oz HST];exact hown,hB⟩
theorem zfL {B:Nat} {a w:World} (h:Below B a w) (n:Nat):Below B a (w.drewN n):=h.trans ⟨rfl,rfl,rfl,Nat.le_refl _,fun _ _ =>rfl⟩
end
end Go.Proofs.YtmemedpoaocdkaaGreat
