/- Texts of this claim, one behind the other. -/
import Derived.Test.YthchopdfmchpkaaGreatM24
namespace Go.Proofs.YthchopdfmchpkaaGreat
set_option linter.unusedVariables false
section
open Go.RowKit Go.Shelf
attribute [local go_sem] Oper.semAt_some
attribute [local go_sem] Oper.semAt_some
set_option maxRecDepth 100000
set_option maxHeartbeats 8000000
def KpO (Bn:Nat) (W W':World):Prop:=W'.heap[Bn]?=W.heap[Bn]?
theorem zkI {Bn:Nat} {A B C:World} (h:KpO Bn A B) (k:KpO Bn B C):KpO Bn A C:=Eq.trans k h
theorem zkJ {Bn:Nat} (W:World) (l:Nat) (o:Obj) (hl:Bn < l):KpO Bn W (W.putObj l o):=World.putObj_heap_other (by omega)
theorem zbL {B:Nat} (W:World) (k:Nat) (s:ByteArray) (pos:Nat) (h:B≤k):Below B W (W.iterAt k s pos) :=
 ⟨rfl,rfl,rfl,by rw [Lib.iterAt_size];exact zD,fun i hi =>Lib.iterAt_other W k i s pos (by omega)⟩
theorem zht (n l Bn:Nat) (hn:1≤n) (s:ByteArray) (hs:s.size≤maxLen) (J Jx:List Nat→World→Prop) (W0:World) (hbx:W0.cell? ⟨Bn,0,none⟩=some (.string s)) (hJ:Old W0.heap.size J)
  (hY:∀ pre x W1,J pre W1→pre++[x] <+: zh s→W0.heap.size≤W1.heap.size→YieldAt Fence.wide (n - 1) Tryz.prog l (za0 s x) W1 fun e W' =>Above W0.heap.size W1 W' ∧
   ((e=.returned (.bool true)∧J (pre++[x]) W'∧KpO Bn W1 W')∨(e=.returned (.bool false)∧Jx (pre++[x]) W')))
  (h0:J [] W0) :
  CallsIn Fence.wide n Tryz.prog 69 #[.func (.yield l) #[] #[],.pointer (some ⟨Bn,0,none⟩)] W0 fun e W' =>(∃ v,e=.returned v) ∧
   ((∃ ys,ys=zh s∧J ys W')∨(∃ pre,pre <+: zh s∧Jx pre W')):=by
 unfold maxLen at hs;have d0:=hbx;have hlt:Bn < W0.heap.size:=YG hbx;have HBx:=kz hbx;have HY:=kz hY;have HJ:=kz hJ;have H0:=kz h0;clear hY hJ h0 hbx;refine callsIn_of_wp Tryz.func69 rfl trivial ?_ rfl;simp only [Tryz.ntmps69,List.size_toArray,List.length_cons,List.length_nil,Nat.reduceAdd,Nat.reduceSub,Array.replicate_succ,Array.replicate_zero,List.push_toArray,List.append_toArray,List.nil_append,List.cons_append]
 gi_wp2
 gi_loopw [3] (fun _ wr => ∃ (pre:List Nat) (pos f:Nat),Hz (zh s=pre++zo s f pos)∧s.size≤pos+f∧Hz (wr.heap[W0.heap.size]?=some (.stringIter s pos))∧Hz (wr.cell? ⟨Bn,0,none⟩=some (.string s))∧Hz (J pre wr))
  (fun _ wr =>s.size - wr.iterPos W0.heap.size)
 case atStart =>
  exact ⟨[],0,s.size,kz rfl,by omega,kz (World.iter_heap W0 s 0),kz ((((Below.refl W0.heap.size W0).alloc zD (.stringIter s 0)).cell (p:=⟨Bn,0,none⟩) hlt).trans (oz HBx)),kz (oz HJ _ _ _ (oz H0) ((Below.refl W0.heap.size W0).alloc zD (.stringIter s 0)))⟩
 case round =>
  obtain ⟨pre,pos,f,HST,hf,HIT,HK,HJ1⟩:=hrel;have hit:=oz HIT;by_cases hp:pos < s.size
  ·obtain ⟨f,rfl⟩:∃ g,f=g+1:=⟨f - 1,by omega⟩;have hst:=oz HST;rw [zW s f pos hp] at hst;have hnx:∀ ty,(Instr.next (.pointer (some ⟨W0.heap.size,0,none⟩)) true ty).run Tryz.prog wr=_:=fun ty =>Lib.run_next_any_at wr W0.heap.size s pos ty hit hp
   have hb1:=zbL wr W0.heap.size s (pos+(Utf8.decode s pos).2) (Nat.le_refl W0.heap.size);have hi1:=Lib.iterAt_heap wr W0.heap.size s pos (pos+(Utf8.decode s pos).2) hit;have hsz:W0.heap.size < (wr.iterAt W0.heap.size s (pos+(Utf8.decode s pos).2)).heap.size:=(zeI.1 hi1).1;have HJ2:=kz (oz HJ _ _ _ (oz HJ1) hb1);have HK2:=kz ((hb1.cell (p:=⟨Bn,0,none⟩) hlt).trans (oz HK));have HI1:=kz hi1;have HS:=kz hst;have hc1:=oz HK2;have HR:=kz (zc3 s pos hp);clear hb1 hi1 hst hit HJ1 HST HK
   gi_wp2_with fail
   refine ⟨trivial, ?_⟩;refine (callsIn_wide.2 (KJ _ (by rw [ByteArray.size_extract];unfold maxLen;omega) _ _)).mono ?_;rintro e W2 ⟨rfl,hb2⟩;rw [show JK (s.extract pos s.size) ((Utf8.decode s pos).1:Int)=ZQ s pos from oz HR];have hj2:=oz HJ _ _ _ (oz HJ2) (hb2.mono (by omega));have HK3:=kz ((hb2.cell (p:=⟨Bn,0,none⟩) (by show Bn < _;omega)).trans (oz HK2));have HI2:Hz (W2.heap[W0.heap.size]?=some (.stringIter s (pos+(Utf8.decode s pos).2))):=kz ((hb2.block _ hsz).trans (oz HI1));have hge2:W0.heap.size≤W2.heap.size:=by have:=hb2.size;omega
   obtain ⟨fn,tmps,assign,body,hy,hR⟩:=(oz HY) pre pos W2 hj2 ⟨zo s f (pos+wd s pos),by rw [oz HS];simp⟩ hge2;dsimp only [za0] at hy;have HRR:=kz hR;clear hj2 hb2 hnx hc1 hR HJ2 HK2 HI1
   gi_wp2
   refine (oz HRR).mono ?_;rintro e W3 ⟨hab,(⟨rfl,hJ3,hk3⟩ | ⟨rfl,hJx3⟩)⟩
   ·have HI3:Hz (W3.heap[W0.heap.size]?=some (.stringIter s (pos+(Utf8.decode s pos).2))):=kz ((hab.same _ zD (zeI.1 (oz HI2)).1).trans (oz HI2));have HK4:=kz ((show W3.cell? ⟨Bn,0,none⟩=W2.cell? ⟨Bn,0,none⟩ from World.cell?_of_block (show W3.heap[(⟨Bn,0,none⟩:Addr).block]?=W2.heap[(⟨Bn,0,none⟩:Addr).block]? from hk3)).trans (oz HK3));have HJ3:=kz hJ3;have hc3:=oz HK4;clear hJ3 hk3 hab hy
    gi_wp2
    go_roundw
    case rel =>exact ⟨pre++[pos],pos+wd s pos,f,kz (by rw [oz HS];simp),by have:=Jl s pos;omega,HI3,HK4,HJ3⟩
    case measure =>rw [XY (oz HI3),XY (oz HIT)];have:=Jl s pos;simp only [wd] at this;omega
   ·have HJx3:=kz hJx3;clear hJx3 hab hy
    gi_wp2
    refine XS (results_none rfl _ _ _) rfl ?_;exact ⟨⟨_,rfl⟩,.inr ⟨pre++[pos],⟨zo s f (pos+wd s pos),by rw [oz HS];simp⟩,oz HJx3⟩⟩
  ·have hnx:∀ ty,(Instr.next (.pointer (some ⟨W0.heap.size,0,none⟩)) true ty).run Tryz.prog wr=_:=fun ty =>Lib.run_next_end_at wr W0.heap.size s pos ty hit hp
   have hst:=oz HST;rw [jB s f pos hp,List.append_nil] at hst;have HE:Hz (J (zh s) wr):=kz (by rw [hst];exact oz HJ1);clear hst hit
   gi_wp2
   go_end0
   first
    | exact ⟨⟨_,rfl⟩,.inl ⟨_,rfl,oz HE⟩⟩
    | exact ⟨⟨_,rfl⟩,.inl (oz HE)⟩
theorem zdN (n Bn:Nat) (hn:1≤n) (s:ByteArray) (hs:s.size≤maxLen) (w:World) (hbx:w.cell? ⟨Bn,0,none⟩=some (.string s)) :
  zfm Fence.wide n Tryz.prog 69 #[.pointer (some ⟨Bn,0,none⟩)] (za0 s) (KpO Bn) (fun ys =>ys=zh s) (fun pre =>pre <+: zh s) (fun pre x =>pre++[x] <+: zh s) w:=fun l J Jx W hW hJ _ hY h0 =>
 zht n l Bn hn s hs J Jx W ((hW.cell (p:=⟨Bn,0,none⟩) (YG hbx)).trans hbx) hJ hY h0
end
section
open Go.RowKit Go.Shelf Go.Maps
attribute [local go_sem] Oper.semAt_some
def spN (s:ByteArray):List (Nat × Nat):=(zh s).zipIdx
end
section
open Go.RowKit Go.Shelf
end
section
open Go.RowKit Go.Shelf Go.Maps
attribute [local go_sem] Oper.semAt_some
attribute [local go_sem] Oper.semAt_some
end
section
open Go.RowKit Go.Shelf
end
section
open Go.RowKit Go.Shelf Go.Maps
attribute [local go_sem] Oper.semAt_some
attribute [local go_sem] Oper.semAt_some
def JC (o:Option (Nat × Nat)):Value:=match o with
 | some x =>.tuple #[.agg #[.int .i64 x.1,.int .i64 x.2],.bool true]
 | none =>.tuple #[.agg #[.int .i64 0,.int .i64 0],.bool false]
attribute [local go_sem] Oper.semAt_some
attribute [local go_sem] Oper.semAt_some
end
section
open Go.RowKit Go.Shelf Go.Maps
end
section
open Go.RowKit Go.Shelf Go.Maps
attribute [local go_sem] Oper.semAt_some
end
section
open Go.RowKit Go.Shelf Go.Maps
end
section
open Go.RowKit Go.Shelf
end
section
open Go.RowKit Go.Shelf Go.Maps
theorem X8 (s:ByteArray):∀ (l:List Nat) (k x j:Nat),l[k]?=some x→j < 4→(l.flatMap (yG s))[k*4+j]?=(yG s x)[j]?
 | [],k,x,j,h,hj =>by simp at h
 | a::l,0,x,j,h,hj =>by
  simp at h;subst h;rw [List.flatMap_cons,List.getElem?_append_left (by simp [yG];omega)];simp
 | a::l,k+1,x,j,h,hj =>by
  rw [List.getElem?_cons_succ] at h;rw [List.flatMap_cons,List.getElem?_append_right (by simp [yG];omega)];rw [show (k+1)*4+j - (yG s a).length=k*4+j by simp [yG];omega];exact X8 s l k x j h hj
theorem Jt {W:World} {hi:Nat} {a:Option Addr} {s:ByteArray} {zs:List Nat} {k x:Nat} (h:RowC W hi a (zs.flatMap (yG s))) (hx:zs[k]?=some x) :
  ∃ g o,a=some ⟨g,o,none⟩∧g < hi∧W.cell? ⟨g,o+k*4,none⟩=some (.int .i32 (rn s x))∧W.cell? ⟨g,o+k*4+1,none⟩=some (.int .i64 x)∧W.cell? ⟨g,o+k*4+2,none⟩=some (.int .i64 (wd s x))∧W.cell? ⟨g,o+k*4+3,none⟩=some (.bool (j6 s x)):=by
 have e0:=X8 s zs k x 0 hx (by decide);have e1:=X8 s zs k x 1 hx (by decide);have e2:=X8 s zs k x 2 hx (by decide);have e3:=X8 s zs k x 3 hx (by decide);obtain ⟨g,o,e,hg,hc⟩:=h (by have:=(Ze.1 (e0.trans rfl)).1;omega);exact ⟨g,o,e,hg,hc _ _ (e0.trans rfl),by have:=hc _ _ (e1.trans rfl);rwa [← Nat.add_assoc] at this,by have:=hc _ _ (e2.trans rfl);rwa [← Nat.add_assoc] at this,by have:=hc _ _ (e3.trans rfl);rwa [← Nat.add_assoc] at this⟩
theorem zL {W:World} {lo E sz n:Nat} {v:Value} {xs:List Value} (h:W.ownsRow lo E sz v n xs):∃ a c,v=.slice a n c:=by
 rcases h.2 with ⟨rfl,h0⟩ | ⟨g,cap,cur,rfl,_⟩
 ·exact ⟨none,0,by rw [h0]⟩
 ·exact ⟨_,_,rfl⟩
theorem zjp:(Tryz.prog.info? 3).map (fun i =>(i.zero,i.size,i.bytes))=some (some (.int .i64 0),1,8):=by kernel_rfl
def spX (s:ByteArray) (i:Nat):Int × Bool:=((rn s i:Int),j6 s i)
def spL (s:ByteArray):List (Int × Bool):=(zh s).map (spX s)
theorem KL (s:ByteArray):(spL s).length=(zh s).length:=by unfold spL;simp
def yP (T:TV) (x:Int × Bool):Bool := !x.2 && (zi T.co x.1 || decide (0 < jF T x.1))
def bdX (T:TV) (x:Int × Bool):List Nat:=if x.2 || yP T x then [] else J9 T x.1
def zay (T:TV) (a:List Nat × Bool) (x:Int × Bool):List Nat × Bool:=if yP T x then a else (a.1.filter (fun n =>(bdX T x).contains n),true)
def jU (T:TV) (l:List (Int × Bool)):List Nat × Bool:=l.foldl (zay T) (List.range T.sc.length,false)
theorem za5 (T:TV) (l:List (Int × Bool)) (x:Int × Bool):jU T (l++[x])=zay T (jU T l) x:=by unfold jU;rw [List.foldl_append];rfl
def YM (a:List Nat × Bool):Bool:=a.2 && a.1.isEmpty
def zdr (T:TV) (n:Nat) (x:Int × Bool):Bool:=yP T x || (bdX T x).contains n
theorem zkR (T:TV):∀ (l:List (Int × Bool)) (a:List Nat × Bool),l.foldl (zay T) a=(a.1.filter (fun n =>l.all (zdr T n)),a.2 || l.any (fun x => !yP T x))
 | [],a =>by
  have:a.1.filter (fun _ =>true)=a.1:=List.filter_eq_self.2 (fun _ _ =>rfl);simp [this]
 | x::l,a =>by
  rw [List.foldl_cons,zkR T l];unfold zay;cases h:yP T x with
  | true =>
   rw [if_pos rfl];simp [zdr,h]
  | false =>
   rw [if_neg (by decide)];simp [zdr,h,List.filter_filter,Bool.and_comm]
theorem ZM (T:TV) (l:List (Int × Bool)):jU T l=((List.range T.sc.length).filter (fun n =>l.all (zdr T n)),l.any (fun x => !yP T x)):=by unfold jU;rw [zkR];simp
def ZT (T:TV) (s:ByteArray):List Nat:=(jU T (spL s)).1
theorem zbT {T:TV} {l:List (Int × Bool)} {n:Nat}:n ∈ (jU T l).1 ↔ n < T.sc.length∧∀ x ∈ l,zdr T n x=true:=by
 rw [ZM];simp [List.mem_filter,List.all_eq_true]
theorem ziU {T:TV} {l m:List (Int × Bool)} (h:∀ x ∈ m,x ∈ l) {n:Nat} (hn:n ∈ (jU T l).1):n ∈ (jU T m).1:=by
 rw [zbT] at hn ⊢;exact ⟨hn.1,fun x hx =>hn.2 x (h x hx)⟩
theorem zfb {T:TV} {l m:List (Int × Bool)} (h:∀ x ∈ m,x ∈ l) (hm:YM (jU T m)=true):YM (jU T l)=true:=by
 unfold YM at hm ⊢;rw [Bool.and_eq_true,List.isEmpty_iff] at hm ⊢;refine ⟨?_, ?_⟩
 ·have h1:=hm.1;rw [ZM] at h1 ⊢;dsimp only at h1 ⊢;rw [List.any_eq_true] at h1 ⊢;obtain ⟨x,hx,hf⟩:=h1;exact ⟨x,h x hx,hf⟩
 ·rw [List.eq_nil_iff_forall_not_mem];intro n hn;have:=ziU h hn;rw [hm.2] at this;cases this
def Yx (T:TV) (s:ByteArray):Option (Nat × Nat):=(spN s).find? fun x =>YM (jU T ((spL s).take (x.2+1)))
theorem zdK {T:TV} {s:ByteArray} (h:Yx T s=none):YM (jU T (spL s))=false:=by
 unfold Yx at h;rw [List.find?_eq_none] at h;by_cases h0:(zh s).length=0
 ·have:spL s=[]:=List.length_eq_zero_iff.1 (by rw [KL];exact h0);rw [this];rfl
 ·have hm:=h ((zh s)[(zh s).length - 1]'(by omega),(zh s).length - 1) (by
   unfold spN;rw [List.mem_iff_getElem?];exact ⟨(zh s).length - 1,by rw [List.getElem?_zipIdx,qR (by omega)];simp⟩)
  dsimp only at hm;rw [List.take_of_length_le (by rw [KL];omega)] at hm;simpa using hm
theorem zc1 {T:TV} {s:ByteArray} {x k:Nat} (h1:(zh s)[k]?=some x) (h2:YM (jU T ((spL s).take (k+1)))=true) (h3:∀ j,j < k→YM (jU T ((spL s).take (j+1)))=false):Yx T s=some (x,k):=by
 unfold Yx;rw [List.find?_eq_some_iff_getElem];obtain ⟨hk,hx⟩:=Ze.1 h1;refine ⟨h2,k,by unfold spN;simpa using hk,by simp [spN,hx],fun j hj =>?_⟩;have hz2:(spN s)[j]'(by unfold spN;simp;omega)=((zh s)[j]'(by omega),j):=by simp [spN]
 rw [hz2,h3 j hj];rfl
theorem zc2 {T:TV} {s:ByteArray} (h:YM (jU T (spL s))=false):Yx T s=none:=by
 unfold Yx;rw [List.find?_eq_none];intro x hx hm;rw [zfb (fun y hy =>List.mem_of_mem_take hy) hm] at h;cases h
theorem zhr (T:TV) (s:ByteArray):(Yx T s).isSome=YM (jU T (spL s)):=by
 cases h:YM (jU T (spL s)) with
 | false =>rw [zc2 h];rfl
 | true =>
  cases h2:Yx T s with
  | some x =>rfl
  | none =>rw [zdK h2] at h;cases h
end
section
end
section
open Go.RowKit Go.Shelf Go.Maps
def Xg (T:TV) (n:Nat) (x:Int × Bool):Bool := !x.2 && zi (T.sc.getD n sc0).2 x.1
theorem zaU {T:TV} {n:Nat} (hn:n < T.sc.length) (x:Int × Bool):(bdX T x).contains n=(!yP T x && Xg T n x):=by
 obtain ⟨r,b⟩:=x;unfold bdX Xg;cases hf:yP T (r,b) with
 | true =>simp
 | false =>
  cases b with
  | true =>simp
  | false =>
   simp only [Bool.or_self,Bool.false_eq_true,if_false,Bool.not_false,Bool.true_and];unfold J9;rw [Bool.eq_iff_iff,List.contains_iff_mem,List.mem_filter,List.mem_range];exact ⟨fun h =>h.2,fun h =>⟨hn,h⟩⟩
theorem zh8 {T:TV} {n:Nat} (hn:n < T.sc.length) (x:Int × Bool):zdr T n x=(yP T x || Xg T n x):=by
 unfold zdr;rw [zaU hn];cases yP T x <;> simp
theorem zfk (T:TV) (x:Int × Bool) (hf:yP T x=false):(bdX T x).isEmpty=(List.range T.sc.length).all (fun n => !Xg T n x):=by
 rw [Bool.eq_iff_iff,List.isEmpty_iff,List.all_eq_true];constructor
 ·intro h n hn;have:=zaU (List.mem_range.1 hn) x;rw [h,hf] at this;simpa using this.symm
 ·intro h;rw [List.eq_nil_iff_forall_not_mem];intro n hn;have hl:n < T.sc.length:=by
   unfold bdX at hn;split at hn
   ·cases hn
   ·unfold J9 at hn;exact List.mem_range.1 (List.mem_filter.1 hn).1
  have h1:=zaU hl x;rw [List.contains_iff_mem.2 hn,hf] at h1;have h2:=h n (List.mem_range.2 hl);rw [Bool.not_false,Bool.true_and] at h1;rw [← h1] at h2;cases h2
set_option maxRecDepth 100000
set_option maxHeartbeats 8000000
theorem ZV (T:TV) (hT:TabB T) (A:TbA) (r p d:Int) (b:Bool) (W:World) (hA:Yb W T A) :
  Calls Tryz.prog 54 #[.agg #[.slice A.a0 T.sc.length A.c0,.slice A.a1 T.co.length A.c1,.slice A.a2 T.ma.length A.c2,.slice A.a3 T.pr.length A.c3,.slice A.a4 T.fo.length A.c4,.slice A.a5 T.lk.length A.c5,.slice A.a6 T.dr.length A.c6,.slice A.a7 T.al.length A.c7],.agg #[.int .i32 r,.int .i64 p,.int .i64 d,.bool b]] W fun e w' =>e=.returned (.bool (yP T (r,b)))∧Below W.heap.size W w':=by
 have hmx:=zdA
 have hn1:T.co.length≤1048576:=hT.n1;have hn2:T.ma.length≤1048576:=hT.n2;have HX:=kz ((TbX.start hA).below (Zk _ (.cells #[.int .i32 r,.int .i64 p,.int .i64 d,.bool b] 75)));have hz:(W.alloc (.cells #[.slice A.a0 T.sc.length A.c0,.slice A.a1 T.co.length A.c1,.slice A.a2 T.ma.length A.c2,.slice A.a3 T.pr.length A.c3,.slice A.a4 T.fo.length A.c4,.slice A.a5 T.lk.length A.c5,.slice A.a6 T.dr.length A.c6,.slice A.a7 T.al.length A.c7] 31)).heap.size=W.heap.size+1:=by simp
 have HP:=kz (Blk.new (W.alloc (.cells #[.slice A.a0 T.sc.length A.c0,.slice A.a1 T.co.length A.c1,.slice A.a2 T.ma.length A.c2,.slice A.a3 T.pr.length A.c3,.slice A.a4 T.fo.length A.c4,.slice A.a5 T.lk.length A.c5,.slice A.a6 T.dr.length A.c6,.slice A.a7 T.al.length A.c7] 31)) #[.int .i32 r,.int .i64 p,.int .i64 d,.bool b] 75);rw [hz] at HP;clear hz;have HF:=kz (show yP T (r,b)=(!b && (zi T.co r || decide (0 < jF T r))) from rfl);clear hA hT;cases b with
 | true =>
  go_enter Tryz.func54,Tryz.ntmps54;go_wp2_with fail
  go_ret;exact ⟨by rw [oz HF];rfl,(oz HX).bl⟩
 | false =>
  have HC:=kz (XM T.co hn1 A.a1 A.c1 r _ (oz HX).ti.r1);go_enter Tryz.func54,Tryz.ntmps54;go_wp2_with fail
  generalize (W.alloc _).alloc _=w0 at *;refine (oz HC).mono ?_;rintro e w' ⟨rfl,rfl⟩;clear HC;cases hm:zi T.co r with
  | true =>
   rw [hm] at HF;clear hm;go_wp2_with fail
   go_ret;exact ⟨by rw [oz HF];rfl,(oz HX).bl⟩
  | false =>
   rw [hm] at HF;clear hm;have z0:=(oz HX).z0;have z1:=(oz HX).z1;have z2:=(oz HX).z2;have z3:=(oz HX).z3;have z4:=(oz HX).z4;have z5:=(oz HX).z5;have z6:=(oz HX).z6;have z7:=(oz HX).z7;have p0:=(oz HP).cell 0;go_wp2_with fail
   refine (zcr T hn2 _ r w' (oz HX).tv).mono ?_;rintro e w2 ⟨rfl,hb⟩;have HB:=kz ((oz HX).bl.trans (hb.mono (oz HX).bl.size));clear hb HX HP z0 z1 z2 z3 z4 z5 z6 z7 p0;go_wp2_with fail
   go_ret;exact ⟨by rw [oz HF];rfl,oz HB⟩
theorem J0 (T:TV) (hT:TabB T) (A:TbA) (r p d:Int) (b:Bool) (n:Nat) (hn:n < T.sc.length) (W:World) (hA:Yb W T A) :
  Calls Tryz.prog 55 #[.agg #[.slice A.a0 T.sc.length A.c0,.slice A.a1 T.co.length A.c1,.slice A.a2 T.ma.length A.c2,.slice A.a3 T.pr.length A.c3,.slice A.a4 T.fo.length A.c4,.slice A.a5 T.lk.length A.c5,.slice A.a6 T.dr.length A.c6,.slice A.a7 T.al.length A.c7],.agg #[.int .i32 r,.int .i64 p,.int .i64 d,.bool b],.int .i64 n] W fun e w' =>e=.returned (.bool (Xg T n (r,b)))∧Below W.heap.size W w':=by
 have hmx:=zdA
 have hz:(W.alloc (.cells #[.slice A.a0 T.sc.length A.c0,.slice A.a1 T.co.length A.c1,.slice A.a2 T.ma.length A.c2,.slice A.a3 T.pr.length A.c3,.slice A.a4 T.fo.length A.c4,.slice A.a5 T.lk.length A.c5,.slice A.a6 T.dr.length A.c6,.slice A.a7 T.al.length A.c7] 31)).heap.size=W.heap.size+1:=by simp
 have HX:=kz ((TbX.start hA).below (Zk _ (.cells #[.int .i32 r,.int .i64 p,.int .i64 d,.bool b] 75)));have HP:=kz (Blk.new (W.alloc (.cells #[.slice A.a0 T.sc.length A.c0,.slice A.a1 T.co.length A.c1,.slice A.a2 T.ma.length A.c2,.slice A.a3 T.pr.length A.c3,.slice A.a4 T.fo.length A.c4,.slice A.a5 T.lk.length A.c5,.slice A.a6 T.dr.length A.c6,.slice A.a7 T.al.length A.c7] 31)) #[.int .i32 r,.int .i64 p,.int .i64 d,.bool b] 75);rw [hz] at HP;clear hz;have HF:=kz (show Xg T n (r,b)=(!b && zi (T.sc.getD n sc0).2 r) from rfl);have hn0:(0:Int)≤(n:Int):=by omega
 have hn1:(n:Int) < (T.sc.length:Int):=by omega
 have hn2:((n:Nat):Int).toNat=n:=by omega
 obtain ⟨x,hx⟩:∃ x,T.sc[n]?=some x:=⟨_,qR hn⟩;have hxd:T.sc.getD n sc0=x:=by rw [List.getD_eq_getElem?_getD,hx];rfl
 rw [hxd] at HF;obtain ⟨g,o,sb,sd,ea,hg,s0,s1,hr⟩:=zdU (oz HX).ti hx;have HR:=kz hr;have hxl:x.2.length≤1048576:=(hT.z0 x (YH hx)).2;have z0:=zP ((oz HX).z0.trans (congrArg (fun a =>some (Value.slice a T.sc.length A.c0)) ea));have s1:=zP s1;have p0:=zP (show World.cell? _ ⟨W.heap.size+1,0,none⟩=some (.int .i32 r) from (oz HP).cell 0);have p3:=zP (show World.cell? _ ⟨W.heap.size+1,3,none⟩=some (.bool b) from (oz HP).cell 3);clear hT hA hx hxd s0 hr hg ea;go_enter Tryz.func55,Tryz.ntmps55;go_wp2_with fail
 generalize (W.alloc _).alloc _=w0 at *;cases b with
 | true =>
  refine JG (by kernel_rfl) (by kernel_rfl) ?_;repeat (go_big_quiet_step (fail))
  first | refine wpQuiet_nil ?_ | skip
  rintro w' ⟨dq,rfl⟩;have hbr:=Xu w0 dq.d dq.os;have HB:=kz ((oz HX).bl.trans (hbr.mono (oz HX).bl.size));clear hbr;go_wp2_with fail
  go_ret;exact ⟨by rw [oz HF];rfl,oz HB⟩
 | false =>
  refine JG (by kernel_rfl) (by kernel_rfl) ?_;repeat (go_big_quiet_step (exact QH ((XM x.2 hxl sb sd r _ ((oz HR).below (Xu w0 _ _) (Xu w0 _ _).size)).mono (fun e w2 h =>⟨h.1,h.2 ▸ zl⟩))))
  first | refine wpQuiet_nil ?_ | skip
  rintro w' ⟨dq,rfl⟩;have hbr:=Xu w0 dq.d dq.os;have HB:=kz ((oz HX).bl.trans (hbr.mono (oz HX).bl.size));clear hbr;go_wp2_with fail
  go_ret;exact ⟨by rw [oz HF];rfl,oz HB⟩
set_option maxRecDepth 100000
set_option maxHeartbeats 8000000
def zds (T:TV) (s:ByteArray) (zs:List Nat) (n:Nat):Bool:=(zs.map (spX s)).all (zdr T n)
theorem zdx {α : Type} {p : α→Bool} {l:List α} {k:Nat} {x : α} (h:(l.take k).all p=true) (hx:l[k]?=some x) (hp:p x=true):(l.take (k+1)).all p=true:=by
 rw [List.take_add_one,hx,Option.toList_some,List.all_append,h];simp [hp]
theorem zkt {α : Type} {p : α→Bool} {l:List α} {k:Nat} {x : α} (hx:l[k]?=some x) (hp:p x=false):l.all p=false:=by
 rw [List.all_eq_false];exact ⟨x,YH hx,by simp [hp]⟩
theorem zbc (T:TV) (hT:TabB T) (A:TbA) (s:ByteArray) (zs:List Nat) (hz:zs.length≤1000000) (a:Option Addr) (c n:Nat) (hn:n < T.sc.length) (W:World) (hA:Yb W T A) (hr:RowC W W.heap.size a (zs.flatMap (yG s))) :
  Calls Tryz.prog 25 #[.agg #[.slice A.a0 T.sc.length A.c0,.slice A.a1 T.co.length A.c1,.slice A.a2 T.ma.length A.c2,.slice A.a3 T.pr.length A.c3,.slice A.a4 T.fo.length A.c4,.slice A.a5 T.lk.length A.c5,.slice A.a6 T.dr.length A.c6,.slice A.a7 T.al.length A.c7],.slice a zs.length c,.int .i64 n] W fun e w' =>e=.returned (.bool (zds T s zs n))∧Below W.heap.size W w':=by
 have hmx:=zdA
 have HX:=kz (TbX.start hA);have HL:=kz (hr.below (TbX.start hA).bl (TbX.start hA).bl.size);have HT:=kz hT;have hsc:T.sc.length≤1048576:=hT.n0;have hn0:¬ (n:Int) < 0:=by omega
 have hn1:¬ (T.sc.length:Int)≤(n:Int):=by omega
 have hn3:¬ T.sc.length≤n:=by omega
 clear hA hr hT;go_enter Tryz.func25,Tryz.ntmps25;go_wp2_with fail
 generalize W.alloc _=w0 at *;go_loopw [7] (fun i wr => ∃ k:Nat,k≤zs.length∧i=.int .i64 k∧Hz (((zs.map (spX s)).take k).all (zdr T n)=true)∧Hz (Below w0.heap.size w0 wr)) (fun i _ =>zs.length - (intOf i).toNat)
 case atStart =>exact ⟨0,Zn _,rfl,kz rfl,kz zl⟩
 case round =>
  obtain ⟨k,hk,rfl,HN,HB⟩:=hrel;have HX2:=kz ((oz HX).below (oz HB));have HL2:=kz ((oz HL).below (oz HB) (oz HB).size);by_cases hkn:k < zs.length
  ·obtain ⟨x,hx⟩:∃ x,zs[k]?=some x:=⟨_,qR hkn⟩;obtain ⟨g,o,rfl,hg,s0,s1,s2,s3⟩:=Jt (oz HL2) hx;have k1:(k:Int) < (zs.length:Int):=by omega
   have k2:=Zp k
   have HK:=kz (show (zs.map (spX s))[k]?=some (spX s x) by rw [List.getElem?_map,hx];rfl);obtain ⟨fb,hfb⟩:∃ fb,yP T (spX s x)=fb:=⟨_,rfl⟩;obtain ⟨bb,hbb⟩:∃ bb,Xg T n (spX s x)=bb:=⟨_,rfl⟩;have HF:Hz (∀ w,Yb w T A→Calls Tryz.prog 54 #[.agg #[.slice A.a0 T.sc.length A.c0,.slice A.a1 T.co.length A.c1,.slice A.a2 T.ma.length A.c2,.slice A.a3 T.pr.length A.c3,.slice A.a4 T.fo.length A.c4,.slice A.a5 T.lk.length A.c5,.slice A.a6 T.dr.length A.c6,.slice A.a7 T.al.length A.c7],.agg #[.int .i32 (rn s x),.int .i64 x,.int .i64 (wd s x),.bool (j6 s x)]] w fun e w' =>e=.returned (.bool fb)∧Below w.heap.size w w'):=kz (fun w h =>by
    have q:=ZV T (oz HT) A (rn s x) x (wd s x) (j6 s x) w h
    rwa [show yP T (((rn s x:Nat):Int),j6 s x)=fb from hfb] at q)
   have HD:Hz (∀ w,Yb w T A→Calls Tryz.prog 55 #[.agg #[.slice A.a0 T.sc.length A.c0,.slice A.a1 T.co.length A.c1,.slice A.a2 T.ma.length A.c2,.slice A.a3 T.pr.length A.c3,.slice A.a4 T.fo.length A.c4,.slice A.a5 T.lk.length A.c5,.slice A.a6 T.dr.length A.c6,.slice A.a7 T.al.length A.c7],.agg #[.int .i32 (rn s x),.int .i64 x,.int .i64 (wd s x),.bool (j6 s x)],.int .i64 n] w fun e w' =>e=.returned (.bool bb)∧Below w.heap.size w w'):=kz (fun w h =>by
    have q:=J0 T (oz HT) A (rn s x) x (wd s x) (j6 s x) n hn w h
    rwa [show Xg T n (((rn s x:Nat):Int),j6 s x)=bb from hbb] at q)
   have hcx:zdr T n (spX s x)=(fb || bb):=by rw [zh8 hn,hfb,hbb]
   have HC:=kz hcx;have HXr:=kz (fun d os =>((oz HX2).below (Xu wr d os)).ti);have s0:=zP s0;have s1:=zP s1;have s2:=zP s2;have s3:=zP s3;clear hfb hbb hcx;clear hg hx;have z0:=zP (oz HX2).z0;have z1:=zP (oz HX2).z1;have z2:=zP (oz HX2).z2;have z3:=zP (oz HX2).z3;have z4:=zP (oz HX2).z4;have z5:=zP (oz HX2).z5;have z6:=zP (oz HX2).z6;have z7:=zP (oz HX2).z7;go_wp2_with fail
   cases fb with
   | true =>
    refine JG (by kernel_rfl) (by kernel_rfl) ?_;repeat (go_big_quiet_step (exact QH (oz HF _ (oz HXr _ _))))
    first | refine wpQuiet_nil ?_ | skip
    rintro w' ⟨dq,rfl⟩;have HB3:=kz ((oz HB).trans ((Xu wr dq.d dq.os).mono (oz HB).size));have HN2:=kz (zdx (oz HN) (oz HK) (oz HC));clear HN HK HC HF HD HXr;go_wp2_with fail
    exact ⟨⟨k+1,by omega,by first | rfl | go_num,HN2,HB3⟩,by simp [intOf];omega⟩
   | false =>
    cases bb with
    | true =>
     refine JG (by kernel_rfl) (by kernel_rfl) ?_;repeat (go_big_quiet_step (first | exact QH (oz HF _ (oz HXr _ _)) | exact QH (oz HD _ (oz HXr _ _))))
     first | refine wpQuiet_nil ?_ | skip
     rintro w' ⟨dq,rfl⟩;have HB3:=kz ((oz HB).trans ((Xu wr dq.d dq.os).mono (oz HB).size));have HN2:=kz (zdx (oz HN) (oz HK) (oz HC));clear HN HK HC HF HD HXr;go_wp2_with fail
     exact ⟨⟨k+1,by omega,by first | rfl | go_num,HN2,HB3⟩,by simp [intOf];omega⟩
    | false =>
     refine JG (by kernel_rfl) (by kernel_rfl) ?_;repeat (go_big_quiet_step (first | exact QH (oz HF _ (oz HXr _ _)) | exact QH (oz HD _ (oz HXr _ _))))
     first | refine wpQuiet_nil ?_ | skip
     rintro w' ⟨dq,rfl⟩;have HB3:=kz ((oz HX2).bl.trans ((Xu wr dq.d dq.os).mono (oz HX2).bl.size));have HV:=kz (show zds T s zs n=false from zkt (oz HK) (oz HC));clear HN HK HC HF HD HXr;go_wp2_with fail
     go_ret;exact ⟨by rw [oz HV];rfl,oz HB3⟩
  ·have k1:¬ (k:Int) < (zs.length:Int):=by omega
   have HV:=kz (show zds T s zs n=true by
    unfold zds;have:=oz HN
    rwa [List.take_of_length_le (by rw [List.length_map];omega)] at this)
   clear HN;go_wp2_with fail
   go_ret;exact ⟨by rw [oz HV];rfl,(oz HX2).bl⟩
end
section
open Go.RowKit Go.Shelf
theorem Z7 {w:World} {ops:Array Oper} {rest:List Oper} {o:Oper} {a:Act} {Q:Exit→Act→World→Prop} (hgd:o.guard=none) (s x:Operand) (T E:TypeId)
  (ho:o.op=.call { callee := .builtin .append,args:=#[s,x],argTypes:=#[T,T] }) (i:TypeInfo) (z:Value) (bytes:Nat) (hT:Tryz.prog.underlying T=some (.slice E)) (hi:Tryz.prog.info? E=some i) (h1:i.zero=some z) (h2:i.size=1) (h3:i.bytes=bytes) (hzs:z.cells.size=1) (hb8:bytes≤64)
  (lo:Nat) (v:Value) (xs:List Value) (u:Value) (hs:a.eval s=v) (hl:xs.length≤900000) (W:World) (hW:w=W.alloc (.cells #[u] E)) (hu:u.oneCell'=true) (hv:W.ownsRow lo E 1 v xs.length xs) (hlo:lo≤W.heap.size) (n:Nat) (hn:n=W.heap.size) (hx:a.eval x=.slice (some ⟨n,0,none⟩) 1 1)
  (h:∀ v' w',w'.ownsRow lo E 1 v' (xs++[u]).length (xs++[u])→Below lo W w'→wpList Tryz.prog ops Q rest (a.put o.dst v') w'):wpList Tryz.prog ops Q (o::rest) a w:=by
 subst hW;subst hn;have b:=Blk.new W #[u] E;refine wpList_append_own _ hgd s x T ho lo E i z 1 bytes hT hi h1 h2 h3 hzs (by decide) v xs.length xs hs (hv.alloc _) ⟨W.heap.size,0,none⟩ 1 1 [u] hx (by simp) (fun j y hj =>?_) (fun y hy =>by rw [List.mem_singleton.1 hy];exact hu) (by unfold maxLen;omega) ?_ (by simp;omega) (fun v' w' h4 h5 _ =>h v' w' (by rw [List.length_append,List.length_singleton];exact h4) ?_)
 ·match j,hj with
  | 0,hj =>cases hj;exact b.cell 0
  | j+1,hj =>simp at hj
 ·have:(xs.length+1)*bytes≤900001*64:=Nat.mul_le_mul (by omega) hb8;omega
 ·exact ((Below.refl lo W).alloc hlo _).grown h5 (by simp;omega) (fun k e =>((hv.alloc (.cells #[u] E)).lt k e).1)
end
section
open Go.RowKit Go.Shelf Go.Maps
set_option maxRecDepth 100000
set_option maxHeartbeats 8000000
theorem BookAt.scs {w:World} {B:Nat} {T:TV} (h:BookAt w B T):∃ (a:Option Addr) (c:Nat) (bs:List Nat),w.cell? ⟨B,8,none⟩=some (.slice a T.sc.length c)∧bs.length=T.sc.length∧RowC w w.heap.size a (bs.map zaD)∧∀ (j:Nat) (s:ByteArray × List (Int × Int)) (b:Nat),T.sc[j]?=some s→bs[j]?=some b→SetV w s.2 b:=by
 obtain ⟨lo,t0,t1,t2,t3,t4,t5,t6,t7,sv,bs,Bc,Bd,Ba,M5,n5,M6,n6,M7,n7,MF,nF,ML,nL,h⟩:=h;have hk:=h.bx.cell 8;rw [zeT] at hk;obtain ⟨a,c,rfl⟩:∃ a c,sv=.slice a T.sc.length c:=by
  rcases h.row.2 with ⟨e,h0⟩ | ⟨g,cap,cur,e,_⟩
  ·refine ⟨none,0, ?_⟩;have:T.sc.length=0:=h0;rw [e,this]
  ·exact ⟨_,_,e⟩
 exact ⟨a,c,bs,hk,h.len,yY h.row,h.sets⟩
def Zb (T:TV) (r:Int) (k:Nat):List Nat:=(List.range k).filter (fun j =>zi (T.sc.getD j sc0).2 r)
theorem zdT (T:TV) (r:Int) (k:Nat):Zb T r (k+1)=Zb T r k++(if zi (T.sc.getD k sc0).2 r then [k] else []):=by
 unfold Zb;rw [List.range_succ,List.filter_append]
 congr 1
 cases h:zi (T.sc.getD k sc0).2 r
 ·simp only [List.filter_cons,List.filter_nil,h]
 ·simp only [List.filter_cons,List.filter_nil,h]
theorem zhz (T:TV) (r:Int) (k:Nat):(Zb T r k).length≤k:=by
 have:=List.length_filter_le (fun j =>zi (T.sc.getD j sc0).2 r) (List.range k)
 rwa [List.length_range] at this
def qA (n:Nat):Value := .int .i64 (n:Int)
theorem zap:(Tryz.prog.info? 3).map (fun i =>(i.zero,i.size,i.bytes))=some (some (.int .i64 0),1,8):=by kernel_rfl
theorem zhX:(Tryz.prog.info? 9).map (fun i =>(i.zero,i.size,i.bytes))=some (some (.string ByteArray.empty),1,16):=by kernel_rfl
theorem zaR {T:TV} (hO:zx T) (B:Nat) (r:Int) (W:World) (h:BookAt W B T):Calls Tryz.prog 74 #[.pointer (some ⟨B,0,none⟩),.int .i32 r] W fun e w' => ∃ v,e=.returned v∧w'.ownsRow W.heap.size 3 1 v (J9 T r).length ((J9 T r).map qA)∧Below W.heap.size W w':=by
 obtain ⟨i0,hi,hz0,hz1,hz2⟩:=info_parts zap;obtain ⟨a,c,bs,k8,hbl,hrow,hsets⟩:=h.scs;have hL:=hO.l0;have HR:=kz (yB hrow (yB hbl hsets));have HO:=kz hO;have H0:Hz (W.ownsRow W.heap.size 3 1 (.slice none 0 0) (Zb T r 0).length ((Zb T r 0).map qA)∧Below W.heap.size W W):=kz ⟨World.ownsRow_nil _ _ _ _,zl⟩;clear hrow hbl hsets h hO;go_enter Tryz.func74,Tryz.ntmps74;go_wp2_with fail
 go_loopw [5,6,7,13] (fun s5 _ _ s13 wr => ∃ (k:Nat) (v5:Value),k≤T.sc.length∧v5=s5∧s13=.int .i64 k∧Hz (wr.ownsRow W.heap.size 3 1 v5 (Zb T r k).length ((Zb T r k).map qA)∧Below W.heap.size W wr)) (fun _ _ _ s13 _ =>T.sc.length - (intOf s13).toNat)
 case atStart =>exact ⟨0,_,Zn _,rfl,rfl,H0⟩
 case round =>
  obtain ⟨k,v5,hk,e5,rfl,HS⟩:=hrel;subst e5;clear H0;by_cases hkn:k < T.sc.length
  ·obtain ⟨s,hs⟩:∃ s,T.sc[k]?=some s:=⟨_,qR hkn⟩;obtain ⟨b,hbs⟩:∃ b,bs[k]?=some b:=⟨_,qR (by have:=(oz HR).2.1;omega)⟩;obtain ⟨g,q,rfl,hg,hc⟩:=(oz HR).1 (by rw [List.length_map,(oz HR).2.1];omega);have kc:wr.cell? ⟨g,q+k,none⟩=some (.pointer (some ⟨b,0,none⟩)):=((oz HS).2.cell (p:=⟨g,q+k,none⟩) hg).trans (hc k _ (by rw [List.getElem?_map,hbs];rfl));have hlen:s.2.length≤1000000:=by have:=(oz HO).s0 s (YH hs);omega
   have HI:=kz (Ja hlen (((oz HR).2.2 k s b hs hbs).below (oz HS).2) r);have HK:Hz (Zb T r (k+1)=Zb T r k++(if zi s.2 r then [k] else [])):=kz (by rw [zdT,Xd sc0 hs]);have hk1:(k:Int) < (T.sc.length:Int):=by omega
   have hk2:=Zp k
   clear hs hbs hc hg hlen;generalize zi s.2 r=bb at *;go_wp2_with fail
   refine (oz HI).mono ?_;rintro e w2 ⟨rfl,hb⟩;have HS2:=kz (yB (zu (oz HS).1 hb) ((oz HS).2.trans (hb.mono (oz HS).2.size)));clear hb HI HS kc;cases bb with
   | false =>
    have HS3:Hz (w2.ownsRow W.heap.size 3 1 v5 (Zb T r (k+1)).length ((Zb T r (k+1)).map qA)∧Below W.heap.size W w2):=kz (by rw [oz HK,if_neg (by decide),List.append_nil];exact oz HS2);go_wp2_with fail
    exact ⟨⟨k+1,_,by omega,rfl,by go_num,HS3⟩,by simp [intOf];omega⟩
   | true =>
    have hsl:=zhz T r k;go_wp2_with (at_builtin;refine Z7 rfl _ _ 35 3 rfl i0 _ 8 Tryz.underlying35 hi hz0 hz1 hz2 rfl (by decide) W.heap.size v5 ((Zb T r k).map qA) (qA k) rfl (by rw [List.length_map];omega) w2 rfl rfl (by rw [List.length_map];exact (oz HS2).1) (oz HS2).2.size _ rfl rfl ?_)
    intro v' w3 ho hb;have HS3:Hz (w3.ownsRow W.heap.size 3 1 v' (Zb T r (k+1)).length ((Zb T r (k+1)).map qA)∧Below W.heap.size W w3):=kz (by
     rw [oz HK,if_pos trivial,List.map_append,List.length_append,List.map_singleton];exact ⟨ho,(oz HS2).2.trans hb⟩)
    clear ho hb;go_wp2_with fail
    exact ⟨⟨k+1,_,by omega,rfl,by go_num,HS3⟩,by simp [intOf];omega⟩
  ·have hk1:¬ (k:Int) < (T.sc.length:Int):=by omega
   obtain rfl:k=T.sc.length:=by omega
   go_wp2_with fail
   go_ret;exact ⟨_,rfl,(oz HS).1,(oz HS).2⟩
def Yo (T:TV) (k:Nat):List Value:=(T.sc.take k).map (fun x =>Value.string x.1)
theorem zcR {T:TV} (hO:zx T) (B:Nat) (W:World) (h:BookAt W B T):Calls Tryz.prog 68 #[.pointer (some ⟨B,0,none⟩)] W fun e w' => ∃ v,e=.returned v∧w'.ownsRow W.heap.size 9 1 v T.sc.length (T.sc.map (fun x =>Value.string x.1))∧Below W.heap.size W w':=by
 obtain ⟨i0,hi,hz0,hz1,hz2⟩:=info_parts zhX;obtain ⟨a0,a1,a2,a3,a4,a5,a6,a7,c0,c1,c2,c3,c4,c5,c6,c7,us,tb⟩:=h.tabs;have k0:=tb.k0;have hL:=hO.l0;have HT:=kz tb;have H0:Hz (W.ownsRow W.heap.size 9 1 (.slice none 0 0) (Yo T 0).length (Yo T 0)∧Below W.heap.size W W):=kz ⟨World.ownsRow_nil _ _ _ _,zl⟩;clear tb h hO;go_enter Tryz.func68,Tryz.ntmps68;go_wp2_with fail
 go_loopw [3,5,12] (fun s3 _ s12 wr => ∃ (k:Nat) (v5:Value),k≤T.sc.length∧v5=s3∧s12=.int .i64 k∧Hz (wr.ownsRow W.heap.size 9 1 v5 (Yo T k).length (Yo T k)∧Below W.heap.size W wr)) (fun _ _ s12 _ =>T.sc.length - (intOf s12).toNat)
 case atStart =>exact ⟨0,_,Zn _,rfl,rfl,H0⟩
 case round =>
  obtain ⟨k,v5,hk,e5,rfl,HS⟩:=hrel;subst e5;clear H0;by_cases hkn:k < T.sc.length
  ·obtain ⟨s,hs⟩:∃ s,T.sc[k]?=some s:=⟨_,qR hkn⟩;obtain ⟨u,hu⟩:∃ u,us[k]?=some u:=⟨_,qR (by have:=(oz HT).ti.lu;omega)⟩;obtain ⟨p,d,rfl,_⟩:=(oz HT).ti.rs k s u hs hu;have n0:=Qp T.sc us (oz HT).ti.lu k s hs;have n1:(jE T.sc us)[k*2+1]?=some (.slice p s.2.length d):=by rw [show k*2+1=2*k+1 by omega,Zm _ _ (oz HT).ti.lu];exact hu
   obtain ⟨g,q,rfl,hg,hc⟩:=(oz HT).ti.r0 (by have:=(Ze.1 n0).1;omega);have kc0:wr.cell? ⟨g,q+k*2,none⟩=some (.string s.1):=((oz HS).2.cell (p:=⟨g,q+k*2,none⟩) hg).trans (hc _ _ n0);have kc1:wr.cell? ⟨g,q+k*2+1,none⟩=some (.slice p s.2.length d):=((oz HS).2.cell (p:=⟨g,q+k*2+1,none⟩) hg).trans (hc _ _ n1);have HK:Hz (Yo T (k+1)=Yo T k++[.string s.1]):=kz (by unfold Yo;rw [List.take_add_one,hs];simp);have hk1:(k:Int) < (T.sc.length:Int):=by omega
   have hk2:=Zp k
   have hkl:(Yo T k).length≤900000:=by unfold Yo;rw [List.length_map,List.length_take];omega
   obtain ⟨s1,s2⟩:=s;dsimp only at kc0 kc1 HK;have hn:=al1 wr (.cells #[.string s1,.slice p s2.length d] 96);have HS2:=kz (yB (zu (oz HS).1 hn) ((oz HS).2.trans (hn.mono (oz HS).2.size)));clear hs hu hc n0 n1 hg hn HS;go_wp2_with (at_builtin;refine Z7 rfl _ _ 128 9 rfl i0 _ 16 Tryz.underlying128 hi hz0 hz1 hz2 rfl (by decide) W.heap.size v5 (Yo T k) (.string s1) rfl hkl (wr.alloc (.cells #[.string s1,.slice p s2.length d] 96)) rfl rfl (oz HS2).1 (oz HS2).2.size (wr.heap.size+1) (by simp) rfl ?_)
   intro v' w3 ho hb;have HS3:Hz (w3.ownsRow W.heap.size 9 1 v' (Yo T (k+1)).length (Yo T (k+1))∧Below W.heap.size W w3):=kz (by
    rw [oz HK,List.length_append];exact ⟨ho,(oz HS2).2.trans hb⟩)
   clear ho hb;go_wp2_with fail
   exact ⟨⟨k+1,_,by omega,rfl,by go_num,HS3⟩,by simp [intOf];omega⟩
  ·have hk1:¬ (k:Int) < (T.sc.length:Int):=by omega
   obtain rfl:k=T.sc.length:=by omega
   go_wp2_with fail
   go_ret;refine ⟨_,rfl, ?_,(oz HS).2⟩;have:=(oz HS).1;unfold Yo at this;rw [List.take_of_length_le zD,List.length_map] at this;exact this
set_option maxRecDepth 100000
set_option maxHeartbeats 8000000
theorem zbk (a b:Int) (w:World):Calls Tryz.prog 185 #[.int .i64 a,.int .i64 b] w fun e w' =>e=.returned (.bool (decide (a < b)))∧w'=w:=by
 have ha:(a != a)=false:=by simp
 go_enter Tryz.func185,Tryz.ntmps185;go_wp2_with go_in
 go_ret;exact ⟨rfl,rfl⟩
def zaX (l:List Nat):Prop := ∀ i j x y:Nat,i < j→l[i]?=some x→l[j]?=some y→x < y
def zkK (W:World) (g o:Nat) (l:List Nat):Prop := ∀ k x:Nat,l[k]?=some x→W.cell? ⟨g,o+k,none⟩=some (.int .i64 x)
theorem zdS (g o cap:Nat) (l:List Nat) (hl:l.length≤1048576) (hr:zaX l) (n:Nat) (hn:n≤1048576) (W:World) (hi:zkK W g o l) :
  Calls Tryz.prog 108 #[.slice (some ⟨g,o,none⟩) l.length cap,.int .i64 n] W fun e w' => ∃ p:Nat,e=.returned (.tuple #[.int .i64 p,.bool (decide (l[p]?=some n))])∧p≤l.length∧(∀ j x,j < p→l[j]?=some x→x < n)∧(∀ j x,p≤j→l[j]?=some x→n≤x)∧Below W.heap.size W w':=by
 have HI:=kz hi;have HRS:=kz hr;clear hi hr;go_enter Tryz.func108,Tryz.ntmps108;go_wp2
 go_loop [7,8] (fun i j => ∃ a b:Nat,a≤b∧b≤l.length∧i=.int .i64 a∧j=.int .i64 b∧Hz (∀ j x,j < a→l[j]?=some x→x < n)∧Hz (∀ j x,b≤j→l[j]?=some x→n≤x)) (fun i j =>(intOf j).toNat - (intOf i).toNat)
 case atStart =>exact ⟨0,l.length,by omega,zD,rfl,rfl,kz (fun j x hj =>by omega),kz (fun j x hj hx =>by have:=(Ze.1 hx).1;omega)⟩
 case round =>
  obtain ⟨a,b,hab,hb,rfl,rfl,H1,H2⟩:=hrel;by_cases hlt:a < b
  ·have h1:(a:Int) < (b:Int):=by omega
   obtain ⟨x,hx⟩:∃ x,l[(a+b) / 2]?=some x:=⟨_,qR (by omega)⟩;have ck:=oz HI _ _ hx;have HX:=kz hx;clear hx;by_cases hxn:x < n
   ·have hd:decide ((x:Int) < (n:Int))=true:=JS (by omega);go_wp2_with (go_at_call 185;refine (zbk _ _ _).mono ?_;rintro e w' ⟨rfl,rfl⟩)
    go_round
    case rel =>
     refine ⟨(a+b) / 2+1,b,by omega,hb, ?_,rfl,kz (fun j y hj hy =>?_),H2⟩
     ·congr 1
     ·by_cases e:j=(a+b) / 2
      ·subst e;rw [oz HX] at hy;cases hy;exact hxn
      ·have:=oz HRS j ((a+b) / 2) y x (by omega) hy (oz HX);omega
    case measure =>simp [intOf];omega
   ·have hd:decide ((x:Int) < (n:Int))=false:=Zq (by omega);go_wp2_with (go_at_call 185;refine (zbk _ _ _).mono ?_;rintro e w' ⟨rfl,rfl⟩)
    go_round
    case rel =>
     refine ⟨a,(a+b) / 2,by omega,by omega,rfl, ?_,H1,kz (fun j y hj hy =>?_)⟩
     ·congr 1
     ·by_cases e:j=(a+b) / 2
      ·subst e;rw [oz HX] at hy;cases hy;omega
      ·have:=oz HRS ((a+b) / 2) j x y (by omega) (oz HX) hy;omega
    case measure =>simp [intOf];omega
  ·have h1:¬ (a:Int) < (b:Int):=by omega
   obtain rfl:a=b:=by omega
   by_cases hal:a < l.length
   ·obtain ⟨x,hx⟩:∃ x,l[a]?=some x:=⟨_,qR hal⟩;have ck:=oz HI _ _ hx;have h2:(a:Int) < (l.length:Int):=by omega
    have h3:((a:Nat):Int).toNat=a:=by omega
    have HX:=kz hx;clear hx;by_cases hxn:x=n
    ·subst hxn;have hxe:((x:Int) == (x:Int))=true:=by simp
     have HD:=kz (show decide (l[a]?=some x)=true from JS (oz HX));go_wp2
     go_ret2
     exact ⟨a,by rw [oz HD];rfl,hb,oz H1,oz H2,zl⟩
    ·have hxe:((x:Int) == (n:Int))=false:=beq_eq_false_iff_ne.2 (by omega);have hxx:((x:Int) != (x:Int))=false:=by simp
     have HD:=kz (show decide (l[a]?=some n)=false from Zq (by rw [oz HX];simp;omega));go_wp2_with go_in
     go_ret2
     exact ⟨a,by rw [oz HD];rfl,hb,oz H1,oz H2,zl⟩
   ·have h2:¬ (a:Int) < (l.length:Int):=by omega
    have HD:=kz (show decide (l[a]?=some n)=false from Zq (by rw [List.getElem?_eq_none (by omega)];simp));go_wp2
    go_ret2
    exact ⟨a,by rw [oz HD];rfl,hb,oz H1,oz H2,zl⟩
theorem zcj (a:Option Addr) (c:Nat) (n:Int) (W:World):Calls Tryz.prog 108 #[.slice a 0 c,.int .i64 n] W fun e w' =>e=.returned (.tuple #[.int .i64 0,.bool false])∧Below W.heap.size W w':=by
 go_enter Tryz.func108,Tryz.ntmps108;go_wp2
 go_loop [7,8] (fun i j =>i=.int .i64 0∧j=.int .i64 0) (fun i j =>0)
 case atStart =>exact ⟨rfl,rfl⟩
 case round =>
  obtain ⟨rfl,rfl⟩:=hrel;go_wp2
  go_ret2
  exact ⟨rfl,zl⟩
theorem zck (a:Option Addr) (c:Nat) (l:List Nat) (hl:l.length≤1048576) (hr:zaX l) (n:Nat) (hn:n≤1048576) (W:World) (hi:RowC W W.heap.size a (l.map qA)) :
  Calls Tryz.prog 108 #[.slice a l.length c,.int .i64 n] W fun e w' => ∃ p:Int,e=.returned (.tuple #[.int .i64 p,.bool (l.contains n)])∧Below W.heap.size W w':=by
 by_cases h0:l.length=0
 ·obtain rfl:l=[]:=List.length_eq_zero_iff.1 h0;refine (zcj a c n W).mono ?_;rintro e w' ⟨rfl,hb⟩;exact ⟨0,rfl,hb⟩
 ·obtain ⟨g,o,rfl,hg,hc⟩:=hi (by rw [List.length_map];omega);refine (zdS g o c l hl hr n hn W (fun k x hx =>hc k _ (by rw [List.getElem?_map,hx];rfl))).mono ?_;rintro e w' ⟨p,rfl,hp,h1,h2,hb⟩;refine ⟨p, ?_,hb⟩;have:decide (l[p]?=some n)=l.contains n:=by
   rw [Bool.eq_iff_iff,decide_eq_true_eq,List.contains_iff_mem];constructor
   ·exact fun h =>YH h
   ·intro h;obtain ⟨j,hj⟩:=List.mem_iff_getElem?.1 h;by_cases hjp:j < p
    ·have:=h1 j n hjp hj;omega
    ·by_cases he:j=p
     ·rw [← he];exact hj
     ·obtain ⟨x,hx⟩:∃ x,l[p]?=some x:=⟨_,qR (by have:=(Ze.1 hj).1;omega)⟩;have h3:=hr p j x n (by omega) hx hj;have h4:=h2 p x zD hx;omega
  rw [this]
theorem zbx {n:Nat} (f:Nat→Bool):zaX ((List.range n).filter f):=fun i j x y hij hx hy =>by
 have h:=(List.pairwise_lt_range (n:=n)).filter f;rw [List.pairwise_iff_getElem] at h;obtain ⟨h1,rfl⟩:=Ze.1 hx;obtain ⟨h2,rfl⟩:=Ze.1 hy;exact h i j h1 h2 hij
def Qs (l m:List Nat):List Nat:=l.filter (fun n =>m.contains n)
def qB (l m:List Nat) (k:Nat):List Nat:=(l.take k).filter (fun n =>m.contains n)
theorem zcI {l m:List Nat} {k n:Nat} (h:l[k]?=some n):qB l m (k+1)=qB l m k++(if m.contains n then [n] else []):=by
 unfold qB;rw [List.take_add_one,h,Option.toList_some,List.filter_append]
 congr 1
 cases hm:m.contains n
 ·rw [List.filter_cons_of_neg (by rw [hm];decide)];rfl
 ·rw [List.filter_cons_of_pos hm];rfl
theorem zf8 (l m:List Nat) (k:Nat):(qB l m k).length≤l.length:=by
 unfold qB;refine Nat.le_trans (List.length_filter_le _ _) ?_;rw [List.length_take];omega
theorem zic (a b:Option Addr) (ca cb:Nat) (l m:List Nat) (hl:l.length≤900000) (hm:m.length≤900000) (hr:zaX m) (hv:∀ n ∈ l,n≤1048576) (W:World) (h1:RowC W W.heap.size a (l.map qA)) (h2:RowC W W.heap.size b (m.map qA)) :
  Calls Tryz.prog 71 #[.slice a l.length ca,.slice b m.length cb] W fun e w' => ∃ v,e=.returned v∧w'.ownsRow W.heap.size 3 1 v (Qs l m).length ((Qs l m).map qA)∧Below W.heap.size W w':=by
 obtain ⟨i0,hi,hz0,hz1,hz2⟩:=info_parts zap;have H1:=kz h1;have HS:=kz (fun (n:Nat) (hn:n≤1048576) (w1:World) (hb:Below W.heap.size W w1) =>zck b cb m (by omega) hr n hn w1 (h2.below hb hb.size));have H0:Hz (W.ownsRow W.heap.size 3 1 (.slice none 0 0) (qB l m 0).length ((qB l m 0).map qA)∧Below W.heap.size W W):=kz ⟨World.ownsRow_nil _ _ _ _,zl⟩;have HV:=kz hv;clear h1 h2 hr hv;go_enter Tryz.func71,Tryz.ntmps71;go_wp2_with fail
 go_loopw [5,7,8,9,12] (fun s5 _ _ _ s12 wr => ∃ (k:Nat) (v5:Value),k≤l.length∧v5=s5∧s12=.int .i64 k∧Hz (wr.ownsRow W.heap.size 3 1 v5 (qB l m k).length ((qB l m k).map qA)∧Below W.heap.size W wr)) (fun _ _ _ _ s12 _ =>l.length - (intOf s12).toNat)
 case atStart =>exact ⟨0,_,Zn _,rfl,rfl,H0⟩
 case round =>
  obtain ⟨k,v5,hk,e5,rfl,HQ⟩:=hrel;subst e5;clear H0;by_cases hkn:k < l.length
  ·obtain ⟨n,hn⟩:∃ n,l[k]?=some n:=⟨_,qR hkn⟩;obtain ⟨g,q,rfl,hg,hc⟩:=(oz H1) (by rw [List.length_map];omega);have kc:wr.cell? ⟨g,q+k,none⟩=some (.int .i64 n):=((oz HQ).2.cell (p:=⟨g,q+k,none⟩) hg).trans (hc k _ (by rw [List.getElem?_map,hn];rfl));have HI:=kz (oz HS n (oz HV n (YH hn)) wr (oz HQ).2);have HK:=kz (zcI (m:=m) hn);have hk1:(k:Int) < (l.length:Int):=by omega
   have hk2:=Zp k
   clear hn hc hg;generalize m.contains n=bb at *;go_wp2_with fail
   refine (oz HI).mono ?_;rintro e w2 ⟨p,rfl,hb⟩;have HQ2:=kz (yB (zu (oz HQ).1 hb) ((oz HQ).2.trans (hb.mono (oz HQ).2.size)));clear hb HI HQ kc;cases bb with
   | false =>
    have HQ3:Hz (w2.ownsRow W.heap.size 3 1 v5 (qB l m (k+1)).length ((qB l m (k+1)).map qA)∧Below W.heap.size W w2):=kz (by
     have hk:qB l m (k+1)=qB l m k++[]:=oz HK;rw [hk,List.append_nil];exact oz HQ2)
    go_wp2_with fail
    exact ⟨⟨k+1,_,by omega,rfl,by go_num,HQ3⟩,by simp [intOf];omega⟩
   | true =>
    have hsl:=zf8 l m k;go_wp2_with (at_builtin;refine Z7 rfl _ _ 35 3 rfl i0 _ 8 Tryz.underlying35 hi hz0 hz1 hz2 rfl (by decide) W.heap.size v5 ((qB l m k).map qA) (qA n) rfl (by rw [List.length_map];omega) w2 rfl rfl (by rw [List.length_map];exact (oz HQ2).1) (oz HQ2).2.size _ rfl rfl ?_)
    intro v' w3 ho hb;have HQ3:Hz (w3.ownsRow W.heap.size 3 1 v' (qB l m (k+1)).length ((qB l m (k+1)).map qA)∧Below W.heap.size W w3):=kz (by
     have hk:qB l m (k+1)=qB l m k++[n]:=oz HK;rw [hk,List.map_append,List.length_append,List.map_singleton];exact ⟨by first | exact ho | simpa using ho,(oz HQ2).2.trans hb⟩)
    clear ho hb;go_wp2_with fail
    exact ⟨⟨k+1,_,by omega,rfl,by go_num,HQ3⟩,by simp [intOf];omega⟩
  ·have hk1:¬ (k:Int) < (l.length:Int):=by omega
   obtain rfl:k=l.length:=by omega
   have HF:Hz (wr.ownsRow W.heap.size 3 1 v5 (Qs l m).length ((Qs l m).map qA)∧Below W.heap.size W wr):=kz (by
    have:=oz HQ;have e:qB l m l.length=Qs l m:=by unfold qB Qs;rw [List.take_length]
    rwa [e] at this)
   clear HQ;go_wp2_with fail
   go_ret;exact ⟨v5,rfl,(oz HF).1,(oz HF).2⟩
set_option maxRecDepth 100000
set_option maxHeartbeats 8000000
def ofS (T:TV) (s:ByteArray) (zs:List Nat):List Nat:=(List.range T.sc.length).filter (zds T s zs)
theorem ze8 (T:TV) (s:ByteArray) (zs:List Nat):ofS T s zs=(jU T (zs.map (spX s))).1:=by rw [ZM];rfl
def ofK (T:TV) (s:ByteArray) (zs:List Nat) (k:Nat):List Nat:=(List.range k).filter (zds T s zs)
theorem zhG (T:TV) (s:ByteArray) (zs:List Nat) (k:Nat):ofK T s zs (k+1)=ofK T s zs k++(if zds T s zs k then [k] else []):=by
 unfold ofK;rw [List.range_succ,List.filter_append]
 congr 1
 rw [List.filter_cons];rfl
theorem zkj (T:TV) (s:ByteArray) (zs:List Nat) (k:Nat):(ofK T s zs k).length≤k:=by
 unfold ofK;exact Nat.le_trans (List.length_filter_le _ _) (by simp)
theorem QY (T:TV) (hT:TabB T) (hs:T.sc.length≤300000) (A:TbA) (s:ByteArray) (zs:List Nat) (hz:zs.length≤1000000) (a:Option Addr) (c:Nat) (W:World) (hA:Yb W T A) (hr:RowC W W.heap.size a (zs.flatMap (yG s))) :
  Calls Tryz.prog 20 #[.agg #[.slice A.a0 T.sc.length A.c0,.slice A.a1 T.co.length A.c1,.slice A.a2 T.ma.length A.c2,.slice A.a3 T.pr.length A.c3,.slice A.a4 T.fo.length A.c4,.slice A.a5 T.lk.length A.c5,.slice A.a6 T.dr.length A.c6,.slice A.a7 T.al.length A.c7],.slice a zs.length c] W fun e w' => ∃ v,e=.returned v∧w'.ownsRow W.heap.size 3 1 v (ofS T s zs).length ((ofS T s zs).map qA)∧Below W.heap.size W w':=by
 have hmx:=zdA
 obtain ⟨i0,hi,hz0,hz1,hz2⟩:=info_parts zjp;have HX:=kz (TbX.start hA);have HL:=kz (hr.below (TbX.start hA).bl (TbX.start hA).bl.size);have HT:=kz hT;clear hA hr hT;go_enter Tryz.func20,Tryz.ntmps20;go_wp2_with fail
 generalize W.alloc _=w0 at *;go_loopw [5,6] (fun s5 i wr => ∃ (k:Nat) (v:Value),k≤T.sc.length∧v=s5∧i=.int .i64 k∧Hz (wr.ownsRow w0.heap.size 3 1 v (ofK T s zs k).length ((ofK T s zs k).map qA)∧Below w0.heap.size w0 wr)) (fun _ i _ =>T.sc.length - (intOf i).toNat)
 case atStart =>exact ⟨0,_,Zn _,rfl,rfl,kz ⟨World.ownsRow_nil _ _ _ _,zl⟩⟩
 case round =>
  obtain ⟨k,v,hk,ev,rfl,HQ⟩:=hrel;subst ev;have HX2:=kz ((oz HX).below (oz HQ).2);have HL2:=kz ((oz HL).below (oz HQ).2 (oz HQ).2.size);have z0:=(oz HX2).z0;have z1:=(oz HX2).z1;have z2:=(oz HX2).z2;have z3:=(oz HX2).z3;have z4:=(oz HX2).z4;have z5:=(oz HX2).z5;have z6:=(oz HX2).z6;have z7:=(oz HX2).z7;by_cases hkn:k < T.sc.length
  ·have k1:(k:Int) < (T.sc.length:Int):=by omega
   have k2:=Zp k
   have HC:=kz (zbc T (oz HT) A s zs hz a c k hkn wr (oz HX2).ti (oz HL2));have HK:=kz (zhG T s zs k);generalize zds T s zs k=bb at *;go_wp2_with fail
   refine (oz HC).mono ?_;rintro e w2 ⟨rfl,hb⟩;have HQ2:=kz (yB (zu (oz HQ).1 hb) ((oz HQ).2.trans (hb.mono (oz HQ).2.size)));clear hb HC HQ HX2 HL2;clear z0 z1 z2 z3 z4 z5 z6 z7;cases bb with
   | false =>
    have HQ3:Hz (w2.ownsRow w0.heap.size 3 1 v (ofK T s zs (k+1)).length ((ofK T s zs (k+1)).map qA)∧Below w0.heap.size w0 w2):=kz (by
     have hk:ofK T s zs (k+1)=ofK T s zs k++[]:=oz HK;rw [hk,List.append_nil];exact oz HQ2)
    clear HK HQ2;go_wp2_with fail
    exact ⟨⟨k+1,_,by omega,rfl,by first | rfl | go_num,HQ3⟩,by simp [intOf];omega⟩
   | true =>
    have hsl:=zkj T s zs k;go_wp2_with (at_builtin;refine Z7 rfl _ _ 35 3 rfl i0 _ 8 Tryz.underlying35 hi hz0 hz1 hz2 rfl (by decide) w0.heap.size v ((ofK T s zs k).map qA) (qA k) rfl (by rw [List.length_map];omega) w2 rfl rfl (by rw [List.length_map];exact (oz HQ2).1) (oz HQ2).2.size _ rfl rfl ?_)
    intro v' w3 ho hb;have HQ3:Hz (w3.ownsRow w0.heap.size 3 1 v' (ofK T s zs (k+1)).length ((ofK T s zs (k+1)).map qA)∧Below w0.heap.size w0 w3):=kz (by
     have hk:ofK T s zs (k+1)=ofK T s zs k++[k]:=oz HK;rw [hk,List.map_append,List.length_append,List.map_singleton];exact ⟨by first | exact ho | simpa using ho,(oz HQ2).2.trans hb⟩)
    clear ho hb HK HQ2;go_wp2_with fail
    exact ⟨⟨k+1,_,by omega,rfl,by first | rfl | go_num,HQ3⟩,by simp [intOf];omega⟩
  ·have k1:¬ (k:Int) < (T.sc.length:Int):=by omega
   obtain rfl:k=T.sc.length:=by omega
   have HF:Hz (wr.ownsRow W.heap.size 3 1 v (ofS T s zs).length ((ofS T s zs).map qA)∧Below W.heap.size W wr):=kz ⟨yH (oz HQ).1 (oz HX).bl.size,(oz HX2).bl⟩;clear HQ HX2 HL2;go_wp2_with fail
   go_ret;exact ⟨_,rfl,(oz HF).1,(oz HF).2⟩
end
end Go.Proofs.YthchopdfmchpkaaGreat
