/- Texts of this claim, one behind the other. -/
import Derived.Test.YthchopdfmchpkaaGreatM11
namespace Go.Proofs.YthchopdfmchpkaaGreat
set_option linter.unusedVariables false
section
open Go.RowKit Go.Shelf
set_option maxRecDepth 100000
set_option maxHeartbeats 8000000
theorem Zl (w:World) (b:Nat) (r:Int) (t:TypeId) (hb:b=w.heap.size):RnC (w.alloc (.cells #[.int .i32 r] t)) (w.alloc (.cells #[.int .i32 r] t)).heap.size (some ⟨b,0,none⟩) [r]:=fun _ =>⟨_,0,rfl,by simp [hb],fun j x hj =>by
 rcases j with _ | j
 ·obtain rfl:r=x:=by simpa using hj
  rw [hb];exact (Blk.new w #[.int .i32 r] t).cell 0
 ·simp at hj⟩
theorem zc0 (w:World) (b:Nat) (r s u:Int) (t:TypeId) (hb:b=w.heap.size):RnC (w.alloc (.cells #[.int .i32 r,.int .i32 s,.int .i32 u] t)) (w.alloc (.cells #[.int .i32 r,.int .i32 s,.int .i32 u] t)).heap.size (some ⟨b,0,none⟩) [r,s,u]:=fun _ =>⟨_,0,rfl,by simp [hb],fun j x hj =>by
 subst hb;have b:=Blk.new w #[.int .i32 r,.int .i32 s,.int .i32 u] t;rcases j with _ | _ | _ | j
 ·obtain rfl:r=x:=by simpa using hj
  exact b.cell 0
 ·obtain rfl:s=x:=by simpa using hj
  exact b.cell 1
 ·obtain rfl:u=x:=by simpa using hj
  exact b.cell 2
 ·simp at hj⟩
theorem zbQ (w:World) (b:Nat) (x y:Int) (t:TypeId) (hb:b=w.heap.size):∀ (j:Nat) (z:Int),[x,y][j]?=some z→(w.alloc (.cells #[.int .i64 x,.int .i64 y] t)).cell? ⟨b,0+j,none⟩=some (.int .i64 z):=fun j z hj =>by
 subst hb;have b:=Blk.new w #[.int .i64 x,.int .i64 y] t;rcases j with _ | _ | j
 ·obtain rfl:x=z:=by simpa using hj
  exact b.cell 0
 ·obtain rfl:y=z:=by simpa using hj
  exact b.cell 1
 ·simp at hj
theorem XE {lo:Nat} {W w:World} (h:Below lo W w) (hs:lo≤w.heap.size) (o:Obj):Below lo W (w.alloc o):=h.alloc hs o
theorem zbw (nm:ByteArray) (p:Option Addr) (n d:Nat) (w:World):Calls Tryz.prog 123 #[.agg #[.string nm,.slice p n d]] w fun e w' =>e=.returned (.int .i64 (if 1024 < n then 4 else 0))∧Below w.heap.size w w':=by
 have hB0:Below w.heap.size w (w.alloc (.cells #[.string nm,.slice p n d] 96)):=(Below.refl _ w).alloc zD _;have HB:=kz hB0;clear hB0;by_cases h:1024 < n
 ·have h1:(1024:Int) < (n:Int):=by omega
  rw [if_pos h];go_enter Tryz.func123,Tryz.ntmps123;go_wp2_with fail
  refine (zK true 4 _).mono ?_;rintro e w2 ⟨rfl,rfl⟩;go_wp2_with fail
  go_ret;exact ⟨rfl,oz HB⟩
 ·have h1:¬ (1024:Int) < (n:Int):=by omega
  rw [if_neg h];go_enter Tryz.func123,Tryz.ntmps123;go_wp2_with fail
  refine (zK false 4 _).mono ?_;rintro e w2 ⟨rfl,rfl⟩;go_wp2_with fail
  go_ret;exact ⟨rfl,oz HB⟩
theorem zaE (x y z:Int) (w:World):Calls Tryz.prog 130 #[.agg #[.int .i32 x,.int .i32 y,.int .i32 z]] w fun e w' =>e=.returned (.int .i64 (prF (x,y,z)))∧Below w.heap.size w w':=by
 have hB0:Below w.heap.size w (w.alloc (.cells #[.int .i32 x,.int .i32 y,.int .i32 z] 100)):=(Below.refl _ w).alloc zD _;have HB:=kz hB0;clear hB0;go_enter Tryz.func130,Tryz.ntmps130;go_wp2_with fail
 refine (YC [x,y,z] (by simp) _ _ _ (zc0 _ _ x y z _ (by simp))).mono ?_;rintro e w2 ⟨rfl,hb⟩;have HB2:=kz ((XE (oz HB) (oz HB).size _).trans (hb.mono (Nat.le_trans (oz HB).size (by simp))));clear hb;have hv:(if ([x,y,z] : List Int).all zm then (0:Int) else 12)=prF (x,y,z):=by
  unfold prF;simp only [List.all_cons,List.all_nil,Bool.and_true]
 rw [hv];go_wp2_with fail
 go_ret;exact ⟨rfl,oz HB2⟩
theorem zf0 (r c:Int):maF (r,c)=orE [if ([r] : List Int).all zm then 0 else 12,if (decide (c < 1∨254 < c))=true then 30 else 0]:=by
 unfold maF;simp only [List.all_cons,List.all_nil,Bool.and_true];cases hr:zm r
 ·rw [X1 (by decide)];rfl
 ·rw [X2 (by rfl)];by_cases hc:c < 1∨254 < c
  ·rw [X1 (by simp [hc])];simp [hc]
  ·rw [X2 (by simp [hc])];simp [hc,orE]
end
section
open Go.RowKit
def Ym (md:Region.Mode) (ops:Array Oper) (l:Array Bool):Prop :=
 ∀ (j:Nat) (o:Oper),ops[j]?=some o→l.getD j false=true→∀ e ∈ o.after,Region.binds md e=true→l.getD e.on false=true
def zcb (md:Region.Mode) (ops:Array Oper):Bool :=
 (List.range ops.size).all fun j =>((ops[j]?).map fun o =>o.after.all fun e => !Region.binds md e || decide (e.on < j)).getD true
def zaC (md:Region.Mode) (ops:Array Oper) (j:Nat):List Nat :=
 ((ops[j]?).map fun o =>(o.after.toList.filter fun e =>Region.binds md e).map fun e =>e.on).getD []
def zcc (md:Region.Mode) (ops:Array Oper):List Nat→List Nat→List Nat
 | [],s =>s
 | j::js,s =>zcc md ops js (if s.contains j then zaC md ops j++s else s)
def zgB (md:Region.Mode) (ops:Array Oper) (f:Nat):Bool :=
 (List.range ops.size).all fun j =>(zcc md ops (List.range ops.size).reverse [f]).contains j
theorem ZF {md:Region.Mode} {ops:Array Oper} {j k:Nat} (h:k ∈ zaC md ops j):∃ o,ops[j]?=some o∧∃ e ∈ o.after,Region.binds md e=true∧e.on=k:=by
 unfold zaC at h;cases ho:ops[j]? with
 | none =>rw [ho] at h;cases h
 | some o =>
  rw [ho] at h;obtain ⟨e,he,rfl⟩:=List.mem_map.1 h;obtain ⟨h1,h2⟩:=List.mem_filter.1 he;exact ⟨o,rfl,e,Array.mem_toList_iff.1 h1,h2,rfl⟩
theorem YW {md:Region.Mode} {ops:Array Oper} {l:Array Bool} (hc:Ym md ops l) (f:Nat) (hf:∀ k ∈ zaC md ops f,l.getD k false=true) :
  ∀ (js s:List Nat),(∀ j ∈ s,j=f∨l.getD j false=true)→∀ j ∈ zcc md ops js s,j=f∨l.getD j false=true
 | [],s,hs =>hs
 | x::js,s,hs =>by
  refine YW hc f hf js _ ?_;by_cases hx:s.contains x=true
  ·rw [if_pos hx];intro j hj;rcases List.mem_append.1 hj with h | h
   ·rcases hs x (List.contains_iff_mem.1 hx) with rfl | h2
    ·exact .inr (hf j h)
    ·obtain ⟨o,ho,e,he,hb,rfl⟩:=ZF h;exact .inr (hc x o ho h2 e he hb)
   ·exact hs j h
  ·rw [if_neg hx];exact hs
theorem zby {md:Region.Mode} {ops:Array Oper} {l:Array Bool} {f:Nat} (ha:zgB md ops f=true) (hc:Ym md ops l) (hr:f ∈ Region.ready md ops l) (j:Nat) (hj:j≠f) (hlt:j < ops.size):l.getD j false=true:=by
 obtain ⟨_,o,ho,hall⟩:=mem_ready.1 hr;have h1:=List.all_eq_true.1 ha j (List.mem_range.2 hlt);rcases YW hc f (fun k hk =>by
  obtain ⟨o',ho',e,he,hb,rfl⟩:=ZF hk;obtain rfl:=Zo (ho.symm.trans ho');exact hall e he hb) _ _ (fun x hx =>.inl (List.mem_singleton.1 hx)) j (List.contains_iff_mem.1 h1) with h | h
 ·exact absurd h hj
 ·exact h
theorem q9 {l:Array Bool} {j:Nat} (h:j < l.size):l.getD j true=l.getD j false:=by simp [h]
theorem zhA {md:Region.Mode} {ops:Array Oper} {l:Array Bool} (ht:zcb md ops=true) (hl:l.size=ops.size) (f:Nat) (hf:l.getD f true=false):Region.ready md ops l≠[]:=by
 have key:∀ n f,f≤n→l.getD f true=false→∃ i,i ∈ Region.ready md ops l:=by
  intro n
  induction n with
  | zero =>
   intro f h0 hf;obtain rfl:f=0:=by omega
   have hlt:0 < l.size:=by
    rcases Nat.lt_or_ge 0 l.size with h | h
    ·exact h
    ·simp [Array.getElem?_eq_none h] at hf
   obtain ⟨o,ho⟩:∃ o,ops[0]?=some o:=⟨_,Array.getElem?_eq_getElem (by omega)⟩;refine ⟨0,mem_ready.2 ⟨hf,o,ho,fun e he hb =>?_⟩⟩;have h1:=List.all_eq_true.1 ht 0 (List.mem_range.2 (by omega));rw [ho] at h1;have h2:=Array.all_eq_true_iff_forall_mem.1 h1 e he;rw [hb] at h2;simp at h2
  | succ n ih =>
   intro f hn hf;have hlt:f < l.size:=by
    rcases Nat.lt_or_ge f l.size with h | h
    ·exact h
    ·simp [Array.getElem?_eq_none h] at hf
   obtain ⟨o,ho⟩:∃ o,ops[f]?=some o:=⟨_,Array.getElem?_eq_getElem (by omega)⟩;by_cases hx:∃ e ∈ o.after,Region.binds md e=true∧l.getD e.on false=false
   ·obtain ⟨e,he,hb,hz⟩:=hx;have h1:=List.all_eq_true.1 ht f (List.mem_range.2 (by omega));rw [ho] at h1;have h2:=Array.all_eq_true_iff_forall_mem.1 h1 e he;rw [hb] at h2;have h3:e.on < f:=by simpa using h2
    exact ih e.on (by omega) (by rw [q9 (by omega)];exact hz)
   ·refine ⟨f,mem_ready.2 ⟨hf,o,ho,fun e he hb =>?_⟩⟩;cases hq:l.getD e.on false with
    | true =>rfl
    | false =>exact absurd ⟨e,he,hb,hq⟩ hx
 obtain ⟨i,hi⟩:=key f f zD hf;intro h;rw [h] at hi;cases hi
theorem zem (l:List Bool) (i:Nat) (h:l[i]?=some false):(l.set i true).count false+1=l.count false:=by
 induction l generalizing i with
 | nil =>simp at h
 | cons x l ih =>
  cases i with
  | zero =>
   have:x=false:=by simpa using h
   subst this;simp
  | succ i =>
   have:=ih i (by simpa using h);rw [List.set_cons_succ,List.count_cons,List.count_cons];omega
theorem zbr (l:Array Bool) (i:Nat) (h:l.getD i true=false):(l.setIfInBounds i true).toList.count false+1=l.toList.count false:=by
 rw [Array.toList_setIfInBounds];refine zem _ _ ?_;rw [Array.getElem?_toList];rcases Nat.lt_or_ge i l.size with h' | h'
 ·rw [Array.getElem?_eq_getElem h'];simp [h'] at h;rw [h]
 ·simp [Array.getElem?_eq_none h'] at h
theorem JY {md:Region.Mode} {ops:Array Oper} {l:Array Bool} {i:Nat} (hc:Ym md ops l) (hr:i ∈ Region.ready md ops l):Ym md ops (l.setIfInBounds i true):=by
 intro j o ho hj e he hb;by_cases hij:i=j
 ·subst hij;obtain ⟨_,o',ho',hall⟩:=mem_ready.1 hr;obtain rfl:=Zo (ho.symm.trans ho');exact getD_set_true (hall e he hb)
 ·rw [getD_set_ne false hij] at hj;exact getD_set_true (hc j o ho hj e he hb)
theorem zfO {md:Region.Mode} {ops:Array Oper} {l:Array Bool} (h:∀ j,j < ops.size→l.getD j false=true):Region.ready md ops l=[]:=by
 rw [List.eq_nil_iff_forall_not_mem];intro j hj;obtain ⟨h0,o,ho,_⟩:=mem_ready.1 hj;have h1:=h j (zeI.1 ho).1;rcases Nat.lt_or_ge j l.size with h' | h'
 ·rw [q9 h',h1] at h0;cases h0
 ·simp [Array.getElem?_eq_none h'] at h1
theorem zfn {P:Program} {md:Region.Mode} {ops:Array Oper} {Q:Exit→Act→World→Prop} (f:Nat) (ht:zcb md ops=true) (ha:zgB md ops f=true) (J:Array Bool→Act→World→Prop)
  (hstep:∀ l a w i,J l a w→l.size=ops.size→i ∈ Region.ready md ops l→i≠f→wpOp P ops Q i (J (l.setIfInBounds i true)) a w)
  (hfin:∀ l a w,J l a w→(∀ j,j≠f→j < ops.size→l.getD j false=true)→wpOp P ops Q f (fun a' w' =>Q .normal a' w') a w) :
  ∀ (fuel:Nat) (l:Array Bool) (a:Act) (w:World),l.toList.count false≤fuel→l.size=ops.size→l.getD f true=false→Ym md ops l→J l a w→wpAny P md ops Q fuel l a w:=by
 intro fuel
 induction fuel with
 | zero =>
  intro l a w hn hl hf;have:=zbr l f hf;omega
 | succ fuel ih =>
  intro l a w hn hl hf hc hJ;refine ⟨fun h =>absurd h (zhA ht hl f hf),fun i hi =>?_⟩;have hi0:=(mem_ready.1 hi).1;have hn2:=zbr l i hi0;by_cases hif:i=f
  ·subst hif;have hall:=fun j hj hlt =>zby ha hc hi j hj hlt
   refine wpOp_mono (fun a' w' hq =>wpAny_done (zfO fun j hj =>?_) hq fuel) (hfin l a w hJ hall);by_cases hji:j=i
   ·subst hji;simp [show j < l.size by omega]
   ·rw [getD_set_ne false (Ne.symm hji)];exact hall j hji hj
  ·exact wpOp_mono (fun a' w' hq =>ih _ a' w' (by omega) (by simpa using hl) (by rw [getD_set_ne true hif];exact hf) (JY hc hi) hq) (hstep l a w i hJ hl hi hif)
theorem zn {P:Program} {ops:Array Oper} {Q:Exit→Act→World→Prop} {id:Nat} {a:Act} {w:World} (hm:P.follows .mixedOrders=true) (f:Nat) (hf:f < ops.size) (ht:zcb .any ops=true) (ha:zgB .any ops f=true) (J:Array Bool→Act→World→Prop)
  (h0:J (Array.replicate ops.size false) a w.drew)
  (hstep:∀ l a w i,J l a w→l.size=ops.size→i ∈ Region.ready .any ops l→i≠f→wpOp P ops Q i (J (l.setIfInBounds i true)) a w)
  (hfin:∀ l a w,J l a w→(∀ j,j≠f→j < ops.size→l.getD j false=true)→wpOp P ops Q f (fun a' w' =>Q .normal a' w') a w) :
  (Code.region id ops true).wp P Q a w:=by
 refine wp_region_any hm (zfn f ht ha J hstep hfin _ _ _ _ (by simp) (by simp) (by simp [hf]) ?_ h0);intro j o ho hj
 exfalso
 rcases Nat.lt_or_ge j ops.size with h' | h'
 ·simp [h'] at hj
 ·simp [h'] at hj
theorem zb {md:Region.Mode} {ops:Array Oper} {l:Array Bool} {i:Nat} (hi:i ∈ Region.ready md ops l) (k:Nat) (hk:(zaC md ops i).contains k=true):l.getD k false=true:=by
 obtain ⟨_,o,ho,hall⟩:=mem_ready.1 hi;obtain ⟨o',ho',e,he,hb,rfl⟩:=ZF (List.contains_iff_mem.1 hk);obtain rfl:=Zo (ho.symm.trans ho');exact hall e he hb
theorem Xo {ops:Array Oper} {l:Array Bool} {i:Nat} (hl:l.size=ops.size) (h0:l.getD i true=false):i < ops.size:=by
 rw [← hl];rcases Nat.lt_or_ge i l.size with h | h
 ·exact h
 ·simp [Array.getElem?_eq_none h] at h0
structure RgJ (W0:World) (lo:Nat) (D:Nat→Value→World→Prop) (m:Nat→Bool) (l:Array Bool) (U:Nat→Value) (w:World):Prop where
 bel:Below lo W0 w
 sz:lo≤w.heap.size
 val:∀ i,l.getD i false=true→D i (U i) w
 ap:∀ i j,m i=true→m j=true→i≠j→l.getD i false=true→l.getD j false=true→(U i).ownBlock=none∨(U i).ownBlock≠(U j).ownBlock
def za (U:Nat→Value) (k:Nat) (v:Value):Nat→Value:=fun x =>if x=k then v else U x
theorem yE (U:Nat→Value) (k:Nat) (v:Value):za U k v k=v:=if_pos rfl
theorem yI (U:Nat→Value) {k x:Nat} (v:Value) (h:x≠k):za U k v x=U x:=if_neg h
theorem zc {U:Nat→Value} {k:Nat} {v:Value} (h:U k=v):U=za U k v:=by
 funext x
 by_cases hx:x=k
 ·subst hx;rw [yE,h]
 ·rw [yI _ _ hx]
theorem RgJ.start {W0:World} {lo:Nat} {D:Nat→Value→World→Prop} {m:Nat→Bool} (U:Nat→Value) (n:Nat) (h:lo≤W0.heap.size):RgJ W0 lo D m (Array.replicate n false) U W0:=by
 have h0:∀ i,(Array.replicate n false).getD i false=false:=fun i =>by
  rcases Nat.lt_or_ge i n with h' | h' <;> simp [h']
 exact ⟨zl,h,fun i hi =>by (rw [h0] at hi;cases hi),fun i j _ _ _ hi =>by (rw [h0] at hi;cases hi)⟩
theorem RgJ.put {W0:World} {lo:Nat} {D:Nat→Value→World→Prop} {m:Nat→Bool} {l:Array Bool} {U:Nat→Value} {w w':World} (h:RgJ W0 lo D m l U w) (i:Nat) (v:Value)
  (hi:l.getD i true=false) (hb:Below w.heap.size w w') (hst:∀ j u,D j u w→D j u w') (hD:D i v w')
  (hlt:∀ j u,m j=true→D j u w→∀ b,u.ownBlock=some b→b < w.heap.size) (hm:m i=true→∀ b,v.ownBlock=some b→w.heap.size≤b) :
  RgJ W0 lo D m (l.setIfInBounds i true) (za U i v) w':=by
 have hcase:∀ j,(l.setIfInBounds i true).getD j false=true→j=i∨(j≠i∧l.getD j false=true):=fun j hj =>by
  by_cases hji:j=i
  ·exact .inl hji
  ·rw [getD_set_ne false (Ne.symm hji)] at hj;exact .inr ⟨hji,hj⟩
 refine ⟨h.bel.trans (hb.mono h.sz),Nat.le_trans h.sz hb.size,fun j hj =>?_,fun j k mj mk hjk hj hk =>?_⟩
 ·rcases hcase j hj with rfl | ⟨hji,h1⟩
  ·rw [yE];exact hD
  ·rw [yI _ _ hji];exact hst j _ (h.val j h1)
 ·rcases hcase j hj with rfl | ⟨hji,h1⟩
  ·rcases hcase k hk with rfl | ⟨hki,h2⟩
   ·exact absurd rfl hjk
   ·rw [yE,yI _ _ hki];cases hb:v.ownBlock with
    | none =>exact .inl rfl
    | some b =>
     refine .inr fun e =>?_
     have h3:=hm mj b hb;have h4:=hlt k _ mk (h.val k h2) b e.symm;omega
  ·rcases hcase k hk with rfl | ⟨hki,h2⟩
   ·rw [yE,yI _ _ hji];cases hb:(U j).ownBlock with
    | none =>exact .inl rfl
    | some b =>
     refine .inr fun e =>?_
     have h3:=hm mk b e.symm;have h4:=hlt j _ mj (h.val j h1) b hb;omega
   ·rw [yI _ _ hji,yI _ _ hki];exact h.ap j k mj mk hjk h1 h2
end
section
open Go.RowKit Go.Shelf
set_option maxRecDepth 100000
set_option maxHeartbeats 8000000
theorem RnC.below {w w':World} {a:Option Addr} {zs:List Int} (h:RnC w w.heap.size a zs) (hb:Below w.heap.size w w'):RnC w' w'.heap.size a zs:=fun h0 =>by
 obtain ⟨g,o,e,hg,hc⟩:=h h0;exact ⟨g,o,e,zaY hg hb.size,fun j x hx =>(hb.cell (p:=⟨g,o+j,none⟩) hg).trans (hc j x hx)⟩
theorem Jm {w:World} {g:Nat} {x y:Int} {t:TypeId} (b:Blk w g #[.int .i64 x,.int .i64 y] t):∀ (j:Nat) (z:Int),[x,y][j]?=some z→w.cell? ⟨g,0+j,none⟩=some (.int .i64 z):=fun j z hj =>by
 rcases j with _ | _ | j
 ·obtain rfl:x=z:=by simpa using hj
  exact b.cell 0
 ·obtain rfl:y=z:=by simpa using hj
  exact b.cell 1
 ·simp at hj
def zjY (B:Nat) (r c e1:Int):Nat→Value→World→Prop
 | 0,v,w =>v=.pointer (some ⟨B,0,none⟩)
 | 1,v,w =>v=.int .i32 r
 | 2,v,w => ∃ g,v=.slice (some ⟨g,0,none⟩) 1 1∧RnC w w.heap.size (some ⟨g,0,none⟩) [r]
 | 3,v,w =>v=.int .i64 e1
 | 4,v,w =>v=.pointer (some ⟨B,1,none⟩)
 | 5,v,w =>v=.int .i64 c
 | 6,v,w =>v=.bool true
 | 7,v,w =>v=.bool true
 | 8,v,w =>v=undef
 | 9,v,w =>v=undef
 | 10,v,w =>v=undef
 | 11,v,w =>v=.bool true
 | 12,v,w =>v=.int .i64 30
 | 13,v,w => ∃ g,v=.slice (some ⟨g,0,none⟩) 2 2∧Blk w g #[.int .i64 e1,.int .i64 30] 87
 | 14,v,w =>v=.int .i64 (orE [e1,30])
 | _,v,w =>True
def zjX (j:Nat):Bool:=false
theorem qK {B:Nat} {r c e1:Int} {w w':World} (hb:Below w.heap.size w w'):∀ (j:Nat) (v:Value),zjY B r c e1 j v w→zjY B r c e1 j v w'
 | 0,v,h =>h
 | 1,v,h =>h
 | 2,v,h =>let ⟨g,e,h2⟩:=h; ⟨g,e,h2.below hb⟩
 | 3,v,h =>h
 | 4,v,h =>h
 | 5,v,h =>h
 | 6,v,h =>h
 | 7,v,h =>h
 | 8,v,h =>h
 | 9,v,h =>h
 | 10,v,h =>h
 | 11,v,h =>h
 | 12,v,h =>h
 | 13,v,h =>let ⟨g,e,h2⟩:=h; ⟨g,e,h2.below hb h2.lt⟩
 | 14,v,h =>h
 | _+15,v,h =>h
theorem qL {B:Nat} {r c e1:Int} {w:World} (j:Nat) (v:Value) (hm:zjX j=true) (h:zjY B r c e1 j v w):∀ b,v.ownBlock=some b→b < w.heap.size:=by
 cases hm
def zjW (B:Nat) (r c e1:Int):Nat→Value→World→Prop
 | 0,v,w =>v=.pointer (some ⟨B,0,none⟩)
 | 1,v,w =>v=.int .i32 r
 | 2,v,w => ∃ g,v=.slice (some ⟨g,0,none⟩) 1 1∧RnC w w.heap.size (some ⟨g,0,none⟩) [r]
 | 3,v,w =>v=.int .i64 e1
 | 4,v,w =>v=.pointer (some ⟨B,1,none⟩)
 | 5,v,w =>v=.int .i64 c
 | 6,v,w =>v=.bool false
 | 7,v,w =>v=.bool false
 | 8,v,w =>v=.pointer (some ⟨B,1,none⟩)
 | 9,v,w =>v=.int .i64 c
 | 10,v,w =>v=.bool true
 | 11,v,w =>v=.bool true
 | 12,v,w =>v=.int .i64 30
 | 13,v,w => ∃ g,v=.slice (some ⟨g,0,none⟩) 2 2∧Blk w g #[.int .i64 e1,.int .i64 30] 87
 | 14,v,w =>v=.int .i64 (orE [e1,30])
 | _,v,w =>True
def zjV (j:Nat):Bool:=false
theorem qI {B:Nat} {r c e1:Int} {w w':World} (hb:Below w.heap.size w w'):∀ (j:Nat) (v:Value),zjW B r c e1 j v w→zjW B r c e1 j v w'
 | 0,v,h =>h
 | 1,v,h =>h
 | 2,v,h =>let ⟨g,e,h2⟩:=h; ⟨g,e,h2.below hb⟩
 | 3,v,h =>h
 | 4,v,h =>h
 | 5,v,h =>h
 | 6,v,h =>h
 | 7,v,h =>h
 | 8,v,h =>h
 | 9,v,h =>h
 | 10,v,h =>h
 | 11,v,h =>h
 | 12,v,h =>h
 | 13,v,h =>let ⟨g,e,h2⟩:=h; ⟨g,e,h2.below hb h2.lt⟩
 | 14,v,h =>h
 | _+15,v,h =>h
theorem qJ {B:Nat} {r c e1:Int} {w:World} (j:Nat) (v:Value) (hm:zjV j=true) (h:zjW B r c e1 j v w):∀ b,v.ownBlock=some b→b < w.heap.size:=by
 cases hm
def zjU (B:Nat) (r c e1:Int):Nat→Value→World→Prop
 | 0,v,w =>v=.pointer (some ⟨B,0,none⟩)
 | 1,v,w =>v=.int .i32 r
 | 2,v,w => ∃ g,v=.slice (some ⟨g,0,none⟩) 1 1∧RnC w w.heap.size (some ⟨g,0,none⟩) [r]
 | 3,v,w =>v=.int .i64 e1
 | 4,v,w =>v=.pointer (some ⟨B,1,none⟩)
 | 5,v,w =>v=.int .i64 c
 | 6,v,w =>v=.bool false
 | 7,v,w =>v=.bool false
 | 8,v,w =>v=.pointer (some ⟨B,1,none⟩)
 | 9,v,w =>v=.int .i64 c
 | 10,v,w =>v=.bool false
 | 11,v,w =>v=.bool false
 | 12,v,w =>v=.int .i64 0
 | 13,v,w => ∃ g,v=.slice (some ⟨g,0,none⟩) 2 2∧Blk w g #[.int .i64 e1,.int .i64 0] 87
 | 14,v,w =>v=.int .i64 (orE [e1,0])
 | _,v,w =>True
def zjT (j:Nat):Bool:=false
theorem qG {B:Nat} {r c e1:Int} {w w':World} (hb:Below w.heap.size w w'):∀ (j:Nat) (v:Value),zjU B r c e1 j v w→zjU B r c e1 j v w'
 | 0,v,h =>h
 | 1,v,h =>h
 | 2,v,h =>let ⟨g,e,h2⟩:=h; ⟨g,e,h2.below hb⟩
 | 3,v,h =>h
 | 4,v,h =>h
 | 5,v,h =>h
 | 6,v,h =>h
 | 7,v,h =>h
 | 8,v,h =>h
 | 9,v,h =>h
 | 10,v,h =>h
 | 11,v,h =>h
 | 12,v,h =>h
 | 13,v,h =>let ⟨g,e,h2⟩:=h; ⟨g,e,h2.below hb h2.lt⟩
 | 14,v,h =>h
 | _+15,v,h =>h
theorem qH {B:Nat} {r c e1:Int} {w:World} (j:Nat) (v:Value) (hm:zjT j=true) (h:zjU B r c e1 j v w):∀ b,v.ownBlock=some b→b < w.heap.size:=by
 cases hm
theorem zaH (r c:Int) (W:World):Calls Tryz.prog 128 #[.agg #[.int .i32 r,.int .i64 c]] W fun e w' =>e=.returned (.int .i64 (maF (r,c)))∧Below W.heap.size W w':=by
 have hmx:=zdA
 have hB0:Below W.heap.size W (W.alloc (.cells #[.int .i32 r,.int .i64 c] 98)).drew:=((Below.refl _ W).alloc zD _).trans ⟨rfl,rfl,rfl,zD,fun _ _ =>rfl⟩;have bA:Blk (W.alloc (.cells #[.int .i32 r,.int .i64 c] 98)).drew W.heap.size #[.int .i32 r,.int .i64 c] 98:=Blk.new W #[.int .i32 r,.int .i64 c] 98;have HF:Hz (∀ w1,Below (W.alloc (.cells #[.int .i32 r,.int .i64 c] 98)).drew.heap.size (W.alloc (.cells #[.int .i32 r,.int .i64 c] 98)).drew w1→Blk w1 W.heap.size #[.int .i32 r,.int .i64 c] 98):=kz (fun w1 h =>bA.below h bA.lt);have HB:=kz hB0;clear hB0 bA;rw [zf0];obtain ⟨e1,he1⟩:∃ e1:Int,(if ([r] : List Int).all zm then 0 else 12)=e1:=⟨_,rfl⟩;rw [he1];have HE:=kz he1;clear he1;generalize hq:decide (c < 1∨254 < c)=q;have hc3:(decide (c < 1)=true∧decide (c < 1)=true∧q=true)∨(decide (c < 1)=false∧decide (254 < c)=true∧q=true)∨(decide (c < 1)=false∧decide (254 < c)=false∧q=false):=by
  subst hq;by_cases h1:c < 1
  ·simp [h1]
  ·by_cases h2:254 < c <;> simp [h1,h2]
 clear hq;rcases hc3 with ⟨h1,h2,rfl⟩ | ⟨h1,h2,rfl⟩ | ⟨h1,h2,rfl⟩
 ·have H1:=kz h1;have H2:=kz h2;clear h1 h2;go_enter Tryz.func128,Tryz.ntmps128;go_wp2_with fail
  generalize W.alloc _=w0 at *;refine zn hmx 15 (by decide) (by kernel_rfl) (by kernel_rfl) (fun l a w => ∃ U:Nat→Value,a = { tmps:=#[.agg #[.int .i32 r,.int .i64 c],.pointer (some ⟨W.heap.size,0,none⟩),.int .i64 0,U 0,U 1,U 2,U 3,U 4,U 5,U 6,U 7,U 8,U 9,U 10,U 11,U 12,U 13,U 14],defers := [] }∧RgJ (w0.drew) (w0.drew.heap.size) (zjY W.heap.size r c e1) zjX l U w) ⟨fun _ =>undef,rfl,RgJ.start _ _ zD⟩ ?_ ?_
  ·rintro l a w i ⟨U,rfl,hJ⟩ hl hi hif;have h0:=(mem_ready.1 hi).1;have hlt:=Xo hl h0;have HJ:=kz hJ;clear hJ hl
   replace hlt:i < 16:=hlt
   obtain rfl | rfl | rfl | rfl | rfl | rfl | rfl | rfl | rfl | rfl | rfl | rfl | rfl | rfl | rfl:i=0∨i=1∨i=2∨i=3∨i=4∨i=5∨i=6∨i=7∨i=8∨i=9∨i=10∨i=11∨i=12∨i=13∨i=14:=by omega
   any_goals refine Ky rfl (fun K hK =>?_)
   ·clear hlt hif;go_simp;exact hK _ _ ⟨za U 0 _,rfl,(oz HJ).put 0 _ h0 zl (qK zl) rfl qL (zJ rfl)⟩
   ·clear hlt hif;have d0:U 0=.pointer (some ⟨W.heap.size,0,none⟩):=(oz HJ).val 0 (zb hi 0 (by kernel_rfl));have q0:=(oz HF w (oz HJ).bel).cell 0;go_simp;exact hK _ _ ⟨za U 1 _,(by rw [zc d0];rfl),(oz HJ).put 1 _ h0 zl (qK zl) rfl qL (zJ rfl)⟩
   ·clear hlt hif;have d1:U 1=.int .i32 r:=(oz HJ).val 1 (zb hi 1 (by kernel_rfl));go_simp;exact hK _ _ ⟨za U 2 _,(by rw [zc d1];rfl),(oz HJ).put 2 _ h0 (zl.alloc zD _) (qK (zl.alloc zD _)) ⟨_,rfl,Zl w _ r _ rfl⟩ qL (zJ rfl)⟩
   ·clear hlt hif;obtain ⟨g2,d2,h2⟩:=(oz HJ).val 2 (zb hi 2 (by kernel_rfl));go_simp;refine (YC [r] (by simp) _ _ _ h2).mono ?_;rw [oz HE];rintro e w' ⟨rfl,hb⟩;exact hK _ _ ⟨za U 3 _,(by rw [zc d2];rfl),(oz HJ).put 3 _ h0 hb (qK hb) rfl qL (zJ rfl)⟩
   ·clear hlt hif;go_simp;exact hK _ _ ⟨za U 4 _,rfl,(oz HJ).put 4 _ h0 zl (qK zl) rfl qL (zJ rfl)⟩
   ·clear hlt hif;have d4:U 4=.pointer (some ⟨W.heap.size,1,none⟩):=(oz HJ).val 4 (zb hi 4 (by kernel_rfl));have q1:=(oz HF w (oz HJ).bel).cell 1;go_simp;exact hK _ _ ⟨za U 5 _,(by rw [zc d4];rfl),(oz HJ).put 5 _ h0 zl (qK zl) rfl qL (zJ rfl)⟩
   ·clear hlt hif;have d5:U 5=.int .i64 c:=(oz HJ).val 5 (zb hi 5 (by kernel_rfl));have hc1:=oz H1;go_simp;exact hK _ _ ⟨za U 6 _,(by rw [zc d5];rfl),(oz HJ).put 6 _ h0 zl (qK zl) rfl qL (zJ rfl)⟩
   ·clear hlt hif;have d6:U 6=.bool true:=(oz HJ).val 6 (zb hi 6 (by kernel_rfl));go_simp;exact hK _ _ ⟨za U 7 _,(by rw [zc d6];rfl),(oz HJ).put 7 _ h0 zl (qK zl) rfl qL (zJ rfl)⟩
   ·clear hlt hif;have d7:U 7=.bool true:=(oz HJ).val 7 (zb hi 7 (by kernel_rfl));go_simp;exact hK _ _ ⟨za U 8 _,(by rw [zc d7];rfl),(oz HJ).put 8 _ h0 zl (qK zl) rfl qL (zJ rfl)⟩
   ·clear hlt hif;have d7:U 7=.bool true:=(oz HJ).val 7 (zb hi 7 (by kernel_rfl));have d8:U 8=undef:=(oz HJ).val 8 (zb hi 8 (by kernel_rfl));go_simp;exact hK _ _ ⟨za U 9 _,(by rw [zc d7,zc d8];rfl),(oz HJ).put 9 _ h0 zl (qK zl) rfl qL (zJ rfl)⟩
   ·clear hlt hif;have d7:U 7=.bool true:=(oz HJ).val 7 (zb hi 7 (by kernel_rfl));have d9:U 9=undef:=(oz HJ).val 9 (zb hi 9 (by kernel_rfl));go_simp;exact hK _ _ ⟨za U 10 _,(by rw [zc d7,zc d9];rfl),(oz HJ).put 10 _ h0 zl (qK zl) rfl qL (zJ rfl)⟩
   ·clear hlt hif;have d7:U 7=.bool true:=(oz HJ).val 7 (zb hi 7 (by kernel_rfl));have d10:U 10=undef:=(oz HJ).val 10 (zb hi 10 (by kernel_rfl));go_simp;exact hK _ _ ⟨za U 11 _,(by rw [zc d7,zc d10];rfl),(oz HJ).put 11 _ h0 zl (qK zl) rfl qL (zJ rfl)⟩
   ·clear hlt hif;have d11:U 11=.bool true:=(oz HJ).val 11 (zb hi 11 (by kernel_rfl));go_simp;refine (zK true 30 _).mono ?_;rintro e w' ⟨rfl,rfl⟩;exact hK _ _ ⟨za U 12 _,(by rw [zc d11];rfl),(oz HJ).put 12 _ h0 zl (qK zl) rfl qL (zJ rfl)⟩
   ·clear hlt hif;have d3:U 3=.int .i64 e1:=(oz HJ).val 3 (zb hi 3 (by kernel_rfl));have d12:U 12=.int .i64 30:=(oz HJ).val 12 (zb hi 12 (by kernel_rfl));go_simp;exact hK _ _ ⟨za U 13 _,(by rw [zc d3,zc d12];rfl),(oz HJ).put 13 _ h0 (zl.alloc zD _) (qK (zl.alloc zD _)) ⟨_,rfl,Blk.new w _ _⟩ qL (zJ rfl)⟩
   ·clear hlt hif;obtain ⟨g13,d13,h13⟩:=(oz HJ).val 13 (zb hi 13 (by kernel_rfl));go_simp;refine (jK [e1,30] (by simp) _ 0 _ _ (Jm h13)).mono ?_;rintro e w' ⟨rfl,rfl⟩;exact hK _ _ ⟨za U 14 _,(by rw [zc d13];rfl),(oz HJ).put 14 _ h0 zl (qK zl) rfl qL (zJ rfl)⟩
  ·rintro l a w ⟨U,rfl,hJ⟩ hall;have d14:U 14=.int .i64 (orE [e1,30]):=hJ.val 14 (hall 14 (by decide) (by decide));have HBJ:=kz ((oz HB).trans (hJ.bel.mono (oz HB).size));clear hJ hall;refine Ky rfl (fun K hK =>?_);go_simp;refine hK _ _ ?_;clear hK;go_wp2_with fail
   go_ret;exact ⟨by first | rfl | simp,oz HBJ⟩
 ·have H1:=kz h1;have H2:=kz h2;clear h1 h2;go_enter Tryz.func128,Tryz.ntmps128;go_wp2_with fail
  generalize W.alloc _=w0 at *;refine zn hmx 15 (by decide) (by kernel_rfl) (by kernel_rfl) (fun l a w => ∃ U:Nat→Value,a = { tmps:=#[.agg #[.int .i32 r,.int .i64 c],.pointer (some ⟨W.heap.size,0,none⟩),.int .i64 0,U 0,U 1,U 2,U 3,U 4,U 5,U 6,U 7,U 8,U 9,U 10,U 11,U 12,U 13,U 14],defers := [] }∧RgJ (w0.drew) (w0.drew.heap.size) (zjW W.heap.size r c e1) zjV l U w) ⟨fun _ =>undef,rfl,RgJ.start _ _ zD⟩ ?_ ?_
  ·rintro l a w i ⟨U,rfl,hJ⟩ hl hi hif;have h0:=(mem_ready.1 hi).1;have hlt:=Xo hl h0;have HJ:=kz hJ;clear hJ hl
   replace hlt:i < 16:=hlt
   obtain rfl | rfl | rfl | rfl | rfl | rfl | rfl | rfl | rfl | rfl | rfl | rfl | rfl | rfl | rfl:i=0∨i=1∨i=2∨i=3∨i=4∨i=5∨i=6∨i=7∨i=8∨i=9∨i=10∨i=11∨i=12∨i=13∨i=14:=by omega
   any_goals refine Ky rfl (fun K hK =>?_)
   ·clear hlt hif;go_simp;exact hK _ _ ⟨za U 0 _,rfl,(oz HJ).put 0 _ h0 zl (qI zl) rfl qJ (zJ rfl)⟩
   ·clear hlt hif;have d0:U 0=.pointer (some ⟨W.heap.size,0,none⟩):=(oz HJ).val 0 (zb hi 0 (by kernel_rfl));have q0:=(oz HF w (oz HJ).bel).cell 0;go_simp;exact hK _ _ ⟨za U 1 _,(by rw [zc d0];rfl),(oz HJ).put 1 _ h0 zl (qI zl) rfl qJ (zJ rfl)⟩
   ·clear hlt hif;have d1:U 1=.int .i32 r:=(oz HJ).val 1 (zb hi 1 (by kernel_rfl));go_simp;exact hK _ _ ⟨za U 2 _,(by rw [zc d1];rfl),(oz HJ).put 2 _ h0 (zl.alloc zD _) (qI (zl.alloc zD _)) ⟨_,rfl,Zl w _ r _ rfl⟩ qJ (zJ rfl)⟩
   ·clear hlt hif;obtain ⟨g2,d2,h2⟩:=(oz HJ).val 2 (zb hi 2 (by kernel_rfl));go_simp;refine (YC [r] (by simp) _ _ _ h2).mono ?_;rw [oz HE];rintro e w' ⟨rfl,hb⟩;exact hK _ _ ⟨za U 3 _,(by rw [zc d2];rfl),(oz HJ).put 3 _ h0 hb (qI hb) rfl qJ (zJ rfl)⟩
   ·clear hlt hif;go_simp;exact hK _ _ ⟨za U 4 _,rfl,(oz HJ).put 4 _ h0 zl (qI zl) rfl qJ (zJ rfl)⟩
   ·clear hlt hif;have d4:U 4=.pointer (some ⟨W.heap.size,1,none⟩):=(oz HJ).val 4 (zb hi 4 (by kernel_rfl));have q1:=(oz HF w (oz HJ).bel).cell 1;go_simp;exact hK _ _ ⟨za U 5 _,(by rw [zc d4];rfl),(oz HJ).put 5 _ h0 zl (qI zl) rfl qJ (zJ rfl)⟩
   ·clear hlt hif;have d5:U 5=.int .i64 c:=(oz HJ).val 5 (zb hi 5 (by kernel_rfl));have hc1:=oz H1;go_simp;exact hK _ _ ⟨za U 6 _,(by rw [zc d5];rfl),(oz HJ).put 6 _ h0 zl (qI zl) rfl qJ (zJ rfl)⟩
   ·clear hlt hif;have d6:U 6=.bool false:=(oz HJ).val 6 (zb hi 6 (by kernel_rfl));go_simp;exact hK _ _ ⟨za U 7 _,(by rw [zc d6];rfl),(oz HJ).put 7 _ h0 zl (qI zl) rfl qJ (zJ rfl)⟩
   ·clear hlt hif;have d7:U 7=.bool false:=(oz HJ).val 7 (zb hi 7 (by kernel_rfl));go_simp;exact hK _ _ ⟨za U 8 _,(by rw [zc d7];rfl),(oz HJ).put 8 _ h0 zl (qI zl) rfl qJ (zJ rfl)⟩
   ·clear hlt hif;have d8:U 8=.pointer (some ⟨W.heap.size,1,none⟩):=(oz HJ).val 8 (zb hi 8 (by kernel_rfl));have d7:U 7=.bool false:=(oz HJ).val 7 (zb hi 7 (by kernel_rfl));have q1:=(oz HF w (oz HJ).bel).cell 1;go_simp;exact hK _ _ ⟨za U 9 _,(by rw [zc d8,zc d7];rfl),(oz HJ).put 9 _ h0 zl (qI zl) rfl qJ (zJ rfl)⟩
   ·clear hlt hif;have d9:U 9=.int .i64 c:=(oz HJ).val 9 (zb hi 9 (by kernel_rfl));have d7:U 7=.bool false:=(oz HJ).val 7 (zb hi 7 (by kernel_rfl));have hc2:=oz H2;go_simp;exact hK _ _ ⟨za U 10 _,(by rw [zc d9,zc d7];rfl),(oz HJ).put 10 _ h0 zl (qI zl) rfl qJ (zJ rfl)⟩
   ·clear hlt hif;have d7:U 7=.bool false:=(oz HJ).val 7 (zb hi 7 (by kernel_rfl));have d10:U 10=.bool true:=(oz HJ).val 10 (zb hi 10 (by kernel_rfl));go_simp;exact hK _ _ ⟨za U 11 _,(by rw [zc d7,zc d10];rfl),(oz HJ).put 11 _ h0 zl (qI zl) rfl qJ (zJ rfl)⟩
   ·clear hlt hif;have d11:U 11=.bool true:=(oz HJ).val 11 (zb hi 11 (by kernel_rfl));go_simp;refine (zK true 30 _).mono ?_;rintro e w' ⟨rfl,rfl⟩;exact hK _ _ ⟨za U 12 _,(by rw [zc d11];rfl),(oz HJ).put 12 _ h0 zl (qI zl) rfl qJ (zJ rfl)⟩
   ·clear hlt hif;have d3:U 3=.int .i64 e1:=(oz HJ).val 3 (zb hi 3 (by kernel_rfl));have d12:U 12=.int .i64 30:=(oz HJ).val 12 (zb hi 12 (by kernel_rfl));go_simp;exact hK _ _ ⟨za U 13 _,(by rw [zc d3,zc d12];rfl),(oz HJ).put 13 _ h0 (zl.alloc zD _) (qI (zl.alloc zD _)) ⟨_,rfl,Blk.new w _ _⟩ qJ (zJ rfl)⟩
   ·clear hlt hif;obtain ⟨g13,d13,h13⟩:=(oz HJ).val 13 (zb hi 13 (by kernel_rfl));go_simp;refine (jK [e1,30] (by simp) _ 0 _ _ (Jm h13)).mono ?_;rintro e w' ⟨rfl,rfl⟩;exact hK _ _ ⟨za U 14 _,(by rw [zc d13];rfl),(oz HJ).put 14 _ h0 zl (qI zl) rfl qJ (zJ rfl)⟩
  ·rintro l a w ⟨U,rfl,hJ⟩ hall;have d14:U 14=.int .i64 (orE [e1,30]):=hJ.val 14 (hall 14 (by decide) (by decide));have HBJ:=kz ((oz HB).trans (hJ.bel.mono (oz HB).size));clear hJ hall;refine Ky rfl (fun K hK =>?_);go_simp;refine hK _ _ ?_;clear hK;go_wp2_with fail
   go_ret;exact ⟨by first | rfl | simp,oz HBJ⟩
 ·have H1:=kz h1;have H2:=kz h2;clear h1 h2;go_enter Tryz.func128,Tryz.ntmps128;go_wp2_with fail
  generalize W.alloc _=w0 at *;refine zn hmx 15 (by decide) (by kernel_rfl) (by kernel_rfl) (fun l a w => ∃ U:Nat→Value,a = { tmps:=#[.agg #[.int .i32 r,.int .i64 c],.pointer (some ⟨W.heap.size,0,none⟩),.int .i64 0,U 0,U 1,U 2,U 3,U 4,U 5,U 6,U 7,U 8,U 9,U 10,U 11,U 12,U 13,U 14],defers := [] }∧RgJ (w0.drew) (w0.drew.heap.size) (zjU W.heap.size r c e1) zjT l U w) ⟨fun _ =>undef,rfl,RgJ.start _ _ zD⟩ ?_ ?_
  ·rintro l a w i ⟨U,rfl,hJ⟩ hl hi hif;have h0:=(mem_ready.1 hi).1;have hlt:=Xo hl h0;have HJ:=kz hJ;clear hJ hl
   replace hlt:i < 16:=hlt
   obtain rfl | rfl | rfl | rfl | rfl | rfl | rfl | rfl | rfl | rfl | rfl | rfl | rfl | rfl | rfl:i=0∨i=1∨i=2∨i=3∨i=4∨i=5∨i=6∨i=7∨i=8∨i=9∨i=10∨i=11∨i=12∨i=13∨i=14:=by omega
   any_goals refine Ky rfl (fun K hK =>?_)
   ·clear hlt hif;go_simp;exact hK _ _ ⟨za U 0 _,rfl,(oz HJ).put 0 _ h0 zl (qG zl) rfl qH (zJ rfl)⟩
   ·clear hlt hif;have d0:U 0=.pointer (some ⟨W.heap.size,0,none⟩):=(oz HJ).val 0 (zb hi 0 (by kernel_rfl));have q0:=(oz HF w (oz HJ).bel).cell 0;go_simp;exact hK _ _ ⟨za U 1 _,(by rw [zc d0];rfl),(oz HJ).put 1 _ h0 zl (qG zl) rfl qH (zJ rfl)⟩
   ·clear hlt hif;have d1:U 1=.int .i32 r:=(oz HJ).val 1 (zb hi 1 (by kernel_rfl));go_simp;exact hK _ _ ⟨za U 2 _,(by rw [zc d1];rfl),(oz HJ).put 2 _ h0 (zl.alloc zD _) (qG (zl.alloc zD _)) ⟨_,rfl,Zl w _ r _ rfl⟩ qH (zJ rfl)⟩
   ·clear hlt hif;obtain ⟨g2,d2,h2⟩:=(oz HJ).val 2 (zb hi 2 (by kernel_rfl));go_simp;refine (YC [r] (by simp) _ _ _ h2).mono ?_;rw [oz HE];rintro e w' ⟨rfl,hb⟩;exact hK _ _ ⟨za U 3 _,(by rw [zc d2];rfl),(oz HJ).put 3 _ h0 hb (qG hb) rfl qH (zJ rfl)⟩
   ·clear hlt hif;go_simp;exact hK _ _ ⟨za U 4 _,rfl,(oz HJ).put 4 _ h0 zl (qG zl) rfl qH (zJ rfl)⟩
   ·clear hlt hif;have d4:U 4=.pointer (some ⟨W.heap.size,1,none⟩):=(oz HJ).val 4 (zb hi 4 (by kernel_rfl));have q1:=(oz HF w (oz HJ).bel).cell 1;go_simp;exact hK _ _ ⟨za U 5 _,(by rw [zc d4];rfl),(oz HJ).put 5 _ h0 zl (qG zl) rfl qH (zJ rfl)⟩
   ·clear hlt hif;have d5:U 5=.int .i64 c:=(oz HJ).val 5 (zb hi 5 (by kernel_rfl));have hc1:=oz H1;go_simp;exact hK _ _ ⟨za U 6 _,(by rw [zc d5];rfl),(oz HJ).put 6 _ h0 zl (qG zl) rfl qH (zJ rfl)⟩
   ·clear hlt hif;have d6:U 6=.bool false:=(oz HJ).val 6 (zb hi 6 (by kernel_rfl));go_simp;exact hK _ _ ⟨za U 7 _,(by rw [zc d6];rfl),(oz HJ).put 7 _ h0 zl (qG zl) rfl qH (zJ rfl)⟩
   ·clear hlt hif;have d7:U 7=.bool false:=(oz HJ).val 7 (zb hi 7 (by kernel_rfl));go_simp;exact hK _ _ ⟨za U 8 _,(by rw [zc d7];rfl),(oz HJ).put 8 _ h0 zl (qG zl) rfl qH (zJ rfl)⟩
   ·clear hlt hif;have d8:U 8=.pointer (some ⟨W.heap.size,1,none⟩):=(oz HJ).val 8 (zb hi 8 (by kernel_rfl));have d7:U 7=.bool false:=(oz HJ).val 7 (zb hi 7 (by kernel_rfl));have q1:=(oz HF w (oz HJ).bel).cell 1;go_simp;exact hK _ _ ⟨za U 9 _,(by rw [zc d8,zc d7];rfl),(oz HJ).put 9 _ h0 zl (qG zl) rfl qH (zJ rfl)⟩
   ·clear hlt hif;have d9:U 9=.int .i64 c:=(oz HJ).val 9 (zb hi 9 (by kernel_rfl));have d7:U 7=.bool false:=(oz HJ).val 7 (zb hi 7 (by kernel_rfl));have hc2:=oz H2;go_simp;exact hK _ _ ⟨za U 10 _,(by rw [zc d9,zc d7];rfl),(oz HJ).put 10 _ h0 zl (qG zl) rfl qH (zJ rfl)⟩
   ·clear hlt hif;have d7:U 7=.bool false:=(oz HJ).val 7 (zb hi 7 (by kernel_rfl));have d10:U 10=.bool false:=(oz HJ).val 10 (zb hi 10 (by kernel_rfl));go_simp;exact hK _ _ ⟨za U 11 _,(by rw [zc d7,zc d10];rfl),(oz HJ).put 11 _ h0 zl (qG zl) rfl qH (zJ rfl)⟩
   ·clear hlt hif;have d11:U 11=.bool false:=(oz HJ).val 11 (zb hi 11 (by kernel_rfl));go_simp;refine (zK false 30 _).mono ?_;rintro e w' ⟨rfl,rfl⟩;exact hK _ _ ⟨za U 12 _,(by rw [zc d11];rfl),(oz HJ).put 12 _ h0 zl (qG zl) rfl qH (zJ rfl)⟩
   ·clear hlt hif;have d3:U 3=.int .i64 e1:=(oz HJ).val 3 (zb hi 3 (by kernel_rfl));have d12:U 12=.int .i64 0:=(oz HJ).val 12 (zb hi 12 (by kernel_rfl));go_simp;exact hK _ _ ⟨za U 13 _,(by rw [zc d3,zc d12];rfl),(oz HJ).put 13 _ h0 (zl.alloc zD _) (qG (zl.alloc zD _)) ⟨_,rfl,Blk.new w _ _⟩ qH (zJ rfl)⟩
   ·clear hlt hif;obtain ⟨g13,d13,h13⟩:=(oz HJ).val 13 (zb hi 13 (by kernel_rfl));go_simp;refine (jK [e1,0] (by simp) _ 0 _ _ (Jm h13)).mono ?_;rintro e w' ⟨rfl,rfl⟩;exact hK _ _ ⟨za U 14 _,(by rw [zc d13];rfl),(oz HJ).put 14 _ h0 zl (qG zl) rfl qH (zJ rfl)⟩
  ·rintro l a w ⟨U,rfl,hJ⟩ hall;have d14:U 14=.int .i64 (orE [e1,0]):=hJ.val 14 (hall 14 (by decide) (by decide));have HBJ:=kz ((oz HB).trans (hJ.bel.mono (oz HB).size));clear hJ hall;refine Ky rfl (fun K hK =>?_);go_simp;refine hK _ _ ?_;clear hK;go_wp2_with fail
   go_ret;exact ⟨by first | rfl | simp,oz HBJ⟩
end
section
open Go.RowKit Go.Shelf
attribute [local go_sem] Oper.semAt_some
set_option maxRecDepth 100000
set_option maxHeartbeats 8000000
theorem ziS {s:ByteArray} {x:Nat} (hx:x ∈ zh s) (hb:j6 s x=true):toB s=false:=by
 unfold toB;rw [Bool.and_eq_false_iff]
 left
 cases h:okU s with
 | false =>rfl
 | true =>rw [zb0.1 h x hx] at hb;cases hb
theorem zhq {s:ByteArray} (h:4 < (zh s).length):toB s=false:=by
 unfold toB;rw [Bool.and_eq_false_iff]
 right
 rw [j9];simp;omega
theorem ziT {s:ByteArray} (h:∀ p ∈ zh s,j6 s p=false) (hl:(zh s).length≤4):toB s=decide (0 < (zh s).length):=by
 unfold toB;rw [zb0.2 h,j9,Bool.true_and];by_cases h0:0 < (zh s).length
 ·rw [JS h0,JS ⟨h0,hl⟩]
 ·rw [Zq h0,Zq (fun q =>h0 q.1)]
theorem zjo (n:Nat) (hn:3≤n) (s:ByteArray) (hs:s.size≤maxLen) (w:World) :
  CallsIn Fence.wide n Tryz.prog 198 #[.string s] w fun e W' =>e=.returned (.bool (toB s))∧Below w.heap.size w W':=by
 have h1:1≤n:=by omega
 refine callsIn_of_wp_marks Tryz.func198 rfl trivial ?_ rfl;simp only [Tryz.ntmps198,List.size_toArray,List.length_cons,List.length_nil,Nat.reduceAdd,Nat.reduceSub,Array.replicate_succ,Array.replicate_zero,List.push_toArray,List.append_toArray,List.nil_append,List.cons_append]
 gi_wp2_with (refine ⟨trivial, ?_⟩;gi_at_call 41;refine (callsIn_wide.2 (Z9 _ _)).mono ?_;rintro e w' ⟨rfl,rfl⟩)
 have hb3:=((Blk.new w #[.bool false] 4).alloc (.cells #[.int .i64 0] 3)).alloc (.cells #[.string s] 9);have hb4:=(Blk.new (w.alloc (.cells #[.bool false] 4)) #[.int .i64 0] 3).alloc (.cells #[.string s] 9);have hbS:=Blk.new ((w.alloc (.cells #[.bool false] 4)).alloc (.cells #[.int .i64 0] 3)) #[.string s] 9;simp only [World.size_alloc] at hb4 hbS;have hB0:Below w.heap.size w (((w.alloc (.cells #[.bool false] 4)).alloc (.cells #[.int .i64 0] 3)).alloc (.cells #[.string s] 9)):=(((Below.refl _ w).alloc zD _).alloc (by simp) _).alloc (by simp;omega) _;have hsz:(((w.alloc (.cells #[.bool false] 4)).alloc (.cells #[.int .i64 0] 3)).alloc (.cells #[.string s] 9)).heap.size=w.heap.size+3:=by simp
 obtain ⟨W0,hW0⟩:∃ W0,((w.alloc (.cells #[.bool false] 4)).alloc (.cells #[.int .i64 0] 3)).alloc (.cells #[.string s] 9)=W0:=⟨_,rfl⟩;rw [hW0] at hb3 hb4 hbS hB0 hsz ⊢;clear hW0
 refine wpIn_rangeFunc_ownH rfl h1 (gf:=69) (lb:=#[.pointer (some ⟨w.heap.size+1+1,0,none⟩)]) rfl trivial (enters_of Tryz.func69 (by kernel_rfl) rfl)
  (ZU (n - 1) (w.heap.size+1+1) (by omega) s hs W0 (hbS.cell 0)) ziK (ziL (by omega)) zl (fun _ =>rfl)
  (fun pre W =>(Hz ((∀ i ∈ pre,j6 s i=false)∧pre.length≤4)∧Blk W w.heap.size #[.bool false] 4∧Blk W (w.heap.size+1) #[.int .i64 pre.length] 3∧Blk W (w.heap.size+1+1) #[.string s] 9)∧Below w.heap.size w W)
  (fun c pre W =>(c=.ret∧(∃ (q:List Nat) (x:Nat),pre=q++[x]∧(j6 s x=true∨4 < q.length+1))∧Blk W w.heap.size #[.bool false] 4)∧Below w.heap.size w W)
  (OwnFrom.and (Own.from (fun s A B row hs hg hr =>⟨hs.1,Blk.own _ (fun _ =>_) _ () A B row hs.2.1 hg hr,Blk.own _ (fun _ =>_) _ () A B row hs.2.2.1 hg hr,Blk.own _ (fun _ =>_) _ () A B row hs.2.2.2 hg hr⟩) _) (ownFrom_below zD (by omega)))
  (fun c =>OwnFrom.and (Own.from (fun s A B row hs hg hr =>⟨hs.1,hs.2.1,Blk.own _ (fun _ =>_) _ () A B row hs.2.2 hg hr⟩) _) (ownFrom_below zD (by omega)))
  ⟨⟨kz ⟨fun i hi =>(by cases hi),by simp⟩,hb3,hb4,hbS⟩,hB0⟩
  (fun x a' W => ∃ Bx,w.heap.size+1+1 < Bx∧Blk W Bx (Zf (ZQ s x)) 110∧a' = { tmps:=#[.string s,undef,.pointer (some ⟨w.heap.size,0,none⟩),.pointer (some ⟨w.heap.size+1,0,none⟩),undef,.pointer (some ⟨Bx,0,none⟩),.string s,.func (.func 69) #[] #[.pointer (some ⟨w.heap.size+1+1,0,none⟩)],.int .i64 x,Y9 (ZQ s x),undef,undef,undef,undef,undef,undef,undef,undef,undef,undef],defers := [] })
  (fun x a' =>Own.from (fun u A B row hs hg hr =>by
   obtain ⟨Bx,h1,h2,h3⟩:=hs;exact ⟨Bx,h1,Blk.own _ (fun _ =>_) _ () A B row h2 hg hr,h3⟩) _)
  ?assign ?body ?done ?stop
 case assign =>
  rintro l pre x W K ⟨⟨hp,k3,k4,kS⟩,hB⟩ hK
  gi_wp2
  exact hK _ _ ((KeepsOthers.alloc _ _).from _) ⟨(kS.alloc _).cell 0 |>.trans (kS.cell 0).symm,KeepsWalks.alloc _ _⟩ ⟨⟨hp,k3.alloc _,k4.alloc _,kS.alloc _⟩,hB.alloc hB.size _⟩ ⟨W.heap.size,kS.lt,Blk.new W _ 110,rfl⟩
 case body =>
  rintro l pre x a' W hl ⟨r,hr⟩ ⟨⟨hp,k3,k4,kS⟩,hB⟩ ⟨Bx,hBx,bX,rfl⟩ hlt;have x2:W.cell? ⟨Bx,2,none⟩=some (.bool (j6 s x)):=bX.cell 2;have x2s:∀ v,(W.setCell ⟨w.heap.size+1,0,none⟩ v).cell? ⟨Bx,2,none⟩=some (.bool (j6 s x)):=fun v =>(bX.other (by omega) v).cell 2
  have c3:=k3.cell 0;have c4:=k4.cell 0;have f3:=k3.frozen;have f4:=k4.frozen;have hpl:=(oz hp).2;cases hbx:j6 s x with
  | true =>
   rw [hbx] at x2 x2s;have HBX:=kz hbx;clear hbx
   gi_wp2
   refine ⟨((KeepsOthers.setCell _ _ _).trans (KeepsOthers.setCell _ _ _)).from _,⟨rfl,⟨pre,x,rfl,.inl (oz HBX)⟩, ?_⟩, ?_⟩
   ·exact (k3.other (by omega) _).set 0 _
   ·exact (hB.setCell (p:=⟨w.heap.size+1,0,none⟩) (by simp) _).setCell (p:=⟨w.heap.size,0,none⟩) zD _
  | false =>
   rw [hbx] at x2 x2s;have HBX:=kz hbx;clear hbx;by_cases h4:pre.length < 4
   ·have h4':¬ (4:Int) < (pre.length:Int)+1:=by omega
    gi_wp2
    refine ⟨(KeepsOthers.setCell _ _ _).from _,⟨((kS.other (by omega) _).cell 0).trans (kS.cell 0).symm,(KeepsOthers.setCell _ _ _).walks⟩,⟨kz ⟨fun i hi =>?_, ?_⟩,k3.other (by omega) _, ?_,kS.other (by omega) _⟩,hB.setCell (p:=⟨w.heap.size+1,0,none⟩) (by simp) _⟩
    ·rcases List.mem_append.1 hi with h | h
     ·exact (oz hp).1 i h
     ·simp at h;rw [h];exact oz HBX
    ·rw [List.length_append];simp;omega
    ·rw [show (((pre++[x]).length:Nat):Int)=(pre.length:Int)+1 by simp];exact k4.set 0 _
   ·have h4':(4:Int) < (pre.length:Int)+1:=by omega
    gi_wp2
    refine ⟨((KeepsOthers.setCell _ _ _).trans (KeepsOthers.setCell _ _ _)).from _,⟨rfl,⟨pre,x,rfl,.inr (by omega)⟩, ?_⟩, ?_⟩
    ·exact (k3.other (by omega) _).set 0 _
    ·exact (hB.setCell (p:=⟨w.heap.size+1,0,none⟩) (by simp) _).setCell (p:=⟨w.heap.size,0,none⟩) zD _
 case done =>
  rintro D ys W hD hys ⟨⟨hne,k3,k4,_⟩,hB⟩ hK;have hv:toB s=decide (0 < ys.length):=by
   rw [hys];exact ziT (by rw [← hys];exact (oz hne).1) (by rw [← hys];exact (oz hne).2)
  have HV:=kz hv;have c3:=k3.cell 0;have c4:=k4.cell 0;have f3:=k3.frozen;have hpl:=(oz hne).2;clear hys hne hv;have hdd:decide ((0:Int) < (ys.length:Int))=decide (0 < ys.length):=by simp
  gi_wp2
  rw [hdd] at *;have hK':=(KeepsOthers.setCell W ⟨w.heap.size,0,none⟩ (.bool (decide (0 < ys.length)))).same D _ hK rfl;have k3':=k3.set 0 (.bool (decide (0 < ys.length)));have hB':=hB.setCell (p:=⟨w.heap.size,0,none⟩) zD (.bool (decide (0 < ys.length)));clear hK k3 hB c3 f3;refine ⟨by simp,.inl ⟨_,_,rfl,run_takeDeferred hK', ?_⟩⟩;have q3:=k3'.put (.deferred Option.none) hK' rfl;have c3:=q3.cell 0;refine ⟨.bool (decide (0 < ys.length)), ?_,by rw [oz HV],hB'.trans (belowK_b (w:=w) zD _ D _ _ (by omega) hK' rfl rfl)⟩;simp [results,Tryz.f198,go_sem,c3]
 case stop =>
  rintro D c pre W hD hpre ⟨⟨rfl,⟨q,x,rfl,hbx⟩,k3⟩,hB⟩ hK;obtain ⟨r,hr⟩:=hpre;have hv:toB s=false:=by
   rcases hbx with hbx | hbx
   ·exact ziS (by rw [← hr];simp) hbx
   ·exact zhq (by rw [← hr];simp;omega)
  have HV:=kz hv;clear hv hr hbx
  gi_wp2
  refine ⟨by simp,.inl ⟨_,_,rfl,run_takeDeferred hK, ?_⟩⟩;have q3:=k3.put (.deferred Option.none) hK rfl;have c3:=q3.cell 0;refine ⟨.bool false, ?_,by rw [oz HV],hB.trans (belowK_b (w:=w) zD W D _ _ (by omega) hK rfl rfl)⟩;simp [results,Tryz.f198,go_sem,c3]
theorem zhV (s:ByteArray) (hs:s.size≤maxLen) (w:World):Calls Tryz.prog 198 #[.string s] w fun e W' =>e=.returned (.bool (toB s))∧Below w.heap.size w W' :=
 callsIn_wide.1 (zjo 3 (by omega) s hs w)
end
section
open Go.RowKit Go.Shelf
set_option maxRecDepth 100000
set_option maxHeartbeats 8000000
theorem j7 (c:Nat) (w:World):Calls Tryz.prog 224 #[.int .u8 (c:Int)] w fun e w' =>e=.returned (.bool (jP c))∧w'=w:=by
 go_enter Tryz.func224,Tryz.ntmps224;go_wp2;all_goals (go_ret;refine ⟨zkD ?_,rfl⟩;first | (unfold jP;rw [Bool.eq_iff_iff];simp;omega) | (unfold jP;simp_all))
def zgG (c:Nat):Bool:=jP c || decide (c=45∨(48≤c∧c≤57))
theorem Qk (s:ByteArray):XO s=(decide (1≤s.size∧s.size≤32) && (jP (bt s 0) && (List.range s.size).all (fun i =>zgG (bt s i)))):=rfl
theorem Qz (t:ByteArray) (ht:t.size≤maxLen) (w:World):Calls Tryz.prog 196 #[.string t] w fun e w' =>e=.returned (.bool (XO t))∧w'=w:=by
 unfold maxLen at ht;by_cases h0:t.size=0
 ·have hv:XO t=false:=by rw [Qk,Zq (by omega)];rfl
  rw [hv];obtain rfl:=zdI t h0;go_enter Tryz.func196,Tryz.ntmps196;go_wp2;go_ret;exact ⟨rfl,rfl⟩
 ·have hp:0 < t.size:=by omega
  have hz':¬ ((t.size:Nat):Int)=0:=by omega
  have hz:(((t.size:Nat):Int) == 0)=false:=beq_eq_false_iff_ne.2 hz';by_cases h32:32 < t.size
  ·have hv:XO t=false:=by rw [Qk,Zq (by omega)];rfl
   rw [hv];have h32':(32:Int) < ((t.size:Nat):Int):=by omega
   go_enter Tryz.func196,Tryz.ntmps196;go_wp2;go_ret;exact ⟨rfl,rfl⟩
  ·have h32':¬ (32:Int) < ((t.size:Nat):Int):=by omega
   have hb0:=qQ t 0 hp;cases hsm:jP (bt t 0) with
   | false =>
    have hv:XO t=false:=by rw [Qk,hsm];simp
    rw [hv];rw [hb0] at hsm;clear hb0;go_enter Tryz.func196,Tryz.ntmps196;go_wp2_with (go_at_call 224;refine (j7 _ _).mono ?_;rintro e w' ⟨rfl,rfl⟩)
    go_ret;exact ⟨rfl,rfl⟩
   | true =>
    have hv:XO t=(List.range t.size).all (fun i =>zgG (bt t i)):=by rw [Qk,hsm,JS (by omega)];rfl
    have HV:=kz hv;rw [hb0] at hsm;clear hb0 hv;go_enter Tryz.func196,Tryz.ntmps196;go_wp2_with (go_at_call 224;refine (j7 _ _).mono ?_;rintro e w' ⟨rfl,rfl⟩)
    go_loop [3,4,21] (fun _ _ i => ∃ k:Nat,k≤t.size∧i=.int .i64 k∧Hz (∀ j,j < k→zgG (bt t j)=true)) (fun _ _ i =>t.size - (intOf i).toNat)
    case atStart =>exact ⟨0,Zn _,rfl,kz (fun j hj =>absurd hj (Nat.not_lt_zero _))⟩
    case round =>
     obtain ⟨k,hk,rfl,HK⟩:=hrel;clear hsm;by_cases hkt:k < t.size
     ·have hkt':(k:Int) < (t.size:Int):=by omega
      have hi2:=Zp k
      have hbk:=qQ t k hkt;have HN:Hz (zgG (bt t k)=true→∀ j,j < k+1→zgG (bt t j)=true):=kz (fun h j hj =>by
       rcases Nat.lt_or_ge j k with h1 | h1
       ·exact oz HK j h1
       ·obtain rfl:j=k:=by omega
        exact h)
      have HB:Hz (zgG (bt t k)=false→XO t=false):=kz (fun h =>by
       rw [oz HV,List.all_eq_false];exact ⟨k,List.mem_range.2 hkt,by simp [h]⟩)
      have hin:zgG (bt t k)=(jP (bt t k) || decide (bt t k=45∨(48≤bt t k∧bt t k≤57))):=rfl;rw [hin] at HN HB;clear hin;generalize bt t k=b at *;subst hbk;cases hsm:jP ((t[k]'hkt).toNat) with
      | true =>
       have HN2:=kz (oz HN (by rw [hsm];rfl));clear HN HB;go_wp2_with (go_at_call 224;refine (j7 _ _).mono ?_;rintro e w' ⟨rfl,rfl⟩)
       go_round
       case rel =>exact ⟨k+1,by omega,by go_num,HN2⟩
       case measure =>simp [intOf];omega
      | false =>
       rw [hsm] at HN HB;by_cases h45:(t[k]'hkt).toNat=45
       ·have HN2:=kz (oz HN (by rw [h45];rfl));have e45:(((t[k]'hkt).toNat:Int) == 45)=true:=by rw [h45];rfl
        have e45':(((t[k]'hkt).toNat:Int))=45:=by omega
        clear HN HB;go_wp2_with (go_at_call 224;refine (j7 _ _).mono ?_;rintro e w' ⟨rfl,rfl⟩)
        go_round
        case rel =>exact ⟨k+1,by omega,by go_num,HN2⟩
        case measure =>simp [intOf];omega
       ·have e45:(((t[k]'hkt).toNat:Int) == 45)=false:=by simp;omega
        have e45':¬ (((t[k]'hkt).toNat:Int))=45:=by omega
        by_cases h48:(t[k]'hkt).toNat < 48
        ·have e48:(((t[k]'hkt).toNat:Int)) < 48:=by omega
         have HB2:=kz (oz HB (by simp;omega));clear HN HB;go_wp2_with (go_at_call 224;refine (j7 _ _).mono ?_;rintro e w' ⟨rfl,rfl⟩)
         go_ret;exact ⟨by rw [oz HB2];rfl,rfl⟩
        ·have e48:¬ (((t[k]'hkt).toNat:Int)) < 48:=by omega
         by_cases h57:57 < (t[k]'hkt).toNat
         ·have e57:57 < (((t[k]'hkt).toNat:Int)):=by omega
          have HB2:=kz (oz HB (by simp;omega));clear HN HB;go_wp2_with (go_at_call 224;refine (j7 _ _).mono ?_;rintro e w' ⟨rfl,rfl⟩)
          go_ret;exact ⟨by rw [oz HB2];rfl,rfl⟩
         ·have e57:¬ 57 < (((t[k]'hkt).toNat:Int)):=by omega
          have HN2:=kz (oz HN (by simp;omega));clear HN HB;go_wp2_with (go_at_call 224;refine (j7 _ _).mono ?_;rintro e w' ⟨rfl,rfl⟩)
          go_round
          case rel =>exact ⟨k+1,by omega,by go_num,HN2⟩
          case measure =>simp [intOf];omega
     ·have hkt':¬ (k:Int) < (t.size:Int):=by omega
      have HV2:Hz (XO t=true):=kz (by
       rw [oz HV,List.all_eq_true];intro j hj;exact oz HK j (by have:=List.mem_range.1 hj;omega))
      go_wp2;go_ret;exact ⟨by rw [oz HV2];rfl,rfl⟩
end
end Go.Proofs.YthchopdfmchpkaaGreat
