/- Texts of this claim, one behind the other. -/
import Derived.Test.YtmemedpoaocdkaaGreatM13
import Derived.Deep.RegionHeld3
import Derived.RegionTactic
import Derived.Below
/- Which tables are right: one row. -/
namespace Go.Proofs.YtmemedpoaocdkaaGreat
open Go.RowKit Go.Shelf
set_option linter.unusedVariables false
theorem zfi (w:World) (b:Nat) (r:Int) (t:TypeId) (hb:b=w.heap.size):RnC (w.alloc (.cells #[.int .i32 r] t)) (w.alloc (.cells #[.int .i32 r] t)).heap.size (some ⟨b,0,none⟩) [r]:=fun _ =>⟨_,0,rfl,by simp [hb],fun j x hj =>by
 rcases j with _ | j
 ·obtain rfl:r=x:=by simpa using hj
  rw [hb]
  exact (Blk.new w #[.int .i32 r] t).cell 0
 ·simp at hj⟩
theorem zkR (w:World) (b:Nat) (r s u:Int) (t:TypeId) (hb:b=w.heap.size):RnC (w.alloc (.cells #[.int .i32 r,.int .i32 s,.int .i32 u] t)) (w.alloc (.cells #[.int .i32 r,.int .i32 s,.int .i32 u] t)).heap.size (some ⟨b,0,none⟩) [r,s,u]:=fun _ =>⟨_,0,rfl,by simp [hb],fun j x hj =>by
 subst hb
 have b:=Blk.new w #[.int .i32 r,.int .i32 s,.int .i32 u] t
 rcases j with _ | _ | _ | j
 ·obtain rfl:r=x:=by simpa using hj
  exact b.cell 0
 ·obtain rfl:s=x:=by simpa using hj
  exact b.cell 1
 ·obtain rfl:u=x:=by simpa using hj
  exact b.cell 2
 ·simp at hj⟩
theorem zjW (w:World) (b:Nat) (x y:Int) (t:TypeId) (hb:b=w.heap.size):∀ (j:Nat) (z:Int),[x,y][j]?=some z→(w.alloc (.cells #[.int .i64 x,.int .i64 y] t)).cell? ⟨b,0+j,none⟩=some (.int .i64 z):=fun j z hj =>by
 subst hb
 have b:=Blk.new w #[.int .i64 x,.int .i64 y] t
 rcases j with _ | _ | j
 ·obtain rfl:x=z:=by simpa using hj
  exact b.cell 0
 ·obtain rfl:y=z:=by simpa using hj
  exact b.cell 1
 ·simp at hj
theorem zcU {lo:Nat} {W w:World} (h:Below lo W w) (hs:lo≤w.heap.size) (o:Obj):Below lo W (w.alloc o):=h.alloc hs o
set_option maxRecDepth 100000 in
set_option maxHeartbeats 2000000 in
theorem zi6 (nm:ByteArray) (p:Option Addr) (n d:Nat) (w:World):Calls Tryz.prog 105 #[.agg #[.string nm,.slice p n d]] w fun e w' =>e=.returned (.int .i64 (if 1024 < n then 4 else 0))∧Below w.heap.size w w':=by
 have hB0:Below w.heap.size w (w.alloc (.cells #[.string nm,.slice p n d] 109)):=(Below.refl _ w).alloc (Nat.le_refl _) _
 have HB:=kz hB0
 clear hB0
 by_cases h:1024 < n
 ·have h1:(1024:Int) < (n:Int):=by omega
  rw [if_pos h]
  go_enter Tryz.func105,Tryz.ntmps105
  go_wp2_with fail
  refine (zaI true 4 _).mono ?_
  rintro e w2 ⟨rfl,rfl⟩
  go_wp2_with fail
  go_ret
  exact ⟨rfl,oz HB⟩
 ·have h1:¬ (1024:Int) < (n:Int):=by omega
  rw [if_neg h]
  go_enter Tryz.func105,Tryz.ntmps105
  go_wp2_with fail
  refine (zaI false 4 _).mono ?_
  rintro e w2 ⟨rfl,rfl⟩
  go_wp2_with fail
  go_ret
  exact ⟨rfl,oz HB⟩
set_option maxRecDepth 100000 in
set_option maxHeartbeats 2000000 in
theorem ziA (x y z:Int) (w:World):Calls Tryz.prog 112 #[.agg #[.int .i32 x,.int .i32 y,.int .i32 z]] w fun e w' =>e=.returned (.int .i64 (prF (x,y,z)))∧Below w.heap.size w w':=by
 have hB0:Below w.heap.size w (w.alloc (.cells #[.int .i32 x,.int .i32 y,.int .i32 z] 117)):=(Below.refl _ w).alloc (Nat.le_refl _) _
 have HB:=kz hB0
 clear hB0
 go_enter Tryz.func112,Tryz.ntmps112
 go_wp2_with fail
 refine (zd3 [x,y,z] (by simp) _ _ _ (zkR _ _ x y z _ (by simp))).mono ?_
 rintro e w2 ⟨rfl,hb⟩
 have HB2:=kz ((zcU (oz HB) (oz HB).size _).trans (hb.mono (Nat.le_trans (oz HB).size (by simp))))
 clear hb
 have hv:(if ([x,y,z] : List Int).all zaq then (0:Int) else 12)=prF (x,y,z):=by
  unfold prF
  simp only [List.all_cons,List.all_nil,Bool.and_true]
 rw [hv]
 go_wp2_with fail
 go_ret
 exact ⟨rfl,oz HB2⟩
theorem zni (r c:Int):maF (r,c)=orE [if ([r] : List Int).all zaq then 0 else 12,if (decide (c < 1∨254 < c))=true then 30 else 0]:=by
 unfold maF
 simp only [List.all_cons,List.all_nil,Bool.and_true]
 cases hr:zaq r
 ·rw [zdp (by decide)]
  rfl
 ·rw [zdq (by rfl)]
  by_cases hc:c < 1∨254 < c
  ·rw [zdp (by simp [hc])]
   simp [hc]
  ·rw [zdq (by simp [hc])]
   simp [hc,orE]
end Go.Proofs.YtmemedpoaocdkaaGreat
namespace Go.Proofs.YtmemedpoaocdkaaGreat
open Go.RowKit
set_option linter.unusedVariables false
def zf4 (md:Region.Mode) (ops:Array Oper) (l:Array Bool):Prop :=
 ∀ (j:Nat) (o:Oper),ops[j]?=some o→l.getD j false=true→∀ e ∈ o.after,Region.binds md e=true→l.getD e.on false=true
def zmP (md:Region.Mode) (ops:Array Oper):Bool :=
 (List.range ops.size).all fun j =>((ops[j]?).map fun o =>o.after.all fun e => !Region.binds md e || decide (e.on < j)).getD true
def zjj (md:Region.Mode) (ops:Array Oper) (j:Nat):List Nat :=
 ((ops[j]?).map fun o =>(o.after.toList.filter fun e =>Region.binds md e).map fun e =>e.on).getD []
def zmQ (md:Region.Mode) (ops:Array Oper):List Nat→List Nat→List Nat
 | [],s =>s
 | j::js,s =>zmQ md ops js (if s.contains j then zjj md ops j++s else s)
def zqu (md:Region.Mode) (ops:Array Oper) (f:Nat):Bool :=
 (List.range ops.size).all fun j =>(zmQ md ops (List.range ops.size).reverse [f]).contains j
theorem zgf {md:Region.Mode} {ops:Array Oper} {j k:Nat} (h:k ∈ zjj md ops j):∃ o,ops[j]?=some o∧∃ e ∈ o.after,Region.binds md e=true∧e.on=k:=by
 unfold zjj at h
 cases ho:ops[j]? with
 | none =>rw [ho] at h;cases h
 | some o =>
  rw [ho] at h
  obtain ⟨e,he,rfl⟩:=List.mem_map.1 h
  obtain ⟨h1,h2⟩:=List.mem_filter.1 he
  exact ⟨o,rfl,e,Array.mem_toList_iff.1 h1,h2,rfl⟩
theorem zfH {md:Region.Mode} {ops:Array Oper} {l:Array Bool} (hc:zf4 md ops l) (f:Nat) (hf:∀ k ∈ zjj md ops f,l.getD k false=true) :
  ∀ (js s:List Nat),(∀ j ∈ s,j=f∨l.getD j false=true)→∀ j ∈ zmQ md ops js s,j=f∨l.getD j false=true
 | [],s,hs =>hs
 | x::js,s,hs =>by
  refine zfH hc f hf js _ ?_
  by_cases hx:s.contains x=true
  ·rw [if_pos hx]
   intro j hj
   rcases List.mem_append.1 hj with h | h
   ·rcases hs x (List.contains_iff_mem.1 hx) with rfl | h2
    ·exact .inr (hf j h)
    ·obtain ⟨o,ho,e,he,hb,rfl⟩:=zgf h
     exact .inr (hc x o ho h2 e he hb)
   ·exact hs j h
  ·rw [if_neg hx]
   exact hs
theorem zjl {md:Region.Mode} {ops:Array Oper} {l:Array Bool} {f:Nat} (ha:zqu md ops f=true) (hc:zf4 md ops l) (hr:f ∈ Region.ready md ops l) (j:Nat) (hj:j≠f) (hlt:j < ops.size):l.getD j false=true:=by
 obtain ⟨_,o,ho,hall⟩:=mem_ready.1 hr
 have h1:=List.all_eq_true.1 ha j (List.mem_range.2 hlt)
 rcases zfH hc f (fun k hk =>by
  obtain ⟨o',ho',e,he,hb,rfl⟩:=zgf hk
  obtain rfl:=Option.some.inj (ho.symm.trans ho')
  exact hall e he hb) _ _ (fun x hx =>.inl (List.mem_singleton.1 hx)) j (List.contains_iff_mem.1 h1) with h | h
 ·exact absurd h hj
 ·exact h
theorem zdu {l:Array Bool} {j:Nat} (h:j < l.size):l.getD j true=l.getD j false:=by simp [h]
theorem zpa {md:Region.Mode} {ops:Array Oper} {l:Array Bool} (ht:zmP md ops=true) (hl:l.size=ops.size) (f:Nat) (hf:l.getD f true=false):Region.ready md ops l≠[]:=by
 have key:∀ n f,f≤n→l.getD f true=false→∃ i,i ∈ Region.ready md ops l:=by
  intro n
  induction n with
  | zero =>
   intro f h0 hf
   obtain rfl:f=0:=by omega
   have hlt:0 < l.size:=by
    rcases Nat.lt_or_ge 0 l.size with h | h
    ·exact h
    ·simp [Array.getElem?_eq_none h] at hf
   obtain ⟨o,ho⟩:∃ o,ops[0]?=some o:=⟨_,Array.getElem?_eq_getElem (by omega)⟩
   refine ⟨0,mem_ready.2 ⟨hf,o,ho,fun e he hb =>?_⟩⟩
   have h1:=List.all_eq_true.1 ht 0 (List.mem_range.2 (by omega))
   rw [ho] at h1
   have h2:=Array.all_eq_true_iff_forall_mem.1 h1 e he
   rw [hb] at h2
   simp at h2
  | succ n ih =>
   intro f hn hf
   have hlt:f < l.size:=by
    rcases Nat.lt_or_ge f l.size with h | h
    ·exact h
    ·simp [Array.getElem?_eq_none h] at hf
   obtain ⟨o,ho⟩:∃ o,ops[f]?=some o:=⟨_,Array.getElem?_eq_getElem (by omega)⟩
   by_cases hx:∃ e ∈ o.after,Region.binds md e=true∧l.getD e.on false=false
   ·obtain ⟨e,he,hb,hz⟩:=hx
    have h1:=List.all_eq_true.1 ht f (List.mem_range.2 (by omega))
    rw [ho] at h1
    have h2:=Array.all_eq_true_iff_forall_mem.1 h1 e he
    rw [hb] at h2
    have h3:e.on < f:=by simpa using h2
    exact ih e.on (by omega) (by rw [zdu (by omega)];exact hz)
   ·refine ⟨f,mem_ready.2 ⟨hf,o,ho,fun e he hb =>?_⟩⟩
    cases hq:l.getD e.on false with
    | true =>rfl
    | false =>exact absurd ⟨e,he,hb,hq⟩ hx
 obtain ⟨i,hi⟩:=key f f (Nat.le_refl _) hf
 intro h
 rw [h] at hi
 cases hi
theorem zlX (l:List Bool) (i:Nat) (h:l[i]?=some false):(l.set i true).count false+1=l.count false:=by
 induction l generalizing i with
 | nil =>simp at h
 | cons x l ih =>
  cases i with
  | zero =>
   have:x=false:=by simpa using h
   subst this
   simp
  | succ i =>
   have:=ih i (by simpa using h)
   rw [List.set_cons_succ,List.count_cons,List.count_cons]
   omega
theorem zjG (l:Array Bool) (i:Nat) (h:l.getD i true=false):(l.setIfInBounds i true).toList.count false+1=l.toList.count false:=by
 rw [Array.toList_setIfInBounds]
 refine zlX _ _ ?_
 rw [Array.getElem?_toList]
 rcases Nat.lt_or_ge i l.size with h' | h'
 ·rw [Array.getElem?_eq_getElem h']
  simp [h'] at h
  rw [h]
 ·simp [Array.getElem?_eq_none h'] at h
theorem zjk {md:Region.Mode} {ops:Array Oper} {l:Array Bool} {i:Nat} (hc:zf4 md ops l) (hr:i ∈ Region.ready md ops l):zf4 md ops (l.setIfInBounds i true):=by
 intro j o ho hj e he hb
 by_cases hij:i=j
 ·subst hij
  obtain ⟨_,o',ho',hall⟩:=mem_ready.1 hr
  obtain rfl:=Option.some.inj (ho.symm.trans ho')
  exact getD_set_true (hall e he hb)
 ·rw [getD_set_ne false hij] at hj
  exact getD_set_true (hc j o ho hj e he hb)
theorem zmU {md:Region.Mode} {ops:Array Oper} {l:Array Bool} (h:∀ j,j < ops.size→l.getD j false=true):Region.ready md ops l=[]:=by
 rw [List.eq_nil_iff_forall_not_mem]
 intro j hj
 obtain ⟨h0,o,ho,_⟩:=mem_ready.1 hj
 have h1:=h j (Array.getElem?_eq_some_iff.1 ho).1
 rcases Nat.lt_or_ge j l.size with h' | h'
 ·rw [zdu h',h1] at h0
  cases h0
 ·simp [Array.getElem?_eq_none h'] at h1
theorem zmp {P:Program} {md:Region.Mode} {ops:Array Oper} {Q:Exit→Act→World→Prop} (f:Nat) (ht:zmP md ops=true) (ha:zqu md ops f=true) (J:Array Bool→Act→World→Prop)
  (hstep:∀ l a w i,J l a w→l.size=ops.size→i ∈ Region.ready md ops l→i≠f→wpOp P ops Q i (J (l.setIfInBounds i true)) a w)
  (hfin:∀ l a w,J l a w→(∀ j,j≠f→j < ops.size→l.getD j false=true)→wpOp P ops Q f (fun a' w' =>Q .normal a' w') a w) :
  ∀ (fuel:Nat) (l:Array Bool) (a:Act) (w:World),l.toList.count false≤fuel→l.size=ops.size→l.getD f true=false→zf4 md ops l→J l a w→wpAny P md ops Q fuel l a w:=by
 intro fuel
 induction fuel with
 | zero =>
  intro l a w hn hl hf
  have:=zjG l f hf
  omega
 | succ fuel ih =>
  intro l a w hn hl hf hc hJ
  refine ⟨fun h =>absurd h (zpa ht hl f hf),fun i hi =>?_⟩
  have hi0:=(mem_ready.1 hi).1
  have hn2:=zjG l i hi0
  by_cases hif:i=f
  ·subst hif
   have hall:=fun j hj hlt =>zjl ha hc hi j hj hlt
   refine wpOp_mono (fun a' w' hq =>wpAny_done (zmU fun j hj =>?_) hq fuel) (hfin l a w hJ hall)
   by_cases hji:j=i
   ·subst hji
    simp [show j < l.size by omega]
   ·rw [getD_set_ne false (Ne.symm hji)]
    exact hall j hji hj
  ·exact wpOp_mono (fun a' w' hq =>ih _ a' w' (by omega) (by simpa using hl) (by rw [getD_set_ne true hif];exact hf) (zjk hc hi) hq) (hstep l a w i hJ hl hi hif)
theorem zao {P:Program} {ops:Array Oper} {Q:Exit→Act→World→Prop} {id:Nat} {a:Act} {w:World} (hm:P.follows .mixedOrders=true) (f:Nat) (hf:f < ops.size) (ht:zmP .any ops=true) (ha:zqu .any ops f=true) (J:Array Bool→Act→World→Prop)
  (h0:J (Array.replicate ops.size false) a w.drew)
  (hstep:∀ l a w i,J l a w→l.size=ops.size→i ∈ Region.ready .any ops l→i≠f→wpOp P ops Q i (J (l.setIfInBounds i true)) a w)
  (hfin:∀ l a w,J l a w→(∀ j,j≠f→j < ops.size→l.getD j false=true)→wpOp P ops Q f (fun a' w' =>Q .normal a' w') a w) :
  (Code.region id ops true).wp P Q a w:=by
 refine wp_region_any hm (zmp f ht ha J hstep hfin _ _ _ _ (by simp) (by simp) (by simp [hf]) ?_ h0)
 intro j o ho hj
 exfalso
 rcases Nat.lt_or_ge j ops.size with h' | h'
 ·simp [h'] at hj
 ·simp [h'] at hj
theorem zab {md:Region.Mode} {ops:Array Oper} {l:Array Bool} {i:Nat} (hi:i ∈ Region.ready md ops l) (k:Nat) (hk:(zjj md ops i).contains k=true):l.getD k false=true:=by
 obtain ⟨_,o,ho,hall⟩:=mem_ready.1 hi
 obtain ⟨o',ho',e,he,hb,rfl⟩:=zgf (List.contains_iff_mem.1 hk)
 obtain rfl:=Option.some.inj (ho.symm.trans ho')
 exact hall e he hb
theorem zdB {ops:Array Oper} {l:Array Bool} {i:Nat} (hl:l.size=ops.size) (h0:l.getD i true=false):i < ops.size:=by
 rw [← hl]
 rcases Nat.lt_or_ge i l.size with h | h
 ·exact h
 ·simp [Array.getElem?_eq_none h] at h0
structure RgJ (W0:World) (lo:Nat) (D:Nat→Value→World→Prop) (m:Nat→Bool) (l:Array Bool) (U:Nat→Value) (w:World):Prop where
 bel:Below lo W0 w
 sz:lo≤w.heap.size
 val:∀ i,l.getD i false=true→D i (U i) w
 ap:∀ i j,m i=true→m j=true→i≠j→l.getD i false=true→l.getD j false=true→(U i).ownBlock=none∨(U i).ownBlock≠(U j).ownBlock
def zaa (U:Nat→Value) (k:Nat) (v:Value):Nat→Value:=fun x =>if x=k then v else U x
theorem zaZ (U:Nat→Value) (k:Nat) (v:Value):zaa U k v k=v:=if_pos rfl
theorem za4 (U:Nat→Value) {k x:Nat} (v:Value) (h:x≠k):zaa U k v x=U x:=if_neg h
theorem zac {U:Nat→Value} {k:Nat} {v:Value} (h:U k=v):U=zaa U k v:=by
 funext x
 by_cases hx:x=k
 ·subst hx;rw [zaZ,h]
 ·rw [za4 _ _ hx]
theorem RgJ.start {W0:World} {lo:Nat} {D:Nat→Value→World→Prop} {m:Nat→Bool} (U:Nat→Value) (n:Nat) (h:lo≤W0.heap.size):RgJ W0 lo D m (Array.replicate n false) U W0:=by
 have h0:∀ i,(Array.replicate n false).getD i false=false:=fun i =>by
  rcases Nat.lt_or_ge i n with h' | h' <;> simp [h']
 exact ⟨Below.refl _ _,h,fun i hi =>by (rw [h0] at hi;cases hi),fun i j _ _ _ hi =>by (rw [h0] at hi;cases hi)⟩
theorem RgJ.put {W0:World} {lo:Nat} {D:Nat→Value→World→Prop} {m:Nat→Bool} {l:Array Bool} {U:Nat→Value} {w w':World} (h:RgJ W0 lo D m l U w) (i:Nat) (v:Value)
  (hi:l.getD i true=false) (hb:Below w.heap.size w w') (hst:∀ j u,D j u w→D j u w') (hD:D i v w')
  (hlt:∀ j u,m j=true→D j u w→∀ b,u.ownBlock=some b→b < w.heap.size) (hm:m i=true→∀ b,v.ownBlock=some b→w.heap.size≤b) :
  RgJ W0 lo D m (l.setIfInBounds i true) (zaa U i v) w':=by
 have hcase:∀ j,(l.setIfInBounds i true).getD j false=true→j=i∨(j≠i∧l.getD j false=true):=fun j hj =>by
  by_cases hji:j=i
  ·exact .inl hji
  ·rw [getD_set_ne false (Ne.symm hji)] at hj
   exact .inr ⟨hji,hj⟩
 refine ⟨h.bel.trans (hb.mono h.sz),Nat.le_trans h.sz hb.size,fun j hj =>?_,fun j k mj mk hjk hj hk =>?_⟩
 ·rcases hcase j hj with rfl | ⟨hji,h1⟩
  ·rw [zaZ];exact hD
  ·rw [za4 _ _ hji];exact hst j _ (h.val j h1)
 ·rcases hcase j hj with rfl | ⟨hji,h1⟩
  ·rcases hcase k hk with rfl | ⟨hki,h2⟩
   ·exact absurd rfl hjk
   ·rw [zaZ,za4 _ _ hki]
    cases hb:v.ownBlock with
    | none =>exact .inl rfl
    | some b =>
     refine .inr fun e =>?_
     have h3:=hm mj b hb
     have h4:=hlt k _ mk (h.val k h2) b e.symm
     omega
  ·rcases hcase k hk with rfl | ⟨hki,h2⟩
   ·rw [zaZ,za4 _ _ hji]
    cases hb:(U j).ownBlock with
    | none =>exact .inl rfl
    | some b =>
     refine .inr fun e =>?_
     have h3:=hm mk b e.symm
     have h4:=hlt j _ mj (h.val j h1) b hb
     omega
   ·rw [za4 _ _ hji,za4 _ _ hki]
    exact h.ap j k mj mk hjk h1 h2
end Go.Proofs.YtmemedpoaocdkaaGreat
namespace Go.Proofs.YtmemedpoaocdkaaGreat
open Go.RowKit Go.Shelf
set_option linter.unusedVariables false
theorem RnC.below {w w':World} {a:Option Addr} {zs:List Int} (h:RnC w w.heap.size a zs) (hb:Below w.heap.size w w'):RnC w' w'.heap.size a zs:=fun h0 =>by
 obtain ⟨g,o,e,hg,hc⟩:=h h0
 exact ⟨g,o,e,Nat.lt_of_lt_of_le hg hb.size,fun j x hx =>(hb.cell (p:=⟨g,o+j,none⟩) hg).trans (hc j x hx)⟩
theorem zf6 {w:World} {g:Nat} {x y:Int} {t:TypeId} (b:Blk w g #[.int .i64 x,.int .i64 y] t):∀ (j:Nat) (z:Int),[x,y][j]?=some z→w.cell? ⟨g,0+j,none⟩=some (.int .i64 z):=fun j z hj =>by
 rcases j with _ | _ | j
 ·obtain rfl:x=z:=by simpa using hj
  exact b.cell 0
 ·obtain rfl:y=z:=by simpa using hj
  exact b.cell 1
 ·simp at hj
def zr1 (B:Nat) (r:Int) (c:Int) (e1:Int):Nat→Value→World→Prop
 | 0,v,w =>v=.pointer (some ⟨B,0,none⟩)
 | 1,v,w =>v=.int .i32 r
 | 2,v,w => ∃ g,v=.slice (some ⟨g,0,none⟩) 1 1∧RnC w w.heap.size (some ⟨g,0,none⟩) [r]
 | 3,v,w =>v=.int .i64 e1
 | 4,v,w =>v=.pointer (some ⟨B,1,none⟩)
 | 5,v,w =>v=.int .i64 c
 | 6,v,w =>v=.bool true
 | 7,v,w =>v=.bool true
 | 8,v,w =>v=undef
 | 9,v,w =>v=undef
 | 10,v,w =>v=undef
 | 11,v,w =>v=.bool true
 | 12,v,w =>v=.int .i64 30
 | 13,v,w => ∃ g,v=.slice (some ⟨g,0,none⟩) 2 2∧Blk w g #[.int .i64 e1,.int .i64 30] 74
 | 14,v,w =>v=.int .i64 (orE [e1,30])
 | _,v,w =>True
def zrx (j:Nat):Bool:=false
theorem zcb {B:Nat} {r:Int} {c:Int} {e1:Int} {w w':World} (hb:Below w.heap.size w w'):∀ (j:Nat) (v:Value),zr1 B r c e1 j v w→zr1 B r c e1 j v w'
 | 0,v,h =>h
 | 1,v,h =>h
 | 2,v,h =>let ⟨g,e,h2⟩:=h; ⟨g,e,h2.below hb⟩
 | 3,v,h =>h
 | 4,v,h =>h
 | 5,v,h =>h
 | 6,v,h =>h
 | 7,v,h =>h
 | 8,v,h =>h
 | 9,v,h =>h
 | 10,v,h =>h
 | 11,v,h =>h
 | 12,v,h =>h
 | 13,v,h =>let ⟨g,e,h2⟩:=h; ⟨g,e,h2.below hb h2.lt⟩
 | 14,v,h =>h
 | _+15,v,h =>h
theorem zcc {B:Nat} {r:Int} {c:Int} {e1:Int} {w:World} (j:Nat) (v:Value) (hm:zrx j=true) (h:zr1 B r c e1 j v w):∀ b,v.ownBlock=some b→b < w.heap.size:=by
 cases hm
def zr0 (B:Nat) (r:Int) (c:Int) (e1:Int):Nat→Value→World→Prop
 | 0,v,w =>v=.pointer (some ⟨B,0,none⟩)
 | 1,v,w =>v=.int .i32 r
 | 2,v,w => ∃ g,v=.slice (some ⟨g,0,none⟩) 1 1∧RnC w w.heap.size (some ⟨g,0,none⟩) [r]
 | 3,v,w =>v=.int .i64 e1
 | 4,v,w =>v=.pointer (some ⟨B,1,none⟩)
 | 5,v,w =>v=.int .i64 c
 | 6,v,w =>v=.bool false
 | 7,v,w =>v=.bool false
 | 8,v,w =>v=.pointer (some ⟨B,1,none⟩)
 | 9,v,w =>v=.int .i64 c
 | 10,v,w =>v=.bool true
 | 11,v,w =>v=.bool true
 | 12,v,w =>v=.int .i64 30
 | 13,v,w => ∃ g,v=.slice (some ⟨g,0,none⟩) 2 2∧Blk w g #[.int .i64 e1,.int .i64 30] 74
 | 14,v,w =>v=.int .i64 (orE [e1,30])
 | _,v,w =>True
def zrw (j:Nat):Bool:=false
theorem zb9 {B:Nat} {r:Int} {c:Int} {e1:Int} {w w':World} (hb:Below w.heap.size w w'):∀ (j:Nat) (v:Value),zr0 B r c e1 j v w→zr0 B r c e1 j v w'
 | 0,v,h =>h
 | 1,v,h =>h
 | 2,v,h =>let ⟨g,e,h2⟩:=h; ⟨g,e,h2.below hb⟩
 | 3,v,h =>h
 | 4,v,h =>h
 | 5,v,h =>h
 | 6,v,h =>h
 | 7,v,h =>h
 | 8,v,h =>h
 | 9,v,h =>h
 | 10,v,h =>h
 | 11,v,h =>h
 | 12,v,h =>h
 | 13,v,h =>let ⟨g,e,h2⟩:=h; ⟨g,e,h2.below hb h2.lt⟩
 | 14,v,h =>h
 | _+15,v,h =>h
theorem zca {B:Nat} {r:Int} {c:Int} {e1:Int} {w:World} (j:Nat) (v:Value) (hm:zrw j=true) (h:zr0 B r c e1 j v w):∀ b,v.ownBlock=some b→b < w.heap.size:=by
 cases hm
def zrZ (B:Nat) (r:Int) (c:Int) (e1:Int):Nat→Value→World→Prop
 | 0,v,w =>v=.pointer (some ⟨B,0,none⟩)
 | 1,v,w =>v=.int .i32 r
 | 2,v,w => ∃ g,v=.slice (some ⟨g,0,none⟩) 1 1∧RnC w w.heap.size (some ⟨g,0,none⟩) [r]
 | 3,v,w =>v=.int .i64 e1
 | 4,v,w =>v=.pointer (some ⟨B,1,none⟩)
 | 5,v,w =>v=.int .i64 c
 | 6,v,w =>v=.bool false
 | 7,v,w =>v=.bool false
 | 8,v,w =>v=.pointer (some ⟨B,1,none⟩)
 | 9,v,w =>v=.int .i64 c
 | 10,v,w =>v=.bool false
 | 11,v,w =>v=.bool false
 | 12,v,w =>v=.int .i64 0
 | 13,v,w => ∃ g,v=.slice (some ⟨g,0,none⟩) 2 2∧Blk w g #[.int .i64 e1,.int .i64 0] 74
 | 14,v,w =>v=.int .i64 (orE [e1,0])
 | _,v,w =>True
def zrv (j:Nat):Bool:=false
theorem zb7 {B:Nat} {r:Int} {c:Int} {e1:Int} {w w':World} (hb:Below w.heap.size w w'):∀ (j:Nat) (v:Value),zrZ B r c e1 j v w→zrZ B r c e1 j v w'
 | 0,v,h =>h
 | 1,v,h =>h
 | 2,v,h =>let ⟨g,e,h2⟩:=h; ⟨g,e,h2.below hb⟩
 | 3,v,h =>h
 | 4,v,h =>h
 | 5,v,h =>h
 | 6,v,h =>h
 | 7,v,h =>h
 | 8,v,h =>h
 | 9,v,h =>h
 | 10,v,h =>h
 | 11,v,h =>h
 | 12,v,h =>h
 | 13,v,h =>let ⟨g,e,h2⟩:=h; ⟨g,e,h2.below hb h2.lt⟩
 | 14,v,h =>h
 | _+15,v,h =>h
theorem zb8 {B:Nat} {r:Int} {c:Int} {e1:Int} {w:World} (j:Nat) (v:Value) (hm:zrv j=true) (h:zrZ B r c e1 j v w):∀ b,v.ownBlock=some b→b < w.heap.size:=by
 cases hm
set_option maxRecDepth 100000 in
set_option maxHeartbeats 4000000 in
theorem ziG (r c:Int) (W:World):Calls Tryz.prog 110 #[.agg #[.int .i32 r,.int .i64 c]] W fun e w' =>e=.returned (.int .i64 (maF (r,c)))∧Below W.heap.size W w':=by
 have hmx:Tryz.prog.follows .mixedOrders=true:=by kernel_rfl
 have hB0:Below W.heap.size W (W.alloc (.cells #[.int .i32 r,.int .i64 c] 115)).drew:=((Below.refl _ W).alloc (Nat.le_refl _) _).trans ⟨rfl,rfl,rfl,Nat.le_refl _,fun _ _ =>rfl⟩
 have bA:Blk (W.alloc (.cells #[.int .i32 r,.int .i64 c] 115)).drew W.heap.size #[.int .i32 r,.int .i64 c] 115:=Blk.new W #[.int .i32 r,.int .i64 c] 115
 have HF:Hz (∀ w1,Below (W.alloc (.cells #[.int .i32 r,.int .i64 c] 115)).drew.heap.size (W.alloc (.cells #[.int .i32 r,.int .i64 c] 115)).drew w1→Blk w1 W.heap.size #[.int .i32 r,.int .i64 c] 115):=kz (fun w1 h =>bA.below h bA.lt)
 have HB:=kz hB0
 clear hB0 bA
 rw [zni]
 obtain ⟨e1,he1⟩:∃ e1:Int,(if ([r] : List Int).all zaq then 0 else 12)=e1:=⟨_,rfl⟩
 rw [he1]
 have HE:=kz he1
 clear he1
 generalize hq:decide (c < 1∨254 < c)=q
 have hc3:(decide (c < 1)=true∧decide (c < 1)=true∧q=true)∨(decide (c < 1)=false∧decide (254 < c)=true∧q=true)∨(decide (c < 1)=false∧decide (254 < c)=false∧q=false):=by
  subst hq
  by_cases h1:c < 1
  ·simp [h1]
  ·by_cases h2:254 < c <;> simp [h1,h2]
 clear hq
 rcases hc3 with ⟨h1,h2,rfl⟩ | ⟨h1,h2,rfl⟩ | ⟨h1,h2,rfl⟩
 ·have H1:=kz h1
  have H2:=kz h2
  clear h1 h2
  go_enter Tryz.func110,Tryz.ntmps110
  go_wp2_with fail
  generalize W.alloc (.cells #[.int .i32 r,.int .i64 c] 115)=w0 at *
  refine zao hmx 15 (by decide) (by kernel_rfl) (by kernel_rfl) (fun l a w => ∃ U:Nat→Value,a = { tmps:=#[.agg #[.int .i32 r,.int .i64 c],.pointer (some ⟨W.heap.size,0,none⟩),.int .i64 0,U 0,U 1,U 2,U 3,U 4,U 5,U 6,U 7,U 8,U 9,U 10,U 11,U 12,U 13,U 14],defers := [] }∧RgJ (w0.drew) (w0.drew.heap.size) (zr1 W.heap.size r c e1) zrx l U w) ⟨fun _ =>undef,rfl,RgJ.start _ _ (Nat.le_refl _)⟩ ?_ ?_
  ·rintro l a w i ⟨U,rfl,hJ⟩ hl hi hif
   have h0:=(mem_ready.1 hi).1
   have hlt:=zdB hl h0
   have HJ:=kz hJ
   clear hJ hl
   replace hlt:i < 16:=hlt
   obtain rfl | rfl | rfl | rfl | rfl | rfl | rfl | rfl | rfl | rfl | rfl | rfl | rfl | rfl | rfl:i=0∨i=1∨i=2∨i=3∨i=4∨i=5∨i=6∨i=7∨i=8∨i=9∨i=10∨i=11∨i=12∨i=13∨i=14:=by omega
   ·refine wpOp_step rfl (fun K hK =>?_)
    clear hlt hif
    go_simp
    exact hK _ _ ⟨zaa U 0 _,rfl,(oz HJ).put 0 _ h0 (Below.refl _ _) (zcb (Below.refl _ _)) rfl zcc (fun h =>absurd h (by decide))⟩
   ·refine wpOp_step rfl (fun K hK =>?_)
    clear hlt hif
    have d0:U 0=.pointer (some ⟨W.heap.size,0,none⟩):=(oz HJ).val 0 (zab hi 0 (by kernel_rfl))
    have q0:=(oz HF w (oz HJ).bel).cell 0
    go_simp
    exact hK _ _ ⟨zaa U 1 _,(by rw [zac d0];rfl),(oz HJ).put 1 _ h0 (Below.refl _ _) (zcb (Below.refl _ _)) rfl zcc (fun h =>absurd h (by decide))⟩
   ·refine wpOp_step rfl (fun K hK =>?_)
    clear hlt hif
    have d1:U 1=.int .i32 r:=(oz HJ).val 1 (zab hi 1 (by kernel_rfl))
    go_simp
    exact hK _ _ ⟨zaa U 2 _,(by rw [zac d1];rfl),(oz HJ).put 2 _ h0 ((Below.refl _ _).alloc (Nat.le_refl _) _) (zcb ((Below.refl _ _).alloc (Nat.le_refl _) _)) ⟨_,rfl,zfi w _ r _ rfl⟩ zcc (fun h =>absurd h (by decide))⟩
   ·refine wpOp_step rfl (fun K hK =>?_)
    clear hlt hif
    obtain ⟨g2,d2,h2⟩:=(oz HJ).val 2 (zab hi 2 (by kernel_rfl))
    go_simp
    refine (zd3 [r] (by simp) _ _ _ h2).mono ?_
    rw [oz HE]
    rintro e w' ⟨rfl,hb⟩
    exact hK _ _ ⟨zaa U 3 _,(by rw [zac d2];rfl),(oz HJ).put 3 _ h0 hb (zcb hb) rfl zcc (fun h =>absurd h (by decide))⟩
   ·refine wpOp_step rfl (fun K hK =>?_)
    clear hlt hif
    go_simp
    exact hK _ _ ⟨zaa U 4 _,rfl,(oz HJ).put 4 _ h0 (Below.refl _ _) (zcb (Below.refl _ _)) rfl zcc (fun h =>absurd h (by decide))⟩
   ·refine wpOp_step rfl (fun K hK =>?_)
    clear hlt hif
    have d4:U 4=.pointer (some ⟨W.heap.size,1,none⟩):=(oz HJ).val 4 (zab hi 4 (by kernel_rfl))
    have q1:=(oz HF w (oz HJ).bel).cell 1
    go_simp
    exact hK _ _ ⟨zaa U 5 _,(by rw [zac d4];rfl),(oz HJ).put 5 _ h0 (Below.refl _ _) (zcb (Below.refl _ _)) rfl zcc (fun h =>absurd h (by decide))⟩
   ·refine wpOp_step rfl (fun K hK =>?_)
    clear hlt hif
    have d5:U 5=.int .i64 c:=(oz HJ).val 5 (zab hi 5 (by kernel_rfl))
    have hc1:=oz H1
    go_simp
    exact hK _ _ ⟨zaa U 6 _,(by rw [zac d5];rfl),(oz HJ).put 6 _ h0 (Below.refl _ _) (zcb (Below.refl _ _)) rfl zcc (fun h =>absurd h (by decide))⟩
   ·refine wpOp_step rfl (fun K hK =>?_)
    clear hlt hif
    have d6:U 6=.bool true:=(oz HJ).val 6 (zab hi 6 (by kernel_rfl))
    go_simp
    exact hK _ _ ⟨zaa U 7 _,(by rw [zac d6];rfl),(oz HJ).put 7 _ h0 (Below.refl _ _) (zcb (Below.refl _ _)) rfl zcc (fun h =>absurd h (by decide))⟩
   ·refine wpOp_step rfl (fun K hK =>?_)
    clear hlt hif
    have d7:U 7=.bool true:=(oz HJ).val 7 (zab hi 7 (by kernel_rfl))
    go_simp
    exact hK _ _ ⟨zaa U 8 _,(by rw [zac d7];rfl),(oz HJ).put 8 _ h0 (Below.refl _ _) (zcb (Below.refl _ _)) rfl zcc (fun h =>absurd h (by decide))⟩
   ·refine wpOp_step rfl (fun K hK =>?_)
    clear hlt hif
    have d7:U 7=.bool true:=(oz HJ).val 7 (zab hi 7 (by kernel_rfl))
    have d8:U 8=undef:=(oz HJ).val 8 (zab hi 8 (by kernel_rfl))
    go_simp
    exact hK _ _ ⟨zaa U 9 _,(by rw [zac d7,zac d8];rfl),(oz HJ).put 9 _ h0 (Below.refl _ _) (zcb (Below.refl _ _)) rfl zcc (fun h =>absurd h (by decide))⟩
   ·refine wpOp_step rfl (fun K hK =>?_)
    clear hlt hif
    have d7:U 7=.bool true:=(oz HJ).val 7 (zab hi 7 (by kernel_rfl))
    have d9:U 9=undef:=(oz HJ).val 9 (zab hi 9 (by kernel_rfl))
    go_simp
    exact hK _ _ ⟨zaa U 10 _,(by rw [zac d7,zac d9];rfl),(oz HJ).put 10 _ h0 (Below.refl _ _) (zcb (Below.refl _ _)) rfl zcc (fun h =>absurd h (by decide))⟩
   ·refine wpOp_step rfl (fun K hK =>?_)
    clear hlt hif
    have d7:U 7=.bool true:=(oz HJ).val 7 (zab hi 7 (by kernel_rfl))
    have d10:U 10=undef:=(oz HJ).val 10 (zab hi 10 (by kernel_rfl))
    go_simp
    exact hK _ _ ⟨zaa U 11 _,(by rw [zac d7,zac d10];rfl),(oz HJ).put 11 _ h0 (Below.refl _ _) (zcb (Below.refl _ _)) rfl zcc (fun h =>absurd h (by decide))⟩
   ·refine wpOp_step rfl (fun K hK =>?_)
    clear hlt hif
    have d11:U 11=.bool true:=(oz HJ).val 11 (zab hi 11 (by kernel_rfl))
    go_simp
    refine (zaI true 30 _).mono ?_
    rintro e w' ⟨rfl,rfl⟩
    exact hK _ _ ⟨zaa U 12 _,(by rw [zac d11];rfl),(oz HJ).put 12 _ h0 (Below.refl _ _) (zcb (Below.refl _ _)) rfl zcc (fun h =>absurd h (by decide))⟩
   ·refine wpOp_step rfl (fun K hK =>?_)
    clear hlt hif
    have d3:U 3=.int .i64 e1:=(oz HJ).val 3 (zab hi 3 (by kernel_rfl))
    have d12:U 12=.int .i64 30:=(oz HJ).val 12 (zab hi 12 (by kernel_rfl))
    go_simp
    exact hK _ _ ⟨zaa U 13 _,(by rw [zac d3,zac d12];rfl),(oz HJ).put 13 _ h0 ((Below.refl _ _).alloc (Nat.le_refl _) _) (zcb ((Below.refl _ _).alloc (Nat.le_refl _) _)) ⟨_,rfl,Blk.new w _ _⟩ zcc (fun h =>absurd h (by decide))⟩
   ·refine wpOp_step rfl (fun K hK =>?_)
    clear hlt hif
    obtain ⟨g13,d13,h13⟩:=(oz HJ).val 13 (zab hi 13 (by kernel_rfl))
    go_simp
    refine (zbr [e1,30] (by simp) _ 0 _ _ (zf6 h13)).mono ?_
    rintro e w' ⟨rfl,rfl⟩
    exact hK _ _ ⟨zaa U 14 _,(by rw [zac d13];rfl),(oz HJ).put 14 _ h0 (Below.refl _ _) (zcb (Below.refl _ _)) rfl zcc (fun h =>absurd h (by decide))⟩
  ·rintro l a w ⟨U,rfl,hJ⟩ hall
   have d14:U 14=.int .i64 (orE [e1,30]):=hJ.val 14 (hall 14 (by decide) (by decide))
   have HBJ:=kz ((oz HB).trans (hJ.bel.mono (oz HB).size))
   clear hJ hall
   refine wpOp_step rfl (fun K hK =>?_)
   go_simp
   refine hK _ _ ?_
   clear hK
   go_wp2_with fail
   go_ret
   exact ⟨by first | rfl | simp,oz HBJ⟩
 ·have H1:=kz h1
  have H2:=kz h2
  clear h1 h2
  go_enter Tryz.func110,Tryz.ntmps110
  go_wp2_with fail
  generalize W.alloc (.cells #[.int .i32 r,.int .i64 c] 115)=w0 at *
  refine zao hmx 15 (by decide) (by kernel_rfl) (by kernel_rfl) (fun l a w => ∃ U:Nat→Value,a = { tmps:=#[.agg #[.int .i32 r,.int .i64 c],.pointer (some ⟨W.heap.size,0,none⟩),.int .i64 0,U 0,U 1,U 2,U 3,U 4,U 5,U 6,U 7,U 8,U 9,U 10,U 11,U 12,U 13,U 14],defers := [] }∧RgJ (w0.drew) (w0.drew.heap.size) (zr0 W.heap.size r c e1) zrw l U w) ⟨fun _ =>undef,rfl,RgJ.start _ _ (Nat.le_refl _)⟩ ?_ ?_
  ·rintro l a w i ⟨U,rfl,hJ⟩ hl hi hif
   have h0:=(mem_ready.1 hi).1
   have hlt:=zdB hl h0
   have HJ:=kz hJ
   clear hJ hl
   replace hlt:i < 16:=hlt
   obtain rfl | rfl | rfl | rfl | rfl | rfl | rfl | rfl | rfl | rfl | rfl | rfl | rfl | rfl | rfl:i=0∨i=1∨i=2∨i=3∨i=4∨i=5∨i=6∨i=7∨i=8∨i=9∨i=10∨i=11∨i=12∨i=13∨i=14:=by omega
   ·refine wpOp_step rfl (fun K hK =>?_)
    clear hlt hif
    go_simp
    exact hK _ _ ⟨zaa U 0 _,rfl,(oz HJ).put 0 _ h0 (Below.refl _ _) (zb9 (Below.refl _ _)) rfl zca (fun h =>absurd h (by decide))⟩
   ·refine wpOp_step rfl (fun K hK =>?_)
    clear hlt hif
    have d0:U 0=.pointer (some ⟨W.heap.size,0,none⟩):=(oz HJ).val 0 (zab hi 0 (by kernel_rfl))
    have q0:=(oz HF w (oz HJ).bel).cell 0
    go_simp
    exact hK _ _ ⟨zaa U 1 _,(by rw [zac d0];rfl),(oz HJ).put 1 _ h0 (Below.refl _ _) (zb9 (Below.refl _ _)) rfl zca (fun h =>absurd h (by decide))⟩
   ·refine wpOp_step rfl (fun K hK =>?_)
    clear hlt hif
    have d1:U 1=.int .i32 r:=(oz HJ).val 1 (zab hi 1 (by kernel_rfl))
    go_simp
    exact hK _ _ ⟨zaa U 2 _,(by rw [zac d1];rfl),(oz HJ).put 2 _ h0 ((Below.refl _ _).alloc (Nat.le_refl _) _) (zb9 ((Below.refl _ _).alloc (Nat.le_refl _) _)) ⟨_,rfl,zfi w _ r _ rfl⟩ zca (fun h =>absurd h (by decide))⟩
   ·refine wpOp_step rfl (fun K hK =>?_)
    clear hlt hif
    obtain ⟨g2,d2,h2⟩:=(oz HJ).val 2 (zab hi 2 (by kernel_rfl))
    go_simp
    refine (zd3 [r] (by simp) _ _ _ h2).mono ?_
    rw [oz HE]
    rintro e w' ⟨rfl,hb⟩
    exact hK _ _ ⟨zaa U 3 _,(by rw [zac d2];rfl),(oz HJ).put 3 _ h0 hb (zb9 hb) rfl zca (fun h =>absurd h (by decide))⟩
   ·refine wpOp_step rfl (fun K hK =>?_)
    clear hlt hif
    go_simp
    exact hK _ _ ⟨zaa U 4 _,rfl,(oz HJ).put 4 _ h0 (Below.refl _ _) (zb9 (Below.refl _ _)) rfl zca (fun h =>absurd h (by decide))⟩
   ·refine wpOp_step rfl (fun K hK =>?_)
    clear hlt hif
    have d4:U 4=.pointer (some ⟨W.heap.size,1,none⟩):=(oz HJ).val 4 (zab hi 4 (by kernel_rfl))
    have q1:=(oz HF w (oz HJ).bel).cell 1
    go_simp
    exact hK _ _ ⟨zaa U 5 _,(by rw [zac d4];rfl),(oz HJ).put 5 _ h0 (Below.refl _ _) (zb9 (Below.refl _ _)) rfl zca (fun h =>absurd h (by decide))⟩
   ·refine wpOp_step rfl (fun K hK =>?_)
    clear hlt hif
    have d5:U 5=.int .i64 c:=(oz HJ).val 5 (zab hi 5 (by kernel_rfl))
    have hc1:=oz H1
    go_simp
    exact hK _ _ ⟨zaa U 6 _,(by rw [zac d5];rfl),(oz HJ).put 6 _ h0 (Below.refl _ _) (zb9 (Below.refl _ _)) rfl zca (fun h =>absurd h (by decide))⟩
   ·refine wpOp_step rfl (fun K hK =>?_)
    clear hlt hif
    have d6:U 6=.bool false:=(oz HJ).val 6 (zab hi 6 (by kernel_rfl))
    go_simp
    exact hK _ _ ⟨zaa U 7 _,(by rw [zac d6];rfl),(oz HJ).put 7 _ h0 (Below.refl _ _) (zb9 (Below.refl _ _)) rfl zca (fun h =>absurd h (by decide))⟩
   ·refine wpOp_step rfl (fun K hK =>?_)
    clear hlt hif
    have d7:U 7=.bool false:=(oz HJ).val 7 (zab hi 7 (by kernel_rfl))
    go_simp
    exact hK _ _ ⟨zaa U 8 _,(by rw [zac d7];rfl),(oz HJ).put 8 _ h0 (Below.refl _ _) (zb9 (Below.refl _ _)) rfl zca (fun h =>absurd h (by decide))⟩
   ·refine wpOp_step rfl (fun K hK =>?_)
    clear hlt hif
    have d8:U 8=.pointer (some ⟨W.heap.size,1,none⟩):=(oz HJ).val 8 (zab hi 8 (by kernel_rfl))
    have d7:U 7=.bool false:=(oz HJ).val 7 (zab hi 7 (by kernel_rfl))
    have q1:=(oz HF w (oz HJ).bel).cell 1
    go_simp
    exact hK _ _ ⟨zaa U 9 _,(by rw [zac d8,zac d7];rfl),(oz HJ).put 9 _ h0 (Below.refl _ _) (zb9 (Below.refl _ _)) rfl zca (fun h =>absurd h (by decide))⟩
   ·refine wpOp_step rfl (fun K hK =>?_)
    clear hlt hif
    have d9:U 9=.int .i64 c:=(oz HJ).val 9 (zab hi 9 (by kernel_rfl))
    have d7:U 7=.bool false:=(oz HJ).val 7 (zab hi 7 (by kernel_rfl))
    have hc2:=oz H2
    go_simp
    exact hK _ _ ⟨zaa U 10 _,(by rw [zac d9,zac d7];rfl),(oz HJ).put 10 _ h0 (Below.refl _ _) (zb9 (Below.refl _ _)) rfl zca (fun h =>absurd h (by decide))⟩
   ·refine wpOp_step rfl (fun K hK =>?_)
    clear hlt hif
    have d7:U 7=.bool false:=(oz HJ).val 7 (zab hi 7 (by kernel_rfl))
    have d10:U 10=.bool true:=(oz HJ).val 10 (zab hi 10 (by kernel_rfl))
    go_simp
    exact hK _ _ ⟨zaa U 11 _,(by rw [zac d7,zac d10];rfl),(oz HJ).put 11 _ h0 (Below.refl _ _) (zb9 (Below.refl _ _)) rfl zca (fun h =>absurd h (by decide))⟩
   ·refine wpOp_step rfl (fun K hK =>?_)
    clear hlt hif
    have d11:U 11=.bool true:=(oz HJ).val 11 (zab hi 11 (by kernel_rfl))
    go_simp
    refine (zaI true 30 _).mono ?_
    rintro e w' ⟨rfl,rfl⟩
    exact hK _ _ ⟨zaa U 12 _,(by rw [zac d11];rfl),(oz HJ).put 12 _ h0 (Below.refl _ _) (zb9 (Below.refl _ _)) rfl zca (fun h =>absurd h (by decide))⟩
   ·refine wpOp_step rfl (fun K hK =>?_)
    clear hlt hif
    have d3:U 3=.int .i64 e1:=(oz HJ).val 3 (zab hi 3 (by kernel_rfl))
    have d12:U 12=.int .i64 30:=(oz HJ).val 12 (zab hi 12 (by kernel_rfl))
    go_simp
    exact hK _ _ ⟨zaa U 13 _,(by rw [zac d3,zac d12];rfl),(oz HJ).put 13 _ h0 ((Below.refl _ _).alloc (Nat.le_refl _) _) (zb9 ((Below.refl _ _).alloc (Nat.le_refl _) _)) ⟨_,rfl,Blk.new w _ _⟩ zca (fun h =>absurd h (by decide))⟩
   ·refine wpOp_step rfl (fun K hK =>?_)
    clear hlt hif
    obtain ⟨g13,d13,h13⟩:=(oz HJ).val 13 (zab hi 13 (by kernel_rfl))
    go_simp
    refine (zbr [e1,30] (by simp) _ 0 _ _ (zf6 h13)).mono ?_
    rintro e w' ⟨rfl,rfl⟩
    exact hK _ _ ⟨zaa U 14 _,(by rw [zac d13];rfl),(oz HJ).put 14 _ h0 (Below.refl _ _) (zb9 (Below.refl _ _)) rfl zca (fun h =>absurd h (by decide))⟩
  ·rintro l a w ⟨U,rfl,hJ⟩ hall
   have d14:U 14=.int .i64 (orE [e1,30]):=hJ.val 14 (hall 14 (by decide) (by decide))
   have HBJ:=kz ((oz HB).trans (hJ.bel.mono (oz HB).size))
   clear hJ hall
   refine wpOp_step rfl (fun K hK =>?_)
   go_simp
   refine hK _ _ ?_
   clear hK
   go_wp2_with fail
   go_ret
   exact ⟨by first | rfl | simp,oz HBJ⟩
 ·have H1:=kz h1
  have H2:=kz h2
  clear h1 h2
  go_enter Tryz.func110,Tryz.ntmps110
  go_wp2_with fail
  generalize W.alloc (.cells #[.int .i32 r,.int .i64 c] 115)=w0 at *
  refine zao hmx 15 (by decide) (by kernel_rfl) (by kernel_rfl) (fun l a w => ∃ U:Nat→Value,a = { tmps:=#[.agg #[.int .i32 r,.int .i64 c],.pointer (some ⟨W.heap.size,0,none⟩),.int .i64 0,U 0,U 1,U 2,U 3,U 4,U 5,U 6,U 7,U 8,U 9,U 10,U 11,U 12,U 13,U 14],defers := [] }∧RgJ (w0.drew) (w0.drew.heap.size) (zrZ W.heap.size r c e1) zrv l U w) ⟨fun _ =>undef,rfl,RgJ.start _ _ (Nat.le_refl _)⟩ ?_ ?_
  ·rintro l a w i ⟨U,rfl,hJ⟩ hl hi hif
   have h0:=(mem_ready.1 hi).1
   have hlt:=zdB hl h0
   have HJ:=kz hJ
   clear hJ hl
   replace hlt:i < 16:=hlt
   obtain rfl | rfl | rfl | rfl | rfl | rfl | rfl | rfl | rfl | rfl | rfl | rfl | rfl | rfl | rfl:i=0∨i=1∨i=2∨i=3∨i=4∨i=5∨i=6∨i=7∨i=8∨i=9∨i=10∨i=11∨i=12∨i=13∨i=14:=by omega
   ·refine wpOp_step rfl (fun K hK =>?_)
    clear hlt hif
    go_simp
    exact hK _ _ ⟨zaa U 0 _,rfl,(oz HJ).put 0 _ h0 (Below.refl _ _) (zb7 (Below.refl _ _)) rfl zb8 (fun h =>absurd h (by decide))⟩
   ·refine wpOp_step rfl (fun K hK =>?_)
    clear hlt hif
    have d0:U 0=.pointer (some ⟨W.heap.size,0,none⟩):=(oz HJ).val 0 (zab hi 0 (by kernel_rfl))
    have q0:=(oz HF w (oz HJ).bel).cell 0
    go_simp
    exact hK _ _ ⟨zaa U 1 _,(by rw [zac d0];rfl),(oz HJ).put 1 _ h0 (Below.refl _ _) (zb7 (Below.refl _ _)) rfl zb8 (fun h =>absurd h (by decide))⟩
   ·refine wpOp_step rfl (fun K hK =>?_)
    clear hlt hif
    have d1:U 1=.int .i32 r:=(oz HJ).val 1 (zab hi 1 (by kernel_rfl))
    go_simp
    exact hK _ _ ⟨zaa U 2 _,(by rw [zac d1];rfl),(oz HJ).put 2 _ h0 ((Below.refl _ _).alloc (Nat.le_refl _) _) (zb7 ((Below.refl _ _).alloc (Nat.le_refl _) _)) ⟨_,rfl,zfi w _ r _ rfl⟩ zb8 (fun h =>absurd h (by decide))⟩
   ·refine wpOp_step rfl (fun K hK =>?_)
    clear hlt hif
    obtain ⟨g2,d2,h2⟩:=(oz HJ).val 2 (zab hi 2 (by kernel_rfl))
    go_simp
    refine (zd3 [r] (by simp) _ _ _ h2).mono ?_
    rw [oz HE]
    rintro e w' ⟨rfl,hb⟩
    exact hK _ _ ⟨zaa U 3 _,(by rw [zac d2];rfl),(oz HJ).put 3 _ h0 hb (zb7 hb) rfl zb8 (fun h =>absurd h (by decide))⟩
   ·refine wpOp_step rfl (fun K hK =>?_)
    clear hlt hif
    go_simp
    exact hK _ _ ⟨zaa U 4 _,rfl,(oz HJ).put 4 _ h0 (Below.refl _ _) (zb7 (Below.refl _ _)) rfl zb8 (fun h =>absurd h (by decide))⟩
   ·refine wpOp_step rfl (fun K hK =>?_)
    clear hlt hif
    have d4:U 4=.pointer (some ⟨W.heap.size,1,none⟩):=(oz HJ).val 4 (zab hi 4 (by kernel_rfl))
    have q1:=(oz HF w (oz HJ).bel).cell 1
    go_simp
    exact hK _ _ ⟨zaa U 5 _,(by rw [zac d4];rfl),(oz HJ).put 5 _ h0 (Below.refl _ _) (zb7 (Below.refl _ _)) rfl zb8 (fun h =>absurd h (by decide))⟩
   ·refine wpOp_step rfl (fun K hK =>?_)
    clear hlt hif
    have d5:U 5=.int .i64 c:=(oz HJ).val 5 (zab hi 5 (by kernel_rfl))
    have hc1:=oz H1
    go_simp
    exact hK _ _ ⟨zaa U 6 _,(by rw [zac d5];rfl),(oz HJ).put 6 _ h0 (Below.refl _ _) (zb7 (Below.refl _ _)) rfl zb8 (fun h =>absurd h (by decide))⟩
   ·refine wpOp_step rfl (fun K hK =>?_)
    clear hlt hif
    have d6:U 6=.bool false:=(oz HJ).val 6 (zab hi 6 (by kernel_rfl))
    go_simp
    exact hK _ _ ⟨zaa U 7 _,(by rw [zac d6];rfl),(oz HJ).put 7 _ h0 (Below.refl _ _) (zb7 (Below.refl _ _)) rfl zb8 (fun h =>absurd h (by decide))⟩
   ·refine wpOp_step rfl (fun K hK =>?_)
    clear hlt hif
    have d7:U 7=.bool false:=(oz HJ).val 7 (zab hi 7 (by kernel_rfl))
    go_simp
    exact hK _ _ ⟨zaa U 8 _,(by rw [zac d7];rfl),(oz HJ).put 8 _ h0 (Below.refl _ _) (zb7 (Below.refl _ _)) rfl zb8 (fun h =>absurd h (by decide))⟩
   ·refine wpOp_step rfl (fun K hK =>?_)
    clear hlt hif
    have d8:U 8=.pointer (some ⟨W.heap.size,1,none⟩):=(oz HJ).val 8 (zab hi 8 (by kernel_rfl))
    have d7:U 7=.bool false:=(oz HJ).val 7 (zab hi 7 (by kernel_rfl))
    have q1:=(oz HF w (oz HJ).bel).cell 1
    go_simp
    exact hK _ _ ⟨zaa U 9 _,(by rw [zac d8,zac d7];rfl),(oz HJ).put 9 _ h0 (Below.refl _ _) (zb7 (Below.refl _ _)) rfl zb8 (fun h =>absurd h (by decide))⟩
   ·refine wpOp_step rfl (fun K hK =>?_)
    clear hlt hif
    have d9:U 9=.int .i64 c:=(oz HJ).val 9 (zab hi 9 (by kernel_rfl))
    have d7:U 7=.bool false:=(oz HJ).val 7 (zab hi 7 (by kernel_rfl))
    have hc2:=oz H2
    go_simp
    exact hK _ _ ⟨zaa U 10 _,(by rw [zac d9,zac d7];rfl),(oz HJ).put 10 _ h0 (Below.refl _ _) (zb7 (Below.refl _ _)) rfl zb8 (fun h =>absurd h (by decide))⟩
   ·refine wpOp_step rfl (fun K hK =>?_)
    clear hlt hif
    have d7:U 7=.bool false:=(oz HJ).val 7 (zab hi 7 (by kernel_rfl))
    have d10:U 10=.bool false:=(oz HJ).val 10 (zab hi 10 (by kernel_rfl))
    go_simp
    exact hK _ _ ⟨zaa U 11 _,(by rw [zac d7,zac d10];rfl),(oz HJ).put 11 _ h0 (Below.refl _ _) (zb7 (Below.refl _ _)) rfl zb8 (fun h =>absurd h (by decide))⟩
   ·refine wpOp_step rfl (fun K hK =>?_)
    clear hlt hif
    have d11:U 11=.bool false:=(oz HJ).val 11 (zab hi 11 (by kernel_rfl))
    go_simp
    refine (zaI false 30 _).mono ?_
    rintro e w' ⟨rfl,rfl⟩
    exact hK _ _ ⟨zaa U 12 _,(by rw [zac d11];rfl),(oz HJ).put 12 _ h0 (Below.refl _ _) (zb7 (Below.refl _ _)) rfl zb8 (fun h =>absurd h (by decide))⟩
   ·refine wpOp_step rfl (fun K hK =>?_)
    clear hlt hif
    have d3:U 3=.int .i64 e1:=(oz HJ).val 3 (zab hi 3 (by kernel_rfl))
    have d12:U 12=.int .i64 0:=(oz HJ).val 12 (zab hi 12 (by kernel_rfl))
    go_simp
    exact hK _ _ ⟨zaa U 13 _,(by rw [zac d3,zac d12];rfl),(oz HJ).put 13 _ h0 ((Below.refl _ _).alloc (Nat.le_refl _) _) (zb7 ((Below.refl _ _).alloc (Nat.le_refl _) _)) ⟨_,rfl,Blk.new w _ _⟩ zb8 (fun h =>absurd h (by decide))⟩
   ·refine wpOp_step rfl (fun K hK =>?_)
    clear hlt hif
    obtain ⟨g13,d13,h13⟩:=(oz HJ).val 13 (zab hi 13 (by kernel_rfl))
    go_simp
    refine (zbr [e1,0] (by simp) _ 0 _ _ (zf6 h13)).mono ?_
    rintro e w' ⟨rfl,rfl⟩
    exact hK _ _ ⟨zaa U 14 _,(by rw [zac d13];rfl),(oz HJ).put 14 _ h0 (Below.refl _ _) (zb7 (Below.refl _ _)) rfl zb8 (fun h =>absurd h (by decide))⟩
  ·rintro l a w ⟨U,rfl,hJ⟩ hall
   have d14:U 14=.int .i64 (orE [e1,0]):=hJ.val 14 (hall 14 (by decide) (by decide))
   have HBJ:=kz ((oz HB).trans (hJ.bel.mono (oz HB).size))
   clear hJ hall
   refine wpOp_step rfl (fun K hK =>?_)
   go_simp
   refine hK _ _ ?_
   clear hK
   go_wp2_with fail
   go_ret
   exact ⟨by first | rfl | simp,oz HBJ⟩
end Go.Proofs.YtmemedpoaocdkaaGreat
