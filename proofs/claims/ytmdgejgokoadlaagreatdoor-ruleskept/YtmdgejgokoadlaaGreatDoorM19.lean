/- Texts of this claim, one behind the other. -/
import Derived.Test.YtmdgejgokoadlaaGreatDoorM18
import Derived.RegionTactic
import Derived.Below
import Derived.Test.YtmdgejgokoadlaaGreatDoorM17
import Derived.Deep.RegionHeld3
import Derived.Test.YtmdgejgokoadlaaGreatDoorRows
import Derived.ProofKit
import Derived.OpenShut
import Derived.ChangeOld
import Derived.Deep.SlicePairs
import Derived.Test.YtmdgejgokoadlaaGreatDoorM6
import Derived.Lib.QuietBelow
import Derived.BigQuiet
/- Same of two tables: one table that lies twice in memory. -/
namespace Go.Proofs.YtmdgejgokoadlaaGreatDoor
open Go.RowKit Go.Shelf
set_option linter.unusedVariables false
def zj2 (T:TV) (a0 a1 a2 a3 a4 a5 a6 a7:Option Addr) (c0 c1 c2 c3 c4 c5 c6 c7:Nat):Array Value:=#[.slice a0 T.sc.length c0,.slice a1 T.co.length c1,.slice a2 T.ma.length c2,.slice a3 T.pr.length c3,.slice a4 T.fo.length c4,.slice a5 T.lk.length c5,.slice a6 T.dr.length c6,.slice a7 T.al.length c7]
theorem TabIn.lower {W W':World} {T:TV} {a0 a1 a2 a3 a4 a5 a6 a7:Option Addr} {us:List Value} (h:TabIn W T a0 a1 a2 a3 a4 a5 a6 a7 us) (hb:Below W.heap.size W W'):TabIn W' T a0 a1 a2 a3 a4 a5 a6 a7 us :=
 ⟨h.lu,h.r0.below hb hb.size,h.r1.below hb hb.size,h.r2.below hb hb.size,h.r3.below hb hb.size,h.r4.below hb hb.size,h.r5.below hb hb.size,h.r6.below hb hb.size,h.r7.below hb hb.size,fun j x u hx hu =>by
  obtain ⟨b,d,e,hr⟩:=h.rs j x u hx hu
  exact ⟨b,d,e,hr.below hb hb.size⟩⟩
set_option maxRecDepth 100000 in
set_option maxHeartbeats 4000000 in
theorem ziF (T:TV) (hO:zgC T) (a0 a1 a2 a3 a4 a5 a6 a7 b0 b1 b2 b3 b4 b5 b6 b7:Option Addr) (c0 c1 c2 c3 c4 c5 c6 c7 d0 d1 d2 d3 d4 d5 d6 d7:Nat) (us vs:List Value) (W:World) (hA:TabIn W T a0 a1 a2 a3 a4 a5 a6 a7 us) (hB:TabIn W T b0 b1 b2 b3 b4 b5 b6 b7 vs) :
  Calls Tryz.prog 11 #[.agg (zj2 T a0 a1 a2 a3 a4 a5 a6 a7 c0 c1 c2 c3 c4 c5 c6 c7),.agg (zj2 T b0 b1 b2 b3 b4 b5 b6 b7 d0 d1 d2 d3 d4 d5 d6 d7)] W fun e w' =>e=.returned (.bool true)∧Below W.heap.size W w':=by
 have hB0:Below W.heap.size W ((W.alloc (.cells (zj2 T a0 a1 a2 a3 a4 a5 a6 a7 c0 c1 c2 c3 c4 c5 c6 c7) 33)).alloc (.cells (zj2 T b0 b1 b2 b3 b4 b5 b6 b7 d0 d1 d2 d3 d4 d5 d6 d7) 33)):=((Below.refl _ W).alloc (Nat.le_refl _) _).alloc (by simp) _
 have bA:=(Blk.new W (zj2 T a0 a1 a2 a3 a4 a5 a6 a7 c0 c1 c2 c3 c4 c5 c6 c7) 33).alloc (.cells (zj2 T b0 b1 b2 b3 b4 b5 b6 b7 d0 d1 d2 d3 d4 d5 d6 d7) 33)
 have bB:=Blk.new (W.alloc (.cells (zj2 T a0 a1 a2 a3 a4 a5 a6 a7 c0 c1 c2 c3 c4 c5 c6 c7) 33)) (zj2 T b0 b1 b2 b3 b4 b5 b6 b7 d0 d1 d2 d3 d4 d5 d6 d7) 33
 rw [World.size_alloc] at bB
 have HH:=kz (And.intro (hA.lower hB0) (And.intro (hB.lower hB0) (And.intro hB0 (And.intro bA bB))))
 have HO:=kz hO
 clear hA hB hB0 bA bB hO
 unfold zj2 at HH ⊢
 have za:=(oz HH).2.2.2.1.cell 0
 have zb:=(oz HH).2.2.2.2.cell 0
 go_enter Tryz.func11,Tryz.ntmps11
 go_wp2_with fail
 generalize (W.alloc (.cells #[.slice a0 T.sc.length c0,.slice a1 T.co.length c1,.slice a2 T.ma.length c2,.slice a3 T.pr.length c3,.slice a4 T.fo.length c4,.slice a5 T.lk.length c5,.slice a6 T.dr.length c6,.slice a7 T.al.length c7] 33)).alloc (.cells #[.slice b0 T.sc.length d0,.slice b1 T.co.length d1,.slice b2 T.ma.length d2,.slice b3 T.pr.length d3,.slice b4 T.fo.length d4,.slice b5 T.lk.length d5,.slice b6 T.dr.length d6,.slice b7 T.al.length d7] 33)=w0 at *
 refine (alike_row a0 b0 c0 d0 T.sc us vs (oz HH).1.lu (oz HH).2.1.lu (oz HO).n0 (fun x hx =>((oz HO).z0 x hx).2) w0 (oz HH).1.r0 (oz HH).2.1.r0 (oz HH).1.rs (oz HH).2.1.rs).mono ?_
 rintro e w1 ⟨rfl,hb⟩
 have HH:=kz (And.intro ((oz HH).1.lower hb) (And.intro ((oz HH).2.1.lower hb) (And.intro ((oz HH).2.2.1.trans (hb.mono (oz HH).2.2.1.size)) (And.intro ((oz HH).2.2.2.1.below hb (oz HH).2.2.2.1.lt) ((oz HH).2.2.2.2.below hb (oz HH).2.2.2.2.lt)))))
 clear hb za zb
 have za:=(oz HH).2.2.2.1.cell 1
 have zb:=(oz HH).2.2.2.2.cell 1
 go_wp2_with fail
 refine (zcZ a1 b1 c1 d1 T.co (oz HO).n1 _ w1 (oz HH).1.r1 (oz HH).2.1.r1).mono ?_
 rintro e w2 ⟨rfl,hb⟩
 have HH:=kz (And.intro ((oz HH).1.lower hb) (And.intro ((oz HH).2.1.lower hb) (And.intro ((oz HH).2.2.1.trans (hb.mono (oz HH).2.2.1.size)) (And.intro ((oz HH).2.2.2.1.below hb (oz HH).2.2.2.1.lt) ((oz HH).2.2.2.2.below hb (oz HH).2.2.2.2.lt)))))
 clear hb za zb
 have za:=(oz HH).2.2.2.1.cell 2
 have zb:=(oz HH).2.2.2.2.cell 2
 go_wp2_with fail
 refine (zh9 a2 b2 c2 d2 T.ma (oz HO).n2 _ w2 (oz HH).1.r2 (oz HH).2.1.r2).mono ?_
 rintro e w3 ⟨rfl,hb⟩
 have HH:=kz (And.intro ((oz HH).1.lower hb) (And.intro ((oz HH).2.1.lower hb) (And.intro ((oz HH).2.2.1.trans (hb.mono (oz HH).2.2.1.size)) (And.intro ((oz HH).2.2.2.1.below hb (oz HH).2.2.2.1.lt) ((oz HH).2.2.2.2.below hb (oz HH).2.2.2.2.lt)))))
 clear hb za zb
 have za:=(oz HH).2.2.2.1.cell 3
 have zb:=(oz HH).2.2.2.2.cell 3
 go_wp2_with fail
 refine (zh8 a3 b3 c3 d3 T.pr (oz HO).n3 _ w3 (oz HH).1.r3 (oz HH).2.1.r3).mono ?_
 rintro e w4 ⟨rfl,hb⟩
 have HH:=kz (And.intro ((oz HH).1.lower hb) (And.intro ((oz HH).2.1.lower hb) (And.intro ((oz HH).2.2.1.trans (hb.mono (oz HH).2.2.1.size)) (And.intro ((oz HH).2.2.2.1.below hb (oz HH).2.2.2.1.lt) ((oz HH).2.2.2.2.below hb (oz HH).2.2.2.2.lt)))))
 clear hb za zb
 have za:=(oz HH).2.2.2.1.cell 4
 have zb:=(oz HH).2.2.2.2.cell 4
 go_wp2_with fail
 refine (zf2 a4 b4 c4 d4 T.fo (oz HO).n4 _ w4 (oz HH).1.r4 (oz HH).2.1.r4).mono ?_
 rintro e w5 ⟨rfl,hb⟩
 have HH:=kz (And.intro ((oz HH).1.lower hb) (And.intro ((oz HH).2.1.lower hb) (And.intro ((oz HH).2.2.1.trans (hb.mono (oz HH).2.2.1.size)) (And.intro ((oz HH).2.2.2.1.below hb (oz HH).2.2.2.1.lt) ((oz HH).2.2.2.2.below hb (oz HH).2.2.2.2.lt)))))
 clear hb za zb
 have za:=(oz HH).2.2.2.1.cell 5
 have zb:=(oz HH).2.2.2.2.cell 5
 go_wp2_with fail
 refine (zf2 a5 b5 c5 d5 T.lk (oz HO).n5 _ w5 (oz HH).1.r5 (oz HH).2.1.r5).mono ?_
 rintro e w6 ⟨rfl,hb⟩
 have HH:=kz (And.intro ((oz HH).1.lower hb) (And.intro ((oz HH).2.1.lower hb) (And.intro ((oz HH).2.2.1.trans (hb.mono (oz HH).2.2.1.size)) (And.intro ((oz HH).2.2.2.1.below hb (oz HH).2.2.2.1.lt) ((oz HH).2.2.2.2.below hb (oz HH).2.2.2.2.lt)))))
 clear hb za zb
 have za:=(oz HH).2.2.2.1.cell 6
 have zb:=(oz HH).2.2.2.2.cell 6
 go_wp2_with fail
 refine (zcZ a6 b6 c6 d6 T.dr (oz HO).n6 _ w6 (oz HH).1.r6 (oz HH).2.1.r6).mono ?_
 rintro e w7 ⟨rfl,hb⟩
 have HH:=kz (And.intro ((oz HH).1.lower hb) (And.intro ((oz HH).2.1.lower hb) (And.intro ((oz HH).2.2.1.trans (hb.mono (oz HH).2.2.1.size)) (And.intro ((oz HH).2.2.2.1.below hb (oz HH).2.2.2.1.lt) ((oz HH).2.2.2.2.below hb (oz HH).2.2.2.2.lt)))))
 clear hb za zb
 have za:=(oz HH).2.2.2.1.cell 7
 have zb:=(oz HH).2.2.2.2.cell 7
 go_wp2_with fail
 refine (zcZ a7 b7 c7 d7 T.al (oz HO).n7 _ w7 (oz HH).1.r7 (oz HH).2.1.r7).mono ?_
 rintro e w8 ⟨rfl,hb⟩
 have HH:=kz (And.intro ((oz HH).1.lower hb) (And.intro ((oz HH).2.1.lower hb) (And.intro ((oz HH).2.2.1.trans (hb.mono (oz HH).2.2.1.size)) (And.intro ((oz HH).2.2.2.1.below hb (oz HH).2.2.2.1.lt) ((oz HH).2.2.2.2.below hb (oz HH).2.2.2.2.lt)))))
 clear hb za zb
 go_wp2_with fail
 go_ret
 exact ⟨rfl,(oz HH).2.2.1⟩
end Go.Proofs.YtmdgejgokoadlaaGreatDoor
namespace Go.Proofs.YtmdgejgokoadlaaGreatDoor
open Go.RowKit
set_option linter.unusedVariables false
def zeY (md:Region.Mode) (ops:Array Oper) (l:Array Bool):Prop :=
 ∀ (j:Nat) (o:Oper),ops[j]?=some o→l.getD j false=true→∀ e ∈ o.after,Region.binds md e=true→l.getD e.on false=true
def rgTopo (md:Region.Mode) (ops:Array Oper):Bool :=
 (List.range ops.size).all fun j =>((ops[j]?).map fun o =>o.after.all fun e => !Region.binds md e || decide (e.on < j)).getD true
def zij (md:Region.Mode) (ops:Array Oper) (j:Nat):List Nat :=
 ((ops[j]?).map fun o =>(o.after.toList.filter fun e =>Region.binds md e).map fun e =>e.on).getD []
def rgMark (md:Region.Mode) (ops:Array Oper):List Nat→List Nat→List Nat
 | [],s =>s
 | j::js,s =>rgMark md ops js (if s.contains j then zij md ops j++s else s)
def rgAll (md:Region.Mode) (ops:Array Oper) (f:Nat):Bool :=
 (List.range ops.size).all fun j =>(rgMark md ops (List.range ops.size).reverse [f]).contains j
theorem ze7 {md:Region.Mode} {ops:Array Oper} {j k:Nat} (h:k ∈ zij md ops j):∃ o,ops[j]?=some o∧∃ e ∈ o.after,Region.binds md e=true∧e.on=k:=by
 unfold zij at h
 cases ho:ops[j]? with
 | none =>rw [ho] at h;cases h
 | some o =>
  rw [ho] at h
  obtain ⟨e,he,rfl⟩:=List.mem_map.1 h
  obtain ⟨h1,h2⟩:=List.mem_filter.1 he
  exact ⟨o,rfl,e,Array.mem_toList_iff.1 h1,h2,rfl⟩
theorem zeH {md:Region.Mode} {ops:Array Oper} {l:Array Bool} (hc:zeY md ops l) (f:Nat) (hf:∀ k ∈ zij md ops f,l.getD k false=true) :
  ∀ (js s:List Nat),(∀ j ∈ s,j=f∨l.getD j false=true)→∀ j ∈ rgMark md ops js s,j=f∨l.getD j false=true
 | [],s,hs =>hs
 | x::js,s,hs =>by
  refine zeH hc f hf js _ ?_
  by_cases hx:s.contains x=true
  ·rw [if_pos hx]
   intro j hj
   rcases List.mem_append.1 hj with h | h
   ·rcases hs x (List.contains_iff_mem.1 hx) with rfl | h2
    ·exact .inr (hf j h)
    ·obtain ⟨o,ho,e,he,hb,rfl⟩:=ze7 h
     exact .inr (hc x o ho h2 e he hb)
   ·exact hs j h
  ·rw [if_neg hx]
   exact hs
theorem zil {md:Region.Mode} {ops:Array Oper} {l:Array Bool} {f:Nat} (ha:rgAll md ops f=true) (hc:zeY md ops l) (hr:f ∈ Region.ready md ops l) (j:Nat) (hj:j≠f) (hlt:j < ops.size):l.getD j false=true:=by
 obtain ⟨_,o,ho,hall⟩:=mem_ready.1 hr
 have h1:=List.all_eq_true.1 ha j (List.mem_range.2 hlt)
 rcases zeH hc f (fun k hk =>by
  obtain ⟨o',ho',e,he,hb,rfl⟩:=ze7 hk
  obtain rfl:=Option.some.inj (ho.symm.trans ho')
  exact hall e he hb) _ _ (fun x hx =>.inl (List.mem_singleton.1 hx)) j (List.contains_iff_mem.1 h1) with h | h
 ·exact absurd h hj
 ·exact h
theorem ziK {l:Array Bool} {j:Nat} (h:j < l.size):l.getD j true=l.getD j false:=by simp [h]
theorem rg_ready {md:Region.Mode} {ops:Array Oper} {l:Array Bool} (ht:rgTopo md ops=true) (hl:l.size=ops.size) (f:Nat) (hf:l.getD f true=false):Region.ready md ops l≠[]:=by
 have key:∀ n f,f≤n→l.getD f true=false→∃ i,i ∈ Region.ready md ops l:=by
  intro n
  induction n with
  | zero =>
   intro f h0 hf
   obtain rfl:f=0:=by omega
   have hlt:0 < l.size:=by
    rcases Nat.lt_or_ge 0 l.size with h | h
    ·exact h
    ·simp [Array.getElem?_eq_none h] at hf
   obtain ⟨o,ho⟩:∃ o,ops[0]?=some o:=⟨_,Array.getElem?_eq_getElem (by omega)⟩
   refine ⟨0,mem_ready.2 ⟨hf,o,ho,fun e he hb =>?_⟩⟩
   have h1:=List.all_eq_true.1 ht 0 (List.mem_range.2 (by omega))
   rw [ho] at h1
   have h2:=Array.all_eq_true_iff_forall_mem.1 h1 e he
   rw [hb] at h2
   simp at h2
  | succ n ih =>
   intro f hn hf
   have hlt:f < l.size:=by
    rcases Nat.lt_or_ge f l.size with h | h
    ·exact h
    ·simp [Array.getElem?_eq_none h] at hf
   obtain ⟨o,ho⟩:∃ o,ops[f]?=some o:=⟨_,Array.getElem?_eq_getElem (by omega)⟩
   by_cases hx:∃ e ∈ o.after,Region.binds md e=true∧l.getD e.on false=false
   ·obtain ⟨e,he,hb,hz⟩:=hx
    have h1:=List.all_eq_true.1 ht f (List.mem_range.2 (by omega))
    rw [ho] at h1
    have h2:=Array.all_eq_true_iff_forall_mem.1 h1 e he
    rw [hb] at h2
    have h3:e.on < f:=by simpa using h2
    exact ih e.on (by omega) (by rw [ziK (by omega)];exact hz)
   ·refine ⟨f,mem_ready.2 ⟨hf,o,ho,fun e he hb =>?_⟩⟩
    cases hq:l.getD e.on false with
    | true =>rfl
    | false =>exact absurd ⟨e,he,hb,hq⟩ hx
 obtain ⟨i,hi⟩:=key f f (Nat.le_refl _) hf
 intro h
 rw [h] at hi
 cases hi
theorem count_list (l:List Bool) (i:Nat) (h:l[i]?=some false):(l.set i true).count false+1=l.count false:=by
 induction l generalizing i with
 | nil =>simp at h
 | cons x l ih =>
  cases i with
  | zero =>
   have:x=false:=by simpa using h
   subst this
   simp
  | succ i =>
   have:=ih i (by simpa using h)
   rw [List.set_cons_succ,List.count_cons,List.count_cons]
   omega
theorem ziZ (l:Array Bool) (i:Nat) (h:l.getD i true=false):(l.setIfInBounds i true).toList.count false+1=l.toList.count false:=by
 rw [Array.toList_setIfInBounds]
 refine count_list _ _ ?_
 rw [Array.getElem?_toList]
 rcases Nat.lt_or_ge i l.size with h' | h'
 ·rw [Array.getElem?_eq_getElem h']
  simp [h'] at h
  rw [h]
 ·simp [Array.getElem?_eq_none h'] at h
theorem zik {md:Region.Mode} {ops:Array Oper} {l:Array Bool} {i:Nat} (hc:zeY md ops l) (hr:i ∈ Region.ready md ops l):zeY md ops (l.setIfInBounds i true):=by
 intro j o ho hj e he hb
 by_cases hij:i=j
 ·subst hij
  obtain ⟨_,o',ho',hall⟩:=mem_ready.1 hr
  obtain rfl:=Option.some.inj (ho.symm.trans ho')
  exact getD_set_true (hall e he hb)
 ·rw [getD_set_ne false hij] at hj
  exact getD_set_true (hc j o ho hj e he hb)
theorem ready_all {md:Region.Mode} {ops:Array Oper} {l:Array Bool} (h:∀ j,j < ops.size→l.getD j false=true):Region.ready md ops l=[]:=by
 rw [List.eq_nil_iff_forall_not_mem]
 intro j hj
 obtain ⟨h0,o,ho,_⟩:=mem_ready.1 hj
 have h1:=h j (Array.getElem?_eq_some_iff.1 ho).1
 rcases Nat.lt_or_ge j l.size with h' | h'
 ·rw [ziK h',h1] at h0
  cases h0
 ·simp [Array.getElem?_eq_none h'] at h1
theorem wpAny_inv {P:Program} {md:Region.Mode} {ops:Array Oper} {Q:Exit→Act→World→Prop} (f:Nat) (ht:rgTopo md ops=true) (ha:rgAll md ops f=true) (J:Array Bool→Act→World→Prop)
  (hstep:∀ l a w i,J l a w→l.size=ops.size→i ∈ Region.ready md ops l→i≠f→wpOp P ops Q i (J (l.setIfInBounds i true)) a w)
  (hfin:∀ l a w,J l a w→(∀ j,j≠f→j < ops.size→l.getD j false=true)→wpOp P ops Q f (fun a' w' =>Q .normal a' w') a w) :
  ∀ (fuel:Nat) (l:Array Bool) (a:Act) (w:World),l.toList.count false≤fuel→l.size=ops.size→l.getD f true=false→zeY md ops l→J l a w→wpAny P md ops Q fuel l a w:=by
 intro fuel
 induction fuel with
 | zero =>
  intro l a w hn hl hf
  have:=ziZ l f hf
  omega
 | succ fuel ih =>
  intro l a w hn hl hf hc hJ
  refine ⟨fun h =>absurd h (rg_ready ht hl f hf),fun i hi =>?_⟩
  have hi0:=(mem_ready.1 hi).1
  have hn2:=ziZ l i hi0
  by_cases hif:i=f
  ·subst hif
   have hall:=fun j hj hlt =>zil ha hc hi j hj hlt
   refine wpOp_mono (fun a' w' hq =>wpAny_done (ready_all fun j hj =>?_) hq fuel) (hfin l a w hJ hall)
   by_cases hji:j=i
   ·subst hji
    simp [show j < l.size by omega]
   ·rw [getD_set_ne false (Ne.symm hji)]
    exact hall j hji hj
  ·exact wpOp_mono (fun a' w' hq =>ih _ a' w' (by omega) (by simpa using hl) (by rw [getD_set_ne true hif];exact hf) (zik hc hi) hq) (hstep l a w i hJ hl hi hif)
theorem za3 {P:Program} {ops:Array Oper} {Q:Exit→Act→World→Prop} {id:Nat} {a:Act} {w:World} (hm:P.follows .mixedOrders=true) (f:Nat) (hf:f < ops.size) (ht:rgTopo .any ops=true) (ha:rgAll .any ops f=true) (J:Array Bool→Act→World→Prop)
  (h0:J (Array.replicate ops.size false) a w.drew)
  (hstep:∀ l a w i,J l a w→l.size=ops.size→i ∈ Region.ready .any ops l→i≠f→wpOp P ops Q i (J (l.setIfInBounds i true)) a w)
  (hfin:∀ l a w,J l a w→(∀ j,j≠f→j < ops.size→l.getD j false=true)→wpOp P ops Q f (fun a' w' =>Q .normal a' w') a w) :
  (Code.region id ops true).wp P Q a w:=by
 refine wp_region_any hm (wpAny_inv f ht ha J hstep hfin _ _ _ _ (by simp) (by simp) (by simp [hf]) ?_ h0)
 intro j o ho hj
 exfalso
 rcases Nat.lt_or_ge j ops.size with h' | h'
 ·simp [h'] at hj
 ·simp [h'] at hj
theorem zar {md:Region.Mode} {ops:Array Oper} {l:Array Bool} {i:Nat} (hi:i ∈ Region.ready md ops l) (k:Nat) (hk:(zij md ops i).contains k=true):l.getD k false=true:=by
 obtain ⟨_,o,ho,hall⟩:=mem_ready.1 hi
 obtain ⟨o',ho',e,he,hb,rfl⟩:=ze7 (List.contains_iff_mem.1 hk)
 obtain rfl:=Option.some.inj (ho.symm.trans ho')
 exact hall e he hb
theorem zhw {ops:Array Oper} {l:Array Bool} {i:Nat} (hl:l.size=ops.size) (h0:l.getD i true=false):i < ops.size:=by
 rw [← hl]
 rcases Nat.lt_or_ge i l.size with h | h
 ·exact h
 ·simp [Array.getElem?_eq_none h] at h0
structure RgJ (W0:World) (lo:Nat) (D:Nat→Value→World→Prop) (m:Nat→Bool) (l:Array Bool) (U:Nat→Value) (w:World):Prop where
 bel:Below lo W0 w
 sz:lo≤w.heap.size
 val:∀ i,l.getD i false=true→D i (U i) w
 ap:∀ i j,m i=true→m j=true→i≠j→l.getD i false=true→l.getD j false=true→(U i).ownBlock=none∨(U i).ownBlock≠(U j).ownBlock
def zae (U:Nat→Value) (k:Nat) (v:Value):Nat→Value:=fun x =>if x=k then v else U x
theorem zcX (U:Nat→Value) (k:Nat) (v:Value):zae U k v k=v:=if_pos rfl
theorem zcF (U:Nat→Value) {k x:Nat} (v:Value) (h:x≠k):zae U k v x=U x:=if_neg h
theorem zaq {U:Nat→Value} {k:Nat} {v:Value} (h:U k=v):U=zae U k v:=by
 funext x
 by_cases hx:x=k
 ·subst hx;rw [zcX,h]
 ·rw [zcF _ _ hx]
theorem RgJ.start {W0:World} {lo:Nat} {D:Nat→Value→World→Prop} {m:Nat→Bool} (U:Nat→Value) (n:Nat) (h:lo≤W0.heap.size):RgJ W0 lo D m (Array.replicate n false) U W0:=by
 have h0:∀ i,(Array.replicate n false).getD i false=false:=fun i =>by
  rcases Nat.lt_or_ge i n with h' | h' <;> simp [h']
 exact ⟨Below.refl _ _,h,fun i hi =>by (rw [h0] at hi;cases hi),fun i j _ _ _ hi =>by (rw [h0] at hi;cases hi)⟩
theorem RgJ.put {W0:World} {lo:Nat} {D:Nat→Value→World→Prop} {m:Nat→Bool} {l:Array Bool} {U:Nat→Value} {w w':World} (h:RgJ W0 lo D m l U w) (i:Nat) (v:Value)
  (hi:l.getD i true=false) (hb:Below w.heap.size w w') (hst:∀ j u,D j u w→D j u w') (hD:D i v w')
  (hlt:∀ j u,m j=true→D j u w→∀ b,u.ownBlock=some b→b < w.heap.size) (hm:m i=true→∀ b,v.ownBlock=some b→w.heap.size≤b) :
  RgJ W0 lo D m (l.setIfInBounds i true) (zae U i v) w':=by
 have hcase:∀ j,(l.setIfInBounds i true).getD j false=true→j=i∨(j≠i∧l.getD j false=true):=fun j hj =>by
  by_cases hji:j=i
  ·exact .inl hji
  ·rw [getD_set_ne false (Ne.symm hji)] at hj
   exact .inr ⟨hji,hj⟩
 refine ⟨h.bel.trans (hb.mono h.sz),Nat.le_trans h.sz hb.size,fun j hj =>?_,fun j k mj mk hjk hj hk =>?_⟩
 ·rcases hcase j hj with rfl | ⟨hji,h1⟩
  ·rw [zcX];exact hD
  ·rw [zcF _ _ hji];exact hst j _ (h.val j h1)
 ·rcases hcase j hj with rfl | ⟨hji,h1⟩
  ·rcases hcase k hk with rfl | ⟨hki,h2⟩
   ·exact absurd rfl hjk
   ·rw [zcX,zcF _ _ hki]
    cases hb:v.ownBlock with
    | none =>exact .inl rfl
    | some b =>
     refine .inr fun e =>?_
     have h3:=hm mj b hb
     have h4:=hlt k _ mk (h.val k h2) b e.symm
     omega
  ·rcases hcase k hk with rfl | ⟨hki,h2⟩
   ·rw [zcX,zcF _ _ hji]
    cases hb:(U j).ownBlock with
    | none =>exact .inl rfl
    | some b =>
     refine .inr fun e =>?_
     have h3:=hm mk b e.symm
     have h4:=hlt j _ mj (h.val j h1) b hb
     omega
   ·rw [zcF _ _ hji,zcF _ _ hki]
    exact h.ap j k mj mk hjk h1 h2
end Go.Proofs.YtmdgejgokoadlaaGreatDoor
namespace Go.Proofs.YtmdgejgokoadlaaGreatDoor
open Go.RowKit Go.Shelf
set_option linter.unusedVariables false
structure EnvR (W:World):Prop where
 m0:W.cell? ⟨0,0,none⟩=some (.int .i32 (-77))
 m1:W.cell? ⟨0,1,none⟩=some (.int .i32 0)
 m2:W.cell? ⟨1,0,none⟩=some (.int .i32 0)
 m3:W.cell? ⟨1,1,none⟩=some (.int .i64 (-77))
 m4:W.cell? ⟨2,0,none⟩=some (.int .i32 (-77))
 m5:W.cell? ⟨2,1,none⟩=some (.int .i32 0)
 m6:W.cell? ⟨2,2,none⟩=some (.int .i32 0)
 m7:W.cell? ⟨3,0,none⟩=some (.int .i32 (-77))
 m8:W.cell? ⟨3,1,none⟩=some (.string ⟨#[]⟩)
 big:4≤W.heap.size
end Go.Proofs.YtmdgejgokoadlaaGreatDoor
namespace Go.Proofs.YtmdgejgokoadlaaGreatDoor
open Go.RowKit Go.Shelf Go.ChangeShapes Go.WideShapes Go.Deep
set_option linter.unusedVariables false
theorem len2 {α : Type}:∀ {l:List α},l.length=2→∃ a b,l=[a,b]
 | [a,b],_ =>⟨a,b,rfl⟩
theorem len3 {α : Type}:∀ {l:List α},l.length=3→∃ a b c,l=[a,b,c]
 | [a,b,c],_ =>⟨a,b,c,rfl⟩
theorem trod2 {H:Type} {enc:TypeId × Value→H} {W:World} {hh:Bool} {e:TypeId} {f0 f1:Field} (he:Tryz.prog.underlying e=some (.struct #[f0,f1])) (ce:Tryz.prog.cellsOf e=2) (o0:f0.offset=0) (o1:f1.offset=1) (c0:Tryz.prog.cellsOf f0.type=1) (c1:Tryz.prog.cellsOf f1.type=1) {n:Nat} {cs:List Value} {x:DataW H × List MemPlace}
  (h:DataW.trod enc Tryz.prog W 0 (fun _ =>true) hh n e cs=some x):∃ v0 v1 y0 y1 k,cs=[v0,v1]∧x.1=.agg [y0.1,y1.1]∧DataW.trod enc Tryz.prog W 0 (fun _ =>true) hh k f0.type [v0]=some y0∧DataW.trod enc Tryz.prog W 0 (fun _ =>true) hh k f1.type [v1]=some y1:=by
 obtain ⟨xs,k,hk,hxy,hcl,hxl,hf⟩:=DataW.trod_struct he h
 rw [ce] at hcl
 obtain ⟨y0,y1,rfl⟩:=len2 hxl
 obtain ⟨v0,v1,rfl⟩:=len2 hcl
 have g0:=hf 0 f0 rfl
 have g1:=hf 1 f1 rfl
 rw [o0,c0] at g0
 rw [o1,c1] at g1
 exact ⟨v0,v1,y0,y1,k,rfl,by rw [hxy];rfl,g0,g1⟩
theorem trod3 {H:Type} {enc:TypeId × Value→H} {W:World} {hh:Bool} {e:TypeId} {f0 f1 f2:Field} (he:Tryz.prog.underlying e=some (.struct #[f0,f1,f2])) (ce:Tryz.prog.cellsOf e=3) (o0:f0.offset=0) (o1:f1.offset=1) (o2:f2.offset=2) (c0:Tryz.prog.cellsOf f0.type=1) (c1:Tryz.prog.cellsOf f1.type=1) (c2:Tryz.prog.cellsOf f2.type=1) {n:Nat} {cs:List Value} {x:DataW H × List MemPlace}
  (h:DataW.trod enc Tryz.prog W 0 (fun _ =>true) hh n e cs=some x):∃ v0 v1 v2 y0 y1 y2 k,cs=[v0,v1,v2]∧x.1=.agg [y0.1,y1.1,y2.1]∧DataW.trod enc Tryz.prog W 0 (fun _ =>true) hh k f0.type [v0]=some y0∧DataW.trod enc Tryz.prog W 0 (fun _ =>true) hh k f1.type [v1]=some y1∧DataW.trod enc Tryz.prog W 0 (fun _ =>true) hh k f2.type [v2]=some y2:=by
 obtain ⟨xs,k,hk,hxy,hcl,hxl,hf⟩:=DataW.trod_struct he h
 rw [ce] at hcl
 obtain ⟨y0,y1,y2,rfl⟩:=len3 hxl
 obtain ⟨v0,v1,v2,rfl⟩:=len3 hcl
 have g0:=hf 0 f0 rfl
 have g1:=hf 1 f1 rfl
 have g2:=hf 2 f2 rfl
 rw [o0,c0] at g0
 rw [o1,c1] at g1
 rw [o2,c2] at g2
 exact ⟨v0,v1,v2,y0,y1,y2,k,rfl,by rw [hxy];rfl,g0,g1,g2⟩
end Go.Proofs.YtmdgejgokoadlaaGreatDoor
namespace Go.Proofs.YtmdgejgokoadlaaGreatDoor
open Go.ChangeShapes Go.WideShapes Go.ChangeAt Go.RowKit Go.Lib
set_option linter.unusedVariables false
theorem str_nil {s:ByteArray} (h:s.data.toList=[]):s=⟨#[]⟩:=by
 obtain ⟨d⟩:=s
 have:d=#[]:=Array.toList_eq_nil_iff.1 h
 rw [this]
theorem gRoomSpan : Tryz.prog.globalNamed "guise/guisekeep6.roomSpan" = some 0 := by kernel_rfl
theorem tRoomSpan:(Tryz.prog.globals[0]?).map (·.type)=some 73:=by kernel_rfl
theorem zjh {W : World} (h : VarReads Tryz.prog W "guise/guisekeep6.roomSpan" Rows.laid_guise_guisekeep6_roomSpan) : W.cell? ⟨0, 0, none⟩ = some (.int .i32 (-77)) ∧ W.cell? ⟨0, 1, none⟩ = some (.int .i32 0) := by
 obtain ⟨g1,t1,cs1,f1,p1,hg1,ht1,hv1,hd1⟩:=h
 obtain rfl:=Option.some.inj (gRoomSpan.symm.trans hg1)
 obtain rfl:=Option.some.inj (tRoomSpan.symm.trans ht1)
 obtain ⟨v0,v1,y0,y1,k,hcs,hx,t0,t1⟩:=trod2 Tryz.underlying73 (by kernel_rfl) rfl rfl (by kernel_rfl) (by kernel_rfl) hd1
 obtain ⟨z0,e0,rfl,_⟩:=DataW.trod_int Tryz.underlying21 t0
 injection e0 with e0
 obtain ⟨z1,e1,rfl,_⟩:=DataW.trod_int Tryz.underlying21 t1
 injection e1 with e1
 unfold Rows.laid_guise_guisekeep6_roomSpan at hx
 simp at hx
 obtain ⟨h0,h1⟩:=hx
 have hc:∀ j,W.cell? ⟨0,j,none⟩=cs1.toList[j]?:=fun j =>by rw [World.var?_cell hg1 hv1 j,Array.getElem?_toList]
 exact ⟨by rw [hc,hcs,e0, ← h0];rfl,by rw [hc,hcs,e1, ← h1];rfl⟩
theorem gRoomMark : Tryz.prog.globalNamed "guise/guisekeep6.roomMark" = some 1 := by kernel_rfl
theorem tRoomMark:(Tryz.prog.globals[1]?).map (·.type)=some 93:=by kernel_rfl
theorem zjj {W : World} (h : VarReads Tryz.prog W "guise/guisekeep6.roomMark" Rows.laid_guise_guisekeep6_roomMark) : W.cell? ⟨1, 0, none⟩ = some (.int .i32 0) ∧ W.cell? ⟨1, 1, none⟩ = some (.int .i64 (-77)) := by
 obtain ⟨g1,t1,cs1,f1,p1,hg1,ht1,hv1,hd1⟩:=h
 obtain rfl:=Option.some.inj (gRoomMark.symm.trans hg1)
 obtain rfl:=Option.some.inj (tRoomMark.symm.trans ht1)
 obtain ⟨v0,v1,y0,y1,k,hcs,hx,t0,t1⟩:=trod2 Tryz.underlying93 (by kernel_rfl) rfl rfl (by kernel_rfl) (by kernel_rfl) hd1
 obtain ⟨z0,e0,rfl,_⟩:=DataW.trod_int Tryz.underlying21 t0
 injection e0 with e0
 obtain ⟨z1,e1,rfl,_⟩:=DataW.trod_int Tryz.underlying3 t1
 injection e1 with e1
 unfold Rows.laid_guise_guisekeep6_roomMark at hx
 simp at hx
 obtain ⟨h0,h1⟩:=hx
 have hc:∀ j,W.cell? ⟨1,j,none⟩=cs1.toList[j]?:=fun j =>by rw [World.var?_cell hg1 hv1 j,Array.getElem?_toList]
 exact ⟨by rw [hc,hcs,e0, ← h0];rfl,by rw [hc,hcs,e1, ← h1];rfl⟩
theorem gRoomPair : Tryz.prog.globalNamed "guise/guisekeep6.roomPair" = some 2 := by kernel_rfl
theorem tRoomPair:(Tryz.prog.globals[2]?).map (·.type)=some 96:=by kernel_rfl
theorem zji {W : World} (h : VarReads Tryz.prog W "guise/guisekeep6.roomPair" Rows.laid_guise_guisekeep6_roomPair) : W.cell? ⟨2, 0, none⟩ = some (.int .i32 (-77)) ∧ W.cell? ⟨2, 1, none⟩ = some (.int .i32 0) ∧ W.cell? ⟨2, 2, none⟩ = some (.int .i32 0) := by
 obtain ⟨g1,t1,cs1,f1,p1,hg1,ht1,hv1,hd1⟩:=h
 obtain rfl:=Option.some.inj (gRoomPair.symm.trans hg1)
 obtain rfl:=Option.some.inj (tRoomPair.symm.trans ht1)
 obtain ⟨v0,v1,v2,y0,y1,y2,k,hcs,hx,t0,t1,t2⟩:=trod3 Tryz.underlying96 (by kernel_rfl) rfl rfl rfl (by kernel_rfl) (by kernel_rfl) (by kernel_rfl) hd1
 obtain ⟨z0,e0,rfl,_⟩:=DataW.trod_int Tryz.underlying21 t0
 injection e0 with e0
 obtain ⟨z1,e1,rfl,_⟩:=DataW.trod_int Tryz.underlying21 t1
 injection e1 with e1
 obtain ⟨z2,e2,rfl,_⟩:=DataW.trod_int Tryz.underlying21 t2
 injection e2 with e2
 unfold Rows.laid_guise_guisekeep6_roomPair at hx
 simp at hx
 obtain ⟨h0,h1,h2⟩:=hx
 have hc:∀ j,W.cell? ⟨2,j,none⟩=cs1.toList[j]?:=fun j =>by rw [World.var?_cell hg1 hv1 j,Array.getElem?_toList]
 exact ⟨by rw [hc,hcs,e0, ← h0];rfl,by rw [hc,hcs,e1, ← h1];rfl,by rw [hc,hcs,e2, ← h2];rfl⟩
theorem gRoomMap : Tryz.prog.globalNamed "guise/guisekeep6.roomMap" = some 3 := by kernel_rfl
theorem tRoomMap:(Tryz.prog.globals[3]?).map (·.type)=some 75:=by kernel_rfl
theorem zlk {W : World} (h : VarReads Tryz.prog W "guise/guisekeep6.roomMap" Rows.laid_guise_guisekeep6_roomMap) : W.cell? ⟨3, 0, none⟩ = some (.int .i32 (-77)) ∧ W.cell? ⟨3, 1, none⟩ = some (.string ⟨#[]⟩) := by
 obtain ⟨g1,t1,cs1,f1,p1,hg1,ht1,hv1,hd1⟩:=h
 obtain rfl:=Option.some.inj (gRoomMap.symm.trans hg1)
 obtain rfl:=Option.some.inj (tRoomMap.symm.trans ht1)
 obtain ⟨v0,v1,y0,y1,k,hcs,hx,t0,t1⟩:=trod2 Tryz.underlying75 (by kernel_rfl) rfl rfl (by kernel_rfl) (by kernel_rfl) hd1
 obtain ⟨z0,e0,rfl,_⟩:=DataW.trod_int Tryz.underlying21 t0
 injection e0 with e0
 obtain ⟨z1,e1,rfl,_⟩:=DataW.trod_string Tryz.underlying9 t1
 injection e1 with e1
 unfold Rows.laid_guise_guisekeep6_roomMap at hx
 simp at hx
 obtain ⟨h0,h1⟩:=hx
 have hc:∀ j,W.cell? ⟨3,j,none⟩=cs1.toList[j]?:=fun j =>by rw [World.var?_cell hg1 hv1 j,Array.getElem?_toList]
 exact ⟨by rw [hc,hcs,e0, ← h0];rfl,by rw [hc,hcs,e1,str_nil (s:=z1) (by first | exact h1 | exact h1.symm | simpa using h1)];rfl⟩
theorem envR_of {laid pl:List (String × DataW Unit)} {W:World} (h:laidMetH Tryz.prog laid W)
  (e1 : (laid.filter fun x => x.2.handleName?.isSome) = [("errors.errorType", Rows.laid_errors_errorType)])
  (e2:(laid.filter fun x =>x.2.handleName?.isNone)=pl)
  (m1 : ("guise/guisekeep6.roomSpan", Rows.laid_guise_guisekeep6_roomSpan) ∈ pl) (m2 : ("guise/guisekeep6.roomMark", Rows.laid_guise_guisekeep6_roomMark) ∈ pl)
  (m3 : ("guise/guisekeep6.roomPair", Rows.laid_guise_guisekeep6_roomPair) ∈ pl) (m4 : ("guise/guisekeep6.roomMap", Rows.laid_guise_guisekeep6_roomMap) ∈ pl) {m : Int} (hE : EnvK m W) : EnvR W := by
 unfold laidMetH at h
 rw [e1,e2] at h
 obtain ⟨hp,_⟩:=h
 obtain ⟨a0,a1⟩:=zjh (laidMet.reads hp m1)
 obtain ⟨b0,b1⟩:=zjj (laidMet.reads hp m2)
 obtain ⟨c0,c1,c2⟩:=zji (laidMet.reads hp m3)
 obtain ⟨d0,d1⟩:=zlk (laidMet.reads hp m4)
 exact ⟨a0,a1,b0,b1,c0,c1,c2,d0,d1,by have:=hE.p.big;omega⟩
end Go.Proofs.YtmdgejgokoadlaaGreatDoor
namespace Go.Proofs.YtmdgejgokoadlaaGreatDoor
open Go.RowKit Go.Shelf
set_option linter.unusedVariables false
def r6 (x:W8):List Value := [.int .i64 x.k,.string x.S,.int .i32 x.r,.int .i64 x.n,.int .i64 x.b,.int .i64 x.e]
def r6V (x:W8):Value := .agg #[.int .i64 x.k,.string x.S,.int .i32 x.r,.int .i64 x.n,.int .i64 x.b,.int .i64 x.e]
def BadR (ws:List W8) (k:Nat) (eb el ec:Int) (bi:Int):Option Rf→Prop
 | none =>bi = -1
 | some f =>bi=k∧f=zeA ws k eb el ec
def zbm (a:Option Addr) (n c:Nat) (k:Nat) (bi:Int) (vs:List Value):Array Value:=([Value.slice a n c,Value.int .i64 k,Value.int .i64 bi]++vs.take 17).toArray
structure RrAt (W:World) (lo R g:Nat) (a:Option Addr) (c:Nat) (ws:List W8) (k:Nat) (bi:Int) (vs:List Value) (ls:List Ln):Prop where
 kn:k≤ws.length
 nmax:ws.length≤1000000
 cap:ws.length≤c
 ptr:0 < ws.length→a=some ⟨g,0,none⟩∧g < lo∧g≠R
 words:∀ (j:Nat) (x:W8),ws[j]?=some x→∀ i u,(r6 x)[i]?=some u→W.cell? ⟨g,j*6+i,none⟩=some u
 lv:17≤vs.length
 ll:ls.length=vs.length
 blk:Blk W R (zbm a ws.length c k bi vs) 121
 own:∀ (i:Nat) (v:Value) (l:Ln),vs[i]?=some v→ls[i]?=some l→W.ownsRow lo l.E l.sz v l.n l.xs
 apart:∀ (i j:Nat) (v u:Value),i≠j→vs[i]?=some v→vs[j]?=some u→v.ownBlock=none∨v.ownBlock≠u.ownBlock
 lt:R < lo
 lw:lo≤W.heap.size
theorem RrAt.cells {W:World} {lo R g:Nat} {a:Option Addr} {c:Nat} {ws:List W8} {k:Nat} {bi:Int} {vs:List Value} {ls:List Ln} (h:RrAt W lo R g a c ws k bi vs ls):W.cell? ⟨R,0,none⟩=some (.slice a ws.length c)∧W.cell? ⟨R,1,none⟩=some (.int .i64 k)∧W.cell? ⟨R,2,none⟩=some (.int .i64 bi) :=
 ⟨by have:=h.blk.cell 0;rw [this];rfl,by have:=h.blk.cell 1;rw [this];rfl,by have:=h.blk.cell 2;rw [this];rfl⟩
theorem RrAt.upd {W W':World} {lo R g:Nat} {a:Option Addr} {c:Nat} {ws:List W8} {k k':Nat} {bi bi':Int} {vs:List Value} {ls:List Ln} (h:RrAt W lo R g a c ws k bi vs ls) (hg:W.grownBy W' (some R)) (hk:k'≤ws.length) (hb:Blk W' R (zbm a ws.length c k' bi' vs) 121):RrAt W' lo R g a c ws k' bi' vs ls :=
 ⟨hk,h.nmax,h.cap,h.ptr,fun j x hx i u hu =>hg.cell (a:=⟨g,j*6+i,none⟩) (h.words j x hx i u hu) (fun e =>by
  have h0:=(List.getElem?_eq_some_iff.1 hx).1
  exact (h.ptr (by omega)).2.2 (Option.some.inj e)),h.lv,h.ll,hb,fun i v l hv hl =>zat (h.own i v l hv hl) hg (.inr fun e =>by have h1:=zam (h.own i v l hv hl) R e;have:=h.lt;omega),h.apart,h.lt,Nat.le_trans h.lw hg.size⟩
theorem RrAt.below {W W':World} {lo R g:Nat} {a:Option Addr} {c:Nat} {ws:List W8} {k:Nat} {bi:Int} {vs:List Value} {ls:List Ln} (h:RrAt W lo R g a c ws k bi vs ls) (hb:Below W.heap.size W W'):RrAt W' lo R g a c ws k bi vs ls :=
 h.upd ⟨hb.os,hb.tape,hb.output,hb.size,fun i hi _ =>hb.block i hi⟩ h.kn (h.blk.below hb h.blk.lt)
set_option maxRecDepth 100000 in
set_option maxHeartbeats 4000000 in
theorem zb3 (lo R g:Nat) (a:Option Addr) (c:Nat) (ws:List W8) (k:Nat) (bi:Int) (bad:Option Rf) (eb el ec kind:Int) (vs:List Value) (ls:List Ln) (W:World) (h:RrAt W lo R g a c ws k bi vs ls) (hB:BadR ws k eb el ec bi bad) :
  Calls Tryz.prog 83 #[.pointer (some ⟨R,0,none⟩),.int .i64 kind] W fun e w' =>e=.returned (.bool (zaJ ws k bad kind))∧Below W.heap.size W w':=by
 obtain ⟨c0,c1,c2⟩:=h.cells
 have hkn:=h.kn
 have hnm:=h.nmax
 have hcap:=h.cap
 have k0:=cell_regrown c0
 have k1:=cell_regrown c1
 have k2:=cell_regrown c2
 have q0:(0:Int)≤(k:Int):=by omega
 go_enter Tryz.func83,Tryz.ntmps83
 cases bad with
 | some f =>
  obtain ⟨hbi,rfl⟩:=hB
  have hs:zaJ ws k (some (zeA ws k eb el ec)) kind=false:=rfl
  rw [hs]
  have n1:¬ bi < 0:=by omega
  have n2:decide (bi < 0)=false:=decide_eq_false n1
  clear h c0 c1 c2 hs hbi q0 hkn hnm hcap k0 k1
  go_wp2_with fail
  refine wp_region_quiet_below (by kernel_rfl) (by kernel_rfl) ?_
  repeat (go_big_quiet_step (fail))
  first | refine wpQuiet_nil ?_ | skip
  rintro w' ⟨p,rfl⟩
  have HB:=kz (below_regrown W p.d p.os)
  generalize Go.Sort.grow (redrawn W p.d) p.os=w1 at *
  clear k2
  go_wp2_with fail
  go_ret
  exact ⟨rfl,oz HB⟩
 | none =>
  obtain rfl:bi = -1:=hB
  by_cases hlt:k < ws.length
  ·obtain ⟨x,hx⟩:∃ x,ws[k]?=some x:=⟨_,List.getElem?_eq_getElem hlt⟩
   obtain ⟨rfl,hgl,hgR⟩:=h.ptr (by omega)
   have cx:=h.words k x hx 0 _ rfl
   have kx:=cell_regrown cx
   rw [Nat.add_zero] at kx
   have hs:zaJ ws k none kind=(x.k == kind):=by unfold zaJ;rw [hx]
   rw [hs]
   have n1:((k:Nat):Int) < (ws.length:Int):=by omega
   clear h c0 c1 c2 cx hs hx
   go_wp2_with fail
   refine wp_region_quiet_below (by kernel_rfl) (by kernel_rfl) ?_
   repeat (go_big_quiet_step (fail))
   first | refine wpQuiet_nil ?_ | skip
   rintro w' ⟨p,rfl⟩
   have HB:=kz (below_regrown W p.d p.os)
   generalize Go.Sort.grow (redrawn W p.d) p.os=w1 at *
   clear k0 k1 k2 kx
   go_wp2_with fail
   go_ret
   exact ⟨rfl,oz HB⟩
  ·have hs:zaJ ws k none kind=false:=by unfold zaJ;rw [List.getElem?_eq_none (by omega)]
   rw [hs]
   have n1:¬ ((k:Nat):Int) < (ws.length:Int):=by omega
   have n2:decide (k < ws.length)=false:=decide_eq_false hlt
   clear h c0 c1 c2 hs
   go_wp2_with fail
   refine wp_region_quiet_below (by kernel_rfl) (by kernel_rfl) ?_
   repeat (go_big_quiet_step (fail))
   first | refine wpQuiet_nil ?_ | skip
   rintro w' ⟨p,rfl⟩
   have HB:=kz (below_regrown W p.d p.os)
   generalize Go.Sort.grow (redrawn W p.d) p.os=w1 at *
   clear k0 k1 k2
   go_wp2_with fail
   go_ret
   exact ⟨rfl,oz HB⟩
end Go.Proofs.YtmdgejgokoadlaaGreatDoor
