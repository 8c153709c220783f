/- Texts of this claim, one behind the other. -/
import Derived.Test.YtmdgejgokoadlaaGreatDoorM11
import Derived.Test.YtmdgejgokoadlaaGreatDoorShK
import Derived.Test.YtmdgejgokoadlaaGreatDoorM7
/- A text's tables: lists that are copied. -/
namespace Go.Proofs.YtmdgejgokoadlaaGreatDoor
open Go.RowKit Go.Shelf
set_option linter.unusedVariables false
theorem encM2_one (t:List (Int × Int)):∀ u ∈ zco t,u.oneCell'=true:=by
 induction t with
 | nil =>intro u hu;cases hu
 | cons x t ih =>
  intro u hu
  rcases List.mem_cons.1 hu with rfl | hu
  ·rfl
  ·rcases List.mem_cons.1 hu with rfl | hu
   ·rfl
   ·exact ih u hu
theorem ziS (t:List (Int × ByteArray)):∀ u ∈ zbu t,u.oneCell'=true:=by
 induction t with
 | nil =>intro u hu;cases hu
 | cons x t ih =>
  intro u hu
  rcases List.mem_cons.1 hu with rfl | hu
  ·rfl
  ·rcases List.mem_cons.1 hu with rfl | hu
   ·rfl
   ·exact ih u hu
theorem encP3_one (t:List (Int × Int × Int)):∀ u ∈ zch t,u.oneCell'=true:=by
 induction t with
 | nil =>intro u hu;cases hu
 | cons x t ih =>
  intro u hu
  rcases List.mem_cons.1 hu with rfl | hu
  ·rfl
  ·rcases List.mem_cons.1 hu with rfl | hu
   ·rfl
   ·rcases List.mem_cons.1 hu with rfl | hu
    ·rfl
    ·exact ih u hu
theorem encSc_one (t:List (ByteArray × List (Int × Int))) (us:List Value) (hu:∀ u ∈ us,u.oneCell'=true):∀ u ∈ zbQ t us,u.oneCell'=true:=by
 induction t generalizing us with
 | nil =>intro u h;cases us <;> cases h
 | cons x t ih =>cases us with
  | nil =>intro u h;cases h
  | cons v us =>
   intro u h
   rcases List.mem_cons.1 h with rfl | h
   ·rfl
   ·rcases List.mem_cons.1 h with rfl | h
    ·exact hu _ List.mem_cons_self
    ·exact ih us (fun y hy =>hu y (List.mem_cons_of_mem _ hy)) u h
theorem zeT (t:List (ByteArray × List (Int × Int))) (us:List Value) (h:us.length=t.length) (j:Nat):(zbQ t us)[2*j+1]?=us[j]?:=by
 induction t generalizing us j with
 | nil =>cases us with
  | nil =>simp [zbQ]
  | cons v us =>cases h
 | cons x t ih =>cases us with
  | nil =>cases h
  | cons v us =>cases j with
   | zero =>rfl
   | succ j =>show (_::_::zbQ t us)[2*j+1+2]?=_;rw [List.getElem?_cons_succ,List.getElem?_cons_succ,List.getElem?_cons_succ];exact ih us (by simpa using h) j
theorem encSc_set (t:List (ByteArray × List (Int × Int))) (us:List Value) (h:us.length=t.length) (j:Nat) (v:Value):(zbQ t us).set (2*j+1) v=zbQ t (us.set j v):=by
 induction t generalizing us j with
 | nil =>cases us with
  | nil =>simp [zbQ]
  | cons v us =>cases h
 | cons x t ih =>cases us with
  | nil =>cases h
  | cons u us =>cases j with
   | zero =>rfl
   | succ j =>show (_::_::zbQ t us).set (2*j+1+2) v=_::_::zbQ t (us.set j v);rw [List.set_cons_succ,List.set_cons_succ,ih us (by simpa using h) j]
theorem zc7 (t:List (ByteArray × List (Int × Int))) (us:List Value) (h:us.length=t.length):(zbQ t us).length=t.length*2:=by
 induction t generalizing us with
 | nil =>cases us <;> rfl
 | cons x t ih =>cases us with
  | nil =>cases h
  | cons u us =>show (zbQ t us).length+1+1=(t.length+1)*2;rw [ih us (by simpa using h)];omega
theorem own_set {W:World} {lo E sz n g cap:Nat} {xs:List Value} (h:W.ownsRow lo E sz (.slice (some ⟨g,0,none⟩) n cap) n xs) (i:Nat) (hi:i < n*sz) (u:Value):(W.setCell ⟨g,i,none⟩ u).ownsRow lo E sz (.slice (some ⟨g,0,none⟩) n cap) n (xs.set i u):=by
 refine ⟨by rw [List.length_set];exact h.1, ?_⟩
 rcases h.2 with ⟨e,_⟩ | ⟨g',cap',cur,e,hb,hg,hc,hm,hcs,hx⟩
 ·cases e
 ·injection e with e1 e2 e3
  injection e1 with e1
  injection e1 with e1
  subst e1 e3
  have b:=(show Blk W g cur E from hg).set i u
  refine .inr ⟨g,cap,_,rfl,hb,b,hc,hm,by rw [Array.size_setIfInBounds];exact hcs, ?_⟩
  rw [Array.toList_setIfInBounds,List.take_set,hx]
theorem zgo (lo n:Nat) (v:Value) (xs:List Value) (w:World) (h:w.ownsRow lo 71 2 v n xs) (hn:n≤2000000) (h1:∀ u ∈ xs,u.oneCell'=true):Calls Tryz.prog 65 #[v] w fun e w' => ∃ v',e=.returned v'∧w'.ownsRow w.heap.size 71 2 v' n xs∧Below w.heap.size w w':=by
 obtain ⟨i0,hi,hz0,hz1,hz2⟩:=info_parts zff
 rcases h.2 with ⟨rfl,rfl⟩ | ⟨g,cap,cur,rfl,hl,hg,hc,hm,hcs,hx⟩
 ·refine (show Calls Tryz.prog 65 #[.slice none 0 0] w _ from AnyE.slices_Clone_nil cloneScript 0 0 w).mono ?_
  rintro e w' ⟨rfl,rfl⟩
  exact ⟨_,rfl,⟨h.1,.inl ⟨rfl,rfl⟩⟩,Below.refl _ _⟩
 ·refine (show Calls Tryz.prog 65 #[.slice (some ⟨g,0,none⟩) n cap] w _ from AnyE.slices_Clone cloneScript i0 (.agg #[.string ⟨#[]⟩,.slice none 0 0]) 2 40 hi hz0 hz1 hz2 rfl (by decide) Tryz.sizeOf71 g 0 n cap xs w h.1 (by unfold maxLen;omega) (by omega) (fun j u hu =>?_) h1).mono ?_
  ·have hj:=(List.getElem?_eq_some_iff.1 hu).1
   rw [h.1] at hj
   rw [← hx,List.getElem?_take_of_lt hj] at hu
   rw [Nat.zero_add]
   have b:Blk w g cur 71:=hg
   rw [b.cell j, ← hu,Array.getElem?_toList]
  ·rintro e w' ⟨v',rfl,h2,_,h3⟩
   exact ⟨v',rfl,h2,h3⟩
theorem zcE (lo n:Nat) (v:Value) (xs:List Value) (w:World) (h:w.ownsRow lo 73 2 v n xs) (hn:n≤2000000) (h1:∀ u ∈ xs,u.oneCell'=true):Calls Tryz.prog 33 #[v] w fun e w' => ∃ v',e=.returned v'∧w'.ownsRow w.heap.size 73 2 v' n xs∧Below w.heap.size w w':=by
 obtain ⟨i0,hi,hz0,hz1,hz2⟩:=info_parts zcB
 rcases h.2 with ⟨rfl,rfl⟩ | ⟨g,cap,cur,rfl,hl,hg,hc,hm,hcs,hx⟩
 ·refine (show Calls Tryz.prog 33 #[.slice none 0 0] w _ from AnyE.slices_Clone_nil cloneSpan 0 0 w).mono ?_
  rintro e w' ⟨rfl,rfl⟩
  exact ⟨_,rfl,⟨h.1,.inl ⟨rfl,rfl⟩⟩,Below.refl _ _⟩
 ·refine (show Calls Tryz.prog 33 #[.slice (some ⟨g,0,none⟩) n cap] w _ from AnyE.slices_Clone cloneSpan i0 (.agg #[.int .i32 0,.int .i32 0]) 2 8 hi hz0 hz1 hz2 rfl (by decide) Tryz.sizeOf73 g 0 n cap xs w h.1 (by unfold maxLen;omega) (by omega) (fun j u hu =>?_) h1).mono ?_
  ·have hj:=(List.getElem?_eq_some_iff.1 hu).1
   rw [h.1] at hj
   rw [← hx,List.getElem?_take_of_lt hj] at hu
   rw [Nat.zero_add]
   have b:Blk w g cur 73:=hg
   rw [b.cell j, ← hu,Array.getElem?_toList]
  ·rintro e w' ⟨v',rfl,h2,_,h3⟩
   exact ⟨v',rfl,h2,h3⟩
theorem zhP (lo n:Nat) (v:Value) (xs:List Value) (w:World) (h:w.ownsRow lo 93 2 v n xs) (hn:n≤2000000) (h1:∀ u ∈ xs,u.oneCell'=true):Calls Tryz.prog 34 #[v] w fun e w' => ∃ v',e=.returned v'∧w'.ownsRow w.heap.size 93 2 v' n xs∧Below w.heap.size w w':=by
 obtain ⟨i0,hi,hz0,hz1,hz2⟩:=info_parts zhH
 rcases h.2 with ⟨rfl,rfl⟩ | ⟨g,cap,cur,rfl,hl,hg,hc,hm,hcs,hx⟩
 ·refine (show Calls Tryz.prog 34 #[.slice none 0 0] w _ from AnyE.slices_Clone_nil cloneMark 0 0 w).mono ?_
  rintro e w' ⟨rfl,rfl⟩
  exact ⟨_,rfl,⟨h.1,.inl ⟨rfl,rfl⟩⟩,Below.refl _ _⟩
 ·refine (show Calls Tryz.prog 34 #[.slice (some ⟨g,0,none⟩) n cap] w _ from AnyE.slices_Clone cloneMark i0 (.agg #[.int .i32 0,.int .i64 0]) 2 16 hi hz0 hz1 hz2 rfl (by decide) Tryz.sizeOf93 g 0 n cap xs w h.1 (by unfold maxLen;omega) (by omega) (fun j u hu =>?_) h1).mono ?_
  ·have hj:=(List.getElem?_eq_some_iff.1 hu).1
   rw [h.1] at hj
   rw [← hx,List.getElem?_take_of_lt hj] at hu
   rw [Nat.zero_add]
   have b:Blk w g cur 93:=hg
   rw [b.cell j, ← hu,Array.getElem?_toList]
  ·rintro e w' ⟨v',rfl,h2,_,h3⟩
   exact ⟨v',rfl,h2,h3⟩
theorem zhO (lo n:Nat) (v:Value) (xs:List Value) (w:World) (h:w.ownsRow lo 96 3 v n xs) (hn:n≤2000000) (h1:∀ u ∈ xs,u.oneCell'=true):Calls Tryz.prog 35 #[v] w fun e w' => ∃ v',e=.returned v'∧w'.ownsRow w.heap.size 96 3 v' n xs∧Below w.heap.size w w':=by
 obtain ⟨i0,hi,hz0,hz1,hz2⟩:=info_parts zhG
 rcases h.2 with ⟨rfl,rfl⟩ | ⟨g,cap,cur,rfl,hl,hg,hc,hm,hcs,hx⟩
 ·refine (show Calls Tryz.prog 35 #[.slice none 0 0] w _ from AnyE.slices_Clone_nil clonePair 0 0 w).mono ?_
  rintro e w' ⟨rfl,rfl⟩
  exact ⟨_,rfl,⟨h.1,.inl ⟨rfl,rfl⟩⟩,Below.refl _ _⟩
 ·refine (show Calls Tryz.prog 35 #[.slice (some ⟨g,0,none⟩) n cap] w _ from AnyE.slices_Clone clonePair i0 (.agg #[.int .i32 0,.int .i32 0,.int .i32 0]) 3 12 hi hz0 hz1 hz2 rfl (by decide) Tryz.sizeOf96 g 0 n cap xs w h.1 (by unfold maxLen;omega) (by omega) (fun j u hu =>?_) h1).mono ?_
  ·have hj:=(List.getElem?_eq_some_iff.1 hu).1
   rw [h.1] at hj
   rw [← hx,List.getElem?_take_of_lt hj] at hu
   rw [Nat.zero_add]
   have b:Blk w g cur 96:=hg
   rw [b.cell j, ← hu,Array.getElem?_toList]
  ·rintro e w' ⟨v',rfl,h2,_,h3⟩
   exact ⟨v',rfl,h2,h3⟩
theorem zfC (lo n:Nat) (v:Value) (xs:List Value) (w:World) (h:w.ownsRow lo 75 2 v n xs) (hn:n≤2000000) (h1:∀ u ∈ xs,u.oneCell'=true):Calls Tryz.prog 36 #[v] w fun e w' => ∃ v',e=.returned v'∧w'.ownsRow w.heap.size 75 2 v' n xs∧Below w.heap.size w w':=by
 obtain ⟨i0,hi,hz0,hz1,hz2⟩:=info_parts zge
 rcases h.2 with ⟨rfl,rfl⟩ | ⟨g,cap,cur,rfl,hl,hg,hc,hm,hcs,hx⟩
 ·refine (show Calls Tryz.prog 36 #[.slice none 0 0] w _ from AnyE.slices_Clone_nil cloneMap 0 0 w).mono ?_
  rintro e w' ⟨rfl,rfl⟩
  exact ⟨_,rfl,⟨h.1,.inl ⟨rfl,rfl⟩⟩,Below.refl _ _⟩
 ·refine (show Calls Tryz.prog 36 #[.slice (some ⟨g,0,none⟩) n cap] w _ from AnyE.slices_Clone cloneMap i0 (.agg #[.int .i32 0,.string ⟨#[]⟩]) 2 24 hi hz0 hz1 hz2 rfl (by decide) Tryz.sizeOf75 g 0 n cap xs w h.1 (by unfold maxLen;omega) (by omega) (fun j u hu =>?_) h1).mono ?_
  ·have hj:=(List.getElem?_eq_some_iff.1 hu).1
   rw [h.1] at hj
   rw [← hx,List.getElem?_take_of_lt hj] at hu
   rw [Nat.zero_add]
   have b:Blk w g cur 75:=hg
   rw [b.cell j, ← hu,Array.getElem?_toList]
  ·rintro e w' ⟨v',rfl,h2,_,h3⟩
   exact ⟨v',rfl,h2,h3⟩
structure OsSt (W wr:World) (g cap:Nat) (sc:List (ByteArray × List (Int × Int))) (us:List Value) (i:Nat) (cu:List Value):Prop where
 row:wr.ownsRow W.heap.size 71 2 (.slice (some ⟨g,0,none⟩) sc.length cap) sc.length (zbQ sc cu)
 len:cu.length=sc.length
 old:∀ j,i≤j→cu[j]?=us[j]?
 new:∀ (j:Nat) (x:Value) (s:ByteArray × List (Int × Int)),j < i→cu[j]?=some x→sc[j]?=some s→wr.ownsRow W.heap.size 73 2 x s.2.length (zap s.2)
 apart:∀ (j k:Nat) (x y:Value),j < i→k < i→j≠k→cu[j]?=some x→cu[k]?=some y→x.ownBlock=none∨x.ownBlock≠y.ownBlock
 bel:Below W.heap.size W wr
theorem OsSt.next {W wr w1:World} {g cap:Nat} {sc:List (ByteArray × List (Int × Int))} {us:List Value} {i:Nat} {cu:List Value} {v':Value} {s:ByteArray × List (Int × Int)} (h:OsSt W wr g cap sc us i cu) (hs:sc[i]?=some s) (hn:w1.ownsRow wr.heap.size 73 2 v' s.2.length (zap s.2)) (hb:Below wr.heap.size wr w1) :
  OsSt W (w1.setCell ⟨g,2*i+1,none⟩ v') g cap sc us (i+1) (cu.set i v'):=by
 have hi:=(List.getElem?_eq_some_iff.1 hs).1
 have hlen:=h.len
 have hsz:=h.bel.size
 have hgl:g < wr.heap.size:=zbE h.row g rfl
 have hgb:W.heap.size≤g:=zam h.row g rfl
 have hg1:wr.grownBy w1 none:=zaS hb
 have hq:=zad w1 g (2*i+1) v'
 have hvg:v'.ownBlock=none∨v'.ownBlock≠some g := .inr fun e =>by have:=zam hn g e;omega
 refine ⟨?_,by rw [List.length_set];exact hlen,fun j hj =>by rw [List.getElem?_set_ne (by omega)];exact h.old j (by omega), ?_, ?_, ?_⟩
 ·have r1:=own_set (zat h.row hg1 (.inr (by simp [Value.ownBlock]))) (2*i+1) (by omega) v'
  rw [encSc_set _ _ hlen] at r1
  exact r1
 ·intro j x t hj hx ht
  by_cases e:j=i
  ·subst e
   rw [List.getElem?_set_self (by omega)] at hx
   obtain rfl:=Option.some.inj hx
   obtain rfl:=Option.some.inj (hs.symm.trans ht)
   exact zat (zdk hn hsz) hq hvg
  ·rw [List.getElem?_set_ne (Ne.symm e)] at hx
   have o1:=h.new j x t (by omega) hx ht
   refine zat (zat o1 hg1 (by cases hxb:x.ownBlock with | none =>exact .inl rfl | some b =>exact .inr (by simp))) hq ?_
   exact zcA (zat o1 hg1 (by cases hxb:x.ownBlock with | none =>exact .inl rfl | some b =>exact .inr (by simp))) (zat h.row hg1 (.inr (by simp [Value.ownBlock]))) (by decide)
 ·intro j k x y hj hk hjk hx hy
  by_cases e:j=i
  ·subst e
   rw [List.getElem?_set_self (by omega)] at hx
   rw [List.getElem?_set_ne hjk] at hy
   obtain rfl:=Option.some.inj hx
   obtain ⟨t,ht⟩:∃ t,sc[k]?=some t:=⟨_,List.getElem?_eq_getElem (by omega)⟩
   cases hvb:v'.ownBlock with
   | none =>exact .inl rfl
   | some b =>
    refine .inr fun e2 =>?_
    have h3:=zam hn b hvb
    have h4:=zbE (h.new k y t (by omega) hy ht) b e2.symm
    omega
  ·rw [List.getElem?_set_ne (Ne.symm e)] at hx
   by_cases e3:k=i
   ·subst e3
    rw [List.getElem?_set_self (by omega)] at hy
    obtain rfl:=Option.some.inj hy
    obtain ⟨t,ht⟩:∃ t,sc[j]?=some t:=⟨_,List.getElem?_eq_getElem (by omega)⟩
    cases hxb:x.ownBlock with
    | none =>exact .inl rfl
    | some b =>
     refine .inr fun e2 =>?_
     have h3:=zam hn b e2.symm
     have h4:=zbE (h.new j x t (by omega) hx ht) b hxb
     omega
   ·rw [List.getElem?_set_ne (Ne.symm e3)] at hy
    exact h.apart j k x y (by omega) (by omega) hjk hx hy
 ·exact (h.bel.trans (hb.mono hsz)).setCell (p:=⟨g,2*i+1,none⟩) hgb v'
def OsPost (W w':World) (sc:List (ByteArray × List (Int × Int))) (v':Value):Prop := ∃ us',us'.length=sc.length∧w'.ownsRow W.heap.size 71 2 v' sc.length (zbQ sc us')∧(∀ (j:Nat) (x:Value) (s:ByteArray × List (Int × Int)),us'[j]?=some x→sc[j]?=some s→w'.ownsRow W.heap.size 73 2 x s.2.length (zap s.2))∧(∀ (j k:Nat) (x y:Value),j≠k→us'[j]?=some x→us'[k]?=some y→x.ownBlock=none∨x.ownBlock≠y.ownBlock)∧Below W.heap.size W w'
def cntI:Value→Nat
 | .int _ n =>n.toNat
 | _ =>0
set_option maxRecDepth 100000 in
set_option maxHeartbeats 4000000 in
theorem zgw (lo:Nat) (v:Value) (sc:List (ByteArray × List (Int × Int))) (us:List Value) (W:World) (h:W.ownsRow lo 71 2 v sc.length (zbQ sc us)) (hl:us.length=sc.length) (hn:sc.length≤1000000) (hu:∀ (j:Nat) (x:Value) (s:ByteArray × List (Int × Int)),us[j]?=some x→sc[j]?=some s→W.ownsRow lo 73 2 x s.2.length (zap s.2)∧s.2.length≤1000000) :
  Calls Tryz.prog 32 #[v] W fun e w' => ∃ v',e=.returned v'∧OsPost W w' sc v':=by
 have h1:∀ u ∈ zbQ sc us,u.oneCell'=true:=encSc_one sc us (fun u hm =>by
  obtain ⟨j,hj⟩:=List.mem_iff_getElem?.1 hm
  obtain ⟨s,hs⟩:∃ s,sc[j]?=some s:=⟨_,List.getElem?_eq_getElem (by have:=(List.getElem?_eq_some_iff.1 hj).1;omega)⟩
  obtain ⟨a,c,rfl⟩:=zab (hu j u s hj hs).1
  rfl)
 have HC:=kz (zgo lo sc.length v (zbQ sc us) W h (by omega) h1)
 go_enter Tryz.func32,Tryz.ntmps32
 go_wp2_with fail
 refine (oz HC).mono ?_
 rintro e w1 ⟨v1,rfl,hown,hb1⟩
 rcases Nat.eq_zero_or_pos sc.length with h0 | h0
 ·obtain rfl:=List.length_eq_zero_iff.1 h0
  obtain rfl:=List.length_eq_zero_iff.1 hl
  obtain ⟨a1,c1,hv1⟩:=zab hown
  have hv1:v1=.slice a1 0 c1:=hv1
  subst hv1
  have HOWN:=kz (And.intro hown hb1)
  clear hown hb1 h0 hu h1 h HC hl hn
  go_wp2_with fail
  refine wp_loop_rounds 1 ?_
  rw [rounds_succ]
  go_wp2_with fail
  go_ret
  exact ⟨_,rfl,[],rfl,(oz HOWN).1,fun j x s hx _ =>by simp at hx,fun j k x y _ hx _ =>by simp at hx,(oz HOWN).2⟩
 ·rcases hown.2 with ⟨_,h2⟩ | ⟨g,cap,cur,rfl,hgl,_⟩
  ·omega
  ·obtain ⟨N,hN⟩:∃ N,N=sc.length:=⟨_,rfl⟩
   have H0:Hz (OsSt W w1 g cap sc us 0 us):=kz ⟨hown,hl,fun _ _ =>rfl,fun j x s hj =>absurd hj (Nat.not_lt_zero j),fun j k x y hj =>absurd hj (Nat.not_lt_zero j),hb1⟩
   have HU:=kz hu
   have HL:=kz hl
   have HN:=kz hN
   rw [← hN]
   have hN1:N≤1000000:=by omega
   clear hown hb1 hu hl h HC h1 hN hn h0 hgl
   go_wp2_with fail
   go_loopw [3,8] (fun u3 u8 wr => ∃ (i:Nat) (cu:List Value),u8=.int .i64 (i:Int)∧i≤N∧Hz (OsSt W wr g cap sc us i cu)) (fun _ u8 _ =>N - cntI u8)
   case atStart =>exact ⟨0,us,rfl,Nat.zero_le _,H0⟩
   case round =>
    obtain ⟨i,cu,rfl,hi,HQ⟩:=hrel
    clear H0
    by_cases hlt:i < N
    ·have hlt2:(i:Int) < (N:Int):=by omega
     have hi0:(0:Int)≤(i:Int):=by omega
     obtain ⟨s,hs⟩:∃ s,sc[i]?=some s:=⟨_,List.getElem?_eq_getElem (by have:=oz HN;omega)⟩
     obtain ⟨x,hx⟩:∃ x,us[i]?=some x:=⟨_,List.getElem?_eq_getElem (by have:=oz HN;have:=oz HL;omega)⟩
     have hcx:cu[i]?=some x:=((oz HQ).old i (Nat.le_refl _)).trans hx
     obtain ⟨hox,hsl⟩:=oz HU i x s hx hs
     obtain ⟨xa,xc,rfl⟩:=zab hox
     have hox2:=zat hox (zaS (row:=none) (oz HQ).bel) (by cases hxb:Value.ownBlock (.slice xa s.2.length xc) with | none =>exact .inl rfl | some b =>exact .inr (by simp))
     have HC:=kz (zcE lo s.2.length (.slice xa s.2.length xc) (zap s.2) wr hox2 (by omega) (zbU s.2))
     have hcell:wr.cell? ⟨g,i*2+1,none⟩=some (.slice xa s.2.length xc):=by
      rcases zbc (oz HQ).row (fun e =>by have:=oz HN;omega) with ⟨e,_⟩ | ⟨g',c',e,_,_,_,hc⟩
      ·cases e
      ·injection e with e1
       injection e1 with e1
       injection e1 with e1
       subst e1
       have:=hc (2*i+1) _ (by rw [zeT _ _ (oz HQ).len];exact hcx)
       rwa [show ((⟨g,0,none⟩:Addr).add (2*i+1))=⟨g,i*2+1,none⟩ by simp [Addr.add];omega] at this
     have HS:=kz hs
     clear hox hox2 hsl hx hcx hs
     have HNEXT:=kz (fun (w2:World) (v2:Value) =>(oz HQ).next (w1:=w2) (v':=v2) (oz HS))
     have HROW:=kz (oz HQ).row
     go_wp2_with fail
     refine (oz HC).mono ?_
     rintro e w2 ⟨v2,rfl,hown2,hb2⟩
     obtain ⟨va2,vc2,rfl⟩:=zab hown2
     have hq2:=oz HNEXT w2 _ hown2 hb2
     have hrow2:=zat (oz HROW) (zaS (row:=none) hb2) (.inr (by simp [Value.ownBlock]))
     have hgl2:g < wr.heap.size:=zbE (oz HROW) g rfl
     have hcell2:w2.cell? ⟨g,i*2+1,none⟩=some (.slice xa s.2.length xc):=(hb2.cell (p:=⟨g,i*2+1,none⟩) hgl2).trans hcell
     have hfr2:w2.frozen? ⟨g,i*2+1,none⟩=false:=by
      rcases hrow2.2 with ⟨e,_⟩ | ⟨g',cap',cur',e,_,hg',_⟩
      ·cases e
      ·injection e with e1
       injection e1 with e1
       injection e1 with e1
       subst e1
       exact (show Blk w2 g cur' 71 from hg').frozen _
     rw [show 2*i+1=i*2+1 by omega] at hq2
     have HQ2:=kz hq2
     clear hq2 hrow2 hown2 hb2 HNEXT HROW HQ hgl2
     go_wp2_with fail
     go_roundw
     case rel =>exact ⟨i+1,_,rfl,hlt,HQ2⟩
     case measure =>show N - ((i:Int)+1).toNat < N - (i:Int).toNat;omega
    ·have hle:¬ ((i:Int) < (N:Int)):=by omega
     have hiN:i=N:=by omega
     go_wp2_with fail
     go_ret
     exact ⟨_,rfl,cu,by have:=(oz HQ).len;exact this,by rw [oz HN];exact (oz HQ).row,fun j y s hy hs =>(oz HQ).new j y s (by have:=(List.getElem?_eq_some_iff.1 hs).1;have:=oz HN;omega) hy hs,fun j k y z hjk hy hz =>(oz HQ).apart j k y z (by have:=(List.getElem?_eq_some_iff.1 hy).1;have:=(oz HQ).len;have:=oz HN;omega) (by have:=(List.getElem?_eq_some_iff.1 hz).1;have:=(oz HQ).len;have:=oz HN;omega) hjk hy hz,(oz HQ).bel⟩
def zi2 (p:Pn):Prop:=p.t.length≤264000
theorem put1_ok {p:Pn} (h:zi2 p) (w:ByteArray) (hw:w.size≤1000):zi2 (put1 p w):=by
 unfold put1
 cases hE:zbZ p with
 | true =>rw [if_pos rfl];exact h
 | false =>
  rw [if_neg (by decide)]
  have h1:p.t.length≤262144:=by
   unfold zbZ at hE
   rw [Bool.or_eq_false_iff] at hE
   have:=of_decide_eq_false hE.2
   omega
  show ((if p.bg then p.t++[32] else p.t)++w.data.toList).length≤264000
  rw [List.length_append,show w.data.toList.length=w.size from rfl]
  split <;> (try rw [List.length_append]) <;> (try simp only [List.length_singleton]) <;> omega
theorem putV_ok {p:Pn} (h:zi2 p) (ws:List ByteArray) (hw:∀ w ∈ ws,w.size≤1000):zi2 (za8 p ws):=by
 induction ws generalizing p with
 | nil =>exact h
 | cons w ws ih =>exact ih (put1_ok h w (hw w List.mem_cons_self)) (fun x hx =>hw x (List.mem_cons_of_mem _ hx))
theorem line_ok {p:Pn} (h:zi2 p):zi2 (zfb p):=by
 show (if zbZ p then p.t else p.t++[10]).length≤264000
 cases hE:zbZ p with
 | true =>rw [if_pos rfl];exact h
 | false =>
  rw [if_neg (by decide)]
  have h1:p.t.length≤262144:=by
   unfold zbZ at hE
   rw [Bool.or_eq_false_iff] at hE
   have:=of_decide_eq_false hE.2
   omega
  rw [List.length_append,List.length_singleton]
  omega
theorem put1_wr (p:Pn) (w:ByteArray):(put1 p w).wr=p.wr:=by
 unfold put1
 split <;> rfl
theorem putV_wr (p:Pn) (ws:List ByteArray):(za8 p ws).wr=p.wr:=by
 induction ws generalizing p with
 | nil =>rfl
 | cons w ws ih =>exact (ih (put1 p w)).trans (put1_wr p w)
theorem putV_take (p:Pn) (ws:List ByteArray) (j:Nat) (x:ByteArray) (hx:ws[j]?=some x):za8 p (ws.take (j+1))=put1 (za8 p (ws.take j)) x:=by
 have hj:=(List.getElem?_eq_some_iff.1 hx).1
 have he:ws.take (j+1)=ws.take j++[x]:=by
  rw [List.take_add_one,hx]
  rfl
 rw [he]
 unfold za8
 rw [List.foldl_append]
 rfl
theorem putV_stop (p:Pn) (ws:List ByteArray) (j:Nat) (h:zbZ (za8 p (ws.take j))=true):za8 p ws=za8 p (ws.take j):=by
 have:za8 p ws=za8 (za8 p (ws.take j)) (ws.drop j):=by
  unfold za8
  rw [← List.foldl_append,List.take_append_drop]
 rw [this,zgQ h]
theorem not_ended {p:Pn} (h:zbZ p=false):p.wr=false∧p.t.length≤262144:=by
 unfold zbZ at h
 rw [Bool.or_eq_false_iff] at h
 have:=of_decide_eq_false h.2
 exact ⟨h.1,by omega⟩
set_option maxRecDepth 100000 in
set_option maxHeartbeats 4000000 in
theorem pn_put (lo N g:Nat) (p:Pn) (ws:List ByteArray) (hp:zi2 p) (hw:∀ w ∈ ws,p.wr=true∨w.size≤1000) (hn:ws.length≤100) (hgN:g≠N) (W:World) (h:zkU W lo N p) (hb:Blk W g (ws.map Value.string).toArray 9) :
  Calls Tryz.prog 73 #[.pointer (some ⟨N,0,none⟩),.slice (some ⟨g,0,none⟩) ws.length ws.length] W fun e w' =>(∃ r,e=.returned r)∧zkU w' lo N (za8 p ws)∧PF lo N W w':=by
 obtain ⟨n,hN⟩:∃ n,n=ws.length:=⟨_,rfl⟩
 rw [← hN]
 have hn1:n≤100:=by omega
 have H:Hz (zkU W lo N (za8 p (ws.take 0))∧zi2 (za8 p (ws.take 0))∧PF lo N W W):=kz ⟨h,hp,PF.refl _ _ _⟩
 have HB:=kz hb
 have HN:=kz hN
 have HW:=kz hw
 clear h hb hN hw hp hn
 go_enter Tryz.func73,Tryz.ntmps73
 go_wp2_with fail
 go_loopw [5,8] (fun _ u8 wr => ∃ (j:Nat),u8=.int .i64 (j:Int)∧j≤n∧Hz (zkU wr lo N (za8 p (ws.take j))∧zi2 (za8 p (ws.take j))∧PF lo N W wr)) (fun _ u8 _ =>n - cntI u8)
 case atStart =>exact ⟨0,rfl,Nat.zero_le _,H⟩
 case round =>
  obtain ⟨j,rfl,hj,HQ⟩:=hrel
  clear H
  by_cases hlt:j < n
  ·have hlt2:(j:Int) < (n:Int):=by omega
   have hj0:(0:Int)≤(j:Int):=by omega
   obtain ⟨x,hx⟩:∃ x,ws[j]?=some x:=⟨_,List.getElem?_eq_getElem (by have:=oz HN;omega)⟩
   have hcell:wr.cell? ⟨g,j,none⟩=some (.string x):=by
    have b:=(oz HQ).2.2.kp g _ _ hgN (by decide) (oz HB)
    rw [b.cell j,List.getElem?_toArray,List.getElem?_map,hx]
    rfl
   have HX:=kz (putV_take p ws j x hx)
   have HXW:=kz (oz HW x (List.mem_of_getElem? hx))
   have HST:=kz (putV_stop p ws j)
   have HWR:=kz (putV_wr p (ws.take j))
   clear hx
   obtain ⟨q,hq⟩:∃ q,q=za8 p (ws.take j):=⟨_,rfl⟩
   rw [← hq] at HQ HX HST HWR
   clear hq
   have hok:q.t.length≤264000:=(oz HQ).2.1
   have HEn:=kz (zkc lo N q (by omega) wr (oz HQ).1)
   cases hE:zbZ q with
   | true =>
    rw [hE] at HEn
    go_wp2_with fail
    refine (oz HEn).mono ?_
    rintro e w1 ⟨rfl,hw1⟩
    rw [hw1]
    clear hw1
    go_wp2_with fail
    exact bodyPost_ret (results_none rfl _ _ _) rfl ⟨⟨_,rfl⟩,by rw [oz HST hE];exact (oz HQ).1,(oz HQ).2.2⟩
   | false =>
    rw [hE] at HEn
    have hne:=not_ended hE
    have hxs:x.size≤1000:=by
     rcases oz HXW with h1 | h1
     ·rw [← oz HWR] at h1
      rw [h1] at hne
      exact absurd hne.1 (by decide)
     ·exact h1
    have hqt:q.t.length≤262144:=hne.2
    have HOK:=kz (put1_ok (oz HQ).2.1 x hxs)
    have hp1:put1 q x=⟨(if q.bg then q.t++[32] else q.t)++x.data.toList,true,q.wr⟩:=if_neg (by rw [hE];decide)
    obtain ⟨qt,qb,qw⟩:=q
    dsimp only at hqt hp1
    obtain ⟨qa,va,hba,hpa,hoa⟩:=(oz HQ).1.blk
    have cb:=hba.cell 2
    clear hba hpa hoa hne
    have HP1:=kz hp1
    clear hp1 hE
    cases qb with
    | true =>
     have HWB:=kz (pn_byte lo N qt true qw 32 (by omega) wr (oz HQ).1)
     go_wp2_with fail
     refine (oz HEn).mono ?_
     rintro e w1 ⟨rfl,hw1⟩
     rw [hw1]
     clear hw1
     go_wp2_with fail
     refine (show Calls Tryz.prog 121 #[.pointer (some ⟨N,0,none⟩),.int .u8 32] wr _ from oz HWB).mono ?_
     rintro e w2 ⟨⟨r,rfl⟩,hp2,hf2⟩
     have HS2:=kz (zip lo N (qt++[32]) true qw x (by rw [List.length_append,List.length_singleton];omega) w2 hp2)
     have HF2:=kz hf2
     clear hp2 hf2
     go_wp2_with fail
     refine (oz HS2).mono ?_
     rintro e w3 ⟨⟨r,rfl⟩,hp3,hf3⟩
     obtain ⟨q3,v3,hb3,_,_⟩:=hp3.blk
     have c2:=hb3.cell 2
     have f2:=hb3.frozen 2
     have hbe:=hp3.begun true
     have HQ4:Hz (zkU (w3.setCell ⟨N,2,none⟩ (.bool true)) lo N (za8 p (ws.take (j+1)))∧zi2 (za8 p (ws.take (j+1)))∧PF lo N W (w3.setCell ⟨N,2,none⟩ (.bool true))):=kz (by
      rw [oz HX]
      refine ⟨?_,oz HOK,(((oz HQ).2.2.trans (oz HF2)).trans hf3).trans hbe.2⟩
      rw [oz HP1]
      exact hbe.1)
     clear hb3 hbe hp3 hf3
     go_wp2_with fail
     go_roundw
     case rel =>exact ⟨j+1,rfl,hlt,HQ4⟩
     case measure =>show n - ((j:Int)+1).toNat < n - (j:Int).toNat;omega
    | false =>
     have HS2:=kz (zip lo N qt false qw x (by omega) wr (oz HQ).1)
     go_wp2_with fail
     refine (oz HEn).mono ?_
     rintro e w1 ⟨rfl,hw1⟩
     rw [hw1]
     clear hw1
     go_wp2_with fail
     refine (oz HS2).mono ?_
     rintro e w3 ⟨⟨r,rfl⟩,hp3,hf3⟩
     obtain ⟨q3,v3,hb3,_,_⟩:=hp3.blk
     have c2:=hb3.cell 2
     have f2:=hb3.frozen 2
     have hbe:=hp3.begun true
     have HQ4:Hz (zkU (w3.setCell ⟨N,2,none⟩ (.bool true)) lo N (za8 p (ws.take (j+1)))∧zi2 (za8 p (ws.take (j+1)))∧PF lo N W (w3.setCell ⟨N,2,none⟩ (.bool true))):=kz (by
      rw [oz HX]
      refine ⟨?_,oz HOK,((oz HQ).2.2.trans hf3).trans hbe.2⟩
      rw [oz HP1]
      exact hbe.1)
     clear hb3 hbe hp3 hf3
     go_wp2_with fail
     go_roundw
     case rel =>exact ⟨j+1,rfl,hlt,HQ4⟩
     case measure =>show n - ((j:Int)+1).toNat < n - (j:Int).toNat;omega
  ·have hle:¬ ((j:Int) < (n:Int)):=by omega
   have hjn:j=ws.length:=by have:=oz HN;omega
   have HJ:=kz hjn
   clear hjn
   go_wp2_with fail
   go_end0
   exact ⟨⟨_,rfl⟩,by have:=(oz HQ).1;rw [oz HJ,List.take_length] at this;exact this,(oz HQ).2.2⟩
theorem putV_ok2 {p:Pn} (h:zi2 p) (ws:List ByteArray) (hw:∀ w ∈ ws,p.wr=true∨w.size≤1000):zi2 (za8 p ws):=by
 cases hwr:p.wr with
 | true =>rw [zgQ (by unfold zbZ;rw [hwr];rfl)];exact h
 | false =>exact putV_ok h ws (fun w hm =>by rcases hw w hm with e | e;rw [hwr] at e;cases e;exact e)
structure PS (W0 W:World) (lo N:Nat) (p:Pn):Prop where
 here:zkU W lo N p
 ok:zi2 p
 pf:PF lo N W0 W
 tab:W.cell? ⟨11,15,none⟩=some (.int .u8 4)
 low:11 < lo
 off:11≠N
theorem Fr.cell {lo R Tx:Nat} {W W':World} (h:Fr lo R Tx W W') {b i:Nat} {v:Value} (hb:b < lo) (h1:b≠R) (h2:b≠Tx) (hc:W.cell? ⟨b,i,none⟩=some v):W'.cell? ⟨b,i,none⟩=some v:=by
 have e:=h.block b hb h1 h2
 have:W'.cell? ⟨b,i,none⟩=W.cell? ⟨b,i,none⟩:=by
  unfold World.cell?
  rw [e]
 rw [this]
 exact hc
theorem PS.step {W0 W W':World} {lo N:Nat} {p p':Pn} (h:PS W0 W lo N p) (h1:zkU W' lo N p') (h2:zi2 p') (h3:PF lo N W W'):PS W0 W' lo N p':=⟨h1,h2,h.pf.trans h3,h3.fr.cell h.low h.off h.off h.tab,h.low,h.off⟩
theorem PrAt.fresh {W W':World} {lo N:Nat} {t:List UInt8} {bg wr:Bool} (h:PrAt W lo N t bg wr) (hg:W.grownBy W' Option.none):PrAt W' lo N t bg wr:=by
 obtain ⟨p,v,hb,hp,ho⟩:=h.blk
 exact ⟨⟨p,v,hb.kept hg (by simp),hp,zat ho hg (by cases v.ownBlock with | none =>exact .inl rfl | some b =>exact .inr (by simp))⟩,h.lt,Nat.le_trans h.lw hg.size⟩
theorem PS.fresh {W0 W W':World} {lo N:Nat} {p:Pn} (h:PS W0 W lo N p) (hb:Below W.heap.size W W'):PS W0 W' lo N p:=h.step (PrAt.fresh h.here (zaF hb)) h.ok (PF.below h.here.lw hb)
theorem PS.alloc {W0 W:World} {lo N:Nat} {p:Pn} (h:PS W0 W lo N p) (o:Obj):PS W0 (W.alloc o) lo N p:=h.fresh ((Below.refl _ W).alloc (Nat.le_refl _) o)
theorem zbY (lo N:Nat) (p:Pn) (ws:List ByteArray) (hw:∀ w ∈ ws,p.wr=true∨w.size≤1000) (hn:ws.length≤100) (W0 W:World) (h:PS W0 W lo N p) :
  Calls Tryz.prog 73 #[.pointer (some ⟨N,0,none⟩),.slice (some ⟨W.heap.size,0,none⟩) ws.length ws.length] (W.alloc (.cells (ws.map Value.string).toArray 9)) fun e w' =>(∃ r,e=.returned r)∧PS W0 w' lo N (za8 p ws)∧PF lo N W w':=by
 have hlt:=h.here.lt
 have hlw:=h.here.lw
 refine (pn_put lo N W.heap.size p ws h.ok hw hn (by omega) _ (h.alloc _).here (Blk.new W _ _)).mono ?_
 rintro e w' ⟨h1,h2,h3⟩
 have hpa:PF lo N W (W.alloc (.cells (ws.map Value.string).toArray 9)):=PF.below hlw ((Below.refl _ W).alloc (Nat.le_refl _) _)
 exact ⟨h1,h.step h2 (putV_ok2 h.ok ws hw) (hpa.trans h3),hpa.trans h3⟩
theorem zfa (lo N:Nat) (p:Pn) (W0 W:World) (h:PS W0 W lo N p) :
  Calls Tryz.prog 77 #[.pointer (some ⟨N,0,none⟩)] W fun e w' =>(∃ r,e=.returned r)∧PS W0 w' lo N (zfb p)∧PF lo N W w':=by
 refine (pn_line lo N p (by have:=h.ok;unfold zi2 at this;omega) W h.here).mono ?_
 rintro e w' ⟨h1,h2,h3⟩
 exact ⟨h1,h.step h2 (line_ok h.ok) h3,h3⟩
theorem ze9 (lo N:Nat) (p:Pn) (ok:Bool) (W0 W:World) (h:PS W0 W lo N p) :
  Calls Tryz.prog 71 #[.pointer (some ⟨N,0,none⟩),.bool ok] W fun e w' =>(∃ r,e=.returned r)∧PS W0 w' lo N (zbV p ok)∧PF lo N W w':=by
 refine (pn_need lo N p ok W h.here).mono ?_
 rintro e w' ⟨h1,h2,h3⟩
 exact ⟨h1,h.step h2 h.ok h3,h3⟩
def zaR (p:Pn) (r:Int):Pn:=za8 (zbV p ((zct r).2 == 0)) [(zct r).1]
theorem zk1 (r:Int):(zct r).1.size≤1000:=by
 unfold zct
 split
 ·show (⟨#[]⟩:ByteArray).size≤1000;decide
 ·rename_i hw
  split
  ·have:=encode_size_le r
   show ((⟨#[39]⟩:ByteArray)++Utf8.encode r++⟨#[39]⟩).size≤1000
   rw [ByteArray.size_append,ByteArray.size_append]
   show 1+_+1≤1000
   omega
  ·have hb:=zcf r hw
   have h1:=zhh r.toNat (by omega)
   have h2:=zhy (4 - (upS r.toNat).size) (by omega)
   show ((⟨#[85,43]⟩:ByteArray)++⟨(Lib.repeatL [48] (4 - (upS r.toNat).size)).toArray⟩++upS r.toNat).size≤1000
   rw [ByteArray.size_append,ByteArray.size_append,h2]
   show 2+_+_≤1000
   omega
set_option maxRecDepth 100000 in
set_option maxHeartbeats 4000000 in
theorem zcN (lo N:Nat) (p:Pn) (r:Int) (W0 W:World) (h:PS W0 W lo N p) :
  Calls Tryz.prog 75 #[.pointer (some ⟨N,0,none⟩),.int .i32 r] W fun e w' =>(∃ r,e=.returned r)∧PS W0 w' lo N (zaR p r)∧PF lo N W w':=by
 have H:=kz h
 have hts:=zk1 r
 have HT:=kz (text_scan r W h.tab)
 have HV:Hz (zaR p r=za8 (zbV p ((zct r).2 == 0)) [(zct r).1]):=kz rfl
 generalize zaR p r=V at *
 generalize zct r=tv at *
 obtain ⟨tt,te⟩:=tv
 dsimp only at hts HT HV
 clear h
 go_enter Tryz.func75,Tryz.ntmps75
 go_wp2_with fail
 refine (oz HT).mono ?_
 rintro e w1 ⟨rfl,hb1⟩
 have H1:=kz ((oz H).fresh hb1)
 have HF1:=kz (PF.below (N:=N) (oz H).here.lw hb1)
 clear hb1 HT H
 have HNd:=kz (ze9 lo N p (te == 0) W0 w1 (oz H1))
 go_wp2_with fail
 refine (oz HNd).mono ?_
 rintro e w2 ⟨⟨r2,rfl⟩,h2,hf2⟩
 have HPt:=kz (zbY lo N (zbV p (te == 0)) [tt] (fun w hw =>.inr (by rw [List.mem_singleton.1 hw];exact hts)) (by simp) W0 w2 h2)
 have HF2:=kz hf2
 clear h2 hf2 HNd
 go_wp2_with fail
 refine (show Calls Tryz.prog 73 #[.pointer (some ⟨N,0,none⟩),.slice (some ⟨w2.heap.size,0,none⟩) 1 1] (w2.alloc (.cells #[.string tt] 9)) _ from oz HPt).mono ?_
 rintro e w3 ⟨⟨r3,rfl⟩,h3,hf3⟩
 have HF3:=kz (And.intro h3 hf3)
 clear h3 hf3
 go_wp2_with fail
 go_end0
 exact ⟨⟨_,rfl⟩,by rw [oz HV];exact (oz HF3).1,((oz HF1).trans (oz HF2)).trans (oz HF3).2⟩
def RowC (W:World) (hi:Nat) (a:Option Addr) (xs:List Value):Prop:=0 < xs.length→∃ g o,a=some ⟨g,o,none⟩∧g < hi∧∀ j u,xs[j]?=some u→W.cell? ⟨g,o+j,none⟩=some u
theorem RowC.kept {W W':World} {lo N:Nat} {a:Option Addr} {xs:List Value} (h:RowC W N a xs) (hl:N < lo) (hf:Fr lo N N W W'):RowC W' N a xs:=by
 intro h0
 obtain ⟨g,o,h1,h2,h3⟩:=h h0
 exact ⟨g,o,h1,h2,fun j u hu =>hf.cell (by omega) (by omega) (by omega) (h3 j u hu)⟩
theorem zd3 {α β : Type} (f : β→α→β) (b : β) (l:List α) (j:Nat) (x : α) (hx:l[j]?=some x):(l.take (j+1)).foldl f b=f ((l.take j).foldl f b) x:=by
 have he:l.take (j+1)=l.take j++[x]:=by
  rw [List.take_add_one,hx]
  rfl
 rw [he,List.foldl_append]
 rfl
theorem zkG (l:List (Int × Int)) (j:Nat) (x:Int × Int) (h:l[j]?=some x):(zap l)[j*2]?=some (.int .i32 x.1)∧(zap l)[j*2+1]?=some (.int .i32 x.2):=by
 induction l generalizing j with
 | nil =>simp at h
 | cons y l ih =>cases j with
  | zero =>obtain rfl:=Option.some.inj h;exact ⟨rfl,rfl⟩
  | succ j =>have:=ih j (by simpa using h);rw [show (j+1)*2=j*2+1+1 by omega];exact this
def zho (p:Pn) (s:Int × Int):Pn:=if s.2=s.1 then zaR p s.1 else zaR (za8 (zaR p s.1) [⟨#[46,46]⟩]) s.2
def zgF (p:Pn) (l:List (Int × Int)):Pn:=zfb (za8 (l.foldl zho (za8 p [⟨#[123]⟩])) [⟨#[125]⟩])
set_option maxRecDepth 100000 in
set_option maxHeartbeats 4000000 in
theorem zka (lo N:Nat) (p:Pn) (a:Option Addr) (c:Nat) (l:List (Int × Int)) (hn:l.length≤1000000) (W0 W:World) (h:PS W0 W lo N p) (hr:RowC W N a (zap l)) :
  Calls Tryz.prog 74 #[.pointer (some ⟨N,0,none⟩),.slice a l.length c] W fun e w' =>(∃ r,e=.returned r)∧PS W0 w' lo N (zgF p l)∧PF lo N W w':=by
 obtain ⟨n,hN⟩:∃ n,n=l.length:=⟨_,rfl⟩
 rw [← hN]
 have HN:=kz hN
 have hn1:n≤1000000:=by omega
 have HP0:=kz (zbY lo N p [⟨#[123]⟩] (fun w hw =>.inr (by rw [List.mem_singleton.1 hw];decide)) (by simp) W0 W h)
 have HR:=kz hr
 have hlt:=h.here.lt
 clear hN hn h hr
 go_enter Tryz.func74,Tryz.ntmps74
 go_wp2_with fail
 refine (show Calls Tryz.prog 73 #[.pointer (some ⟨N,0,none⟩),.slice (some ⟨W.heap.size,0,none⟩) 1 1] (W.alloc (.cells #[.string ⟨#[123]⟩] 9)) _ from oz HP0).mono ?_
 rintro e w1 ⟨⟨r,rfl⟩,h1,hf1⟩
 have H1:=kz (And.intro h1 hf1)
 clear h1 hf1 HP0
 obtain ⟨p1,hp1⟩:∃ p1,p1=za8 p [⟨#[123]⟩]:=⟨_,rfl⟩
 rw [← hp1] at H1
 have HS:Hz (zgF p l=zfb (za8 (l.foldl zho p1) [⟨#[125]⟩])):=kz (by rw [hp1];rfl)
 clear hp1
 have H2:Hz (PS W0 w1 lo N ((l.take 0).foldl zho p1)∧PF lo N W w1):=H1
 go_wp2_with fail
 go_loopw [5,11] (fun _ u11 wr => ∃ (j:Nat),u11=.int .i64 (j:Int)∧j≤n∧Hz (PS W0 wr lo N ((l.take j).foldl zho p1)∧PF lo N W wr)) (fun _ u11 _ =>n - cntI u11)
 case atStart =>exact ⟨0,rfl,Nat.zero_le _,H2⟩
 case round =>
  obtain ⟨j,rfl,hj,HQ⟩:=hrel
  clear H1 H2
  by_cases hjlt:j < n
  ·have hlt2:(j:Int) < (n:Int):=by omega
   have hj0:(0:Int)≤(j:Int):=by omega
   obtain ⟨x,hx⟩:∃ x,l[j]?=some x:=⟨_,List.getElem?_eq_getElem (by have:=oz HN;omega)⟩
   obtain ⟨g,o,rfl,hg,hcs⟩:=((oz HR).kept hlt (oz HQ).2.fr) (by rw [zbp];have:=oz HN;omega)
   have hat:=zkG l j x hx
   have d0:wr.cell? ⟨g,o+j*2,none⟩=some (.int .i32 x.1):=hcs _ _ hat.1
   have d1:wr.cell? ⟨g,o+j*2+1,none⟩=some (.int .i32 x.2):=by rw [Nat.add_assoc];exact hcs _ _ hat.2
   have HX:=kz (zd3 zho p1 l j x hx)
   clear hcs hat hx
   obtain ⟨q,hq⟩:∃ q,q=(l.take j).foldl zho p1:=⟨_,rfl⟩
   rw [← hq] at HQ HX
   clear hq
   obtain ⟨x1,x2⟩:=x
   dsimp only at d0 d1
   have HA:=kz ((oz HQ).1.alloc (.cells #[.int .i32 x1,.int .i32 x2] 73))
   have HBx:=kz (Blk.new wr #[.int .i32 x1,.int .i32 x2] 73)
   have hNs:wr.heap.size≠N:=by have:=(oz HQ).1.here.lw;omega
   have HFA:Hz (PF lo N wr (wr.alloc (.cells #[.int .i32 x1,.int .i32 x2] 73))):=kz (PF.below (oz HQ).1.here.lw ((Below.refl _ wr).alloc (Nat.le_refl _) _))
   have HR1:=kz (zcN lo N q x1 W0 _ (oz HA))
   go_wp2_with fail
   refine (oz HR1).mono ?_
   rintro e w2 ⟨⟨r2,rfl⟩,h2,hf2⟩
   have b2:=hf2.kp _ _ _ hNs (by decide) (oz HBx)
   have k0:=b2.cell 0
   have k1:=b2.cell 1
   have HB2:=kz b2
   have H2:=kz (And.intro h2 ((oz HFA).trans hf2))
   clear b2 h2 hf2 HR1 HA HBx HFA d0 d1
   by_cases hne:x2=x1
   ·have hne2:(x2 != x1)=false:=by rw [hne];simp
    have HE:Hz (zho q (x1,x2)=zaR q x1):=kz (if_pos hne)
    clear hne
    go_wp2_with fail
    go_roundw
    case rel =>exact ⟨j+1,rfl,hjlt,kz (by rw [oz HX,oz HE];exact ⟨(oz H2).1,(oz HQ).2.trans (oz H2).2⟩)⟩
    case measure =>show n - ((j:Int)+1).toNat < n - (j:Int).toNat;omega
   ·have hne2:(x2 != x1)=true:=by simp [bne_iff_ne,hne]
    have HE:Hz (zho q (x1,x2)=zaR (za8 (zaR q x1) [⟨#[46,46]⟩]) x2):=kz (if_neg hne)
    clear hne
    have HP3:=kz (zbY lo N (zaR q x1) [⟨#[46,46]⟩] (fun w hw =>.inr (by rw [List.mem_singleton.1 hw];decide)) (by simp) W0 w2 (oz H2).1)
    go_wp2_with fail
    refine (show Calls Tryz.prog 73 #[.pointer (some ⟨N,0,none⟩),.slice (some ⟨w2.heap.size,0,none⟩) 1 1] (w2.alloc (.cells #[.string ⟨#[46,46]⟩] 9)) _ from oz HP3).mono ?_
    rintro e w3 ⟨⟨r3,rfl⟩,h3,hf3⟩
    have b3:=hf3.kp _ _ _ hNs (by decide) (oz HB2)
    have k3:=b3.cell 1
    have H3:=kz (And.intro h3 ((oz H2).2.trans hf3))
    have HR4:=kz (zcN lo N (za8 (zaR q x1) [⟨#[46,46]⟩]) x2 W0 w3 h3)
    clear b3 h3 hf3 HP3 k0 k1
    go_wp2_with fail
    refine (oz HR4).mono ?_
    rintro e w4 ⟨⟨r4,rfl⟩,h4,hf4⟩
    have H4:=kz (And.intro h4 ((oz H3).2.trans hf4))
    clear h4 hf4 HR4
    go_wp2_with fail
    go_roundw
    case rel =>exact ⟨j+1,rfl,hjlt,kz (by rw [oz HX,oz HE];exact ⟨(oz H4).1,(oz HQ).2.trans (oz H4).2⟩)⟩
    case measure =>show n - ((j:Int)+1).toNat < n - (j:Int).toNat;omega
  ·have hle:¬ ((j:Int) < (n:Int)):=by omega
   have HJ:Hz (l.take j=l):=kz (by rw [show j=l.length by have:=oz HN;omega];exact List.take_length)
   rw [oz HJ] at HQ
   generalize l.foldl zho p1=q at *
   have HP3:=kz (zbY lo N q [⟨#[125]⟩] (fun w hw =>.inr (by rw [List.mem_singleton.1 hw];decide)) (by simp) W0 wr (oz HQ).1)
   go_wp2_with fail
   refine (show Calls Tryz.prog 73 #[.pointer (some ⟨N,0,none⟩),.slice (some ⟨wr.heap.size,0,none⟩) 1 1] (wr.alloc (.cells #[.string ⟨#[125]⟩] 9)) _ from oz HP3).mono ?_
   rintro e w3 ⟨⟨r3,rfl⟩,h3,hf3⟩
   have HL:=kz (zfa lo N _ W0 w3 h3)
   have HF3:=kz hf3
   clear h3 hf3 HP3
   go_wp2_with fail
   refine (oz HL).mono ?_
   rintro e w4 ⟨⟨r4,rfl⟩,h4,hf4⟩
   have H4:=kz (And.intro h4 (((oz HQ).2.trans (oz HF3)).trans hf4))
   clear h4 hf4
   go_wp2_with fail
   go_end0
   exact ⟨⟨_,rfl⟩,by rw [oz HS];exact (oz H4).1,(oz H4).2⟩
end Go.Proofs.YtmdgejgokoadlaaGreatDoor
