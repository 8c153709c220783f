/- Texts of this claim, one behind the other. -/
import Derived.Test.YtmemedpoaocdkaaGreatM3
import Derived.Test.YtmemedpoaocdkaaGreatM13
import Derived.Deep.AppendLies
import Derived.Deep.RegionLaw
import Derived.Deep.RegionWith
import Derived.Test.YtmemedpoaocdkaaGreatM5
/- slices.IndexFunc and ContainsFunc over a list of spans, by the two functions that Of hands them. -/
namespace Go.Proofs.YtmemedpoaocdkaaGreat
open Go.RowKit Go.Shelf
set_option linter.unusedVariables false

def zdN (p:Int × Int→Bool) (zs:List (Int × Int)):Int:=match (List.range zs.length).find? (fun j =>p (zs.getD j (0,0))) with
 | some j =>(j:Int)
 | none => -1
theorem zhp (p:Int × Int→Bool) (zs:List (Int × Int)) (k:Nat) (hk:k < zs.length) (h0:∀ i,i < k→p (zs.getD i (0,0))=false) (h1:p (zs.getD k (0,0))=true):zdN p zs=k:=by
 have:(List.range zs.length).find? (fun j =>p (zs.getD j (0,0)))=some k:=by
  rw [List.find?_range_eq_some]
  exact ⟨h1,List.mem_range.2 hk,fun j hj =>by simp only [h0 j hj];rfl⟩
 unfold zdN
 rw [this]
theorem zeV (p:Int × Int→Bool) (zs:List (Int × Int)) (h0:∀ i,i < zs.length→p (zs.getD i (0,0))=false):zdN p zs = -1:=by
 have:(List.range zs.length).find? (fun j =>p (zs.getD j (0,0)))=none:=by
  rw [List.find?_range_eq_none]
  intro j hj
  simp only [h0 j hj];rfl
 unfold zdN
 rw [this]
theorem zhq (p:Int × Int→Bool) (zs:List (Int × Int)):decide (0≤zdN p zs)=zs.any p:=by
 cases h:zs.any p with
 | true =>
  unfold zdN
  cases hf:(List.range zs.length).find? (fun j =>p (zs.getD j (0,0))) with
  | some j =>simp
  | none =>
   exfalso
   rw [List.find?_range_eq_none] at hf
   obtain ⟨x,hx,hp⟩:=List.any_eq_true.1 h
   obtain ⟨i,hi,rfl⟩:=List.mem_iff_getElem.1 hx
   have:=hf i hi
   simp [List.getD,hi,hp] at this
 | false =>
  rw [zeV p zs]
  ·decide
  ·intro i hi
   have:=List.any_eq_false.1 h zs[i] (List.getElem_mem hi)
   simpa [List.getD,hi] using this

set_option maxRecDepth 100000 in
set_option maxHeartbeats 4000000 in
theorem ziJ (a:Option Addr) (cap:Nat) (zs:List (Int × Int)) (hz:zs.length≤1073741824) (w:World) (hr:RowP w a zs) :
  Calls Tryz.prog 199 #[.slice a zs.length cap,.func (.func 182) #[] #[]] w fun e w' =>e=.returned (.int .i64 (zdN (fun x => !za8 x) zs))∧Below w.heap.size w w':=by
 have HR:=kz hr
 have hzi:(zs.length:Int)≤1073741824:=by omega
 clear hr
 go_enter Tryz.func199,Tryz.ntmps199
 go_wp2
 go_loopw [8] (fun i wr => ∃ k:Nat,i=.int .i64 k∧k≤zs.length∧Hz (∀ i,i < k→(fun x => !za8 x) (zs.getD i (0,0))=false)∧Hz (Below w.heap.size w wr)) (fun i _ =>zs.length - (intOf i).toNat)
 case atStart =>exact ⟨0,rfl,by omega,kz (fun i hi =>by omega),kz (Below.refl _ _)⟩
 case round =>
  obtain ⟨k,rfl,hk,HZ,HB⟩:=hrel
  by_cases hkn:k < zs.length
  ·have hk1:(k:Int) < (zs.length:Int):=by omega
   have hk2:((k:Nat):Int).toNat=k:=by omega
   obtain ⟨x,hx⟩:∃ x,zs[k]?=some x:=⟨_,List.getElem?_eq_getElem hkn⟩
   have hgd:zs.getD k (0,0)=x:=by simp [List.getD,hx]
   obtain ⟨g,o,rfl,hg,hc⟩:=oz HR (by omega)
   have c0:=((oz HB).cell (p:=⟨g,o+k*2,none⟩) hg).trans (hc k x hx).1
   have c1:=((oz HB).cell (p:=⟨g,o+k*2+1,none⟩) hg).trans (hc k x hx).2
   have HN:=kz (fun w =>zhk x w)
   have HH:=kz (fun h =>zhp (fun x => !za8 x) zs k hkn (oz HZ) h)
   rw [hgd] at HH
   have HG:=kz hgd
   clear hc hx hgd
   cases hp:(!za8 x) with
   | true =>
    have HH1:=kz (oz HH hp)
    rw [hp] at HN
    obtain ⟨lo,hi⟩:=x
    simp only at c0 c1
    clear hp
    go_wp2_with fail
    refine (oz HN _).mono ?_
    rintro e w2 ⟨rfl,hb⟩
    have HB2:=kz ((oz HB).trans (hb.mono (oz HB).size))
    clear hb
    go_wp2
    go_ret
    exact ⟨by rw [oz HH1];rfl,oz HB2⟩
   | false =>
    have HZ1:Hz (∀ i,i < k+1→(fun x => !za8 x) (zs.getD i (0,0))=false):=kz (fun i hi =>by
     by_cases e:i=k
     ·subst e;rw [oz HG];exact hp
     ·exact oz HZ i (by omega))
    rw [hp] at HN
    obtain ⟨lo,hi⟩:=x
    simp only at c0 c1
    clear hp
    go_wp2_with fail
    refine (oz HN _).mono ?_
    rintro e w2 ⟨rfl,hb⟩
    have HB2:=kz ((oz HB).trans (hb.mono (oz HB).size))
    clear hb
    go_wp2
    refine ⟨⟨k+1,by simp,by omega,HZ1,HB2⟩, ?_⟩
    simp [intOf];omega
  ·have hk1:¬ (k:Int) < (zs.length:Int):=by omega
   obtain rfl:k=zs.length:=by omega
   have HV:=kz (zeV (fun x => !za8 x) zs (oz HZ))
   go_wp2
   go_ret
   exact ⟨by rw [oz HV];rfl,oz HB⟩

set_option maxRecDepth 100000 in
theorem zgH (a:Option Addr) (cap:Nat) (zs:List (Int × Int)) (hz:zs.length≤1073741824) (w:World) (hr:RowP w a zs) :
  Calls Tryz.prog 181 #[.slice a zs.length cap,.func (.func 182) #[] #[]] w fun e w' =>e=.returned (.bool (zs.any (fun x => !za8 x)))∧Below w.heap.size w w':=by
 have HI:=kz (ziJ a cap zs hz w hr)
 have HA:=kz (zhq (fun x => !za8 x) zs)
 clear hr
 generalize zs.any (fun x => !za8 x)=r at HA ⊢
 generalize zdN (fun x => !za8 x) zs=i at HI HA
 go_enter Tryz.func181,Tryz.ntmps181
 go_wp2_with fail
 refine (oz HI).mono ?_
 rintro e w2 ⟨rfl,hb⟩
 have HB:=kz hb
 clear hb
 go_wp2
 go_ret
 exact ⟨by rw [← oz HA];rfl,oz HB⟩

set_option maxRecDepth 100000 in
set_option maxHeartbeats 4000000 in
theorem ziK (a:Option Addr) (cap:Nat) (zs:List (Int × Int)) (hz:zs.length≤1073741824) (w:World) (hr:RowP w a zs) :
  Calls Tryz.prog 199 #[.slice a zs.length cap,.func (.func 183) #[] #[]] w fun e w' =>e=.returned (.int .i64 (zdN (fun x =>decide (x.2 < x.1)) zs))∧Below w.heap.size w w':=by
 have HR:=kz hr
 have hzi:(zs.length:Int)≤1073741824:=by omega
 clear hr
 go_enter Tryz.func199,Tryz.ntmps199
 go_wp2
 go_loopw [8] (fun i wr => ∃ k:Nat,i=.int .i64 k∧k≤zs.length∧Hz (∀ i,i < k→(fun x =>decide (x.2 < x.1)) (zs.getD i (0,0))=false)∧Hz (Below w.heap.size w wr)) (fun i _ =>zs.length - (intOf i).toNat)
 case atStart =>exact ⟨0,rfl,by omega,kz (fun i hi =>by omega),kz (Below.refl _ _)⟩
 case round =>
  obtain ⟨k,rfl,hk,HZ,HB⟩:=hrel
  by_cases hkn:k < zs.length
  ·have hk1:(k:Int) < (zs.length:Int):=by omega
   have hk2:((k:Nat):Int).toNat=k:=by omega
   obtain ⟨x,hx⟩:∃ x,zs[k]?=some x:=⟨_,List.getElem?_eq_getElem hkn⟩
   have hgd:zs.getD k (0,0)=x:=by simp [List.getD,hx]
   obtain ⟨g,o,rfl,hg,hc⟩:=oz HR (by omega)
   have c0:=((oz HB).cell (p:=⟨g,o+k*2,none⟩) hg).trans (hc k x hx).1
   have c1:=((oz HB).cell (p:=⟨g,o+k*2+1,none⟩) hg).trans (hc k x hx).2
   have HN:=kz (fun w =>zfv x w)
   have HH:=kz (fun h =>zhp (fun x =>decide (x.2 < x.1)) zs k hkn (oz HZ) h)
   rw [hgd] at HH
   have HG:=kz hgd
   clear hc hx hgd
   cases hp:(decide (x.2 < x.1)) with
   | true =>
    have HH1:=kz (oz HH hp)
    rw [hp] at HN
    obtain ⟨lo,hi⟩:=x
    simp only at c0 c1
    clear hp
    go_wp2_with fail
    refine (oz HN _).mono ?_
    rintro e w2 ⟨rfl,hb⟩
    have HB2:=kz ((oz HB).trans (hb.mono (oz HB).size))
    clear hb
    go_wp2
    go_ret
    exact ⟨by rw [oz HH1];rfl,oz HB2⟩
   | false =>
    have HZ1:Hz (∀ i,i < k+1→(fun x =>decide (x.2 < x.1)) (zs.getD i (0,0))=false):=kz (fun i hi =>by
     by_cases e:i=k
     ·subst e;rw [oz HG];exact hp
     ·exact oz HZ i (by omega))
    rw [hp] at HN
    obtain ⟨lo,hi⟩:=x
    simp only at c0 c1
    clear hp
    go_wp2_with fail
    refine (oz HN _).mono ?_
    rintro e w2 ⟨rfl,hb⟩
    have HB2:=kz ((oz HB).trans (hb.mono (oz HB).size))
    clear hb
    go_wp2
    refine ⟨⟨k+1,by simp,by omega,HZ1,HB2⟩, ?_⟩
    simp [intOf];omega
  ·have hk1:¬ (k:Int) < (zs.length:Int):=by omega
   obtain rfl:k=zs.length:=by omega
   have HV:=kz (zeV (fun x =>decide (x.2 < x.1)) zs (oz HZ))
   go_wp2
   go_ret
   exact ⟨by rw [oz HV];rfl,oz HB⟩

set_option maxRecDepth 100000 in
theorem zgI (a:Option Addr) (cap:Nat) (zs:List (Int × Int)) (hz:zs.length≤1073741824) (w:World) (hr:RowP w a zs) :
  Calls Tryz.prog 181 #[.slice a zs.length cap,.func (.func 183) #[] #[]] w fun e w' =>e=.returned (.bool (zs.any (fun x =>decide (x.2 < x.1))))∧Below w.heap.size w w':=by
 have HI:=kz (ziK a cap zs hz w hr)
 have HA:=kz (zhq (fun x =>decide (x.2 < x.1)) zs)
 clear hr
 generalize zs.any (fun x =>decide (x.2 < x.1))=r at HA ⊢
 generalize zdN (fun x =>decide (x.2 < x.1)) zs=i at HI HA
 go_enter Tryz.func181,Tryz.ntmps181
 go_wp2_with fail
 refine (oz HI).mono ?_
 rintro e w2 ⟨rfl,hb⟩
 have HB:=kz hb
 clear hb
 go_wp2
 go_ret
 exact ⟨by rw [← oz HA];rfl,oz HB⟩

theorem zlu:Spread []:=⟨fun x h =>by simp at h,fun i j x y _ h =>by simp at h⟩
theorem zqR:(Tryz.prog.info? 3).map (fun i =>(i.zero,i.size,i.bytes))=some (some (.int .i64 0),1,8):=by kernel_rfl
theorem zk3 (w2:World) (v:Value):∀ j u,[v][j]?=some u→(w2.alloc (.cells #[v] 3)).cell? ((⟨w2.heap.size,0,none⟩:Addr).add j)=some u:=by
 intro j u hj
 rw [zeb]
 cases j with
 | zero =>
  simp at hj
  subst hj
  exact (Blk.new w2 #[v] 3).cell 0
 | succ j =>simp at hj
theorem zjq {wm w2 w3:World} {B X:Nat} {cx:Array Value} {tmp:Obj} (hB:Blk wm B #[.slice none 0 0,.slice none 0 0] 149) (hX:Blk wm X cx 113) (hb:Below wm.heap.size wm w2) (hg:(w2.alloc tmp).grownBy w3 none) :
  Blk w3 B #[.slice none 0 0,.slice none 0 0] 149∧Blk w3 X cx 113 :=
 ⟨((hB.below hb hB.lt).alloc tmp).kept hg (by simp),((hX.below hb hX.lt).alloc tmp).kept hg (by simp)⟩
def Laid (W:World) (B lo0:Nat) (x:Int × Int):Prop := ∃ va vb,Blk W B #[va,vb] 149∧W.ownsRow lo0 113 2 va 1 (zdC [x])∧W.ownsRow lo0 3 1 vb 1 [.int .i64 0]
theorem zkQ (w2:World) (x:Int × Int):∀ j u,(zdC [x])[j]?=some u→(w2.alloc (.cells #[.int .i32 x.1,.int .i32 x.2] 113)).cell? ((⟨w2.heap.size,0,none⟩:Addr).add j)=some u:=by
 intro j u hj
 rw [zeb]
 have b:=Blk.new w2 #[.int .i32 x.1,.int .i32 x.2] 113
 match j,hj with
 | 0,hj =>simp [zdC] at hj;subst hj;exact b.cell 0
 | 1,hj =>simp [zdC] at hj;subst hj;exact b.cell 1
 | j+2,hj =>simp [zdC] at hj
theorem zqT {w wm w2 w3:World} {B lo0 X g1 cap1:Nat} {cx:Array Value} {tmp:Obj} (hB:Blk wm B #[.slice none 0 0,.slice none 0 0] 149) (hX:Blk wm X cx 113) (hw:Below w.heap.size w wm) (hb:Below wm.heap.size wm w2) (hg:(w2.alloc tmp).grownBy w3 none) (h0:lo0≤B) (hl:lo0≤w.heap.size) (hne:X≠B)
  (ho:w3.ownsRow lo0 3 1 (.slice (some ⟨g1,0,none⟩) 1 cap1) 1 [.int .i64 0]) :
  ∃ w4,w4=w3.setCell ⟨B,1,none⟩ (.slice (some ⟨g1,0,none⟩) 1 cap1)∧Blk w4 B #[.slice none 0 0,.slice (some ⟨g1,0,none⟩) 1 cap1] 149∧Blk w4 X cx 113∧w4.ownsRow lo0 3 1 (.slice (some ⟨g1,0,none⟩) 1 cap1) 1 [.int .i64 0]∧Below lo0 w w4∧(∀ X,X < w.heap.size→X≠B→w4.heap[X]?=w.heap[X]?):=by
 have hm:=zjq hB hX hb hg
 refine ⟨_,rfl,by simpa using hm.1.set 1 (.slice (some ⟨g1,0,none⟩) 1 cap1),hm.2.other hne _, ?_, ?_,fun X hX hXB =>?_⟩
 ·refine ho.kept (zau w3 ⟨B,1,none⟩ _) (.inr ?_)
  intro e
  simp [Value.ownBlock] at e
  subst e
  rcases ho.2 with ⟨e,_⟩ | ⟨g,cap,cur,e,_,hg',_⟩
  ·simp at e
  ·simp at e
   obtain ⟨rfl,_⟩:=e
   have:=(show w3.heap[g1]?=_ from hm.1).symm.trans hg'
   simp at this
 ·have s1:=hw.size
  have s2:=hb.size
  exact ((((hw.mono hl).trans (hb.mono (by omega))).alloc (by omega) tmp).grown hg (by simp;omega) (fun k e =>by cases e)).setCell (p:=⟨B,1,none⟩) h0 _
 ·have s1:=hw.size
  have s2:=hb.size
  rw [Below.heap_setCell w3 ⟨B,1,none⟩ _ X hXB,hg.block X (by simp;omega) (by simp),Below.heap_alloc w2 tmp X (by omega),hb.block X (by omega),hw.block X hX]
theorem zqq {w w4 w5:World} {B lo0 g1 cap1 g5 cap5:Nat} {x:Int × Int} {tmp:Obj} (hB:Blk w4 B #[.slice none 0 0,.slice (some ⟨g1,0,none⟩) 1 cap1] 149) (ho:w4.ownsRow lo0 3 1 (.slice (some ⟨g1,0,none⟩) 1 cap1) 1 [.int .i64 0]) (hL:Below lo0 w w4) (hl:lo0≤w.heap.size) (h0:lo0≤B)
  (hg:(w4.alloc tmp).drew.grownBy w5 none) (ho5:w5.ownsRow lo0 113 2 (.slice (some ⟨g5,0,none⟩) 1 cap5) 1 (zdC [x])) (hF:∀ X,X < w.heap.size→X≠B→w4.heap[X]?=w.heap[X]?) :
  Laid (w5.setCell ⟨B,0,none⟩ (.slice (some ⟨g5,0,none⟩) 1 cap5)) B lo0 x∧Below lo0 w (w5.setCell ⟨B,0,none⟩ (.slice (some ⟨g5,0,none⟩) 1 cap5))∧(∀ X,X < w.heap.size→X≠B→(w5.setCell ⟨B,0,none⟩ (.slice (some ⟨g5,0,none⟩) 1 cap5)).heap[X]?=w.heap[X]?):=by
 have hg':(w4.alloc tmp).grownBy w5 none:=⟨hg.os,hg.tape,hg.output,hg.size,hg.block⟩
 have hm:=(hB.alloc tmp).kept hg' (by simp)
 have zd2:∀ {E sz:Nat} {g cap n:Nat} {xs:List Value},149≠E→w5.ownsRow lo0 E sz (.slice (some ⟨g,0,none⟩) n cap) n xs→g≠B:=by
  intro E sz g cap n xs hE h e
  subst e
  rcases h.2 with ⟨e,_⟩ | ⟨g',cap',cur,e,_,hg',_⟩
  ·simp at e
  ·simp at e
   obtain ⟨rfl,_⟩:=e
   have:=(show w5.heap[g]?=_ from hm).symm.trans hg'
   simp at this
   exact hE this.2
 have ho1:w5.ownsRow lo0 3 1 (.slice (some ⟨g1,0,none⟩) 1 cap1) 1 [.int .i64 0]:=(ho.kept (World.grownBy_alloc w4 tmp none) (by simp [Value.ownBlock])).kept hg' (by simp [Value.ownBlock])
 have n1:=zd2 (by decide) ho1
 have n5:=zd2 (by decide) ho5
 refine ⟨⟨_,_,by simpa using hm.set 0 (.slice (some ⟨g5,0,none⟩) 1 cap5),ho5.kept (zau w5 ⟨B,0,none⟩ _) (.inr (by simpa [Value.ownBlock] using n5)),ho1.kept (zau w5 ⟨B,0,none⟩ _) (.inr (by simpa [Value.ownBlock] using n1))⟩, ?_,fun X hX hXB =>?_⟩
 ·have s1:=hL.size
  exact ((hL.alloc (by omega) tmp).grown hg' (by simp;omega) (fun k e =>by cases e)).setCell (p:=⟨B,0,none⟩) h0 _
 ·have s1:=hL.size
  rw [Below.heap_setCell w5 ⟨B,0,none⟩ _ X hXB,hg'.block X (by simp;omega) (by simp),Below.heap_alloc w4 tmp X (by omega),hF X hX hXB]
set_option maxRecDepth 100000 in
set_option maxHeartbeats 4000000 in
theorem znk (B lo0:Nat) (x:Int × Int) (w:World) (hB:Blk w B #[.slice none 0 0,.slice none 0 0] 149) (h0:lo0≤B) (hl:lo0≤w.heap.size) :
  Calls Tryz.prog 187 #[.pointer (some ⟨B,0,none⟩),zn4 x] w fun e w' =>(∃ r,e=.returned r)∧Laid w' B lo0 x∧Below lo0 w w'∧(∀ X,X < w.heap.size→X≠B→w'.heap[X]?=w.heap[X]?):=by
 obtain ⟨lo,hi⟩:=x
 obtain ⟨iI,hi0,hi1,hi2,hi3⟩:=info_parts zqR
 have HI:=kz (And.intro hi0 (And.intro hi1 (And.intro hi2 hi3)))
 obtain ⟨iP,hi0,hi1,hi2,hi3⟩:=info_parts zns
 have HP:=kz (And.intro hi0 (And.intro hi1 (And.intro hi2 hi3)))
 clear hi0 hi1 hi2 hi3
 have HX:=kz (Blk.new w #[.int .i32 lo,.int .i32 hi] 113)
 have HBm:=kz ((Below.refl w.heap.size w).alloc (Nat.le_refl _) (.cells #[.int .i32 lo,.int .i32 hi] 113))
 have HB:=kz (hB.alloc (.cells #[.int .i32 lo,.int .i32 hi] 113))
 have c0:=(oz HB).cell 0
 have c1:=(oz HB).cell 1
 go_enter Tryz.func187,Tryz.ntmps187
 go_wp2
 generalize w.alloc (.cells #[.int .i32 lo,.int .i32 hi] 113)=wm at *
 have HBd:Hz (Blk wm.drew B #[.slice none 0 0,.slice none 0 0] 149):=kz (oz HB)
 have HXd:Hz (Blk wm.drew w.heap.size #[.int .i32 lo,.int .i32 hi] 113):=kz (oz HX)
 have HS:=kz (zfD B [] wm.drew ⟨⟨none,0,none,0,oz HBd,fun h =>by simp at h,fun h =>by simp at h⟩,zlu,by simp⟩)
 have HLm:Hz (lo0≤wm.drew.heap.size):=kz (Nat.le_trans hl (oz HBm).size)
 have HNE:Hz (w.heap.size≠B):=kz (fun e =>by have:=hB.lt;omega)
 have HBmd:Hz (Below w.heap.size w wm.drew):=kz (oz HBm).drew
 have hmx2:Tryz.prog.follows .mixedOrders=true:=by kernel_rfl
 go_region_law (first
  | (go_simp;refine (oz HS).mono ?_;rintro e w2 ⟨rfl,hb⟩;have b2:=(oz HBd).below hb (oz HBd).lt;have d0:=b2.cell 0;have d1:=b2.cell 1;have d3:=(b2.alloc (.cells #[.int .i64 (total [])] 3)).cell 1)
  | (refine step_append_lies _ (by rfl) _ _ _ (by rfl) lo0 3 iI (.int .i64 0) 1 8 Tryz.underlying36 (oz HI).1 (oz HI).2.1 (oz HI).2.2.1 (oz HI).2.2.2 rfl (by omega) (.slice none 0 0) 0 [] (by rfl) (World.ownsRow_nil _ _ _ _) ⟨w2.heap.size,0,none⟩ 1 1 [.int .i64 (total [])] (by rfl) (by simp) (zk3 w2 _) (by simp [Value.oneCell']) (by omega) (by unfold maxLen;omega) (by omega) (by have:=hb.size;have:=oz HLm;simp;omega) (w2.heap.size+1) (by simp) ?_;intro g1 cap1 w3 hown1 hgrow1 hat1 hlt1;have hm:=zjq (oz HBd) (oz HXd) hb hgrow1;have e0:=hm.1.cell 0;have e1:=hm.1.cell 1;have e2:=hm.1.frozen 1))
 all_goals
  obtain ⟨w4,h4,hb4,hx4,ho4,hB4,hF4⟩:=zqT (oz HBd) (oz HXd) (oz HBmd) hb hgrow1 h0 hl (oz HNE) hown1
  rw [← h4]
  have HB4:=kz hb4
  have HX4:=kz hx4
  have HO4:=kz ho4
  have HL4:=kz hB4
  have HF4:=kz hF4
  have p0:=hb4.cell 0
  have p1:=(hb4.alloc (.cells #[.int .i32 lo,.int .i32 hi] 113)).cell 0
  have x0:=hx4.cell 0
  have x1:=hx4.cell 1
  clear h4 hb4 hx4 ho4 hB4 hF4 hown1 hgrow1 hat1 hlt1 hm e0 e1 e2 b2 d0 d1 d3 hb HS HBd HXd HB HX c0 c1 HLm HBm
  go_wp2
  go_region_law (first
   | (refine step_append_lies _ (by rfl) _ _ _ (by rfl) lo0 113 iP (.agg #[.int .i32 0,.int .i32 0]) 2 8 Tryz.underlying23 (oz HP).1 (oz HP).2.1 (oz HP).2.2.1 (oz HP).2.2.2 rfl (by omega) (.slice none 0 0) 0 [] (by rfl) (World.ownsRow_nil _ _ _ _) ⟨w4.heap.size,0,none⟩ 1 1 (zdC [(lo,hi)]) (by rfl) (by simp [zdC]) (zkQ w4 (lo,hi)) (zgV _) (by omega) (by unfold maxLen;omega) (by omega) (by have:=(oz HL4).size;simp;omega) (w4.heap.size+1) (by simp) ?_;intro g5 cap5 w5 hown5 hgrow5 hat5 hlt5;have hm5:=(show Blk (w4.alloc (.cells #[.int .i32 lo,.int .i32 hi] 113)).drew B _ 149 from (oz HB4).alloc (.cells #[.int .i32 lo,.int .i32 hi] 113)).kept hgrow5 (by simp [Value.ownBlock]);have y0:=hm5.cell 0;have y1:=hm5.frozen 0))
  all_goals
   have HE:=kz (zqq (x:=(lo,hi)) (oz HB4) (oz HO4) (oz HL4) hl h0 hgrow5 hown5 (oz HF4))
   go_end0
   exact ⟨⟨_,rfl⟩,oz HE⟩
def ahs (zs:List (Int × Int)):List Value:=(List.range zs.length).map fun j =>.int .i64 (total (zs.take j))
theorem zmh (zs:List (Int × Int)):(ahs zs).length=zs.length:=by simp [ahs]
theorem zrR (zs:List (Int × Int)) (j:Nat) (hj:j < zs.length):(ahs zs)[j]?=some (.int .i64 (total (zs.take j))):=by simp [ahs,hj]
theorem zi0 (zs:List (Int × Int)) (x:Int × Int):ahs (zs++[x])=ahs zs++[.int .i64 (total zs)]:=by
 unfold ahs
 rw [List.length_append,List.length_singleton,List.range_succ,List.map_append]
 congr 1
 ·apply List.map_congr_left
  intro j hj
  rw [List.mem_range] at hj
  rw [List.take_append_of_le_length (by omega)]
 ·simp
theorem zpQ (ys:List (Int × Int)) (y y':Int × Int):ahs (ys++[y'])=ahs (ys++[y]):=by rw [zi0,zi0]
theorem zk0 {W:World} {base n:Nat} {v:Value} {zs:List (Int × Int)} (h:W.ownsRow base 3 1 v n (ahs zs)):∃ a c,v=.slice a zs.length c∧RowA W a zs∧n=zs.length:=by
 obtain ⟨hl,h⟩:=h
 rw [zmh] at hl
 have hn:n=zs.length:=by omega
 subst hn
 rcases h with ⟨rfl,h0⟩ | ⟨g,cap,cur,rfl,hb,hg,h1,h2,h3,h4⟩
 ·exact ⟨none,0,by rw [h0],fun h =>by omega,rfl⟩
 ·refine ⟨_,cap,rfl,fun h0 =>⟨g,0,rfl,(Array.getElem?_eq_some_iff.1 hg).1,fun j hj =>?_⟩,rfl⟩
  have hbk:Blk W g cur 3:=hg
  have e:=zrR zs j hj
  rw [← h4] at e
  rw [List.getElem?_take,if_pos (by omega)] at e
  rw [Nat.zero_add,Blk.cell hbk]
  simpa using e
theorem zal {W W':World} {base E sz n:Nat} {v:Value} {xs:List Value} (h:W.ownsRow base E sz v n xs) (hb:Below W.heap.size W W'):W'.ownsRow base E sz v n xs:=by
 obtain ⟨hl,h⟩:=h
 refine ⟨hl, ?_⟩
 rcases h with h | ⟨g,cap,cur,h1,h2,h3,h4⟩
 ·exact .inl h
 ·exact .inr ⟨g,cap,cur,h1,h2,(hb.block g (Array.getElem?_eq_some_iff.1 h3).1).trans h3,h4⟩
theorem zd2 {W:World} {base E t sz n B:Nat} {v:Value} {xs:List Value} {cs:Array Value} (h:W.ownsRow base E sz v n xs) (hB:Blk W B cs t) (hE:t≠E):some B≠v.ownBlock:=by
 intro e
 rcases h.2 with ⟨rfl,_⟩ | ⟨g,cap,cur,rfl,_,hg,_⟩
 ·simp [Value.ownBlock] at e
 ·simp [Value.ownBlock] at e
  subst e
  have:=(show W.heap[B]?=_ from hB).symm.trans hg
  simp at this
  exact hE this.2
theorem zkf {W:World} {base base' E E' sz sz' n n':Nat} {v v':Value} {xs xs':List Value} (h:W.ownsRow base E sz v n xs) (h':W.ownsRow base' E' sz' v' n' xs') (hE:E≠E'):v.ownBlock=none∨v.ownBlock≠v'.ownBlock:=by
 rcases h.2 with ⟨rfl,_⟩ | ⟨g,cap,cur,rfl,_,hg,_⟩
 ·exact .inl rfl
 ·exact .inr (zd2 h' (show Blk W g cur E from hg) hE)
def zkO (w w':World) (B:Nat):Prop := ∀ X,X < w.heap.size→X≠B→(∀ va vb,Blk w B #[va,vb] 149→va.ownBlock≠some X∧vb.ownBlock≠some X)→w'.heap[X]?=w.heap[X]?
structure Made (W:World) (B lo0:Nat) (zs:List (Int × Int)):Prop where
 form:∃ va vb,Blk W B #[va,vb] 149∧W.ownsRow lo0 113 2 va zs.length (zdC zs)∧W.ownsRow lo0 3 1 vb zs.length (ahs zs)
 lo:lo0≤B
theorem Made.set {W:World} {B lo0:Nat} {zs:List (Int × Int)} (h:Made W B lo0 zs) (hs:Spread zs) (hl:zs.length≤1112064):SetAt W B zs:=by
 obtain ⟨va,vb,h1,h2,h3⟩:=h.form
 obtain ⟨a,ca,rfl,ha,_⟩:=ziB h2
 obtain ⟨b,cb,rfl,hb,_⟩:=zk0 h3
 exact ⟨⟨a,ca,b,cb,h1,ha,hb⟩,hs,hl⟩
theorem Made.below {W W':World} {B lo0:Nat} {zs:List (Int × Int)} (h:Made W B lo0 zs) (hb:Below W.heap.size W W'):Made W' B lo0 zs:=by
 obtain ⟨va,vb,h1,h2,h3⟩:=h.form
 exact ⟨⟨va,vb,h1.below hb h1.lt,zal h2 hb,zal h3 hb⟩,h.lo⟩
theorem znJ (ys:List (Int × Int)) (y:Int × Int) (u:Int):(zdC (ys++[y])).set (ys.length*2+1) (.int .i32 u)=zdC (ys++[(y.1,u)]):=by
 rw [zes,zes,List.set_append,if_neg (by rw [zbL];omega),zbL]
 have:ys.length*2+1 - ys.length*2=1:=by omega
 rw [this]
 rfl
theorem Made.touch {W:World} {B lo0 g ca:Nat} {vb:Value} {ys:List (Int × Int)} {y:Int × Int} (h1:Blk W B #[.slice (some ⟨g,0,none⟩) (ys.length+1) ca,vb] 149) (h2:W.ownsRow lo0 113 2 (.slice (some ⟨g,0,none⟩) (ys.length+1) ca) (ys.length+1) (zdC (ys++[y]))) (h3:W.ownsRow lo0 3 1 vb (ys.length+1) (ahs (ys++[y]))) (hl:lo0≤B) (u:Int) :
  Made (W.setCell ⟨g,ys.length*2+1,none⟩ (.int .i32 u)) B lo0 (ys++[(y.1,u)])∧Below lo0 W (W.setCell ⟨g,ys.length*2+1,none⟩ (.int .i32 u)):=by
 have hs:=h2.stored (ys.length*2+1) (.int .i32 u)
 have hg:lo0≤g:=(h2.lt g rfl).1
 refine ⟨⟨⟨_,vb,h1.kept hs.2 ?_, ?_, ?_⟩,hl⟩,(Below.refl lo0 W).setCell (p:=⟨g,ys.length*2+1,none⟩) hg _⟩
 ·exact zd2 h2 h1 (by decide)
 ·rw [List.length_append,List.length_singleton]
  have:=hs.1
  rw [znJ] at this
  exact this
 ·rw [List.length_append,List.length_singleton,zpQ ys y]
  exact h3.kept hs.2 (zkf h3 h2 (by decide))
theorem znd {wm w2 w3:World} {B X lo0 n:Nat} {va vb:Value} {cx:Array Value} {xs ys:List Value} {tmp:Obj} (hB:Blk wm B #[va,vb] 149) (hX:Blk wm X cx 113) (ha:wm.ownsRow lo0 113 2 va n xs) (hv:wm.ownsRow lo0 3 1 vb n ys) (hb:Below wm.heap.size wm w2) (hg:(w2.alloc tmp).grownBy w3 vb.ownBlock) :
  Blk w3 B #[va,vb] 149∧Blk w3 X cx 113∧w3.ownsRow lo0 113 2 va n xs:=by
 have b1:=(hB.below hb hB.lt).alloc tmp
 have x1:=(hX.below hb hX.lt).alloc tmp
 have a1:=(zal ha hb).alloc tmp
 have v1:=(zal hv hb).alloc tmp
 exact ⟨b1.kept hg (zd2 v1 b1 (by decide)),x1.kept hg (zd2 v1 x1 (by decide)),a1.kept hg (zkf a1 v1 (by decide))⟩
theorem zpC {w wm w2 w3:World} {B lo0 X g1 cap1 n:Nat} {va vb:Value} {cx:Array Value} {xs ys zs:List Value} {tmp:Obj} (hB:Blk wm B #[va,vb] 149) (hX:Blk wm X cx 113) (ha:wm.ownsRow lo0 113 2 va n xs) (hv:wm.ownsRow lo0 3 1 vb n ys) (hw:Below w.heap.size w wm) (hb:Below wm.heap.size wm w2) (hg:(w2.alloc tmp).grownBy w3 vb.ownBlock) (h0:lo0≤B) (hl:lo0≤w.heap.size) (hne:X≠B)
  (ho:w3.ownsRow lo0 3 1 (.slice (some ⟨g1,0,none⟩) (n+1) cap1) (n+1) zs) :
  ∃ w4,w4=w3.setCell ⟨B,1,none⟩ (.slice (some ⟨g1,0,none⟩) (n+1) cap1)∧Blk w4 B #[va,.slice (some ⟨g1,0,none⟩) (n+1) cap1] 149∧Blk w4 X cx 113∧w4.ownsRow lo0 3 1 (.slice (some ⟨g1,0,none⟩) (n+1) cap1) (n+1) zs∧w4.ownsRow lo0 113 2 va n xs∧Below lo0 w w4∧(∀ X,X < w.heap.size→X≠B→vb.ownBlock≠some X→w4.heap[X]?=w.heap[X]?):=by
 have hm:=znd hB hX ha hv hb hg
 refine ⟨_,rfl,by simpa using hm.1.set 1 (.slice (some ⟨g1,0,none⟩) (n+1) cap1),hm.2.1.other hne _, ?_, ?_, ?_,fun X hX hXB hXv =>?_⟩
 ·exact ho.kept (zau w3 ⟨B,1,none⟩ _) (.inr (zd2 ho hm.1 (by decide)).symm)
 ·rcases hm.2.2.2 with ⟨rfl,_⟩ | _
  ·exact hm.2.2.kept (zau w3 ⟨B,1,none⟩ _) (.inl rfl)
  ·exact hm.2.2.kept (zau w3 ⟨B,1,none⟩ _) (.inr (zd2 hm.2.2 hm.1 (by decide)).symm)
 ·have s1:=hw.size
  have s2:=hb.size
  have v1:=hv.lt
  exact ((((hw.mono hl).trans (hb.mono (by omega))).alloc (by omega) tmp).grown hg (by simp;omega) (fun k e =>(v1 k e).1)).setCell (p:=⟨B,1,none⟩) h0 _
 ·have s1:=hw.size
  have s2:=hb.size
  rw [Below.heap_setCell w3 ⟨B,1,none⟩ _ X hXB,hg.block X (by simp;omega) (fun e =>hXv e.symm),Below.heap_alloc w2 tmp X (by omega),hb.block X (by omega),hw.block X hX]
theorem zo2 {w w4 w5:World} {B lo0 g1 cap1 g5 cap5:Nat} {va:Value} {zs:List (Int × Int)} {x:Int × Int} {tmp:Obj} (hB:Blk w4 B #[va,.slice (some ⟨g1,0,none⟩) (zs.length+1) cap1] 149) (ho:w4.ownsRow lo0 3 1 (.slice (some ⟨g1,0,none⟩) (zs.length+1) cap1) (zs.length+1) (ahs (zs++[x]))) (ha:w4.ownsRow lo0 113 2 va zs.length (zdC zs)) (hL:Below lo0 w w4) (hl:lo0≤w.heap.size) (h0:lo0≤B)
  (hg:(w4.alloc tmp).drew.grownBy w5 va.ownBlock) (ho5:w5.ownsRow lo0 113 2 (.slice (some ⟨g5,0,none⟩) (zs.length+1) cap5) (zs.length+1) (zdC zs++zdC [x])) {Pv:Nat→Prop} (hF:∀ X,X < w.heap.size→X≠B→Pv X→w4.heap[X]?=w.heap[X]?) :
  Made (w5.setCell ⟨B,0,none⟩ (.slice (some ⟨g5,0,none⟩) (zs.length+1) cap5)) B lo0 (zs++[x])∧Below lo0 w (w5.setCell ⟨B,0,none⟩ (.slice (some ⟨g5,0,none⟩) (zs.length+1) cap5))∧(∀ X,X < w.heap.size→X≠B→Pv X→va.ownBlock≠some X→(w5.setCell ⟨B,0,none⟩ (.slice (some ⟨g5,0,none⟩) (zs.length+1) cap5)).heap[X]?=w.heap[X]?):=by
 have hg':(w4.alloc tmp).grownBy w5 va.ownBlock:=⟨hg.os,hg.tape,hg.output,hg.size,hg.block⟩
 have b1:=hB.alloc tmp
 have a1:=ha.alloc tmp
 have o1:=ho.alloc tmp
 have hm:=b1.kept hg' (zd2 a1 b1 (by decide))
 have ho1:=o1.kept hg' (zkf o1 a1 (by decide))
 rw [← zes] at ho5
 refine ⟨⟨⟨_,_,by simpa using hm.set 0 (.slice (some ⟨g5,0,none⟩) (zs.length+1) cap5), ?_, ?_⟩,h0⟩, ?_,fun X hX hXB hP hXa =>?_⟩
 ·rw [List.length_append,List.length_singleton]
  exact ho5.kept (zau w5 ⟨B,0,none⟩ _) (.inr (zd2 ho5 hm (by decide)).symm)
 ·rw [List.length_append,List.length_singleton]
  exact ho1.kept (zau w5 ⟨B,0,none⟩ _) (.inr (zd2 ho1 hm (by decide)).symm)
 ·have s1:=hL.size
  exact ((hL.alloc (by omega) tmp).grown hg' (by simp;omega) (fun k e =>(ha.lt k e).1)).setCell (p:=⟨B,0,none⟩) h0 _
 ·have s1:=hL.size
  rw [Below.heap_setCell w5 ⟨B,0,none⟩ _ X hXB,hg'.block X (by simp;omega) (fun e =>hXa e.symm),Below.heap_alloc w4 tmp X (by omega),hF X hX hXB hP]
set_option maxRecDepth 100000 in
set_option maxHeartbeats 4000000 in
theorem znj (B lo0:Nat) (ys:List (Int × Int)) (y x:Int × Int) (hn:ys.length≤1000000) (hy:za8 y=true) (hx:za8 x=true) (ht:zae x.1≤zae y.2+1) (w:World) (hm:Made w B lo0 (ys++[y])) (hl:lo0≤w.heap.size) :
  Calls Tryz.prog 187 #[.pointer (some ⟨B,0,none⟩),zn4 x] w fun e w' =>(∃ r,e=.returned r)∧Made w' B lo0 (zh4 (ys++[y]) x)∧Below lo0 w w'∧zkO w w' B:=by
 rw [zd4 _ _ _ ht]
 obtain ⟨va,vb,h1,h2,h3⟩:=hm.form
 have hlo:=hm.lo
 rw [List.length_append,List.length_singleton] at h2 h3
 obtain ⟨g,ca,rfl,hg0,hg⟩:=h2.form (by omega)
 have hex:=zas hx
 have hey:=zas hy
 have r1:=zaF hex.1.1 hex.1.2.1
 have r2:=zaF hey.2.1 hey.2.2.1
 obtain ⟨lo,hi⟩:=x
 obtain ⟨y0,y1⟩:=y
 simp only at ht hex hey r1 r2
 simp only
 have k1:=h2.cellAt (ys.length*2+1) (by omega)
 have k2:=h2.frozenAt (ys.length*2+1)
 rw [(zht (ys++[(y0,y1)]) ys.length (y0,y1) (by simp)).2] at k1
 have c0:=(h1.alloc (.cells #[.int .i32 lo,.int .i32 hi] 113)).cell 0
 have c1:=zaY (.cells #[.int .i32 lo,.int .i32 hi] 113) k1
 have c2:(w.alloc (.cells #[.int .i32 lo,.int .i32 hi] 113)).frozen? ⟨g,ys.length*2+1,none⟩=false:=(((Below.refl _ w).alloc (Nat.le_refl _) _).frozen (p:=⟨g,ys.length*2+1,none⟩) hg).trans k2
 have q0:=(Blk.new w #[.int .i32 lo,.int .i32 hi] 113).cell 0
 have q1:=(Blk.new w #[.int .i32 lo,.int .i32 hi] 113).cell 1
 have HE:=kz (fun (k:Nat) (u:Int) =>Made.touch (W:=(w.alloc (.cells #[.int .i32 lo,.int .i32 hi] 113)).drewN k) (h1.alloc (.cells #[.int .i32 lo,.int .i32 hi] 113)) (h2.alloc (.cells #[.int .i32 lo,.int .i32 hi] 113)) (h3.alloc (.cells #[.int .i32 lo,.int .i32 hi] 113)) hlo u)
 have HW:=kz (fun (k:Nat) =>below_drewN ((Below.refl lo0 w).alloc hl (.cells #[.int .i32 lo,.int .i32 hi] 113)) k)
 have HFr:Hz (∀ (k:Nat) (u:Value),zkO w (((w.alloc (.cells #[.int .i32 lo,.int .i32 hi] 113)).drewN k).setCell ⟨g,ys.length*2+1,none⟩ u) B):=kz (fun k u X hX hXB hv =>by
  have hne:X≠g:=fun e =>(hv _ _ h1).1 (by rw [e];rfl)
  rw [Below.heap_setCell _ ⟨g,ys.length*2+1,none⟩ _ X hne]
  exact Below.heap_alloc w _ X hX)
 generalize ys.length=m at *
 have hm1:((m+1:Nat):Int) - 1=(m:Int):=by omega
 have hm2:((m:Nat):Int).toNat=m:=by omega
 have hlo2:0≤lo∧lo≤1114111:=⟨hex.1.1,hex.1.2.1⟩
 have hhi2:0≤y1∧y1≤1114111:=⟨hey.2.1,hey.2.2.1⟩
 clear h1 h2 h3 hm k1 k2 hex hey
 go_enter Tryz.func187,Tryz.ntmps187
 go_wp2
 go_quiet ((go_at_call 202;exact Calls.quiet_of_same (zdE _ (by omega) (by omega) _)))
 go_wp2
 have hmx2:Tryz.prog.follows .mixedOrders=true:=by kernel_rfl
 go_region_with (fail)
 all_goals
  have HE1:=kz (oz HE (nq+1) (max y1 hi))
  have HW1:=kz (oz HW (nq+1))
  have HF1:=kz (oz HFr (nq+1) (.int .i32 (max y1 hi)))
  clear HE HW HFr c0 c1 c2 q0 q1
  go_wp2
  refine bodyPost_ret (results_none rfl _ _ _) rfl ?_
  exact ⟨⟨_,rfl⟩,(oz HE1).1,(oz HW1).trans (oz HE1).2,oz HF1⟩
theorem zra (zs:List (Int × Int)) (x:Int × Int):ahs zs++[.int .i64 (total zs)]=ahs (zs++[x]):=(zi0 zs x).symm
set_option maxRecDepth 100000 in
set_option maxHeartbeats 8000000 in
theorem znl (B lo0:Nat) (ys:List (Int × Int)) (y x:Int × Int) (hn:ys.length≤1000000) (hS:Spread (ys++[y])) (hx:za8 x=true) (ht:¬ zae x.1≤zae y.2+1) (w:World) (hm:Made w B lo0 (ys++[y])) (hl:lo0≤w.heap.size) :
  Calls Tryz.prog 187 #[.pointer (some ⟨B,0,none⟩),zn4 x] w fun e w' =>(∃ r,e=.returned r)∧Made w' B lo0 (zh4 (ys++[y]) x)∧Below lo0 w w'∧zkO w w' B:=by
 rw [zd5 _ _ _ ht]
 obtain ⟨va,vb,h1,h2,h3⟩:=hm.form
 have hlo:=hm.lo
 have hy:=(hS.ends y (by simp)).1
 obtain ⟨zs,hzs⟩:∃ zs,zs=ys++[y]:=⟨_,rfl⟩
 have hzl:zs.length=ys.length+1:=by rw [hzs];simp
 obtain ⟨b,cb,rfl,_,_⟩:=zk0 h3
 obtain ⟨g,ca,rfl,hg0,hg⟩:=h2.form (by simp)
 have hex:=zas hx
 have hey:=zas hy
 have r1:=zaF hex.1.1 hex.1.2.1
 have r2:=zaF hey.2.1 hey.2.2.1
 obtain ⟨lo,hi⟩:=x
 obtain ⟨y0,y1⟩:=y
 simp only at ht hex hey r1 r2
 have k1:=h2.cellAt (ys.length*2+1) (by simp;omega)
 rw [(zht (ys++[(y0,y1)]) ys.length (y0,y1) (by simp)).2] at k1
 rw [← hzs] at h1 h2 h3 hm hS ⊢
 obtain ⟨iI,hi0,hi1,hi2,hi3⟩:=info_parts zqR
 have HI:=kz (And.intro hi0 (And.intro hi1 (And.intro hi2 hi3)))
 obtain ⟨iP,hi0,hi1,hi2,hi3⟩:=info_parts zns
 have HP:=kz (And.intro hi0 (And.intro hi1 (And.intro hi2 hi3)))
 clear hi0 hi1 hi2 hi3
 have HX:=kz (Blk.new w #[.int .i32 lo,.int .i32 hi] 113)
 have HBm:=kz ((Below.refl w.heap.size w).alloc (Nat.le_refl _) (.cells #[.int .i32 lo,.int .i32 hi] 113))
 have HB:=kz (h1.alloc (.cells #[.int .i32 lo,.int .i32 hi] 113))
 have HA:=kz (h2.alloc (.cells #[.int .i32 lo,.int .i32 hi] 113))
 have HV:=kz (h3.alloc (.cells #[.int .i32 lo,.int .i32 hi] 113))
 have HS:=kz (fun (k:Nat) =>(show Made ((w.alloc (.cells #[.int .i32 lo,.int .i32 hi] 113)).drewN k) B lo0 zs from ⟨⟨_,_,oz HB,oz HA,oz HV⟩,hlo⟩).set hS (by omega))
 have HB0:=kz h1
 have HNE:Hz (w.heap.size≠B):=kz (fun e =>by have:=h1.lt;omega)
 have c0:=(oz HB).cell 0
 have c1:=zaY (.cells #[.int .i32 lo,.int .i32 hi] 113) k1
 have q0:=(oz HX).cell 0
 rw [hzl] at c0
 have HZL:=kz hzl
 have HTB:=kz (zdj hS.ends)
 generalize ys.length=m at *
 have hm1:((m+1:Nat):Int) - 1=(m:Int):=by omega
 have hm2:((m:Nat):Int).toNat=m:=by omega
 have hlo2:0≤lo∧lo≤1114111:=⟨hex.1.1,hex.1.2.1⟩
 have hhi2:0≤y1∧y1≤1114111:=⟨hey.2.1,hey.2.2.1⟩
 clear h1 h2 h3 hm k1 hex hey hS hy hx hzs hzl
 go_enter Tryz.func187,Tryz.ntmps187
 go_wp2
 go_quiet ((go_at_call 202;exact Calls.quiet_of_same (zdE _ (by omega) (by omega) _)))
 go_wp2
 have HBd:Hz (Blk ((w.alloc (.cells #[.int .i32 lo,.int .i32 hi] 113)).drewN nq).drew B _ 149):=kz (oz HB)
 have HXd:Hz (Blk ((w.alloc (.cells #[.int .i32 lo,.int .i32 hi] 113)).drewN nq).drew w.heap.size #[.int .i32 lo,.int .i32 hi] 113):=kz (oz HX)
 have HAd:Hz (((w.alloc (.cells #[.int .i32 lo,.int .i32 hi] 113)).drewN nq).drew.ownsRow lo0 113 2 _ _ _):=kz (oz HA)
 have HVd:Hz (((w.alloc (.cells #[.int .i32 lo,.int .i32 hi] 113)).drewN nq).drew.ownsRow lo0 3 1 _ _ _):=kz (oz HV)
 have HSd:Hz (SetAt ((w.alloc (.cells #[.int .i32 lo,.int .i32 hi] 113)).drewN nq).drew B zs):=kz (oz HS (nq+1))
 have HBmd:Hz (Below w.heap.size w ((w.alloc (.cells #[.int .i32 lo,.int .i32 hi] 113)).drewN nq).drew):=kz (below_drewN (oz HBm) nq).drew
 clear HB HX HA HV HS HBm c0 c1 q0
 generalize (w.alloc (.cells #[.int .i32 lo,.int .i32 hi] 113)).drewN nq=wm at *
 have c0:=(show Blk wm B _ 149 from oz HBd).cell 0
 have c1:=(show Blk wm B _ 149 from oz HBd).cell 1
 have HS:=kz (zfD B zs wm.drew (oz HSd))
 have HLm:Hz (lo0≤wm.drew.heap.size):=kz (Nat.le_trans hl (oz HBmd).size)
 have hmx2:Tryz.prog.follows .mixedOrders=true:=by kernel_rfl
 go_region_law (first
  | (go_simp;refine (oz HS).mono ?_;rintro e w2 ⟨rfl,hb⟩;have b2:=(oz HBd).below hb (oz HBd).lt;have d0:=b2.cell 0;have d1:=b2.cell 1;have d3:=(b2.alloc (.cells #[.int .i64 (total zs)] 3)).cell 1)
  | (refine step_append_lies _ (by rfl) _ _ _ (by rfl) lo0 3 iI (.int .i64 0) 1 8 Tryz.underlying36 (oz HI).1 (oz HI).2.1 (oz HI).2.2.1 (oz HI).2.2.2 rfl (by omega) (.slice b zs.length cb) zs.length (ahs zs) (by rfl) ((zal (oz HVd) hb).alloc _) ⟨w2.heap.size,0,none⟩ 1 1 [.int .i64 (total zs)] (by rfl) (by simp) (zk3 w2 _) (by simp [Value.oneCell']) (by omega) (by have:=oz HZL;unfold maxLen;omega) (by have:=oz HZL;omega) (by have:=hb.size;have:=oz HLm;simp;omega) (w2.heap.size+1) (by simp) ?_;intro g1 cap1 w3 hown1 hgrow1 hat1 hlt1;have hm:=znd (oz HBd) (oz HXd) (oz HAd) (oz HVd) hb hgrow1;have e0:=hm.1.cell 0;have e1:=hm.1.cell 1;have e2:=hm.1.frozen 1))
 all_goals
  obtain ⟨w4,h4,hb4,hx4,ho4,ha4,hB4,hF4⟩:=zpC (oz HBd) (oz HXd) (oz HAd) (oz HVd) (oz HBmd) hb hgrow1 hlo hl (oz HNE) hown1
  rw [← h4]
  rw [zra zs (lo,hi)] at ho4
  have HB4:=kz hb4
  have HX4:=kz hx4
  have HO4:=kz ho4
  have HA4:=kz ha4
  have HL4:=kz hB4
  have HF4:=kz hF4
  have p0:=hb4.cell 0
  have p1:=(hb4.alloc (.cells #[.int .i32 lo,.int .i32 hi] 113)).cell 0
  have x0:=hx4.cell 0
  have x1:=hx4.cell 1
  clear h4 hb4 hx4 ho4 hB4 hF4 ha4 hown1 hgrow1 hat1 hlt1 hm e0 e1 e2 b2 d0 d1 d3 hb HS HBd HXd HAd HVd HSd HLm HBmd c0 c1
  go_wp2
  go_region_law (first
   | (refine step_append_lies _ (by rfl) _ _ _ (by rfl) lo0 113 iP (.agg #[.int .i32 0,.int .i32 0]) 2 8 Tryz.underlying23 (oz HP).1 (oz HP).2.1 (oz HP).2.2.1 (oz HP).2.2.2 rfl (by omega) (.slice (some ⟨g,0,none⟩) zs.length ca) zs.length (zdC zs) (by rfl) ((oz HA4).alloc _) ⟨w4.heap.size,0,none⟩ 1 1 (zdC [(lo,hi)]) (by rfl) (by simp [zdC]) (zkQ w4 (lo,hi)) (zgV _) (by omega) (by have:=oz HZL;unfold maxLen;omega) (by have:=oz HZL;omega) (by have:=(oz HL4).size;simp;omega) (w4.heap.size+1) (by simp) ?_;intro g5 cap5 w5 hown5 hgrow5 hat5 hlt5;have hm5:=(show Blk (w4.alloc (.cells #[.int .i32 lo,.int .i32 hi] 113)).drew B _ 149 from (oz HB4).alloc (.cells #[.int .i32 lo,.int .i32 hi] 113)).kept hgrow5 (zd2 (show (w4.alloc (.cells #[.int .i32 lo,.int .i32 hi] 113)).drew.ownsRow lo0 113 2 _ _ _ from (oz HA4).alloc (.cells #[.int .i32 lo,.int .i32 hi] 113)) (show Blk (w4.alloc (.cells #[.int .i32 lo,.int .i32 hi] 113)).drew B _ 149 from (oz HB4).alloc (.cells #[.int .i32 lo,.int .i32 hi] 113)) (by decide));have y0:=hm5.cell 0;have y1:=hm5.frozen 0))
  all_goals
   have HE:=kz (zo2 (x:=(lo,hi)) (oz HB4) (oz HO4) (oz HA4) (oz HL4) hl hlo hgrow5 hown5 (Pv:=fun X =>(Value.slice b zs.length cb).ownBlock≠some X) (oz HF4))
   go_end0
   exact ⟨⟨_,rfl⟩,(oz HE).1,(oz HE).2.1,fun X hX hXB hv =>(oz HE).2.2 X hX hXB (hv _ _ (oz HB0)).2 (hv _ _ (oz HB0)).1⟩
def Grows (W:World) (B lo0:Nat) (zs:List (Int × Int)):Prop:=Made W B lo0 zs∧(zs=[]→Blk W B #[.slice none 0 0,.slice none 0 0] 149)
theorem zno {W:World} {B lo0:Nat} {x:Int × Int} (h:Laid W B lo0 x) (hl:lo0≤B):Made W B lo0 [x]:=by
 obtain ⟨va,vb,h1,h2,h3⟩:=h
 exact ⟨⟨va,vb,h1,h2,h3⟩,hl⟩
theorem zko (zs:List (Int × Int)) (x:Int × Int):zh4 zs x≠[]:=by
 unfold zh4
 split
 ·split <;> simp
 ·simp
theorem zkn (B lo0:Nat) (zs:List (Int × Int)) (x:Int × Int) (hn:zs.length≤1000000) (hS:Spread zs) (hx:za8 x=true) (w:World) (hG:Grows w B lo0 zs) (hl:lo0≤w.heap.size) :
  Calls Tryz.prog 187 #[.pointer (some ⟨B,0,none⟩),zn4 x] w fun e w' =>(∃ r,e=.returned r)∧Grows w' B lo0 (zh4 zs x)∧Below lo0 w w'∧zkO w w' B:=by
 rcases List.eq_nil_or_concat zs with rfl | ⟨ys,y,rfl⟩
 ·refine (znk B lo0 x w (hG.2 rfl) hG.1.lo hl).mono fun e w' ⟨h1,h2,h3,h4⟩ =>⟨h1,⟨zno h2 hG.1.lo,fun h =>absurd h (zko _ _)⟩,h3,fun X hX hXB _ =>h4 X hX hXB⟩
 ·rw [List.concat_eq_append] at *
  have hn':ys.length≤1000000:=by simp at hn;omega
  by_cases t:zae x.1≤zae y.2+1
  ·exact (znj B lo0 ys y x hn' (hS.ends y (by simp)).1 hx t w hG.1 hl).mono fun e w' ⟨h1,h2,h3,h4⟩ =>⟨h1,⟨h2,fun h =>absurd h (zko _ _)⟩,h3,h4⟩
  ·exact (znl B lo0 ys y x hn' hS hx t w hG.1 hl).mono fun e w' ⟨h1,h2,h3,h4⟩ =>⟨h1,⟨h2,fun h =>absurd h (zko _ _)⟩,h3,h4⟩
theorem Grows.below {W W':World} {B lo0:Nat} {zs:List (Int × Int)} (h:Grows W B lo0 zs) (hb:Below W.heap.size W W'):Grows W' B lo0 zs:=⟨h.1.below hb,fun e =>(h.2 e).below hb (h.2 e).lt⟩
theorem zfU (W:World) (o:Obj) (ho:o=.cells #[.slice none 0 0,.slice none 0 0] 149):Grows (W.alloc o) W.heap.size W.heap.size []:=by
 subst ho
 have b:=Blk.new W #[.slice none 0 0,.slice none 0 0] 149
 exact ⟨⟨⟨_,_,b,World.ownsRow_nil _ _ _ _,World.ownsRow_nil _ _ _ _⟩,Nat.le_refl _⟩,fun _ =>b⟩
theorem zdS {d:List (Int × Int)} {k:Nat} {x:Int × Int} (h:d[k]?=some x):d.take (k+1)=d.take k++[x]:=by
 rw [List.take_add_one,h]
 rfl
end Go.Proofs.YtmemedpoaocdkaaGreat
