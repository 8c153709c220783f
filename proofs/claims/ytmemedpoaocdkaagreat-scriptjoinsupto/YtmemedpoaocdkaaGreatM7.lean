/- Texts of this claim, one behind the other. -/
import Derived.Test.YtmemedpoaocdkaaGreatM3
import Derived.Test.YtmemedpoaocdkaaGreatM5
import Derived.Test.YtmemedpoaocdkaaGreatM6
import Derived.Test.YtmemedpoaocdkaaGreatRuB
import Derived.Lib.QuietBelow
import Derived.BigQuiet
/- The reference's view of a table: mathematics, and a table as a value. -/
namespace Go.Proofs.YtmemedpoaocdkaaGreat
open Go.RowKit Go.Shelf
set_option linter.unusedVariables false
def NoneB {α : Type} (l:List α) (p : α→Bool) (k:Nat):Prop := ∀ j y,j < k→l[j]?=some y→p y=false
theorem NoneB.zero {α : Type} (l:List α) (p : α→Bool):NoneB l p 0:=fun j y h _ =>by omega
theorem NoneB.next {α : Type} {l:List α} {p : α→Bool} {k:Nat} {x : α} (h:NoneB l p k) (hx:l[k]?=some x) (hp:p x=false):NoneB l p (k+1):=fun j y hj hy =>by
 by_cases e:j=k
 ·subst e
  rw [hx] at hy
  injection hy with hy
  rw [← hy]
  exact hp
 ·exact h j y (by omega) hy
theorem NoneB.any {α : Type} {l:List α} {p : α→Bool} {k:Nat} (h:NoneB l p k) (hk:l.length≤k):l.any p=false:=by
 rw [List.any_eq_false]
 intro y hy
 obtain ⟨i,hi,e⟩:=List.getElem_of_mem hy
 have:=h i y (by omega) (by rw [List.getElem?_eq_getElem hi,e])
 rw [this]
 decide
theorem zex {α : Type} {l:List α} {p : α→Bool} {k:Nat} {x : α} (hx:l[k]?=some x) (hp:p x=true):l.any p=true:=List.any_eq_true.2 ⟨x,List.mem_of_getElem? hx,hp⟩
theorem NoneB.hit {α : Type} {p : α→Bool} {x : α}:∀ {l:List α} {k:Nat},NoneB l p k→l[k]?=some x→p x=true→l.find? p=some x
 | [],k,_,hx,_ =>by simp at hx
 | y::l,0,_,hx,hp =>by
  simp at hx
  subst hx
  rw [List.find?_cons,hp]
 | y::l,k+1,h,hx,hp =>by
  rw [List.find?_cons,h 0 y (by omega) rfl]
  exact NoneB.hit (l:=l) (k:=k) (fun j z hj hz =>h (j+1) z (by omega) (by simpa using hz)) (by simpa using hx) hp
def zeB {α : Type} (l:List α) (p : α→Bool):Int:=match l.findIdx? p with
 | some k =>(k:Int)
 | none => -1
theorem NoneB.idx {α : Type} {p : α→Bool} {x : α} {l:List α} {k:Nat} (h:NoneB l p k) (hx:l[k]?=some x) (hp:p x=true):zeB l p=(k:Int):=by
 have:l.findIdx? p=some k:=by
  obtain ⟨hk,e⟩:=List.getElem?_eq_some_iff.1 hx
  rw [List.findIdx?_eq_some_iff_getElem]
  refine ⟨hk,by rw [e];exact hp,fun j hj =>?_⟩
  rw [h j _ hj (List.getElem?_eq_getElem (by omega))]
  decide
 unfold zeB
 rw [this]
theorem NoneB.idx0 {α : Type} {p : α→Bool} {l:List α} {k:Nat} (h:NoneB l p k) (hk:l.length≤k):zeB l p = -1:=by
 have:l.findIdx? p=none:=by
  rw [List.findIdx?_eq_none_iff]
  intro y hy
  obtain ⟨i,hi,e⟩:=List.getElem_of_mem hy
  exact h i y (by omega) (by rw [List.getElem?_eq_getElem hi,e])
 unfold zeB
 rw [this]
theorem zgi {α : Type} (l:List α) (p : α→Bool):(zeB l p = -1∧l.any p=false∧l.find? p=none)∨∃ (k:Nat) (x : α),zeB l p=(k:Int)∧k < l.length∧l[k]?=some x∧p x=true∧l.any p=true∧l.find? p=some x∧NoneB l p k:=by
 cases h:l.findIdx? p with
 | none =>
  refine .inl ⟨by unfold zeB;rw [h], ?_, ?_⟩
  ·rw [List.findIdx?_eq_none_iff] at h
   rw [List.any_eq_false]
   intro x hx
   simp [h x hx]
  ·rw [List.findIdx?_eq_none_iff] at h
   rw [List.find?_eq_none]
   intro x hx
   simp [h x hx]
 | some k =>
  obtain ⟨hk,h1,h2⟩:=List.findIdx?_eq_some_iff_getElem.1 h
  have hx:l[k]?=some l[k]:=List.getElem?_eq_getElem hk
  have hn:NoneB l p k:=fun j y hj hy =>by
   rw [List.getElem?_eq_getElem (by omega)] at hy
   injection hy with hy
   rw [← hy]
   simpa using h2 j hj
  exact .inr ⟨k,l[k],by unfold zeB;rw [h],hk,hx,h1,zex hx h1,hn.hit hx h1,hn⟩
theorem zcH {α : Type} (l:List α) (p : α→Bool):decide (zeB l p < 0) = !l.any p:=by
 rcases zgi l p with ⟨e,h,_⟩ | ⟨k,x,e,hk,_,_,h,_⟩
 ·rw [e,h];decide
 ·rw [e,h];simp
def OkTo {α : Type} (l:List α) (d : α) (f : α→Int) (k:Nat):Prop := ∀ j,j < k→f (l.getD j d)=0
theorem OkTo.zero {α : Type} (l:List α) (d : α) (f : α→Int):OkTo l d f 0:=fun j h =>by omega
theorem OkTo.next {α : Type} {l:List α} {d : α} {f : α→Int} {k:Nat} {x : α} (h:OkTo l d f k) (hx:l[k]?=some x) (hf:f x=0):OkTo l d f (k+1):=fun j hj =>by
 by_cases e:j=k
 ·subst e
  rw [zce hx]
  exact hf
 ·exact h j (by omega)
theorem OkTo.bad {α : Type} {l:List α} {d : α} {f : α→Int} {k:Nat} {x : α} (h:OkTo l d f k) (hx:l[k]?=some x) (list:Int) (hf:f x≠0):zaf list l d f=(f x,list,(k:Int)):=by
 have:=zbf (list:=list) (n:=l.length) (f:=fun i =>f (l.getD i d)) k (List.getElem?_eq_some_iff.1 hx).1 h (by rw [zce hx];exact hf)
 rw [zce hx] at this
 exact this
theorem OkTo.ok {α : Type} {l:List α} {d : α} {f : α→Int} {k:Nat} (h:OkTo l d f k) (hk:l.length≤k) (list:Int):zaf list l d f=(0,0,0):=zbO (fun i hi =>h i (by omega))
def OkR (f:Nat→Int) (k:Nat):Prop := ∀ j,j < k→f j=0
theorem OkR.zero (f:Nat→Int):OkR f 0:=fun j h =>by omega
theorem OkR.next {f:Nat→Int} {k:Nat} (h:OkR f k) (hf:f k=0):OkR f (k+1):=fun j hj =>by
 by_cases e:j=k
 ·subst e;exact hf
 ·exact h j (by omega)
theorem zrd {W:World} {hi:Nat} {a:Option Addr} {zs:List (Int × Int)} {k:Nat} {x:Int × Int} (h:RowC W hi a (zdO zs)) (hx:zs[k]?=some x):∃ g o,a=some ⟨g,o,none⟩∧g < hi∧W.cell? ⟨g,o+k*2,none⟩=some (.int .i32 x.1)∧W.cell? ⟨g,o+k*2+1,none⟩=some (.int .i64 x.2):=by
 obtain ⟨e1,e2⟩:=zgW zs k x hx
 obtain ⟨g,o,e,hg,hc⟩:=h (by have:=(List.getElem?_eq_some_iff.1 e1).1;omega)
 exact ⟨g,o,e,hg,hc _ _ e1,by have:=hc _ _ e2;rwa [← Nat.add_assoc] at this⟩
theorem zrc {W:World} {hi:Nat} {a:Option Addr} {zs:List (Int × Int)} {k:Nat} {x:Int × Int} (h:RowC W hi a (zaW zs)) (hx:zs[k]?=some x):∃ g o,a=some ⟨g,o,none⟩∧g < hi∧W.cell? ⟨g,o+k*2,none⟩=some (.int .i32 x.1)∧W.cell? ⟨g,o+k*2+1,none⟩=some (.int .i32 x.2):=by
 obtain ⟨e1,e2⟩:=zfV zs k x hx
 obtain ⟨g,o,e,hg,hc⟩:=h (by have:=(List.getElem?_eq_some_iff.1 e1).1;omega)
 exact ⟨g,o,e,hg,hc _ _ e1,by have:=hc _ _ e2;rwa [← Nat.add_assoc] at this⟩
theorem zmk {W:World} {hi:Nat} {a:Option Addr} {zs:List (Int × ByteArray)} {k:Nat} {x:Int × ByteArray} (h:RowC W hi a (zbo zs)) (hx:zs[k]?=some x):∃ g o,a=some ⟨g,o,none⟩∧g < hi∧W.cell? ⟨g,o+k*2,none⟩=some (.int .i32 x.1)∧W.cell? ⟨g,o+k*2+1,none⟩=some (.string x.2):=by
 obtain ⟨e1,e2⟩:=zet zs k x hx
 obtain ⟨g,o,e,hg,hc⟩:=h (by have:=(List.getElem?_eq_some_iff.1 e1).1;omega)
 exact ⟨g,o,e,hg,hc _ _ e1,by have:=hc _ _ e2;rwa [← Nat.add_assoc] at this⟩
theorem zo8 {W:World} {hi:Nat} {a:Option Addr} {zs:List (Int × Int × Int)} {k:Nat} {x:Int × Int × Int} (h:RowC W hi a (zdb zs)) (hx:zs[k]?=some x):∃ g o,a=some ⟨g,o,none⟩∧g < hi∧W.cell? ⟨g,o+k*3,none⟩=some (.int .i32 x.1)∧W.cell? ⟨g,o+k*3+1,none⟩=some (.int .i32 x.2.1)∧W.cell? ⟨g,o+k*3+2,none⟩=some (.int .i32 x.2.2):=by
 obtain ⟨e1,e2,e3⟩:=zdH zs k x hx
 obtain ⟨g,o,e,hg,hc⟩:=h (by have:=(List.getElem?_eq_some_iff.1 e1).1;omega)
 exact ⟨g,o,e,hg,hc _ _ e1,by have:=hc _ _ e2;rwa [← Nat.add_assoc] at this,by have:=hc _ _ e3;rwa [← Nat.add_assoc] at this⟩
structure TbA where
 a0:Option Addr
 a1:Option Addr
 a2:Option Addr
 a3:Option Addr
 a4:Option Addr
 a5:Option Addr
 a6:Option Addr
 a7:Option Addr
 c0:Nat
 c1:Nat
 c2:Nat
 c3:Nat
 c4:Nat
 c5:Nat
 c6:Nat
 c7:Nat
 us:List Value
abbrev zhK (W:World) (T:TV) (A:TbA):Prop:=TabIn W T A.a0 A.a1 A.a2 A.a3 A.a4 A.a5 A.a6 A.a7 A.us
theorem zo7 {W:World} {T:TV} {A:TbA} {k:Nat} {x:ByteArray × List (Int × Int)} (h:zhK W T A) (hx:T.sc[k]?=some x):∃ g o b d,A.a0=some ⟨g,o,none⟩∧g < W.heap.size∧W.cell? ⟨g,o+k*2,none⟩=some (.string x.1)∧W.cell? ⟨g,o+k*2+1,none⟩=some (.slice b x.2.length d)∧RowC W W.heap.size b (zaW x.2):=by
 have hk:=(List.getElem?_eq_some_iff.1 hx).1
 obtain ⟨u,hu⟩:∃ u,A.us[k]?=some u:=⟨_,List.getElem?_eq_getElem (by rw [h.lu];exact hk)⟩
 obtain ⟨b,d,rfl,hr⟩:=h.rs k x u hx hu
 have e1:=zjB T.sc A.us h.lu k x hx
 have e2:=(zdG T.sc A.us h.lu k).trans hu
 obtain ⟨g,o,e,hg,hc⟩:=h.r0 (by have:=(List.getElem?_eq_some_iff.1 e1).1;omega)
 refine ⟨g,o,b,d,e,hg,hc _ _ e1, ?_,hr⟩
 have:=hc _ _ e2
 rw [show o+(2*k+1)=o+k*2+1 by omega] at this
 exact this
def TbV (W:World) (T:TV) (v:Value):Prop := ∃ A,v=.agg #[.slice A.a0 T.sc.length A.c0,.slice A.a1 T.co.length A.c1,.slice A.a2 T.ma.length A.c2,.slice A.a3 T.pr.length A.c3,.slice A.a4 T.fo.length A.c4,.slice A.a5 T.lk.length A.c5,.slice A.a6 T.dr.length A.c6,.slice A.a7 T.al.length A.c7]∧zhK W T A
theorem TbV.below {W W':World} {T:TV} {v:Value} (h:TbV W T v) (hb:Below W.heap.size W W'):TbV W' T v:=by
 obtain ⟨A,e,h⟩:=h
 exact ⟨A,e,h.lower hb⟩
structure TbX (W w:World) (T:TV) (A:TbA):Prop where
 bl:Below W.heap.size W w
 bx:Blk w W.heap.size #[.slice A.a0 T.sc.length A.c0,.slice A.a1 T.co.length A.c1,.slice A.a2 T.ma.length A.c2,.slice A.a3 T.pr.length A.c3,.slice A.a4 T.fo.length A.c4,.slice A.a5 T.lk.length A.c5,.slice A.a6 T.dr.length A.c6,.slice A.a7 T.al.length A.c7] 28
 ti:zhK w T A
section
variable {W w w':World} {T:TV} {A:TbA}
theorem TbX.below (h:TbX W w T A) (hb:Below w.heap.size w w'):TbX W w' T A:=⟨h.bl.trans (hb.mono h.bl.size),h.bx.below hb h.bx.lt,h.ti.lower hb⟩
theorem TbX.start (h:zhK W T A):TbX W (W.alloc (.cells #[.slice A.a0 T.sc.length A.c0,.slice A.a1 T.co.length A.c1,.slice A.a2 T.ma.length A.c2,.slice A.a3 T.pr.length A.c3,.slice A.a4 T.fo.length A.c4,.slice A.a5 T.lk.length A.c5,.slice A.a6 T.dr.length A.c6,.slice A.a7 T.al.length A.c7] 28)) T A :=
 have hB:Below W.heap.size W (W.alloc (.cells #[.slice A.a0 T.sc.length A.c0,.slice A.a1 T.co.length A.c1,.slice A.a2 T.ma.length A.c2,.slice A.a3 T.pr.length A.c3,.slice A.a4 T.fo.length A.c4,.slice A.a5 T.lk.length A.c5,.slice A.a6 T.dr.length A.c6,.slice A.a7 T.al.length A.c7] 28)):=(Below.refl _ W).alloc (Nat.le_refl _) _
 ⟨hB,Blk.new W _ _,h.lower hB⟩
theorem TbX.tv (h:TbX W w T A):TbV w T (.agg #[.slice A.a0 T.sc.length A.c0,.slice A.a1 T.co.length A.c1,.slice A.a2 T.ma.length A.c2,.slice A.a3 T.pr.length A.c3,.slice A.a4 T.fo.length A.c4,.slice A.a5 T.lk.length A.c5,.slice A.a6 T.dr.length A.c6,.slice A.a7 T.al.length A.c7]):=⟨A,rfl,h.ti⟩
theorem TbX.z0 (h:TbX W w T A):w.cell? ⟨W.heap.size,0,none⟩=some (.slice A.a0 T.sc.length A.c0):=h.bx.cell 0
theorem TbX.z1 (h:TbX W w T A):w.cell? ⟨W.heap.size,1,none⟩=some (.slice A.a1 T.co.length A.c1):=h.bx.cell 1
theorem TbX.z2 (h:TbX W w T A):w.cell? ⟨W.heap.size,2,none⟩=some (.slice A.a2 T.ma.length A.c2):=h.bx.cell 2
theorem TbX.z3 (h:TbX W w T A):w.cell? ⟨W.heap.size,3,none⟩=some (.slice A.a3 T.pr.length A.c3):=h.bx.cell 3
theorem TbX.z4 (h:TbX W w T A):w.cell? ⟨W.heap.size,4,none⟩=some (.slice A.a4 T.fo.length A.c4):=h.bx.cell 4
theorem TbX.z5 (h:TbX W w T A):w.cell? ⟨W.heap.size,5,none⟩=some (.slice A.a5 T.lk.length A.c5):=h.bx.cell 5
theorem TbX.z6 (h:TbX W w T A):w.cell? ⟨W.heap.size,6,none⟩=some (.slice A.a6 T.dr.length A.c6):=h.bx.cell 6
theorem TbX.z7 (h:TbX W w T A):w.cell? ⟨W.heap.size,7,none⟩=some (.slice A.a7 T.al.length A.c7):=h.bx.cell 7
end
abbrev wrC (x:Int × Int × Int):Array Value:=#[.int .i64 x.1,.int .i64 x.2.1,.int .i64 x.2.2]
structure RxS (W w:World) (T:TV) (A:TbA):Prop where
 tb:TbX W w T A
 rs:Blk w (W.heap.size+1) #[.int .i64 0,.int .i64 0,.int .i64 0] 76
theorem RxS.below {W w w':World} {T:TV} {A:TbA} (h:RxS W w T A) (hb:Below w.heap.size w w'):RxS W w' T A:=⟨h.tb.below hb,h.rs.below hb h.rs.lt⟩
theorem RxS.start {W:World} {T:TV} {A:TbA} (h:zhK W T A):RxS W ((W.alloc (.cells #[.slice A.a0 T.sc.length A.c0,.slice A.a1 T.co.length A.c1,.slice A.a2 T.ma.length A.c2,.slice A.a3 T.pr.length A.c3,.slice A.a4 T.fo.length A.c4,.slice A.a5 T.lk.length A.c5,.slice A.a6 T.dr.length A.c6,.slice A.a7 T.al.length A.c7] 28)).alloc (.cells #[.int .i64 0,.int .i64 0,.int .i64 0] 76)) T A :=
 have hX:=TbX.start h
 ⟨hX.below ((Below.refl _ _).alloc (Nat.le_refl _) _),by
  have h:=Blk.new (W.alloc (.cells #[.slice A.a0 T.sc.length A.c0,.slice A.a1 T.co.length A.c1,.slice A.a2 T.ma.length A.c2,.slice A.a3 T.pr.length A.c3,.slice A.a4 T.fo.length A.c4,.slice A.a5 T.lk.length A.c5,.slice A.a6 T.dr.length A.c6,.slice A.a7 T.al.length A.c7] 28)) #[.int .i64 0,.int .i64 0,.int .i64 0] 76
  rw [World.size_alloc] at h
  exact h⟩
structure RxD (W w:World) (x:Int × Int × Int):Prop where
 bl:Below W.heap.size W w
 rs:Blk w (W.heap.size+1) (wrC x) 76
theorem RxS.put {W w:World} {T:TV} {A:TbA} (h:RxS W w T A) (x:Int × Int × Int):RxD W (((w.setCell ⟨W.heap.size+1,0,none⟩ (.int .i64 x.1)).setCell ⟨W.heap.size+1,1,none⟩ (.int .i64 x.2.1)).setCell ⟨W.heap.size+1,2,none⟩ (.int .i64 x.2.2)) x :=
 ⟨za0 h.tb.bl (by omega) h.tb.bl.size _ _ _,zcw h.rs _ _ _⟩
structure RxT (W w0 w:World) (T:TV) (A:TbA):Prop where
 rx:RxS W w T A
 fr:Below w0.heap.size w0 w
theorem RxT.refl {W w:World} {T:TV} {A:TbA} (h:RxS W w T A):RxT W w w T A:=⟨h,Below.refl _ _⟩
theorem RxT.below {W w0 w w':World} {T:TV} {A:TbA} (h:RxT W w0 w T A) (hb:Below w.heap.size w w'):RxT W w0 w' T A:=⟨h.rx.below hb,h.fr.trans (hb.mono h.fr.size)⟩
theorem RxT.put {W w0 w:World} {T:TV} {A:TbA} (h:RxT W w0 w T A) (y l k:Int):RxD W (((w.setCell ⟨W.heap.size+1,0,none⟩ (.int .i64 y)).setCell ⟨W.heap.size+1,1,none⟩ (.int .i64 l)).setCell ⟨W.heap.size+1,2,none⟩ (.int .i64 k)) (y,l,k):=h.rx.put (y,l,k)
theorem zbm {w w':World} {g i:Nat} {v:Value} (h:w.cell? ⟨g,i,none⟩=some v) (hb:Below w.heap.size w w') (hg:g < w.heap.size):w'.cell? ⟨g,i,none⟩=some v:=(hb.cell (p:=⟨g,i,none⟩) hg).trans h
set_option maxRecDepth 100000 in
theorem zaw (r:Int) (w:World):Calls Tryz.prog 62 #[.int .i32 r] w fun e w' =>e=.returned (.bool (zaq r))∧w'=w:=by
 by_cases h0:0≤r
 ·by_cases h1:r≤1114111
  ·by_cases h2:r < 55296
   ·have e:zaq r=true:=decide_eq_true ⟨h0,h1,.inl h2⟩
    rw [e]
    clear e
    go_enter Tryz.func62,Tryz.ntmps62
    go_wp2_with fail
    go_ret
    exact ⟨rfl,rfl⟩
   ·by_cases h3:57343 < r
    ·have e:zaq r=true:=decide_eq_true ⟨h0,h1,.inr h3⟩
     rw [e]
     clear e
     go_enter Tryz.func62,Tryz.ntmps62
     go_wp2_with fail
     go_ret
     exact ⟨rfl,rfl⟩
    ·have e:zaq r=false:=decide_eq_false (by omega)
     rw [e]
     clear e
     go_enter Tryz.func62,Tryz.ntmps62
     go_wp2_with fail
     go_ret
     exact ⟨rfl,rfl⟩
  ·have e:zaq r=false:=decide_eq_false (by omega)
   rw [e]
   clear e
   go_enter Tryz.func62,Tryz.ntmps62
   go_wp2_with fail
   go_ret
   exact ⟨rfl,rfl⟩
 ·have e:zaq r=false:=decide_eq_false (by omega)
  rw [e]
  clear e
  go_enter Tryz.func62,Tryz.ntmps62
  go_wp2_with fail
  go_ret
  exact ⟨rfl,rfl⟩
set_option maxRecDepth 100000 in
set_option maxHeartbeats 8000000 in
theorem zfa (T:TV) (hT:T.ma.length≤1048576) (v:Value) (r:Int) (W:World) (hv:TbV W T v) :
  Calls Tryz.prog 87 #[v,.int .i32 r] W fun e w' =>e=.returned (.bool (za9 T r))∧Below W.heap.size W w':=by
 obtain ⟨A,rfl,hA⟩:=hv
 have HX:=kz (TbX.start hA)
 have HV:Hz (T.ma.any (fun x =>x.1 == r)=za9 T r):=kz rfl
 generalize za9 T r=mb at *
 clear hA
 go_enter Tryz.func87,Tryz.ntmps87
 go_wp2_with fail
 generalize W.alloc (.cells #[.slice A.a0 T.sc.length A.c0,.slice A.a1 T.co.length A.c1,.slice A.a2 T.ma.length A.c2,.slice A.a3 T.pr.length A.c3,.slice A.a4 T.fo.length A.c4,.slice A.a5 T.lk.length A.c5,.slice A.a6 T.dr.length A.c6,.slice A.a7 T.al.length A.c7] 28)=w0 at *
 go_loopw [5] (fun i wr => ∃ k:Nat,k≤T.ma.length∧i=.int .i64 k∧Hz (NoneB T.ma (fun x =>x.1 == r) k)∧Hz (TbX W wr T A)) (fun i _ =>T.ma.length - (intOf i).toNat)
 case atStart =>exact ⟨0,Nat.zero_le _,rfl,kz (NoneB.zero _ _),HX⟩
 case round =>
  clear HX
  obtain ⟨k,hk,rfl,HN,HX⟩:=hrel
  have z:=(oz HX).z2
  by_cases hkn:k < T.ma.length
  ·obtain ⟨x,hx⟩:∃ x,T.ma[k]?=some x:=⟨_,List.getElem?_eq_getElem hkn⟩
   obtain ⟨g,o,ea,hg,c0,c1⟩:=zrd (oz HX).ti.r2 hx
   rw [ea] at z
   have HK:=kz hx
   have k1:(k:Int) < (T.ma.length:Int):=by omega
   have k2:((k:Nat):Int).toNat=k:=by omega
   clear hg ea hx
   by_cases hc:x.1=r
   ·obtain rfl:=hc
    have e0:(x.1 == x.1)=true:=by simp
    have hm:mb=true:=by rw [← oz HV];exact zex (oz HK) (by simp)
    subst hm
    clear HV HK HN
    go_wp2_with fail
    go_ret
    exact ⟨rfl,(oz HX).bl⟩
   ·have e0:(x.1 == r)=false:=by simpa using hc
    have HN2:=kz ((oz HN).next (oz HK) (by simpa using hc))
    clear HK HN
    go_wp2_with fail
    exact ⟨⟨k+1,by omega,by first | rfl | go_num,HN2,HX⟩,by simp [intOf];omega⟩

  ·have k1:¬ (k:Int) < (T.ma.length:Int):=by omega
   have hm:mb=false:=by rw [← oz HV];exact (oz HN).any (by omega)
   subst hm
   clear HV HN
   go_wp2_with fail
   go_ret
   exact ⟨rfl,(oz HX).bl⟩
set_option maxRecDepth 100000 in
set_option maxHeartbeats 8000000 in
theorem zek (T:TV) (hT:T.pr.length≤1048576) (v:Value) (r:Int) (W:World) (hv:TbV W T v) :
  Calls Tryz.prog 89 #[v,.int .i32 r] W fun e w' =>e=.returned (.int .i64 (zeB T.pr (fun x =>x.1 == r)))∧Below W.heap.size W w':=by
 obtain ⟨A,rfl,hA⟩:=hv
 have HX:=kz (TbX.start hA)
 have HV:∃ mb,Hz (zeB T.pr (fun x =>x.1 == r)=mb):=⟨_,kz rfl⟩
 obtain ⟨mb,HV⟩:=HV
 rw [oz HV]
 clear hA
 go_enter Tryz.func89,Tryz.ntmps89
 go_wp2_with fail
 generalize W.alloc (.cells #[.slice A.a0 T.sc.length A.c0,.slice A.a1 T.co.length A.c1,.slice A.a2 T.ma.length A.c2,.slice A.a3 T.pr.length A.c3,.slice A.a4 T.fo.length A.c4,.slice A.a5 T.lk.length A.c5,.slice A.a6 T.dr.length A.c6,.slice A.a7 T.al.length A.c7] 28)=w0 at *
 go_loopw [5] (fun i wr => ∃ k:Nat,k≤T.pr.length∧i=.int .i64 k∧Hz (NoneB T.pr (fun x =>x.1 == r) k)∧Hz (TbX W wr T A)) (fun i _ =>T.pr.length - (intOf i).toNat)
 case atStart =>exact ⟨0,Nat.zero_le _,rfl,kz (NoneB.zero _ _),HX⟩
 case round =>
  clear HX
  obtain ⟨k,hk,rfl,HN,HX⟩:=hrel
  have z:=(oz HX).z3
  by_cases hkn:k < T.pr.length
  ·obtain ⟨x,hx⟩:∃ x,T.pr[k]?=some x:=⟨_,List.getElem?_eq_getElem hkn⟩
   obtain ⟨g,o,ea,hg,c0,c1,c2⟩:=zo8 (oz HX).ti.r3 hx
   rw [ea] at z
   have HK:=kz hx
   have k1:(k:Int) < (T.pr.length:Int):=by omega
   have k2:((k:Nat):Int).toNat=k:=by omega
   clear hg ea hx
   by_cases hc:x.1=r
   ·obtain rfl:=hc
    have e0:(x.1 == x.1)=true:=by simp
    have hm:mb=(k:Int):=by rw [← oz HV];exact (oz HN).idx (oz HK) (by simp)
    subst hm
    clear HV HK HN
    go_wp2_with fail
    go_ret
    exact ⟨rfl,(oz HX).bl⟩
   ·have e0:(x.1 == r)=false:=by simpa using hc
    have HN2:=kz ((oz HN).next (oz HK) (by simpa using hc))
    clear HK HN
    go_wp2_with fail
    exact ⟨⟨k+1,by omega,by first | rfl | go_num,HN2,HX⟩,by simp [intOf];omega⟩

  ·have k1:¬ (k:Int) < (T.pr.length:Int):=by omega
   have hm:mb = -1:=by rw [← oz HV];exact (oz HN).idx0 (by omega)
   subst hm
   clear HV HN
   go_wp2_with fail
   go_ret
   exact ⟨rfl,(oz HX).bl⟩
set_option maxRecDepth 100000 in
set_option maxHeartbeats 8000000 in
theorem zci (l:List (Int × ByteArray)) (hl:l.length≤1048576) (a:Option Addr) (c:Nat) (r:Int) (W:World) (hv:RowC W W.heap.size a (zbo l)) :
  Calls Tryz.prog 86 #[.slice a l.length c,.int .i32 r] W fun e w' =>e=.returned (.int .i64 (zeB l (fun x =>x.1 == r)))∧w'=W:=by
 have HL:=kz hv
 have HV:∃ mb,Hz (zeB l (fun x =>x.1 == r)=mb):=⟨_,kz rfl⟩
 obtain ⟨mb,HV⟩:=HV
 rw [oz HV]
 clear hv
 go_enter Tryz.func86,Tryz.ntmps86
 go_wp2_with fail
 go_loopw [5] (fun i wr => ∃ k:Nat,k≤l.length∧i=.int .i64 k∧Hz (NoneB l (fun x =>x.1 == r) k)∧wr=W) (fun i _ =>l.length - (intOf i).toNat)
 case atStart =>exact ⟨0,Nat.zero_le _,rfl,kz (NoneB.zero _ _),rfl⟩
 case round =>
  obtain ⟨k,hk,rfl,HN,rfl⟩:=hrel
  by_cases hkn:k < l.length
  ·obtain ⟨x,hx⟩:∃ x,l[k]?=some x:=⟨_,List.getElem?_eq_getElem hkn⟩
   obtain ⟨g,o,rfl,hg,c0,c1⟩:=zmk (oz HL) hx
   have HK:=kz hx
   have k1:(k:Int) < (l.length:Int):=by omega
   have k2:((k:Nat):Int).toNat=k:=by omega
   clear hg hx
   by_cases hc:x.1=r
   ·obtain rfl:=hc
    have e0:(x.1 == x.1)=true:=by simp
    have hm:mb=(k:Int):=by rw [← oz HV];exact (oz HN).idx (oz HK) (by simp)
    subst hm
    clear HV HK HN
    go_wp2_with fail
    go_ret
    exact ⟨rfl,rfl⟩
   ·have e0:(x.1 == r)=false:=by simpa using hc
    have HN2:=kz ((oz HN).next (oz HK) (by simpa using hc))
    clear HK HN
    go_wp2_with fail
    exact ⟨⟨k+1,by omega,by first | rfl | go_num,HN2,by first | trivial | rfl⟩,by simp [intOf];omega⟩
  ·have k1:¬ (k:Int) < (l.length:Int):=by omega
   have hm:mb = -1:=by rw [← oz HV];exact (oz HN).idx0 (by omega)
   subst hm
   clear HV HN
   go_wp2_with fail
   go_ret
   exact ⟨rfl,rfl⟩
set_option maxRecDepth 100000 in
set_option maxHeartbeats 8000000 in
theorem zem (l:List (Int × Int)) (hl:l.length≤1048576) (a:Option Addr) (c:Nat) (r:Int) (W:World) (hv:RowC W W.heap.size a (zaW l)) :
  Calls Tryz.prog 40 #[.int .i32 r,.slice a l.length c] W fun e w' =>e=.returned (.bool (zan l r))∧w'=W:=by
 have HL:=kz hv
 have HV:∃ mb,Hz ((l.any (fun x =>decide (x.1≤r∧r≤x.2)) && zaq r)=mb):=⟨_,kz rfl⟩
 obtain ⟨mb,HV⟩:=HV
 rw [show zan l r=mb from oz HV]
 have HR:=kz (zaw r)
 clear hv
 cases hr:zaq r with
 | true =>
  rw [hr] at HR HV
  clear hr
  go_enter Tryz.func40,Tryz.ntmps40
  go_wp2_with fail
  go_loopw [5] (fun i wr => ∃ k:Nat,k≤l.length∧i=.int .i64 k∧Hz (NoneB l (fun x =>decide (x.1≤r∧r≤x.2)) k)∧wr=W) (fun i _ =>l.length - (intOf i).toNat)
  case atStart =>exact ⟨0,Nat.zero_le _,rfl,kz (NoneB.zero _ _),rfl⟩
  case round =>
   obtain ⟨k,hk,rfl,HN,rfl⟩:=hrel
   by_cases hkn:k < l.length
   ·obtain ⟨x,hx⟩:∃ x,l[k]?=some x:=⟨_,List.getElem?_eq_getElem hkn⟩
    obtain ⟨g,o,rfl,hg,c0,c1⟩:=zrc (oz HL) hx
    have HK:=kz hx
    have k1:(k:Int) < (l.length:Int):=by omega
    have k2:((k:Nat):Int).toNat=k:=by omega
    clear hg hx
    by_cases h0:x.1≤r
    ·by_cases h1:r≤x.2
     ·have hm:mb=true:=by rw [← oz HV,zex (oz HK) (by simp [h0,h1])];rfl
      subst hm
      clear HV HK HN
      go_wp2_with fail
      refine (oz HR _).mono ?_
      rintro e w1 ⟨rfl,rfl⟩
      go_wp2_with fail
      go_ret
      exact ⟨rfl,rfl⟩
     ·have HN2:=kz ((oz HN).next (oz HK) (by simp [h1]))
      clear HK HN
      go_wp2_with fail
      refine (oz HR _).mono ?_
      rintro e w1 ⟨rfl,rfl⟩
      go_wp2_with fail
      exact ⟨⟨k+1,by omega,by first | rfl | go_num,HN2,by first | trivial | rfl⟩,by simp [intOf];omega⟩
    ·have HN2:=kz ((oz HN).next (oz HK) (by simp [h0]))
     clear HK HN
     go_wp2_with fail
     refine (oz HR _).mono ?_
     rintro e w1 ⟨rfl,rfl⟩
     go_wp2_with fail
     exact ⟨⟨k+1,by omega,by first | rfl | go_num,HN2,by first | trivial | rfl⟩,by simp [intOf];omega⟩
   ·have k1:¬ (k:Int) < (l.length:Int):=by omega
    have hm:mb=false:=by rw [← oz HV,(oz HN).any (by omega)];rfl
    subst hm
    clear HV HN
    go_wp2_with fail
    go_ret
    exact ⟨rfl,rfl⟩
 | false =>
  rw [hr] at HR HV
  clear hr
  go_enter Tryz.func40,Tryz.ntmps40
  go_wp2_with fail
  go_loopw [5] (fun i wr => ∃ k:Nat,k≤l.length∧i=.int .i64 k∧Hz (NoneB l (fun _ =>false) k)∧wr=W) (fun i _ =>l.length - (intOf i).toNat)
  case atStart =>exact ⟨0,Nat.zero_le _,rfl,kz (NoneB.zero _ _),rfl⟩
  case round =>
   obtain ⟨k,hk,rfl,HN,rfl⟩:=hrel
   by_cases hkn:k < l.length
   ·obtain ⟨x,hx⟩:∃ x,l[k]?=some x:=⟨_,List.getElem?_eq_getElem hkn⟩
    obtain ⟨g,o,rfl,hg,c0,c1⟩:=zrc (oz HL) hx
    have HK:=kz hx
    have k1:(k:Int) < (l.length:Int):=by omega
    have k2:((k:Nat):Int).toNat=k:=by omega
    clear hg hx
    have HN2:Hz (NoneB l (fun _ =>false) (k+1)):=kz (fun _ _ _ _ =>rfl)
    clear HK HN
    go_wp2_with fail
    refine (oz HR _).mono ?_
    rintro e w1 ⟨rfl,rfl⟩
    go_wp2_with fail
    exact ⟨⟨k+1,by omega,by first | rfl | go_num,HN2,by first | trivial | rfl⟩,by simp [intOf];omega⟩
   ·have k1:¬ (k:Int) < (l.length:Int):=by omega
    have hm:mb=false:=by rw [← oz HV];simp
    subst hm
    clear HV HN
    go_wp2_with fail
    go_ret
    exact ⟨rfl,rfl⟩
theorem zfK {l:List (Int × Int)} {k:Nat} {x y:Int × Int} (hx:l[k+1]?=some x) (hy:l[k]?=some y):zaV l (k+1)=if zbi x≠0 then zbi x else if x.1≤y.2 then 13 else 0:=by
 unfold zaV
 rw [zce hx,show k+1 - 1=k from rfl,zce hy]
 by_cases h:zbi x≠0
 ·rw [if_pos h,if_pos h]
 ·rw [if_neg h,if_neg h]
  by_cases h2:x.1≤y.2
  ·rw [if_pos ⟨by omega,h2⟩,if_pos h2]
  ·rw [if_neg (fun e =>h2 e.2),if_neg h2]
theorem zee {l:List (Int × Int)} {x:Int × Int} (hx:l[0]?=some x):zaV l 0=zbi x:=by
 unfold zaV
 rw [zce hx]
 by_cases h:zbi x≠0
 ·rw [if_pos h]
 ·rw [if_neg h,if_neg (fun e =>absurd e.1 (by omega))]
  exact (Decidable.not_not.1 h).symm
set_option maxRecDepth 100000 in
set_option maxHeartbeats 8000000 in
theorem zlC (l:List (Int × Int)) (hl:l.length≤1048576) (a:Option Addr) (c:Nat) (k:Nat) (hk:k < l.length) (W:World) (hv:RowC W W.heap.size a (zaW l)) :
  Calls Tryz.prog 162 #[.slice a l.length c,.int .i64 k] W fun e w' =>e=.returned (.int .i64 (zaV l k))∧Below W.heap.size W w':=by
 obtain ⟨x,hx⟩:∃ x,l[k]?=some x:=⟨_,List.getElem?_eq_getElem hk⟩
 obtain ⟨g,o,rfl,hg,c0,c1⟩:=zrc hv hx
 have q0:=cell_regrown c0
 have q1:=cell_regrown c1
 have k1:(k:Int) < (l.length:Int):=by omega
 have k2:((k:Nat):Int).toNat=k:=by omega
 rcases k with _ | k
 ·have c0':W.cell? ⟨g,o,none⟩=some (.int .i32 x.1):=by simpa using c0
  have c1':W.cell? ⟨g,o+1,none⟩=some (.int .i32 x.2):=by simpa using c1
  have q0':=cell_regrown c0'
  have q1':=cell_regrown c1'
  clear hv hk k2
  cases r0:zaq x.1 with
  | false =>
   have hm:zaV l 0=12:=by rw [zee hx];unfold zbi za8;simp [r0]
   rw [hm]
   have HA:=kz (fun w =>by have:=zaw x.1 w;rwa [r0] at this)
   clear hx hl
   clear hm
   go_enter Tryz.func162,Tryz.ntmps162
   go_wp2_with fail
   refine (oz HA _).mono ?_
   rintro e wx ⟨rfl,hw⟩
   rw [hw]
   clear hw wx
   go_wp2_with fail
   go_ret
   exact ⟨rfl,Below.refl _ _⟩
  | true =>
   cases r1:zaq x.2 with
   | false =>
    have hm:zaV l 0=12:=by rw [zee hx];unfold zbi za8;simp [r0,r1]
    rw [hm]
    have HA:=kz (fun w =>by have:=zaw x.1 w;rwa [r0] at this)
    have HB:=kz (fun w =>by have:=zaw x.2 w;rwa [r1] at this)
    clear hx hl
    clear hm
    go_enter Tryz.func162,Tryz.ntmps162
    go_wp2_with fail
    refine (oz HA _).mono ?_
    rintro e wx ⟨rfl,hw⟩
    rw [hw]
    clear hw wx
    go_wp2_with fail
    refine (oz HB _).mono ?_
    rintro e wx ⟨rfl,hw⟩
    rw [hw]
    clear hw wx
    go_wp2_with fail
    go_ret
    exact ⟨rfl,Below.refl _ _⟩
   | true =>
    have HA:=kz (fun w =>by have:=zaw x.1 w;rwa [r0] at this)
    have HB:=kz (fun w =>by have:=zaw x.2 w;rwa [r1] at this)
    by_cases h2:x.2 < x.1
    ·have hm:zaV l 0=11:=by rw [zee hx];unfold zbi za8;simp [r0,r1,h2]
     rw [hm]
     clear hx hl
     clear hm
     go_enter Tryz.func162,Tryz.ntmps162
     go_wp2_with fail
     refine (oz HA _).mono ?_
     rintro e wx ⟨rfl,hw⟩
     rw [hw]
     clear hw wx
     go_wp2_with fail
     refine (oz HB _).mono ?_
     rintro e wx ⟨rfl,hw⟩
     rw [hw]
     clear hw wx
     go_wp2_with fail
     refine wp_region_quiet_below (by kernel_rfl) (by kernel_rfl) ?_
     repeat (go_big_quiet_step (fail))
     first | refine wpQuiet_nil ?_ | skip
     rintro w' ⟨p,rfl⟩
     have HBq:=kz (below_regrown W p.d p.os)
     generalize Go.Sort.grow (redrawn W p.d) p.os=w1 at *
     go_wp2_with fail
     go_ret
     exact ⟨rfl,oz HBq⟩
    ·have hm:zaV l 0=0:=by rw [zee hx];unfold zbi za8;simp [r0,r1,h2]
     rw [hm]
     clear hx hl
     clear hm
     go_enter Tryz.func162,Tryz.ntmps162
     go_wp2_with fail
     refine (oz HA _).mono ?_
     rintro e wx ⟨rfl,hw⟩
     rw [hw]
     clear hw wx
     go_wp2_with fail
     refine (oz HB _).mono ?_
     rintro e wx ⟨rfl,hw⟩
     rw [hw]
     clear hw wx
     go_wp2_with fail
     refine wp_region_quiet_below (by kernel_rfl) (by kernel_rfl) ?_
     repeat (go_big_quiet_step (fail))
     first | refine wpQuiet_nil ?_ | skip
     rintro w' ⟨p,rfl⟩
     have HBq:=kz (below_regrown W p.d p.os)
     generalize Go.Sort.grow (redrawn W p.d) p.os=w1 at *
     clear q0 q1 q0' q1'
     go_wp2_with fail
     refine wp_region_quiet_below (by kernel_rfl) (by kernel_rfl) ?_
     repeat (go_big_quiet_step (fail))
     first | refine wpQuiet_nil ?_ | skip
     rintro w' ⟨p,rfl⟩
     have HBr:=kz (below_regrown w1 p.d p.os)
     generalize Go.Sort.grow (redrawn w1 p.d) p.os=w2 at *
     go_wp2_with fail
     go_ret
     exact ⟨rfl,(oz HBq).trans ((oz HBr).mono (oz HBq).size)⟩
 ·obtain ⟨y,hy⟩:∃ y,l[k]?=some y:=⟨_,List.getElem?_eq_getElem (by omega)⟩
  obtain ⟨g',o',e,_,d0,d1⟩:=zrc hv hy
  injection e with e
  injection e with e1 e2
  subst e1 e2
  have k3:(((k+1:Nat):Int) - 1)=(k:Int):=by omega
  have k4:(k:Int) < (l.length:Int):=by omega
  have k5:((k:Nat):Int).toNat=k:=by omega
  have k6:(0:Int) < ((k+1:Nat):Int):=by omega
  have k7:wrap64 (k:Int)=(k:Int):=by unfold wrap64;omega
  clear hv hk d0
  cases r0:zaq x.1 with
  | false =>
   have hm:zaV l (k+1)=12:=by rw [zfK hx hy];unfold zbi za8;simp [r0]
   rw [hm]
   have HA:=kz (fun w =>by have:=zaw x.1 w;rwa [r0] at this)
   clear hx hy hl
   clear hm
   go_enter Tryz.func162,Tryz.ntmps162
   go_wp2_with fail
   refine (oz HA _).mono ?_
   rintro e wx ⟨rfl,hw⟩
   rw [hw]
   clear hw wx
   go_wp2_with fail
   go_ret
   exact ⟨rfl,Below.refl _ _⟩
  | true =>
   cases r1:zaq x.2 with
   | false =>
    have hm:zaV l (k+1)=12:=by rw [zfK hx hy];unfold zbi za8;simp [r0,r1]
    rw [hm]
    have HA:=kz (fun w =>by have:=zaw x.1 w;rwa [r0] at this)
    have HB:=kz (fun w =>by have:=zaw x.2 w;rwa [r1] at this)
    clear hx hy hl
    clear hm
    go_enter Tryz.func162,Tryz.ntmps162
    go_wp2_with fail
    refine (oz HA _).mono ?_
    rintro e wx ⟨rfl,hw⟩
    rw [hw]
    clear hw wx
    go_wp2_with fail
    refine (oz HB _).mono ?_
    rintro e wx ⟨rfl,hw⟩
    rw [hw]
    clear hw wx
    go_wp2_with fail
    go_ret
    exact ⟨rfl,Below.refl _ _⟩
   | true =>
    have HA:=kz (fun w =>by have:=zaw x.1 w;rwa [r0] at this)
    have HB:=kz (fun w =>by have:=zaw x.2 w;rwa [r1] at this)
    by_cases h2:x.2 < x.1
    ·have hm:zaV l (k+1)=11:=by rw [zfK hx hy];unfold zbi za8;simp [r0,r1,h2]
     rw [hm]
     clear hx hy hl
     clear hm
     go_enter Tryz.func162,Tryz.ntmps162
     go_wp2_with fail
     refine (oz HA _).mono ?_
     rintro e wx ⟨rfl,hw⟩
     rw [hw]
     clear hw wx
     go_wp2_with fail
     refine (oz HB _).mono ?_
     rintro e wx ⟨rfl,hw⟩
     rw [hw]
     clear hw wx
     go_wp2_with fail
     refine wp_region_quiet_below (by kernel_rfl) (by kernel_rfl) ?_
     repeat (go_big_quiet_step (fail))
     first | refine wpQuiet_nil ?_ | skip
     rintro w' ⟨p,rfl⟩
     have HBq:=kz (below_regrown W p.d p.os)
     generalize Go.Sort.grow (redrawn W p.d) p.os=w1 at *
     go_wp2_with fail
     go_ret
     exact ⟨rfl,oz HBq⟩
    ·by_cases h3:x.1≤y.2
     ·have hm:zaV l (k+1)=13:=by rw [zfK hx hy];unfold zbi za8;simp [r0,r1,h2,h3]
      rw [hm]
      clear hx hy hl
      clear hm
      go_enter Tryz.func162,Tryz.ntmps162
      go_wp2_with fail
      refine (oz HA _).mono ?_
      rintro e wx ⟨rfl,hw⟩
      rw [hw]
      clear hw wx
      go_wp2_with fail
      refine (oz HB _).mono ?_
      rintro e wx ⟨rfl,hw⟩
      rw [hw]
      clear hw wx
      go_wp2_with fail
      refine wp_region_quiet_below (by kernel_rfl) (by kernel_rfl) ?_
      repeat (go_big_quiet_step (fail))
      first | refine wpQuiet_nil ?_ | skip
      rintro w' ⟨p,rfl⟩
      have HBq:=kz (below_regrown W p.d p.os)
      generalize Go.Sort.grow (redrawn W p.d) p.os=w1 at *
      replace q0:=cell_regrown (zbm c0 (oz HBq) hg)
      have p1:=cell_regrown (zbm d1 (oz HBq) hg)
      go_wp2_with fail
      refine wp_region_quiet_below (by kernel_rfl) (by kernel_rfl) ?_
      repeat (go_big_quiet_step (fail))
      first | refine wpQuiet_nil ?_ | skip
      rintro w' ⟨p,rfl⟩
      have HBr:=kz (below_regrown w1 p.d p.os)
      generalize Go.Sort.grow (redrawn w1 p.d) p.os=w2 at *
      clear p1 q0 q1
      go_wp2_with fail
      go_ret
      exact ⟨rfl,(oz HBq).trans ((oz HBr).mono (oz HBq).size)⟩
     ·have hm:zaV l (k+1)=0:=by rw [zfK hx hy];unfold zbi za8;simp [r0,r1,h2,h3]
      rw [hm]
      clear hx hy hl
      clear hm
      go_enter Tryz.func162,Tryz.ntmps162
      go_wp2_with fail
      refine (oz HA _).mono ?_
      rintro e wx ⟨rfl,hw⟩
      rw [hw]
      clear hw wx
      go_wp2_with fail
      refine (oz HB _).mono ?_
      rintro e wx ⟨rfl,hw⟩
      rw [hw]
      clear hw wx
      go_wp2_with fail
      refine wp_region_quiet_below (by kernel_rfl) (by kernel_rfl) ?_
      repeat (go_big_quiet_step (fail))
      first | refine wpQuiet_nil ?_ | skip
      rintro w' ⟨p,rfl⟩
      have HBq:=kz (below_regrown W p.d p.os)
      generalize Go.Sort.grow (redrawn W p.d) p.os=w1 at *
      replace q0:=cell_regrown (zbm c0 (oz HBq) hg)
      have p1:=cell_regrown (zbm d1 (oz HBq) hg)
      go_wp2_with fail
      refine wp_region_quiet_below (by kernel_rfl) (by kernel_rfl) ?_
      repeat (go_big_quiet_step (fail))
      first | refine wpQuiet_nil ?_ | skip
      rintro w' ⟨p,rfl⟩
      have HBr:=kz (below_regrown w1 p.d p.os)
      generalize Go.Sort.grow (redrawn w1 p.d) p.os=w2 at *
      clear p1 q0 q1
      go_wp2_with fail
      go_ret
      exact ⟨rfl,(oz HBq).trans ((oz HBr).mono (oz HBq).size)⟩
end Go.Proofs.YtmemedpoaocdkaaGreat
