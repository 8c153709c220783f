/- Texts of this claim, one behind the other. -/
import Derived.Test.YthchopdfmchpkaaGreatM5
namespace Go.Proofs.YthchopdfmchpkaaGreat
open Go.RowKit Go.Shelf
set_option linter.unusedVariables false
def NoneB {α : Type} (l:List α) (p : α→Bool) (k:Nat):Prop := ∀ j y,j < k→l[j]?=some y→p y=false
theorem NoneB.zero {α : Type} (l:List α) (p : α→Bool):NoneB l p 0:=fun j y h _ =>by omega
theorem NoneB.next {α : Type} {l:List α} {p : α→Bool} {k:Nat} {x : α} (h:NoneB l p k) (hx:l[k]?=some x) (hp:p x=false):NoneB l p (k+1):=fun j y hj hy =>by
 by_cases e:j=k
 ·subst e;rw [hx] at hy;injection hy with hy;rw [← hy];exact hp
 ·exact h j y (by omega) hy
theorem NoneB.any {α : Type} {l:List α} {p : α→Bool} {k:Nat} (h:NoneB l p k) (hk:l.length≤k):l.any p=false:=by
 rw [List.any_eq_false];intro y hy;obtain ⟨i,hi,e⟩:=List.getElem_of_mem hy;have:=h i y (by omega) (by rw [qR hi,e]);rw [this];decide
theorem Yl {α : Type} {l:List α} {p : α→Bool} {k:Nat} {x : α} (hx:l[k]?=some x) (hp:p x=true):l.any p=true:=List.any_eq_true.2 ⟨x,YH hx,hp⟩
theorem NoneB.find {α : Type} {l:List α} {p : α→Bool} {k:Nat} (h:NoneB l p k) (hk:l.length≤k):l.find? p=none:=by
 rw [List.find?_eq_none];intro y hy;obtain ⟨i,hi,e⟩:=List.getElem_of_mem hy;have:=h i y (by omega) (by rw [qR hi,e]);rw [this];decide
theorem NoneB.hit {α : Type} {p : α→Bool} {x : α}:∀ {l:List α} {k:Nat},NoneB l p k→l[k]?=some x→p x=true→l.find? p=some x
 | [],k,_,hx,_ =>by simp at hx
 | y::l,0,_,hx,hp =>by
  simp at hx;subst hx;rw [List.find?_cons,hp]
 | y::l,k+1,h,hx,hp =>by
  rw [List.find?_cons,h 0 y (by omega) rfl];exact NoneB.hit (l:=l) (k:=k) (fun j z hj hz =>h (j+1) z (by omega) (by simpa using hz)) (by simpa using hx) hp
def XJ {α : Type} (l:List α) (p : α→Bool):Int:=match l.findIdx? p with
 | some k =>(k:Int)
 | none => -1
theorem NoneB.idx {α : Type} {p : α→Bool} {x : α} {l:List α} {k:Nat} (h:NoneB l p k) (hx:l[k]?=some x) (hp:p x=true):XJ l p=(k:Int):=by
 have:l.findIdx? p=some k:=by
  obtain ⟨hk,e⟩:=Ze.1 hx;rw [List.findIdx?_eq_some_iff_getElem];refine ⟨hk,by rw [e];exact hp,fun j hj =>?_⟩;rw [h j _ hj (qR (by omega))];decide
 unfold XJ;rw [this]
theorem NoneB.idx0 {α : Type} {p : α→Bool} {l:List α} {k:Nat} (h:NoneB l p k) (hk:l.length≤k):XJ l p = -1:=by
 have:l.findIdx? p=none:=by
  rw [List.findIdx?_eq_none_iff];intro y hy;obtain ⟨i,hi,e⟩:=List.getElem_of_mem hy;exact h i y (by omega) (by rw [qR hi,e])
 unfold XJ;rw [this]
theorem JN {α : Type} (l:List α) (p : α→Bool):(XJ l p = -1∧l.any p=false∧l.find? p=none)∨∃ (k:Nat) (x : α),XJ l p=(k:Int)∧k < l.length∧l[k]?=some x∧p x=true∧l.any p=true∧l.find? p=some x∧NoneB l p k:=by
 cases h:l.findIdx? p with
 | none =>
  refine .inl ⟨by unfold XJ;rw [h], ?_, ?_⟩
  ·rw [List.findIdx?_eq_none_iff] at h;rw [List.any_eq_false];intro x hx;simp [h x hx]
  ·rw [List.findIdx?_eq_none_iff] at h;rw [List.find?_eq_none];intro x hx;simp [h x hx]
 | some k =>
  obtain ⟨hk,h1,h2⟩:=List.findIdx?_eq_some_iff_getElem.1 h;have hx:l[k]?=some l[k]:=qR hk;have hn:NoneB l p k:=fun j y hj hy =>by
   rw [qR (by omega)] at hy;injection hy with hy;rw [← hy];simpa using h2 j hj
  exact .inr ⟨k,l[k],by unfold XJ;rw [h],hk,hx,h1,Yl hx h1,hn.hit hx h1,hn⟩
theorem Xj {α : Type} (l:List α) (p : α→Bool):decide (XJ l p < 0) = !l.any p:=by
 rcases JN l p with ⟨e,h,_⟩ | ⟨k,x,e,hk,_,_,h,_⟩
 ·rw [e,h];decide
 ·rw [e,h];simp
def OkTo {α : Type} (l:List α) (d : α) (f : α→Int) (k:Nat):Prop := ∀ j,j < k→f (l.getD j d)=0
theorem OkTo.zero {α : Type} (l:List α) (d : α) (f : α→Int):OkTo l d f 0:=fun j h =>by omega
theorem OkTo.next {α : Type} {l:List α} {d : α} {f : α→Int} {k:Nat} {x : α} (h:OkTo l d f k) (hx:l[k]?=some x) (hf:f x=0):OkTo l d f (k+1):=fun j hj =>by
 by_cases e:j=k
 ·subst e;rw [qM hx];exact hf
 ·exact h j (by omega)
theorem OkTo.bad {α : Type} {l:List α} {d : α} {f : α→Int} {k:Nat} {x : α} (h:OkTo l d f k) (hx:l[k]?=some x) (list:Int) (hf:f x≠0):zg list l d f=(f x,list,(k:Int)):=by
 have:=yU (list:=list) (n:=l.length) (f:=fun i =>f (l.getD i d)) k (Ze.1 hx).1 h (by rw [qM hx];exact hf);rw [qM hx] at this;exact this
theorem OkTo.ok {α : Type} {l:List α} {d : α} {f : α→Int} {k:Nat} (h:OkTo l d f k) (hk:l.length≤k) (list:Int):zg list l d f=(0,0,0):=jW (fun i hi =>h i (by omega))
def OkR (f:Nat→Int) (k:Nat):Prop := ∀ j,j < k→f j=0
theorem OkR.zero (f:Nat→Int):OkR f 0:=fun j h =>by omega
theorem OkR.next {f:Nat→Int} {k:Nat} (h:OkR f k) (hf:f k=0):OkR f (k+1):=fun j hj =>by
 by_cases e:j=k
 ·subst e;exact hf
 ·exact h j (by omega)
theorem zgE {W:World} {hi:Nat} {a:Option Addr} {zs:List (Int × Int)} {k:Nat} {x:Int × Int} (h:RowC W hi a (XP zs)) (hx:zs[k]?=some x):∃ g o,a=some ⟨g,o,none⟩∧g < hi∧W.cell? ⟨g,o+k*2,none⟩=some (.int .i32 x.1)∧W.cell? ⟨g,o+k*2+1,none⟩=some (.int .i64 x.2):=by
 obtain ⟨e1,e2⟩:=Qr zs k x hx;obtain ⟨g,o,e,hg,hc⟩:=h (by have:=(Ze.1 e1).1;omega);exact ⟨g,o,e,hg,hc _ _ e1,by have:=hc _ _ e2;rwa [← Nat.add_assoc] at this⟩
theorem zim {W:World} {hi:Nat} {a:Option Addr} {zs:List (Int × Int)} {k:Nat} {x:Int × Int} (h:RowC W hi a (zM zs)) (hx:zs[k]?=some x):∃ g o,a=some ⟨g,o,none⟩∧g < hi∧W.cell? ⟨g,o+k*2,none⟩=some (.int .i32 x.1)∧W.cell? ⟨g,o+k*2+1,none⟩=some (.int .i32 x.2):=by
 obtain ⟨e1,e2⟩:=Z5 zs k x hx;obtain ⟨g,o,e,hg,hc⟩:=h (by have:=(Ze.1 e1).1;omega);exact ⟨g,o,e,hg,hc _ _ e1,by have:=hc _ _ e2;rwa [← Nat.add_assoc] at this⟩
theorem za8 {W:World} {hi:Nat} {a:Option Addr} {zs:List (Int × ByteArray)} {k:Nat} {x:Int × ByteArray} (h:RowC W hi a (yW zs)) (hx:zs[k]?=some x):∃ g o,a=some ⟨g,o,none⟩∧g < hi∧W.cell? ⟨g,o+k*2,none⟩=some (.int .i32 x.1)∧W.cell? ⟨g,o+k*2+1,none⟩=some (.string x.2):=by
 obtain ⟨e1,e2⟩:=YI zs k x hx;obtain ⟨g,o,e,hg,hc⟩:=h (by have:=(Ze.1 e1).1;omega);exact ⟨g,o,e,hg,hc _ _ e1,by have:=hc _ _ e2;rwa [← Nat.add_assoc] at this⟩
theorem zdV {W:World} {hi:Nat} {a:Option Addr} {zs:List (Int × Int × Int)} {k:Nat} {x:Int × Int × Int} (h:RowC W hi a (Xh zs)) (hx:zs[k]?=some x):∃ g o,a=some ⟨g,o,none⟩∧g < hi∧W.cell? ⟨g,o+k*3,none⟩=some (.int .i32 x.1)∧W.cell? ⟨g,o+k*3+1,none⟩=some (.int .i32 x.2.1)∧W.cell? ⟨g,o+k*3+2,none⟩=some (.int .i32 x.2.2):=by
 obtain ⟨e1,e2,e3⟩:=Yk zs k x hx;obtain ⟨g,o,e,hg,hc⟩:=h (by have:=(Ze.1 e1).1;omega);exact ⟨g,o,e,hg,hc _ _ e1,by have:=hc _ _ e2;rwa [← Nat.add_assoc] at this,by have:=hc _ _ e3;rwa [← Nat.add_assoc] at this⟩
structure TbA where
 a0:Option Addr
 a1:Option Addr
 a2:Option Addr
 a3:Option Addr
 a4:Option Addr
 a5:Option Addr
 a6:Option Addr
 a7:Option Addr
 c0:Nat
 c1:Nat
 c2:Nat
 c3:Nat
 c4:Nat
 c5:Nat
 c6:Nat
 c7:Nat
 us:List Value
abbrev Yb (W:World) (T:TV) (A:TbA):Prop:=TabIn W T A.a0 A.a1 A.a2 A.a3 A.a4 A.a5 A.a6 A.a7 A.us
theorem zdU {W:World} {T:TV} {A:TbA} {k:Nat} {x:ByteArray × List (Int × Int)} (h:Yb W T A) (hx:T.sc[k]?=some x):∃ g o b d,A.a0=some ⟨g,o,none⟩∧g < W.heap.size∧W.cell? ⟨g,o+k*2,none⟩=some (.string x.1)∧W.cell? ⟨g,o+k*2+1,none⟩=some (.slice b x.2.length d)∧RowC W W.heap.size b (zM x.2):=by
 have hk:=(Ze.1 hx).1;obtain ⟨u,hu⟩:∃ u,A.us[k]?=some u:=⟨_,qR (by rw [h.lu];exact hk)⟩;obtain ⟨b,d,rfl,hr⟩:=h.rs k x u hx hu;have e1:=zbp T.sc A.us h.lu k x hx;have e2:=(Zm T.sc A.us h.lu k).trans hu;obtain ⟨g,o,e,hg,hc⟩:=h.r0 (by have:=(Ze.1 e1).1;omega);refine ⟨g,o,b,d,e,hg,hc _ _ e1, ?_,hr⟩;have:=hc _ _ e2;rw [show o+(2*k+1)=o+k*2+1 by omega] at this;exact this
def TbV (W:World) (T:TV) (v:Value):Prop := ∃ A,v=.agg #[.slice A.a0 T.sc.length A.c0,.slice A.a1 T.co.length A.c1,.slice A.a2 T.ma.length A.c2,.slice A.a3 T.pr.length A.c3,.slice A.a4 T.fo.length A.c4,.slice A.a5 T.lk.length A.c5,.slice A.a6 T.dr.length A.c6,.slice A.a7 T.al.length A.c7]∧Yb W T A
theorem TbV.below {W W':World} {T:TV} {v:Value} (h:TbV W T v) (hb:Below W.heap.size W W'):TbV W' T v:=by
 obtain ⟨A,e,h⟩:=h;exact ⟨A,e,h.lower hb⟩
structure TbX (W w:World) (T:TV) (A:TbA):Prop where
 bl:Below W.heap.size W w
 bx:Blk w W.heap.size #[.slice A.a0 T.sc.length A.c0,.slice A.a1 T.co.length A.c1,.slice A.a2 T.ma.length A.c2,.slice A.a3 T.pr.length A.c3,.slice A.a4 T.fo.length A.c4,.slice A.a5 T.lk.length A.c5,.slice A.a6 T.dr.length A.c6,.slice A.a7 T.al.length A.c7] 31
 ti:Yb w T A
section
variable {W w w':World} {T:TV} {A:TbA}
theorem TbX.below (h:TbX W w T A) (hb:Below w.heap.size w w'):TbX W w' T A:=⟨h.bl.trans (hb.mono h.bl.size),h.bx.below hb h.bx.lt,h.ti.lower hb⟩
theorem TbX.start (h:Yb W T A):TbX W (W.alloc (.cells #[.slice A.a0 T.sc.length A.c0,.slice A.a1 T.co.length A.c1,.slice A.a2 T.ma.length A.c2,.slice A.a3 T.pr.length A.c3,.slice A.a4 T.fo.length A.c4,.slice A.a5 T.lk.length A.c5,.slice A.a6 T.dr.length A.c6,.slice A.a7 T.al.length A.c7] 31)) T A :=
 have hB:Below W.heap.size W (W.alloc (.cells #[.slice A.a0 T.sc.length A.c0,.slice A.a1 T.co.length A.c1,.slice A.a2 T.ma.length A.c2,.slice A.a3 T.pr.length A.c3,.slice A.a4 T.fo.length A.c4,.slice A.a5 T.lk.length A.c5,.slice A.a6 T.dr.length A.c6,.slice A.a7 T.al.length A.c7] 31)):=(Below.refl _ W).alloc zD _
 ⟨hB,Blk.new W _ _,h.lower hB⟩
theorem TbX.tv (h:TbX W w T A):TbV w T (.agg #[.slice A.a0 T.sc.length A.c0,.slice A.a1 T.co.length A.c1,.slice A.a2 T.ma.length A.c2,.slice A.a3 T.pr.length A.c3,.slice A.a4 T.fo.length A.c4,.slice A.a5 T.lk.length A.c5,.slice A.a6 T.dr.length A.c6,.slice A.a7 T.al.length A.c7]):=⟨A,rfl,h.ti⟩
theorem TbX.z0 (h:TbX W w T A):w.cell? ⟨W.heap.size,0,none⟩=some (.slice A.a0 T.sc.length A.c0):=h.bx.cell 0
theorem TbX.z1 (h:TbX W w T A):w.cell? ⟨W.heap.size,1,none⟩=some (.slice A.a1 T.co.length A.c1):=h.bx.cell 1
theorem TbX.z2 (h:TbX W w T A):w.cell? ⟨W.heap.size,2,none⟩=some (.slice A.a2 T.ma.length A.c2):=h.bx.cell 2
theorem TbX.z3 (h:TbX W w T A):w.cell? ⟨W.heap.size,3,none⟩=some (.slice A.a3 T.pr.length A.c3):=h.bx.cell 3
theorem TbX.z4 (h:TbX W w T A):w.cell? ⟨W.heap.size,4,none⟩=some (.slice A.a4 T.fo.length A.c4):=h.bx.cell 4
theorem TbX.z5 (h:TbX W w T A):w.cell? ⟨W.heap.size,5,none⟩=some (.slice A.a5 T.lk.length A.c5):=h.bx.cell 5
theorem TbX.z6 (h:TbX W w T A):w.cell? ⟨W.heap.size,6,none⟩=some (.slice A.a6 T.dr.length A.c6):=h.bx.cell 6
theorem TbX.z7 (h:TbX W w T A):w.cell? ⟨W.heap.size,7,none⟩=some (.slice A.a7 T.al.length A.c7):=h.bx.cell 7
end
abbrev wrC (x:Int × Int × Int):Array Value:=#[.int .i64 x.1,.int .i64 x.2.1,.int .i64 x.2.2]
structure RxS (W w:World) (T:TV) (A:TbA):Prop where
 tb:TbX W w T A
 rs:Blk w (W.heap.size+1) #[.int .i64 0,.int .i64 0,.int .i64 0] 89
theorem RxS.below {W w w':World} {T:TV} {A:TbA} (h:RxS W w T A) (hb:Below w.heap.size w w'):RxS W w' T A:=⟨h.tb.below hb,h.rs.below hb h.rs.lt⟩
theorem RxS.start {W:World} {T:TV} {A:TbA} (h:Yb W T A):RxS W ((W.alloc (.cells #[.slice A.a0 T.sc.length A.c0,.slice A.a1 T.co.length A.c1,.slice A.a2 T.ma.length A.c2,.slice A.a3 T.pr.length A.c3,.slice A.a4 T.fo.length A.c4,.slice A.a5 T.lk.length A.c5,.slice A.a6 T.dr.length A.c6,.slice A.a7 T.al.length A.c7] 31)).alloc (.cells #[.int .i64 0,.int .i64 0,.int .i64 0] 89)) T A :=
 have hX:=TbX.start h
 ⟨hX.below (zl.alloc zD _),by
  have h:=Blk.new (W.alloc (.cells #[.slice A.a0 T.sc.length A.c0,.slice A.a1 T.co.length A.c1,.slice A.a2 T.ma.length A.c2,.slice A.a3 T.pr.length A.c3,.slice A.a4 T.fo.length A.c4,.slice A.a5 T.lk.length A.c5,.slice A.a6 T.dr.length A.c6,.slice A.a7 T.al.length A.c7] 31)) #[.int .i64 0,.int .i64 0,.int .i64 0] 89;rw [World.size_alloc] at h;exact h⟩
structure RxD (W w:World) (x:Int × Int × Int):Prop where
 bl:Below W.heap.size W w
 rs:Blk w (W.heap.size+1) (wrC x) 89
theorem RxS.put {W w:World} {T:TV} {A:TbA} (h:RxS W w T A) (x:Int × Int × Int):RxD W (((w.setCell ⟨W.heap.size+1,0,none⟩ (.int .i64 x.1)).setCell ⟨W.heap.size+1,1,none⟩ (.int .i64 x.2.1)).setCell ⟨W.heap.size+1,2,none⟩ (.int .i64 x.2.2)) x :=
 ⟨zY h.tb.bl (by omega) h.tb.bl.size _ _ _,jG h.rs _ _ _⟩
structure RxT (W w0 w:World) (T:TV) (A:TbA):Prop where
 rx:RxS W w T A
 fr:Below w0.heap.size w0 w
theorem RxT.refl {W w:World} {T:TV} {A:TbA} (h:RxS W w T A):RxT W w w T A:=⟨h,zl⟩
theorem RxT.below {W w0 w w':World} {T:TV} {A:TbA} (h:RxT W w0 w T A) (hb:Below w.heap.size w w'):RxT W w0 w' T A:=⟨h.rx.below hb,h.fr.trans (hb.mono h.fr.size)⟩
theorem RxT.put {W w0 w:World} {T:TV} {A:TbA} (h:RxT W w0 w T A) (y l k:Int):RxD W (((w.setCell ⟨W.heap.size+1,0,none⟩ (.int .i64 y)).setCell ⟨W.heap.size+1,1,none⟩ (.int .i64 l)).setCell ⟨W.heap.size+1,2,none⟩ (.int .i64 k)) (y,l,k):=h.rx.put (y,l,k)
theorem yZ {w w':World} {g i:Nat} {v:Value} (h:w.cell? ⟨g,i,none⟩=some v) (hb:Below w.heap.size w w') (hg:g < w.heap.size):w'.cell? ⟨g,i,none⟩=some v:=(hb.cell (p:=⟨g,i,none⟩) hg).trans h
set_option maxRecDepth 100000
set_option maxHeartbeats 8000000
theorem zy (r:Int) (w:World):Calls Tryz.prog 96 #[.int .i32 r] w fun e w' =>e=.returned (.bool (zm r))∧w'=w:=by
 by_cases h0:0≤r
 ·by_cases h1:r≤1114111
  ·by_cases h2:r < 55296
   ·have e:zm r=true:=JS ⟨h0,h1,.inl h2⟩;rw [e];clear e;go_enter Tryz.func96,Tryz.ntmps96;go_wp2_with fail
    go_ret;exact ⟨rfl,rfl⟩
   ·by_cases h3:57343 < r
    ·have e:zm r=true:=JS ⟨h0,h1,.inr h3⟩;rw [e];clear e;go_enter Tryz.func96,Tryz.ntmps96;go_wp2_with fail
     go_ret;exact ⟨rfl,rfl⟩
    ·have e:zm r=false:=Zq (by omega);rw [e];clear e;go_enter Tryz.func96,Tryz.ntmps96;go_wp2_with fail
     go_ret;exact ⟨rfl,rfl⟩
  ·have e:zm r=false:=Zq (by omega);rw [e];clear e;go_enter Tryz.func96,Tryz.ntmps96;go_wp2_with fail
   go_ret;exact ⟨rfl,rfl⟩
 ·have e:zm r=false:=Zq (by omega);rw [e];clear e;go_enter Tryz.func96,Tryz.ntmps96;go_wp2_with fail
  go_ret;exact ⟨rfl,rfl⟩
theorem ZG (T:TV) (hT:T.ma.length≤1048576) (v:Value) (r:Int) (W:World) (hv:TbV W T v) :
  Calls Tryz.prog 99 #[v,.int .i32 r] W fun e w' =>e=.returned (.bool (yJ T r))∧Below W.heap.size W w':=by
 obtain ⟨A,rfl,hA⟩:=hv;have HX:=kz (TbX.start hA);have HV:Hz (T.ma.any (fun x =>x.1 == r)=yJ T r):=kz rfl;generalize yJ T r=mb at *;clear hA;go_enter Tryz.func99,Tryz.ntmps99;go_wp2_with fail
 generalize W.alloc _=w0 at *;go_loopw [5] (fun i wr => ∃ k:Nat,k≤T.ma.length∧i=.int .i64 k∧Hz (NoneB T.ma (fun x =>x.1 == r) k)∧Hz (TbX W wr T A)) (fun i _ =>T.ma.length - (intOf i).toNat)
 case atStart =>exact ⟨0,Zn _,rfl,kz (NoneB.zero _ _),HX⟩
 case round =>
  clear HX;obtain ⟨k,hk,rfl,HN,HX⟩:=hrel;have z:=(oz HX).z2;by_cases hkn:k < T.ma.length
  ·obtain ⟨x,hx⟩:∃ x,T.ma[k]?=some x:=⟨_,qR hkn⟩;obtain ⟨g,o,ea,hg,c0,c1⟩:=zgE (oz HX).ti.r2 hx;rw [ea] at z;have HK:=kz hx;have k1:(k:Int) < (T.ma.length:Int):=by omega
   have k2:=Zp k
   clear hg ea hx;by_cases hc:x.1=r
   ·obtain rfl:=hc;have e0:(x.1 == x.1)=true:=by simp
    have hm:mb=true:=by rw [← oz HV];exact Yl (oz HK) (by simp)
    subst hm;clear HV HK HN;go_wp2_with fail
    go_ret;exact ⟨rfl,(oz HX).bl⟩
   ·have e0:(x.1 == r)=false:=by simpa using hc
    have HN2:=kz ((oz HN).next (oz HK) (by simpa using hc));clear HK HN;go_wp2_with fail
    exact ⟨⟨k+1,by omega,by first | rfl | go_num,HN2,HX⟩,by simp [intOf];omega⟩
  ·have k1:¬ (k:Int) < (T.ma.length:Int):=by omega
   have hm:mb=false:=by rw [← oz HV];exact (oz HN).any (by omega)
   subst hm;clear HV HN;go_wp2_with fail
   go_ret;exact ⟨rfl,(oz HX).bl⟩
theorem YQ (T:TV) (hT:T.pr.length≤1048576) (v:Value) (r:Int) (W:World) (hv:TbV W T v) :
  Calls Tryz.prog 101 #[v,.int .i32 r] W fun e w' =>e=.returned (.int .i64 (XJ T.pr (fun x =>x.1 == r)))∧Below W.heap.size W w':=by
 obtain ⟨A,rfl,hA⟩:=hv;have HX:=kz (TbX.start hA);have HV:∃ mb,Hz (XJ T.pr (fun x =>x.1 == r)=mb):=⟨_,kz rfl⟩;obtain ⟨mb,HV⟩:=HV;rw [oz HV];clear hA;go_enter Tryz.func101,Tryz.ntmps101;go_wp2_with fail
 generalize W.alloc _=w0 at *;go_loopw [5] (fun i wr => ∃ k:Nat,k≤T.pr.length∧i=.int .i64 k∧Hz (NoneB T.pr (fun x =>x.1 == r) k)∧Hz (TbX W wr T A)) (fun i _ =>T.pr.length - (intOf i).toNat)
 case atStart =>exact ⟨0,Zn _,rfl,kz (NoneB.zero _ _),HX⟩
 case round =>
  clear HX;obtain ⟨k,hk,rfl,HN,HX⟩:=hrel;have z:=(oz HX).z3;by_cases hkn:k < T.pr.length
  ·obtain ⟨x,hx⟩:∃ x,T.pr[k]?=some x:=⟨_,qR hkn⟩;obtain ⟨g,o,ea,hg,c0,c1,c2⟩:=zdV (oz HX).ti.r3 hx;rw [ea] at z;have HK:=kz hx;have k1:(k:Int) < (T.pr.length:Int):=by omega
   have k2:=Zp k
   clear hg ea hx;by_cases hc:x.1=r
   ·obtain rfl:=hc;have e0:(x.1 == x.1)=true:=by simp
    have hm:mb=(k:Int):=by rw [← oz HV];exact (oz HN).idx (oz HK) (by simp)
    subst hm;clear HV HK HN;go_wp2_with fail
    go_ret;exact ⟨rfl,(oz HX).bl⟩
   ·have e0:(x.1 == r)=false:=by simpa using hc
    have HN2:=kz ((oz HN).next (oz HK) (by simpa using hc));clear HK HN;go_wp2_with fail
    exact ⟨⟨k+1,by omega,by first | rfl | go_num,HN2,HX⟩,by simp [intOf];omega⟩
  ·have k1:¬ (k:Int) < (T.pr.length:Int):=by omega
   have hm:mb = -1:=by rw [← oz HV];exact (oz HN).idx0 (by omega)
   subst hm;clear HV HN;go_wp2_with fail
   go_ret;exact ⟨rfl,(oz HX).bl⟩
theorem zcr (T:TV) (hT:T.ma.length≤1048576) (v:Value) (r:Int) (W:World) (hv:TbV W T v) :
  Calls Tryz.prog 81 #[v,.int .i32 r] W fun e w' =>e=.returned (.int .i64 (jF T r))∧Below W.heap.size W w':=by
 obtain ⟨A,rfl,hA⟩:=hv;have HX:=kz (TbX.start hA);have HV:∃ mb,Hz (jF T r=mb):=⟨_,kz rfl⟩;obtain ⟨mb,HV⟩:=HV;rw [oz HV];clear hA;go_enter Tryz.func81,Tryz.ntmps81;go_wp2_with fail
 generalize W.alloc _=w0 at *;go_loopw [5] (fun i wr => ∃ k:Nat,k≤T.ma.length∧i=.int .i64 k∧Hz (NoneB T.ma (fun x =>x.1 == r) k)∧Hz (TbX W wr T A)) (fun i _ =>T.ma.length - (intOf i).toNat)
 case atStart =>exact ⟨0,Zn _,rfl,kz (NoneB.zero _ _),HX⟩
 case round =>
  clear HX;obtain ⟨k,hk,rfl,HN,HX⟩:=hrel;have z:=(oz HX).z2;by_cases hkn:k < T.ma.length
  ·obtain ⟨x,hx⟩:∃ x,T.ma[k]?=some x:=⟨_,qR hkn⟩;obtain ⟨g,o,ea,hg,c0,c1⟩:=zgE (oz HX).ti.r2 hx;rw [ea] at z;have HK:=kz hx;have k1:(k:Int) < (T.ma.length:Int):=by omega
   have k2:=Zp k
   clear hg ea hx;by_cases hc:x.1=r
   ·obtain rfl:=hc;have e0:(x.1 == x.1)=true:=by simp
    have hm:mb=x.2:=by rw [← oz HV];unfold jF;rw [(oz HN).hit (oz HK) (by simp)]
    subst hm;clear HV HK HN;go_wp2_with fail
    go_ret;exact ⟨rfl,(oz HX).bl⟩
   ·have e0:(x.1 == r)=false:=by simpa using hc
    have HN2:=kz ((oz HN).next (oz HK) (by simpa using hc));clear HK HN;go_wp2_with fail
    exact ⟨⟨k+1,by omega,by first | rfl | go_num,HN2,HX⟩,by simp [intOf];omega⟩
  ·have k1:¬ (k:Int) < (T.ma.length:Int):=by omega
   have hm:mb=0:=by rw [← oz HV];unfold jF;rw [(oz HN).find (by omega)]
   subst hm;clear HV HN;go_wp2_with fail
   go_ret;exact ⟨rfl,(oz HX).bl⟩
theorem qU (l:List (Int × ByteArray)) (hl:l.length≤1048576) (a:Option Addr) (c:Nat) (r:Int) (W:World) (hv:RowC W W.heap.size a (yW l)) :
  Calls Tryz.prog 98 #[.slice a l.length c,.int .i32 r] W fun e w' =>e=.returned (.int .i64 (XJ l (fun x =>x.1 == r)))∧w'=W:=by
 have HL:=kz hv;have HV:∃ mb,Hz (XJ l (fun x =>x.1 == r)=mb):=⟨_,kz rfl⟩;obtain ⟨mb,HV⟩:=HV;rw [oz HV];clear hv;go_enter Tryz.func98,Tryz.ntmps98;go_wp2_with fail
 go_loopw [5] (fun i wr => ∃ k:Nat,k≤l.length∧i=.int .i64 k∧Hz (NoneB l (fun x =>x.1 == r) k)∧wr=W) (fun i _ =>l.length - (intOf i).toNat)
 case atStart =>exact ⟨0,Zn _,rfl,kz (NoneB.zero _ _),rfl⟩
 case round =>
  obtain ⟨k,hk,rfl,HN,rfl⟩:=hrel;by_cases hkn:k < l.length
  ·obtain ⟨x,hx⟩:∃ x,l[k]?=some x:=⟨_,qR hkn⟩;obtain ⟨g,o,rfl,hg,c0,c1⟩:=za8 (oz HL) hx;have HK:=kz hx;have k1:(k:Int) < (l.length:Int):=by omega
   have k2:=Zp k
   clear hg hx;by_cases hc:x.1=r
   ·obtain rfl:=hc;have e0:(x.1 == x.1)=true:=by simp
    have hm:mb=(k:Int):=by rw [← oz HV];exact (oz HN).idx (oz HK) (by simp)
    subst hm;clear HV HK HN;go_wp2_with fail
    go_ret;exact ⟨rfl,rfl⟩
   ·have e0:(x.1 == r)=false:=by simpa using hc
    have HN2:=kz ((oz HN).next (oz HK) (by simpa using hc));clear HK HN;go_wp2_with fail
    exact ⟨⟨k+1,by omega,by first | rfl | go_num,HN2,by first | trivial | rfl⟩,by simp [intOf];omega⟩
  ·have k1:¬ (k:Int) < (l.length:Int):=by omega
   have hm:mb = -1:=by rw [← oz HV];exact (oz HN).idx0 (by omega)
   subst hm;clear HV HN;go_wp2_with fail
   go_ret;exact ⟨rfl,rfl⟩
theorem XM (l:List (Int × Int)) (hl:l.length≤1048576) (a:Option Addr) (c:Nat) (r:Int) (W:World) (hv:RowC W W.heap.size a (zM l)) :
  Calls Tryz.prog 80 #[.int .i32 r,.slice a l.length c] W fun e w' =>e=.returned (.bool (zi l r))∧w'=W:=by
 have HL:=kz hv;have HV:∃ mb,Hz ((l.any (fun x =>decide (x.1≤r∧r≤x.2)) && zm r)=mb):=⟨_,kz rfl⟩;obtain ⟨mb,HV⟩:=HV;rw [show zi l r=mb from oz HV];have HR:=kz (zy r);clear hv;cases hr:zm r with
 | true =>
  rw [hr] at HR HV;clear hr;go_enter Tryz.func80,Tryz.ntmps80;go_wp2_with fail
  go_loopw [5] (fun i wr => ∃ k:Nat,k≤l.length∧i=.int .i64 k∧Hz (NoneB l (fun x =>decide (x.1≤r∧r≤x.2)) k)∧wr=W) (fun i _ =>l.length - (intOf i).toNat)
  case atStart =>exact ⟨0,Zn _,rfl,kz (NoneB.zero _ _),rfl⟩
  case round =>
   obtain ⟨k,hk,rfl,HN,rfl⟩:=hrel;by_cases hkn:k < l.length
   ·obtain ⟨x,hx⟩:∃ x,l[k]?=some x:=⟨_,qR hkn⟩;obtain ⟨g,o,rfl,hg,c0,c1⟩:=zim (oz HL) hx;have HK:=kz hx;have k1:(k:Int) < (l.length:Int):=by omega
    have k2:=Zp k
    clear hg hx;by_cases h0:x.1≤r
    ·by_cases h1:r≤x.2
     ·have hm:mb=true:=by rw [← oz HV,Yl (oz HK) (by simp [h0,h1])];rfl
      subst hm;clear HV HK HN;go_wp2_with fail
      refine (oz HR _).mono ?_;rintro e w1 ⟨rfl,rfl⟩;go_wp2_with fail
      go_ret;exact ⟨rfl,rfl⟩
     ·have HN2:=kz ((oz HN).next (oz HK) (by simp [h1]));clear HK HN;go_wp2_with fail
      refine (oz HR _).mono ?_;rintro e w1 ⟨rfl,rfl⟩;go_wp2_with fail
      exact ⟨⟨k+1,by omega,by first | rfl | go_num,HN2,by first | trivial | rfl⟩,by simp [intOf];omega⟩
    ·have HN2:=kz ((oz HN).next (oz HK) (by simp [h0]));clear HK HN;go_wp2_with fail
     refine (oz HR _).mono ?_;rintro e w1 ⟨rfl,rfl⟩;go_wp2_with fail
     exact ⟨⟨k+1,by omega,by first | rfl | go_num,HN2,by first | trivial | rfl⟩,by simp [intOf];omega⟩
   ·have k1:¬ (k:Int) < (l.length:Int):=by omega
    have hm:mb=false:=by rw [← oz HV,(oz HN).any (by omega)];rfl
    subst hm;clear HV HN;go_wp2_with fail
    go_ret;exact ⟨rfl,rfl⟩
 | false =>
  rw [hr] at HR HV;clear hr;go_enter Tryz.func80,Tryz.ntmps80;go_wp2_with fail
  go_loopw [5] (fun i wr => ∃ k:Nat,k≤l.length∧i=.int .i64 k∧Hz (NoneB l (fun _ =>false) k)∧wr=W) (fun i _ =>l.length - (intOf i).toNat)
  case atStart =>exact ⟨0,Zn _,rfl,kz (NoneB.zero _ _),rfl⟩
  case round =>
   obtain ⟨k,hk,rfl,HN,rfl⟩:=hrel;by_cases hkn:k < l.length
   ·obtain ⟨x,hx⟩:∃ x,l[k]?=some x:=⟨_,qR hkn⟩;obtain ⟨g,o,rfl,hg,c0,c1⟩:=zim (oz HL) hx;have HK:=kz hx;have k1:(k:Int) < (l.length:Int):=by omega
    have k2:=Zp k
    clear hg hx;have HN2:Hz (NoneB l (fun _ =>false) (k+1)):=kz (fun _ _ _ _ =>rfl);clear HK HN;go_wp2_with fail
    refine (oz HR _).mono ?_;rintro e w1 ⟨rfl,rfl⟩;go_wp2_with fail
    exact ⟨⟨k+1,by omega,by first | rfl | go_num,HN2,by first | trivial | rfl⟩,by simp [intOf];omega⟩
   ·have k1:¬ (k:Int) < (l.length:Int):=by omega
    have hm:mb=false:=by rw [← oz HV];simp
    subst hm;clear HV HN;go_wp2_with fail
    go_ret;exact ⟨rfl,rfl⟩
set_option maxRecDepth 100000
set_option maxHeartbeats 8000000
theorem Z4 {l:List (Int × Int)} {k:Nat} {x y:Int × Int} (hx:l[k+1]?=some x) (hy:l[k]?=some y):zT l (k+1)=if yV x≠0 then yV x else if x.1≤y.2 then 13 else 0:=by
 unfold zT;rw [qM hx,show k+1 - 1=k from rfl,qM hy];by_cases h:yV x≠0
 ·rw [if_pos h,if_pos h]
 ·rw [if_neg h,if_neg h];by_cases h2:x.1≤y.2
  ·rw [if_pos ⟨by omega,h2⟩,if_pos h2]
  ·rw [if_neg (fun e =>h2 e.2),if_neg h2]
theorem YO {l:List (Int × Int)} {x:Int × Int} (hx:l[0]?=some x):zT l 0=yV x:=by
 unfold zT;rw [qM hx];by_cases h:yV x≠0
 ·rw [if_pos h]
 ·rw [if_neg h,if_neg (fun e =>absurd e.1 (by omega))];exact (Decidable.not_not.1 h).symm
theorem zdX (l:List (Int × Int)) (hl:l.length≤1048576) (a:Option Addr) (c k:Nat) (hk:k < l.length) (W:World) (hv:RowC W W.heap.size a (zM l)) :
  Calls Tryz.prog 180 #[.slice a l.length c,.int .i64 k] W fun e w' =>e=.returned (.int .i64 (zT l k))∧Below W.heap.size W w':=by
 obtain ⟨x,hx⟩:∃ x,l[k]?=some x:=⟨_,qR hk⟩;obtain ⟨g,o,rfl,hg,c0,c1⟩:=zim hv hx;have q0:=zP c0;have q1:=zP c1;have k1:(k:Int) < (l.length:Int):=by omega
 have k2:=Zp k
 rcases k with _ | k
 ·have c0':W.cell? ⟨g,o,none⟩=some (.int .i32 x.1):=by simpa using c0
  have c1':W.cell? ⟨g,o+1,none⟩=some (.int .i32 x.2):=by simpa using c1
  have q0':=zP c0';have q1':=zP c1';clear hv hk k2;cases r0:zm x.1 with
  | false =>
   have hm:zT l 0=12:=by rw [YO hx];unfold yV yF;simp [r0]
   rw [hm];have HA:=kz (fun w =>by have:=zy x.1 w;rwa [r0] at this);clear hx hl;clear hm;go_enter Tryz.func180,Tryz.ntmps180;go_wp2_with fail
   refine (oz HA _).mono ?_;rintro e wx ⟨rfl,hw⟩;rw [hw];clear hw wx;go_wp2_with fail
   go_ret;exact ⟨rfl,zl⟩
  | true =>
   cases r1:zm x.2 with
   | false =>
    have hm:zT l 0=12:=by rw [YO hx];unfold yV yF;simp [r0,r1]
    rw [hm];have HA:=kz (fun w =>by have:=zy x.1 w;rwa [r0] at this);have HB:=kz (fun w =>by have:=zy x.2 w;rwa [r1] at this);clear hx hl;clear hm;go_enter Tryz.func180,Tryz.ntmps180;go_wp2_with fail
    refine (oz HA _).mono ?_;rintro e wx ⟨rfl,hw⟩;rw [hw];clear hw wx;go_wp2_with fail
    refine (oz HB _).mono ?_;rintro e wx ⟨rfl,hw⟩;rw [hw];clear hw wx;go_wp2_with fail
    go_ret;exact ⟨rfl,zl⟩
   | true =>
    have HA:=kz (fun w =>by have:=zy x.1 w;rwa [r0] at this);have HB:=kz (fun w =>by have:=zy x.2 w;rwa [r1] at this);by_cases h2:x.2 < x.1
    ·have hm:zT l 0=11:=by rw [YO hx];unfold yV yF;simp [r0,r1,h2]
     rw [hm];clear hx hl;clear hm;go_enter Tryz.func180,Tryz.ntmps180;go_wp2_with fail
     refine (oz HA _).mono ?_;rintro e wx ⟨rfl,hw⟩;rw [hw];clear hw wx;go_wp2_with fail
     refine (oz HB _).mono ?_;rintro e wx ⟨rfl,hw⟩;rw [hw];clear hw wx;go_wp2_with fail
     refine JG (by kernel_rfl) (by kernel_rfl) ?_;repeat (go_big_quiet_step (fail))
     first | refine wpQuiet_nil ?_ | skip
     rintro w' ⟨p,rfl⟩;have HBq:=kz (Xu W p.d p.os);generalize Go.Sort.grow (redrawn W p.d) p.os=w1 at *;go_wp2_with fail
     go_ret;exact ⟨rfl,oz HBq⟩
    ·have hm:zT l 0=0:=by rw [YO hx];unfold yV yF;simp [r0,r1,h2]
     rw [hm];clear hx hl;clear hm;go_enter Tryz.func180,Tryz.ntmps180;go_wp2_with fail
     refine (oz HA _).mono ?_;rintro e wx ⟨rfl,hw⟩;rw [hw];clear hw wx;go_wp2_with fail
     refine (oz HB _).mono ?_;rintro e wx ⟨rfl,hw⟩;rw [hw];clear hw wx;go_wp2_with fail
     refine JG (by kernel_rfl) (by kernel_rfl) ?_;repeat (go_big_quiet_step (fail))
     first | refine wpQuiet_nil ?_ | skip
     rintro w' ⟨p,rfl⟩;have HBq:=kz (Xu W p.d p.os);generalize Go.Sort.grow (redrawn W p.d) p.os=w1 at *;clear q0 q1 q0' q1';go_wp2_with fail
     refine JG (by kernel_rfl) (by kernel_rfl) ?_;repeat (go_big_quiet_step (fail))
     first | refine wpQuiet_nil ?_ | skip
     rintro w' ⟨p,rfl⟩;have HBr:=kz (Xu w1 p.d p.os);generalize Go.Sort.grow (redrawn w1 p.d) p.os=w2 at *;go_wp2_with fail
     go_ret;exact ⟨rfl,(oz HBq).trans ((oz HBr).mono (oz HBq).size)⟩
 ·obtain ⟨y,hy⟩:∃ y,l[k]?=some y:=⟨_,qR (by omega)⟩;obtain ⟨g',o',e,_,d0,d1⟩:=zim hv hy;injection e with e;injection e with e1 e2;subst e1 e2;have k3:(((k+1:Nat):Int) - 1)=(k:Int):=by omega
  have k4:(k:Int) < (l.length:Int):=by omega
  have k5:=Zp k
  have k6:(0:Int) < ((k+1:Nat):Int):=by omega
  have k7:wrap64 (k:Int)=(k:Int):=by unfold wrap64;omega
  clear hv hk d0;cases r0:zm x.1 with
  | false =>
   have hm:zT l (k+1)=12:=by rw [Z4 hx hy];unfold yV yF;simp [r0]
   rw [hm];have HA:=kz (fun w =>by have:=zy x.1 w;rwa [r0] at this);clear hx hy hl;clear hm;go_enter Tryz.func180,Tryz.ntmps180;go_wp2_with fail
   refine (oz HA _).mono ?_;rintro e wx ⟨rfl,hw⟩;rw [hw];clear hw wx;go_wp2_with fail
   go_ret;exact ⟨rfl,zl⟩
  | true =>
   cases r1:zm x.2 with
   | false =>
    have hm:zT l (k+1)=12:=by rw [Z4 hx hy];unfold yV yF;simp [r0,r1]
    rw [hm];have HA:=kz (fun w =>by have:=zy x.1 w;rwa [r0] at this);have HB:=kz (fun w =>by have:=zy x.2 w;rwa [r1] at this);clear hx hy hl;clear hm;go_enter Tryz.func180,Tryz.ntmps180;go_wp2_with fail
    refine (oz HA _).mono ?_;rintro e wx ⟨rfl,hw⟩;rw [hw];clear hw wx;go_wp2_with fail
    refine (oz HB _).mono ?_;rintro e wx ⟨rfl,hw⟩;rw [hw];clear hw wx;go_wp2_with fail
    go_ret;exact ⟨rfl,zl⟩
   | true =>
    have HA:=kz (fun w =>by have:=zy x.1 w;rwa [r0] at this);have HB:=kz (fun w =>by have:=zy x.2 w;rwa [r1] at this);by_cases h2:x.2 < x.1
    ·have hm:zT l (k+1)=11:=by rw [Z4 hx hy];unfold yV yF;simp [r0,r1,h2]
     rw [hm];clear hx hy hl;clear hm;go_enter Tryz.func180,Tryz.ntmps180;go_wp2_with fail
     refine (oz HA _).mono ?_;rintro e wx ⟨rfl,hw⟩;rw [hw];clear hw wx;go_wp2_with fail
     refine (oz HB _).mono ?_;rintro e wx ⟨rfl,hw⟩;rw [hw];clear hw wx;go_wp2_with fail
     refine JG (by kernel_rfl) (by kernel_rfl) ?_;repeat (go_big_quiet_step (fail))
     first | refine wpQuiet_nil ?_ | skip
     rintro w' ⟨p,rfl⟩;have HBq:=kz (Xu W p.d p.os);generalize Go.Sort.grow (redrawn W p.d) p.os=w1 at *;go_wp2_with fail
     go_ret;exact ⟨rfl,oz HBq⟩
    ·by_cases h3:x.1≤y.2
     ·have hm:zT l (k+1)=13:=by rw [Z4 hx hy];unfold yV yF;simp [r0,r1,h2,h3]
      rw [hm];clear hx hy hl;clear hm;go_enter Tryz.func180,Tryz.ntmps180;go_wp2_with fail
      refine (oz HA _).mono ?_;rintro e wx ⟨rfl,hw⟩;rw [hw];clear hw wx;go_wp2_with fail
      refine (oz HB _).mono ?_;rintro e wx ⟨rfl,hw⟩;rw [hw];clear hw wx;go_wp2_with fail
      refine JG (by kernel_rfl) (by kernel_rfl) ?_;repeat (go_big_quiet_step (fail))
      first | refine wpQuiet_nil ?_ | skip
      rintro w' ⟨p,rfl⟩;have HBq:=kz (Xu W p.d p.os);generalize Go.Sort.grow (redrawn W p.d) p.os=w1 at *
      replace q0:=zP (yZ c0 (oz HBq) hg)
      have p1:=zP (yZ d1 (oz HBq) hg);go_wp2_with fail
      refine JG (by kernel_rfl) (by kernel_rfl) ?_;repeat (go_big_quiet_step (fail))
      first | refine wpQuiet_nil ?_ | skip
      rintro w' ⟨p,rfl⟩;have HBr:=kz (Xu w1 p.d p.os);generalize Go.Sort.grow (redrawn w1 p.d) p.os=w2 at *;clear p1 q0 q1;go_wp2_with fail
      go_ret;exact ⟨rfl,(oz HBq).trans ((oz HBr).mono (oz HBq).size)⟩
     ·have hm:zT l (k+1)=0:=by rw [Z4 hx hy];unfold yV yF;simp [r0,r1,h2,h3]
      rw [hm];clear hx hy hl;clear hm;go_enter Tryz.func180,Tryz.ntmps180;go_wp2_with fail
      refine (oz HA _).mono ?_;rintro e wx ⟨rfl,hw⟩;rw [hw];clear hw wx;go_wp2_with fail
      refine (oz HB _).mono ?_;rintro e wx ⟨rfl,hw⟩;rw [hw];clear hw wx;go_wp2_with fail
      refine JG (by kernel_rfl) (by kernel_rfl) ?_;repeat (go_big_quiet_step (fail))
      first | refine wpQuiet_nil ?_ | skip
      rintro w' ⟨p,rfl⟩;have HBq:=kz (Xu W p.d p.os);generalize Go.Sort.grow (redrawn W p.d) p.os=w1 at *
      replace q0:=zP (yZ c0 (oz HBq) hg)
      have p1:=zP (yZ d1 (oz HBq) hg);go_wp2_with fail
      refine JG (by kernel_rfl) (by kernel_rfl) ?_;repeat (go_big_quiet_step (fail))
      first | refine wpQuiet_nil ?_ | skip
      rintro w' ⟨p,rfl⟩;have HBr:=kz (Xu w1 p.d p.os);generalize Go.Sort.grow (redrawn w1 p.d) p.os=w2 at *;clear p1 q0 q1;go_wp2_with fail
      go_ret;exact ⟨rfl,(oz HBq).trans ((oz HBr).mono (oz HBq).size)⟩
set_option maxRecDepth 100000
set_option maxHeartbeats 8000000
structure RsX (W w:World):Prop where
 bl:Below W.heap.size W w
 rs:Blk w W.heap.size #[.int .i64 0,.int .i64 0,.int .i64 0] 89
theorem RsX.below {W w w':World} (h:RsX W w) (hb:Below w.heap.size w w'):RsX W w':=⟨h.bl.trans (hb.mono h.bl.size),h.rs.below hb h.rs.lt⟩
theorem RsX.start (W:World):RsX W (W.alloc (.cells #[.int .i64 0,.int .i64 0,.int .i64 0] 89)):=⟨(Below.refl _ W).alloc zD _,Blk.new W _ _⟩
theorem YR (list:Int) (l:List (Int × Int)) (hl:l.length≤1048576) (a:Option Addr) (c:Nat) (W:World) (hv:RowC W W.heap.size a (zM l)) :
  Calls Tryz.prog 95 #[.slice a l.length c,.int .i64 list] W fun e w' =>e=.returned (wrV (spW list l))∧Below W.heap.size W w':=by
 have HL:=kz hv;have HX:=kz (RsX.start W);have HV:∃ mb,Hz (spW list l=mb):=⟨_,kz rfl⟩;obtain ⟨mb,HV⟩:=HV;rw [oz HV];clear hv;go_enter Tryz.func95,Tryz.ntmps95;go_wp2_with fail
 generalize W.alloc _=w0 at *;go_loopw [5] (fun i wr => ∃ k:Nat,k≤l.length∧i=.int .i64 k∧Hz (OkR (zT l) k)∧Hz (RsX W wr)) (fun i _ =>l.length - (intOf i).toNat)
 case atStart =>exact ⟨0,Zn _,rfl,kz (OkR.zero _),HX⟩
 case round =>
  clear HX;obtain ⟨k,hk,rfl,HN,HX⟩:=hrel;by_cases hkn:k < l.length
  ·have k1:(k:Int) < (l.length:Int):=by omega
   have HC:=kz (zdX l hl a c k hkn wr ((oz HL).below (oz HX).bl (oz HX).bl.size));by_cases hb:zT l k=0
   ·rw [hb] at HC;have HN2:=kz ((oz HN).next hb);clear hb HN;go_wp2_with fail
    refine (oz HC).mono ?_;rintro e w2 ⟨rfl,hb⟩;have HX2:=kz ((oz HX).below hb);clear hb HC HX;go_wp2_with fail
    exact ⟨⟨k+1,by omega,by first | rfl | go_num,HN2,HX2⟩,by simp [intOf];omega⟩
   ·have hm:mb=(zT l k,list,(k:Int)):=by
     rw [← oz HV];exact yU k hkn (oz HN) hb
    obtain ⟨y,hy⟩:∃ y,zT l k=y:=⟨_,rfl⟩;rw [hy] at HC hm hb;subst hm;have q0:(y == 0)=false:=by simpa using hb
    clear hy HV HN;go_wp2_with fail
    refine (oz HC).mono ?_;rintro e w2 ⟨rfl,hb2⟩;have HX2:=kz ((oz HX).below hb2);clear hb2 HC HX;have r0:=(oz HX2).rs.cell 0;have f0:=(oz HX2).rs.frozen 0;have r1:=(oz HX2).rs.cell 1;have f1:=(oz HX2).rs.frozen 1;have r2:=(oz HX2).rs.cell 2;have f2:=(oz HX2).rs.frozen 2;go_wp2_with fail
    exact XS (v:=wrV (y,list,(k:Int))) (jA Tryz.results95 rfl (jG (oz HX2).rs _ _ _) rfl) rfl ⟨rfl,zY (oz HX2).bl zD (oz HX2).bl.size _ _ _⟩
  ·have k1:¬ (k:Int) < (l.length:Int):=by omega
   have hm:mb=(0,0,0):=by
    rw [← oz HV];exact jW (fun i hi =>oz HN i (by omega))
   subst hm;clear HV HN;have r0:=(oz HX).rs.cell 0;have f0:=(oz HX).rs.frozen 0;have r1:=(oz HX).rs.cell 1;have f1:=(oz HX).rs.frozen 1;have r2:=(oz HX).rs.cell 2;have f2:=(oz HX).rs.frozen 2;go_wp2_with fail
   exact XS (v:=wrV (0,0,0)) (jA Tryz.results95 rfl (jG (oz HX).rs _ _ _) rfl) rfl ⟨rfl,zY (oz HX).bl zD (oz HX).bl.size _ _ _⟩
def nmB (t:ByteArray) (j:Nat):Bool:=jP (bt t j) || (decide (j≠0) && decide (bt t j=45∨(48≤bt t j∧bt t j≤57)))
theorem zfV (t:ByteArray):XO t=(decide (1≤t.size∧t.size≤32) && (List.range t.size).all (nmB t)):=by
 unfold XO;by_cases h:1≤t.size∧t.size≤32
 ·rw [JS h,Bool.true_and,Bool.true_and,Bool.eq_iff_iff,Bool.and_eq_true,List.all_eq_true,List.all_eq_true];constructor
  ·rintro ⟨h0,h1⟩ i hi;unfold nmB;by_cases hz:i=0
   ·rw [hz,h0];rfl
   ·have:=h1 i hi;rw [JS (show i≠0 from hz),Bool.true_and];exact this
  ·intro h1;have h0:=h1 0 (List.mem_range.2 (by omega));unfold nmB at h0;rw [Zq (by simp),Bool.false_and,Bool.or_false] at h0;refine ⟨h0,fun i hi =>?_⟩;have:=h1 i hi;unfold nmB at this;rw [Bool.or_eq_true] at this ⊢;rcases this with e | e
   ·exact .inl e
   ·rw [Bool.and_eq_true] at e;exact .inr e.2
 ·rw [Zq h,Bool.false_and,Bool.false_and]
theorem zdZ (t:ByteArray) (ht:t.size≤maxLen) (W:World):Calls Tryz.prog 179 #[.string t] W fun e w' =>e=.returned (.bool (XO t))∧w'=W:=by
 unfold maxLen at ht;have HV:∃ mb,Hz ((decide (1≤t.size∧t.size≤32) && (List.range t.size).all (nmB t))=mb):=⟨_,kz rfl⟩;obtain ⟨mb,HV⟩:=HV;rw [zfV,oz HV];go_enter Tryz.func179,Tryz.ntmps179;go_wp2_with fail
 go_loopw [3] (fun i wr => ∃ k:Nat,k≤t.size∧i=.int .i64 k∧Hz (∀ j,j < k→nmB t j=true)∧wr=W) (fun i _ =>t.size - (intOf i).toNat)
 case atStart =>exact ⟨0,Zn _,rfl,kz (fun j h =>absurd h (by omega)),rfl⟩
 case round =>
  obtain ⟨k,hk,rfl,HN,rfl⟩:=hrel;by_cases hkn:k < t.size
  ·have hgk:=qQ t k hkn;obtain ⟨c,ec⟩:∃ c,(t[k]'hkn).toNat=c:=⟨_,rfl⟩;rw [ec] at hgk;have k1:(k:Int) < (t.size:Int):=by omega
   have k2:=Zp k
   have HG:=kz hgk;clear hgk;by_cases b1:97≤c
   ·have i1:decide ((97:Int)≤(c:Int))=true:=JS (by omega);have j1:(97:Int)≤(c:Int):=by omega
    by_cases b2:c≤122
    ·have i2:decide ((c:Int)≤122)=true:=JS (by omega);have j2:(c:Int)≤122:=by omega
     have hn:nmB t k=true:=by unfold nmB jP;rw [oz HG];simp <;> omega
     have HN2:Hz (∀ j,j < k+1→nmB t j=true):=kz (fun j hj =>by
      by_cases e:j=k
      ·rw [e];exact hn
      ·exact oz HN j (by omega))
     clear hn HN HG;go_wp2_with fail
     all_goals exact ⟨⟨k+1,by omega,by first | rfl | go_num,HN2,by first | trivial | rfl⟩,by simp [intOf];omega⟩
    ·have i2:decide ((c:Int)≤122)=false:=Zq (by omega);have j2:¬ (c:Int)≤122:=by omega
     by_cases z:k=0
     ·subst z;have k3:((0:Nat):Int)=0:=rfl;have hn:nmB t 0=false:=by unfold nmB jP;rw [oz HG];simp <;> omega
      have hm:mb=false:=by
       rw [← oz HV,show (List.range t.size).all (nmB t)=false from by
        rw [List.all_eq_false];exact ⟨0,List.mem_range.2 hkn,by rw [hn];decide⟩,Bool.and_false]
      subst hm;clear hn HN HV HG;go_wp2_with fail
      all_goals (go_ret;exact ⟨rfl,rfl⟩)
     ·have z1:¬ (k:Int)=0:=by omega
      have z2:((k:Int) == 0)=false:=by simpa using z
      by_cases b3:c=45
      ·have i3:((c:Int) == 45)=true:=by rw [b3];rfl
       have hn:nmB t k=true:=by unfold nmB jP;rw [oz HG];simp <;> omega
       have HN2:Hz (∀ j,j < k+1→nmB t j=true):=kz (fun j hj =>by
        by_cases e:j=k
        ·rw [e];exact hn
        ·exact oz HN j (by omega))
       clear hn HN HG;go_wp2_with fail
       all_goals exact ⟨⟨k+1,by omega,by first | rfl | go_num,HN2,by first | trivial | rfl⟩,by simp [intOf];omega⟩
      ·have i3:((c:Int) == 45)=false:=beq_eq_false_iff_ne.2 (by omega);by_cases b4:c < 48
       ·have i4:decide ((c:Int) < 48)=true:=JS (by omega);have j4:(c:Int) < 48:=by omega
        have hn:nmB t k=false:=by unfold nmB jP;rw [oz HG];simp <;> omega
        have hm:mb=false:=by
         rw [← oz HV,show (List.range t.size).all (nmB t)=false from by
          rw [List.all_eq_false];exact ⟨k,List.mem_range.2 hkn,by rw [hn];decide⟩,Bool.and_false]
        subst hm;clear hn HN HV HG;go_wp2_with fail
        all_goals (go_ret;exact ⟨rfl,rfl⟩)
       ·have i4:decide ((c:Int) < 48)=false:=Zq (by omega);have j4:¬ (c:Int) < 48:=by omega
        by_cases b5:57 < c
        ·have i5:decide ((57:Int) < (c:Int))=true:=JS (by omega);have j5:(57:Int) < (c:Int):=by omega
         have hn:nmB t k=false:=by unfold nmB jP;rw [oz HG];simp <;> omega
         have hm:mb=false:=by
          rw [← oz HV,show (List.range t.size).all (nmB t)=false from by
           rw [List.all_eq_false];exact ⟨k,List.mem_range.2 hkn,by rw [hn];decide⟩,Bool.and_false]
         subst hm;clear hn HN HV HG;go_wp2_with fail
         all_goals (go_ret;exact ⟨rfl,rfl⟩)
        ·have i5:decide ((57:Int) < (c:Int))=false:=Zq (by omega);have j5:¬ (57:Int) < (c:Int):=by omega
         have hn:nmB t k=true:=by unfold nmB jP;rw [oz HG];simp <;> omega
         have HN2:Hz (∀ j,j < k+1→nmB t j=true):=kz (fun j hj =>by
          by_cases e:j=k
          ·rw [e];exact hn
          ·exact oz HN j (by omega))
         clear hn HN HG;go_wp2_with fail
         all_goals exact ⟨⟨k+1,by omega,by first | rfl | go_num,HN2,by first | trivial | rfl⟩,by simp [intOf];omega⟩
   ·have i1:decide ((97:Int)≤(c:Int))=false:=Zq (by omega);have j1:¬ (97:Int)≤(c:Int):=by omega
    by_cases z:k=0
    ·subst z;have k3:((0:Nat):Int)=0:=rfl;have hn:nmB t 0=false:=by unfold nmB jP;rw [oz HG];simp <;> omega
     have hm:mb=false:=by
      rw [← oz HV,show (List.range t.size).all (nmB t)=false from by
       rw [List.all_eq_false];exact ⟨0,List.mem_range.2 hkn,by rw [hn];decide⟩,Bool.and_false]
     subst hm;clear hn HN HV HG;go_wp2_with fail
     all_goals (go_ret;exact ⟨rfl,rfl⟩)
    ·have z1:¬ (k:Int)=0:=by omega
     have z2:((k:Int) == 0)=false:=by simpa using z
     by_cases b3:c=45
     ·have i3:((c:Int) == 45)=true:=by rw [b3];rfl
      have hn:nmB t k=true:=by unfold nmB jP;rw [oz HG];simp <;> omega
      have HN2:Hz (∀ j,j < k+1→nmB t j=true):=kz (fun j hj =>by
       by_cases e:j=k
       ·rw [e];exact hn
       ·exact oz HN j (by omega))
      clear hn HN HG;go_wp2_with fail
      all_goals exact ⟨⟨k+1,by omega,by first | rfl | go_num,HN2,by first | trivial | rfl⟩,by simp [intOf];omega⟩
     ·have i3:((c:Int) == 45)=false:=beq_eq_false_iff_ne.2 (by omega);by_cases b4:c < 48
      ·have i4:decide ((c:Int) < 48)=true:=JS (by omega);have j4:(c:Int) < 48:=by omega
       have hn:nmB t k=false:=by unfold nmB jP;rw [oz HG];simp <;> omega
       have hm:mb=false:=by
        rw [← oz HV,show (List.range t.size).all (nmB t)=false from by
         rw [List.all_eq_false];exact ⟨k,List.mem_range.2 hkn,by rw [hn];decide⟩,Bool.and_false]
       subst hm;clear hn HN HV HG;go_wp2_with fail
       all_goals (go_ret;exact ⟨rfl,rfl⟩)
      ·have i4:decide ((c:Int) < 48)=false:=Zq (by omega);have j4:¬ (c:Int) < 48:=by omega
       by_cases b5:57 < c
       ·have i5:decide ((57:Int) < (c:Int))=true:=JS (by omega);have j5:(57:Int) < (c:Int):=by omega
        have hn:nmB t k=false:=by unfold nmB jP;rw [oz HG];simp <;> omega
        have hm:mb=false:=by
         rw [← oz HV,show (List.range t.size).all (nmB t)=false from by
          rw [List.all_eq_false];exact ⟨k,List.mem_range.2 hkn,by rw [hn];decide⟩,Bool.and_false]
        subst hm;clear hn HN HV HG;go_wp2_with fail
        all_goals (go_ret;exact ⟨rfl,rfl⟩)
       ·have i5:decide ((57:Int) < (c:Int))=false:=Zq (by omega);have j5:¬ (57:Int) < (c:Int):=by omega
        have hn:nmB t k=true:=by unfold nmB jP;rw [oz HG];simp <;> omega
        have HN2:Hz (∀ j,j < k+1→nmB t j=true):=kz (fun j hj =>by
         by_cases e:j=k
         ·rw [e];exact hn
         ·exact oz HN j (by omega))
        clear hn HN HG;go_wp2_with fail
        all_goals exact ⟨⟨k+1,by omega,by first | rfl | go_num,HN2,by first | trivial | rfl⟩,by simp [intOf];omega⟩
  ·have k1:¬ (k:Int) < (t.size:Int):=by omega
   have HA:Hz ((List.range t.size).all (nmB t)=true):=kz (List.all_eq_true.2 (fun i hi =>oz HN i (by have:=List.mem_range.1 hi;omega)));clear HN;by_cases h1:1≤t.size
   ·have h1':(1:Int)≤(t.size:Int):=by omega
    by_cases h2:t.size≤32
    ·have h2':(t.size:Int)≤32:=by omega
     have hm:mb=true:=by rw [← oz HV,oz HA,JS ⟨h1,h2⟩];rfl
     subst hm;clear HV HA;go_wp2_with fail
     go_ret;exact ⟨rfl,rfl⟩
    ·have h2':¬ (t.size:Int)≤32:=by omega
     have hm:mb=false:=by rw [← oz HV,Zq (fun e =>h2 e.2)];rfl
     subst hm;clear HV HA;go_wp2_with fail
     go_ret;exact ⟨rfl,rfl⟩
   ·have h1':¬ (1:Int)≤(t.size:Int):=by omega
    have hm:mb=false:=by rw [← oz HV,Zq (fun e =>h1 e.1)];rfl
    subst hm;clear HV HA;go_wp2_with fail
    go_ret;exact ⟨rfl,rfl⟩
theorem zbz (s:ByteArray) (hs:s.size≤maxLen) (l:List (Int × Int)) (hl:l.length≤1048576) (p:Option Addr) (d:Nat) (W:World) (hv:RowC W W.heap.size p (zM l)) :
  Calls Tryz.prog 94 #[.agg #[.string s,.slice p l.length d]] W fun e w' =>e=.returned (.int .i64 (scF (s,l)))∧Below W.heap.size W w':=by
 have hB0:Below W.heap.size W (W.alloc (.cells #[.string s,.slice p l.length d] 96)):=(Below.refl _ W).alloc zD _;have bA:=Blk.new W #[.string s,.slice p l.length d] 96;have HL:=kz (hv.below hB0 hB0.size);have HB:=kz hB0;have q0:=bA.cell 0;have q1:=bA.cell 1;have HA:=kz (fun w =>zdZ s hs w);have HF:Hz (scF (s,l)=if XO s then (spW 1 l).1 else 38):=kz rfl;clear hv hB0 bA;cases hn:XO s with
 | false =>
  rw [hn] at HA HF;rw [oz HF];simp only [Bool.false_eq_true,if_false];go_enter Tryz.func94,Tryz.ntmps94;go_wp2_with fail
  generalize W.alloc _=w0 at *;refine (oz HA _).mono ?_;rintro e wx ⟨rfl,hw⟩;rw [hw];clear hw wx;go_wp2_with fail
  go_ret;exact ⟨rfl,oz HB⟩
 | true =>
  rw [hn] at HA HF;rw [oz HF];simp only [if_true];have HC:=kz (YR 1 l hl p d _ (oz HL));generalize spW 1 l=x at *;obtain ⟨x0,x1,x2⟩:=x;go_enter Tryz.func94,Tryz.ntmps94;go_wp2_with fail
  generalize W.alloc _=w0 at *;refine (oz HA _).mono ?_;rintro e wx ⟨rfl,hw⟩;rw [hw];clear hw wx;go_wp2_with fail
  refine (oz HC).mono ?_;rintro e w1 ⟨rfl,hb⟩;have HB1:=kz ((oz HB).trans (hb.mono (oz HB).size));clear hb HC q0 q1;unfold wrV;have HB2:=kz ((oz HB1).alloc (oz HB1).size (.cells #[.int .i64 x0,.int .i64 x1,.int .i64 x2] 89));have z0:=(Blk.new w1 #[.int .i64 x0,.int .i64 x1,.int .i64 x2] 89).cell 0;go_wp2_with fail
  go_ret;exact ⟨rfl,oz HB2⟩
theorem zhM {x:Int × ByteArray} (h:zm x.1=false):mpF x=12:=by unfold mpF;rw [h];rfl
theorem zeQ {x:Int × ByteArray} (h:zm x.1=true) (h2:toB x.2=false):mpF x=35:=by unfold mpF;rw [h,h2];rfl
theorem zkl {x:Int × ByteArray} (h:zm x.1=true) (h2:toB x.2=true):mpF x=0:=by unfold mpF;rw [h,h2];rfl
def RnR (w:World) (p:Option Addr) (zs:List Int):Prop := ∀ (k:Nat) (y:Int),zs[k]?=some y→∃ g,p=some ⟨g,0,none⟩∧g < w.heap.size∧w.cell? ⟨g,k,none⟩=some (.int .i32 y)
theorem RnR.below {w w':World} {p:Option Addr} {zs:List Int} (h:RnR w p zs) (hb:Below w.heap.size w w'):RnR w' p zs:=fun k y e =>by
 obtain ⟨g,e1,e2,e3⟩:=h k y e;exact ⟨g,e1,zaY e2 hb.size,yZ e3 hb e2⟩
theorem Ju {w:World} {lo:Nat} {v:Value} {zs:List Int} (h:w.ownsRow lo 21 1 v zs.length (zb7 zs)):∃ p c,v=.slice p zs.length c∧RnR w p zs:=by
 rcases h.2 with ⟨e,h0⟩ | ⟨g,cap,cur,e,hb,hg,hc,hm,hcs,hx⟩
 ·exact ⟨none,0,by rw [e,h0],fun k y hk =>by have:=(Ze.1 hk).1;omega⟩
 ·have b:Blk w g cur 21:=hg;refine ⟨some ⟨g,0,none⟩,cap,e,fun k y hk =>⟨g,rfl,b.lt, ?_⟩⟩;have hk':=(Ze.1 hk).1;have e1:(cur.toList.take (zs.length*1))[k]?=(zb7 zs)[k]?:=by rw [hx]
  rw [List.getElem?_take_of_lt (by omega),Array.getElem?_toList] at e1;rw [b.cell k,e1];unfold zb7;rw [List.getElem?_map,hk];rfl
theorem KN (list:Int) (l:List (Int × ByteArray)) (hl:l.length≤1048576) (hz:∀ x ∈ l,x.2.size≤1048576) (a:Option Addr) (c:Nat) (W:World) (hv:RowC W W.heap.size a (yW l)) :
  Calls Tryz.prog 97 #[.slice a l.length c,.int .i64 list] W fun e w' =>e=.returned (wrV (zg list l mp0 mpF))∧Below W.heap.size W w':=by
 have HL:=kz hv;have HZ:=kz hz;have HX:=kz (RsX.start W);have HV:∃ mb,Hz (zg list l mp0 mpF=mb):=⟨_,kz rfl⟩;obtain ⟨mb,HV⟩:=HV;rw [oz HV];clear hv hz;go_enter Tryz.func97,Tryz.ntmps97;go_wp2_with fail
 generalize W.alloc _=w0 at *;go_loopw [5] (fun i wr => ∃ k:Nat,k≤l.length∧i=.int .i64 k∧Hz (OkTo l mp0 mpF k)∧Hz (RsX W wr)) (fun i _ =>l.length - (intOf i).toNat)
 case atStart =>exact ⟨0,Zn _,rfl,kz (OkTo.zero _ _ _),HX⟩
 case round =>
  clear HX;obtain ⟨k,hk,rfl,HO,HX⟩:=hrel;by_cases hkn:k < l.length
  ·obtain ⟨x,hx⟩:∃ x,l[k]?=some x:=⟨_,qR hkn⟩;obtain ⟨g,o,ea,hg,c0,c1⟩:=za8 ((oz HL).below (oz HX).bl (oz HX).bl.size) hx;have HK:=kz hx;have k1:(k:Int) < (l.length:Int):=by omega
   have k2:=Zp k
   have HA:=kz (fun w =>zy x.1 w);subst ea;clear hg hx;cases r0:zm x.1 with
   | false =>
    have hf:=zhM r0;have hm:mb=(12,list,(k:Int)):=by rw [← oz HV,(oz HO).bad (oz HK) list (by rw [hf];decide),hf]
    subst hm;clear hf HV HO HK;rw [r0] at HA;have r0:=(oz HX).rs.cell 0;have f0:=(oz HX).rs.frozen 0;have r1:=(oz HX).rs.cell 1;have f1:=(oz HX).rs.frozen 1;have r2:=(oz HX).rs.cell 2;have f2:=(oz HX).rs.frozen 2;go_wp2_with fail
    refine (oz HA _).mono ?_;rintro e wx ⟨rfl,hw⟩;rw [hw];clear hw wx;go_wp2_with fail
    exact XS (v:=wrV (12,list,(k:Int))) (jA Tryz.results97 rfl (jG (oz HX).rs _ _ _) rfl) rfl ⟨rfl,zY (oz HX).bl zD (oz HX).bl.size _ _ _⟩
   | true =>
    rw [r0] at HA;cases r1:okU x.2 with
    | false =>
     have hf:mpF x=35:=zeQ r0 (by unfold toB;rw [r1];rfl);have hm:mb=(35,list,(k:Int)):=by rw [← oz HV,(oz HO).bad (oz HK) list (by rw [hf];decide),hf]
     subst hm;clear hf HV HO;have HRU:=kz (Xm x.2 (oz HZ x (YH (oz HK))) wr);go_wp2_with fail
     refine (oz HA _).mono ?_;rintro e wx ⟨rfl,hw⟩;rw [hw];clear hw wx;go_wp2_with fail
     refine (oz HRU).mono ?_;rintro e w2 ⟨hyes,hno,hb⟩;have HX2:=kz ((oz HX).below hb);obtain rfl:=hno r1;clear hyes hno hb HRU HX HK;have r0:=(oz HX2).rs.cell 0;have f0:=(oz HX2).rs.frozen 0;have r1:=(oz HX2).rs.cell 1;have f1:=(oz HX2).rs.frozen 1;have r2:=(oz HX2).rs.cell 2;have f2:=(oz HX2).rs.frozen 2;go_wp2_with fail
     exact XS (v:=wrV (35,list,(k:Int))) (jA Tryz.results97 rfl (jG (oz HX2).rs _ _ _) rfl) rfl ⟨rfl,zY (oz HX2).bl zD (oz HX2).bl.size _ _ _⟩
    | true =>
     by_cases r2:(zk x.2).length < 1
     ·have r2':(((zk x.2).length:Nat):Int) < 1:=by omega
      have hf:mpF x=35:=zeQ r0 (by unfold toB;rw [r1,Zq (by omega)];rfl);have hm:mb=(35,list,(k:Int)):=by rw [← oz HV,(oz HO).bad (oz HK) list (by rw [hf];decide),hf]
      subst hm;clear hf HV HO;have HRU:=kz (Xm x.2 (oz HZ x (YH (oz HK))) wr);go_wp2_with fail
      refine (oz HA _).mono ?_;rintro e wx ⟨rfl,hw⟩;rw [hw];clear hw wx;go_wp2_with fail
      refine (oz HRU).mono ?_;rintro e w2 ⟨hyes,hno,hb⟩;have HX2:=kz ((oz HX).below hb);obtain ⟨v,rfl,ho⟩:=hyes r1;obtain ⟨p,c2,rfl,hR⟩:=Ju ho;clear hyes hno hb HRU HX HK ho hR r1;generalize (zk x.2).length=n at *;have r0:=(oz HX2).rs.cell 0;have f0:=(oz HX2).rs.frozen 0;have r1:=(oz HX2).rs.cell 1;have f1:=(oz HX2).rs.frozen 1;have r2:=(oz HX2).rs.cell 2;have f2:=(oz HX2).rs.frozen 2;go_wp2_with fail
      exact XS (v:=wrV (35,list,(k:Int))) (jA Tryz.results97 rfl (jG (oz HX2).rs _ _ _) rfl) rfl ⟨rfl,zY (oz HX2).bl zD (oz HX2).bl.size _ _ _⟩
     ·by_cases r3:4 < (zk x.2).length
      ·have r2':¬ (((zk x.2).length:Nat):Int) < 1:=by omega
       have r3':(4:Int) < (((zk x.2).length:Nat):Int):=by omega
       have hf:mpF x=35:=zeQ r0 (by unfold toB;rw [r1,Zq (by omega)];rfl);have hm:mb=(35,list,(k:Int)):=by rw [← oz HV,(oz HO).bad (oz HK) list (by rw [hf];decide),hf]
       subst hm;clear hf HV HO;have HRU:=kz (Xm x.2 (oz HZ x (YH (oz HK))) wr);go_wp2_with fail
       refine (oz HA _).mono ?_;rintro e wx ⟨rfl,hw⟩;rw [hw];clear hw wx;go_wp2_with fail
       refine (oz HRU).mono ?_;rintro e w2 ⟨hyes,hno,hb⟩;have HX2:=kz ((oz HX).below hb);obtain ⟨v,rfl,ho⟩:=hyes r1;obtain ⟨p,c2,rfl,hR⟩:=Ju ho;clear hyes hno hb HRU HX HK ho hR r1;generalize (zk x.2).length=n at *;have r0:=(oz HX2).rs.cell 0;have f0:=(oz HX2).rs.frozen 0;have r1:=(oz HX2).rs.cell 1;have f1:=(oz HX2).rs.frozen 1;have r2:=(oz HX2).rs.cell 2;have f2:=(oz HX2).rs.frozen 2;go_wp2_with fail
       exact XS (v:=wrV (35,list,(k:Int))) (jA Tryz.results97 rfl (jG (oz HX2).rs _ _ _) rfl) rfl ⟨rfl,zY (oz HX2).bl zD (oz HX2).bl.size _ _ _⟩
      ·have r2':¬ (((zk x.2).length:Nat):Int) < 1:=by omega
       have r3':¬ (4:Int) < (((zk x.2).length:Nat):Int):=by omega
       have hf:mpF x=0:=zkl r0 (by unfold toB;rw [r1,JS (by omega)];rfl);have HO2:=kz ((oz HO).next (oz HK) hf);clear hf HO;have HRU:=kz (Xm x.2 (oz HZ x (YH (oz HK))) wr);go_wp2_with fail
       refine (oz HA _).mono ?_;rintro e wx ⟨rfl,hw⟩;rw [hw];clear hw wx;go_wp2_with fail
       refine (oz HRU).mono ?_;rintro e w2 ⟨hyes,hno,hb⟩;have HX2:=kz ((oz HX).below hb);obtain ⟨v,rfl,ho⟩:=hyes r1;obtain ⟨p,c2,rfl,hR⟩:=Ju ho;clear hyes hno hb HRU HX HK ho hR r1;generalize (zk x.2).length=n at *;go_wp2_with fail
       exact ⟨⟨k+1,by omega,by first | rfl | go_num,HO2,HX2⟩,by simp [intOf];omega⟩
  ·have k1:¬ (k:Int) < (l.length:Int):=by omega
   have hm:mb=(0,0,0):=by rw [← oz HV];exact (oz HO).ok (by omega) list
   subst hm;clear HV HO;have r0:=(oz HX).rs.cell 0;have f0:=(oz HX).rs.frozen 0;have r1:=(oz HX).rs.cell 1;have f1:=(oz HX).rs.frozen 1;have r2:=(oz HX).rs.cell 2;have f2:=(oz HX).rs.frozen 2;go_wp2_with fail
   exact XS (v:=wrV (0,0,0)) (jA Tryz.results97 rfl (jG (oz HX).rs _ _ _) rfl) rfl ⟨rfl,zY (oz HX).bl zD (oz HX).bl.size _ _ _⟩
end Go.Proofs.YthchopdfmchpkaaGreat
