/- Texts of this claim, one behind the other. -/
import Derived.Test.YtmemedpoaocdkaaGreatM4
import Derived.Laws.AppendOwn
import Derived.Laws.MakeOwn
import Derived.Lib.SliceRun
import Derived.Lib.Walk
import Derived.Shelf.RegionOpenPlain
import Derived.Below
namespace Go.Proofs.YtmemedpoaocdkaaGreat
set_option linter.unusedVariables false
section
open Go.RowKit Go.Shelf
set_option maxRecDepth 100000
set_option maxHeartbeats 8000000
structure KeptX (X:Nat→Prop) (w w':World):Prop where
 os:w'.os=w.os
 tape:w'.tape=w.tape
 output:w'.output=w.output
 size:w.heap.size≤w'.heap.size
 block:∀ k,k < w.heap.size→¬ X k→w'.heap[k]?=w.heap[k]?
theorem KeptX.refl (X:Nat→Prop) (w:World):KeptX X w w:=⟨rfl,rfl,rfl,Nat.le_refl _,fun _ _ _ =>rfl⟩
theorem KeptX.trans {X:Nat→Prop} {a b c:World} (h:KeptX X a b) (g:KeptX X b c):KeptX X a c :=
 ⟨g.os.trans h.os,g.tape.trans h.tape,g.output.trans h.output,Nat.le_trans h.size g.size,fun k hk hx =>(g.block k (Nat.lt_of_lt_of_le hk h.size) hx).trans (h.block k hk hx)⟩
theorem zaw {w w':World} (h:Below w.heap.size w w') (X:Nat→Prop):KeptX X w w':=⟨h.os,h.tape,h.output,h.size,fun k hk _ =>h.block k hk⟩
theorem KeptX.below {w w':World} (h:KeptX (fun _ =>False) w w'):Below w.heap.size w w':=⟨h.os,h.tape,h.output,h.size,fun k hk =>h.block k hk (fun q =>q)⟩
theorem KeptX.mono {X Y:Nat→Prop} {w w':World} (h:KeptX X w w') (g:∀ k,X k→Y k):KeptX Y w w':=⟨h.os,h.tape,h.output,h.size,fun k hk hx =>h.block k hk (fun q =>hx (g k q))⟩
theorem KeptX.cell {X:Nat→Prop} {w w':World} (h:KeptX X w w') {p:Addr} (hp:p.block < w.heap.size) (hx:¬ X p.block):w'.cell? p=w.cell? p:=by
 have e:=h.block p.block hp hx
 unfold World.cell?
 rw [e]
theorem KeptX.blk {X:Nat→Prop} {w w':World} (h:KeptX X w w') {B:Nat} {cs:Array Value} {t:TypeId} (hb:Blk w B cs t) (hx:¬ X B):Blk w' B cs t:=by
 have:=h.block B hb.lt hx
 unfold Blk at hb ⊢
 rw [this]
 exact hb
theorem KeptX.grown {X:Nat→Prop} {W w w':World} {R:Nat} (h:KeptX X W w) (hg:w.grownBy w' (some R)) (hR:W.heap.size≤R):KeptX X W w' :=
 ⟨hg.os.trans h.os,hg.tape.trans h.tape,hg.output.trans h.output,Nat.le_trans h.size hg.size,fun k hk hx =>(hg.block k (Nat.lt_of_lt_of_le hk h.size) (fun e =>by have:=Option.some.inj e;omega)).trans (h.block k hk hx)⟩
theorem KeptX.set3 {X:Nat→Prop} {W w:World} {R:Nat} (h:KeptX X W w) (hR:W.heap.size≤R) (x y z:Value):KeptX X W (((w.setCell ⟨R,0,none⟩ x).setCell ⟨R,1,none⟩ y).setCell ⟨R,2,none⟩ z) :=
 ((h.grown (zaO w R 0 x) hR).grown (zaO _ R 1 y) hR).grown (zaO _ R 2 z) hR
theorem zc1 (list:Int) (zs:List (ByteArray × List (Int × Int))) (us:List Value) (hus:us.length=zs.length) (hsl:∀ (j:Nat) (u:Value),us[j]?=some u→∃ p n d,u=Value.slice p n d) (hn:zs.length≤1000000) (a:Option Addr) (c G:Nat) (lb:Array Value) (eg:∀ args w,(callFunc G args).run Tryz.prog w=.ok (.enter G args) w)
  (f:Nat→Int) (X:Nat→Prop) (J:Nat→World→Prop) (lo:Nat) (W:World) (hlo:lo≤W.heap.size) (hX:∀ b,X b→lo≤b∧b < W.heap.size) (hr:RowC W lo a (zbG zs us)) (h0:J 0 W)
  (hst:∀ i w w',J i w→Below w.heap.size w w'→J i w')
  (hcall:∀ (i:Nat) (x:(ByteArray × List (Int × Int))) (u:Value) (w:World),zs[i]?=some x→us[i]?=some u→KeptX X W w→J i w→Calls Tryz.prog G (#[.agg #[.string x.1,u]]++lb) w fun e w' =>e=.returned (.int .i64 (f i))∧J (i+1) w'∧KeptX X w w') :
  Calls Tryz.prog 104 #[.int .i64 list,.slice a zs.length c,.func (.func G) #[] lb] W fun e w' =>e=.returned (wrV (zaG list zs.length f))∧KeptX X W w':=by
 have hB0:Below W.heap.size W (W.alloc (.cells #[.int .i64 0,.int .i64 0,.int .i64 0] 76)):=(Below.refl _ W).alloc (Nat.le_refl _) _
 have HS0:=kz (And.intro (zaw hB0 X) (And.intro (Blk.new W #[.int .i64 0,.int .i64 0,.int .i64 0] 76) (hst 0 _ _ h0 hB0)))
 have HA:=kz hr
 have HX:=kz (And.intro hlo hX)
 have HC:=kz (And.intro hst hcall)
 clear hB0 hr hlo hX hst hcall h0
 go_enter Tryz.func104,Tryz.ntmps104
 go_wp2
 generalize W.alloc (.cells #[.int .i64 0,.int .i64 0,.int .i64 0] 76)=w1 at *
 go_loopw [7,8,9,12] (fun _ _ _ s12 wr => ∃ k:Nat,k≤zs.length∧s12=.int .i64 k∧Hz (∀ i,i < k→f i=0)∧Hz (KeptX X W wr∧Blk wr W.heap.size #[.int .i64 0,.int .i64 0,.int .i64 0] 76∧J k wr)) (fun _ _ _ s12 _ =>zs.length - (intOf s12).toNat)
 case atStart =>exact ⟨0,Nat.zero_le _,rfl,kz (fun i hi =>absurd hi (Nat.not_lt_zero _)),HS0⟩
 case round =>
  obtain ⟨k,hk,rfl,HF,HS⟩:=hrel
  clear HS0
  by_cases hkn:k < zs.length
  ·obtain ⟨x,hx⟩:∃ x,zs[k]?=some x:=⟨_,List.getElem?_eq_getElem hkn⟩
   obtain ⟨u,hu⟩:∃ u,us[k]?=some u:=⟨_,List.getElem?_eq_getElem (by omega)⟩
   obtain ⟨pu,nu,du,rfl⟩:=hsl k u hu
   obtain ⟨g,q,rfl,hg,hc⟩:=oz HA (by rw [zej zs us hus];omega)
   have e0:W.cell? ⟨g,q+k*2,none⟩=some (.string x.1):=hc _ _ (ziX zs us hus k x hx)
   have e1:W.cell? ⟨g,q+k*2+1,none⟩=some (.slice pu nu du):=by
    have h1:=hc (2*k+1) _ ((ze3 zs us hus k).trans hu)
    rwa [show q+(2*k+1)=q+k*2+1 by omega] at h1
   have hgX:¬ X g:=fun q =>by have:=(oz HX).2 g q;omega
   have hgW:g < W.heap.size:=by have:=(oz HX).1;omega
   have c0:wr.cell? ⟨g,q+k*2,none⟩=some (.string x.1):=((oz HS).1.cell (p:=⟨g,q+k*2,none⟩) hgW hgX).trans e0
   have c1:wr.cell? ⟨g,q+k*2+1,none⟩=some (.slice pu nu du):=((oz HS).1.cell (p:=⟨g,q+k*2+1,none⟩) hgW hgX).trans e1
   have hB:Below wr.heap.size wr (wr.alloc (.cells #[.string x.1,.slice pu nu du] 109)):=(Below.refl _ wr).alloc (Nat.le_refl _) _
   have HL:=kz (oz HC).2
   have HCL:=kz (oz HL k x _ (wr.alloc (.cells #[.string x.1,.slice pu nu du] 109)) hx hu ((oz HS).1.trans (zaw hB X)) ((oz HC).1 k _ _ (oz HS).2.2 hB))
   have HR:=kz (((oz HS).1.trans (zaw hB X)))
   have HRB:=kz ((oz HS).2.1.alloc (.cells #[.string x.1,.slice pu nu du] 109))
   have HRX:Hz (¬ X W.heap.size):=kz (fun q =>by have:=(oz HX).2 _ q;omega)
   have hk1:(k:Int) < (zs.length:Int):=by omega
   have hk2:((k:Nat):Int).toNat=k:=by omega
   have HFK:Hz (f k=0→∀ i,i < k+1→f i=0):=kz (fun h i hi =>by
    rcases Nat.lt_or_ge i k with h1 | h1
    ·exact oz HF i h1
    ·obtain rfl:i=k:=by omega
     exact h)
   have HFB:Hz (f k≠0→zaG list zs.length f=(f k,list,(k:Int))):=kz (fun h =>zba k hkn (oz HF) h)
   obtain ⟨x1,x2⟩:=x
   dsimp only at c0 c1 HCL HR HRB
   clear hx hu hc hB HL HS HF e0 e1 hgX hgW hg
   generalize f k=y at *
   by_cases hy:y=0
   ·subst hy
    have HFK2:=kz (oz HFK rfl)
    clear HFK HFB
    go_wp2_with (go_at_fn G;refine (oz HCL).mono ?_;rintro e w' ⟨rfl,hj',hk'⟩)
    exact ⟨⟨k+1,by omega,by go_num,HFK2,kz ⟨(oz HR).trans hk',hk'.blk (oz HRB) (oz HRX),hj'⟩⟩,by simp [intOf];omega⟩
   ·have hy1:(y == 0)=false:=by simpa using hy
    have HFB2:=kz (oz HFB hy)
    clear HFK HFB
    go_wp2_with (go_at_fn G;refine (oz HCL).mono ?_;rintro e w' ⟨rfl,hj',hk'⟩;have HRB2:=kz (hk'.blk (oz HRB) (oz HRX));have r0:=(oz HRB2).cell 0;have r1:=(oz HRB2).cell 1;have r2:=(oz HRB2).cell 2;have f0:=(oz HRB2).frozen 0;have f1:=(oz HRB2).frozen 1;have f2:=(oz HRB2).frozen 2)
    rw [oz HFB2]
    exact bodyPost_ret (v:=wrV (y,list,(k:Int))) (zb8 Tryz.results104 rfl (zcf (oz HRB2) _ _ _) rfl) rfl ⟨rfl,((oz HR).trans hk').set3 (Nat.le_refl _) _ _ _⟩
  ·have hk1:¬ (k:Int) < (zs.length:Int):=by omega
   have HO2:Hz (zaG list zs.length f=(0,0,0)):=kz (zbE (fun i hi =>oz HF i (by omega)))
   have r0:=(oz HS).2.1.cell 0
   have r1:=(oz HS).2.1.cell 1
   have r2:=(oz HS).2.1.cell 2
   have f0:=(oz HS).2.1.frozen 0
   have f1:=(oz HS).2.1.frozen 1
   have f2:=(oz HS).2.1.frozen 2
   go_wp2_with fail
   rw [oz HO2]
   exact bodyPost_ret (v:=wrV (0,0,0)) (zb8 Tryz.results104 rfl (zcf (oz HS).2.1 _ _ _) rfl) rfl ⟨rfl,(oz HS).1.set3 (Nat.le_refl _) _ _ _⟩
theorem zdP (list:Int) (zs:List (Int × Int)) (hn:zs.length≤1000000) (a:Option Addr) (c G:Nat) (lb:Array Value) (eg:∀ args w,(callFunc G args).run Tryz.prog w=.ok (.enter G args) w)
  (f:Nat→Int) (X:Nat→Prop) (J:Nat→World→Prop) (lo:Nat) (W:World) (hlo:lo≤W.heap.size) (hX:∀ b,X b→lo≤b∧b < W.heap.size) (hr:RowC W lo a (zdk zs)) (h0:J 0 W)
  (hst:∀ i w w',J i w→Below w.heap.size w w'→J i w')
  (hcall:∀ (i:Nat) (x:(Int × Int)) (w:World),zs[i]?=some x→KeptX X W w→J i w→Calls Tryz.prog G (#[.agg #[.int .i32 x.1,.int .i64 x.2]]++lb) w fun e w' =>e=.returned (.int .i64 (f i))∧J (i+1) w'∧KeptX X w w') :
  Calls Tryz.prog 109 #[.int .i64 list,.slice a zs.length c,.func (.func G) #[] lb] W fun e w' =>e=.returned (wrV (zaG list zs.length f))∧KeptX X W w':=by
 have hB0:Below W.heap.size W (W.alloc (.cells #[.int .i64 0,.int .i64 0,.int .i64 0] 76)):=(Below.refl _ W).alloc (Nat.le_refl _) _
 have HS0:=kz (And.intro (zaw hB0 X) (And.intro (Blk.new W #[.int .i64 0,.int .i64 0,.int .i64 0] 76) (hst 0 _ _ h0 hB0)))
 have HA:=kz hr
 have HX:=kz (And.intro hlo hX)
 have HC:=kz (And.intro hst hcall)
 clear hB0 hr hlo hX hst hcall h0
 go_enter Tryz.func109,Tryz.ntmps109
 go_wp2
 generalize W.alloc (.cells #[.int .i64 0,.int .i64 0,.int .i64 0] 76)=w1 at *
 go_loopw [7,8,9,12] (fun _ _ _ s12 wr => ∃ k:Nat,k≤zs.length∧s12=.int .i64 k∧Hz (∀ i,i < k→f i=0)∧Hz (KeptX X W wr∧Blk wr W.heap.size #[.int .i64 0,.int .i64 0,.int .i64 0] 76∧J k wr)) (fun _ _ _ s12 _ =>zs.length - (intOf s12).toNat)
 case atStart =>exact ⟨0,Nat.zero_le _,rfl,kz (fun i hi =>absurd hi (Nat.not_lt_zero _)),HS0⟩
 case round =>
  obtain ⟨k,hk,rfl,HF,HS⟩:=hrel
  clear HS0
  by_cases hkn:k < zs.length
  ·obtain ⟨x,hx⟩:∃ x,zs[k]?=some x:=⟨_,List.getElem?_eq_getElem hkn⟩
   obtain ⟨g,q,rfl,hg,hc⟩:=oz HA (by rw [zfH];omega)
   have e0:W.cell? ⟨g,q+k*2,none⟩=some (.int .i32 x.1):=hc _ _ (zf6 _ k x hx).1
   have e1:W.cell? ⟨g,q+k*2+1,none⟩=some (.int .i64 x.2):=hc _ _ (zf6 _ k x hx).2
   have hgX:¬ X g:=fun q =>by have:=(oz HX).2 g q;omega
   have hgW:g < W.heap.size:=by have:=(oz HX).1;omega
   have c0:wr.cell? ⟨g,q+k*2,none⟩=some (.int .i32 x.1):=((oz HS).1.cell (p:=⟨g,q+k*2,none⟩) hgW hgX).trans e0
   have c1:wr.cell? ⟨g,q+k*2+1,none⟩=some (.int .i64 x.2):=((oz HS).1.cell (p:=⟨g,q+k*2+1,none⟩) hgW hgX).trans e1
   have hB:Below wr.heap.size wr (wr.alloc (.cells #[.int .i32 x.1,.int .i64 x.2] 115)):=(Below.refl _ wr).alloc (Nat.le_refl _) _
   have HL:=kz (oz HC).2
   have HCL:=kz (oz HL k x (wr.alloc (.cells #[.int .i32 x.1,.int .i64 x.2] 115)) hx ((oz HS).1.trans (zaw hB X)) ((oz HC).1 k _ _ (oz HS).2.2 hB))
   have HR:=kz (((oz HS).1.trans (zaw hB X)))
   have HRB:=kz ((oz HS).2.1.alloc (.cells #[.int .i32 x.1,.int .i64 x.2] 115))
   have HRX:Hz (¬ X W.heap.size):=kz (fun q =>by have:=(oz HX).2 _ q;omega)
   have hk1:(k:Int) < (zs.length:Int):=by omega
   have hk2:((k:Nat):Int).toNat=k:=by omega
   have HFK:Hz (f k=0→∀ i,i < k+1→f i=0):=kz (fun h i hi =>by
    rcases Nat.lt_or_ge i k with h1 | h1
    ·exact oz HF i h1
    ·obtain rfl:i=k:=by omega
     exact h)
   have HFB:Hz (f k≠0→zaG list zs.length f=(f k,list,(k:Int))):=kz (fun h =>zba k hkn (oz HF) h)
   obtain ⟨x1,x2⟩:=x
   dsimp only at c0 c1 HCL HR HRB
   clear hx hc hB HL HS HF e0 e1 hgX hgW hg
   generalize f k=y at *
   by_cases hy:y=0
   ·subst hy
    have HFK2:=kz (oz HFK rfl)
    clear HFK HFB
    go_wp2_with (go_at_fn G;refine (oz HCL).mono ?_;rintro e w' ⟨rfl,hj',hk'⟩)
    exact ⟨⟨k+1,by omega,by go_num,HFK2,kz ⟨(oz HR).trans hk',hk'.blk (oz HRB) (oz HRX),hj'⟩⟩,by simp [intOf];omega⟩
   ·have hy1:(y == 0)=false:=by simpa using hy
    have HFB2:=kz (oz HFB hy)
    clear HFK HFB
    go_wp2_with (go_at_fn G;refine (oz HCL).mono ?_;rintro e w' ⟨rfl,hj',hk'⟩;have HRB2:=kz (hk'.blk (oz HRB) (oz HRX));have r0:=(oz HRB2).cell 0;have r1:=(oz HRB2).cell 1;have r2:=(oz HRB2).cell 2;have f0:=(oz HRB2).frozen 0;have f1:=(oz HRB2).frozen 1;have f2:=(oz HRB2).frozen 2)
    rw [oz HFB2]
    exact bodyPost_ret (v:=wrV (y,list,(k:Int))) (zb8 Tryz.results109 rfl (zcf (oz HRB2) _ _ _) rfl) rfl ⟨rfl,((oz HR).trans hk').set3 (Nat.le_refl _) _ _ _⟩
  ·have hk1:¬ (k:Int) < (zs.length:Int):=by omega
   have HO2:Hz (zaG list zs.length f=(0,0,0)):=kz (zbE (fun i hi =>oz HF i (by omega)))
   have r0:=(oz HS).2.1.cell 0
   have r1:=(oz HS).2.1.cell 1
   have r2:=(oz HS).2.1.cell 2
   have f0:=(oz HS).2.1.frozen 0
   have f1:=(oz HS).2.1.frozen 1
   have f2:=(oz HS).2.1.frozen 2
   go_wp2_with fail
   rw [oz HO2]
   exact bodyPost_ret (v:=wrV (0,0,0)) (zb8 Tryz.results109 rfl (zcf (oz HS).2.1 _ _ _) rfl) rfl ⟨rfl,(oz HS).1.set3 (Nat.le_refl _) _ _ _⟩
theorem zdO (list:Int) (zs:List (Int × Int × Int)) (hn:zs.length≤1000000) (a:Option Addr) (c G:Nat) (lb:Array Value) (eg:∀ args w,(callFunc G args).run Tryz.prog w=.ok (.enter G args) w)
  (f:Nat→Int) (X:Nat→Prop) (J:Nat→World→Prop) (lo:Nat) (W:World) (hlo:lo≤W.heap.size) (hX:∀ b,X b→lo≤b∧b < W.heap.size) (hr:RowC W lo a (zcL zs)) (h0:J 0 W)
  (hst:∀ i w w',J i w→Below w.heap.size w w'→J i w')
  (hcall:∀ (i:Nat) (x:(Int × Int × Int)) (w:World),zs[i]?=some x→KeptX X W w→J i w→Calls Tryz.prog G (#[.agg #[.int .i32 x.1,.int .i32 x.2.1,.int .i32 x.2.2]]++lb) w fun e w' =>e=.returned (.int .i64 (f i))∧J (i+1) w'∧KeptX X w w') :
  Calls Tryz.prog 111 #[.int .i64 list,.slice a zs.length c,.func (.func G) #[] lb] W fun e w' =>e=.returned (wrV (zaG list zs.length f))∧KeptX X W w':=by
 have hB0:Below W.heap.size W (W.alloc (.cells #[.int .i64 0,.int .i64 0,.int .i64 0] 76)):=(Below.refl _ W).alloc (Nat.le_refl _) _
 have HS0:=kz (And.intro (zaw hB0 X) (And.intro (Blk.new W #[.int .i64 0,.int .i64 0,.int .i64 0] 76) (hst 0 _ _ h0 hB0)))
 have HA:=kz hr
 have HX:=kz (And.intro hlo hX)
 have HC:=kz (And.intro hst hcall)
 clear hB0 hr hlo hX hst hcall h0
 go_enter Tryz.func111,Tryz.ntmps111
 go_wp2
 generalize W.alloc (.cells #[.int .i64 0,.int .i64 0,.int .i64 0] 76)=w1 at *
 go_loopw [7,8,9,12] (fun _ _ _ s12 wr => ∃ k:Nat,k≤zs.length∧s12=.int .i64 k∧Hz (∀ i,i < k→f i=0)∧Hz (KeptX X W wr∧Blk wr W.heap.size #[.int .i64 0,.int .i64 0,.int .i64 0] 76∧J k wr)) (fun _ _ _ s12 _ =>zs.length - (intOf s12).toNat)
 case atStart =>exact ⟨0,Nat.zero_le _,rfl,kz (fun i hi =>absurd hi (Nat.not_lt_zero _)),HS0⟩
 case round =>
  obtain ⟨k,hk,rfl,HF,HS⟩:=hrel
  clear HS0
  by_cases hkn:k < zs.length
  ·obtain ⟨x,hx⟩:∃ x,zs[k]?=some x:=⟨_,List.getElem?_eq_getElem hkn⟩
   obtain ⟨g,q,rfl,hg,hc⟩:=oz HA (by rw [zel];omega)
   have e0:W.cell? ⟨g,q+k*3,none⟩=some (.int .i32 x.1):=hc _ _ (zdf _ k x hx).1
   have e1:W.cell? ⟨g,q+k*3+1,none⟩=some (.int .i32 x.2.1):=hc _ _ (zdf _ k x hx).2.1
   have e2:W.cell? ⟨g,q+k*3+2,none⟩=some (.int .i32 x.2.2):=hc _ _ (zdf _ k x hx).2.2
   have hgX:¬ X g:=fun q =>by have:=(oz HX).2 g q;omega
   have hgW:g < W.heap.size:=by have:=(oz HX).1;omega
   have c0:wr.cell? ⟨g,q+k*3,none⟩=some (.int .i32 x.1):=((oz HS).1.cell (p:=⟨g,q+k*3,none⟩) hgW hgX).trans e0
   have c1:wr.cell? ⟨g,q+k*3+1,none⟩=some (.int .i32 x.2.1):=((oz HS).1.cell (p:=⟨g,q+k*3+1,none⟩) hgW hgX).trans e1
   have c2:wr.cell? ⟨g,q+k*3+2,none⟩=some (.int .i32 x.2.2):=((oz HS).1.cell (p:=⟨g,q+k*3+2,none⟩) hgW hgX).trans e2
   have hB:Below wr.heap.size wr (wr.alloc (.cells #[.int .i32 x.1,.int .i32 x.2.1,.int .i32 x.2.2] 117)):=(Below.refl _ wr).alloc (Nat.le_refl _) _
   have HL:=kz (oz HC).2
   have HCL:=kz (oz HL k x (wr.alloc (.cells #[.int .i32 x.1,.int .i32 x.2.1,.int .i32 x.2.2] 117)) hx ((oz HS).1.trans (zaw hB X)) ((oz HC).1 k _ _ (oz HS).2.2 hB))
   have HR:=kz (((oz HS).1.trans (zaw hB X)))
   have HRB:=kz ((oz HS).2.1.alloc (.cells #[.int .i32 x.1,.int .i32 x.2.1,.int .i32 x.2.2] 117))
   have HRX:Hz (¬ X W.heap.size):=kz (fun q =>by have:=(oz HX).2 _ q;omega)
   have hk1:(k:Int) < (zs.length:Int):=by omega
   have hk2:((k:Nat):Int).toNat=k:=by omega
   have HFK:Hz (f k=0→∀ i,i < k+1→f i=0):=kz (fun h i hi =>by
    rcases Nat.lt_or_ge i k with h1 | h1
    ·exact oz HF i h1
    ·obtain rfl:i=k:=by omega
     exact h)
   have HFB:Hz (f k≠0→zaG list zs.length f=(f k,list,(k:Int))):=kz (fun h =>zba k hkn (oz HF) h)
   obtain ⟨x1,x2,x3⟩:=x
   dsimp only at c0 c1 c2 HCL HR HRB
   clear hx hc hB HL HS HF e0 e1 e2 hgX hgW hg
   generalize f k=y at *
   by_cases hy:y=0
   ·subst hy
    have HFK2:=kz (oz HFK rfl)
    clear HFK HFB
    go_wp2_with (go_at_fn G;refine (oz HCL).mono ?_;rintro e w' ⟨rfl,hj',hk'⟩)
    exact ⟨⟨k+1,by omega,by go_num,HFK2,kz ⟨(oz HR).trans hk',hk'.blk (oz HRB) (oz HRX),hj'⟩⟩,by simp [intOf];omega⟩
   ·have hy1:(y == 0)=false:=by simpa using hy
    have HFB2:=kz (oz HFB hy)
    clear HFK HFB
    go_wp2_with (go_at_fn G;refine (oz HCL).mono ?_;rintro e w' ⟨rfl,hj',hk'⟩;have HRB2:=kz (hk'.blk (oz HRB) (oz HRX));have r0:=(oz HRB2).cell 0;have r1:=(oz HRB2).cell 1;have r2:=(oz HRB2).cell 2;have f0:=(oz HRB2).frozen 0;have f1:=(oz HRB2).frozen 1;have f2:=(oz HRB2).frozen 2)
    rw [oz HFB2]
    exact bodyPost_ret (v:=wrV (y,list,(k:Int))) (zb8 Tryz.results111 rfl (zcf (oz HRB2) _ _ _) rfl) rfl ⟨rfl,((oz HR).trans hk').set3 (Nat.le_refl _) _ _ _⟩
  ·have hk1:¬ (k:Int) < (zs.length:Int):=by omega
   have HO2:Hz (zaG list zs.length f=(0,0,0)):=kz (zbE (fun i hi =>oz HF i (by omega)))
   have r0:=(oz HS).2.1.cell 0
   have r1:=(oz HS).2.1.cell 1
   have r2:=(oz HS).2.1.cell 2
   have f0:=(oz HS).2.1.frozen 0
   have f1:=(oz HS).2.1.frozen 1
   have f2:=(oz HS).2.1.frozen 2
   go_wp2_with fail
   rw [oz HO2]
   exact bodyPost_ret (v:=wrV (0,0,0)) (zb8 Tryz.results111 rfl (zcf (oz HS).2.1 _ _ _) rfl) rfl ⟨rfl,(oz HS).1.set3 (Nat.le_refl _) _ _ _⟩
theorem zeg (list:Int) (zs:List (Int × ByteArray)) (hn:zs.length≤1000000) (a:Option Addr) (c G:Nat) (lb:Array Value) (eg:∀ args w,(callFunc G args).run Tryz.prog w=.ok (.enter G args) w)
  (f:Nat→Int) (X:Nat→Prop) (J:Nat→World→Prop) (lo:Nat) (W:World) (hlo:lo≤W.heap.size) (hX:∀ b,X b→lo≤b∧b < W.heap.size) (hr:RowC W lo a (zbl zs)) (h0:J 0 W)
  (hst:∀ i w w',J i w→Below w.heap.size w w'→J i w')
  (hcall:∀ (i:Nat) (x:(Int × ByteArray)) (w:World),zs[i]?=some x→KeptX X W w→J i w→Calls Tryz.prog G (#[.agg #[.int .i32 x.1,.string x.2]]++lb) w fun e w' =>e=.returned (.int .i64 (f i))∧J (i+1) w'∧KeptX X w w') :
  Calls Tryz.prog 113 #[.int .i64 list,.slice a zs.length c,.func (.func G) #[] lb] W fun e w' =>e=.returned (wrV (zaG list zs.length f))∧KeptX X W w':=by
 have hB0:Below W.heap.size W (W.alloc (.cells #[.int .i64 0,.int .i64 0,.int .i64 0] 76)):=(Below.refl _ W).alloc (Nat.le_refl _) _
 have HS0:=kz (And.intro (zaw hB0 X) (And.intro (Blk.new W #[.int .i64 0,.int .i64 0,.int .i64 0] 76) (hst 0 _ _ h0 hB0)))
 have HA:=kz hr
 have HX:=kz (And.intro hlo hX)
 have HC:=kz (And.intro hst hcall)
 clear hB0 hr hlo hX hst hcall h0
 go_enter Tryz.func113,Tryz.ntmps113
 go_wp2
 generalize W.alloc (.cells #[.int .i64 0,.int .i64 0,.int .i64 0] 76)=w1 at *
 go_loopw [7,8,9,12] (fun _ _ _ s12 wr => ∃ k:Nat,k≤zs.length∧s12=.int .i64 k∧Hz (∀ i,i < k→f i=0)∧Hz (KeptX X W wr∧Blk wr W.heap.size #[.int .i64 0,.int .i64 0,.int .i64 0] 76∧J k wr)) (fun _ _ _ s12 _ =>zs.length - (intOf s12).toNat)
 case atStart =>exact ⟨0,Nat.zero_le _,rfl,kz (fun i hi =>absurd hi (Nat.not_lt_zero _)),HS0⟩
 case round =>
  obtain ⟨k,hk,rfl,HF,HS⟩:=hrel
  clear HS0
  by_cases hkn:k < zs.length
  ·obtain ⟨x,hx⟩:∃ x,zs[k]?=some x:=⟨_,List.getElem?_eq_getElem hkn⟩
   obtain ⟨g,q,rfl,hg,hc⟩:=oz HA (by rw [zem];omega)
   have e0:W.cell? ⟨g,q+k*2,none⟩=some (.int .i32 x.1):=hc _ _ (zdR _ k x hx).1
   have e1:W.cell? ⟨g,q+k*2+1,none⟩=some (.string x.2):=hc _ _ (zdR _ k x hx).2
   have hgX:¬ X g:=fun q =>by have:=(oz HX).2 g q;omega
   have hgW:g < W.heap.size:=by have:=(oz HX).1;omega
   have c0:wr.cell? ⟨g,q+k*2,none⟩=some (.int .i32 x.1):=((oz HS).1.cell (p:=⟨g,q+k*2,none⟩) hgW hgX).trans e0
   have c1:wr.cell? ⟨g,q+k*2+1,none⟩=some (.string x.2):=((oz HS).1.cell (p:=⟨g,q+k*2+1,none⟩) hgW hgX).trans e1
   have hB:Below wr.heap.size wr (wr.alloc (.cells #[.int .i32 x.1,.string x.2] 119)):=(Below.refl _ wr).alloc (Nat.le_refl _) _
   have HL:=kz (oz HC).2
   have HCL:=kz (oz HL k x (wr.alloc (.cells #[.int .i32 x.1,.string x.2] 119)) hx ((oz HS).1.trans (zaw hB X)) ((oz HC).1 k _ _ (oz HS).2.2 hB))
   have HR:=kz (((oz HS).1.trans (zaw hB X)))
   have HRB:=kz ((oz HS).2.1.alloc (.cells #[.int .i32 x.1,.string x.2] 119))
   have HRX:Hz (¬ X W.heap.size):=kz (fun q =>by have:=(oz HX).2 _ q;omega)
   have hk1:(k:Int) < (zs.length:Int):=by omega
   have hk2:((k:Nat):Int).toNat=k:=by omega
   have HFK:Hz (f k=0→∀ i,i < k+1→f i=0):=kz (fun h i hi =>by
    rcases Nat.lt_or_ge i k with h1 | h1
    ·exact oz HF i h1
    ·obtain rfl:i=k:=by omega
     exact h)
   have HFB:Hz (f k≠0→zaG list zs.length f=(f k,list,(k:Int))):=kz (fun h =>zba k hkn (oz HF) h)
   obtain ⟨x1,x2⟩:=x
   dsimp only at c0 c1 HCL HR HRB
   clear hx hc hB HL HS HF e0 e1 hgX hgW hg
   generalize f k=y at *
   by_cases hy:y=0
   ·subst hy
    have HFK2:=kz (oz HFK rfl)
    clear HFK HFB
    go_wp2_with (go_at_fn G;refine (oz HCL).mono ?_;rintro e w' ⟨rfl,hj',hk'⟩)
    exact ⟨⟨k+1,by omega,by go_num,HFK2,kz ⟨(oz HR).trans hk',hk'.blk (oz HRB) (oz HRX),hj'⟩⟩,by simp [intOf];omega⟩
   ·have hy1:(y == 0)=false:=by simpa using hy
    have HFB2:=kz (oz HFB hy)
    clear HFK HFB
    go_wp2_with (go_at_fn G;refine (oz HCL).mono ?_;rintro e w' ⟨rfl,hj',hk'⟩;have HRB2:=kz (hk'.blk (oz HRB) (oz HRX));have r0:=(oz HRB2).cell 0;have r1:=(oz HRB2).cell 1;have r2:=(oz HRB2).cell 2;have f0:=(oz HRB2).frozen 0;have f1:=(oz HRB2).frozen 1;have f2:=(oz HRB2).frozen 2)
    rw [oz HFB2]
    exact bodyPost_ret (v:=wrV (y,list,(k:Int))) (zb8 Tryz.results113 rfl (zcf (oz HRB2) _ _ _) rfl) rfl ⟨rfl,((oz HR).trans hk').set3 (Nat.le_refl _) _ _ _⟩
  ·have hk1:¬ (k:Int) < (zs.length:Int):=by omega
   have HO2:Hz (zaG list zs.length f=(0,0,0)):=kz (zbE (fun i hi =>oz HF i (by omega)))
   have r0:=(oz HS).2.1.cell 0
   have r1:=(oz HS).2.1.cell 1
   have r2:=(oz HS).2.1.cell 2
   have f0:=(oz HS).2.1.frozen 0
   have f1:=(oz HS).2.1.frozen 1
   have f2:=(oz HS).2.1.frozen 2
   go_wp2_with fail
   rw [oz HO2]
   exact bodyPost_ret (v:=wrV (0,0,0)) (zb8 Tryz.results113 rfl (zcf (oz HS).2.1 _ _ _) rfl) rfl ⟨rfl,(oz HS).1.set3 (Nat.le_refl _) _ _ _⟩
theorem zh5 (list:Int) (zs:List (Int × Int)) (hn:zs.length≤1000000) (a:Option Addr) (c G:Nat) (lb:Array Value) (eg:∀ args w,(callFunc G args).run Tryz.prog w=.ok (.enter G args) w)
  (f:Nat→Int) (X:Nat→Prop) (J:Nat→World→Prop) (lo:Nat) (W:World) (hlo:lo≤W.heap.size) (hX:∀ b,X b→lo≤b∧b < W.heap.size) (hr:RowC W lo a (zaQ zs)) (h0:J 0 W)
  (hst:∀ i w w',J i w→Below w.heap.size w w'→J i w')
  (hcall:∀ (i:Nat) (x:(Int × Int)) (w:World),zs[i]?=some x→KeptX X W w→J i w→Calls Tryz.prog G (#[.agg #[.int .i32 x.1,.int .i32 x.2]]++lb) w fun e w' =>e=.returned (.int .i64 (f i))∧J (i+1) w'∧KeptX X w w') :
  Calls Tryz.prog 157 #[.int .i64 list,.slice a zs.length c,.func (.func G) #[] lb] W fun e w' =>e=.returned (wrV (zaG list zs.length f))∧KeptX X W w':=by
 have hB0:Below W.heap.size W (W.alloc (.cells #[.int .i64 0,.int .i64 0,.int .i64 0] 76)):=(Below.refl _ W).alloc (Nat.le_refl _) _
 have HS0:=kz (And.intro (zaw hB0 X) (And.intro (Blk.new W #[.int .i64 0,.int .i64 0,.int .i64 0] 76) (hst 0 _ _ h0 hB0)))
 have HA:=kz hr
 have HX:=kz (And.intro hlo hX)
 have HC:=kz (And.intro hst hcall)
 clear hB0 hr hlo hX hst hcall h0
 go_enter Tryz.func157,Tryz.ntmps157
 go_wp2
 generalize W.alloc (.cells #[.int .i64 0,.int .i64 0,.int .i64 0] 76)=w1 at *
 go_loopw [7,8,9,12] (fun _ _ _ s12 wr => ∃ k:Nat,k≤zs.length∧s12=.int .i64 k∧Hz (∀ i,i < k→f i=0)∧Hz (KeptX X W wr∧Blk wr W.heap.size #[.int .i64 0,.int .i64 0,.int .i64 0] 76∧J k wr)) (fun _ _ _ s12 _ =>zs.length - (intOf s12).toNat)
 case atStart =>exact ⟨0,Nat.zero_le _,rfl,kz (fun i hi =>absurd hi (Nat.not_lt_zero _)),HS0⟩
 case round =>
  obtain ⟨k,hk,rfl,HF,HS⟩:=hrel
  clear HS0
  by_cases hkn:k < zs.length
  ·obtain ⟨x,hx⟩:∃ x,zs[k]?=some x:=⟨_,List.getElem?_eq_getElem hkn⟩
   obtain ⟨g,q,rfl,hg,hc⟩:=oz HA (by rw [zek];omega)
   have e0:W.cell? ⟨g,q+k*2,none⟩=some (.int .i32 x.1):=hc _ _ (ze4 _ k x hx).1
   have e1:W.cell? ⟨g,q+k*2+1,none⟩=some (.int .i32 x.2):=hc _ _ (ze4 _ k x hx).2
   have hgX:¬ X g:=fun q =>by have:=(oz HX).2 g q;omega
   have hgW:g < W.heap.size:=by have:=(oz HX).1;omega
   have c0:wr.cell? ⟨g,q+k*2,none⟩=some (.int .i32 x.1):=((oz HS).1.cell (p:=⟨g,q+k*2,none⟩) hgW hgX).trans e0
   have c1:wr.cell? ⟨g,q+k*2+1,none⟩=some (.int .i32 x.2):=((oz HS).1.cell (p:=⟨g,q+k*2+1,none⟩) hgW hgX).trans e1
   have hB:Below wr.heap.size wr (wr.alloc (.cells #[.int .i32 x.1,.int .i32 x.2] 113)):=(Below.refl _ wr).alloc (Nat.le_refl _) _
   have HL:=kz (oz HC).2
   have HCL:=kz (oz HL k x (wr.alloc (.cells #[.int .i32 x.1,.int .i32 x.2] 113)) hx ((oz HS).1.trans (zaw hB X)) ((oz HC).1 k _ _ (oz HS).2.2 hB))
   have HR:=kz (((oz HS).1.trans (zaw hB X)))
   have HRB:=kz ((oz HS).2.1.alloc (.cells #[.int .i32 x.1,.int .i32 x.2] 113))
   have HRX:Hz (¬ X W.heap.size):=kz (fun q =>by have:=(oz HX).2 _ q;omega)
   have hk1:(k:Int) < (zs.length:Int):=by omega
   have hk2:((k:Nat):Int).toNat=k:=by omega
   have HFK:Hz (f k=0→∀ i,i < k+1→f i=0):=kz (fun h i hi =>by
    rcases Nat.lt_or_ge i k with h1 | h1
    ·exact oz HF i h1
    ·obtain rfl:i=k:=by omega
     exact h)
   have HFB:Hz (f k≠0→zaG list zs.length f=(f k,list,(k:Int))):=kz (fun h =>zba k hkn (oz HF) h)
   obtain ⟨x1,x2⟩:=x
   dsimp only at c0 c1 HCL HR HRB
   clear hx hc hB HL HS HF e0 e1 hgX hgW hg
   generalize f k=y at *
   by_cases hy:y=0
   ·subst hy
    have HFK2:=kz (oz HFK rfl)
    clear HFK HFB
    go_wp2_with (go_at_fn G;refine (oz HCL).mono ?_;rintro e w' ⟨rfl,hj',hk'⟩)
    exact ⟨⟨k+1,by omega,by go_num,HFK2,kz ⟨(oz HR).trans hk',hk'.blk (oz HRB) (oz HRX),hj'⟩⟩,by simp [intOf];omega⟩
   ·have hy1:(y == 0)=false:=by simpa using hy
    have HFB2:=kz (oz HFB hy)
    clear HFK HFB
    go_wp2_with (go_at_fn G;refine (oz HCL).mono ?_;rintro e w' ⟨rfl,hj',hk'⟩;have HRB2:=kz (hk'.blk (oz HRB) (oz HRX));have r0:=(oz HRB2).cell 0;have r1:=(oz HRB2).cell 1;have r2:=(oz HRB2).cell 2;have f0:=(oz HRB2).frozen 0;have f1:=(oz HRB2).frozen 1;have f2:=(oz HRB2).frozen 2)
    rw [oz HFB2]
    exact bodyPost_ret (v:=wrV (y,list,(k:Int))) (zb8 Tryz.results157 rfl (zcf (oz HRB2) _ _ _) rfl) rfl ⟨rfl,((oz HR).trans hk').set3 (Nat.le_refl _) _ _ _⟩
  ·have hk1:¬ (k:Int) < (zs.length:Int):=by omega
   have HO2:Hz (zaG list zs.length f=(0,0,0)):=kz (zbE (fun i hi =>oz HF i (by omega)))
   have r0:=(oz HS).2.1.cell 0
   have r1:=(oz HS).2.1.cell 1
   have r2:=(oz HS).2.1.cell 2
   have f0:=(oz HS).2.1.frozen 0
   have f1:=(oz HS).2.1.frozen 1
   have f2:=(oz HS).2.1.frozen 2
   go_wp2_with fail
   rw [oz HO2]
   exact bodyPost_ret (v:=wrV (0,0,0)) (zb8 Tryz.results157 rfl (zcf (oz HS).2.1 _ _ _) rfl) rfl ⟨rfl,(oz HS).1.set3 (Nat.le_refl _) _ _ _⟩
set_option maxRecDepth 100000
set_option maxHeartbeats 8000000
def orE:List Int→Int
 | [] =>0
 | x::r =>if x=0 then orE r else x
theorem zcX {x:Int} {r:List Int} (h:x=0):orE (x::r)=orE r:=by
 show (if x=0 then orE r else x)=orE r
 rw [if_pos h]
theorem zcW {x:Int} {r:List Int} (h:x≠0):orE (x::r)=x:=by
 show (if x=0 then orE r else x)=x
 rw [if_neg h]
theorem zbo (l:List Int) (hl:l.length≤100) (g o c:Nat) (w:World) (hc:∀ (j:Nat) (x:Int),l[j]?=some x→w.cell? ⟨g,o+j,none⟩=some (.int .i64 x)) :
  Calls Tryz.prog 125 #[.slice (some ⟨g,o,none⟩) l.length c] w fun e w' =>e=.returned (.int .i64 (orE l))∧w'=w:=by
 have HC:=kz hc
 clear hc
 go_enter Tryz.func125,Tryz.ntmps125
 go_wp2
 go_loopw [5,8] (fun _ s8 wr => ∃ k:Nat,k≤l.length∧s8=.int .i64 k∧Hz (orE l=orE (l.drop k))∧wr=w) (fun _ s8 _ =>l.length - (intOf s8).toNat)
 case atStart =>exact ⟨0,by omega,rfl,kz (by rw [List.drop_zero]),rfl⟩
 case round =>
  obtain ⟨k,hkl,rfl,HO,rfl⟩:=hrel
  by_cases hkn:k < l.length
  ·obtain ⟨x,hx⟩:∃ x,l[k]?=some x:=⟨_,List.getElem?_eq_getElem hkn⟩
   have hd:l.drop k=x::l.drop (k+1):=by
    rw [List.drop_eq_getElem_cons hkn]
    congr 1
    exact Option.some.inj ((List.getElem?_eq_getElem hkn).symm.trans hx)
   have c0:=oz HC k x hx
   have hk1:(k:Int) < (l.length:Int):=by omega
   have hk2:((k:Nat):Int).toNat=k:=by omega
   by_cases hx0:x=0
   ·have HO2:Hz (orE l=orE (l.drop (k+1))):=kz (by rw [oz HO,hd,zcX hx0])
    subst hx0
    clear hx hd HO
    go_wp2_with fail
    exact ⟨⟨k+1,by omega,by go_num,HO2,by trivial⟩,by simp [intOf];omega⟩
   ·have HO2:Hz (orE l=x):=kz (by rw [oz HO,hd,zcW hx0])
    have q0:(x == 0)=false:=by simpa using hx0
    clear hx hd HO
    go_wp2_with fail
    rw [oz HO2]
    go_ret
    exact ⟨rfl,rfl⟩
  ·have hk1:¬ (k:Int) < (l.length:Int):=by omega
   have HO2:Hz (orE l=0):=kz (by rw [oz HO,List.drop_of_length_le (by omega)];rfl)
   go_wp2_with fail
   rw [oz HO2]
   go_ret
   exact ⟨rfl,rfl⟩
def RnC (W:World) (lo:Nat) (a:Option Addr) (zs:List Int):Prop:=0 < zs.length→∃ g o,a=some ⟨g,o,none⟩∧g < lo∧∀ (j:Nat) (x:Int),zs[j]?=some x→W.cell? ⟨g,o+j,none⟩=some (.int .i32 x)
theorem zlc (zs:List Int) (hn:zs.length≤1000000) (a:Option Addr) (c G:Nat) (fs lb:Array Value) (eg:∀ args w,(callFunc G args).run Tryz.prog w=.ok (.enter G args) w) (p:Int→Bool) (W:World) (hr:RnC W W.heap.size a zs)
  (hcall:∀ x ∈ zs, ∀ w,Below W.heap.size W w→Calls Tryz.prog G (fs++#[.int .i32 x]++lb) w fun e w' =>e=.returned (.bool (p x))∧Below W.heap.size W w') :
  Calls Tryz.prog 189 #[.slice a zs.length c,.func (.func G) fs lb] W fun e w' =>(∃ i:Int,e=.returned (.int .i64 i)∧decide (0≤i)=zs.any p)∧Below W.heap.size W w':=by
 have HA:=kz hr
 have HC:=kz hcall
 clear hr hcall
 go_enter Tryz.func189,Tryz.ntmps189
 go_wp2
 go_loopw [5,8] (fun _ s8 wr => ∃ k:Nat,k≤zs.length∧s8=.int .i64 k∧Hz (∀ x ∈ zs.take k,p x=false)∧Hz (Below W.heap.size W wr)) (fun _ s8 _ =>zs.length - (intOf s8).toNat)
 case atStart =>exact ⟨0,by omega,rfl,kz (fun x hx =>by simp at hx),kz (Below.refl _ _)⟩
 case round =>
  obtain ⟨k,hkl,rfl,HO,HS⟩:=hrel
  by_cases hkn:k < zs.length
  ·obtain ⟨x,hx⟩:∃ x,zs[k]?=some x:=⟨_,List.getElem?_eq_getElem hkn⟩
   obtain ⟨g,q,rfl,hg,hc⟩:=oz HA (by omega)
   have c0:wr.cell? ⟨g,q+k,none⟩=some (.int .i32 x):=((oz HS).cell (p:=⟨g,q+k,none⟩) hg).trans (hc k x hx)
   have HCL:=kz (oz HC x (List.mem_of_getElem? hx) wr (oz HS))
   have hk1:(k:Int) < (zs.length:Int):=by omega
   have hk2:((k:Nat):Int).toNat=k:=by omega
   have HX:=kz hx
   have HT:Hz (p x=true→zs.any p=true):=kz (fun h =>List.any_eq_true.2 ⟨x,List.mem_of_getElem? hx,h⟩)
   have HN:Hz (p x=false→∀ y ∈ zs.take (k+1),p y=false):=kz (fun h y hy =>by
    rw [List.take_add_one,hx] at hy
    rcases List.mem_append.1 hy with h1 | h1
    ·exact oz HO y h1
    ·obtain rfl:y=x:=by simpa using h1
     exact h)
   clear hx hc HO hg
   generalize p x=y at *
   cases y with
   | false =>
    have HN2:=kz (oz HN rfl)
    clear HN HT
    go_wp2_with (go_at_fn G;refine (oz HCL).mono ?_;rintro e w' ⟨rfl,hb'⟩)
    exact ⟨⟨k+1,by omega,by go_num,HN2,kz hb'⟩,by simp [intOf];omega⟩
   | true =>
    have HT2:=kz (oz HT rfl)
    clear HN HT
    go_wp2_with (go_at_fn G;refine (oz HCL).mono ?_;rintro e w' ⟨rfl,hb'⟩)
    go_ret
    exact ⟨⟨_,rfl,by rw [oz HT2];simp⟩,hb'⟩
  ·have hk1:¬ (k:Int) < (zs.length:Int):=by omega
   have HO2:Hz (zs.any p=false):=kz (by
    rw [List.any_eq_false]
    intro x hx
    have:=oz HO x (by rw [List.take_of_length_le (by omega)];exact hx)
    simp [this])
   go_wp2_with fail
   go_ret
   exact ⟨⟨_,rfl,by rw [oz HO2];rfl⟩,oz HS⟩
theorem zcc (zs:List Int) (hn:zs.length≤1000000) (a:Option Addr) (c G:Nat) (fs lb:Array Value) (eg:∀ args w,(callFunc G args).run Tryz.prog w=.ok (.enter G args) w) (p:Int→Bool) (W:World) (hr:RnC W W.heap.size a zs)
  (hcall:∀ x ∈ zs, ∀ w,Below W.heap.size W w→Calls Tryz.prog G (fs++#[.int .i32 x]++lb) w fun e w' =>e=.returned (.bool (p x))∧Below W.heap.size W w') :
  Calls Tryz.prog 147 #[.slice a zs.length c,.func (.func G) fs lb] W fun e w' =>e=.returned (.bool (zs.any p))∧Below W.heap.size W w':=by
 have HI:=kz (zlc zs hn a c G fs lb eg p W hr hcall)
 clear hr hcall
 go_enter Tryz.func147,Tryz.ntmps147
 go_wp2_with fail
 refine (oz HI).mono ?_
 rintro e w' ⟨⟨i,rfl,hi⟩,hb⟩
 have HI2:=kz (And.intro hi hb)
 clear hi hb HI
 go_wp2_with fail
 go_ret
 exact ⟨by rw [← (oz HI2).1];rfl,(oz HI2).2⟩
theorem zjB (r:Int) (w:World):Calls Tryz.prog 198 #[.int .i32 r] w fun e w' =>e=.returned (.bool (!zan r))∧w'=w:=by
 go_enter Tryz.func198,Tryz.ntmps198
 go_wp2_with fail
 refine (zbf r w).mono ?_
 rintro e w' ⟨rfl,rfl⟩
 go_wp2_with fail
 go_ret
 exact ⟨by rw [← zcg];rfl,rfl⟩
theorem zqd:∀ args w,(callFunc 198 args).run Tryz.prog w=.ok (.enter 198 args) w:=enters_of Tryz.func198 (by kernel_rfl) rfl
theorem zdx (zs:List Int) (hn:zs.length≤1000000) (a:Option Addr) (c:Nat) (W:World) (hr:RnC W W.heap.size a zs) :
  Calls Tryz.prog 172 #[.slice a zs.length c] W fun e w' =>e=.returned (.int .i64 (if zs.all zan then 0 else 12))∧Below W.heap.size W w':=by
 have HI:=kz (zcc zs hn a c 198 #[] #[] zqd (fun r => !zan r) W hr (fun x _ w hb =>(zjB x w).mono (fun e w' ⟨he,hw⟩ =>⟨he,hw ▸ hb⟩)))
 have hq:zs.any (fun r => !zan r) = !zs.all zan:=by simp [List.any_eq_not_all_not]
 rw [hq] at HI
 clear hr hq
 generalize zs.all zan=b at *
 go_enter Tryz.func172,Tryz.ntmps172
 go_wp2_with fail
 refine (oz HI).mono ?_
 rintro e w' ⟨rfl,hb⟩
 have HB:=kz hb
 clear hb HI
 go_wp2_with fail
 refine (zaF (!b) 12 w').mono ?_
 rintro e w2 ⟨rfl,rfl⟩
 cases b
 all_goals
  go_wp2_with fail
  go_ret
  exact ⟨rfl,oz HB⟩
end
section
open Go.RowKit Go.Shelf Go.Lib
set_option maxRecDepth 100000
set_option maxHeartbeats 8000000
def zc5:List (Int × Int)→List Value
 | [] => []
 | x::zs =>.int .i32 x.1::.int .i32 x.2::zc5 zs
theorem zbB (zs:List (Int × Int)):(zc5 zs).length=zs.length*2:=by
 induction zs with
 | nil =>rfl
 | cons x zs ih =>simp only [zc5,List.length_cons,ih];omega
theorem zgH (zs:List (Int × Int)) (j:Nat) (x:Int × Int) (h:zs[j]?=some x):(zc5 zs)[j*2]?=some (.int .i32 x.1)∧(zc5 zs)[j*2+1]?=some (.int .i32 x.2):=by
 induction zs generalizing j with
 | nil =>simp at h
 | cons y zs ih =>
  cases j with
  | zero =>simp at h;subst h;simp [zc5]
  | succ j =>
   simp at h
   have:=ih j h
   rw [show (j+1)*2=j*2+1+1 by omega]
   simpa [zc5] using this
theorem zdQ (xs ys:List (Int × Int)):zc5 (xs++ys)=zc5 xs++zc5 ys:=by
 induction xs with
 | nil =>rfl
 | cons x xs ih =>simp only [List.cons_append,zc5,ih]
theorem zf5 (zs:List (Int × Int)):∀ u ∈ zc5 zs,u.oneCell'=true:=by
 induction zs with
 | nil =>simp [zc5]
 | cons x zs ih =>
  intro u hu
  simp only [zc5,List.mem_cons] at hu
  rcases hu with rfl | rfl | hu
  ·rfl
  ·rfl
  ·exact ih u hu
theorem zht {W:World} {g o:Nat} {zs:List (Int × Int)} (hc:∀ j x,zs[j]?=some x→W.cell? ⟨g,o+j*2,none⟩=some (.int .i32 x.1)∧W.cell? ⟨g,o+j*2+1,none⟩=some (.int .i32 x.2)) (j:Nat) (u:Value) (hu:(zc5 zs)[j]?=some u):W.cell? ⟨g,o+j,none⟩=some u:=by
 have hl:=(List.getElem?_eq_some_iff.1 hu).1
 rw [zbB] at hl
 obtain ⟨x,hx⟩:∃ x,zs[j / 2]?=some x:=⟨_,List.getElem?_eq_getElem (by omega)⟩
 have h1:=zgH zs _ x hx
 have h2:=hc _ x hx
 rcases Nat.mod_two_eq_zero_or_one j with e | e
 ·have:j=j / 2*2:=by omega
  rw [← this] at h1 h2
  rw [h1.1] at hu
  cases hu
  exact h2.1
 ·have:j=j / 2*2+1:=by omega
  rw [show o+j / 2*2+1=o+j by omega] at h2
  rw [← this] at h1
  rw [h1.2] at hu
  cases hu
  exact h2.2
theorem zgt {W:World} {base n:Nat} {v:Value} {zs:List (Int × Int)} (h:W.ownsRow base 113 2 v n (zc5 zs)):∃ a c,v=.slice a zs.length c∧RowP W a zs∧n=zs.length∧zs.length≤c:=by
 obtain ⟨hl,h⟩:=h
 rw [zbB] at hl
 have hn:n=zs.length:=by omega
 subst hn
 rcases h with ⟨rfl,h0⟩ | ⟨g,cap,cur,rfl,hb,hg,h1,h2,h3,h4⟩
 ·exact ⟨none,0,by rw [h0],fun h =>by omega,rfl,by omega⟩
 ·refine ⟨_,cap,rfl,fun h0 =>⟨g,0,rfl,(Array.getElem?_eq_some_iff.1 hg).1,fun j x hj =>?_⟩,rfl,h1⟩
  have hbk:Blk W g cur 113:=hg
  have e:=zgH zs j x hj
  rw [← h4] at e
  have hjl:=(List.getElem?_eq_some_iff.1 hj).1
  rw [List.getElem?_take,if_pos (by omega),List.getElem?_take,if_pos (by omega)] at e
  rw [Nat.zero_add,Blk.cell hbk,Blk.cell hbk]
  simpa using e
theorem zaU {w:World} {a:Addr} {v:Value} (o:Obj) (h:w.cell? a=some v):(w.alloc o).cell? a=some v:=Lib.cell?_alloc_some _ h
theorem zmZ:(Tryz.prog.info? 113).map (fun i =>(i.zero,i.size,i.bytes))=some (some (.agg #[.int .i32 0,.int .i32 0]),2,8):=by kernel_rfl
theorem zll (a:Option Addr) (cap:Nat) (zs:List (Int × Int)) (hz:zs.length≤1073741824) (w:World) (hr:RowP w a zs) :
  Calls Tryz.prog 184 #[.slice a zs.length cap] w fun e w' => ∃ v,e=.returned v∧w'.ownsRow w.heap.size 113 2 v zs.length (zc5 zs)∧Below w.heap.size w w':=by
 have q22:∀ (w:World) (a:Option Addr) (n c n' c':Nat),(binOp .eql 23 (.slice a n c) (.slice none n' c')).run Tryz.prog w=.ok (.bool a.isNone) w:=fun w a n c n' c' =>Lib.run_eql_slice_nil w _ _ a n c n' c' Tryz.underlying23
 obtain ⟨i0,hi,hz0,hz1,hz2⟩:=info_parts zmZ
 have HI:=kz (show _∧_∧_∧_ from ⟨hi,hz0,hz1,hz2⟩)
 have HR:=kz hr
 clear hi hz0 hz1 hz2 hr
 cases a with
 | none =>
  have h0:zs=[]:=by
   by_cases e:0 < zs.length
   ·obtain ⟨g,o,h,_⟩:=oz HR e;cases h
   ·exact List.eq_nil_of_length_eq_zero (by omega)
  subst h0
  go_enter Tryz.func184,Tryz.ntmps184
  go_wp2
  go_ret
  exact ⟨_,rfl,World.ownsRow_nil _ _ _ _,Below.refl _ _⟩
 | some p =>
  have HN:Hz (∀ j u,(zc5 zs)[j]?=some u→w.cell? (p.add j)=some u):=kz (fun j u hu =>by
   have hl:=(List.getElem?_eq_some_iff.1 hu).1
   rw [zbB] at hl
   obtain ⟨g,o,h,hg,hc⟩:=oz HR (by omega)
   cases h
   rw [zdG]
   exact zht hc j u hu)
  have hb8:zs.length*8≤140737488355328:=by omega
  go_enter Tryz.func184,Tryz.ntmps184
  go_wp2_with (at_builtin;refine wpList_append_own _ rfl _ _ 23 rfl w.heap.size 113 i0 (.agg #[.int .i32 0,.int .i32 0]) 2 8 Tryz.underlying23 (oz HI).1 (oz HI).2.1 (oz HI).2.2.1 (oz HI).2.2.2 rfl (by decide) _ _ _ rfl (World.ownsRow_made w #[] 0 (Nat.le_refl _) (Nat.zero_le _) (by simp)) p zs.length cap (zc5 zs) rfl ?qc1 ?qc2 ?qc3 ?qc4 ?qc5 ?qc6 ?_)
  case qc1 =>exact zbB zs
  case qc2 =>exact fun j u hj =>zaU _ (oz HN j u hj)
  case qc3 =>exact zf5 zs
  case qc4 =>rw [Nat.zero_add];unfold maxLen;omega
  case qc5 =>rw [Nat.zero_add];exact hb8
  case qc6 =>simp
  intro v' w1 hown hgrow hnil
  have HO:=kz hown
  have HG:=kz hgrow
  clear hown hgrow hnil
  go_wp2
  go_ret
  refine ⟨v',rfl,by simpa using oz HO, ?_⟩
  exact ((Below.refl _ w).alloc (Nat.le_refl _) _).grown (oz HG) (by simp) (by intro k hk;simp [Value.ownBlock] at hk;omega)
end
section
open Go.RowKit Go.Shelf
set_option maxRecDepth 100000
set_option maxHeartbeats 8000000
theorem zeA (w:World) (b:Nat) (r:Int) (t:TypeId) (hb:b=w.heap.size):RnC (w.alloc (.cells #[.int .i32 r] t)) (w.alloc (.cells #[.int .i32 r] t)).heap.size (some ⟨b,0,none⟩) [r]:=fun _ =>⟨_,0,rfl,by simp [hb],fun j x hj =>by
 rcases j with _ | j
 ·obtain rfl:r=x:=by simpa using hj
  rw [hb]
  exact (Blk.new w #[.int .i32 r] t).cell 0
 ·simp at hj⟩
theorem zkb (w:World) (b:Nat) (r s u:Int) (t:TypeId) (hb:b=w.heap.size):RnC (w.alloc (.cells #[.int .i32 r,.int .i32 s,.int .i32 u] t)) (w.alloc (.cells #[.int .i32 r,.int .i32 s,.int .i32 u] t)).heap.size (some ⟨b,0,none⟩) [r,s,u]:=fun _ =>⟨_,0,rfl,by simp [hb],fun j x hj =>by
 subst hb
 have b:=Blk.new w #[.int .i32 r,.int .i32 s,.int .i32 u] t
 rcases j with _ | _ | _ | j
 ·obtain rfl:r=x:=by simpa using hj
  exact b.cell 0
 ·obtain rfl:s=x:=by simpa using hj
  exact b.cell 1
 ·obtain rfl:u=x:=by simpa using hj
  exact b.cell 2
 ·simp at hj⟩
theorem zjc (w:World) (b:Nat) (x y:Int) (t:TypeId) (hb:b=w.heap.size):∀ (j:Nat) (z:Int),[x,y][j]?=some z→(w.alloc (.cells #[.int .i64 x,.int .i64 y] t)).cell? ⟨b,0+j,none⟩=some (.int .i64 z):=fun j z hj =>by
 subst hb
 have b:=Blk.new w #[.int .i64 x,.int .i64 y] t
 rcases j with _ | _ | j
 ·obtain rfl:x=z:=by simpa using hj
  exact b.cell 0
 ·obtain rfl:y=z:=by simpa using hj
  exact b.cell 1
 ·simp at hj
theorem zcv {lo:Nat} {W w:World} (h:Below lo W w) (hs:lo≤w.heap.size) (o:Obj):Below lo W (w.alloc o):=h.alloc hs o
theorem zit (nm:ByteArray) (p:Option Addr) (n d:Nat) (w:World):Calls Tryz.prog 105 #[.agg #[.string nm,.slice p n d]] w fun e w' =>e=.returned (.int .i64 (if 1024 < n then 4 else 0))∧Below w.heap.size w w':=by
 have hB0:Below w.heap.size w (w.alloc (.cells #[.string nm,.slice p n d] 109)):=(Below.refl _ w).alloc (Nat.le_refl _) _
 have HB:=kz hB0
 clear hB0
 by_cases h:1024 < n
 ·have h1:(1024:Int) < (n:Int):=by omega
  rw [if_pos h]
  go_enter Tryz.func105,Tryz.ntmps105
  go_wp2_with fail
  refine (zaF true 4 _).mono ?_
  rintro e w2 ⟨rfl,rfl⟩
  go_wp2_with fail
  go_ret
  exact ⟨rfl,oz HB⟩
 ·have h1:¬ (1024:Int) < (n:Int):=by omega
  rw [if_neg h]
  go_enter Tryz.func105,Tryz.ntmps105
  go_wp2_with fail
  refine (zaF false 4 _).mono ?_
  rintro e w2 ⟨rfl,rfl⟩
  go_wp2_with fail
  go_ret
  exact ⟨rfl,oz HB⟩
theorem zhT (x y z:Int) (w:World):Calls Tryz.prog 112 #[.agg #[.int .i32 x,.int .i32 y,.int .i32 z]] w fun e w' =>e=.returned (.int .i64 (prF (x,y,z)))∧Below w.heap.size w w':=by
 have hB0:Below w.heap.size w (w.alloc (.cells #[.int .i32 x,.int .i32 y,.int .i32 z] 117)):=(Below.refl _ w).alloc (Nat.le_refl _) _
 have HB:=kz hB0
 clear hB0
 go_enter Tryz.func112,Tryz.ntmps112
 go_wp2_with fail
 refine (zdx [x,y,z] (by simp) _ _ _ (zkb _ _ x y z _ (by simp))).mono ?_
 rintro e w2 ⟨rfl,hb⟩
 have HB2:=kz ((zcv (oz HB) (oz HB).size _).trans (hb.mono (Nat.le_trans (oz HB).size (by simp))))
 clear hb
 have hv:(if ([x,y,z] : List Int).all zan then (0:Int) else 12)=prF (x,y,z):=by
  unfold prF
  simp only [List.all_cons,List.all_nil,Bool.and_true]
 rw [hv]
 go_wp2_with fail
 go_ret
 exact ⟨rfl,oz HB2⟩
theorem zmQ (r c:Int):maF (r,c)=orE [if ([r] : List Int).all zan then 0 else 12,if (decide (c < 1∨254 < c))=true then 30 else 0]:=by
 unfold maF
 simp only [List.all_cons,List.all_nil,Bool.and_true]
 cases hr:zan r
 ·rw [zcW (by decide)]
  rfl
 ·rw [zcX (by rfl)]
  by_cases hc:c < 1∨254 < c
  ·rw [zcW (by simp [hc])]
   simp [hc]
  ·rw [zcX (by simp [hc])]
   simp [hc,orE]
end
section
open Go.RowKit
def zfb (md:Region.Mode) (ops:Array Oper) (l:Array Bool):Prop :=
 ∀ (j:Nat) (o:Oper),ops[j]?=some o→l.getD j false=true→∀ e ∈ o.after,Region.binds md e=true→l.getD e.on false=true
def zmn (md:Region.Mode) (ops:Array Oper):Bool :=
 (List.range ops.size).all fun j =>((ops[j]?).map fun o =>o.after.all fun e => !Region.binds md e || decide (e.on < j)).getD true
def ziD (md:Region.Mode) (ops:Array Oper) (j:Nat):List Nat :=
 ((ops[j]?).map fun o =>(o.after.toList.filter fun e =>Region.binds md e).map fun e =>e.on).getD []
def zmo (md:Region.Mode) (ops:Array Oper):List Nat→List Nat→List Nat
 | [],s =>s
 | j::js,s =>zmo md ops js (if s.contains j then ziD md ops j++s else s)
def zpJ (md:Region.Mode) (ops:Array Oper) (f:Nat):Bool :=
 (List.range ops.size).all fun j =>(zmo md ops (List.range ops.size).reverse [f]).contains j
theorem zfp {md:Region.Mode} {ops:Array Oper} {j k:Nat} (h:k ∈ ziD md ops j):∃ o,ops[j]?=some o∧∃ e ∈ o.after,Region.binds md e=true∧e.on=k:=by
 unfold ziD at h
 cases ho:ops[j]? with
 | none =>rw [ho] at h;cases h
 | some o =>
  rw [ho] at h
  obtain ⟨e,he,rfl⟩:=List.mem_map.1 h
  obtain ⟨h1,h2⟩:=List.mem_filter.1 he
  exact ⟨o,rfl,e,Array.mem_toList_iff.1 h1,h2,rfl⟩
theorem zeR {md:Region.Mode} {ops:Array Oper} {l:Array Bool} (hc:zfb md ops l) (f:Nat) (hf:∀ k ∈ ziD md ops f,l.getD k false=true) :
  ∀ (js s:List Nat),(∀ j ∈ s,j=f∨l.getD j false=true)→∀ j ∈ zmo md ops js s,j=f∨l.getD j false=true
 | [],s,hs =>hs
 | x::js,s,hs =>by
  refine zeR hc f hf js _ ?_
  by_cases hx:s.contains x=true
  ·rw [if_pos hx]
   intro j hj
   rcases List.mem_append.1 hj with h | h
   ·rcases hs x (List.contains_iff_mem.1 hx) with rfl | h2
    ·exact .inr (hf j h)
    ·obtain ⟨o,ho,e,he,hb,rfl⟩:=zfp h
     exact .inr (hc x o ho h2 e he hb)
   ·exact hs j h
  ·rw [if_neg hx]
   exact hs
theorem ziF {md:Region.Mode} {ops:Array Oper} {l:Array Bool} {f:Nat} (ha:zpJ md ops f=true) (hc:zfb md ops l) (hr:f ∈ Region.ready md ops l) (j:Nat) (hj:j≠f) (hlt:j < ops.size):l.getD j false=true:=by
 obtain ⟨_,o,ho,hall⟩:=mem_ready.1 hr
 have h1:=List.all_eq_true.1 ha j (List.mem_range.2 hlt)
 rcases zeR hc f (fun k hk =>by
  obtain ⟨o',ho',e,he,hb,rfl⟩:=zfp hk
  obtain rfl:=Option.some.inj (ho.symm.trans ho')
  exact hall e he hb) _ _ (fun x hx =>.inl (List.mem_singleton.1 hx)) j (List.contains_iff_mem.1 h1) with h | h
 ·exact absurd h hj
 ·exact h
theorem zc0 {l:Array Bool} {j:Nat} (h:j < l.size):l.getD j true=l.getD j false:=by simp [h]
theorem zoA {md:Region.Mode} {ops:Array Oper} {l:Array Bool} (ht:zmn md ops=true) (hl:l.size=ops.size) (f:Nat) (hf:l.getD f true=false):Region.ready md ops l≠[]:=by
 have key:∀ n f,f≤n→l.getD f true=false→∃ i,i ∈ Region.ready md ops l:=by
  intro n
  induction n with
  | zero =>
   intro f h0 hf
   obtain rfl:f=0:=by omega
   have hlt:0 < l.size:=by
    rcases Nat.lt_or_ge 0 l.size with h | h
    ·exact h
    ·simp [Array.getElem?_eq_none h] at hf
   obtain ⟨o,ho⟩:∃ o,ops[0]?=some o:=⟨_,Array.getElem?_eq_getElem (by omega)⟩
   refine ⟨0,mem_ready.2 ⟨hf,o,ho,fun e he hb =>?_⟩⟩
   have h1:=List.all_eq_true.1 ht 0 (List.mem_range.2 (by omega))
   rw [ho] at h1
   have h2:=Array.all_eq_true_iff_forall_mem.1 h1 e he
   rw [hb] at h2
   simp at h2
  | succ n ih =>
   intro f hn hf
   have hlt:f < l.size:=by
    rcases Nat.lt_or_ge f l.size with h | h
    ·exact h
    ·simp [Array.getElem?_eq_none h] at hf
   obtain ⟨o,ho⟩:∃ o,ops[f]?=some o:=⟨_,Array.getElem?_eq_getElem (by omega)⟩
   by_cases hx:∃ e ∈ o.after,Region.binds md e=true∧l.getD e.on false=false
   ·obtain ⟨e,he,hb,hz⟩:=hx
    have h1:=List.all_eq_true.1 ht f (List.mem_range.2 (by omega))
    rw [ho] at h1
    have h2:=Array.all_eq_true_iff_forall_mem.1 h1 e he
    rw [hb] at h2
    have h3:e.on < f:=by simpa using h2
    exact ih e.on (by omega) (by rw [zc0 (by omega)];exact hz)
   ·refine ⟨f,mem_ready.2 ⟨hf,o,ho,fun e he hb =>?_⟩⟩
    cases hq:l.getD e.on false with
    | true =>rfl
    | false =>exact absurd ⟨e,he,hb,hq⟩ hx
 obtain ⟨i,hi⟩:=key f f (Nat.le_refl _) hf
 intro h
 rw [h] at hi
 cases hi
theorem zlk (l:List Bool) (i:Nat) (h:l[i]?=some false):(l.set i true).count false+1=l.count false:=by
 induction l generalizing i with
 | nil =>simp at h
 | cons x l ih =>
  cases i with
  | zero =>
   have:x=false:=by simpa using h
   subst this
   simp
  | succ i =>
   have:=ih i (by simpa using h)
   rw [List.set_cons_succ,List.count_cons,List.count_cons]
   omega
theorem zi0 (l:Array Bool) (i:Nat) (h:l.getD i true=false):(l.setIfInBounds i true).toList.count false+1=l.toList.count false:=by
 rw [Array.toList_setIfInBounds]
 refine zlk _ _ ?_
 rw [Array.getElem?_toList]
 rcases Nat.lt_or_ge i l.size with h' | h'
 ·rw [Array.getElem?_eq_getElem h']
  simp [h'] at h
  rw [h]
 ·simp [Array.getElem?_eq_none h'] at h
theorem ziE {md:Region.Mode} {ops:Array Oper} {l:Array Bool} {i:Nat} (hc:zfb md ops l) (hr:i ∈ Region.ready md ops l):zfb md ops (l.setIfInBounds i true):=by
 intro j o ho hj e he hb
 by_cases hij:i=j
 ·subst hij
  obtain ⟨_,o',ho',hall⟩:=mem_ready.1 hr
  obtain rfl:=Option.some.inj (ho.symm.trans ho')
  exact getD_set_true (hall e he hb)
 ·rw [getD_set_ne false hij] at hj
  exact getD_set_true (hc j o ho hj e he hb)
theorem zms {md:Region.Mode} {ops:Array Oper} {l:Array Bool} (h:∀ j,j < ops.size→l.getD j false=true):Region.ready md ops l=[]:=by
 rw [List.eq_nil_iff_forall_not_mem]
 intro j hj
 obtain ⟨h0,o,ho,_⟩:=mem_ready.1 hj
 have h1:=h j (Array.getElem?_eq_some_iff.1 ho).1
 rcases Nat.lt_or_ge j l.size with h' | h'
 ·rw [zc0 h',h1] at h0
  cases h0
 ·simp [Array.getElem?_eq_none h'] at h1
theorem zlO {P:Program} {md:Region.Mode} {ops:Array Oper} {Q:Exit→Act→World→Prop} (f:Nat) (ht:zmn md ops=true) (ha:zpJ md ops f=true) (J:Array Bool→Act→World→Prop)
  (hstep:∀ l a w i,J l a w→l.size=ops.size→i ∈ Region.ready md ops l→i≠f→wpOp P ops Q i (J (l.setIfInBounds i true)) a w)
  (hfin:∀ l a w,J l a w→(∀ j,j≠f→j < ops.size→l.getD j false=true)→wpOp P ops Q f (fun a' w' =>Q .normal a' w') a w) :
  ∀ (fuel:Nat) (l:Array Bool) (a:Act) (w:World),l.toList.count false≤fuel→l.size=ops.size→l.getD f true=false→zfb md ops l→J l a w→wpAny P md ops Q fuel l a w:=by
 intro fuel
 induction fuel with
 | zero =>
  intro l a w hn hl hf
  have:=zi0 l f hf
  omega
 | succ fuel ih =>
  intro l a w hn hl hf hc hJ
  refine ⟨fun h =>absurd h (zoA ht hl f hf),fun i hi =>?_⟩
  have hi0:=(mem_ready.1 hi).1
  have hn2:=zi0 l i hi0
  by_cases hif:i=f
  ·subst hif
   have hall:=fun j hj hlt =>ziF ha hc hi j hj hlt
   refine wpOp_mono (fun a' w' hq =>wpAny_done (zms fun j hj =>?_) hq fuel) (hfin l a w hJ hall)
   by_cases hji:j=i
   ·subst hji
    simp [show j < l.size by omega]
   ·rw [getD_set_ne false (Ne.symm hji)]
    exact hall j hji hj
  ·exact wpOp_mono (fun a' w' hq =>ih _ a' w' (by omega) (by simpa using hl) (by rw [getD_set_ne true hif];exact hf) (ziE hc hi) hq) (hstep l a w i hJ hl hi hif)
theorem zao {P:Program} {ops:Array Oper} {Q:Exit→Act→World→Prop} {id:Nat} {a:Act} {w:World} (hm:P.follows .mixedOrders=true) (f:Nat) (hf:f < ops.size) (ht:zmn .any ops=true) (ha:zpJ .any ops f=true) (J:Array Bool→Act→World→Prop)
  (h0:J (Array.replicate ops.size false) a w.drew)
  (hstep:∀ l a w i,J l a w→l.size=ops.size→i ∈ Region.ready .any ops l→i≠f→wpOp P ops Q i (J (l.setIfInBounds i true)) a w)
  (hfin:∀ l a w,J l a w→(∀ j,j≠f→j < ops.size→l.getD j false=true)→wpOp P ops Q f (fun a' w' =>Q .normal a' w') a w) :
  (Code.region id ops true).wp P Q a w:=by
 refine wp_region_any hm (zlO f ht ha J hstep hfin _ _ _ _ (by simp) (by simp) (by simp [hf]) ?_ h0)
 intro j o ho hj
 exfalso
 rcases Nat.lt_or_ge j ops.size with h' | h'
 ·simp [h'] at hj
 ·simp [h'] at hj
theorem zab {md:Region.Mode} {ops:Array Oper} {l:Array Bool} {i:Nat} (hi:i ∈ Region.ready md ops l) (k:Nat) (hk:(ziD md ops i).contains k=true):l.getD k false=true:=by
 obtain ⟨_,o,ho,hall⟩:=mem_ready.1 hi
 obtain ⟨o',ho',e,he,hb,rfl⟩:=zfp (List.contains_iff_mem.1 hk)
 obtain rfl:=Option.some.inj (ho.symm.trans ho')
 exact hall e he hb
theorem zc9 {ops:Array Oper} {l:Array Bool} {i:Nat} (hl:l.size=ops.size) (h0:l.getD i true=false):i < ops.size:=by
 rw [← hl]
 rcases Nat.lt_or_ge i l.size with h | h
 ·exact h
 ·simp [Array.getElem?_eq_none h] at h0
structure RgJ (W0:World) (lo:Nat) (D:Nat→Value→World→Prop) (m:Nat→Bool) (l:Array Bool) (U:Nat→Value) (w:World):Prop where
 bel:Below lo W0 w
 sz:lo≤w.heap.size
 val:∀ i,l.getD i false=true→D i (U i) w
 ap:∀ i j,m i=true→m j=true→i≠j→l.getD i false=true→l.getD j false=true→(U i).ownBlock=none∨(U i).ownBlock≠(U j).ownBlock
def zaa (U:Nat→Value) (k:Nat) (v:Value):Nat→Value:=fun x =>if x=k then v else U x
theorem zaV (U:Nat→Value) (k:Nat) (v:Value):zaa U k v k=v:=if_pos rfl
theorem za1 (U:Nat→Value) {k x:Nat} (v:Value) (h:x≠k):zaa U k v x=U x:=if_neg h
theorem zac {U:Nat→Value} {k:Nat} {v:Value} (h:U k=v):U=zaa U k v:=by
 funext x
 by_cases hx:x=k
 ·subst hx;rw [zaV,h]
 ·rw [za1 _ _ hx]
theorem RgJ.start {W0:World} {lo:Nat} {D:Nat→Value→World→Prop} {m:Nat→Bool} (U:Nat→Value) (n:Nat) (h:lo≤W0.heap.size):RgJ W0 lo D m (Array.replicate n false) U W0:=by
 have h0:∀ i,(Array.replicate n false).getD i false=false:=fun i =>by
  rcases Nat.lt_or_ge i n with h' | h' <;> simp [h']
 exact ⟨Below.refl _ _,h,fun i hi =>by (rw [h0] at hi;cases hi),fun i j _ _ _ hi =>by (rw [h0] at hi;cases hi)⟩
theorem RgJ.put {W0:World} {lo:Nat} {D:Nat→Value→World→Prop} {m:Nat→Bool} {l:Array Bool} {U:Nat→Value} {w w':World} (h:RgJ W0 lo D m l U w) (i:Nat) (v:Value)
  (hi:l.getD i true=false) (hb:Below w.heap.size w w') (hst:∀ j u,D j u w→D j u w') (hD:D i v w')
  (hlt:∀ j u,m j=true→D j u w→∀ b,u.ownBlock=some b→b < w.heap.size) (hm:m i=true→∀ b,v.ownBlock=some b→w.heap.size≤b) :
  RgJ W0 lo D m (l.setIfInBounds i true) (zaa U i v) w':=by
 have hcase:∀ j,(l.setIfInBounds i true).getD j false=true→j=i∨(j≠i∧l.getD j false=true):=fun j hj =>by
  by_cases hji:j=i
  ·exact .inl hji
  ·rw [getD_set_ne false (Ne.symm hji)] at hj
   exact .inr ⟨hji,hj⟩
 refine ⟨h.bel.trans (hb.mono h.sz),Nat.le_trans h.sz hb.size,fun j hj =>?_,fun j k mj mk hjk hj hk =>?_⟩
 ·rcases hcase j hj with rfl | ⟨hji,h1⟩
  ·rw [zaV];exact hD
  ·rw [za1 _ _ hji];exact hst j _ (h.val j h1)
 ·rcases hcase j hj with rfl | ⟨hji,h1⟩
  ·rcases hcase k hk with rfl | ⟨hki,h2⟩
   ·exact absurd rfl hjk
   ·rw [zaV,za1 _ _ hki]
    cases hb:v.ownBlock with
    | none =>exact .inl rfl
    | some b =>
     refine .inr fun e =>?_
     have h3:=hm mj b hb
     have h4:=hlt k _ mk (h.val k h2) b e.symm
     omega
  ·rcases hcase k hk with rfl | ⟨hki,h2⟩
   ·rw [zaV,za1 _ _ hji]
    cases hb:(U j).ownBlock with
    | none =>exact .inl rfl
    | some b =>
     refine .inr fun e =>?_
     have h3:=hm mk b e.symm
     have h4:=hlt j _ mj (h.val j h1) b hb
     omega
   ·rw [za1 _ _ hji,za1 _ _ hki]
    exact h.ap j k mj mk hjk h1 h2
end
end Go.Proofs.YtmemedpoaocdkaaGreat
