/- Texts of this claim, one behind the other. -/
import Derived.Test.YtmemedpoaocdkaaGreatM5
import Derived.Test.YtmemedpoaocdkaaGreatM3
import Derived.Shelf.Abstract
import Derived.Test.YtmemedpoaocdkaaGreatM4
import Derived.Laws.AppendOwn
import Derived.Laws.MakeOwn
import Derived.Laws.OwnMore
import Derived.Lib.SliceRun
import Derived.Lib.Walk
import Derived.Shelf.RegionOpenPlain
/- The first row of a list that is refused (tables.firstRow), whatever refuses it. -/
namespace Go.Proofs.YtmemedpoaocdkaaGreat
open Go.RowKit Go.Shelf
set_option linter.unusedVariables false
structure KeptX (X:Nat→Prop) (w w':World):Prop where
 os:w'.os=w.os
 tape:w'.tape=w.tape
 output:w'.output=w.output
 size:w.heap.size≤w'.heap.size
 block:∀ k,k < w.heap.size→¬ X k→w'.heap[k]?=w.heap[k]?
theorem KeptX.refl (X:Nat→Prop) (w:World):KeptX X w w:=⟨rfl,rfl,rfl,Nat.le_refl _,fun _ _ _ =>rfl⟩
theorem KeptX.trans {X:Nat→Prop} {a b c:World} (h:KeptX X a b) (g:KeptX X b c):KeptX X a c :=
 ⟨g.os.trans h.os,g.tape.trans h.tape,g.output.trans h.output,Nat.le_trans h.size g.size,fun k hk hx =>(g.block k (Nat.lt_of_lt_of_le hk h.size) hx).trans (h.block k hk hx)⟩
theorem zat {w w':World} (h:Below w.heap.size w w') (X:Nat→Prop):KeptX X w w':=⟨h.os,h.tape,h.output,h.size,fun k hk _ =>h.block k hk⟩
theorem KeptX.below {w w':World} (h:KeptX (fun _ =>False) w w'):Below w.heap.size w w':=⟨h.os,h.tape,h.output,h.size,fun k hk =>h.block k hk (fun q =>q)⟩
theorem KeptX.mono {X Y:Nat→Prop} {w w':World} (h:KeptX X w w') (g:∀ k,X k→Y k):KeptX Y w w':=⟨h.os,h.tape,h.output,h.size,fun k hk hx =>h.block k hk (fun q =>hx (g k q))⟩
theorem KeptX.cell {X:Nat→Prop} {w w':World} (h:KeptX X w w') {p:Addr} (hp:p.block < w.heap.size) (hx:¬ X p.block):w'.cell? p=w.cell? p:=by
 have e:=h.block p.block hp hx
 unfold World.cell?
 rw [e]
theorem KeptX.blk {X:Nat→Prop} {w w':World} (h:KeptX X w w') {B:Nat} {cs:Array Value} {t:TypeId} (hb:Blk w B cs t) (hx:¬ X B):Blk w' B cs t:=by
 have:=h.block B hb.lt hx
 unfold Blk at hb ⊢
 rw [this]
 exact hb
theorem KeptX.grown {X:Nat→Prop} {W w w':World} {R:Nat} (h:KeptX X W w) (hg:w.grownBy w' (some R)) (hR:W.heap.size≤R):KeptX X W w' :=
 ⟨hg.os.trans h.os,hg.tape.trans h.tape,hg.output.trans h.output,Nat.le_trans h.size hg.size,fun k hk hx =>(hg.block k (Nat.lt_of_lt_of_le hk h.size) (fun e =>by have:=Option.some.inj e;omega)).trans (h.block k hk hx)⟩
theorem KeptX.set3 {X:Nat→Prop} {W w:World} {R:Nat} (h:KeptX X W w) (hR:W.heap.size≤R) (x y z:Value):KeptX X W (((w.setCell ⟨R,0,none⟩ x).setCell ⟨R,1,none⟩ y).setCell ⟨R,2,none⟩ z) :=
 ((h.grown (zaU w R 0 x) hR).grown (zaU _ R 1 y) hR).grown (zaU _ R 2 z) hR
set_option maxRecDepth 100000 in
set_option maxHeartbeats 2000000 in
theorem zdv (list:Int) (zs:List (ByteArray × List (Int × Int))) (us:List Value) (hus:us.length=zs.length) (hsl:∀ (j:Nat) (u:Value),us[j]?=some u→∃ p n d,u=Value.slice p n d) (hn:zs.length≤1000000) (a:Option Addr) (c G:Nat) (lb:Array Value) (eg:∀ args w,(callFunc G args).run Tryz.prog w=.ok (.enter G args) w)
  (f:Nat→Int) (X:Nat→Prop) (J:Nat→World→Prop) (lo:Nat) (W:World) (hlo:lo≤W.heap.size) (hX:∀ b,X b→lo≤b∧b < W.heap.size) (hr:RowC W lo a (zbB zs us)) (h0:J 0 W)
  (hst:∀ i w w',J i w→Below w.heap.size w w'→J i w')
  (hcall:∀ (i:Nat) (x:(ByteArray × List (Int × Int))) (u:Value) (w:World),zs[i]?=some x→us[i]?=some u→KeptX X W w→J i w→Calls Tryz.prog G (#[.agg #[.string x.1,u]]++lb) w fun e w' =>e=.returned (.int .i64 (f i))∧J (i+1) w'∧KeptX X w w') :
  Calls Tryz.prog 104 #[.int .i64 list,.slice a zs.length c,.func (.func G) #[] lb] W fun e w' =>e=.returned (wrV (zaK list zs.length f))∧KeptX X W w':=by
 have hB0:Below W.heap.size W (W.alloc (.cells #[.int .i64 0,.int .i64 0,.int .i64 0] 76)):=(Below.refl _ W).alloc (Nat.le_refl _) _
 have HS0:=kz (And.intro (zat hB0 X) (And.intro (Blk.new W #[.int .i64 0,.int .i64 0,.int .i64 0] 76) (hst 0 _ _ h0 hB0)))
 have HA:=kz hr
 have HX:=kz (And.intro hlo hX)
 have HC:=kz (And.intro hst hcall)
 clear hB0 hr hlo hX hst hcall h0
 go_enter Tryz.func104,Tryz.ntmps104
 go_wp2
 generalize W.alloc (.cells #[.int .i64 0,.int .i64 0,.int .i64 0] 76)=w1 at *
 go_loopw [7,8,9,12] (fun _ _ _ s12 wr => ∃ k:Nat,k≤zs.length∧s12=.int .i64 k∧Hz (∀ i,i < k→f i=0)∧Hz (KeptX X W wr∧Blk wr W.heap.size #[.int .i64 0,.int .i64 0,.int .i64 0] 76∧J k wr)) (fun _ _ _ s12 _ =>zs.length - (intOf s12).toNat)
 case atStart =>exact ⟨0,Nat.zero_le _,rfl,kz (fun i hi =>absurd hi (Nat.not_lt_zero _)),HS0⟩
 case round =>
  obtain ⟨k,hk,rfl,HF,HS⟩:=hrel
  clear HS0
  by_cases hkn:k < zs.length
  ·obtain ⟨x,hx⟩:∃ x,zs[k]?=some x:=⟨_,List.getElem?_eq_getElem hkn⟩
   obtain ⟨u,hu⟩:∃ u,us[k]?=some u:=⟨_,List.getElem?_eq_getElem (by omega)⟩
   obtain ⟨pu,nu,du,rfl⟩:=hsl k u hu
   obtain ⟨g,q,rfl,hg,hc⟩:=oz HA (by rw [zeW zs us hus];omega)
   have e0:W.cell? ⟨g,q+k*2,none⟩=some (.string x.1):=hc _ _ (zjB zs us hus k x hx)
   have e1:W.cell? ⟨g,q+k*2+1,none⟩=some (.slice pu nu du):=by
    have h1:=hc (2*k+1) _ ((zdG zs us hus k).trans hu)
    rwa [show q+(2*k+1)=q+k*2+1 by omega] at h1
   have hgX:¬ X g:=fun q =>by have:=(oz HX).2 g q;omega
   have hgW:g < W.heap.size:=by have:=(oz HX).1;omega
   have c0:wr.cell? ⟨g,q+k*2,none⟩=some (.string x.1):=((oz HS).1.cell (p:=⟨g,q+k*2,none⟩) hgW hgX).trans e0
   have c1:wr.cell? ⟨g,q+k*2+1,none⟩=some (.slice pu nu du):=((oz HS).1.cell (p:=⟨g,q+k*2+1,none⟩) hgW hgX).trans e1
   have hB:Below wr.heap.size wr (wr.alloc (.cells #[.string x.1,.slice pu nu du] 109)):=(Below.refl _ wr).alloc (Nat.le_refl _) _
   have HL:=kz (oz HC).2
   have HCL:=kz (oz HL k x _ (wr.alloc (.cells #[.string x.1,.slice pu nu du] 109)) hx hu ((oz HS).1.trans (zat hB X)) ((oz HC).1 k _ _ (oz HS).2.2 hB))
   have HR:=kz (((oz HS).1.trans (zat hB X)))
   have HRB:=kz ((oz HS).2.1.alloc (.cells #[.string x.1,.slice pu nu du] 109))
   have HRX:Hz (¬ X W.heap.size):=kz (fun q =>by have:=(oz HX).2 _ q;omega)
   have hk1:(k:Int) < (zs.length:Int):=by omega
   have hk2:((k:Nat):Int).toNat=k:=by omega
   have HFK:Hz (f k=0→∀ i,i < k+1→f i=0):=kz (fun h i hi =>by
    rcases Nat.lt_or_ge i k with h1 | h1
    ·exact oz HF i h1
    ·obtain rfl:i=k:=by omega
     exact h)
   have HFB:Hz (f k≠0→zaK list zs.length f=(f k,list,(k:Int))):=kz (fun h =>zbf k hkn (oz HF) h)
   obtain ⟨x1,x2⟩:=x
   dsimp only at c0 c1 HCL HR HRB
   clear hx hu hc hB HL HS HF e0 e1 hgX hgW hg
   generalize f k=y at *
   by_cases hy:y=0
   ·subst hy
    have HFK2:=kz (oz HFK rfl)
    clear HFK HFB
    go_wp2_with (go_at_fn G;refine (oz HCL).mono ?_;rintro e w' ⟨rfl,hj',hk'⟩)
    exact ⟨⟨k+1,by omega,by go_num,HFK2,kz ⟨(oz HR).trans hk',hk'.blk (oz HRB) (oz HRX),hj'⟩⟩,by simp [intOf];omega⟩
   ·have hy1:(y == 0)=false:=by simpa using hy
    have HFB2:=kz (oz HFB hy)
    clear HFK HFB
    go_wp2_with (go_at_fn G;refine (oz HCL).mono ?_;rintro e w' ⟨rfl,hj',hk'⟩;have HRB2:=kz (hk'.blk (oz HRB) (oz HRX));have r0:=(oz HRB2).cell 0;have r1:=(oz HRB2).cell 1;have r2:=(oz HRB2).cell 2;have f0:=(oz HRB2).frozen 0;have f1:=(oz HRB2).frozen 1;have f2:=(oz HRB2).frozen 2)
    rw [oz HFB2]
    exact bodyPost_ret (v:=wrV (y,list,(k:Int))) (zco Tryz.results104 rfl (zcw (oz HRB2) _ _ _) rfl) rfl ⟨rfl,((oz HR).trans hk').set3 (Nat.le_refl _) _ _ _⟩
  ·have hk1:¬ (k:Int) < (zs.length:Int):=by omega
   have HO2:Hz (zaK list zs.length f=(0,0,0)):=kz (zbO (fun i hi =>oz HF i (by omega)))
   have r0:=(oz HS).2.1.cell 0
   have r1:=(oz HS).2.1.cell 1
   have r2:=(oz HS).2.1.cell 2
   have f0:=(oz HS).2.1.frozen 0
   have f1:=(oz HS).2.1.frozen 1
   have f2:=(oz HS).2.1.frozen 2
   go_wp2_with fail
   rw [oz HO2]
   exact bodyPost_ret (v:=wrV (0,0,0)) (zco Tryz.results104 rfl (zcw (oz HS).2.1 _ _ _) rfl) rfl ⟨rfl,(oz HS).1.set3 (Nat.le_refl _) _ _ _⟩
set_option maxRecDepth 100000 in
set_option maxHeartbeats 2000000 in
theorem zer (list:Int) (zs:List (Int × Int)) (hn:zs.length≤1000000) (a:Option Addr) (c G:Nat) (lb:Array Value) (eg:∀ args w,(callFunc G args).run Tryz.prog w=.ok (.enter G args) w)
  (f:Nat→Int) (X:Nat→Prop) (J:Nat→World→Prop) (lo:Nat) (W:World) (hlo:lo≤W.heap.size) (hX:∀ b,X b→lo≤b∧b < W.heap.size) (hr:RowC W lo a (zdO zs)) (h0:J 0 W)
  (hst:∀ i w w',J i w→Below w.heap.size w w'→J i w')
  (hcall:∀ (i:Nat) (x:(Int × Int)) (w:World),zs[i]?=some x→KeptX X W w→J i w→Calls Tryz.prog G (#[.agg #[.int .i32 x.1,.int .i64 x.2]]++lb) w fun e w' =>e=.returned (.int .i64 (f i))∧J (i+1) w'∧KeptX X w w') :
  Calls Tryz.prog 109 #[.int .i64 list,.slice a zs.length c,.func (.func G) #[] lb] W fun e w' =>e=.returned (wrV (zaK list zs.length f))∧KeptX X W w':=by
 have hB0:Below W.heap.size W (W.alloc (.cells #[.int .i64 0,.int .i64 0,.int .i64 0] 76)):=(Below.refl _ W).alloc (Nat.le_refl _) _
 have HS0:=kz (And.intro (zat hB0 X) (And.intro (Blk.new W #[.int .i64 0,.int .i64 0,.int .i64 0] 76) (hst 0 _ _ h0 hB0)))
 have HA:=kz hr
 have HX:=kz (And.intro hlo hX)
 have HC:=kz (And.intro hst hcall)
 clear hB0 hr hlo hX hst hcall h0
 go_enter Tryz.func109,Tryz.ntmps109
 go_wp2
 generalize W.alloc (.cells #[.int .i64 0,.int .i64 0,.int .i64 0] 76)=w1 at *
 go_loopw [7,8,9,12] (fun _ _ _ s12 wr => ∃ k:Nat,k≤zs.length∧s12=.int .i64 k∧Hz (∀ i,i < k→f i=0)∧Hz (KeptX X W wr∧Blk wr W.heap.size #[.int .i64 0,.int .i64 0,.int .i64 0] 76∧J k wr)) (fun _ _ _ s12 _ =>zs.length - (intOf s12).toNat)
 case atStart =>exact ⟨0,Nat.zero_le _,rfl,kz (fun i hi =>absurd hi (Nat.not_lt_zero _)),HS0⟩
 case round =>
  obtain ⟨k,hk,rfl,HF,HS⟩:=hrel
  clear HS0
  by_cases hkn:k < zs.length
  ·obtain ⟨x,hx⟩:∃ x,zs[k]?=some x:=⟨_,List.getElem?_eq_getElem hkn⟩
   obtain ⟨g,q,rfl,hg,hc⟩:=oz HA (by rw [zgx];omega)
   have e0:W.cell? ⟨g,q+k*2,none⟩=some (.int .i32 x.1):=hc _ _ (zgW _ k x hx).1
   have e1:W.cell? ⟨g,q+k*2+1,none⟩=some (.int .i64 x.2):=hc _ _ (zgW _ k x hx).2
   have hgX:¬ X g:=fun q =>by have:=(oz HX).2 g q;omega
   have hgW:g < W.heap.size:=by have:=(oz HX).1;omega
   have c0:wr.cell? ⟨g,q+k*2,none⟩=some (.int .i32 x.1):=((oz HS).1.cell (p:=⟨g,q+k*2,none⟩) hgW hgX).trans e0
   have c1:wr.cell? ⟨g,q+k*2+1,none⟩=some (.int .i64 x.2):=((oz HS).1.cell (p:=⟨g,q+k*2+1,none⟩) hgW hgX).trans e1
   have hB:Below wr.heap.size wr (wr.alloc (.cells #[.int .i32 x.1,.int .i64 x.2] 115)):=(Below.refl _ wr).alloc (Nat.le_refl _) _
   have HL:=kz (oz HC).2
   have HCL:=kz (oz HL k x (wr.alloc (.cells #[.int .i32 x.1,.int .i64 x.2] 115)) hx ((oz HS).1.trans (zat hB X)) ((oz HC).1 k _ _ (oz HS).2.2 hB))
   have HR:=kz (((oz HS).1.trans (zat hB X)))
   have HRB:=kz ((oz HS).2.1.alloc (.cells #[.int .i32 x.1,.int .i64 x.2] 115))
   have HRX:Hz (¬ X W.heap.size):=kz (fun q =>by have:=(oz HX).2 _ q;omega)
   have hk1:(k:Int) < (zs.length:Int):=by omega
   have hk2:((k:Nat):Int).toNat=k:=by omega
   have HFK:Hz (f k=0→∀ i,i < k+1→f i=0):=kz (fun h i hi =>by
    rcases Nat.lt_or_ge i k with h1 | h1
    ·exact oz HF i h1
    ·obtain rfl:i=k:=by omega
     exact h)
   have HFB:Hz (f k≠0→zaK list zs.length f=(f k,list,(k:Int))):=kz (fun h =>zbf k hkn (oz HF) h)
   obtain ⟨x1,x2⟩:=x
   dsimp only at c0 c1 HCL HR HRB
   clear hx hc hB HL HS HF e0 e1 hgX hgW hg
   generalize f k=y at *
   by_cases hy:y=0
   ·subst hy
    have HFK2:=kz (oz HFK rfl)
    clear HFK HFB
    go_wp2_with (go_at_fn G;refine (oz HCL).mono ?_;rintro e w' ⟨rfl,hj',hk'⟩)
    exact ⟨⟨k+1,by omega,by go_num,HFK2,kz ⟨(oz HR).trans hk',hk'.blk (oz HRB) (oz HRX),hj'⟩⟩,by simp [intOf];omega⟩
   ·have hy1:(y == 0)=false:=by simpa using hy
    have HFB2:=kz (oz HFB hy)
    clear HFK HFB
    go_wp2_with (go_at_fn G;refine (oz HCL).mono ?_;rintro e w' ⟨rfl,hj',hk'⟩;have HRB2:=kz (hk'.blk (oz HRB) (oz HRX));have r0:=(oz HRB2).cell 0;have r1:=(oz HRB2).cell 1;have r2:=(oz HRB2).cell 2;have f0:=(oz HRB2).frozen 0;have f1:=(oz HRB2).frozen 1;have f2:=(oz HRB2).frozen 2)
    rw [oz HFB2]
    exact bodyPost_ret (v:=wrV (y,list,(k:Int))) (zco Tryz.results109 rfl (zcw (oz HRB2) _ _ _) rfl) rfl ⟨rfl,((oz HR).trans hk').set3 (Nat.le_refl _) _ _ _⟩
  ·have hk1:¬ (k:Int) < (zs.length:Int):=by omega
   have HO2:Hz (zaK list zs.length f=(0,0,0)):=kz (zbO (fun i hi =>oz HF i (by omega)))
   have r0:=(oz HS).2.1.cell 0
   have r1:=(oz HS).2.1.cell 1
   have r2:=(oz HS).2.1.cell 2
   have f0:=(oz HS).2.1.frozen 0
   have f1:=(oz HS).2.1.frozen 1
   have f2:=(oz HS).2.1.frozen 2
   go_wp2_with fail
   rw [oz HO2]
   exact bodyPost_ret (v:=wrV (0,0,0)) (zco Tryz.results109 rfl (zcw (oz HS).2.1 _ _ _) rfl) rfl ⟨rfl,(oz HS).1.set3 (Nat.le_refl _) _ _ _⟩
set_option maxRecDepth 100000 in
set_option maxHeartbeats 2000000 in
theorem zeq (list:Int) (zs:List (Int × Int × Int)) (hn:zs.length≤1000000) (a:Option Addr) (c G:Nat) (lb:Array Value) (eg:∀ args w,(callFunc G args).run Tryz.prog w=.ok (.enter G args) w)
  (f:Nat→Int) (X:Nat→Prop) (J:Nat→World→Prop) (lo:Nat) (W:World) (hlo:lo≤W.heap.size) (hX:∀ b,X b→lo≤b∧b < W.heap.size) (hr:RowC W lo a (zdb zs)) (h0:J 0 W)
  (hst:∀ i w w',J i w→Below w.heap.size w w'→J i w')
  (hcall:∀ (i:Nat) (x:(Int × Int × Int)) (w:World),zs[i]?=some x→KeptX X W w→J i w→Calls Tryz.prog G (#[.agg #[.int .i32 x.1,.int .i32 x.2.1,.int .i32 x.2.2]]++lb) w fun e w' =>e=.returned (.int .i64 (f i))∧J (i+1) w'∧KeptX X w w') :
  Calls Tryz.prog 111 #[.int .i64 list,.slice a zs.length c,.func (.func G) #[] lb] W fun e w' =>e=.returned (wrV (zaK list zs.length f))∧KeptX X W w':=by
 have hB0:Below W.heap.size W (W.alloc (.cells #[.int .i64 0,.int .i64 0,.int .i64 0] 76)):=(Below.refl _ W).alloc (Nat.le_refl _) _
 have HS0:=kz (And.intro (zat hB0 X) (And.intro (Blk.new W #[.int .i64 0,.int .i64 0,.int .i64 0] 76) (hst 0 _ _ h0 hB0)))
 have HA:=kz hr
 have HX:=kz (And.intro hlo hX)
 have HC:=kz (And.intro hst hcall)
 clear hB0 hr hlo hX hst hcall h0
 go_enter Tryz.func111,Tryz.ntmps111
 go_wp2
 generalize W.alloc (.cells #[.int .i64 0,.int .i64 0,.int .i64 0] 76)=w1 at *
 go_loopw [7,8,9,12] (fun _ _ _ s12 wr => ∃ k:Nat,k≤zs.length∧s12=.int .i64 k∧Hz (∀ i,i < k→f i=0)∧Hz (KeptX X W wr∧Blk wr W.heap.size #[.int .i64 0,.int .i64 0,.int .i64 0] 76∧J k wr)) (fun _ _ _ s12 _ =>zs.length - (intOf s12).toNat)
 case atStart =>exact ⟨0,Nat.zero_le _,rfl,kz (fun i hi =>absurd hi (Nat.not_lt_zero _)),HS0⟩
 case round =>
  obtain ⟨k,hk,rfl,HF,HS⟩:=hrel
  clear HS0
  by_cases hkn:k < zs.length
  ·obtain ⟨x,hx⟩:∃ x,zs[k]?=some x:=⟨_,List.getElem?_eq_getElem hkn⟩
   obtain ⟨g,q,rfl,hg,hc⟩:=oz HA (by rw [zeY];omega)
   have e0:W.cell? ⟨g,q+k*3,none⟩=some (.int .i32 x.1):=hc _ _ (zdH _ k x hx).1
   have e1:W.cell? ⟨g,q+k*3+1,none⟩=some (.int .i32 x.2.1):=hc _ _ (zdH _ k x hx).2.1
   have e2:W.cell? ⟨g,q+k*3+2,none⟩=some (.int .i32 x.2.2):=hc _ _ (zdH _ k x hx).2.2
   have hgX:¬ X g:=fun q =>by have:=(oz HX).2 g q;omega
   have hgW:g < W.heap.size:=by have:=(oz HX).1;omega
   have c0:wr.cell? ⟨g,q+k*3,none⟩=some (.int .i32 x.1):=((oz HS).1.cell (p:=⟨g,q+k*3,none⟩) hgW hgX).trans e0
   have c1:wr.cell? ⟨g,q+k*3+1,none⟩=some (.int .i32 x.2.1):=((oz HS).1.cell (p:=⟨g,q+k*3+1,none⟩) hgW hgX).trans e1
   have c2:wr.cell? ⟨g,q+k*3+2,none⟩=some (.int .i32 x.2.2):=((oz HS).1.cell (p:=⟨g,q+k*3+2,none⟩) hgW hgX).trans e2
   have hB:Below wr.heap.size wr (wr.alloc (.cells #[.int .i32 x.1,.int .i32 x.2.1,.int .i32 x.2.2] 117)):=(Below.refl _ wr).alloc (Nat.le_refl _) _
   have HL:=kz (oz HC).2
   have HCL:=kz (oz HL k x (wr.alloc (.cells #[.int .i32 x.1,.int .i32 x.2.1,.int .i32 x.2.2] 117)) hx ((oz HS).1.trans (zat hB X)) ((oz HC).1 k _ _ (oz HS).2.2 hB))
   have HR:=kz (((oz HS).1.trans (zat hB X)))
   have HRB:=kz ((oz HS).2.1.alloc (.cells #[.int .i32 x.1,.int .i32 x.2.1,.int .i32 x.2.2] 117))
   have HRX:Hz (¬ X W.heap.size):=kz (fun q =>by have:=(oz HX).2 _ q;omega)
   have hk1:(k:Int) < (zs.length:Int):=by omega
   have hk2:((k:Nat):Int).toNat=k:=by omega
   have HFK:Hz (f k=0→∀ i,i < k+1→f i=0):=kz (fun h i hi =>by
    rcases Nat.lt_or_ge i k with h1 | h1
    ·exact oz HF i h1
    ·obtain rfl:i=k:=by omega
     exact h)
   have HFB:Hz (f k≠0→zaK list zs.length f=(f k,list,(k:Int))):=kz (fun h =>zbf k hkn (oz HF) h)
   obtain ⟨x1,x2,x3⟩:=x
   dsimp only at c0 c1 c2 HCL HR HRB
   clear hx hc hB HL HS HF e0 e1 e2 hgX hgW hg
   generalize f k=y at *
   by_cases hy:y=0
   ·subst hy
    have HFK2:=kz (oz HFK rfl)
    clear HFK HFB
    go_wp2_with (go_at_fn G;refine (oz HCL).mono ?_;rintro e w' ⟨rfl,hj',hk'⟩)
    exact ⟨⟨k+1,by omega,by go_num,HFK2,kz ⟨(oz HR).trans hk',hk'.blk (oz HRB) (oz HRX),hj'⟩⟩,by simp [intOf];omega⟩
   ·have hy1:(y == 0)=false:=by simpa using hy
    have HFB2:=kz (oz HFB hy)
    clear HFK HFB
    go_wp2_with (go_at_fn G;refine (oz HCL).mono ?_;rintro e w' ⟨rfl,hj',hk'⟩;have HRB2:=kz (hk'.blk (oz HRB) (oz HRX));have r0:=(oz HRB2).cell 0;have r1:=(oz HRB2).cell 1;have r2:=(oz HRB2).cell 2;have f0:=(oz HRB2).frozen 0;have f1:=(oz HRB2).frozen 1;have f2:=(oz HRB2).frozen 2)
    rw [oz HFB2]
    exact bodyPost_ret (v:=wrV (y,list,(k:Int))) (zco Tryz.results111 rfl (zcw (oz HRB2) _ _ _) rfl) rfl ⟨rfl,((oz HR).trans hk').set3 (Nat.le_refl _) _ _ _⟩
  ·have hk1:¬ (k:Int) < (zs.length:Int):=by omega
   have HO2:Hz (zaK list zs.length f=(0,0,0)):=kz (zbO (fun i hi =>oz HF i (by omega)))
   have r0:=(oz HS).2.1.cell 0
   have r1:=(oz HS).2.1.cell 1
   have r2:=(oz HS).2.1.cell 2
   have f0:=(oz HS).2.1.frozen 0
   have f1:=(oz HS).2.1.frozen 1
   have f2:=(oz HS).2.1.frozen 2
   go_wp2_with fail
   rw [oz HO2]
   exact bodyPost_ret (v:=wrV (0,0,0)) (zco Tryz.results111 rfl (zcw (oz HS).2.1 _ _ _) rfl) rfl ⟨rfl,(oz HS).1.set3 (Nat.le_refl _) _ _ _⟩
set_option maxRecDepth 100000 in
set_option maxHeartbeats 2000000 in
theorem zeU (list:Int) (zs:List (Int × ByteArray)) (hn:zs.length≤1000000) (a:Option Addr) (c G:Nat) (lb:Array Value) (eg:∀ args w,(callFunc G args).run Tryz.prog w=.ok (.enter G args) w)
  (f:Nat→Int) (X:Nat→Prop) (J:Nat→World→Prop) (lo:Nat) (W:World) (hlo:lo≤W.heap.size) (hX:∀ b,X b→lo≤b∧b < W.heap.size) (hr:RowC W lo a (zbo zs)) (h0:J 0 W)
  (hst:∀ i w w',J i w→Below w.heap.size w w'→J i w')
  (hcall:∀ (i:Nat) (x:(Int × ByteArray)) (w:World),zs[i]?=some x→KeptX X W w→J i w→Calls Tryz.prog G (#[.agg #[.int .i32 x.1,.string x.2]]++lb) w fun e w' =>e=.returned (.int .i64 (f i))∧J (i+1) w'∧KeptX X w w') :
  Calls Tryz.prog 113 #[.int .i64 list,.slice a zs.length c,.func (.func G) #[] lb] W fun e w' =>e=.returned (wrV (zaK list zs.length f))∧KeptX X W w':=by
 have hB0:Below W.heap.size W (W.alloc (.cells #[.int .i64 0,.int .i64 0,.int .i64 0] 76)):=(Below.refl _ W).alloc (Nat.le_refl _) _
 have HS0:=kz (And.intro (zat hB0 X) (And.intro (Blk.new W #[.int .i64 0,.int .i64 0,.int .i64 0] 76) (hst 0 _ _ h0 hB0)))
 have HA:=kz hr
 have HX:=kz (And.intro hlo hX)
 have HC:=kz (And.intro hst hcall)
 clear hB0 hr hlo hX hst hcall h0
 go_enter Tryz.func113,Tryz.ntmps113
 go_wp2
 generalize W.alloc (.cells #[.int .i64 0,.int .i64 0,.int .i64 0] 76)=w1 at *
 go_loopw [7,8,9,12] (fun _ _ _ s12 wr => ∃ k:Nat,k≤zs.length∧s12=.int .i64 k∧Hz (∀ i,i < k→f i=0)∧Hz (KeptX X W wr∧Blk wr W.heap.size #[.int .i64 0,.int .i64 0,.int .i64 0] 76∧J k wr)) (fun _ _ _ s12 _ =>zs.length - (intOf s12).toNat)
 case atStart =>exact ⟨0,Nat.zero_le _,rfl,kz (fun i hi =>absurd hi (Nat.not_lt_zero _)),HS0⟩
 case round =>
  obtain ⟨k,hk,rfl,HF,HS⟩:=hrel
  clear HS0
  by_cases hkn:k < zs.length
  ·obtain ⟨x,hx⟩:∃ x,zs[k]?=some x:=⟨_,List.getElem?_eq_getElem hkn⟩
   obtain ⟨g,q,rfl,hg,hc⟩:=oz HA (by rw [zeZ];omega)
   have e0:W.cell? ⟨g,q+k*2,none⟩=some (.int .i32 x.1):=hc _ _ (zet _ k x hx).1
   have e1:W.cell? ⟨g,q+k*2+1,none⟩=some (.string x.2):=hc _ _ (zet _ k x hx).2
   have hgX:¬ X g:=fun q =>by have:=(oz HX).2 g q;omega
   have hgW:g < W.heap.size:=by have:=(oz HX).1;omega
   have c0:wr.cell? ⟨g,q+k*2,none⟩=some (.int .i32 x.1):=((oz HS).1.cell (p:=⟨g,q+k*2,none⟩) hgW hgX).trans e0
   have c1:wr.cell? ⟨g,q+k*2+1,none⟩=some (.string x.2):=((oz HS).1.cell (p:=⟨g,q+k*2+1,none⟩) hgW hgX).trans e1
   have hB:Below wr.heap.size wr (wr.alloc (.cells #[.int .i32 x.1,.string x.2] 119)):=(Below.refl _ wr).alloc (Nat.le_refl _) _
   have HL:=kz (oz HC).2
   have HCL:=kz (oz HL k x (wr.alloc (.cells #[.int .i32 x.1,.string x.2] 119)) hx ((oz HS).1.trans (zat hB X)) ((oz HC).1 k _ _ (oz HS).2.2 hB))
   have HR:=kz (((oz HS).1.trans (zat hB X)))
   have HRB:=kz ((oz HS).2.1.alloc (.cells #[.int .i32 x.1,.string x.2] 119))
   have HRX:Hz (¬ X W.heap.size):=kz (fun q =>by have:=(oz HX).2 _ q;omega)
   have hk1:(k:Int) < (zs.length:Int):=by omega
   have hk2:((k:Nat):Int).toNat=k:=by omega
   have HFK:Hz (f k=0→∀ i,i < k+1→f i=0):=kz (fun h i hi =>by
    rcases Nat.lt_or_ge i k with h1 | h1
    ·exact oz HF i h1
    ·obtain rfl:i=k:=by omega
     exact h)
   have HFB:Hz (f k≠0→zaK list zs.length f=(f k,list,(k:Int))):=kz (fun h =>zbf k hkn (oz HF) h)
   obtain ⟨x1,x2⟩:=x
   dsimp only at c0 c1 HCL HR HRB
   clear hx hc hB HL HS HF e0 e1 hgX hgW hg
   generalize f k=y at *
   by_cases hy:y=0
   ·subst hy
    have HFK2:=kz (oz HFK rfl)
    clear HFK HFB
    go_wp2_with (go_at_fn G;refine (oz HCL).mono ?_;rintro e w' ⟨rfl,hj',hk'⟩)
    exact ⟨⟨k+1,by omega,by go_num,HFK2,kz ⟨(oz HR).trans hk',hk'.blk (oz HRB) (oz HRX),hj'⟩⟩,by simp [intOf];omega⟩
   ·have hy1:(y == 0)=false:=by simpa using hy
    have HFB2:=kz (oz HFB hy)
    clear HFK HFB
    go_wp2_with (go_at_fn G;refine (oz HCL).mono ?_;rintro e w' ⟨rfl,hj',hk'⟩;have HRB2:=kz (hk'.blk (oz HRB) (oz HRX));have r0:=(oz HRB2).cell 0;have r1:=(oz HRB2).cell 1;have r2:=(oz HRB2).cell 2;have f0:=(oz HRB2).frozen 0;have f1:=(oz HRB2).frozen 1;have f2:=(oz HRB2).frozen 2)
    rw [oz HFB2]
    exact bodyPost_ret (v:=wrV (y,list,(k:Int))) (zco Tryz.results113 rfl (zcw (oz HRB2) _ _ _) rfl) rfl ⟨rfl,((oz HR).trans hk').set3 (Nat.le_refl _) _ _ _⟩
  ·have hk1:¬ (k:Int) < (zs.length:Int):=by omega
   have HO2:Hz (zaK list zs.length f=(0,0,0)):=kz (zbO (fun i hi =>oz HF i (by omega)))
   have r0:=(oz HS).2.1.cell 0
   have r1:=(oz HS).2.1.cell 1
   have r2:=(oz HS).2.1.cell 2
   have f0:=(oz HS).2.1.frozen 0
   have f1:=(oz HS).2.1.frozen 1
   have f2:=(oz HS).2.1.frozen 2
   go_wp2_with fail
   rw [oz HO2]
   exact bodyPost_ret (v:=wrV (0,0,0)) (zco Tryz.results113 rfl (zcw (oz HS).2.1 _ _ _) rfl) rfl ⟨rfl,(oz HS).1.set3 (Nat.le_refl _) _ _ _⟩
set_option maxRecDepth 100000 in
set_option maxHeartbeats 2000000 in
theorem ziN (list:Int) (zs:List (Int × Int)) (hn:zs.length≤1000000) (a:Option Addr) (c G:Nat) (lb:Array Value) (eg:∀ args w,(callFunc G args).run Tryz.prog w=.ok (.enter G args) w)
  (f:Nat→Int) (X:Nat→Prop) (J:Nat→World→Prop) (lo:Nat) (W:World) (hlo:lo≤W.heap.size) (hX:∀ b,X b→lo≤b∧b < W.heap.size) (hr:RowC W lo a (zaW zs)) (h0:J 0 W)
  (hst:∀ i w w',J i w→Below w.heap.size w w'→J i w')
  (hcall:∀ (i:Nat) (x:(Int × Int)) (w:World),zs[i]?=some x→KeptX X W w→J i w→Calls Tryz.prog G (#[.agg #[.int .i32 x.1,.int .i32 x.2]]++lb) w fun e w' =>e=.returned (.int .i64 (f i))∧J (i+1) w'∧KeptX X w w') :
  Calls Tryz.prog 157 #[.int .i64 list,.slice a zs.length c,.func (.func G) #[] lb] W fun e w' =>e=.returned (wrV (zaK list zs.length f))∧KeptX X W w':=by
 have hB0:Below W.heap.size W (W.alloc (.cells #[.int .i64 0,.int .i64 0,.int .i64 0] 76)):=(Below.refl _ W).alloc (Nat.le_refl _) _
 have HS0:=kz (And.intro (zat hB0 X) (And.intro (Blk.new W #[.int .i64 0,.int .i64 0,.int .i64 0] 76) (hst 0 _ _ h0 hB0)))
 have HA:=kz hr
 have HX:=kz (And.intro hlo hX)
 have HC:=kz (And.intro hst hcall)
 clear hB0 hr hlo hX hst hcall h0
 go_enter Tryz.func157,Tryz.ntmps157
 go_wp2
 generalize W.alloc (.cells #[.int .i64 0,.int .i64 0,.int .i64 0] 76)=w1 at *
 go_loopw [7,8,9,12] (fun _ _ _ s12 wr => ∃ k:Nat,k≤zs.length∧s12=.int .i64 k∧Hz (∀ i,i < k→f i=0)∧Hz (KeptX X W wr∧Blk wr W.heap.size #[.int .i64 0,.int .i64 0,.int .i64 0] 76∧J k wr)) (fun _ _ _ s12 _ =>zs.length - (intOf s12).toNat)
 case atStart =>exact ⟨0,Nat.zero_le _,rfl,kz (fun i hi =>absurd hi (Nat.not_lt_zero _)),HS0⟩
 case round =>
  obtain ⟨k,hk,rfl,HF,HS⟩:=hrel
  clear HS0
  by_cases hkn:k < zs.length
  ·obtain ⟨x,hx⟩:∃ x,zs[k]?=some x:=⟨_,List.getElem?_eq_getElem hkn⟩
   obtain ⟨g,q,rfl,hg,hc⟩:=oz HA (by rw [zeX];omega)
   have e0:W.cell? ⟨g,q+k*2,none⟩=some (.int .i32 x.1):=hc _ _ (zfV _ k x hx).1
   have e1:W.cell? ⟨g,q+k*2+1,none⟩=some (.int .i32 x.2):=hc _ _ (zfV _ k x hx).2
   have hgX:¬ X g:=fun q =>by have:=(oz HX).2 g q;omega
   have hgW:g < W.heap.size:=by have:=(oz HX).1;omega
   have c0:wr.cell? ⟨g,q+k*2,none⟩=some (.int .i32 x.1):=((oz HS).1.cell (p:=⟨g,q+k*2,none⟩) hgW hgX).trans e0
   have c1:wr.cell? ⟨g,q+k*2+1,none⟩=some (.int .i32 x.2):=((oz HS).1.cell (p:=⟨g,q+k*2+1,none⟩) hgW hgX).trans e1
   have hB:Below wr.heap.size wr (wr.alloc (.cells #[.int .i32 x.1,.int .i32 x.2] 113)):=(Below.refl _ wr).alloc (Nat.le_refl _) _
   have HL:=kz (oz HC).2
   have HCL:=kz (oz HL k x (wr.alloc (.cells #[.int .i32 x.1,.int .i32 x.2] 113)) hx ((oz HS).1.trans (zat hB X)) ((oz HC).1 k _ _ (oz HS).2.2 hB))
   have HR:=kz (((oz HS).1.trans (zat hB X)))
   have HRB:=kz ((oz HS).2.1.alloc (.cells #[.int .i32 x.1,.int .i32 x.2] 113))
   have HRX:Hz (¬ X W.heap.size):=kz (fun q =>by have:=(oz HX).2 _ q;omega)
   have hk1:(k:Int) < (zs.length:Int):=by omega
   have hk2:((k:Nat):Int).toNat=k:=by omega
   have HFK:Hz (f k=0→∀ i,i < k+1→f i=0):=kz (fun h i hi =>by
    rcases Nat.lt_or_ge i k with h1 | h1
    ·exact oz HF i h1
    ·obtain rfl:i=k:=by omega
     exact h)
   have HFB:Hz (f k≠0→zaK list zs.length f=(f k,list,(k:Int))):=kz (fun h =>zbf k hkn (oz HF) h)
   obtain ⟨x1,x2⟩:=x
   dsimp only at c0 c1 HCL HR HRB
   clear hx hc hB HL HS HF e0 e1 hgX hgW hg
   generalize f k=y at *
   by_cases hy:y=0
   ·subst hy
    have HFK2:=kz (oz HFK rfl)
    clear HFK HFB
    go_wp2_with (go_at_fn G;refine (oz HCL).mono ?_;rintro e w' ⟨rfl,hj',hk'⟩)
    exact ⟨⟨k+1,by omega,by go_num,HFK2,kz ⟨(oz HR).trans hk',hk'.blk (oz HRB) (oz HRX),hj'⟩⟩,by simp [intOf];omega⟩
   ·have hy1:(y == 0)=false:=by simpa using hy
    have HFB2:=kz (oz HFB hy)
    clear HFK HFB
    go_wp2_with (go_at_fn G;refine (oz HCL).mono ?_;rintro e w' ⟨rfl,hj',hk'⟩;have HRB2:=kz (hk'.blk (oz HRB) (oz HRX));have r0:=(oz HRB2).cell 0;have r1:=(oz HRB2).cell 1;have r2:=(oz HRB2).cell 2;have f0:=(oz HRB2).frozen 0;have f1:=(oz HRB2).frozen 1;have f2:=(oz HRB2).frozen 2)
    rw [oz HFB2]
    exact bodyPost_ret (v:=wrV (y,list,(k:Int))) (zco Tryz.results157 rfl (zcw (oz HRB2) _ _ _) rfl) rfl ⟨rfl,((oz HR).trans hk').set3 (Nat.le_refl _) _ _ _⟩
  ·have hk1:¬ (k:Int) < (zs.length:Int):=by omega
   have HO2:Hz (zaK list zs.length f=(0,0,0)):=kz (zbO (fun i hi =>oz HF i (by omega)))
   have r0:=(oz HS).2.1.cell 0
   have r1:=(oz HS).2.1.cell 1
   have r2:=(oz HS).2.1.cell 2
   have f0:=(oz HS).2.1.frozen 0
   have f1:=(oz HS).2.1.frozen 1
   have f2:=(oz HS).2.1.frozen 2
   go_wp2_with fail
   rw [oz HO2]
   exact bodyPost_ret (v:=wrV (0,0,0)) (zco Tryz.results157 rfl (zcw (oz HS).2.1 _ _ _) rfl) rfl ⟨rfl,(oz HS).1.set3 (Nat.le_refl _) _ _ _⟩
def orE:List Int→Int
 | [] =>0
 | x::r =>if x=0 then orE r else x
theorem zdq {x:Int} {r:List Int} (h:x=0):orE (x::r)=orE r:=by
 show (if x=0 then orE r else x)=orE r
 rw [if_pos h]
theorem zdp {x:Int} {r:List Int} (h:x≠0):orE (x::r)=x:=by
 show (if x=0 then orE r else x)=x
 rw [if_neg h]
set_option maxRecDepth 100000 in
set_option maxHeartbeats 2000000 in
theorem zbr (l:List Int) (hl:l.length≤100) (g o c:Nat) (w:World) (hc:∀ (j:Nat) (x:Int),l[j]?=some x→w.cell? ⟨g,o+j,none⟩=some (.int .i64 x)) :
  Calls Tryz.prog 125 #[.slice (some ⟨g,o,none⟩) l.length c] w fun e w' =>e=.returned (.int .i64 (orE l))∧w'=w:=by
 have HC:=kz hc
 clear hc
 go_enter Tryz.func125,Tryz.ntmps125
 go_wp2
 go_loopw [5,8] (fun _ s8 wr => ∃ k:Nat,k≤l.length∧s8=.int .i64 k∧Hz (orE l=orE (l.drop k))∧wr=w) (fun _ s8 _ =>l.length - (intOf s8).toNat)
 case atStart =>exact ⟨0,by omega,rfl,kz (by rw [List.drop_zero]),rfl⟩
 case round =>
  obtain ⟨k,hkl,rfl,HO,rfl⟩:=hrel
  by_cases hkn:k < l.length
  ·obtain ⟨x,hx⟩:∃ x,l[k]?=some x:=⟨_,List.getElem?_eq_getElem hkn⟩
   have hd:l.drop k=x::l.drop (k+1):=by
    rw [List.drop_eq_getElem_cons hkn]
    congr 1
    exact Option.some.inj ((List.getElem?_eq_getElem hkn).symm.trans hx)
   have c0:=oz HC k x hx
   have hk1:(k:Int) < (l.length:Int):=by omega
   have hk2:((k:Nat):Int).toNat=k:=by omega
   by_cases hx0:x=0
   ·have HO2:Hz (orE l=orE (l.drop (k+1))):=kz (by rw [oz HO,hd,zdq hx0])
    subst hx0
    clear hx hd HO
    go_wp2_with fail
    exact ⟨⟨k+1,by omega,by go_num,HO2,by trivial⟩,by simp [intOf];omega⟩
   ·have HO2:Hz (orE l=x):=kz (by rw [oz HO,hd,zdp hx0])
    have q0:(x == 0)=false:=by simpa using hx0
    clear hx hd HO
    go_wp2_with fail
    rw [oz HO2]
    go_ret
    exact ⟨rfl,rfl⟩
  ·have hk1:¬ (k:Int) < (l.length:Int):=by omega
   have HO2:Hz (orE l=0):=kz (by rw [oz HO,List.drop_of_length_le (by omega)];rfl)
   go_wp2_with fail
   rw [oz HO2]
   go_ret
   exact ⟨rfl,rfl⟩
def RnC (W:World) (lo:Nat) (a:Option Addr) (zs:List Int):Prop:=0 < zs.length→∃ g o,a=some ⟨g,o,none⟩∧g < lo∧∀ (j:Nat) (x:Int),zs[j]?=some x→W.cell? ⟨g,o+j,none⟩=some (.int .i32 x)
set_option maxRecDepth 100000 in
set_option maxHeartbeats 2000000 in
theorem zlO (zs:List Int) (hn:zs.length≤1000000) (a:Option Addr) (c G:Nat) (fs lb:Array Value) (eg:∀ args w,(callFunc G args).run Tryz.prog w=.ok (.enter G args) w) (p:Int→Bool) (W:World) (hr:RnC W W.heap.size a zs)
  (hcall:∀ x ∈ zs, ∀ w,Below W.heap.size W w→Calls Tryz.prog G (fs++#[.int .i32 x]++lb) w fun e w' =>e=.returned (.bool (p x))∧Below W.heap.size W w') :
  Calls Tryz.prog 189 #[.slice a zs.length c,.func (.func G) fs lb] W fun e w' =>(∃ i:Int,e=.returned (.int .i64 i)∧decide (0≤i)=zs.any p)∧Below W.heap.size W w':=by
 have HA:=kz hr
 have HC:=kz hcall
 clear hr hcall
 go_enter Tryz.func189,Tryz.ntmps189
 go_wp2
 go_loopw [5,8] (fun _ s8 wr => ∃ k:Nat,k≤zs.length∧s8=.int .i64 k∧Hz (∀ x ∈ zs.take k,p x=false)∧Hz (Below W.heap.size W wr)) (fun _ s8 _ =>zs.length - (intOf s8).toNat)
 case atStart =>exact ⟨0,by omega,rfl,kz (fun x hx =>by simp at hx),kz (Below.refl _ _)⟩
 case round =>
  obtain ⟨k,hkl,rfl,HO,HS⟩:=hrel
  by_cases hkn:k < zs.length
  ·obtain ⟨x,hx⟩:∃ x,zs[k]?=some x:=⟨_,List.getElem?_eq_getElem hkn⟩
   obtain ⟨g,q,rfl,hg,hc⟩:=oz HA (by omega)
   have c0:wr.cell? ⟨g,q+k,none⟩=some (.int .i32 x):=((oz HS).cell (p:=⟨g,q+k,none⟩) hg).trans (hc k x hx)
   have HCL:=kz (oz HC x (List.mem_of_getElem? hx) wr (oz HS))
   have hk1:(k:Int) < (zs.length:Int):=by omega
   have hk2:((k:Nat):Int).toNat=k:=by omega
   have HX:=kz hx
   have HT:Hz (p x=true→zs.any p=true):=kz (fun h =>List.any_eq_true.2 ⟨x,List.mem_of_getElem? hx,h⟩)
   have HN:Hz (p x=false→∀ y ∈ zs.take (k+1),p y=false):=kz (fun h y hy =>by
    rw [List.take_add_one,hx] at hy
    rcases List.mem_append.1 hy with h1 | h1
    ·exact oz HO y h1
    ·obtain rfl:y=x:=by simpa using h1
     exact h)
   clear hx hc HO hg
   generalize p x=y at *
   cases y with
   | false =>
    have HN2:=kz (oz HN rfl)
    clear HN HT
    go_wp2_with (go_at_fn G;refine (oz HCL).mono ?_;rintro e w' ⟨rfl,hb'⟩)
    exact ⟨⟨k+1,by omega,by go_num,HN2,kz hb'⟩,by simp [intOf];omega⟩
   | true =>
    have HT2:=kz (oz HT rfl)
    clear HN HT
    go_wp2_with (go_at_fn G;refine (oz HCL).mono ?_;rintro e w' ⟨rfl,hb'⟩)
    go_ret
    exact ⟨⟨_,rfl,by rw [oz HT2];simp⟩,hb'⟩
  ·have hk1:¬ (k:Int) < (zs.length:Int):=by omega
   have HO2:Hz (zs.any p=false):=kz (by
    rw [List.any_eq_false]
    intro x hx
    have:=oz HO x (by rw [List.take_of_length_le (by omega)];exact hx)
    simp [this])
   go_wp2_with fail
   go_ret
   exact ⟨⟨_,rfl,by rw [oz HO2];rfl⟩,oz HS⟩
set_option maxRecDepth 100000 in
theorem zcu (zs:List Int) (hn:zs.length≤1000000) (a:Option Addr) (c G:Nat) (fs lb:Array Value) (eg:∀ args w,(callFunc G args).run Tryz.prog w=.ok (.enter G args) w) (p:Int→Bool) (W:World) (hr:RnC W W.heap.size a zs)
  (hcall:∀ x ∈ zs, ∀ w,Below W.heap.size W w→Calls Tryz.prog G (fs++#[.int .i32 x]++lb) w fun e w' =>e=.returned (.bool (p x))∧Below W.heap.size W w') :
  Calls Tryz.prog 147 #[.slice a zs.length c,.func (.func G) fs lb] W fun e w' =>e=.returned (.bool (zs.any p))∧Below W.heap.size W w':=by
 have HI:=kz (zlO zs hn a c G fs lb eg p W hr hcall)
 clear hr hcall
 go_enter Tryz.func147,Tryz.ntmps147
 go_wp2_with fail
 refine (oz HI).mono ?_
 rintro e w' ⟨⟨i,rfl,hi⟩,hb⟩
 have HI2:=kz (And.intro hi hb)
 clear hi hb HI
 go_wp2_with fail
 go_ret
 exact ⟨by rw [← (oz HI2).1];rfl,(oz HI2).2⟩
theorem zkj (r:Int) (w:World):Calls Tryz.prog 198 #[.int .i32 r] w fun e w' =>e=.returned (.bool (!zaq r))∧w'=w:=by
 go_enter Tryz.func198,Tryz.ntmps198
 go_wp2_with fail
 refine (zbF r w).mono ?_
 rintro e w' ⟨rfl,rfl⟩
 go_wp2_with fail
 go_ret
 exact ⟨by rw [← zdd];rfl,rfl⟩
theorem zqY:∀ args w,(callFunc 198 args).run Tryz.prog w=.ok (.enter 198 args) w:=enters_of Tryz.func198 (by kernel_rfl) rfl
set_option maxRecDepth 100000 in
theorem zd3 (zs:List Int) (hn:zs.length≤1000000) (a:Option Addr) (c:Nat) (W:World) (hr:RnC W W.heap.size a zs) :
  Calls Tryz.prog 172 #[.slice a zs.length c] W fun e w' =>e=.returned (.int .i64 (if zs.all zaq then 0 else 12))∧Below W.heap.size W w':=by
 have HI:=kz (zcu zs hn a c 198 #[] #[] zqY (fun r => !zaq r) W hr (fun x _ w hb =>(zkj x w).mono (fun e w' ⟨he,hw⟩ =>⟨he,hw ▸ hb⟩)))
 have hq:zs.any (fun r => !zaq r) = !zs.all zaq:=by simp [List.any_eq_not_all_not]
 rw [hq] at HI
 clear hr hq
 generalize zs.all zaq=b at *
 go_enter Tryz.func172,Tryz.ntmps172
 go_wp2_with fail
 refine (oz HI).mono ?_
 rintro e w' ⟨rfl,hb⟩
 have HB:=kz hb
 clear hb HI
 go_wp2_with fail
 refine (zaI (!b) 12 w').mono ?_
 rintro e w2 ⟨rfl,rfl⟩
 cases b
 all_goals
  go_wp2_with fail
  go_ret
  exact ⟨rfl,oz HB⟩
end Go.Proofs.YtmemedpoaocdkaaGreat
namespace Go.Proofs.YtmemedpoaocdkaaGreat
open Go.RowKit Go.Shelf Go.Lib
set_option linter.unusedVariables false

def zdC:List (Int × Int)→List Value
 | [] => []
 | x::zs =>.int .i32 x.1::.int .i32 x.2::zdC zs
theorem zbL (zs:List (Int × Int)):(zdC zs).length=zs.length*2:=by
 induction zs with
 | nil =>rfl
 | cons x zs ih =>simp only [zdC,List.length_cons,ih];omega
theorem zht (zs:List (Int × Int)) (j:Nat) (x:Int × Int) (h:zs[j]?=some x):(zdC zs)[j*2]?=some (.int .i32 x.1)∧(zdC zs)[j*2+1]?=some (.int .i32 x.2):=by
 induction zs generalizing j with
 | nil =>simp at h
 | cons y zs ih =>
  cases j with
  | zero =>simp at h;subst h;simp [zdC]
  | succ j =>
   simp at h
   have:=ih j h
   rw [show (j+1)*2=j*2+1+1 by omega]
   simpa [zdC] using this
theorem zes (xs ys:List (Int × Int)):zdC (xs++ys)=zdC xs++zdC ys:=by
 induction xs with
 | nil =>rfl
 | cons x xs ih =>simp only [List.cons_append,zdC,ih]
theorem zgV (zs:List (Int × Int)):∀ u ∈ zdC zs,u.oneCell'=true:=by
 induction zs with
 | nil =>simp [zdC]
 | cons x zs ih =>
  intro u hu
  simp only [zdC,List.mem_cons] at hu
  rcases hu with rfl | rfl | hu
  ·rfl
  ·rfl
  ·exact ih u hu
theorem zib {W:World} {g o:Nat} {zs:List (Int × Int)} (hc:∀ j x,zs[j]?=some x→W.cell? ⟨g,o+j*2,none⟩=some (.int .i32 x.1)∧W.cell? ⟨g,o+j*2+1,none⟩=some (.int .i32 x.2)) (j:Nat) (u:Value) (hu:(zdC zs)[j]?=some u):W.cell? ⟨g,o+j,none⟩=some u:=by
 have hl:=(List.getElem?_eq_some_iff.1 hu).1
 rw [zbL] at hl
 obtain ⟨x,hx⟩:∃ x,zs[j / 2]?=some x:=⟨_,List.getElem?_eq_getElem (by omega)⟩
 have h1:=zht zs _ x hx
 have h2:=hc _ x hx
 rcases Nat.mod_two_eq_zero_or_one j with e | e
 ·have:j=j / 2*2:=by omega
  rw [← this] at h1 h2
  rw [h1.1] at hu
  cases hu
  exact h2.1
 ·have:j=j / 2*2+1:=by omega
  rw [show o+j / 2*2+1=o+j by omega] at h2
  rw [← this] at h1
  rw [h1.2] at hu
  cases hu
  exact h2.2
theorem ziB {W:World} {base n:Nat} {v:Value} {zs:List (Int × Int)} (h:W.ownsRow base 113 2 v n (zdC zs)):∃ a c,v=.slice a zs.length c∧RowP W a zs∧n=zs.length∧zs.length≤c:=by
 obtain ⟨hl,h⟩:=h
 rw [zbL] at hl
 have hn:n=zs.length:=by omega
 subst hn
 rcases h with ⟨rfl,h0⟩ | ⟨g,cap,cur,rfl,hb,hg,h1,h2,h3,h4⟩
 ·exact ⟨none,0,by rw [h0],fun h =>by omega,rfl,by omega⟩
 ·refine ⟨_,cap,rfl,fun h0 =>⟨g,0,rfl,(Array.getElem?_eq_some_iff.1 hg).1,fun j x hj =>?_⟩,rfl,h1⟩
  have hbk:Blk W g cur 113:=hg
  have e:=zht zs j x hj
  rw [← h4] at e
  have hjl:=(List.getElem?_eq_some_iff.1 hj).1
  rw [List.getElem?_take,if_pos (by omega),List.getElem?_take,if_pos (by omega)] at e
  rw [Nat.zero_add,Blk.cell hbk,Blk.cell hbk]
  simpa using e

theorem zaY {w:World} {a:Addr} {v:Value} (o:Obj) (h:w.cell? a=some v):(w.alloc o).cell? a=some v:=Lib.cell?_alloc_some _ h
theorem zns:(Tryz.prog.info? 113).map (fun i =>(i.zero,i.size,i.bytes))=some (some (.agg #[.int .i32 0,.int .i32 0]),2,8):=by kernel_rfl

set_option maxRecDepth 100000 in
set_option maxHeartbeats 2000000 in
theorem zlZ (a:Option Addr) (cap:Nat) (zs:List (Int × Int)) (hz:zs.length≤1073741824) (w:World) (hr:RowP w a zs) :
  Calls Tryz.prog 184 #[.slice a zs.length cap] w fun e w' => ∃ v,e=.returned v∧w'.ownsRow w.heap.size 113 2 v zs.length (zdC zs)∧Below w.heap.size w w':=by
 have q22:∀ (w:World) (a:Option Addr) (n c n' c':Nat),(binOp .eql 23 (.slice a n c) (.slice none n' c')).run Tryz.prog w=.ok (.bool a.isNone) w:=fun w a n c n' c' =>Lib.run_eql_slice_nil w _ _ a n c n' c' Tryz.underlying23
 obtain ⟨i0,hi,hz0,hz1,hz2⟩:=info_parts zns
 have HI:=kz (show _∧_∧_∧_ from ⟨hi,hz0,hz1,hz2⟩)
 have HR:=kz hr
 clear hi hz0 hz1 hz2 hr
 cases a with
 | none =>
  have h0:zs=[]:=by
   by_cases e:0 < zs.length
   ·obtain ⟨g,o,h,_⟩:=oz HR e;cases h
   ·exact List.eq_nil_of_length_eq_zero (by omega)
  subst h0
  go_enter Tryz.func184,Tryz.ntmps184
  go_wp2
  go_ret
  exact ⟨_,rfl,World.ownsRow_nil _ _ _ _,Below.refl _ _⟩
 | some p =>
  have HN:Hz (∀ j u,(zdC zs)[j]?=some u→w.cell? (p.add j)=some u):=kz (fun j u hu =>by
   have hl:=(List.getElem?_eq_some_iff.1 hu).1
   rw [zbL] at hl
   obtain ⟨g,o,h,hg,hc⟩:=oz HR (by omega)
   cases h
   rw [zeb]
   exact zib hc j u hu)
  have hb8:zs.length*8≤140737488355328:=by omega
  go_enter Tryz.func184,Tryz.ntmps184
  go_wp2_with (at_builtin;refine wpList_append_own _ rfl _ _ 23 rfl w.heap.size 113 i0 (.agg #[.int .i32 0,.int .i32 0]) 2 8 Tryz.underlying23 (oz HI).1 (oz HI).2.1 (oz HI).2.2.1 (oz HI).2.2.2 rfl (by decide) _ _ _ rfl (World.ownsRow_made w #[] 0 (Nat.le_refl _) (Nat.zero_le _) (by simp)) p zs.length cap (zdC zs) rfl ?qc1 ?qc2 ?qc3 ?qc4 ?qc5 ?qc6 ?_)
  case qc1 =>exact zbL zs
  case qc2 =>exact fun j u hj =>zaY _ (oz HN j u hj)
  case qc3 =>exact zgV zs
  case qc4 =>rw [Nat.zero_add];unfold maxLen;omega
  case qc5 =>rw [Nat.zero_add];exact hb8
  case qc6 =>simp
  intro v' w1 hown hgrow hnil
  have HO:=kz hown
  have HG:=kz hgrow
  clear hown hgrow hnil
  go_wp2
  go_ret
  refine ⟨v',rfl,by simpa using oz HO, ?_⟩
  exact ((Below.refl _ w).alloc (Nat.le_refl _) _).grown (oz HG) (by simp) (by intro k hk;simp [Value.ownBlock] at hk;omega)

end Go.Proofs.YtmemedpoaocdkaaGreat
