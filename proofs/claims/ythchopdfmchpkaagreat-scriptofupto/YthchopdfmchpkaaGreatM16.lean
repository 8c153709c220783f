/- Texts of this claim, one behind the other. -/
import Derived.Test.YthchopdfmchpkaaGreatM15
import Derived.Shelf.SlSortCmp.WholeK
import Derived.Shelf.SlSortCmp.NoneTotal
import Derived.Test.YthchopdfmchpkaaGreatShS
namespace Go.Proofs.YthchopdfmchpkaaGreat
set_option linter.unusedVariables false
section
open Go.RowKit Go.Shelf
def ahs (zs:List (Int × Int)):List Value:=(List.range zs.length).map fun j =>.int .i64 (total (zs.take j))
theorem zeG (zs:List (Int × Int)):(ahs zs).length=zs.length:=by simp [ahs]
theorem zku (zs:List (Int × Int)) (j:Nat) (hj:j < zs.length):(ahs zs)[j]?=some (.int .i64 (total (zs.take j))):=by simp [ahs,hj]
theorem zaw (zs:List (Int × Int)) (x:Int × Int):ahs (zs++[x])=ahs zs++[.int .i64 (total zs)]:=by
 unfold ahs;rw [List.length_append,List.length_singleton,List.range_succ,List.map_append]
 congr 1
 ·apply List.map_congr_left;intro j hj;rw [List.mem_range] at hj;rw [List.take_append_of_le_length (by omega)]
 ·simp
theorem zif (ys:List (Int × Int)) (y y':Int × Int):ahs (ys++[y'])=ahs (ys++[y]):=by rw [zaw,zaw]
theorem zdb {W:World} {base n:Nat} {v:Value} {zs:List (Int × Int)} (h:W.ownsRow base 3 1 v n (ahs zs)):∃ a c,v=.slice a zs.length c∧RowA W a zs∧n=zs.length:=by
 obtain ⟨hl,h⟩:=h;rw [zeG] at hl;have hn:n=zs.length:=by omega
 subst hn;rcases h with ⟨rfl,h0⟩ | ⟨g,cap,cur,rfl,hb,hg,h1,h2,h3,h4⟩
 ·exact ⟨none,0,by rw [h0],fun h =>by omega,rfl⟩
 ·refine ⟨_,cap,rfl,fun h0 =>⟨g,0,rfl,(zeI.1 hg).1,fun j hj =>?_⟩,rfl⟩;have hbk:Blk W g cur 3:=hg;have e:=zku zs j hj;rw [← h4] at e;rw [List.getElem?_take,if_pos (by omega)] at e;rw [Nat.zero_add,Blk.cell hbk];simpa using e
theorem zu {W W':World} {base E sz n:Nat} {v:Value} {xs:List Value} (h:W.ownsRow base E sz v n xs) (hb:Below W.heap.size W W'):W'.ownsRow base E sz v n xs:=by
 obtain ⟨hl,h⟩:=h;refine ⟨hl, ?_⟩;rcases h with h | ⟨g,cap,cur,h1,h2,h3,h4⟩
 ·exact .inl h
 ·exact .inr ⟨g,cap,cur,h1,h2,(hb.block g (zeI.1 h3).1).trans h3,h4⟩
theorem Yn {W:World} {base E t sz n B:Nat} {v:Value} {xs:List Value} {cs:Array Value} (h:W.ownsRow base E sz v n xs) (hB:Blk W B cs t) (hE:t≠E):some B≠v.ownBlock:=by
 intro e;rcases h.2 with ⟨rfl,_⟩ | ⟨g,cap,cur,rfl,_,hg,_⟩
 ·simp [Value.ownBlock] at e
 ·simp [Value.ownBlock] at e;subst e;have:=(show W.heap[B]?=_ from hB).symm.trans hg;simp at this;exact hE this.2
theorem zbY {W:World} {base base' E E' sz sz' n n':Nat} {v v':Value} {xs xs':List Value} (h:W.ownsRow base E sz v n xs) (h':W.ownsRow base' E' sz' v' n' xs') (hE:E≠E'):v.ownBlock=none∨v.ownBlock≠v'.ownBlock:=by
 rcases h.2 with ⟨rfl,_⟩ | ⟨g,cap,cur,rfl,_,hg,_⟩
 ·exact .inl rfl
 ·exact .inr (Yn h' (show Blk W g cur E from hg) hE)
def za1 (w w':World) (B:Nat):Prop := ∀ X,X < w.heap.size→X≠B→(∀ va vb,Blk w B #[va,vb] 226→va.ownBlock≠some X∧vb.ownBlock≠some X)→w'.heap[X]?=w.heap[X]?
structure Made (W:World) (B lo0:Nat) (zs:List (Int × Int)):Prop where
 form:∃ va vb,Blk W B #[va,vb] 226∧W.ownsRow lo0 94 2 va zs.length (qS zs)∧W.ownsRow lo0 3 1 vb zs.length (ahs zs)
 lo:lo0≤B
theorem Made.set {W:World} {B lo0:Nat} {zs:List (Int × Int)} (h:Made W B lo0 zs) (hs:Spread zs) (hl:zs.length≤1112064):SetAt W B zs:=by
 obtain ⟨va,vb,h1,h2,h3⟩:=h.form;obtain ⟨a,ca,rfl,ha,_⟩:=KO h2;obtain ⟨b,cb,rfl,hb,_⟩:=zdb h3;exact ⟨⟨a,ca,b,cb,h1,ha,hb⟩,hs,hl⟩
theorem Made.below {W W':World} {B lo0:Nat} {zs:List (Int × Int)} (h:Made W B lo0 zs) (hb:Below W.heap.size W W'):Made W' B lo0 zs:=by
 obtain ⟨va,vb,h1,h2,h3⟩:=h.form;exact ⟨⟨va,vb,h1.below hb h1.lt,zu h2 hb,zu h3 hb⟩,h.lo⟩
theorem zgm (ys:List (Int × Int)) (y:Int × Int) (u:Int):(qS (ys++[y])).set (ys.length*2+1) (.int .i32 u)=qS (ys++[(y.1,u)]):=by
 rw [YT,YT,List.set_append,if_neg (by rw [jZ];omega),jZ];have:ys.length*2+1 - ys.length*2=1:=by omega
 rw [this];rfl
theorem Made.touch {W:World} {B lo0 g ca:Nat} {vb:Value} {ys:List (Int × Int)} {y:Int × Int} (h1:Blk W B #[.slice (some ⟨g,0,none⟩) (ys.length+1) ca,vb] 226) (h2:W.ownsRow lo0 94 2 (.slice (some ⟨g,0,none⟩) (ys.length+1) ca) (ys.length+1) (qS (ys++[y]))) (h3:W.ownsRow lo0 3 1 vb (ys.length+1) (ahs (ys++[y]))) (hl:lo0≤B) (u:Int) :
  Made (W.setCell ⟨g,ys.length*2+1,none⟩ (.int .i32 u)) B lo0 (ys++[(y.1,u)])∧Below lo0 W (W.setCell ⟨g,ys.length*2+1,none⟩ (.int .i32 u)):=by
 have hs:=h2.stored (ys.length*2+1) (.int .i32 u);have hg:lo0≤g:=(h2.lt g rfl).1;refine ⟨⟨⟨_,vb,h1.kept hs.2 ?_, ?_, ?_⟩,hl⟩,(Below.refl lo0 W).setCell (p:=⟨g,ys.length*2+1,none⟩) hg _⟩
 ·exact Yn h2 h1 (by decide)
 ·rw [List.length_append,List.length_singleton];have:=hs.1;rw [zgm] at this;exact this
 ·rw [List.length_append,List.length_singleton,zif ys y];exact h3.kept hs.2 (zbY h3 h2 (by decide))
theorem zfc {wm w2 w3:World} {B X lo0 n:Nat} {va vb:Value} {cx:Array Value} {xs ys:List Value} {tmp:Obj} (hB:Blk wm B #[va,vb] 226) (hX:Blk wm X cx 94) (ha:wm.ownsRow lo0 94 2 va n xs) (hv:wm.ownsRow lo0 3 1 vb n ys) (hb:Below wm.heap.size wm w2) (hg:(w2.alloc tmp).grownBy w3 vb.ownBlock) :
  Blk w3 B #[va,vb] 226∧Blk w3 X cx 94∧w3.ownsRow lo0 94 2 va n xs:=by
 have b1:=(hB.below hb hB.lt).alloc tmp;have x1:=(hX.below hb hX.lt).alloc tmp;have a1:=(zu ha hb).alloc tmp;have v1:=(zu hv hb).alloc tmp;exact ⟨b1.kept hg (Yn v1 b1 (by decide)),x1.kept hg (Yn v1 x1 (by decide)),a1.kept hg (zbY a1 v1 (by decide))⟩
theorem zh3 {w wm w2 w3:World} {B lo0 X g1 cap1 n:Nat} {va vb:Value} {cx:Array Value} {xs ys zs:List Value} {tmp:Obj} (hB:Blk wm B #[va,vb] 226) (hX:Blk wm X cx 94) (ha:wm.ownsRow lo0 94 2 va n xs) (hv:wm.ownsRow lo0 3 1 vb n ys) (hw:Below w.heap.size w wm) (hb:Below wm.heap.size wm w2) (hg:(w2.alloc tmp).grownBy w3 vb.ownBlock) (h0:lo0≤B) (hl:lo0≤w.heap.size) (hne:X≠B)
  (ho:w3.ownsRow lo0 3 1 (.slice (some ⟨g1,0,none⟩) (n+1) cap1) (n+1) zs) :
  ∃ w4,w4=w3.setCell ⟨B,1,none⟩ (.slice (some ⟨g1,0,none⟩) (n+1) cap1)∧Blk w4 B #[va,.slice (some ⟨g1,0,none⟩) (n+1) cap1] 226∧Blk w4 X cx 94∧w4.ownsRow lo0 3 1 (.slice (some ⟨g1,0,none⟩) (n+1) cap1) (n+1) zs∧w4.ownsRow lo0 94 2 va n xs∧Below lo0 w w4∧(∀ X,X < w.heap.size→X≠B→vb.ownBlock≠some X→w4.heap[X]?=w.heap[X]?):=by
 have hm:=zfc hB hX ha hv hb hg;refine ⟨_,rfl,by simpa using hm.1.set 1 (.slice (some ⟨g1,0,none⟩) (n+1) cap1),hm.2.1.other hne _, ?_, ?_, ?_,fun X hX hXB hXv =>?_⟩
 ·exact ho.kept (zV w3 ⟨B,1,none⟩ _) (.inr (Yn ho hm.1 (by decide)).symm)
 ·rcases hm.2.2.2 with ⟨rfl,_⟩ | _
  ·exact hm.2.2.kept (zV w3 ⟨B,1,none⟩ _) (.inl rfl)
  ·exact hm.2.2.kept (zV w3 ⟨B,1,none⟩ _) (.inr (Yn hm.2.2 hm.1 (by decide)).symm)
 ·have s1:=hw.size;have s2:=hb.size;have v1:=hv.lt;exact ((((hw.mono hl).trans (hb.mono (by omega))).alloc (by omega) tmp).grown hg (by simp;omega) (fun k e =>(v1 k e).1)).setCell (p:=⟨B,1,none⟩) h0 _
 ·have s1:=hw.size;have s2:=hb.size;rw [Below.heap_setCell w3 ⟨B,1,none⟩ _ X hXB,hg.block X (by simp;omega) (fun e =>hXv e.symm),Below.heap_alloc w2 tmp X (by omega),hb.block X (by omega),hw.block X hX]
theorem zhw {w w4 w5:World} {B lo0 g1 cap1 g5 cap5:Nat} {va:Value} {zs:List (Int × Int)} {x:Int × Int} {tmp:Obj} (hB:Blk w4 B #[va,.slice (some ⟨g1,0,none⟩) (zs.length+1) cap1] 226) (ho:w4.ownsRow lo0 3 1 (.slice (some ⟨g1,0,none⟩) (zs.length+1) cap1) (zs.length+1) (ahs (zs++[x]))) (ha:w4.ownsRow lo0 94 2 va zs.length (qS zs)) (hL:Below lo0 w w4) (hl:lo0≤w.heap.size) (h0:lo0≤B)
  (hg:(w4.alloc tmp).drew.grownBy w5 va.ownBlock) (ho5:w5.ownsRow lo0 94 2 (.slice (some ⟨g5,0,none⟩) (zs.length+1) cap5) (zs.length+1) (qS zs++qS [x])) {Pv:Nat→Prop} (hF:∀ X,X < w.heap.size→X≠B→Pv X→w4.heap[X]?=w.heap[X]?) :
  Made (w5.setCell ⟨B,0,none⟩ (.slice (some ⟨g5,0,none⟩) (zs.length+1) cap5)) B lo0 (zs++[x])∧Below lo0 w (w5.setCell ⟨B,0,none⟩ (.slice (some ⟨g5,0,none⟩) (zs.length+1) cap5))∧(∀ X,X < w.heap.size→X≠B→Pv X→va.ownBlock≠some X→(w5.setCell ⟨B,0,none⟩ (.slice (some ⟨g5,0,none⟩) (zs.length+1) cap5)).heap[X]?=w.heap[X]?):=by
 have hg':(w4.alloc tmp).grownBy w5 va.ownBlock:=⟨hg.os,hg.tape,hg.output,hg.size,hg.block⟩;have b1:=hB.alloc tmp;have a1:=ha.alloc tmp;have o1:=ho.alloc tmp;have hm:=b1.kept hg' (Yn a1 b1 (by decide));have ho1:=o1.kept hg' (zbY o1 a1 (by decide));rw [← YT] at ho5;refine ⟨⟨⟨_,_,by simpa using hm.set 0 (.slice (some ⟨g5,0,none⟩) (zs.length+1) cap5), ?_, ?_⟩,h0⟩, ?_,fun X hX hXB hP hXa =>?_⟩
 ·rw [List.length_append,List.length_singleton];exact ho5.kept (zV w5 ⟨B,0,none⟩ _) (.inr (Yn ho5 hm (by decide)).symm)
 ·rw [List.length_append,List.length_singleton];exact ho1.kept (zV w5 ⟨B,0,none⟩ _) (.inr (Yn ho1 hm (by decide)).symm)
 ·have s1:=hL.size;exact ((hL.alloc (by omega) tmp).grown hg' (by simp;omega) (fun k e =>(ha.lt k e).1)).setCell (p:=⟨B,0,none⟩) h0 _
 ·have s1:=hL.size;rw [Below.heap_setCell w5 ⟨B,0,none⟩ _ X hXB,hg'.block X (by simp;omega) (fun e =>hXa e.symm),Below.heap_alloc w4 tmp X (by omega),hF X hX hXB hP]
set_option maxRecDepth 100000
set_option maxHeartbeats 8000000
theorem zf1 (B lo0:Nat) (ys:List (Int × Int)) (y x:Int × Int) (hn:ys.length≤1000000) (hy:yF y=true) (hx:yF x=true) (ht:zf x.1≤zf y.2+1) (w:World) (hm:Made w B lo0 (ys++[y])) (hl:lo0≤w.heap.size) :
  Calls Tryz.prog 212 #[.pointer (some ⟨B,0,none⟩),zc4 x] w fun e w' =>(∃ r,e=.returned r)∧Made w' B lo0 (Jy (ys++[y]) x)∧Below lo0 w w'∧za1 w w' B:=by
 rw [YD _ _ _ ht];obtain ⟨va,vb,h1,h2,h3⟩:=hm.form;have hlo:=hm.lo;rw [List.length_append,List.length_singleton] at h2 h3;obtain ⟨g,ca,rfl,hg0,hg⟩:=h2.form (by omega);have hex:=zr hx;have hey:=zr hy;have r1:=zH hex.1.1 hex.1.2.1;have r2:=zH hey.2.1 hey.2.2.1;obtain ⟨lo,hi⟩:=x;obtain ⟨y0,y1⟩:=y;simp only at ht hex hey r1 r2;simp only;have k1:=h2.cellAt (ys.length*2+1) (by omega);have k2:=h2.frozenAt (ys.length*2+1);rw [(QB (ys++[(y0,y1)]) ys.length (y0,y1) (by simp)).2] at k1;have c0:=(h1.alloc (.cells #[.int .i32 lo,.int .i32 hi] 94)).cell 0;have c1:=yK (.cells #[.int .i32 lo,.int .i32 hi] 94) k1;have c2:(w.alloc (.cells #[.int .i32 lo,.int .i32 hi] 94)).frozen? ⟨g,ys.length*2+1,none⟩=false:=(((Below.refl _ w).alloc zD _).frozen (p:=⟨g,ys.length*2+1,none⟩) hg).trans k2;have q0:=(Blk.new w #[.int .i32 lo,.int .i32 hi] 94).cell 0;have q1:=(Blk.new w #[.int .i32 lo,.int .i32 hi] 94).cell 1;have HE:=kz (fun (k:Nat) (u:Int) =>Made.touch (W:=(w.alloc (.cells #[.int .i32 lo,.int .i32 hi] 94)).drewN k) (h1.alloc (.cells #[.int .i32 lo,.int .i32 hi] 94)) (h2.alloc (.cells #[.int .i32 lo,.int .i32 hi] 94)) (h3.alloc (.cells #[.int .i32 lo,.int .i32 hi] 94)) hlo u);have HW:=kz (fun (k:Nat) =>yX ((Below.refl lo0 w).alloc hl (.cells #[.int .i32 lo,.int .i32 hi] 94)) k);have HFr:Hz (∀ (k:Nat) (u:Value),za1 w (((w.alloc (.cells #[.int .i32 lo,.int .i32 hi] 94)).drewN k).setCell ⟨g,ys.length*2+1,none⟩ u) B):=kz (fun k u X hX hXB hv =>by
  have hne:X≠g:=fun e =>(hv _ _ h1).1 (by rw [e];rfl)
  rw [Below.heap_setCell _ ⟨g,ys.length*2+1,none⟩ _ X hne];exact Below.heap_alloc w _ X hX)
 generalize ys.length=m at *;have hm1:((m+1:Nat):Int) - 1=(m:Int):=by omega
 have hm2:((m:Nat):Int).toNat=m:=by omega
 have hlo2:0≤lo∧lo≤1114111:=⟨hex.1.1,hex.1.2.1⟩;have hhi2:0≤y1∧y1≤1114111:=⟨hey.2.1,hey.2.2.1⟩;clear h1 h2 h3 hm k1 k2 hex hey;go_enter Tryz.func212,Tryz.ntmps212;go_wp2
 go_quiet ((go_at_call 228;exact Calls.quiet_of_same (Yg _ (by omega) (by omega) _)))
 go_wp2;have hmx2:Tryz.prog.follows .mixedOrders=true:=by kernel_rfl
 go_region_with (fail)
 all_goals
  have HE1:=kz (oz HE (nq+1) (max y1 hi));have HW1:=kz (oz HW (nq+1));have HF1:=kz (oz HFr (nq+1) (.int .i32 (max y1 hi)));clear HE HW HFr c0 c1 c2 q0 q1;go_wp2;refine XS (results_none rfl _ _ _) rfl ?_;exact ⟨⟨_,rfl⟩,(oz HE1).1,(oz HW1).trans (oz HE1).2,oz HF1⟩
set_option maxRecDepth 100000
set_option maxHeartbeats 8000000
theorem zjI (zs:List (Int × Int)) (x:Int × Int):ahs zs++[.int .i64 (total zs)]=ahs (zs++[x]):=(zaw zs x).symm
theorem zf3 (B lo0:Nat) (ys:List (Int × Int)) (y x:Int × Int) (hn:ys.length≤1000000) (hS:Spread (ys++[y])) (hx:yF x=true) (ht:¬ zf x.1≤zf y.2+1) (w:World) (hm:Made w B lo0 (ys++[y])) (hl:lo0≤w.heap.size) :
  Calls Tryz.prog 212 #[.pointer (some ⟨B,0,none⟩),zc4 x] w fun e w' =>(∃ r,e=.returned r)∧Made w' B lo0 (Jy (ys++[y]) x)∧Below lo0 w w'∧za1 w w' B:=by
 rw [YE _ _ _ ht];obtain ⟨va,vb,h1,h2,h3⟩:=hm.form;have hlo:=hm.lo;have hy:=(hS.ends y (by simp)).1;obtain ⟨zs,hzs⟩:∃ zs,zs=ys++[y]:=⟨_,rfl⟩;have hzl:zs.length=ys.length+1:=by rw [hzs];simp
 obtain ⟨b,cb,rfl,_,_⟩:=zdb h3;obtain ⟨g,ca,rfl,hg0,hg⟩:=h2.form (by simp);have hex:=zr hx;have hey:=zr hy;have r1:=zH hex.1.1 hex.1.2.1;have r2:=zH hey.2.1 hey.2.2.1;obtain ⟨lo,hi⟩:=x;obtain ⟨y0,y1⟩:=y;simp only at ht hex hey r1 r2;have k1:=h2.cellAt (ys.length*2+1) (by simp;omega);rw [(QB (ys++[(y0,y1)]) ys.length (y0,y1) (by simp)).2] at k1;rw [← hzs] at h1 h2 h3 hm hS ⊢;obtain ⟨iI,hi0,hi1,hi2,hi3⟩:=info_parts ziH;have HI:=kz (yB hi0 (yB hi1 (yB hi2 hi3)));obtain ⟨iP,hi0,hi1,hi2,hi3⟩:=info_parts zed;have HP:=kz (yB hi0 (yB hi1 (yB hi2 hi3)));clear hi0 hi1 hi2 hi3;have HX:=kz (Blk.new w #[.int .i32 lo,.int .i32 hi] 94);have HBm:=kz ((Below.refl w.heap.size w).alloc zD (.cells #[.int .i32 lo,.int .i32 hi] 94));have HB:=kz (h1.alloc (.cells #[.int .i32 lo,.int .i32 hi] 94));have HA:=kz (h2.alloc (.cells #[.int .i32 lo,.int .i32 hi] 94));have HV:=kz (h3.alloc (.cells #[.int .i32 lo,.int .i32 hi] 94));have HS:=kz (fun (k:Nat) =>(show Made ((w.alloc (.cells #[.int .i32 lo,.int .i32 hi] 94)).drewN k) B lo0 zs from ⟨⟨_,_,oz HB,oz HA,oz HV⟩,hlo⟩).set hS (by omega));have HB0:=kz h1;have HNE:Hz (w.heap.size≠B):=kz (fun e =>by have:=h1.lt;omega);have c0:=(oz HB).cell 0;have c1:=yK (.cells #[.int .i32 lo,.int .i32 hi] 94) k1;have q0:=(oz HX).cell 0;rw [hzl] at c0;have HZL:=kz hzl;have HTB:=kz (X7 hS.ends);generalize ys.length=m at *;have hm1:((m+1:Nat):Int) - 1=(m:Int):=by omega
 have hm2:((m:Nat):Int).toNat=m:=by omega
 have hlo2:0≤lo∧lo≤1114111:=⟨hex.1.1,hex.1.2.1⟩;have hhi2:0≤y1∧y1≤1114111:=⟨hey.2.1,hey.2.2.1⟩;clear h1 h2 h3 hm k1 hex hey hS hy hx hzs hzl;go_enter Tryz.func212,Tryz.ntmps212;go_wp2
 go_quiet ((go_at_call 228;exact Calls.quiet_of_same (Yg _ (by omega) (by omega) _)))
 go_wp2;have HBd:Hz (Blk ((w.alloc (.cells #[.int .i32 lo,.int .i32 hi] 94)).drewN nq).drew B _ 226):=kz (oz HB);have HXd:Hz (Blk ((w.alloc (.cells #[.int .i32 lo,.int .i32 hi] 94)).drewN nq).drew w.heap.size #[.int .i32 lo,.int .i32 hi] 94):=kz (oz HX);have HAd:Hz (((w.alloc (.cells #[.int .i32 lo,.int .i32 hi] 94)).drewN nq).drew.ownsRow lo0 94 2 _ _ _):=kz (oz HA);have HVd:Hz (((w.alloc (.cells #[.int .i32 lo,.int .i32 hi] 94)).drewN nq).drew.ownsRow lo0 3 1 _ _ _):=kz (oz HV);have HSd:Hz (SetAt ((w.alloc (.cells #[.int .i32 lo,.int .i32 hi] 94)).drewN nq).drew B zs):=kz (oz HS (nq+1));have HBmd:Hz (Below w.heap.size w ((w.alloc (.cells #[.int .i32 lo,.int .i32 hi] 94)).drewN nq).drew):=kz (yX (oz HBm) nq).drew;clear HB HX HA HV HS HBm c0 c1 q0;generalize (w.alloc _).drewN nq=wm at *;have c0:=(show Blk wm B _ 226 from oz HBd).cell 0;have c1:=(show Blk wm B _ 226 from oz HBd).cell 1;have HS:=kz (Z2 B zs wm.drew (oz HSd));have HLm:Hz (lo0≤wm.drew.heap.size):=kz (Nat.le_trans hl (oz HBmd).size);have hmx2:Tryz.prog.follows .mixedOrders=true:=by kernel_rfl
 go_region_law (first
  | (go_simp;refine (oz HS).mono ?_;rintro e w2 ⟨rfl,hb⟩;have b2:=(oz HBd).below hb (oz HBd).lt;have d0:=b2.cell 0;have d1:=b2.cell 1;have d3:=(b2.alloc (.cells #[.int .i64 (total zs)] 3)).cell 1)
  | (refine step_append_lies _ (by rfl) _ _ _ (by rfl) lo0 3 iI (.int .i64 0) 1 8 Tryz.underlying35 (oz HI).1 (oz HI).2.1 (oz HI).2.2.1 (oz HI).2.2.2 rfl (by omega) (.slice b zs.length cb) zs.length (ahs zs) (by rfl) ((zu (oz HVd) hb).alloc _) ⟨w2.heap.size,0,none⟩ 1 1 [.int .i64 (total zs)] (by rfl) (by simp) (zdf w2 _) (by simp [Value.oneCell']) (by omega) (by have:=oz HZL;unfold maxLen;omega) (by have:=oz HZL;omega) (by have:=hb.size;have:=oz HLm;simp;omega) (w2.heap.size+1) (by simp) ?_;intro g1 cap1 w3 hown1 hgrow1 hat1 hlt1;have hm:=zfc (oz HBd) (oz HXd) (oz HAd) (oz HVd) hb hgrow1;have e0:=hm.1.cell 0;have e1:=hm.1.cell 1;have e2:=hm.1.frozen 1))
 all_goals
  obtain ⟨w4,h4,hb4,hx4,ho4,ha4,hB4,hF4⟩:=zh3 (oz HBd) (oz HXd) (oz HAd) (oz HVd) (oz HBmd) hb hgrow1 hlo hl (oz HNE) hown1;rw [← h4];rw [zjI zs (lo,hi)] at ho4;have HB4:=kz hb4;have HX4:=kz hx4;have HO4:=kz ho4;have HA4:=kz ha4;have HL4:=kz hB4;have HF4:=kz hF4;have p0:=hb4.cell 0;have p1:=(hb4.alloc (.cells #[.int .i32 lo,.int .i32 hi] 94)).cell 0;have x0:=hx4.cell 0;have x1:=hx4.cell 1;clear h4 hb4 hx4 ho4 hB4 hF4 ha4 hown1 hgrow1 hat1 hlt1 hm e0 e1 e2 b2 d0 d1 d3 hb HS HBd HXd HAd HVd HSd HLm HBmd c0 c1;go_wp2
  go_region_law (first
   | (refine step_append_lies _ (by rfl) _ _ _ (by rfl) lo0 94 iP (.agg #[.int .i32 0,.int .i32 0]) 2 8 Tryz.underlying26 (oz HP).1 (oz HP).2.1 (oz HP).2.2.1 (oz HP).2.2.2 rfl (by omega) (.slice (some ⟨g,0,none⟩) zs.length ca) zs.length (qS zs) (by rfl) ((oz HA4).alloc _) ⟨w4.heap.size,0,none⟩ 1 1 (qS [(lo,hi)]) (by rfl) (by simp [qS]) (zcZ w4 (lo,hi)) (Qq _) (by omega) (by have:=oz HZL;unfold maxLen;omega) (by have:=oz HZL;omega) (by have:=(oz HL4).size;simp;omega) (w4.heap.size+1) (by simp) ?_;intro g5 cap5 w5 hown5 hgrow5 hat5 hlt5;have hm5:=(show Blk (w4.alloc (.cells #[.int .i32 lo,.int .i32 hi] 94)).drew B _ 226 from (oz HB4).alloc (.cells #[.int .i32 lo,.int .i32 hi] 94)).kept hgrow5 (Yn (show (w4.alloc (.cells #[.int .i32 lo,.int .i32 hi] 94)).drew.ownsRow lo0 94 2 _ _ _ from (oz HA4).alloc (.cells #[.int .i32 lo,.int .i32 hi] 94)) (show Blk (w4.alloc (.cells #[.int .i32 lo,.int .i32 hi] 94)).drew B _ 226 from (oz HB4).alloc (.cells #[.int .i32 lo,.int .i32 hi] 94)) (by decide));have y0:=hm5.cell 0;have y1:=hm5.frozen 0))
  all_goals
   have HE:=kz (zhw (x:=(lo,hi)) (oz HB4) (oz HO4) (oz HA4) (oz HL4) hl hlo hgrow5 hown5 (Pv:=fun X =>(Value.slice b zs.length cb).ownBlock≠some X) (oz HF4))
   go_end0
   exact ⟨⟨_,rfl⟩,(oz HE).1,(oz HE).2.1,fun X hX hXB hv =>(oz HE).2.2 X hX hXB (hv _ _ (oz HB0)).2 (hv _ _ (oz HB0)).1⟩
def Grows (W:World) (B lo0:Nat) (zs:List (Int × Int)):Prop:=Made W B lo0 zs∧(zs=[]→Blk W B #[.slice none 0 0,.slice none 0 0] 226)
theorem zf5 {W:World} {B lo0:Nat} {x:Int × Int} (h:Laid W B lo0 x) (hl:lo0≤B):Made W B lo0 [x]:=by
 obtain ⟨va,vb,h1,h2,h3⟩:=h;exact ⟨⟨va,vb,h1,h2,h3⟩,hl⟩
theorem zb4 (zs:List (Int × Int)) (x:Int × Int):Jy zs x≠[]:=by
 unfold Jy;split
 ·split <;> simp
 ·simp
theorem zb2 (B lo0:Nat) (zs:List (Int × Int)) (x:Int × Int) (hn:zs.length≤1000000) (hS:Spread zs) (hx:yF x=true) (w:World) (hG:Grows w B lo0 zs) (hl:lo0≤w.heap.size) :
  Calls Tryz.prog 212 #[.pointer (some ⟨B,0,none⟩),zc4 x] w fun e w' =>(∃ r,e=.returned r)∧Grows w' B lo0 (Jy zs x)∧Below lo0 w w'∧za1 w w' B:=by
 rcases List.eq_nil_or_concat zs with rfl | ⟨ys,y,rfl⟩
 ·refine (zf2 B lo0 x w (hG.2 rfl) hG.1.lo hl).mono fun e w' ⟨h1,h2,h3,h4⟩ =>⟨h1,⟨zf5 h2 hG.1.lo,fun h =>absurd h (zb4 _ _)⟩,h3,fun X hX hXB _ =>h4 X hX hXB⟩
 ·rw [List.concat_eq_append] at *;have hn':ys.length≤1000000:=by simp at hn;omega
  by_cases t:zf x.1≤zf y.2+1
  ·exact (zf1 B lo0 ys y x hn' (hS.ends y (by simp)).1 hx t w hG.1 hl).mono fun e w' ⟨h1,h2,h3,h4⟩ =>⟨h1,⟨h2,fun h =>absurd h (zb4 _ _)⟩,h3,h4⟩
  ·exact (zf3 B lo0 ys y x hn' hS hx t w hG.1 hl).mono fun e w' ⟨h1,h2,h3,h4⟩ =>⟨h1,⟨h2,fun h =>absurd h (zb4 _ _)⟩,h3,h4⟩
theorem Grows.below {W W':World} {B lo0:Nat} {zs:List (Int × Int)} (h:Grows W B lo0 zs) (hb:Below W.heap.size W W'):Grows W' B lo0 zs:=⟨h.1.below hb,fun e =>(h.2 e).below hb (h.2 e).lt⟩
theorem Jh (W:World) (o:Obj) (ho:o=.cells #[.slice none 0 0,.slice none 0 0] 226):Grows (W.alloc o) W.heap.size W.heap.size []:=by
 subst ho;have b:=Blk.new W #[.slice none 0 0,.slice none 0 0] 226;exact ⟨⟨⟨_,_,b,World.ownsRow_nil _ _ _ _,World.ownsRow_nil _ _ _ _⟩,zD⟩,fun _ =>b⟩
theorem Yt {d:List (Int × Int)} {k:Nat} {x:Int × Int} (h:d[k]?=some x):d.take (k+1)=d.take k++[x]:=by
 rw [List.take_add_one,h];rfl
end
section
open Go.Shelf
def zfA:Go.Shelf.Ren:=⟨fun | 6 =>210 | 15 =>76 | 14 =>227 | 28 =>118 | 29 =>119 | 20 =>233 | 21 =>234 | 22 =>235 | 23 =>236 | 24 =>237 | 25 =>238 | 26 =>239 | 27 =>240 | 46 =>243 | 47 =>191 | 48 =>192 | 49 =>244 | 50 =>245 | 57 =>246 | n =>n,fun | 22 =>26 | 24 =>94 | 25 =>247 | 3 =>3 | 39 =>138 | 0 =>0 | 53 =>180 | 55 =>182 | 4 =>4 | 46 =>174 | 45 =>173 | 50 =>170 | 5 =>5 | 9 =>9 | 66 =>229 | 70 =>233 | 76 =>258 | 77 =>259 | n =>n,fun | n =>n⟩
theorem zjS:Go.Proofs.SlLaysF0.n6 Tryz.prog zfA:={
 mixed:=by kernel_rfl
 f6:=⟨Tryz.f210.name,by decide,Tryz.func210.trans (congrArg some (by kernel_rfl))⟩
 f14:=⟨Tryz.f227.name,by decide,Tryz.func227.trans (congrArg some (by kernel_rfl))⟩
 f15:=Tryz.func76.trans (congrArg some (by kernel_rfl))
 f20:=⟨Tryz.f233.name,by decide,Tryz.func233.trans (congrArg some (by kernel_rfl))⟩
 f21:=⟨Tryz.f234.name,by decide,Tryz.func234.trans (congrArg some (by kernel_rfl))⟩
 f22:=⟨Tryz.f235.name,by decide,Tryz.func235.trans (congrArg some (by kernel_rfl))⟩
 f23:=⟨Tryz.f236.name,by decide,Tryz.func236.trans (congrArg some (by kernel_rfl))⟩
 f24:=⟨Tryz.f237.name,by decide,Tryz.func237.trans (congrArg some (by kernel_rfl))⟩
 f25:=⟨Tryz.f238.name,by decide,Tryz.func238.trans (congrArg some (by kernel_rfl))⟩
 f26:=⟨Tryz.f239.name,by decide,Tryz.func239.trans (congrArg some (by kernel_rfl))⟩
 f27:=⟨Tryz.f240.name,by decide,Tryz.func240.trans (congrArg some (by kernel_rfl))⟩
 f28:=Tryz.func118.trans (congrArg some (by kernel_rfl))
 f29:=Tryz.func119.trans (congrArg some (by kernel_rfl))
 f46:=⟨Tryz.f243.name,by decide,Tryz.func243.trans (congrArg some (by kernel_rfl))⟩
 f47:=Tryz.func191.trans (congrArg some (by kernel_rfl))
 f48:=Tryz.func192.trans (congrArg some (by kernel_rfl))
 f49:=⟨Tryz.f244.name,by decide,Tryz.func244.trans (congrArg some (by kernel_rfl))⟩
 f50:=⟨Tryz.f245.name,by decide,Tryz.func245.trans (congrArg some (by kernel_rfl))⟩
 f57:=⟨Tryz.f246.name,by decide,Tryz.func246.trans (congrArg some (by kernel_rfl))⟩
 t0:=Tryz.underlying0
 a0:=Tryz.isAgg0
 z0:=Tryz.sizeOf0
 v0:=Tryz.zeroValue0
 t3:=Tryz.underlying3
 a3:=Tryz.isAgg3
 z3:=Tryz.sizeOf3
 v3:=Tryz.zeroValue3
 t4:=Tryz.underlying4
 a4:=Tryz.isAgg4
 z4:=Tryz.sizeOf4
 v4:=Tryz.zeroValue4
 t5:=Tryz.underlying5
 a5:=Tryz.isAgg5
 z5:=Tryz.sizeOf5
 v5:=Tryz.zeroValue5
 t9:=Tryz.underlying9
 a9:=Tryz.isAgg9
 z9:=Tryz.sizeOf9
 v9:=Tryz.zeroValue9
 t22:=Tryz.underlying26
 a22:=Tryz.isAgg26
 z22:=Tryz.sizeOf26
 v22:=Tryz.zeroValue26
 t25:=Tryz.underlying247
 a25:=Tryz.isAgg247
 z25:=Tryz.sizeOf247
 v25:=Tryz.zeroValue247
 t39:=Tryz.underlying138
 a39:=Tryz.isAgg138
 z39:=Tryz.sizeOf138
 v39:=Tryz.zeroValue138
 t45:=Tryz.underlying173
 a45:=Tryz.isAgg173
 z45:=Tryz.sizeOf173
 v45:=Tryz.zeroValue173
 t46:=Tryz.underlying174
 a46:=Tryz.isAgg174
 z46:=Tryz.sizeOf174
 v46:=Tryz.zeroValue174
 t50:=Tryz.underlying170
 a50:=Tryz.isAgg170
 z50:=Tryz.sizeOf170
 v50:=Tryz.zeroValue170
 t53:=Tryz.underlying180
 a53:=Tryz.isAgg180
 z53:=Tryz.sizeOf180
 v53:=Tryz.zeroValue180
 t55:=Tryz.underlying182
 a55:=Tryz.isAgg182
 z55:=Tryz.sizeOf182
 v55:=Tryz.zeroValue182
 t66:=Tryz.underlying229
 a66:=Tryz.isAgg229
 z66:=Tryz.sizeOf229
 v66:=Tryz.zeroValue229
 t70:=Tryz.underlying233
 a70:=Tryz.isAgg233
 z70:=Tryz.sizeOf233
 v70:=Tryz.zeroValue233
 t76:=Tryz.underlying258
 a76:=Tryz.isAgg258
 z76:=Tryz.sizeOf258
 v76:=Tryz.zeroValue258
 t77:=Tryz.underlying259
 a77:=Tryz.isAgg259
 z77:=Tryz.sizeOf259
 v77:=Tryz.zeroValue259 }
end
section
open Go.RowKit Go.Shelf
open Go.Sort (HoldsK putRowK flatK size_flatK get_flatK)
def zb6 (x:Int × Int):List Value := [.int .i32 x.1,.int .i32 x.2]
theorem zhH (x y:Int × Int) (W:World):Calls Tryz.prog 211 #[zc4 x,zc4 y] W fun e w' =>e=.returned (.int .i64 (Xa x.1 y.1))∧∃ q os',w'=Go.Sort.grow (W.drewN q) os':=by
 have HC:=kz (fun w =>ZZ x.1 y.1 w);obtain ⟨lo,hi⟩:=x;obtain ⟨mo,mi⟩:=y;simp only at HC;go_enter Tryz.func211,Tryz.ntmps211;go_wp2_with fail
 refine (oz HC _).mono ?_;rintro e w2 ⟨rfl,rfl⟩;go_wp2;go_ret;exact ⟨rfl,0,_,by rw [Go.Sort.alloc_eq_grow,Go.Sort.alloc_eq_grow,Go.Sort.grow_grow];rfl⟩
theorem ltQ (x y:Int × Int):ltOf (fun x y:Int × Int =>Xa x.1 y.1) x y=decide (x.1 < y.1):=by
 unfold ltOf Xa;by_cases h1:x.1 < y.1
 ·simp [h1]
 ·by_cases h2:y.1 < x.1 <;> simp [h1,h2]
theorem zk2:Go.Sort.SWO (ltOf fun x y:Int × Int =>Xa x.1 y.1) where
 irrefl x:=by rw [ltQ];simp
 trans x y z h1 h2:=by rw [ltQ] at *;simp at *;omega
 ntrans x y z h1 h2:=by rw [ltQ] at *;simp at *;omega
theorem zh6 (blk off size:Nat) (w:World):CmpLays Tryz.prog 211 #[] zb6 2 (fun x y =>Xa x.1 y.1) blk off size w:=fun _ _ _ _ x y =>zhH x y _
theorem zko {W:World} {base g cap:Nat} {l:List (Int × Int)} (h:W.ownsRow base 94 2 (.slice (some ⟨g,0,none⟩) l.length cap) l.length (qS l)):HoldsK zb6 2 W g 0 l.toArray:=by
 intro j hj;rw [size_flatK] at hj;simp only [List.size_toArray] at hj;rw [get_flatK _ _ _ _ (by simpa using hj),Nat.zero_add];obtain ⟨x,hx⟩:∃ x,l[j / 2]?=some x:=⟨_,qR (by omega)⟩;have hx':l.toArray[j / 2]! = x:=by simp [getElem!_def,hx]
 have e:=QB l _ x hx;refine ⟨?_,h.frozenAt j⟩;rw [h.cellAt j hj,hx'];rcases Nat.mod_two_eq_zero_or_one j with m | m
 ·have:j / 2*2=j:=by omega
  rw [this] at e;rw [e.1,m];rfl
 ·have:j / 2*2+1=j:=by omega
  rw [this] at e;rw [e.2,m];rfl
theorem zk3 {W:World} {g:Nat} {d:Array (Int × Int)} (h:HoldsK zb6 2 W g 0 d) (hg:g < W.heap.size):RowP W (some ⟨g,0,none⟩) d.toList:=fun h0 =>by
 refine ⟨g,0,rfl,hg,fun j x hj =>?_⟩;have hl:=(Ze.1 hj).1;simp only [Array.length_toList] at hl;have hx:d[j]! = x:=by
  have:d[j]?=some x:=by simpa using hj
  simp [getElem!_def,this]
 have a:=(h.cell (i:=j) (c:=0) hl (by omega)).1;have b:=(h.cell (i:=j) (c:=1) hl (by omega)).1;rw [hx] at a b;exact ⟨a,b⟩
theorem QG {base blk off n:Nat} {W:World} {d:Array (Int × Int)} {os:Array Obj} (hb:base≤blk) (hlt:blk < W.heap.size):Below base W (Go.Proofs.sortWorldK zb6 2 W blk off n d os):=by
 refine ⟨rfl,rfl,rfl,size_sortWorldK_c zb6 2 W blk off n d os,fun k hk =>?_⟩;have hkl:k < (putRowK zb6 2 (Go.Sort.ahead W n) blk off d).heap.size:=by
  rw [show (putRowK zb6 2 (Go.Sort.ahead W n) blk off d).heap.size=W.heap.size from Go.Sort.size_putRow _ _ _ _ _];omega
 show (_++os)[k]?=_;rw [Array.getElem?_append_left hkl];show (Array.modify W.heap blk _)[k]?=_;rw [Array.getElem?_modify,if_neg (by omega)]
theorem zhu (v:Value) (l:List (Int × Int)) (base:Nat) (hl:l.length≤1000000) (w:World) (h:w.ownsRow base 94 2 v l.length (qS l)) :
  Calls Tryz.prog 210 #[v,.func (.func 211) #[] #[]] w fun e w' =>e=.returned (.tuple #[])∧∃ (d:List (Int × Int)) (a:Option Addr) (c:Nat),v=.slice a d.length c∧d.Perm l∧RisingL d∧RowP w' a d∧Below base w w':=by
 by_cases h0:l.length=0
 ·have:l=[]:=List.eq_nil_of_length_eq_zero h0;subst this;obtain ⟨a,c,rfl,_,_,_⟩:=KO h;refine (AnyF.slices_SortFunc_none zjS a c _ w).mono fun e w' ⟨he,hw⟩ =>?_
  subst hw;exact ⟨he,[],a,c,rfl,List.Perm.refl _,fun i j x y _ h =>by simp at h,fun h =>by simp at h,zl⟩
 ·obtain ⟨g,cap,rfl,hg0,hg⟩:=h.form (by omega);have hH:=zko h;have eg:∀ args w,(callFunc 211 args).run Tryz.prog w=.ok (.enter 211 args) w:=enters_of Tryz.func211 (by kernel_rfl) rfl;have hcon:=AnyQ.slices_SortFunc zjS 2 Tryz.isAgg94 Tryz.sizeOf94 zb6 (fun _ =>rfl) (fun x v hv =>by simp [zb6] at hv;rcases hv with rfl | rfl <;> rfl) (fun x y =>Xa x.1 y.1) zk2 211 #[] g 0 cap l.toArray w eg (zh6 g 0 l.toArray.size w) hH hg (by simp;omega);refine hcon.mono fun e w' ⟨he,d',n,os,hp,hs,hw⟩ =>?_
  subst hw;have hsz:d'.size=l.length:=by simpa using hp.1
  have hH':=holdsK_sortWorldK_c zb6 2 w g 0 l.toArray d' n os hH hg (by simpa using hp.1);refine ⟨he,d'.toList,some ⟨g,0,none⟩,cap,by simp [hsz], ?_, ?_, ?_,QG hg0 hg⟩
  ·have:=hp.2.2;have h':(List.take l.length d'.toList).Perm l:=by simpa [hsz, ← hp.1] using this
   rwa [List.take_of_length_le (by simp [hsz])] at h'
  ·intro i j x y hij hx hy;have hi:=(Ze.1 hx).1;have hj:=(Ze.1 hy).1;simp only [Array.length_toList] at hi hj;have e1:d'[i]! = x:=by
    have:d'[i]?=some x:=by simpa using hx
    simp [getElem!_def,this]
   have e2:d'[j]! = y:=by
    have:d'[j]?=some y:=by simpa using hy
    simp [getElem!_def,this]
   have:=hs i j (Zn _) hij (by simp;omega);rw [ltQ,e1,e2] at this;have:=of_decide_eq_false this;omega
  ·exact zk3 hH' (by have:=size_sortWorldK_c zb6 2 w g 0 n d' os;omega)
end
section
open Go.RowKit Go.Shelf
set_option maxRecDepth 100000
set_option maxHeartbeats 8000000
theorem zcA {l d:List (Int × Int)} (hp:d.Perm l) (hR:yO l) (hr:RisingL d) (k:Nat):Spread (jX (d.take k))∧(jX (d.take k)).length≤d.length∧yO d:=by
 have h1:yO d:=fun x hx =>hR x (hp.mem_iff.1 hx)
 have h2:RisingL (d.take k):=fun i j x y hij hx hy =>by
  have a:=(Ze.1 hx).1;have b:=(Ze.1 hy).1;rw [List.length_take] at a b;rw [List.getElem?_take,if_pos (by omega)] at hx hy;exact hr i j x y hij hx hy
 have h:=KU _ (d.take k) rfl (fun x hx =>h1 x (List.mem_of_mem_take hx)) h2;have:=h.2.2.1;rw [List.length_take] at this;exact ⟨h.1,by omega,h1⟩
theorem zeb {l d:List (Int × Int)} (hp:d.Perm l) (hR:yO l) (hr:RisingL d):Spread (jX d)∧(jX d).length≤l.length∧∀ r,zi (jX d) r=zi l r:=by
 have h:=KU _ d rfl (fun x hx =>hR x (hp.mem_iff.1 hx)) hr;exact ⟨h.1,by rw [← hp.length_eq];exact h.2.2.1,fun r =>(h.2.1 r).trans (zfZ hp r)⟩
theorem zam (a:Option Addr) (cap:Nat) (l:List (Int × Int)) (hl:l.length≤1000000) (hR:yO l) (w:World) (hr:RowP w a l) :
  Calls Tryz.prog 151 #[.slice a l.length cap] w fun e w' => ∃ (B lo0:Nat) (zs:List (Int × Int)),e=.returned (.tuple #[.pointer (some ⟨B,0,none⟩),.int .i64 0])∧w.heap.size≤lo0∧Made w' B lo0 zs∧Spread zs∧zs.length≤l.length∧(∀ r,zi zs r=zi l r)∧Below w.heap.size w w':=by
 have HN:=kz (QC a cap l (by omega) w hr);have e1:(l.any fun x => !yF x)=false:=by
  rw [List.any_eq_false];intro x hx;simp [(hR x hx).1]
 have e2:(l.any fun x =>decide (x.2 < x.1))=false:=by
  rw [List.any_eq_false];intro x hx;have:=(hR x hx).2;simp;omega
 rw [e1] at HN;have HF:=kz (fun w hr =>QD a cap l (by omega) w hr);rw [e2] at HF;have HR:=kz hr;have HRR:=kz hR;clear hr hR e1 e2;go_enter Tryz.func151,Tryz.ntmps151;go_wp2_with fail
 refine (oz HN).mono ?_;rintro e w1 ⟨rfl,hb1⟩;have HB1:=kz hb1;clear hb1;go_wp2_with fail
 refine (oz HF w1 ((oz HR).below (oz HB1))).mono ?_;rintro e w2 ⟨rfl,hb2⟩;have HB2:=kz ((oz HB1).trans (hb2.mono (oz HB1).size));clear hb2;go_wp2_with fail
 refine (zen a cap l (by omega) w2 ((oz HR).below (oz HB2))).mono ?_;rintro e w3 ⟨v,rfl,hown,hb3⟩;have HO:=kz hown;have HB3:=kz ((oz HB2).trans (hb3.mono (oz HB2).size));have HS2:=kz (oz HB2).size;clear hown hb3;go_wp2_with fail
 refine (zhu v l _ (by omega) w3 (oz HO)).mono ?_;rintro e w4 ⟨rfl,d,p,c,rfl,hperm,hris,hrow,hb4⟩;have HB4:=kz ((oz HB3).trans (hb4.mono (oz HS2)));have HPm:=kz hperm;have HRs:=kz hris;have HRw:=kz hrow;have hdl:d.length=l.length:=hperm.length_eq;clear hperm hris hrow hb4 HO;go_wp2;have hz:(l.length:Int)≤1000000:=by omega
 go_loopw [20] (fun i wr => ∃ k:Nat,i=.int .i64 k∧k≤l.length∧Hz (Grows wr w4.heap.size w4.heap.size (jX (d.take k)))∧Hz (Below w4.heap.size w4 wr)) (fun i _ =>l.length - (intOf i).toNat)
 case atStart =>exact ⟨0,rfl,by omega,kz (Jh w4 _ rfl),kz ((Below.refl _ w4).alloc zD _)⟩
 case round =>
  obtain ⟨k,rfl,hk,HG,HB⟩:=hrel;by_cases hkn:k < l.length
  ·have hk1:(k:Int) < (l.length:Int):=by omega
   have hk2:=Zp k
   obtain ⟨x,hx⟩:∃ x,d[k]?=some x:=⟨_,qR (by omega)⟩;have HT:=kz (Yt hx);obtain ⟨g,o,rfl,hg,hc⟩:=oz HRw (by omega);have c0:=((oz HB).cell (p:=⟨g,o+k*2,none⟩) hg).trans (hc k x hx).1;have c1:=((oz HB).cell (p:=⟨g,o+k*2+1,none⟩) hg).trans (hc k x hx).2;have HL:=kz (zcA (oz HPm) (oz HRR) (oz HRs) k);have HX:=kz ((oz HL).2.2 x (YH hx));obtain ⟨lo,hi⟩:=x;simp only at c0 c1;have b1:=Blk.new wr #[.int .i32 lo,.int .i32 hi] 94;have q0:=b1.cell 0;have q1:=b1.cell 1;have HB1:=kz ((oz HB).alloc (oz HB).size (.cells #[.int .i32 lo,.int .i32 hi] 94));have HG1:=kz ((oz HG).below ((Below.refl _ wr).alloc zD (.cells #[.int .i32 lo,.int .i32 hi] 94)));clear b1 hc hx;go_wp2_with fail
   refine (zb2 w4.heap.size w4.heap.size (jX (d.take k)) (lo,hi) (by have:=(oz HL).2.1;omega) (oz HL).1 (oz HX).1 _ (oz HG1) (oz HB1).size).mono ?_;rintro e w6 ⟨⟨r,rfl⟩,hG,hb,_⟩;rw [← Q4, ← oz HT] at hG;have HG2:=kz hG;have HB2:=kz ((oz HB1).trans hb);clear hG hb;go_wp2
   go_roundw
   case rel =>exact ⟨k+1,by congr 1,by omega,HG2,HB2⟩
   case measure =>simp [intOf];omega
  ·have hk1:¬ (k:Int) < (l.length:Int):=by omega
   obtain rfl:k=l.length:=by omega
   rw [List.take_of_length_le (by omega)] at HG;have HE:=kz (zeb (oz HPm) (oz HRR) (oz HRs));go_wp2
   go_ret2
   exact ⟨w4.heap.size,rfl,w4.heap.size,(oz HB4).size,jX d,(oz HG).1,(oz HE).1,(oz HE).2.1,(oz HE).2.2,(oz HB4).trans ((oz HB).mono (oz HB4).size)⟩
set_option maxRecDepth 100000
set_option maxHeartbeats 8000000
theorem K8 (s:ByteArray) (w:World) (hs:s.size≤1048576):Calls Tryz.prog 150 #[.string s] w fun e w' =>e=.returned (.string s)∧Below w.heap.size w w':=by
 have hc:=Any.stringslite_Clone layM316 s w (by omega);go_enter Tryz.func150,Tryz.ntmps150;go_wp2_with fail
 refine (show Calls Tryz.prog 205 #[.string s] w _ from hc).mono ?_;rintro e w' ⟨rfl,hb⟩;go_wp2_with fail
 go_ret;exact ⟨rfl,hb⟩
theorem Z6 {w:World} {ops:Array Oper} {rest:List Oper} {o:Oper} {a:Act} {Q:Exit→Act→World→Prop} (hgd:o.guard=none) (s x:Operand) (T:TypeId)
  (ho:o.op=.call { callee := .builtin .append,args:=#[s,x],argTypes:=#[T,T] }) (base:Nat) (E:TypeId) (i:TypeInfo) (z:Value) (sz bytes:Nat) (hT:Tryz.prog.underlying T=some (.slice E)) (hi:Tryz.prog.info? E=some i∧i.zero=some z∧i.size=sz∧i.bytes=bytes) (hzs:z.cells.size=sz) (hs0:0 < sz) (hb8:bytes≤64)
  (hs:a.eval s=.slice none 0 0) (b:Option Addr) (c n:Nat) (xs:List Value) (hl:xs.length=n*sz) (hr:RowC w w.heap.size b xs) (h1:∀ u ∈ xs,u.oneCell'=true) (hx:a.eval x=.slice b n c) (hz:n≤1000000) (hbase:base≤w.heap.size)
  (h:∀ v' w',w'.ownsRow base E sz v' n xs→w.grownBy w' none→wpList Tryz.prog ops Q rest (a.put o.dst v') w'):wpList Tryz.prog ops Q (o::rest) a w:=by
 by_cases h0:n=0
 ·subst h0;refine wpList_plain hgd fun K hK =>?_
  have hw:Region.wanted o (yielded ops a.tmps)=true:=by simp [Region.wanted,hgd]
  obtain rfl:xs=[]:=List.length_eq_zero_iff.1 (by rw [hl];omega);have:=Y6 (w:=w) (P:=Tryz.prog) (ops:=ops) (Q:=Q) (K:=K) (E:=True) hgd s x T ho E i hT hi.1 hs b 0 c rfl hx (hK _ _ (h (.slice none 0 0) w (World.ownsRow_nil _ _ _ _) ⟨rfl,rfl,rfl,zD,fun _ _ _ =>rfl⟩));rw [if_pos hw] at this;exact this
 ·obtain ⟨g,off,rfl,hg,hc⟩:=hr (by rw [hl];exact Nat.mul_pos (by omega) hs0);refine wpList_append_own w hgd s x T ho base E i z sz bytes hT hi.1 hi.2.1 hi.2.2.1 hi.2.2.2 hzs hs0 (.slice none 0 0) 0 [] hs (World.ownsRow_nil _ _ _ _) ⟨g,off,none⟩ n c xs hx hl (fun j u hj =>by rw [Xb];exact hc j u hj) h1 (by unfold maxLen;omega) (by have:=Nat.mul_le_mul hz hb8;rw [Nat.zero_add];omega) hbase ?_;intro v' w' ho' hg' _;rw [Nat.zero_add,List.nil_append] at ho';exact h v' w' ho' hg'
theorem ZJ (zs:List (Int × Int)) (hn:zs.length≤1000000) (a:Option Addr) (c:Nat) (W:World) (hr:RowC W W.heap.size a (zM zs)) :
  Calls Tryz.prog 146 #[.slice a zs.length c] W fun e w' => ∃ v,e=.returned v∧w'.ownsRow W.heap.size 94 2 v zs.length (zM zs)∧Below W.heap.size W w':=by
 obtain ⟨i,hi⟩:∃ i,Tryz.prog.info? 94=some i∧i.zero=some (.agg #[.int .i32 0,.int .i32 0])∧i.size=2∧i.bytes=8:=⟨_,rfl,by kernel_rfl,by kernel_rfl,by kernel_rfl⟩;have HI:=kz hi;have HR:=kz hr;clear hi hr;go_enter Tryz.func146,Tryz.ntmps146;go_wp2_with (at_builtin;refine Z6 (by rfl) _ _ 26 (by rfl) W.heap.size 94 i _ 2 8 Tryz.underlying26 (oz HI) rfl (by decide) (by decide) (by rfl) a c zs.length (zM zs) (Zv zs) (oz HR) (zgl zs) (by rfl) hn zD ?_;intro v' w' hown hg)
 go_ret;exact ⟨_,rfl,hown,⟨hg.os,hg.tape,hg.output,hg.size,fun k hk =>hg.block k hk (by simp)⟩⟩
theorem zeh (zs:List (Int × Int)) (hn:zs.length≤1000000) (a:Option Addr) (c:Nat) (W:World) (hr:RowC W W.heap.size a (XP zs)) :
  Calls Tryz.prog 147 #[.slice a zs.length c] W fun e w' => ∃ v,e=.returned v∧w'.ownsRow W.heap.size 98 2 v zs.length (XP zs)∧Below W.heap.size W w':=by
 obtain ⟨i,hi⟩:∃ i,Tryz.prog.info? 98=some i∧i.zero=some (.agg #[.int .i32 0,.int .i64 0])∧i.size=2∧i.bytes=16:=⟨_,rfl,by kernel_rfl,by kernel_rfl,by kernel_rfl⟩;have HI:=kz hi;have HR:=kz hr;clear hi hr;go_enter Tryz.func147,Tryz.ntmps147;go_wp2_with (at_builtin;refine Z6 (by rfl) _ _ 27 (by rfl) W.heap.size 98 i _ 2 16 Tryz.underlying27 (oz HI) rfl (by decide) (by decide) (by rfl) a c zs.length (XP zs) (J3 zs) (oz HR) (zgo zs) (by rfl) hn zD ?_;intro v' w' hown hg)
 go_ret;exact ⟨_,rfl,hown,⟨hg.os,hg.tape,hg.output,hg.size,fun k hk =>hg.block k hk (by simp)⟩⟩
theorem zeg (zs:List (Int × Int × Int)) (hn:zs.length≤1000000) (a:Option Addr) (c:Nat) (W:World) (hr:RowC W W.heap.size a (Xh zs)) :
  Calls Tryz.prog 148 #[.slice a zs.length c] W fun e w' => ∃ v,e=.returned v∧w'.ownsRow W.heap.size 100 3 v zs.length (Xh zs)∧Below W.heap.size W w':=by
 obtain ⟨i,hi⟩:∃ i,Tryz.prog.info? 100=some i∧i.zero=some (.agg #[.int .i32 0,.int .i32 0,.int .i32 0])∧i.size=3∧i.bytes=12:=⟨_,rfl,by kernel_rfl,by kernel_rfl,by kernel_rfl⟩;have HI:=kz hi;have HR:=kz hr;clear hi hr;go_enter Tryz.func148,Tryz.ntmps148;go_wp2_with (at_builtin;refine Z6 (by rfl) _ _ 28 (by rfl) W.heap.size 100 i _ 3 12 Tryz.underlying28 (oz HI) rfl (by decide) (by decide) (by rfl) a c zs.length (Xh zs) (Zw zs) (oz HR) (zgn zs) (by rfl) hn zD ?_;intro v' w' hown hg)
 go_ret;exact ⟨_,rfl,hown,⟨hg.os,hg.tape,hg.output,hg.size,fun k hk =>hg.block k hk (by simp)⟩⟩
theorem zge (zs:List (Int × ByteArray)) (hn:zs.length≤1000000) (a:Option Addr) (c:Nat) (W:World) (hr:RowC W W.heap.size a (yW zs)) :
  Calls Tryz.prog 204 #[.slice a zs.length c] W fun e w' => ∃ v,e=.returned v∧w'.ownsRow W.heap.size 102 2 v zs.length (yW zs)∧Below W.heap.size W w':=by
 obtain ⟨i,hi⟩:∃ i,Tryz.prog.info? 102=some i∧i.zero=some (.agg #[.int .i32 0,.string ByteArray.empty])∧i.size=2∧i.bytes=24:=⟨_,rfl,by kernel_rfl,by kernel_rfl,by kernel_rfl⟩;have HI:=kz hi;have HR:=kz hr;clear hi hr;go_enter Tryz.func204,Tryz.ntmps204;go_wp2_with (at_builtin;refine Z6 (by rfl) _ _ 29 (by rfl) W.heap.size 102 i _ 2 24 Tryz.underlying29 (oz HI) rfl (by decide) (by decide) (by rfl) a c zs.length (yW zs) (Zx zs) (oz HR) (zgp zs) (by rfl) hn zD ?_;intro v' w' hown hg)
 go_ret;exact ⟨_,rfl,hown,⟨hg.os,hg.tape,hg.output,hg.size,fun k hk =>hg.block k hk (by simp)⟩⟩
set_option maxRecDepth 100000
set_option maxHeartbeats 8000000
theorem zbD (zs:List (ByteArray × List (Int × Int))) (us:List Value) (hus:us.length=zs.length) (hsl:∀ (j:Nat) (u:Value),us[j]?=some u→∃ p n d,u=Value.slice p n d) (hn:zs.length≤1000000) (a:Option Addr) (c:Nat) (W:World) (hr:RowC W W.heap.size a (jE zs us)) :
  Calls Tryz.prog 145 #[.slice a zs.length c] W fun e w' => ∃ v,e=.returned v∧w'.ownsRow W.heap.size 96 2 v zs.length (jE zs us)∧Below W.heap.size W w':=by
 obtain ⟨i,hi⟩:∃ i,Tryz.prog.info? 96=some i∧i.zero=some (.agg #[.string ByteArray.empty,.slice none 0 0])∧i.size=2∧i.bytes=40:=⟨_,rfl,by kernel_rfl,by kernel_rfl,by kernel_rfl⟩;have HI:=kz hi;have HR:=kz hr;have H1:=kz (zgk zs us (fun u hu =>by
  obtain ⟨j,hj⟩:=List.mem_iff_getElem?.1 hu;obtain ⟨p,n,d,rfl⟩:=hsl j u hj;rfl))
 clear hi hr;go_enter Tryz.func145,Tryz.ntmps145;go_wp2_with (at_builtin;refine Z6 (by rfl) _ _ 25 (by rfl) W.heap.size 96 i _ 2 40 Tryz.underlying25 (oz HI) rfl (by decide) (by decide) (by rfl) a c zs.length (jE zs us) (Zu zs us hus) (oz HR) (oz H1) (by rfl) hn zD ?_;intro v' w' hown hg)
 go_ret;exact ⟨_,rfl,hown,⟨hg.os,hg.tape,hg.output,hg.size,fun k hk =>hg.block k hk (by simp)⟩⟩
theorem zdc {w:World} {lo E sz n:Nat} {v:Value} {xs:List Value} (h:w.ownsRow lo E sz v n xs) (hn:0 < n):∃ g cap,v=.slice (some ⟨g,0,none⟩) n cap∧lo≤g∧g < w.heap.size:=by
 rcases h.2 with ⟨rfl,h0⟩ | ⟨g,cap,cur,rfl,h1,h2,_⟩
 ·omega
 ·exact ⟨g,cap,rfl,h1,(zeI.1 h2).1⟩
theorem QM {w:World} {lo E sz n C g:Nat} {xs:List Value} (h:w.ownsRow lo E sz (.slice (some ⟨g,0,none⟩) n C) n xs) (j:Nat):w.frozen? ⟨g,j,none⟩=false:=by
 rcases h.2 with ⟨e,_⟩ | ⟨g',cap',cur,e,hb,hg,hc,hm,hcs,hx⟩
 ·cases e
 ·injection e with e1 e2 e3;injection e1 with e1;injection e1 with e1;subst e1;exact (show Blk w g cur E from hg).frozen _
theorem zfR {w:World} {lo E sz n C g:Nat} {xs:List Value} (h:w.ownsRow lo E sz (.slice (some ⟨g,0,none⟩) n C) n xs) (j:Nat) (u:Value) (hj:xs[j]?=some u):w.cell? ⟨g,j,none⟩=some u:=by
 rcases h.2 with ⟨e,_⟩ | ⟨g',cap',cur,e,hb,hg,hc,hm,hcs,hx⟩
 ·cases e
 ·injection e with e1 e2 e3;injection e1 with e1;injection e1 with e1;subst e1;have b:Blk w g cur E:=hg;rw [b.cell j];rw [← hx] at hj;have hlt:j < n*sz:=by
   have h5:=(Ze.1 hj).1;rw [List.length_take] at h5;omega
  rw [List.getElem?_take_of_lt hlt,Array.getElem?_toList] at hj;exact hj
theorem Je {w:World} {lo E sz n g cap:Nat} {xs:List Value} (h:w.ownsRow lo E sz (.slice (some ⟨g,0,none⟩) n cap) n xs):∀ (j:Nat) (u:Value),xs[j]?=some u→w.cell? ⟨g,j,none⟩=some u:=fun j u hu =>zfR h j u hu
theorem zhD {w:World} {lo E sz n g cap j:Nat} {u:Value} {xs:List Value} (h:w.ownsRow lo E sz (.slice (some ⟨g,0,none⟩) n cap) n xs) (hu:xs[j]?=some u):(w.setCell ⟨g,j,none⟩ u).ownsRow lo E sz (.slice (some ⟨g,0,none⟩) n cap) n xs:=by
 have hj:=(Ze.1 hu).1;have hs:xs.set j u=xs:=by
  apply List.ext_getElem?;intro i;rw [List.getElem?_set];by_cases e:j=i
  ·subst e;rw [if_pos rfl,if_pos hj,hu]
  ·rw [if_neg e]
 have:=ze7 h j (by rw [← h.1];exact hj) u
 rwa [hs] at this
theorem Q0 (zs:List (Int × ByteArray)) (hn:zs.length≤1000000) (hz:∀ x ∈ zs,x.2.size≤1048576) (a:Option Addr) (c:Nat) (W:World) (hr:RowC W W.heap.size a (yW zs)) :
  Calls Tryz.prog 149 #[.slice a zs.length c] W fun e w' => ∃ v,e=.returned v∧w'.ownsRow W.heap.size 102 2 v zs.length (yW zs)∧Below W.heap.size W w':=by
 have HC:=kz (zge zs hn a c W hr);clear hr;go_enter Tryz.func149,Tryz.ntmps149;go_wp2_with fail
 refine (oz HC).mono ?_;rintro e w1 ⟨v,rfl,hown,hb⟩;have H1:=kz (yB hown hb);clear hown hb HC;rcases Nat.eq_zero_or_pos zs.length with h0 | hp
 ·have hv:v=.slice none 0 0∨∃ g cap,v=.slice (some ⟨g,0,none⟩) zs.length cap:=by
   rcases (oz H1).1.2 with ⟨rfl,_⟩ | ⟨g,cap,cur,rfl,_⟩
   ·exact .inl rfl
   ·exact .inr ⟨g,cap,rfl⟩
  obtain ⟨p,cap,rfl⟩:∃ p cap,v=.slice p 0 cap:=by
   rcases hv with rfl | ⟨g,cap,rfl⟩
   ·exact ⟨none,0,rfl⟩
   ·exact ⟨_,cap,by rw [h0]⟩
  clear hv;go_wp2_with fail
  refine wp_loop_rounds 1 ?_;rw [rounds_succ];go_wp2_with fail
  go_ret;exact ⟨_,rfl,(oz H1).1,(oz H1).2⟩
 ·obtain ⟨g,cap,rfl,hlo,hg⟩:=zdc (oz H1).1 hp;go_wp2_with fail
  go_loopw [3,4,9] (fun _ _ s9 wr => ∃ k:Nat,k≤zs.length∧s9=.int .i64 k∧Hz (wr.ownsRow W.heap.size 102 2 (.slice (some ⟨g,0,none⟩) zs.length cap) zs.length (yW zs)∧Below W.heap.size W wr)) (fun _ _ s9 _ =>zs.length - (intOf s9).toNat)
  case atStart =>exact ⟨0,Zn _,rfl,H1⟩
  case round =>
   obtain ⟨k,hk,rfl,HS⟩:=hrel;clear H1;by_cases hkn:k < zs.length
   ·obtain ⟨x,hx⟩:∃ x,zs[k]?=some x:=⟨_,qR hkn⟩;have hc:=Je (oz HS).1;have e0:=(YI zs k x hx).1;have e1:=(YI zs k x hx).2;have c0:wr.cell? ⟨g,k*2,none⟩=some (.int .i32 x.1):=hc _ _ e0;have c1:wr.cell? ⟨g,k*2+1,none⟩=some (.string x.2):=hc _ _ e1;have hk1:(k:Int) < (zs.length:Int):=by omega
    have hk2:=Zp k
    have hB:Below wr.heap.size wr (wr.alloc (.cells #[.int .i32 x.1,.string x.2] 102)):=(Below.refl _ wr).alloc zD _;have HCL:=kz (K8 x.2 (wr.alloc (.cells #[.int .i32 x.1,.string x.2] 102)) (hz x (YH hx)));have HX:=kz (yB e1 hB);obtain ⟨x1,x2⟩:=x;dsimp only at c0 c1 HCL HX;clear hx hc e0 e1 hB;go_wp2_with fail
    refine (oz HCL).mono ?_;rintro e w3 ⟨rfl,hb3⟩;have hb4:=(oz HX).2.trans (hb3.mono (oz HX).2.size);have HO:=kz (zu (oz HS).1 hb4);have HB4:=kz ((oz HS).2.trans (hb4.mono (oz HS).2.size));have hc3:=Je (oz HO);have c3:w3.cell? ⟨g,k*2+1,none⟩=some (.string x2):=hc3 _ _ (oz HX).1;have f3:w3.frozen? ⟨g,k*2+1,none⟩=false:=QM (oz HO) _;have HN:=kz (yB (zhD (oz HO) (oz HX).1) ((oz HB4).setCell (p:=⟨g,k*2+1,none⟩) hlo (.string x2)));clear hb3 hb4 hc3 HCL c0 c1;go_wp2_with fail
    exact ⟨⟨k+1,by omega,by go_num,HN⟩,by simp [intOf];omega⟩
   ·have hk1:¬ (k:Int) < (zs.length:Int):=by omega
    go_wp2_with fail
    go_ret;exact ⟨_,rfl,(oz HS).1,(oz HS).2⟩
end
end Go.Proofs.YthchopdfmchpkaaGreat
