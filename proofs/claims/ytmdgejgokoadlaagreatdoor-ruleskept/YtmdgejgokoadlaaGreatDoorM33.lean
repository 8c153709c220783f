/- Texts of this claim, one behind the other. -/
import Derived.Test.YtmdgejgokoadlaaGreatDoorM29
import Derived.Deep.MidRow
import Derived.Test.YtmdgejgokoadlaaGreatDoorM19
import Derived.Test.YtmdgejgokoadlaaGreatDoorM18
import Derived.Deep.RegionHeld3
/- A list is written over (guisekeep6.over). -/
namespace Go.Proofs.YtmdgejgokoadlaaGreatDoor
open Go.RowKit Go.Shelf
set_option linter.unusedVariables false
def RowSh (W:World) (lo E sz:Nat) (v:Value):Prop:=v=.slice none 0 0∨∃ g n c cs,v=.slice (some ⟨g,0,none⟩) n c∧lo≤g∧Blk W g cs E∧cs.size=c*sz∧n≤c∧c≤maxLen
theorem zeI {W:World} {lo E sz n:Nat} {v:Value} {xs:List Value} (h:W.ownsRow lo E sz v n xs):RowSh W lo E sz v:=by
 rcases h.2 with ⟨rfl,_⟩ | ⟨g,cap,cur,rfl,hb,hg,h1,h2,h3,_⟩
 ·exact .inl rfl
 ·exact .inr ⟨g,n,cap,cur,rfl,hb,hg,h3,h1,h2⟩
theorem zcg {N:Nat} {ty:TypeId}:∀ (vs:List Value) (o:Nat) (w:World) (cs:Array Value),Blk w N cs ty→∃ cs',Blk (w.setCells N o vs) N cs' ty∧cs'.size=cs.size
 | [],o,w,cs,h =>⟨cs,h,rfl⟩
 | v::r,o,w,cs,h =>by
  obtain ⟨cs',h1,h2⟩:=zcg r (o+1) _ _ (h.set o v)
  exact ⟨cs',h1,by rw [h2,Array.size_setIfInBounds]⟩
theorem zeC {w:World} {N:Nat} {cs:Array Value} {ty:TypeId} (h:Blk w N cs ty) (o n:Nat) (hn:o+n≤cs.size):w.there N o n:=fun j hj =>by
 refine ⟨?_,h.frozen _⟩
 rw [h.cell (o+j),Array.getElem?_eq_getElem (by omega)]
 rfl
structure zjW (W wr:World) (g E c sz:Nat) (ms:List Value):Prop where
 b:∃ cs,Blk wr g cs E∧cs.size=c*sz
 x:Blk wr W.heap.size ms.toArray E
 gr:W.grownBy wr (some g)
theorem st_Span {ops:Array Oper} {rest:List Oper} {op:Oper} {a:Act} {w:World} {Q:Exit→Act→World→Prop} (hgd:op.guard=none) (x y:Operand) (ho:op.op=.store 73 x y) (b o o':Nat) (cs:List Value) (hx:a.eval x=.pointer (some ⟨b,o',none⟩)) (eo:o'=o) (hy:a.eval y=.agg cs.toArray) (ht:w.there b o 2) (hl:cs.length=2) (h1:∀ v ∈ cs,v.oneCell'=true) (h:wpList Tryz.prog ops Q rest (a.put op.dst undef) (w.setCells b o cs)):wpList Tryz.prog ops Q (op::rest) a w:=by
 subst eo
 exact wpList_store_mid hgd _ x y ho b o' cs.toArray hx hy (by rw [List.size_toArray,hl];exact ht) (by rw [List.size_toArray,hl];kernel_rfl) (all_oneCell_toArray h1) h
set_option maxRecDepth 100000 in
set_option maxHeartbeats 4000000 in
theorem zeJ (lo:Nat) (v:Value) (u0 u1:Value) (hu:∀ u ∈ [u0,u1],u.oneCell'=true) (W:World) (h:RowSh W lo 73 2 v) :
  Calls Tryz.prog 48 #[v,.agg #[u0,u1]] W fun e w' =>(∃ r,e=.returned r)∧W.grownBy w' v.ownBlock:=by
 have hmx:Tryz.prog.follows .mixedOrders=true:=by kernel_rfl
 have hu73:=Tryz.underlying73
 have HU:=kz hu
 clear hu
 rcases h with rfl | ⟨g,n,c,cs,rfl,_,hb,hz,hn,hm⟩
 ·go_enter Tryz.func48,Tryz.ntmps48
  go_wp2_with fail
  refine wp_loop_rounds 1 ?_
  rw [rounds_succ]
  go_wp2_with fail
  go_end0
  exact ⟨⟨_,rfl⟩,World.grownBy_alloc W _ _⟩
 ·have hg:=hb.lt
  have HS:Hz (zjW W (W.alloc (.cells #[u0,u1] 73)) g 73 c 2 [u0,u1]):=kz ⟨⟨cs,hb.alloc _,hz⟩,Blk.new W _ _,World.grownBy_alloc W _ _⟩
  have hnc:(n:Int)≤(c:Int):=by omega
  have hc0:(0:Int)≤(c:Int):=by omega
  unfold maxLen at hm
  clear hb hz
  go_enter Tryz.func48,Tryz.ntmps48
  go_wp2_with fail
  generalize W.alloc (.cells #[u0,u1] 73)=w1 at *
  go_loopw [4] (fun i wr => ∃ k:Nat,k≤c∧i=.int .i64 k∧Hz (zjW W wr g 73 c 2 [u0,u1])) (fun i _ =>c - (intOf i).toNat)
  case atStart =>exact ⟨0,Nat.zero_le _,rfl,HS⟩
  case round =>
   obtain ⟨k,hk,rfl,HK⟩:=hrel
   clear HS
   by_cases hkc:k < c
   ·have k1:(k:Int) < (c:Int):=by omega
    have k0:(0:Int)≤(k:Int):=by omega
    obtain ⟨cs',hb',hz'⟩:=(oz HK).b
    have hsz:k*2+2≤cs'.size:=by rw [hz'];have:(k+1)*2≤c*2:=Nat.mul_le_mul_right _ (by omega);omega
    have hth:=zeC hb' (k*2) 2 hsz
    have hrg:wr.rangeAt W.heap.size 0 [u0,u1]:=fun j u hj =>by rw [Nat.zero_add,(oz HK).x.cell j,List.getElem?_toArray];exact hj
    have HT:=kz (And.intro hth hrg)
    have HN:Hz (zjW W (wr.setCells g (k*2) [u0,u1]) g 73 c 2 [u0,u1]):=kz (by
     obtain ⟨cs2,h1,h2⟩:=zcg [u0,u1] (k*2) wr cs' hb'
     have hg2:=zaQ g [u0,u1] (k*2) wr
     exact ⟨⟨cs2,h1,by rw [h2,hz']⟩,(oz HK).x.kept hg2 (fun e =>by have:=Option.some.inj e;omega),zai (oz HK).gr hg2⟩)
    clear hrg hth hb' hz' hsz
    go_wp2_with (first | (refine wpList_load_mid rfl _ _ rfl W.heap.size 0 rfl [u0,u1] _ (oz HT).2 hu73 rfl (by kernel_rfl) ?_) | (refine st_Span rfl _ _ rfl g (k*2) _ [u0,u1] rfl (by first | rfl | simp | omega) rfl (oz HT).1 rfl (oz HU) ?_))
    generalize wr.setCells g (k*2) [u0,u1]=w2 at *
    go_roundw
    case rel =>exact ⟨k+1,by omega,by simp,HN⟩
    case measure =>simp [intOf];omega
   ·have k1:¬ (k:Int) < (c:Int):=by omega
    go_wp2_with fail
    go_end0
    exact ⟨⟨_,rfl⟩,(oz HK).gr⟩
theorem st_Script {ops:Array Oper} {rest:List Oper} {op:Oper} {a:Act} {w:World} {Q:Exit→Act→World→Prop} (hgd:op.guard=none) (x y:Operand) (ho:op.op=.store 71 x y) (b o o':Nat) (cs:List Value) (hx:a.eval x=.pointer (some ⟨b,o',none⟩)) (eo:o'=o) (hy:a.eval y=.agg cs.toArray) (ht:w.there b o 2) (hl:cs.length=2) (h1:∀ v ∈ cs,v.oneCell'=true) (h:wpList Tryz.prog ops Q rest (a.put op.dst undef) (w.setCells b o cs)):wpList Tryz.prog ops Q (op::rest) a w:=by
 subst eo
 exact wpList_store_mid hgd _ x y ho b o' cs.toArray hx hy (by rw [List.size_toArray,hl];exact ht) (by rw [List.size_toArray,hl];kernel_rfl) (all_oneCell_toArray h1) h
set_option maxRecDepth 100000 in
set_option maxHeartbeats 4000000 in
theorem zjw (lo:Nat) (v:Value) (u0 u1:Value) (hu:∀ u ∈ [u0,u1],u.oneCell'=true) (W:World) (h:RowSh W lo 71 2 v) :
  Calls Tryz.prog 49 #[v,.agg #[u0,u1]] W fun e w' =>(∃ r,e=.returned r)∧W.grownBy w' v.ownBlock:=by
 have hmx:Tryz.prog.follows .mixedOrders=true:=by kernel_rfl
 have hu73:=Tryz.underlying71
 have HU:=kz hu
 clear hu
 rcases h with rfl | ⟨g,n,c,cs,rfl,_,hb,hz,hn,hm⟩
 ·go_enter Tryz.func49,Tryz.ntmps49
  go_wp2_with fail
  refine wp_loop_rounds 1 ?_
  rw [rounds_succ]
  go_wp2_with fail
  go_end0
  exact ⟨⟨_,rfl⟩,World.grownBy_alloc W _ _⟩
 ·have hg:=hb.lt
  have HS:Hz (zjW W (W.alloc (.cells #[u0,u1] 71)) g 71 c 2 [u0,u1]):=kz ⟨⟨cs,hb.alloc _,hz⟩,Blk.new W _ _,World.grownBy_alloc W _ _⟩
  have hnc:(n:Int)≤(c:Int):=by omega
  have hc0:(0:Int)≤(c:Int):=by omega
  unfold maxLen at hm
  clear hb hz
  go_enter Tryz.func49,Tryz.ntmps49
  go_wp2_with fail
  generalize W.alloc (.cells #[u0,u1] 71)=w1 at *
  go_loopw [4] (fun i wr => ∃ k:Nat,k≤c∧i=.int .i64 k∧Hz (zjW W wr g 71 c 2 [u0,u1])) (fun i _ =>c - (intOf i).toNat)
  case atStart =>exact ⟨0,Nat.zero_le _,rfl,HS⟩
  case round =>
   obtain ⟨k,hk,rfl,HK⟩:=hrel
   clear HS
   by_cases hkc:k < c
   ·have k1:(k:Int) < (c:Int):=by omega
    have k0:(0:Int)≤(k:Int):=by omega
    obtain ⟨cs',hb',hz'⟩:=(oz HK).b
    have hsz:k*2+2≤cs'.size:=by rw [hz'];have:(k+1)*2≤c*2:=Nat.mul_le_mul_right _ (by omega);omega
    have hth:=zeC hb' (k*2) 2 hsz
    have hrg:wr.rangeAt W.heap.size 0 [u0,u1]:=fun j u hj =>by rw [Nat.zero_add,(oz HK).x.cell j,List.getElem?_toArray];exact hj
    have HT:=kz (And.intro hth hrg)
    have HN:Hz (zjW W (wr.setCells g (k*2) [u0,u1]) g 71 c 2 [u0,u1]):=kz (by
     obtain ⟨cs2,h1,h2⟩:=zcg [u0,u1] (k*2) wr cs' hb'
     have hg2:=zaQ g [u0,u1] (k*2) wr
     exact ⟨⟨cs2,h1,by rw [h2,hz']⟩,(oz HK).x.kept hg2 (fun e =>by have:=Option.some.inj e;omega),zai (oz HK).gr hg2⟩)
    clear hrg hth hb' hz' hsz
    go_wp2_with (first | (refine wpList_load_mid rfl _ _ rfl W.heap.size 0 rfl [u0,u1] _ (oz HT).2 hu73 rfl (by kernel_rfl) ?_) | (refine st_Script rfl _ _ rfl g (k*2) _ [u0,u1] rfl (by first | rfl | simp | omega) rfl (oz HT).1 rfl (oz HU) ?_))
    generalize wr.setCells g (k*2) [u0,u1]=w2 at *
    go_roundw
    case rel =>exact ⟨k+1,by omega,by simp,HN⟩
    case measure =>simp [intOf];omega
   ·have k1:¬ (k:Int) < (c:Int):=by omega
    go_wp2_with fail
    go_end0
    exact ⟨⟨_,rfl⟩,(oz HK).gr⟩
theorem st_Mark {ops:Array Oper} {rest:List Oper} {op:Oper} {a:Act} {w:World} {Q:Exit→Act→World→Prop} (hgd:op.guard=none) (x y:Operand) (ho:op.op=.store 93 x y) (b o o':Nat) (cs:List Value) (hx:a.eval x=.pointer (some ⟨b,o',none⟩)) (eo:o'=o) (hy:a.eval y=.agg cs.toArray) (ht:w.there b o 2) (hl:cs.length=2) (h1:∀ v ∈ cs,v.oneCell'=true) (h:wpList Tryz.prog ops Q rest (a.put op.dst undef) (w.setCells b o cs)):wpList Tryz.prog ops Q (op::rest) a w:=by
 subst eo
 exact wpList_store_mid hgd _ x y ho b o' cs.toArray hx hy (by rw [List.size_toArray,hl];exact ht) (by rw [List.size_toArray,hl];kernel_rfl) (all_oneCell_toArray h1) h
set_option maxRecDepth 100000 in
set_option maxHeartbeats 4000000 in
theorem over_Mark (lo:Nat) (v:Value) (u0 u1:Value) (hu:∀ u ∈ [u0,u1],u.oneCell'=true) (W:World) (h:RowSh W lo 93 2 v) :
  Calls Tryz.prog 50 #[v,.agg #[u0,u1]] W fun e w' =>(∃ r,e=.returned r)∧W.grownBy w' v.ownBlock:=by
 have hmx:Tryz.prog.follows .mixedOrders=true:=by kernel_rfl
 have hu73:=Tryz.underlying93
 have HU:=kz hu
 clear hu
 rcases h with rfl | ⟨g,n,c,cs,rfl,_,hb,hz,hn,hm⟩
 ·go_enter Tryz.func50,Tryz.ntmps50
  go_wp2_with fail
  refine wp_loop_rounds 1 ?_
  rw [rounds_succ]
  go_wp2_with fail
  go_end0
  exact ⟨⟨_,rfl⟩,World.grownBy_alloc W _ _⟩
 ·have hg:=hb.lt
  have HS:Hz (zjW W (W.alloc (.cells #[u0,u1] 93)) g 93 c 2 [u0,u1]):=kz ⟨⟨cs,hb.alloc _,hz⟩,Blk.new W _ _,World.grownBy_alloc W _ _⟩
  have hnc:(n:Int)≤(c:Int):=by omega
  have hc0:(0:Int)≤(c:Int):=by omega
  unfold maxLen at hm
  clear hb hz
  go_enter Tryz.func50,Tryz.ntmps50
  go_wp2_with fail
  generalize W.alloc (.cells #[u0,u1] 93)=w1 at *
  go_loopw [4] (fun i wr => ∃ k:Nat,k≤c∧i=.int .i64 k∧Hz (zjW W wr g 93 c 2 [u0,u1])) (fun i _ =>c - (intOf i).toNat)
  case atStart =>exact ⟨0,Nat.zero_le _,rfl,HS⟩
  case round =>
   obtain ⟨k,hk,rfl,HK⟩:=hrel
   clear HS
   by_cases hkc:k < c
   ·have k1:(k:Int) < (c:Int):=by omega
    have k0:(0:Int)≤(k:Int):=by omega
    obtain ⟨cs',hb',hz'⟩:=(oz HK).b
    have hsz:k*2+2≤cs'.size:=by rw [hz'];have:(k+1)*2≤c*2:=Nat.mul_le_mul_right _ (by omega);omega
    have hth:=zeC hb' (k*2) 2 hsz
    have hrg:wr.rangeAt W.heap.size 0 [u0,u1]:=fun j u hj =>by rw [Nat.zero_add,(oz HK).x.cell j,List.getElem?_toArray];exact hj
    have HT:=kz (And.intro hth hrg)
    have HN:Hz (zjW W (wr.setCells g (k*2) [u0,u1]) g 93 c 2 [u0,u1]):=kz (by
     obtain ⟨cs2,h1,h2⟩:=zcg [u0,u1] (k*2) wr cs' hb'
     have hg2:=zaQ g [u0,u1] (k*2) wr
     exact ⟨⟨cs2,h1,by rw [h2,hz']⟩,(oz HK).x.kept hg2 (fun e =>by have:=Option.some.inj e;omega),zai (oz HK).gr hg2⟩)
    clear hrg hth hb' hz' hsz
    go_wp2_with (first | (refine wpList_load_mid rfl _ _ rfl W.heap.size 0 rfl [u0,u1] _ (oz HT).2 hu73 rfl (by kernel_rfl) ?_) | (refine st_Mark rfl _ _ rfl g (k*2) _ [u0,u1] rfl (by first | rfl | simp | omega) rfl (oz HT).1 rfl (oz HU) ?_))
    generalize wr.setCells g (k*2) [u0,u1]=w2 at *
    go_roundw
    case rel =>exact ⟨k+1,by omega,by simp,HN⟩
    case measure =>simp [intOf];omega
   ·have k1:¬ (k:Int) < (c:Int):=by omega
    go_wp2_with fail
    go_end0
    exact ⟨⟨_,rfl⟩,(oz HK).gr⟩
theorem st_Pair {ops:Array Oper} {rest:List Oper} {op:Oper} {a:Act} {w:World} {Q:Exit→Act→World→Prop} (hgd:op.guard=none) (x y:Operand) (ho:op.op=.store 96 x y) (b o o':Nat) (cs:List Value) (hx:a.eval x=.pointer (some ⟨b,o',none⟩)) (eo:o'=o) (hy:a.eval y=.agg cs.toArray) (ht:w.there b o 3) (hl:cs.length=3) (h1:∀ v ∈ cs,v.oneCell'=true) (h:wpList Tryz.prog ops Q rest (a.put op.dst undef) (w.setCells b o cs)):wpList Tryz.prog ops Q (op::rest) a w:=by
 subst eo
 exact wpList_store_mid hgd _ x y ho b o' cs.toArray hx hy (by rw [List.size_toArray,hl];exact ht) (by rw [List.size_toArray,hl];kernel_rfl) (all_oneCell_toArray h1) h
set_option maxRecDepth 100000 in
set_option maxHeartbeats 4000000 in
theorem over_Pair (lo:Nat) (v:Value) (u0 u1 u2:Value) (hu:∀ u ∈ [u0,u1,u2],u.oneCell'=true) (W:World) (h:RowSh W lo 96 3 v) :
  Calls Tryz.prog 51 #[v,.agg #[u0,u1,u2]] W fun e w' =>(∃ r,e=.returned r)∧W.grownBy w' v.ownBlock:=by
 have hmx:Tryz.prog.follows .mixedOrders=true:=by kernel_rfl
 have hu73:=Tryz.underlying96
 have HU:=kz hu
 clear hu
 rcases h with rfl | ⟨g,n,c,cs,rfl,_,hb,hz,hn,hm⟩
 ·go_enter Tryz.func51,Tryz.ntmps51
  go_wp2_with fail
  refine wp_loop_rounds 1 ?_
  rw [rounds_succ]
  go_wp2_with fail
  go_end0
  exact ⟨⟨_,rfl⟩,World.grownBy_alloc W _ _⟩
 ·have hg:=hb.lt
  have HS:Hz (zjW W (W.alloc (.cells #[u0,u1,u2] 96)) g 96 c 3 [u0,u1,u2]):=kz ⟨⟨cs,hb.alloc _,hz⟩,Blk.new W _ _,World.grownBy_alloc W _ _⟩
  have hnc:(n:Int)≤(c:Int):=by omega
  have hc0:(0:Int)≤(c:Int):=by omega
  unfold maxLen at hm
  clear hb hz
  go_enter Tryz.func51,Tryz.ntmps51
  go_wp2_with fail
  generalize W.alloc (.cells #[u0,u1,u2] 96)=w1 at *
  go_loopw [4] (fun i wr => ∃ k:Nat,k≤c∧i=.int .i64 k∧Hz (zjW W wr g 96 c 3 [u0,u1,u2])) (fun i _ =>c - (intOf i).toNat)
  case atStart =>exact ⟨0,Nat.zero_le _,rfl,HS⟩
  case round =>
   obtain ⟨k,hk,rfl,HK⟩:=hrel
   clear HS
   by_cases hkc:k < c
   ·have k1:(k:Int) < (c:Int):=by omega
    have k0:(0:Int)≤(k:Int):=by omega
    obtain ⟨cs',hb',hz'⟩:=(oz HK).b
    have hsz:k*3+3≤cs'.size:=by rw [hz'];have:(k+1)*3≤c*3:=Nat.mul_le_mul_right _ (by omega);omega
    have hth:=zeC hb' (k*3) 3 hsz
    have hrg:wr.rangeAt W.heap.size 0 [u0,u1,u2]:=fun j u hj =>by rw [Nat.zero_add,(oz HK).x.cell j,List.getElem?_toArray];exact hj
    have HT:=kz (And.intro hth hrg)
    have HN:Hz (zjW W (wr.setCells g (k*3) [u0,u1,u2]) g 96 c 3 [u0,u1,u2]):=kz (by
     obtain ⟨cs2,h1,h2⟩:=zcg [u0,u1,u2] (k*3) wr cs' hb'
     have hg2:=zaQ g [u0,u1,u2] (k*3) wr
     exact ⟨⟨cs2,h1,by rw [h2,hz']⟩,(oz HK).x.kept hg2 (fun e =>by have:=Option.some.inj e;omega),zai (oz HK).gr hg2⟩)
    clear hrg hth hb' hz' hsz
    go_wp2_with (first | (refine wpList_load_mid rfl _ _ rfl W.heap.size 0 rfl [u0,u1,u2] _ (oz HT).2 hu73 rfl (by kernel_rfl) ?_) | (refine st_Pair rfl _ _ rfl g (k*3) _ [u0,u1,u2] rfl (by first | rfl | simp | omega) rfl (oz HT).1 rfl (oz HU) ?_))
    generalize wr.setCells g (k*3) [u0,u1,u2]=w2 at *
    go_roundw
    case rel =>exact ⟨k+1,by omega,by simp,HN⟩
    case measure =>simp [intOf];omega
   ·have k1:¬ (k:Int) < (c:Int):=by omega
    go_wp2_with fail
    go_end0
    exact ⟨⟨_,rfl⟩,(oz HK).gr⟩
theorem st_Map {ops:Array Oper} {rest:List Oper} {op:Oper} {a:Act} {w:World} {Q:Exit→Act→World→Prop} (hgd:op.guard=none) (x y:Operand) (ho:op.op=.store 75 x y) (b o o':Nat) (cs:List Value) (hx:a.eval x=.pointer (some ⟨b,o',none⟩)) (eo:o'=o) (hy:a.eval y=.agg cs.toArray) (ht:w.there b o 2) (hl:cs.length=2) (h1:∀ v ∈ cs,v.oneCell'=true) (h:wpList Tryz.prog ops Q rest (a.put op.dst undef) (w.setCells b o cs)):wpList Tryz.prog ops Q (op::rest) a w:=by
 subst eo
 exact wpList_store_mid hgd _ x y ho b o' cs.toArray hx hy (by rw [List.size_toArray,hl];exact ht) (by rw [List.size_toArray,hl];kernel_rfl) (all_oneCell_toArray h1) h
set_option maxRecDepth 100000 in
set_option maxHeartbeats 4000000 in
theorem zkf (lo:Nat) (v:Value) (u0 u1:Value) (hu:∀ u ∈ [u0,u1],u.oneCell'=true) (W:World) (h:RowSh W lo 75 2 v) :
  Calls Tryz.prog 52 #[v,.agg #[u0,u1]] W fun e w' =>(∃ r,e=.returned r)∧W.grownBy w' v.ownBlock:=by
 have hmx:Tryz.prog.follows .mixedOrders=true:=by kernel_rfl
 have hu73:=Tryz.underlying75
 have HU:=kz hu
 clear hu
 rcases h with rfl | ⟨g,n,c,cs,rfl,_,hb,hz,hn,hm⟩
 ·go_enter Tryz.func52,Tryz.ntmps52
  go_wp2_with fail
  refine wp_loop_rounds 1 ?_
  rw [rounds_succ]
  go_wp2_with fail
  go_end0
  exact ⟨⟨_,rfl⟩,World.grownBy_alloc W _ _⟩
 ·have hg:=hb.lt
  have HS:Hz (zjW W (W.alloc (.cells #[u0,u1] 75)) g 75 c 2 [u0,u1]):=kz ⟨⟨cs,hb.alloc _,hz⟩,Blk.new W _ _,World.grownBy_alloc W _ _⟩
  have hnc:(n:Int)≤(c:Int):=by omega
  have hc0:(0:Int)≤(c:Int):=by omega
  unfold maxLen at hm
  clear hb hz
  go_enter Tryz.func52,Tryz.ntmps52
  go_wp2_with fail
  generalize W.alloc (.cells #[u0,u1] 75)=w1 at *
  go_loopw [4] (fun i wr => ∃ k:Nat,k≤c∧i=.int .i64 k∧Hz (zjW W wr g 75 c 2 [u0,u1])) (fun i _ =>c - (intOf i).toNat)
  case atStart =>exact ⟨0,Nat.zero_le _,rfl,HS⟩
  case round =>
   obtain ⟨k,hk,rfl,HK⟩:=hrel
   clear HS
   by_cases hkc:k < c
   ·have k1:(k:Int) < (c:Int):=by omega
    have k0:(0:Int)≤(k:Int):=by omega
    obtain ⟨cs',hb',hz'⟩:=(oz HK).b
    have hsz:k*2+2≤cs'.size:=by rw [hz'];have:(k+1)*2≤c*2:=Nat.mul_le_mul_right _ (by omega);omega
    have hth:=zeC hb' (k*2) 2 hsz
    have hrg:wr.rangeAt W.heap.size 0 [u0,u1]:=fun j u hj =>by rw [Nat.zero_add,(oz HK).x.cell j,List.getElem?_toArray];exact hj
    have HT:=kz (And.intro hth hrg)
    have HN:Hz (zjW W (wr.setCells g (k*2) [u0,u1]) g 75 c 2 [u0,u1]):=kz (by
     obtain ⟨cs2,h1,h2⟩:=zcg [u0,u1] (k*2) wr cs' hb'
     have hg2:=zaQ g [u0,u1] (k*2) wr
     exact ⟨⟨cs2,h1,by rw [h2,hz']⟩,(oz HK).x.kept hg2 (fun e =>by have:=Option.some.inj e;omega),zai (oz HK).gr hg2⟩)
    clear hrg hth hb' hz' hsz
    go_wp2_with (first | (refine wpList_load_mid rfl _ _ rfl W.heap.size 0 rfl [u0,u1] _ (oz HT).2 hu73 rfl (by kernel_rfl) ?_) | (refine st_Map rfl _ _ rfl g (k*2) _ [u0,u1] rfl (by first | rfl | simp | omega) rfl (oz HT).1 rfl (oz HU) ?_))
    generalize wr.setCells g (k*2) [u0,u1]=w2 at *
    go_roundw
    case rel =>exact ⟨k+1,by omega,by simp,HN⟩
    case measure =>simp [intOf];omega
   ·have k1:¬ (k:Int) < (c:Int):=by omega
    go_wp2_with fail
    go_end0
    exact ⟨⟨_,rfl⟩,(oz HK).gr⟩
structure SpS (W w:World) (lo:Nat) (vs:List Value) (ls:List Ln) (P:Nat→Prop):Prop where
 bl:Below lo W w
 lw:lo≤w.heap.size
 rm:∀ (i:Nat) (v:Value) (l:Ln),P i→vs[i]?=some v→ls[i]?=some l→w.ownsRow lo l.E l.sz v l.n l.xs
theorem SpS.hit {W w w':World} {lo p:Nat} {vs:List Value} {ls:List Ln} {P:Nat→Prop} {v:Value} {l:Ln} (h:SpS W w lo vs ls P) (hap:∀ (i j:Nat) (v u:Value),i≠j→vs[i]?=some v→vs[j]?=some u→v.ownBlock=none∨v.ownBlock≠u.ownBlock) (hp:P p) (hv:vs[p]?=some v) (hl:ls[p]?=some l) (hg:w.grownBy w' v.ownBlock):SpS W w' lo vs ls (fun i =>P i∧i≠p) :=
 ⟨h.bl.grown hg h.lw (fun k hk =>((h.rm p v l hp hv hl).lt k hk).1),Nat.le_trans h.lw hg.size,fun i u m hi hu hm =>(h.rm i u m hi.1 hu hm).kept hg (hap i p u v hi.2 hu hv)⟩
theorem SpS.mono {W w:World} {lo:Nat} {vs:List Value} {ls:List Ln} {P Q:Nat→Prop} (h:SpS W w lo vs ls P) (hq:∀ i,Q i→P i):SpS W w lo vs ls Q:=⟨h.bl,h.lw,fun i v l hi =>h.rm i v l (hq i hi)⟩
theorem SpS.alloc {W w:World} {lo:Nat} {vs:List Value} {ls:List Ln} {P:Nat→Prop} (h:SpS W w lo vs ls P) (o:Obj):SpS W (w.alloc o) lo vs ls P:=⟨h.bl.alloc h.lw o,by have:=h.lw;simp;omega,fun i v l hi hv hl =>(h.rm i v l hi hv hl).alloc o⟩
theorem row_ne {w:World} {lo lo2 E E2 sz sz2 n n2 g c:Nat} {v:Value} {xs ys:List Value} (h:w.ownsRow lo E sz (.slice (some ⟨g,0,none⟩) n c) n xs) (h2:w.ownsRow lo2 E2 sz2 v n2 ys) (hE:E2≠E):some g≠v.ownBlock:=by
 rcases h.2 with ⟨e,_⟩ | ⟨g',c',cur,e,_,hg,_⟩
 ·cases e
 ·injection e with e1
  injection e1 with e1
  injection e1 with e1
  subst e1
  exact zbK (show Blk w g cur E from hg) h2 hE
theorem SpS.drew {W w:World} {lo:Nat} {vs:List Value} {ls:List Ln} {P:Nat→Prop} (h:SpS W w lo vs ls P):SpS W w.drew lo vs ls P:=⟨h.bl.drew,h.lw,fun i v l hi hv hl =>World.ownsRow.drew (h.rm i v l hi hv hl)⟩
theorem EnvR.lo {W w:World} {lo:Nat} (h:EnvR W) (h4:4≤lo) (hb:Below lo W w) (hw:lo≤w.heap.size):EnvR w :=
 ⟨(hb.cell (p:=⟨_,0,none⟩) (Nat.lt_of_lt_of_le (by decide) h4)).trans h.m0,(hb.cell (p:=⟨_,1,none⟩) (Nat.lt_of_lt_of_le (by decide) h4)).trans h.m1,(hb.cell (p:=⟨_,0,none⟩) (Nat.lt_of_lt_of_le (by decide) h4)).trans h.m2,(hb.cell (p:=⟨_,1,none⟩) (Nat.lt_of_lt_of_le (by decide) h4)).trans h.m3,(hb.cell (p:=⟨_,0,none⟩) (Nat.lt_of_lt_of_le (by decide) h4)).trans h.m4,(hb.cell (p:=⟨_,1,none⟩) (Nat.lt_of_lt_of_le (by decide) h4)).trans h.m5,(hb.cell (p:=⟨_,2,none⟩) (Nat.lt_of_lt_of_le (by decide) h4)).trans h.m6,(hb.cell (p:=⟨_,0,none⟩) (Nat.lt_of_lt_of_le (by decide) h4)).trans h.m7,(hb.cell (p:=⟨_,1,none⟩) (Nat.lt_of_lt_of_le (by decide) h4)).trans h.m8,by omega⟩
theorem ts_at (T:TV) (us:List Value) (hu:us.length=T.sc.length) (v0 v1 v2 v3 v4 v5 v6 v7:Value) (k:Nat) (x:Value) (l:Ln) (h1:[v1,v2,v3,v4,v5,v6,v7][k]?=some x) (h2:[Ln.mk 73 2 T.co.length (zap T.co),Ln.mk 93 2 T.ma.length (zco T.ma),Ln.mk 96 3 T.pr.length (zch T.pr),Ln.mk 75 2 T.fo.length (zbu T.fo),Ln.mk 75 2 T.lk.length (zbu T.lk),Ln.mk 73 2 T.dr.length (zap T.dr),Ln.mk 73 2 T.al.length (zap T.al)][k]?=some l):((v0::us)++[v1]++[v2]++[v3]++[v4]++[v5]++[v6]++[v7])[us.length+1+k]?=some x∧(tsOf T us)[us.length+1+k]?=some l:=by
 have hM:(T.sc.map (fun s =>Ln.mk 73 2 s.2.length (zap s.2))).length=us.length:=by rw [List.length_map,hu]
 constructor
 ·rw [show (v0::us)++[v1]++[v2]++[v3]++[v4]++[v5]++[v6]++[v7]=(v0::us)++[v1,v2,v3,v4,v5,v6,v7] by simp,List.getElem?_append_right (by simp), ← h1]
  congr 1
  simp
 ·unfold tsOf
  rw [show ∀ (a:List Ln) (b c d e f g h:Ln),a++[b]++[c]++[d]++[e]++[f]++[g]++[h]=a++[b,c,d,e,f,g,h] from fun a b c d e f g h =>by simp,List.getElem?_append_right (by rw [List.length_cons,hM];omega), ← h2]
  congr 1
  rw [List.length_cons,hM]
  omega
theorem ts_us (T:TV) (us:List Value) (hu:us.length=T.sc.length) (v0 v1 v2 v3 v4 v5 v6 v7:Value) (j:Nat) (hj:j < us.length):∃ x u,T.sc[j]?=some x∧us[j]?=some u∧((v0::us)++[v1]++[v2]++[v3]++[v4]++[v5]++[v6]++[v7])[j+1]?=some u∧(tsOf T us)[j+1]?=some (Ln.mk 73 2 x.2.length (zap x.2)):=by
 have hM:(T.sc.map (fun s =>Ln.mk 73 2 s.2.length (zap s.2))).length=us.length:=by rw [List.length_map,hu]
 have hx:T.sc[j]?=some (T.sc[j]'(by omega)):=List.getElem?_eq_getElem _
 refine ⟨T.sc[j]'(by omega),us[j],hx,List.getElem?_eq_getElem hj, ?_, ?_⟩
 ·rw [show ∀ (a:List Value) (b c d e f g h:Value),a++[b]++[c]++[d]++[e]++[f]++[g]++[h]=a++[b,c,d,e,f,g,h] from fun a b c d e f g h =>by simp,List.getElem?_append_left (by simp;omega),List.getElem?_cons_succ]
  exact List.getElem?_eq_getElem hj
 ·unfold tsOf
  rw [show ∀ (a:List Ln) (b c d e f g h:Ln),a++[b]++[c]++[d]++[e]++[f]++[g]++[h]=a++[b,c,d,e,f,g,h] from fun a b c d e f g h =>by simp,List.getElem?_append_left (by rw [List.length_cons,hM];omega),List.getElem?_cons_succ,List.getElem?_map,hx]
  rfl
set_option maxRecDepth 100000 in
set_option maxHeartbeats 4000000 in
theorem zfX (T:TV) (hn:T.sc.length≤1000000) (lo:Nat) (v:Value) (W:World) (h:TabAt W lo T v) (hR:EnvR W) (h4:4≤lo) (hlo:lo≤W.heap.size) :
  Calls Tryz.prog 17 #[v] W fun e w' =>(∃ r,e=.returned r)∧Below lo W w':=by
 have hmx:Tryz.prog.follows .mixedOrders=true:=by kernel_rfl
 obtain ⟨a0,a1,a2,a3,a4,a5,a6,a7,c0,c1,c2,c3,c4,c5,c6,c7,us,rfl,htin,hL⟩:=h.inn
 have hu:=htin.lu
 have hap:=hL.apart
 obtain ⟨vs,hvs⟩:∃ vs,vs=((.slice a0 T.sc.length c0::us)++[.slice a1 T.co.length c1]++[.slice a2 T.ma.length c2]++[.slice a3 T.pr.length c3]++[.slice a4 T.fo.length c4]++[.slice a5 T.lk.length c5]++[.slice a6 T.dr.length c6]++[.slice a7 T.al.length c7]):=⟨_,rfl⟩
 obtain ⟨ls,hls⟩:∃ ls,ls=tsOf T us:=⟨_,rfl⟩
 have hI:∀ k x l,[.slice a1 T.co.length c1,.slice a2 T.ma.length c2,.slice a3 T.pr.length c3,.slice a4 T.fo.length c4,.slice a5 T.lk.length c5,.slice a6 T.dr.length c6,.slice a7 T.al.length c7][k]?=some x→[Ln.mk 73 2 T.co.length (zap T.co),Ln.mk 93 2 T.ma.length (zco T.ma),Ln.mk 96 3 T.pr.length (zch T.pr),Ln.mk 75 2 T.fo.length (zbu T.fo),Ln.mk 75 2 T.lk.length (zbu T.lk),Ln.mk 73 2 T.dr.length (zap T.dr),Ln.mk 73 2 T.al.length (zap T.al)][k]?=some l→vs[us.length+1+k]?=some x∧ls[us.length+1+k]?=some l:=fun k x l h1 h2 =>by rw [hvs,hls];exact ts_at T us hu _ _ _ _ _ _ _ _ k x l h1 h2
 have hU:∀ j,j < us.length→∃ x u,T.sc[j]?=some x∧us[j]?=some u∧vs[j+1]?=some u∧ls[j+1]?=some (Ln.mk 73 2 x.2.length (zap x.2)):=fun j hj =>by rw [hvs,hls];exact ts_us T us hu _ _ _ _ _ _ _ _ j hj
 have h00:vs[0]?=some (.slice a0 T.sc.length c0)∧ls[0]?=some (Ln.mk 71 2 T.sc.length (zbQ T.sc us)):=by rw [hvs,hls];exact ⟨rfl,rfl⟩
 rw [← hvs, ← hls] at hL
 rw [← hvs] at hap
 have HI:=kz hI
 have HU:=kz hU
 have H0:=kz h00
 have HA:=kz hap
 have HR:=kz hR
 have HL:Hz (SpS W (W.alloc (.cells #[.slice a0 T.sc.length c0,.slice a1 T.co.length c1,.slice a2 T.ma.length c2,.slice a3 T.pr.length c3,.slice a4 T.fo.length c4,.slice a5 T.lk.length c5,.slice a6 T.dr.length c6,.slice a7 T.al.length c7] 33)) lo vs ls (fun i =>i=0∨0 < i)):=kz ((⟨Below.refl _ _,hlo,fun i v l _ hv hl =>hL.own i v l hv hl⟩:SpS W W lo vs ls (fun i =>i=0∨0 < i)).alloc _)
 have HB:Hz (Blk (W.alloc (.cells #[.slice a0 T.sc.length c0,.slice a1 T.co.length c1,.slice a2 T.ma.length c2,.slice a3 T.pr.length c3,.slice a4 T.fo.length c4,.slice a5 T.lk.length c5,.slice a6 T.dr.length c6,.slice a7 T.al.length c7] 33)) W.heap.size #[.slice a0 T.sc.length c0,.slice a1 T.co.length c1,.slice a2 T.ma.length c2,.slice a3 T.pr.length c3,.slice a4 T.fo.length c4,.slice a5 T.lk.length c5,.slice a6 T.dr.length c6,.slice a7 T.al.length c7] 33):=kz (Blk.new W _ _)
 have HUL:=kz hu
 clear hI hU h00 hap hR hL htin hvs hls hu h
 go_enter Tryz.func17,Tryz.ntmps17
 go_wp2_with fail
 generalize W.alloc (.cells #[.slice a0 T.sc.length c0,.slice a1 T.co.length c1,.slice a2 T.ma.length c2,.slice a3 T.pr.length c3,.slice a4 T.fo.length c4,.slice a5 T.lk.length c5,.slice a6 T.dr.length c6,.slice a7 T.al.length c7] 33)=w1 at *
 obtain ⟨N,hN⟩:∃ N,N=W.heap.size:=⟨_,rfl⟩
 rw [← hN] at HB ⊢
 clear hN
 go_loopw [2] (fun i wr => ∃ k:Nat,k≤T.sc.length∧i=.int .i64 k∧Hz (SpS W wr lo vs ls (fun i =>i=0∨k < i))∧Hz (Blk wr N #[.slice a0 T.sc.length c0,.slice a1 T.co.length c1,.slice a2 T.ma.length c2,.slice a3 T.pr.length c3,.slice a4 T.fo.length c4,.slice a5 T.lk.length c5,.slice a6 T.dr.length c6,.slice a7 T.al.length c7] 33)) (fun i _ =>T.sc.length - (intOf i).toNat)
 case atStart =>exact ⟨0,Nat.zero_le _,rfl,HL,HB⟩
 case round =>
  obtain ⟨k,hk,rfl,HS,HX⟩:=hrel
  clear HL HB
  have z0:=(oz HX).cell 0
  by_cases hkn:k < T.sc.length
  ·have k1:(k:Int) < (T.sc.length:Int):=by omega
   have k0:(0:Int)≤(k:Int):=by omega
   obtain ⟨x,u,hx,hu1,hv1,hl1⟩:=oz HU k (by rw [oz HUL];exact hkn)
   have how:=(oz HS).rm 0 _ _ (.inl rfl) (oz H0).1 (oz H0).2
   dsimp only at how
   obtain ⟨g,c',e,_,hgl⟩:=how.form (by omega)
   injection e with e1 e2 e3
   subst e3
   subst e1
   clear e2
   have hcell:wr.cell? ⟨g,k*2+1,none⟩=some u:=by
    have h3:=how.cellAt (k*2+1) (by omega)
    rw [h3,show k*2+1=2*k+1 by omega,zeT T.sc us (oz HUL) k]
    exact hu1
   have hou:wr.ownsRow lo 73 2 u x.2.length (zap x.2):=(oz HS).rm (k+1) u _ (.inr (by omega)) hv1 hl1
   have HV:=kz (And.intro hv1 (And.intro hl1 hou))
   have er:=(oz HR).lo h4 (oz HS).bl (oz HS).lw
   have y0:wr.drew.cell? ⟨N,0,none⟩=some (.slice (some ⟨g,0,none⟩) T.sc.length c0):=z0
   have y1:wr.drew.cell? ⟨g,k*2+1,none⟩=some u:=hcell
   have y2:wr.drew.cell? ⟨0,0,none⟩=some (.int .i32 (-77)):=er.m0
   have y3:wr.drew.cell? ⟨0,1,none⟩=some (.int .i32 0):=er.m1
   have HC:=kz (zeJ lo u (.int .i32 (-77)) (.int .i32 0) (by intro u hu;simp at hu;rcases hu with rfl | rfl <;> rfl) wr.drew (zeI (World.ownsRow.drew hou)))
   have HNE:Hz (some N≠u.ownBlock∧some g≠u.ownBlock∧some 0≠u.ownBlock):=kz ⟨zbK (oz HX) hou (by decide),row_ne how hou (by decide),fun e =>by have:=(hou.lt _ e.symm).1;omega⟩
   clear how hgl hcell hou hv1 hl1 hx hu1 er
   go_wp2_with fail
   clear z0
   go_region_held3 (fun w' =>w'.cell? ⟨N,0,none⟩=some (.slice (some ⟨g,0,none⟩) T.sc.length c0)∧w'.cell? ⟨g,k*2+1,none⟩=some u∧w'.cell? ⟨0,0,none⟩=some (.int .i32 (-77))∧w'.cell? ⟨0,1,none⟩=some (.int .i32 0)) (first | with_reducible exact ⟨y0,y1,y2,y3⟩ | with_reducible exact ⟨t0,t1,t2,t3⟩)
    (first
    | (go_at_call 48;refine (oz HC).mono ?_;rintro e w2 ⟨⟨r,rfl⟩,hg2⟩;have HG2:=kz hg2;have t0:=hg2.cell (a:=⟨N,0,none⟩) y0 (oz HNE).1;have t1:=hg2.cell (a:=⟨g,k*2+1,none⟩) y1 (oz HNE).2.1;have t2:=hg2.cell (a:=⟨0,0,none⟩) y2 (oz HNE).2.2;have t3:=hg2.cell (a:=⟨0,1,none⟩) y3 (oz HNE).2.2;clear hg2))
   all_goals
    have HS2:Hz (SpS W w2 lo vs ls (fun i =>i=0∨k+1 < i)):=kz (((oz HS).drew.hit (oz HA) (.inr (Nat.lt_succ_self k)) (oz HV).1 (oz HV).2.1 (oz HG2)).mono (fun i hi =>by omega))
    have HX2:Hz (Blk w2 N #[.slice (some ⟨g,0,none⟩) T.sc.length c0,.slice a1 T.co.length c1,.slice a2 T.ma.length c2,.slice a3 T.pr.length c3,.slice a4 T.fo.length c4,.slice a5 T.lk.length c5,.slice a6 T.dr.length c6,.slice a7 T.al.length c7] 33):=kz (Blk.kept (W:=wr.drew) (oz HX) (oz HG2) (oz HNE).1)
    clear y0 y1 y2 y3 t0 t1 t2 t3 HC HG2 HNE HV
    go_wp2_with fail
    go_roundw
    case rel =>exact ⟨k+1,by omega,by simp,HS2,HX2⟩
    case measure =>simp [intOf];omega
  ·have k1:¬ (k:Int) < (T.sc.length:Int):=by omega
   have hkk:k=T.sc.length:=by omega
   have hul:=oz HUL
   obtain ⟨q,hq⟩:∃ q,q=us.length:=⟨_,rfl⟩
   have HI2:Hz (∀ k x l,[.slice a1 T.co.length c1,.slice a2 T.ma.length c2,.slice a3 T.pr.length c3,.slice a4 T.fo.length c4,.slice a5 T.lk.length c5,.slice a6 T.dr.length c6,.slice a7 T.al.length c7][k]?=some x→[Ln.mk 73 2 T.co.length (zap T.co),Ln.mk 93 2 T.ma.length (zco T.ma),Ln.mk 96 3 T.pr.length (zch T.pr),Ln.mk 75 2 T.fo.length (zbu T.fo),Ln.mk 75 2 T.lk.length (zbu T.lk),Ln.mk 73 2 T.dr.length (zap T.dr),Ln.mk 73 2 T.al.length (zap T.al)][k]?=some l→vs[q+1+k]?=some x∧ls[q+1+k]?=some l):=kz (by rw [hq];exact oz HI)
   have HQ:Hz (q=k):=kz (by omega)
   clear hkk hul hq HI
   generalize hwr:wr=wr0 at *
   clear hwr
   have how:=(oz HS).rm _ _ _ (.inl rfl) (oz H0).1 (oz H0).2
   have HO:=kz how
   have HC:=kz (zjw lo (.slice a0 T.sc.length c0) (.string ⟨#[115,112,111,105,108,116]⟩) (.slice none 0 0) (by intro u hu;simp at hu;rcases hu with rfl | rfl <;> rfl) wr0 (zeI how))
   clear how
   go_wp2_with fail
   refine (oz HC).mono ?_
   rintro e w2 ⟨⟨r0,rfl⟩,hg⟩
   have HS2:Hz (SpS W w2 lo vs ls (fun i =>q+0 < i)):=kz (((oz HS).hit (oz HA) (.inl rfl) (oz H0).1 (oz H0).2 hg).mono (fun i hi =>by have:=oz HQ;omega))
   have HX2:Hz (Blk w2 N #[.slice a0 T.sc.length c0,.slice a1 T.co.length c1,.slice a2 T.ma.length c2,.slice a3 T.pr.length c3,.slice a4 T.fo.length c4,.slice a5 T.lk.length c5,.slice a6 T.dr.length c6,.slice a7 T.al.length c7] 33):=kz ((oz HX).kept hg (zbK (oz HX) (oz HO) (by decide)))
   clear hg HC HO z0  HS HX
   have z0:=(oz HX2).cell 1
   have how:=(oz HS2).rm _ _ _ (by show q+0 < q+1+0;omega) (oz HI2 0 _ _ rfl rfl).1 (oz HI2 0 _ _ rfl rfl).2
   have HO:=kz how
   have er:=(oz HR).lo h4 (oz HS2).bl (oz HS2).lw
   have em0:=er.m0
   have em1:=er.m1
   have HC:=kz (zeJ lo (.slice a1 T.co.length c1) (.int .i32 (-77)) (.int .i32 0) (by intro u hu;simp at hu;rcases hu with rfl | rfl <;> rfl) w2 (zeI how))
   clear how er
   go_wp2_with fail
   refine (oz HC).mono ?_
   rintro e w3 ⟨⟨r1,rfl⟩,hg⟩
   have HS3:Hz (SpS W w3 lo vs ls (fun i =>q+1 < i)):=kz (((oz HS2).hit (oz HA) (by show q+0 < q+1+0;omega) (oz HI2 0 _ _ rfl rfl).1 (oz HI2 0 _ _ rfl rfl).2 hg).mono (fun i hi =>by have:=oz HQ;omega))
   have HX3:Hz (Blk w3 N #[.slice a0 T.sc.length c0,.slice a1 T.co.length c1,.slice a2 T.ma.length c2,.slice a3 T.pr.length c3,.slice a4 T.fo.length c4,.slice a5 T.lk.length c5,.slice a6 T.dr.length c6,.slice a7 T.al.length c7] 33):=kz ((oz HX2).kept hg (zbK (oz HX2) (oz HO) (by decide)))
   clear hg HC HO z0 em0 em1 HS2 HX2
   have z0:=(oz HX3).cell 2
   have how:=(oz HS3).rm _ _ _ (by show q+1 < q+1+1;omega) (oz HI2 1 _ _ rfl rfl).1 (oz HI2 1 _ _ rfl rfl).2
   have HO:=kz how
   have er:=(oz HR).lo h4 (oz HS3).bl (oz HS3).lw
   have em2:=er.m2
   have em3:=er.m3
   have HC:=kz (over_Mark lo (.slice a2 T.ma.length c2) (.int .i32 0) (.int .i64 (-77)) (by intro u hu;simp at hu;rcases hu with rfl | rfl <;> rfl) w3 (zeI how))
   clear how er
   go_wp2_with fail
   refine (oz HC).mono ?_
   rintro e w4 ⟨⟨r2,rfl⟩,hg⟩
   have HS4:Hz (SpS W w4 lo vs ls (fun i =>q+2 < i)):=kz (((oz HS3).hit (oz HA) (by show q+1 < q+1+1;omega) (oz HI2 1 _ _ rfl rfl).1 (oz HI2 1 _ _ rfl rfl).2 hg).mono (fun i hi =>by have:=oz HQ;omega))
   have HX4:Hz (Blk w4 N #[.slice a0 T.sc.length c0,.slice a1 T.co.length c1,.slice a2 T.ma.length c2,.slice a3 T.pr.length c3,.slice a4 T.fo.length c4,.slice a5 T.lk.length c5,.slice a6 T.dr.length c6,.slice a7 T.al.length c7] 33):=kz ((oz HX3).kept hg (zbK (oz HX3) (oz HO) (by decide)))
   clear hg HC HO z0 em2 em3 HS3 HX3
   have z0:=(oz HX4).cell 3
   have how:=(oz HS4).rm _ _ _ (by show q+2 < q+1+2;omega) (oz HI2 2 _ _ rfl rfl).1 (oz HI2 2 _ _ rfl rfl).2
   have HO:=kz how
   have er:=(oz HR).lo h4 (oz HS4).bl (oz HS4).lw
   have em4:=er.m4
   have em5:=er.m5
   have em6:=er.m6
   have HC:=kz (over_Pair lo (.slice a3 T.pr.length c3) (.int .i32 (-77)) (.int .i32 0) (.int .i32 0) (by intro u hu;simp at hu;rcases hu with rfl | rfl | rfl <;> rfl) w4 (zeI how))
   clear how er
   go_wp2_with fail
   refine (oz HC).mono ?_
   rintro e w5 ⟨⟨r3,rfl⟩,hg⟩
   have HS5:Hz (SpS W w5 lo vs ls (fun i =>q+3 < i)):=kz (((oz HS4).hit (oz HA) (by show q+2 < q+1+2;omega) (oz HI2 2 _ _ rfl rfl).1 (oz HI2 2 _ _ rfl rfl).2 hg).mono (fun i hi =>by have:=oz HQ;omega))
   have HX5:Hz (Blk w5 N #[.slice a0 T.sc.length c0,.slice a1 T.co.length c1,.slice a2 T.ma.length c2,.slice a3 T.pr.length c3,.slice a4 T.fo.length c4,.slice a5 T.lk.length c5,.slice a6 T.dr.length c6,.slice a7 T.al.length c7] 33):=kz ((oz HX4).kept hg (zbK (oz HX4) (oz HO) (by decide)))
   clear hg HC HO z0 em4 em5 em6 HS4 HX4
   have z0:=(oz HX5).cell 4
   have how:=(oz HS5).rm _ _ _ (by show q+3 < q+1+3;omega) (oz HI2 3 _ _ rfl rfl).1 (oz HI2 3 _ _ rfl rfl).2
   have HO:=kz how
   have er:=(oz HR).lo h4 (oz HS5).bl (oz HS5).lw
   have em7:=er.m7
   have em8:=er.m8
   have HC:=kz (zkf lo (.slice a4 T.fo.length c4) (.int .i32 (-77)) (.string ⟨#[]⟩) (by intro u hu;simp at hu;rcases hu with rfl | rfl <;> rfl) w5 (zeI how))
   clear how er
   go_wp2_with fail
   refine (oz HC).mono ?_
   rintro e w6 ⟨⟨r4,rfl⟩,hg⟩
   have HS6:Hz (SpS W w6 lo vs ls (fun i =>q+4 < i)):=kz (((oz HS5).hit (oz HA) (by show q+3 < q+1+3;omega) (oz HI2 3 _ _ rfl rfl).1 (oz HI2 3 _ _ rfl rfl).2 hg).mono (fun i hi =>by have:=oz HQ;omega))
   have HX6:Hz (Blk w6 N #[.slice a0 T.sc.length c0,.slice a1 T.co.length c1,.slice a2 T.ma.length c2,.slice a3 T.pr.length c3,.slice a4 T.fo.length c4,.slice a5 T.lk.length c5,.slice a6 T.dr.length c6,.slice a7 T.al.length c7] 33):=kz ((oz HX5).kept hg (zbK (oz HX5) (oz HO) (by decide)))
   clear hg HC HO z0 em7 em8 HS5 HX5
   have z0:=(oz HX6).cell 5
   have how:=(oz HS6).rm _ _ _ (by show q+4 < q+1+4;omega) (oz HI2 4 _ _ rfl rfl).1 (oz HI2 4 _ _ rfl rfl).2
   have HO:=kz how
   have er:=(oz HR).lo h4 (oz HS6).bl (oz HS6).lw
   have em7:=er.m7
   have em8:=er.m8
   have HC:=kz (zkf lo (.slice a5 T.lk.length c5) (.int .i32 (-77)) (.string ⟨#[]⟩) (by intro u hu;simp at hu;rcases hu with rfl | rfl <;> rfl) w6 (zeI how))
   clear how er
   go_wp2_with fail
   refine (oz HC).mono ?_
   rintro e w7 ⟨⟨r5,rfl⟩,hg⟩
   have HS7:Hz (SpS W w7 lo vs ls (fun i =>q+5 < i)):=kz (((oz HS6).hit (oz HA) (by show q+4 < q+1+4;omega) (oz HI2 4 _ _ rfl rfl).1 (oz HI2 4 _ _ rfl rfl).2 hg).mono (fun i hi =>by have:=oz HQ;omega))
   have HX7:Hz (Blk w7 N #[.slice a0 T.sc.length c0,.slice a1 T.co.length c1,.slice a2 T.ma.length c2,.slice a3 T.pr.length c3,.slice a4 T.fo.length c4,.slice a5 T.lk.length c5,.slice a6 T.dr.length c6,.slice a7 T.al.length c7] 33):=kz ((oz HX6).kept hg (zbK (oz HX6) (oz HO) (by decide)))
   clear hg HC HO z0 em7 em8 HS6 HX6
   have z0:=(oz HX7).cell 6
   have how:=(oz HS7).rm _ _ _ (by show q+5 < q+1+5;omega) (oz HI2 5 _ _ rfl rfl).1 (oz HI2 5 _ _ rfl rfl).2
   have HO:=kz how
   have er:=(oz HR).lo h4 (oz HS7).bl (oz HS7).lw
   have em0:=er.m0
   have em1:=er.m1
   have HC:=kz (zeJ lo (.slice a6 T.dr.length c6) (.int .i32 (-77)) (.int .i32 0) (by intro u hu;simp at hu;rcases hu with rfl | rfl <;> rfl) w7 (zeI how))
   clear how er
   go_wp2_with fail
   refine (oz HC).mono ?_
   rintro e w8 ⟨⟨r6,rfl⟩,hg⟩
   have HS8:Hz (SpS W w8 lo vs ls (fun i =>q+6 < i)):=kz (((oz HS7).hit (oz HA) (by show q+5 < q+1+5;omega) (oz HI2 5 _ _ rfl rfl).1 (oz HI2 5 _ _ rfl rfl).2 hg).mono (fun i hi =>by have:=oz HQ;omega))
   have HX8:Hz (Blk w8 N #[.slice a0 T.sc.length c0,.slice a1 T.co.length c1,.slice a2 T.ma.length c2,.slice a3 T.pr.length c3,.slice a4 T.fo.length c4,.slice a5 T.lk.length c5,.slice a6 T.dr.length c6,.slice a7 T.al.length c7] 33):=kz ((oz HX7).kept hg (zbK (oz HX7) (oz HO) (by decide)))
   clear hg HC HO z0 em0 em1 HS7 HX7
   have z0:=(oz HX8).cell 7
   have how:=(oz HS8).rm _ _ _ (by show q+6 < q+1+6;omega) (oz HI2 6 _ _ rfl rfl).1 (oz HI2 6 _ _ rfl rfl).2
   have HO:=kz how
   have er:=(oz HR).lo h4 (oz HS8).bl (oz HS8).lw
   have em0:=er.m0
   have em1:=er.m1
   have HC:=kz (zeJ lo (.slice a7 T.al.length c7) (.int .i32 (-77)) (.int .i32 0) (by intro u hu;simp at hu;rcases hu with rfl | rfl <;> rfl) w8 (zeI how))
   clear how er
   go_wp2_with fail
   refine (oz HC).mono ?_
   rintro e w9 ⟨⟨r7,rfl⟩,hg⟩
   have HS9:Hz (SpS W w9 lo vs ls (fun i =>q+7 < i)):=kz (((oz HS8).hit (oz HA) (by show q+6 < q+1+6;omega) (oz HI2 6 _ _ rfl rfl).1 (oz HI2 6 _ _ rfl rfl).2 hg).mono (fun i hi =>by have:=oz HQ;omega))
   have HX9:Hz (Blk w9 N #[.slice a0 T.sc.length c0,.slice a1 T.co.length c1,.slice a2 T.ma.length c2,.slice a3 T.pr.length c3,.slice a4 T.fo.length c4,.slice a5 T.lk.length c5,.slice a6 T.dr.length c6,.slice a7 T.al.length c7] 33):=kz ((oz HX8).kept hg (zbK (oz HX8) (oz HO) (by decide)))
   clear hg HC HO z0 em0 em1 HS8 HX8
   go_wp2_with fail
   go_end0
   exact ⟨⟨_,rfl⟩,(oz HS9).bl⟩
end Go.Proofs.YtmdgejgokoadlaaGreatDoor
