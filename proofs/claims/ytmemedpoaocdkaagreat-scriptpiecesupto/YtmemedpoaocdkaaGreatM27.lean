/- Texts of this claim, one behind the other. -/
import Derived.Test.YtmemedpoaocdkaaGreatM26
import Derived.Lib.AppendZeros
import Derived.Test.YtmemedpoaocdkaaGreatM20
/- slices.Concat at two lists of spans. -/
namespace Go.Proofs.YtmemedpoaocdkaaGreat
open Go.RowKit Go.Shelf
set_option linter.unusedVariables false
set_option linter.unusedSimpArgs false
theorem zhI (W:World) (lo:Nat) (v:Value) (xs ys:List (Int × Int)) (b:Option Addr) (cb:Nat) (hx:xs.length≤1000000) (hy:ys.length≤1000000) (hv:W.ownsRow lo 113 2 v xs.length (zdC xs)) (hr:RowP W b ys) (hlo:lo≤W.heap.size) :
  ∃ v1 W1,(Builtin.append_ #[23,23] 23 #[v,.slice b ys.length cb]).run Tryz.prog W=.ok v1 W1∧W1.ownsRow lo 113 2 v1 (xs++ys).length (zdC (xs++ys))∧W.grownBy W1 v.ownBlock:=by
 obtain ⟨iP,hi0,hi1,hi2,hi3⟩:=info_parts zns
 have hcells:∀ p,b=some p→∀ j u,(zdC ys)[j]?=some u→W.cell? (p.add j)=some u:=fun p hp j u hu =>by
  have hl:=(List.getElem?_eq_some_iff.1 hu).1
  rw [zbL] at hl
  obtain ⟨g,o,h,hg,hc⟩:=hr (by omega)
  rw [hp] at h
  cases h
  rw [zeb]
  exact zib hc j u hu
 cases b with
 | none =>
  have h0:ys=[]:=by
   by_cases e:0 < ys.length
   ·obtain ⟨g,o,h,_⟩:=hr e;cases h
   ·exact List.eq_nil_of_length_eq_zero (by omega)
  subst h0
  refine ⟨v,W, ?_,by simpa using hv,⟨rfl,rfl,rfl,Nat.le_refl _,fun _ _ _ =>rfl⟩⟩
  rcases hv.2 with ⟨rfl,_⟩ | ⟨g,cap,cur,rfl,_,hg,h1,_⟩
  ·simp [Builtin.append_,run_underlying Tryz.underlying23,sizeOf,typeInfo,hi0,Builtin.lenOf,Builtin.firstCells,loadCells,loadCellsFrom]
  ·simp [Builtin.append_,run_underlying Tryz.underlying23,sizeOf,typeInfo,hi0,Builtin.lenOf,Builtin.firstCells,loadCells,loadCellsFrom,h1,storeCells]
 | some p =>
  obtain ⟨v2,w2,hr2,ho2,hg2,_⟩:=run_append_own (P:=Tryz.prog) W lo 23 23 113 iP (.agg #[.int .i32 0,.int .i32 0]) 2 8 Tryz.underlying23 hi0 hi1 hi2 hi3 rfl (by decide) v xs.length (zdC xs) hv p ys.length cb (zdC ys) (zbL ys) (hcells p rfl) (zgV ys) (by unfold maxLen;omega) (by omega) hlo
  exact ⟨v2,w2,hr2,by rw [zes,List.length_append];exact ho2,hg2⟩
set_option maxRecDepth 100000 in
set_option maxHeartbeats 2000000 in
theorem znx (n:Nat) (hn:n≤2000000) (w:World):Calls Tryz.prog 203 #[.slice none 0 0,.int .i64 n] w fun e w' => ∃ v,e=.returned v∧w'.ownsRow w.heap.size 113 2 v 0 []∧Below w.heap.size w w':=by
 by_cases h0:0 < n
 ·obtain ⟨i0,hi,hz0,hz1,hz2⟩:=info_parts zns
  have kzr:=Lib.run_append_nil_zeros (P:=Tryz.prog) w 23 3 23 113 i0 (.agg #[.int .i32 0,.int .i32 0]) .i64 .i64 Tryz.underlying23 Tryz.underlying3 hi hz0 n h0 (by rw [hz1];omega) (by omega) (by rw [hz2];omega)
  have hge:=grownCap_ge w n 0 113
  have hle:=grownCap_le_maxLen w n 0 113 (by unfold maxLen;omega)
  have hcz:∀ m,(Builtin.zeroCells (Value.agg #[.int .i32 0,.int .i32 0]).cells m).size=2*m:=fun m =>by rw [size_zeroCells];simp [Value.cells];omega
  have hsz:(Builtin.zeroCells (Value.agg #[.int .i32 0,.int .i32 0]).cells n++Builtin.zeroCells (Value.agg #[.int .i32 0,.int .i32 0]).cells (grownCap w n 0 113 - n)).size=2*grownCap w n 0 113:=by rw [Array.size_append,hcz,hcz];omega
  generalize Builtin.zeroCells (Value.agg #[.int .i32 0,.int .i32 0]).cells n++Builtin.zeroCells (Value.agg #[.int .i32 0,.int .i32 0]).cells (grownCap w n 0 113 - n)=cs at *
  generalize grownCap w n 0 113=cap at *
  have h1:(0:Int) < (n:Int):=by omega
  have h2:(n:Int)≤4194304:=by omega
  have HSZ:=kz hsz
  have hcap:(0:Int)≤(cap:Int):=by omega
  have HLE:=kz hle
  have HGE:=kz hge
  clear hi hz0 hz1 hz2 hcz hsz hle hge
  go_enter Tryz.func203,Tryz.ntmps203
  go_wp2_with (at_builtin;refine Lib.wpList_append_run _ rfl _ _ 23 3 rfl (.slice none 0 0) (.int .i64 n) rfl rfl _ _ kzr ?_)
  go_ret
  refine ⟨_,rfl,⟨by simp,.inr ⟨w.heap.size,cap,cs,rfl,Nat.le_refl _,World.alloc_heap_new w.drew _,by omega,oz HLE,by rw [oz HSZ];omega,by simp⟩⟩,((Below.refl _ _).drew).alloc (Nat.le_refl _) _⟩
 ·obtain rfl:n=0:=by omega
  clear h0 hn
  go_enter Tryz.func203,Tryz.ntmps203
  go_wp2
  go_ret
  exact ⟨_,rfl,World.ownsRow_nil _ _ _ _,Below.refl _ _⟩
set_option maxRecDepth 100000 in
set_option maxHeartbeats 4000000 in
theorem zhx (G:Nat) (a b:Option Addr) (c1 c2:Nat) (xs ys:List (Int × Int)) (hx:xs.length≤1000000) (hy:ys.length≤1000000) (w:World) (hB:Blk w G #[.slice a xs.length c1,.slice b ys.length c2] 23) (h1:RowP w a xs) (h2:RowP w b ys) :
  Calls Tryz.prog 190 #[.slice (some ⟨G,0,none⟩) 2 2] w fun e w' => ∃ v,e=.returned v∧w'.ownsRow w.heap.size 113 2 v (xs++ys).length (zdC (xs++ys))∧Below w.heap.size w w':=by
 have d0:=hB.cell 0
 have d1:=hB.cell 1
 have HBk:=kz hB
 have H1:=kz h1
 have H2:=kz h2
 have hxi:(xs.length:Int)≤1000000:=by omega
 have hyi:(ys.length:Int)≤1000000:=by omega
 clear hB h1 h2
 have hgr:=znx (xs.length+ys.length) (by omega)
 rw [show ((xs.length+ys.length:Nat):Int)=(xs.length:Int)+(ys.length:Int) by omega] at hgr
 have HG:=kz hgr
 have hs1:¬ (xs.length:Int) < 0:=by omega
 have hs2:¬ (xs.length:Int)+(ys.length:Int) < 0:=by omega
 clear hgr
 go_enter Tryz.func190,Tryz.ntmps190
 go_wp2_with fail
 refine wp_loop_rounds 3 ?_
 rw [rounds_succ]
 go_wp2_with fail
 rw [rounds_succ]
 go_wp2_with fail
 rw [rounds_succ]
 go_wp2_with fail
 refine (oz HG _).mono ?_
 rintro e w1 ⟨v,rfl,hown,hb⟩
 have hlt1:=hb.size
 have K1:=(oz H1).below hb
 obtain ⟨v2,w2,hr2,ho2,hg2⟩:=zhI w1 w.heap.size v [] xs a c1 (by simp) hx (show w1.ownsRow w.heap.size 113 2 v 0 [] from hown) K1 hlt1
 rw [List.nil_append] at ho2
 have hb2:Below w.heap.size w w2:=hb.grown hg2 hlt1 (fun k hk =>(hown.lt k hk).1)
 have hBk:=(oz HBk).below hb (oz HBk).lt
 clear d0 d1
 have d0:=hBk.cell 0
 have d1:=hBk.cell 1
 have hBk2:=(oz HBk).below hb2 (oz HBk).lt
 have f1:=hBk2.cell 1
 have hlt2:=hb2.size
 have K2:=(oz H2).below hb2
 obtain ⟨v3,w3,hr3,ho3,hg3⟩:=zhI w2 w.heap.size v2 xs ys b c2 hx hy ho2 K2 hlt2
 have hb3:Below w.heap.size w w3:=hb2.grown hg3 hlt2 (fun k hk =>(ho2.lt k hk).1)
 have HE:=kz ho3
 have HBE:=kz hb3
 have HR2:=kz hr2
 have HR3:=kz hr3
 clear hown hb hBk K1 hr2 ho2 hg2 hb2 hBk2 K2 hr3 ho3 hg3 hb3 hs1 hs2 HG
 go_wp2_with fail
 refine wp_loop_rounds 3 ?_
 rw [rounds_succ]
 go_wp2_with (at_builtin;refine Lib.wpList_append_run _ rfl _ _ 23 23 rfl v (.slice a xs.length c1) rfl rfl v2 w2 (oz HR2) ?_)
 rw [rounds_succ]
 go_wp2_with (at_builtin;refine Lib.wpList_append_run _ rfl _ _ 23 23 rfl v2 (.slice b ys.length c2) rfl rfl v3 w3 (oz HR3) ?_)
 rw [rounds_succ]
 go_wp2
 go_ret
 exact ⟨_,rfl,oz HE,oz HBE⟩
end Go.Proofs.YtmemedpoaocdkaaGreat
namespace Go.Proofs.YtmemedpoaocdkaaGreat
open Go.RowKit Go.Shelf
set_option linter.unusedVariables false
theorem zlB {zs ys:List (Int × Int)} (h:Spread zs) (g:Spread ys):zbb (zs++ys):=fun x hx =>by
 rcases List.mem_append.1 hx with e | e
 ·exact h.ends x e
 ·exact g.ends x e
set_option maxRecDepth 100000 in
set_option maxHeartbeats 4000000 in
theorem zms (B:Nat) (p:Option Addr) (zs ys:List (Int × Int)) (hz:zs.length≤10000) (hy:ys.length≤10000) (w:World) (hs:SetAt w B zs) (ht:SomeAt w p ys) :
  Calls Tryz.prog 149 #[.pointer (some ⟨B,0,none⟩),.pointer p] w fun e w' => ∃ (B' lo0:Nat) (us:List (Int × Int)),e=.returned (.pointer (some ⟨B',0,none⟩))∧w.heap.size≤lo0∧Made w' B' lo0 us∧Spread us∧us.length≤zs.length+ys.length∧(∀ r,zan us r=(zan zs r || zan ys r))∧Below w.heap.size w w':=by
 have hRt:=zlB hs.spread ht.spread
 obtain ⟨⟨a,ca,b,cb,hb0,hp,ha⟩,hsp,hl⟩:=hs
 have d0:=hb0.cell 0
 have d1:=zf3 d0
 have hmx2:Tryz.prog.follows .mixedOrders=true:=by kernel_rfl
 have hmem:∀ r,zan (zs++ys) r=(zan zs r || zan ys r):=zbI zs ys
 have hlen:(zs++ys).length=zs.length+ys.length:=List.length_append
 rcases ht with ⟨rfl,rfl⟩ | ⟨C,rfl,hC⟩
 ·have HSo:=kz (fun w =>ziw w)
  have x0:=(Blk.new w #[.slice none 0 0,.slice none 0 0] 149).cell 0
  obtain ⟨W1,hW1⟩:∃ W1,W1=((w.alloc (.cells #[.slice none 0 0,.slice none 0 0] 149)).alloc (.cells #[.slice a zs.length ca,.slice none 0 0] 23)).drew:=⟨_,rfl⟩
  have hb1:Below w.heap.size w W1:=by rw [hW1];exact (((Below.refl w.heap.size w).alloc (Nat.le_refl _) _).alloc (by simp) _).drew
  have hG:Blk W1 (w.heap.size+1) #[.slice a zs.length ca,.slice none 0 0] 23:=by
   have:=Blk.new (w.alloc (.cells #[.slice none 0 0,.slice none 0 0] 149)) #[.slice a zs.length ca,.slice none 0 0] 23
   rw [World.size_alloc] at this
   rw [hW1]
   exact this
  have hCo:=zhx (w.heap.size+1) a none ca 0 zs [] (by omega) (by simp) W1 hG (hp.below hb1) (fun h =>by simp at h)
  generalize zs++[]=us at *
  have HCo:=kz hCo
  have HB1:=kz hb1
  have HRt:=kz hRt
  have HMe:=kz hmem
  have HLe:=kz hlen
  rw [hW1] at HCo
  clear hp ha hsp hb0 hl hb1 hG hCo hRt hmem hlen
  go_enter Tryz.func149,Tryz.ntmps149
  go_wp2_with fail
  go_region_law (first
   | (go_simp;refine (oz HSo _).mono ?_;rintro e w2 ⟨rfl,rfl⟩)
   | (go_simp;refine (oz HCo).mono ?_;rintro e w2 ⟨v,rfl,hown,hb⟩;obtain ⟨av,cv,rfl,hrow,_,_⟩:=ziB hown;have HRow:=kz hrow;have HBc:=kz hb;clear hown hrow hb)
   | (go_simp;refine (ziC av cv us (by have:=oz HLe;simp at this;omega) (oz HRt) _ (oz HRow)).mono ?_;rintro e w3 ⟨B',lo0,os,rfl,h1,h2,h3,h4,h5,h6⟩;have HE:=kz (And.intro h1 (And.intro h2 (And.intro h3 (And.intro h4 (And.intro h5 h6)))));clear h1 h2 h3 h4 h5 h6))
  all_goals
   rw [← hW1] at HBc
   go_wp2
   go_ret
   obtain ⟨h1,h2,h3,h4,h5,h6⟩:=oz HE
   have s1:=(oz HB1).size
   have s2:=(oz HBc).size
   have hle:=oz HLe
   have hle2:us.length=zs.length:=by simpa using hle
   exact ⟨B',rfl,lo0,by omega,os,h2,h3,by first | omega | (simp;omega),fun r =>by rw [h5 r,oz HMe r],(oz HB1).trans (((oz HBc).trans (h6.mono s2)).mono s1)⟩
 ·obtain ⟨⟨c,cc,d,cd,hc0,hq,_⟩,_,hl'⟩:=hC
  have e0:=hc0.cell 0
  have e1:=zf3 e0
  have HSo:=kz (fun w =>zix C w)
  obtain ⟨W1,hW1⟩:∃ W1,W1=(w.alloc (.cells #[.slice a zs.length ca,.slice c ys.length cc] 23)).drew:=⟨_,rfl⟩
  have hb1:Below w.heap.size w W1:=by rw [hW1];exact ((Below.refl w.heap.size w).alloc (Nat.le_refl _) _).drew
  have hG:Blk W1 w.heap.size #[.slice a zs.length ca,.slice c ys.length cc] 23:=by
   rw [hW1]
   exact Blk.new w #[.slice a zs.length ca,.slice c ys.length cc] 23
  have hCo:=zhx w.heap.size a c ca cc zs ys (by omega) (by omega) W1 hG (hp.below hb1) (hq.below hb1)
  generalize zs++ys=us at *
  have HCo:=kz hCo
  have HB1:=kz hb1
  have HRt:=kz hRt
  have HMe:=kz hmem
  have HLe:=kz hlen
  rw [hW1] at HCo
  clear hp ha hsp hb0 hl hb1 hG hCo hRt hmem hlen hc0 hq hl'
  go_enter Tryz.func149,Tryz.ntmps149
  go_wp2_with fail
  go_region_law (first
   | (go_simp;refine (oz HSo _).mono ?_;rintro e w2 ⟨rfl,rfl⟩)
   | (go_simp;refine (oz HCo).mono ?_;rintro e w2 ⟨v,rfl,hown,hb⟩;obtain ⟨av,cv,rfl,hrow,_,_⟩:=ziB hown;have HRow:=kz hrow;have HBc:=kz hb;clear hown hrow hb)
   | (go_simp;refine (ziC av cv us (by have:=oz HLe;omega) (oz HRt) _ (oz HRow)).mono ?_;rintro e w3 ⟨B',lo0,os,rfl,h1,h2,h3,h4,h5,h6⟩;have HE:=kz (And.intro h1 (And.intro h2 (And.intro h3 (And.intro h4 (And.intro h5 h6)))));clear h1 h2 h3 h4 h5 h6))
  all_goals
   rw [← hW1] at HBc
   go_wp2
   go_ret
   obtain ⟨h1,h2,h3,h4,h5,h6⟩:=oz HE
   have s1:=(oz HB1).size
   have s2:=(oz HBc).size
   have hle:=oz HLe
   exact ⟨B',rfl,lo0,by omega,os,h2,h3,by omega,fun r =>by rw [h5 r,oz HMe r],(oz HB1).trans (((oz HBc).trans (h6.mono s2)).mono s1)⟩
theorem SetAt.empty {w:World} {B:Nat} (h:Blk w B #[.slice none 0 0,.slice none 0 0] 149):SetAt w B []:=⟨⟨none,0,none,0,h,fun h =>by simp at h,fun h =>by simp at h⟩,⟨fun x h =>by simp at h,fun i j x y _ h =>by simp at h⟩,by simp⟩
theorem zo1 (p:Option Addr) (ys:List (Int × Int)) (w:World) (ht:SomeAt w p ys):Calls Tryz.prog 191 #[.pointer p] w fun e w' => ∃ C,e=.returned (.pointer (some ⟨C,0,none⟩))∧SetAt w' C ys∧Below w.heap.size w w':=by
 rcases ht with ⟨rfl,rfl⟩ | ⟨C,rfl,hC⟩
 ·exact (ziw w).mono fun e w' ⟨h1,h2⟩ =>⟨_,h1,by rw [h2];exact SetAt.empty (Blk.new w _ _),by rw [h2];exact (Below.refl _ _).alloc (Nat.le_refl _) _⟩
 ·exact (zix C w).mono fun e w' ⟨h1,h2⟩ =>⟨_,h1,by rw [h2];exact hC,by rw [h2];exact Below.refl _ _⟩
theorem zne (zs ys ns:List (Int × Int)) (h:∀ r,zan ns r=(zaq r && !zan ys r)) (r:Int):(zan zs r && zan ns r)=(zan zs r && !zan ys r):=by
 rw [h r]
 cases hz:zan zs r with
 | false =>rfl
 | true =>rw [((zaD _ _).1 hz).2];rfl
set_option maxRecDepth 100000 in
set_option maxHeartbeats 4000000 in
theorem zjp (B:Nat) (p:Option Addr) (zs ys:List (Int × Int)) (hz:zs.length≤5000) (hy:ys.length≤5000) (w:World) (hs:SetAt w B zs) (ht:SomeAt w p ys) :
  Calls Tryz.prog 150 #[.pointer (some ⟨B,0,none⟩),.pointer p] w fun e w' => ∃ (B' lo0:Nat) (us:List (Int × Int)),e=.returned (.pointer (some ⟨B',0,none⟩))∧w.heap.size≤lo0∧Made w' B' lo0 us∧Spread us∧us.length≤zs.length+ys.length+1∧(∀ r,zan us r=(zan zs r && !zan ys r))∧Below w.heap.size w w':=by
 have HS:=kz hs
 have HSo:=kz (zo1 p ys w ht)
 clear hs ht
 go_enter Tryz.func150,Tryz.ntmps150
 go_wp2_with fail
 refine (oz HSo).mono ?_
 rintro e w1 ⟨C,rfl,hC,hb1⟩
 have HC:=kz hC
 have HB1:=kz hb1
 have HS1:=kz ((oz HS).below hb1)
 clear hC hb1
 go_wp2_with fail
 refine (zqB C ys (by omega) w1 (oz HC)).mono ?_
 rintro e w2 ⟨D,lo1,ns,rfl,h1,h2,h3,h4,h5,h6⟩
 have HD:=kz (h2.set h3 (by omega))
 have HB2:=kz ((oz HB1).trans (h6.mono (oz HB1).size))
 have HS2:=kz ((oz HS1).below h6)
 have HN:=kz h5
 have hnl:ns.length≤5001:=by omega
 have HNL:=kz h4
 clear h1 h2 h3 h4 h5 h6
 go_wp2_with fail
 refine (zpo B _ zs ns (by omega) (by omega) w2 (oz HS2) (.inr ⟨D,rfl,oz HD⟩)).mono ?_
 rintro e w3 ⟨B',lo0,us,rfl,h1,h2,h3,h4,h5,h6⟩
 have HE:=kz (And.intro h1 (And.intro h2 (And.intro h3 (And.intro h4 (And.intro h5 h6)))))
 clear h1 h2 h3 h4 h5 h6
 go_wp2
 go_ret
 obtain ⟨h1,h2,h3,h4,h5,h6⟩:=oz HE
 have s1:=(oz HB2).size
 have hle:=oz HNL
 exact ⟨B',lo0,us,rfl,by omega,h2,h3,by omega,fun r =>by rw [h5 r,zne zs ys ns (oz HN) r],(oz HB2).trans (h6.mono s1)⟩
theorem zk7 (a b:Int) (w:World):Calls Tryz.prog 168 #[.int .i64 a,.int .i64 b] w fun e w' =>e=.returned (.bool (decide (a < b)))∧w'=w:=by
 have ha:(a != a)=false:=by simp
 go_enter Tryz.func168,Tryz.ntmps168
 go_wp2_with go_in
 go_ret
 exact ⟨rfl,rfl⟩
def zgv (m:Nat) (F:Nat→Int) (k:Nat) (n:Int):Bool:=decide (k < m∧F k=n)
set_option maxRecDepth 100000 in
set_option maxHeartbeats 4000000 in
theorem zj3 (p:Option Addr) (cap m:Nat) (F:Nat→Int) (hl:m≤1112064) (hr:∀ i j:Nat,i < j→j < m→F i < F j) (n:Int) (W:World) (hi:0 < m→∃ g o,p=some ⟨g,o,none⟩∧g < W.heap.size∧∀ j,j < m→W.cell? ⟨g,o+j,none⟩=some (.int .i64 (F j))) :
  Calls Tryz.prog 101 #[.slice p m cap,.int .i64 n] W fun e w' => ∃ k:Nat,e=.returned (.tuple #[.int .i64 k,.bool (zgv m F k n)])∧k≤m∧(∀ j,j < k→F j < n)∧(∀ j,k≤j→j < m→n≤F j)∧Below W.heap.size W w':=by
 have HI:=kz hi
 have HRS:=kz hr
 clear hi hr
 go_enter Tryz.func101,Tryz.ntmps101
 go_wp2
 go_loop [7,8] (fun i j => ∃ a b:Nat,a≤b∧b≤m∧i=.int .i64 a∧j=.int .i64 b∧Hz (∀ j,j < a→F j < n)∧Hz (∀ j,b≤j→j < m→n≤F j)) (fun i j =>(intOf j).toNat - (intOf i).toNat)
 case atStart =>exact ⟨0,m,by omega,Nat.le_refl _,rfl,rfl,kz (fun j hj =>by omega),kz (fun j h1 h2 =>by omega)⟩
 case round =>
  obtain ⟨a,b,hab,hb,rfl,rfl,H1,H2⟩:=hrel
  by_cases hlt:a < b
  ·have h1:(a:Int) < (b:Int):=by omega
   obtain ⟨g,o,rfl,hg,hc⟩:=oz HI (by omega)
   have ck:=hc ((a+b) / 2) (by omega)
   have HM:Hz (∀ j,j < (a+b) / 2→F j < F ((a+b) / 2)):=kz (fun j hj =>oz HRS j _ hj (by omega))
   have HM2:Hz (∀ j,(a+b) / 2 < j→j < m→F ((a+b) / 2) < F j):=kz (fun j hj h2 =>oz HRS _ j hj h2)
   obtain ⟨x,hx⟩:∃ x,F ((a+b) / 2)=x:=⟨_,rfl⟩
   rw [hx] at ck HM HM2
   have HX:=kz hx
   clear hx hc
   by_cases hxn:x < n
   ·have hd:decide (x < n)=true:=decide_eq_true hxn
    go_wp2_with (go_at_call 168;refine (zk7 _ _ _).mono ?_;rintro e w' ⟨rfl,rfl⟩)
    go_round
    case rel =>
     refine ⟨(a+b) / 2+1,b,by omega,hb, ?_,rfl,kz (fun j hj =>?_),H2⟩
     ·congr 1
     ·by_cases e:j=(a+b) / 2
      ·subst e;rw [oz HX];exact hxn
      ·have:=oz HM j (by omega);omega
    case measure =>simp [intOf];omega
   ·have hd:decide (x < n)=false:=decide_eq_false hxn
    go_wp2_with (go_at_call 168;refine (zk7 _ _ _).mono ?_;rintro e w' ⟨rfl,rfl⟩)
    go_round
    case rel =>
     refine ⟨a,(a+b) / 2,by omega,by omega,rfl, ?_,H1,kz (fun j hj h2 =>?_)⟩
     ·congr 1
     ·by_cases e:j=(a+b) / 2
      ·subst e;rw [oz HX];omega
      ·have:=oz HM2 j (by omega) h2;omega
    case measure =>simp [intOf];omega
  ·have h1:¬ (a:Int) < (b:Int):=by omega
   obtain rfl:a=b:=by omega
   by_cases hal:a < m
   ·obtain ⟨g,o,rfl,hg,hc⟩:=oz HI (by omega)
    have ck:=hc a hal
    have h2:(a:Int) < (m:Int):=by omega
    have h3:((a:Nat):Int).toNat=a:=by omega
    obtain ⟨x,hx⟩:∃ x,F a=x:=⟨_,rfl⟩
    rw [hx] at ck
    have HX:=kz hx
    clear hx hc
    by_cases hxn:x=n
    ·subst hxn
     have hxe:(x == x)=true:=by simp
     have HD:=kz (show zgv m F a x=true from decide_eq_true ⟨hal,oz HX⟩)
     go_wp2
     go_ret2
     exact ⟨a,by rw [oz HD];rfl,hb,oz H1,oz H2,Below.refl _ _⟩
    ·have hxe:(x == n)=false:=beq_eq_false_iff_ne.2 hxn
     have hxx:(x != x)=false:=by simp
     have HD:=kz (show zgv m F a n=false from decide_eq_false (fun h =>hxn ((oz HX).symm.trans h.2)))
     go_wp2_with go_in
     go_ret2
     exact ⟨a,by rw [oz HD];rfl,hb,oz H1,oz H2,Below.refl _ _⟩
   ·have h2:¬ (a:Int) < (m:Int):=by omega
    have HD:=kz (show zgv m F a n=false from decide_eq_false (fun h =>hal h.1))
    go_wp2
    go_ret2
    exact ⟨a,by rw [oz HD];rfl,hb,oz H1,oz H2,Below.refl _ _⟩
theorem zjY {zs:List (Int × Int)} (h:zbb zs):∀ i j:Nat,i < j→j < zs.length→total (zs.take i) < total (zs.take j):=by
 intro i j hij
 induction j with
 | zero =>omega
 | succ j ih =>
  intro hj
  obtain ⟨x,hx⟩:∃ x,zs[j]?=some x:=⟨_,List.getElem?_eq_getElem (by omega)⟩
  have hp:=h x (List.mem_of_getElem? hx)
  have:=ziu hp.1 hp.2
  rw [zdS hx,ze6]
  rcases Nat.lt_or_eq_of_le (show i≤j by omega) with a | a
  ·have:=ih a (by omega);omega
  ·subst a;omega
theorem zlS {zs:List (Int × Int)} (hR:zbb zs) {n:Int} (h0:0≤n) (h1:n < total zs) {k:Nat} (hk:k≤zs.length) (ha:∀ j,j < k→total (zs.take j) < n) (hb:∀ j,k≤j→j < zs.length→n≤total (zs.take j)) :
  ∃ (i:Nat) (x:Int × Int),(if zgv zs.length (fun j =>total (zs.take j)) k n then i=k else i+1=k)∧zs[i]?=some x∧total (zs.take i)≤n∧n < total (zs.take i)+zaN x:=by
 by_cases c:k < zs.length∧total (zs.take k)=n
 ·obtain ⟨x,hx⟩:∃ x,zs[k]?=some x:=⟨_,List.getElem?_eq_getElem c.1⟩
  have hp:=hR x (List.mem_of_getElem? hx)
  have:=ziu hp.1 hp.2
  exact ⟨k,x,by rw [show zgv zs.length (fun j =>total (zs.take j)) k n=true from decide_eq_true c];simp,hx,by omega,by omega⟩
 ·cases k with
  | zero =>
   exfalso
   by_cases l:0 < zs.length
   ·have:=hb 0 (Nat.le_refl _) l
    simp only [List.take_zero,total] at this
    exact c ⟨l,by simp only [List.take_zero,total];omega⟩
   ·have:zs=[]:=List.eq_nil_of_length_eq_zero (by omega)
    subst this
    simp [total] at h1
    omega
  | succ i =>
   obtain ⟨x,hx⟩:∃ x,zs[i]?=some x:=⟨_,List.getElem?_eq_getElem (by omega)⟩
   have ht:total (zs.take (i+1))=total (zs.take i)+zaN x:=by rw [zdS hx,ze6]
   refine ⟨i,x,by rw [show zgv zs.length (fun j =>total (zs.take j)) (i+1) n=false from decide_eq_false c];simp,hx,by have:=ha i (by omega);omega, ?_⟩
   by_cases l:i+1 < zs.length
   ·have:=hb (i+1) (Nat.le_refl _) l
    have:total (zs.take (i+1))≠n:=fun e =>c ⟨l,e⟩
    omega
   ·have:zs.take (i+1)=zs:=List.take_of_length_le (by omega)
    rw [this] at ht
    omega
set_option maxRecDepth 100000 in
set_option maxHeartbeats 4000000 in
theorem zsa (B:Nat) (zs:List (Int × Int)) (n:Int) (h0:0≤n) (h1:n < total zs) (w:World) (hs:SetAt w B zs) :
  Calls Tryz.prog 206 #[.pointer (some ⟨B,0,none⟩),.int .i64 n] w fun e w' =>e=.returned (.tuple #[.int .i32 (zb6 zs n),.bool true])∧Below w.heap.size w w':=by
 have HS:=kz hs
 have HZ:=kz (zfD B zs w hs)
 have htb:=(zdj hs.spread.ends).2
 have hlen:=hs.len
 have htt:total zs≤1236686340096:=by omega
 have hge:¬ total zs≤n:=by omega
 have HT:=kz h1
 generalize htg:total zs=tot at *
 have HTG:=kz htg
 clear hs htb hlen htg
 go_enter Tryz.func206,Tryz.ntmps206
 go_wp2_with fail
 refine (oz HZ).mono ?_
 rintro e w1 ⟨rfl,hb1⟩
 have HB1:=kz hb1
 have HS1:=kz ((oz HS).below hb1)
 clear hb1
 obtain ⟨⟨a,ca,b,cb,hb0,hp,ha⟩,hsp,hl⟩:=oz HS1
 have d0:=hb0.cell 0
 have d1:=hb0.cell 1
 have HQ:=kz (zj3 b cb zs.length (fun j =>total (zs.take j)) hl (zjY hsp.ends) n w1 ha)
 have HBk:=kz hb0
 have HP:=kz hp
 have HA:=kz ha
 have HSp:=kz hsp
 clear hb0 hp ha hsp
 go_wp2_with fail
 refine (oz HQ).mono ?_
 rintro e w2 ⟨k,rfl,hk,hka,hkb,hb2⟩
 obtain ⟨i,x,hif,hx,hx1,hx2⟩:=zlS (oz HSp).ends h0 (by rw [oz HTG];exact h1) hk hka hkb
 have HB2:=kz ((oz HB1).trans (hb2.mono (oz HB1).size))
 have hbk:=(oz HBk).below hb2 (oz HBk).lt
 have e0:=hbk.cell 0
 have e1:=hbk.cell 1
 have hil:=(List.getElem?_eq_some_iff.1 hx).1
 obtain ⟨g,o,rfl,hg,hc⟩:=((oz HP).below hb2) (by omega)
 obtain ⟨g',o',rfl,hg',hc'⟩:=((oz HA).below hb2) (by omega)
 have c0:=(hc i x hx).1
 have c2:=hc' i hil
 have HV:=kz (zm6 zs i x n (oz HSp).ends hx hx1 hx2)
 have hex:=zas ((oz HSp).ends x (List.mem_of_getElem? hx)).1
 have r1:=zaF hex.1.1 hex.1.2.1
 have r2:=zaF hex.2.1 hex.2.2.1
 have hss:zaN x=zae x.2+1 - zae x.1:=rfl
 have htk:0≤total (zs.take i):=zdQ (oz HSp).ends i
 have hlo:0≤x.1∧x.1≤1114111:=⟨hex.1.1,hex.1.2.1⟩
 rw [hss] at hx2
 generalize hdc:zgv zs.length (fun j =>total (zs.take j)) k n=dc at hif ⊢
 clear hdc hka hkb
 generalize total (zs.take i)=tk at *
 obtain ⟨lo,hi⟩:=x
 simp only at c0 hx2 HV r1 r2 hlo
 have hi1:(i:Int) < (zs.length:Int):=by omega
 have hi2:((i:Nat):Int).toNat=i:=by omega
 clear hb2 hbk hc hc' hx hss HQ HS HS1 HA HP HBk HZ hex
 cases dc with
 | true =>
  simp at hif
  subst hif
  go_wp2
  go_quiet (first | (go_at_call 202;exact Calls.quiet_of_same (zdE _ (by omega) (by omega) _)) | (go_at_call 217;exact Calls.quiet_of_same (zfb _ (by omega) (by omega) _)))
  go_wp2
  go_ret2
  exact ⟨by rw [oz HV,show zae lo+(n - tk)=zae lo+n - tk by omega];rfl,below_drewN (oz HB2) _⟩
 | false =>
  simp at hif
  subst hif
  have hi3:((i+1:Nat):Int) - 1=(i:Int):=by omega
  go_wp2
  go_quiet (first | (go_at_call 202;exact Calls.quiet_of_same (zdE _ (by omega) (by omega) _)) | (go_at_call 217;exact Calls.quiet_of_same (zfb _ (by omega) (by omega) _)))
  go_wp2
  go_ret2
  exact ⟨by rw [oz HV,show zae lo+(n - tk)=zae lo+n - tk by omega];rfl,below_drewN (oz HB2) _⟩
set_option maxRecDepth 100000 in
set_option maxHeartbeats 4000000 in
theorem zrP (B:Nat) (zs:List (Int × Int)) (n:Int) (h:n < 0∨total zs≤n) (w:World) (hs:SetAt w B zs) :
  Calls Tryz.prog 206 #[.pointer (some ⟨B,0,none⟩),.int .i64 n] w fun e w' =>e=.returned (.tuple #[.int .i32 0,.bool false])∧Below w.heap.size w w':=by
 have HZ:=kz (zfD B zs w hs)
 by_cases h0:n < 0
 ·go_enter Tryz.func206,Tryz.ntmps206
  go_wp2
  go_ret2
  exact ⟨rfl,Below.refl _ _⟩
 ·have h1:total zs≤n:=by omega
  generalize total zs=tot at *
  clear hs h
  go_enter Tryz.func206,Tryz.ntmps206
  go_wp2_with fail
  refine (oz HZ).mono ?_
  rintro e w1 ⟨rfl,hb1⟩
  have HB1:=kz hb1
  clear hb1
  go_wp2
  go_ret2
  exact ⟨rfl,oz HB1⟩
def zn8 (zs:List (Int × Int)) (n:Int):Value:=if 0≤n∧n < total zs then .tuple #[.int .i32 (zb6 zs n),.bool true] else .tuple #[.int .i32 0,.bool false]
theorem zp4 (B:Nat) (zs:List (Int × Int)) (n:Int) (w:World) (hs:SetAt w B zs) :
  Calls Tryz.prog 206 #[.pointer (some ⟨B,0,none⟩),.int .i64 n] w fun e w' =>e=.returned (zn8 zs n)∧Below w.heap.size w w':=by
 unfold zn8
 by_cases h:0≤n∧n < total zs
 ·rw [if_pos h];exact zsa B zs n h.1 h.2 w hs
 ·rw [if_neg h];exact zrP B zs n (by omega) w hs
theorem zhD (B:Nat) (zs:List (Int × Int)) (r:Int) (h0 : -2147483648≤r) (h1:r≤2147483647) (w:World) (hs:SetAt w B zs) :
  Calls Tryz.prog 205 #[.pointer (some ⟨B,0,none⟩),.int .i32 r] w fun e w' =>e=.returned (.int .i64 (zaz zs r))∧Below w.heap.size w w' :=
 (zjL B zs r h0 h1 w hs).mono fun e w' ⟨k,he,hc,hb⟩ =>⟨by rw [he,zhF zs r k hs.spread hc],hb⟩
theorem zfx:∀ (zs:List (Int × Int)) (r:Int),zbb zs→-2147483648≤r→r≤2147483647→-(4294967296*zs.length)≤zaz zs r∧zaz zs r≤4294967296*zs.length
 | [],r,_,_,_ =>by simp [zaz]
 | x::zs,r,hR,h0,h1 =>by
  have ih:=zfx zs r (fun z hz =>hR z (List.mem_cons_of_mem _ hz)) h0 h1
  have he:=zas (hR x List.mem_cons_self).1
  have a:=zaF he.1.1 he.1.2.1
  have b:=zaF he.2.1 he.2.2.1
  have c : -2147483648≤zae r∧zae r≤2147483647:=by unfold zae;split <;> (try split) <;> omega
  simp only [List.length_cons]
  show _≤(if x.1 < r then _ else 0)+zaz zs r∧(if x.1 < r then _ else 0)+zaz zs r≤_
  split <;> omega
set_option maxRecDepth 100000 in
set_option maxHeartbeats 4000000 in
theorem zqD (B:Nat) (zs:List (Int × Int)) (r:Int) (hm:zan zs r=true) (h0 : -2147483648≤r) (h1:r≤2147483647) (w:World) (hs:SetAt w B zs) :
  Calls Tryz.prog 195 #[.pointer (some ⟨B,0,none⟩),.int .i32 r] w fun e w' =>e=.returned (zn8 zs (zaz zs r+1))∧Below w.heap.size w w':=by
 have HS:=kz hs
 have hbd:=zfx zs r hs.spread.ends h0 h1
 have hl:=hs.len
 have HQ:=kz (zhD B zs r h0 h1 w hs)
 have HI:=kz (fun w hs =>zk8 B zs r w hs)
 rw [hm] at HI
 obtain ⟨bo,hbo⟩:∃ bo,zaz zs r=bo:=⟨_,rfl⟩
 rw [hbo] at hbd HQ ⊢
 have hbb : -9000000000000000≤bo∧bo≤9000000000000000:=by omega
 obtain ⟨t,d,ht⟩:∃ t d,zn8 zs (bo+1)=.tuple #[.int .i32 t,.bool d]:=by
  unfold zn8
  split <;> exact ⟨_,_,rfl⟩
 have HA:=kz (fun w hs =>zp4 B zs (bo+1) w hs)
 rw [ht] at HA ⊢
 clear hs hbd hl hm hbo ht
 go_enter Tryz.func195,Tryz.ntmps195
 go_wp2_with fail
 refine (oz HQ).mono ?_
 rintro e w1 ⟨rfl,hb1⟩
 have HB1:=kz hb1
 have HS1:=kz ((oz HS).below hb1)
 clear hb1
 go_wp2_with fail
 refine (oz HI w1 (oz HS1)).mono ?_
 rintro e w2 ⟨rfl,hb2⟩
 have HB2:=kz ((oz HB1).trans (hb2.mono (oz HB1).size))
 have HS2:=kz ((oz HS1).below hb2)
 clear hb2
 go_wp2_with fail
 refine (oz HA w2 (oz HS2)).mono ?_
 rintro e w3 ⟨rfl,hb3⟩
 have HB3:=kz ((oz HB2).trans (hb3.mono (oz HB2).size))
 clear hb3
 go_wp2
 go_ret2
 exact ⟨rfl,oz HB3⟩
set_option maxRecDepth 100000 in
set_option maxHeartbeats 4000000 in
theorem zpi (B:Nat) (zs:List (Int × Int)) (r:Int) (hm:zan zs r=false) (h0 : -2147483648≤r) (h1:r≤2147483647) (w:World) (hs:SetAt w B zs) :
  Calls Tryz.prog 195 #[.pointer (some ⟨B,0,none⟩),.int .i32 r] w fun e w' =>e=.returned (zn8 zs (zaz zs r))∧Below w.heap.size w w':=by
 have HS:=kz hs
 have hbd:=zfx zs r hs.spread.ends h0 h1
 have hl:=hs.len
 have HQ:=kz (zhD B zs r h0 h1 w hs)
 have HI:=kz (fun w hs =>zk8 B zs r w hs)
 rw [hm] at HI
 obtain ⟨bo,hbo⟩:∃ bo,zaz zs r=bo:=⟨_,rfl⟩
 rw [hbo] at hbd HQ ⊢
 have hbb : -9000000000000000≤bo∧bo≤9000000000000000:=by omega
 obtain ⟨t,d,ht⟩:∃ t d,zn8 zs (bo)=.tuple #[.int .i32 t,.bool d]:=by
  unfold zn8
  split <;> exact ⟨_,_,rfl⟩
 have HA:=kz (fun w hs =>zp4 B zs (bo) w hs)
 rw [ht] at HA ⊢
 clear hs hbd hl hm hbo ht
 go_enter Tryz.func195,Tryz.ntmps195
 go_wp2_with fail
 refine (oz HQ).mono ?_
 rintro e w1 ⟨rfl,hb1⟩
 have HB1:=kz hb1
 have HS1:=kz ((oz HS).below hb1)
 clear hb1
 go_wp2_with fail
 refine (oz HI w1 (oz HS1)).mono ?_
 rintro e w2 ⟨rfl,hb2⟩
 have HB2:=kz ((oz HB1).trans (hb2.mono (oz HB1).size))
 have HS2:=kz ((oz HS1).below hb2)
 clear hb2
 go_wp2_with fail
 refine (oz HA w2 (oz HS2)).mono ?_
 rintro e w3 ⟨rfl,hb3⟩
 have HB3:=kz ((oz HB2).trans (hb3.mono (oz HB2).size))
 clear hb3
 go_wp2
 go_ret2
 exact ⟨rfl,oz HB3⟩
def zkh (b:Bool):Int:=if b then 1 else 0
def zeH (x:Int × Int) (r:Int):Int:=if x.1 < r then min (zae r) (zae x.2+1) - zae x.1 else 0
theorem ze3 (x:Int × Int) (zs:List (Int × Int)) (r:Int):zaz (x::zs) r=zeH x r+zaz zs r:=rfl
theorem zmV (r:Int):zae (r+1)=zae r+(if r < 55296∨57343 < r then 1 else 0):=by
 unfold zae
 repeat' split
 all_goals omega
theorem zkY {a b:Int} (h:a≤b):zae a≤zae b:=by
 unfold zae
 repeat' split
 all_goals omega
theorem zhN {x:Int × Int} (he:za8 x=true) (hx:x.1≤x.2) (r:Int):zeH x (r+1)=zeH x r+zkh (decide (x.1≤r∧r≤x.2) && zaq r):=by
 have e:=zas he
 have hs:=zmV r
 unfold zeH zkh
 by_cases h1:x.1 < r
 ·rw [if_pos h1,if_pos (by omega)]
  by_cases h2:r≤x.2
  ·have m1:=zkY h2
   by_cases h3:r < 55296∨57343 < r
   ·rw [if_pos h3] at hs
    have hb:(decide (x.1≤r∧r≤x.2) && zaq r)=true:=by unfold zaq;simp;omega
    rw [hb]
    simp only [if_true]
    omega
   ·rw [if_neg h3] at hs
    have hb:(decide (x.1≤r∧r≤x.2) && zaq r)=false:=by unfold zaq;simp;omega
    rw [hb]
    simp only [Bool.false_eq_true,if_false]
    omega
  ·have m1:=zcD (a:=x.2) (b:=r) (by omega) (by omega)
   have m2:=zcD (a:=x.2) (b:=r+1) (by omega) (by omega)
   have hb:(decide (x.1≤r∧r≤x.2) && zaq r)=false:=by simp;omega
   rw [hb]
   simp only [Bool.false_eq_true,if_false]
   omega
 ·rw [if_neg h1]
  by_cases h2:x.1=r
  ·subst h2
   rw [if_pos (by omega)]
   rw [if_pos (by omega)] at hs
   have hb:(decide (x.1≤x.1∧x.1≤x.2) && zaq x.1)=true:=by unfold zaq;simp;omega
   rw [hb]
   have m1:=zkY hx
   simp only [if_true]
   omega
  ·rw [if_neg (by omega)]
   have hb:(decide (x.1≤r∧r≤x.2) && zaq r)=false:=by simp;omega
   rw [hb]
   simp
theorem ze2:∀ (zs:List (Int × Int)) (r:Int),Spread zs→zaz zs (r+1)=zaz zs r+zkh (zan zs r)
 | [],r,_ =>by simp [zaz,zan,zkh]
 | x::zs,r,h =>by
  have he:=h.ends x List.mem_cons_self
  have hs:=zhN he.1 he.2 r
  have ht:=ze2 zs r h.tail
  rw [ze3,ze3,hs,ht]
  have hc:zan (x::zs) r=((decide (x.1≤r∧r≤x.2) && zaq r) || zan zs r):=by
   unfold zan
   simp only [List.any_cons,Bool.and_or_distrib_right]
  rw [hc]
  by_cases hd:(decide (x.1≤r∧r≤x.2) && zaq r)=true
  ·have hz:zan zs r=false:=by
    rw [← Bool.not_eq_true]
    intro hm
    obtain ⟨⟨y,hy,p,q⟩,_⟩:=(zaD _ _).1 hm
    have:=h.head_lt hy
    simp at hd
    omega
   rw [hd,hz]
   simp [zkh]
   omega
  ·rw [Bool.not_eq_true] at hd
   rw [hd,Bool.false_or]
   simp [zkh]
   omega
theorem zhE:∀ (zs:List (Int × Int)),Spread zs→zaz zs 1114112=total zs
 | [],_ =>rfl
 | x::zs,h =>by
  have he:=h.ends x List.mem_cons_self
  have e:=zas he.1
  have m1:=zcD (a:=x.2) (b:=1114112) (by omega) (by omega)
  rw [ze3,zcz,zhE zs h.tail]
  unfold zeH zaN
  rw [if_pos (by omega)]
  omega
theorem zlo {zs:List (Int × Int)} (h:Spread zs):(total zs == 0)=decide (zs=[]):=by
 cases zs with
 | nil =>rfl
 | cons x zs =>
  have he:=h.ends x List.mem_cons_self
  have p:=ziu he.1 he.2
  have q:=(zdj h.tail.ends).1
  have:total (x::zs)≠0:=by rw [zcz];omega
  simp [this]
theorem zgA:∀ (zs:List (Int × Int)) (r:Int),zbb zs→0≤zaz zs r
 | [],r,_ =>by simp [zaz]
 | x::zs,r,hR =>by
  have ih:=zgA zs r (fun z hz =>hR z (List.mem_cons_of_mem _ hz))
  have hx:=hR x List.mem_cons_self
  have he:=zas hx.1
  have hrk:=(zb3 he.1.2.2 he.2.2.2).2 hx.2
  show 0≤(if x.1 < r then _ else 0)+zaz zs r
  split
  ·rename_i h
   have:=zcD he.1.2.2 h
   omega
  ·omega
end Go.Proofs.YtmemedpoaocdkaaGreat
