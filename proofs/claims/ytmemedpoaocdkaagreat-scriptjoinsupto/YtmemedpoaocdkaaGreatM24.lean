/- Texts of this claim, one behind the other. -/
import Derived.Test.YtmemedpoaocdkaaGreatM23
import Derived.Test.YtmemedpoaocdkaaGreatM6
import Derived.Test.YtmemedpoaocdkaaGreatM21
import Derived.Test.YtmemedpoaocdkaaGreatM3
/- A Book of tables: bookOf, behind the scripts. -/
namespace Go.Proofs.YtmemedpoaocdkaaGreat
open Go.RowKit Go.Shelf Go.Maps
set_option linter.unusedVariables false
noncomputable def tail3:Code:=match Tryz.f52.body with
 | some (.seq _ (.seq _ (.seq _ (.seq _ t)))) =>t
 | _ =>.skip
noncomputable def tail2:Code:=match Tryz.f52.body with
 | some (.seq _ (.seq _ (.seq _ t))) =>t
 | _ =>.skip
theorem PaAt.lt {w:World} {M n:Nat} {zs:List (Int × Int × Int)} (h:PaAt w M n zs):M < w.heap.size:=by
 obtain ⟨G,h1,_⟩:=h.mp
 exact h1.lt
theorem JoAt.lt {w:World} {M n:Nat} {zs:List (Int × Int × Int)} (h:JoAt w M n zs):M < w.heap.size:=by
 obtain ⟨G,h1,_⟩:=h.mp
 exact h1.lt
set_option maxRecDepth 100000 in
set_option maxHeartbeats 8000000 in
theorem zmD (T:TV) (hn:T.pr.length≤1000000) (hz:∀ x ∈ T.pr,R32 x.1∧R32 x.2.1∧R32 x.2.2) {w2:World} {B P lo M6 M7 c3:Nat} {a3:Option Addr} {z0 z2 z4 z5 z6 z7 z8 z9 z10 z11 z12 z13 z14 z15 z16 z17 z18 z19 z20 z21 z22 z23 z24 z25 z26 z27 z28 z29 z30 z31 z32 z33 z34 z35 z36 z37 z38 z39 z40 z41 z42 z43 z44 z45 z46 z47 z48 z49 z50 z51 z52 z53 z54 z55 z56 z57 z58 z59 z60 z61 z62 z63 z64 z65 z66 z67 z68 z69 z70 z71 z72 z73 z74 z75 z76 z77 z78 z79 z80 z81 z82 z83 z84 z85 z86 z87 z88 z89 z90 z91 z92 z93 z94 z95 z96 z97 z98 z99 z100:Value} {Q:Exit→Act→World→Prop} (hmx:Tryz.prog.follows .mixedOrders=true)
  (hP:w2.cell? ⟨P,3,none⟩=some (.slice a3 T.pr.length c3))
  (HR:Hz (RowC w2 lo a3 (zdb T.pr)∧lo≤w2.heap.size∧lo≤M6∧lo≤M7∧M6≠M7∧B < w2.heap.size∧B≠M6∧B≠M7∧w2.cell? ⟨B,13,none⟩=some (.map (some M6))∧w2.cell? ⟨B,14,none⟩=some (.map (some M7))))
  (HM0:Hz (PaAt w2 M6 0 (T.pr.take 0)∧JoAt w2 M7 0 (T.pr.take 0)∧KeptX (fun g =>g=M6∨g=M7) w2 w2))
  (hQ:∀ (a:Act) (wn:World),a.tmps.getD 2 undef=.pointer (some ⟨B,0,none⟩)→a.defers=[]→Hz (PaAt wn M6 T.pr.length T.pr∧JoAt wn M7 T.pr.length T.pr∧KeptX (fun g =>g=M6∨g=M7) w2 wn)→Q .ret a wn) :
  Code.wp Tryz.prog tail3 Q { tmps:=#[z0,.pointer (some ⟨P,0,none⟩),z2,.pointer (some ⟨B,0,none⟩),z4,z5,z6,z7,z8,z9,z10,z11,z12,z13,z14,z15,z16,z17,z18,z19,z20,z21,z22,z23,z24,z25,z26,z27,z28,z29,z30,z31,z32,z33,z34,z35,z36,z37,z38,z39,z40,z41,z42,z43,z44,z45,z46,z47,z48,z49,z50,z51,z52,z53,z54,z55,z56,z57,z58,z59,z60,z61,z62,z63,z64,z65,z66,z67,z68,z69,z70,z71,z72,z73,z74,z75,z76,z77,z78,z79,z80,z81,z82,z83,z84,z85,z86,z87,z88,z89,z90,z91,z92,z93,z94,z95,z96,z97,z98,z99,z100],defers := [] } w2:=by
 have HQ:=kz hQ
 have HZ:=kz hz
 clear hQ hz
 delta tail3 Tryz.f52
 dsimp only
 go_wp2_with fail
 go_loopw [9,10,72] (fun _ _ s72 wr => ∃ k:Nat,k≤T.pr.length∧s72=.int .i64 k∧Hz (PaAt wr M6 k (T.pr.take k)∧JoAt wr M7 k (T.pr.take k)∧KeptX (fun g =>g=M6∨g=M7) w2 wr)) (fun _ _ s72 _ =>T.pr.length - (intOf s72).toNat)
 case atStart =>exact ⟨0,Nat.zero_le _,rfl,HM0⟩
 case round =>
  obtain ⟨k,hk,rfl,HM⟩:=hrel
  clear HM0
  by_cases hkn:k < T.pr.length
  ·obtain ⟨x,hx⟩:∃ x,T.pr[k]?=some x:=⟨_,List.getElem?_eq_getElem hkn⟩
   obtain ⟨n0,n1,n2⟩:=zdH T.pr k x hx
   obtain ⟨g,q,rfl,hg,hc⟩:=(oz HR).1 (by have:=(List.getElem?_eq_some_iff.1 n0).1;omega)
   have hgM:¬ (g=M6∨g=M7):=by have:=(oz HR).2.2.1;have:=(oz HR).2.2.2.1;omega
   have hgw:g < w2.heap.size:=Nat.lt_of_lt_of_le hg (oz HR).2.1
   have kc0:wr.cell? ⟨g,q+k*3,none⟩=some (.int .i32 x.1):=((oz HM).2.2.cell (p:=⟨g,q+k*3,none⟩) hgw hgM).trans (hc _ _ n0)
   have kc1:wr.cell? ⟨g,q+k*3+1,none⟩=some (.int .i32 x.2.1):=((oz HM).2.2.cell (p:=⟨g,q+k*3+1,none⟩) hgw hgM).trans (hc _ _ n1)
   have kc2:wr.cell? ⟨g,q+k*3+2,none⟩=some (.int .i32 x.2.2):=((oz HM).2.2.cell (p:=⟨g,q+k*3+2,none⟩) hgw hgM).trans (hc _ _ n2)
   have HKN:Hz (k+1≤T.pr.length):=kz hkn
   have HX0:=kz (And.intro hx (oz HZ x (List.mem_of_getElem? hx)))
   have hk1:(k:Int) < (T.pr.length:Int):=by omega
   have hk2:((k:Nat):Int).toNat=k:=by omega
   have HKB:Hz (k≤1000000):=kz (by omega)
   obtain ⟨x1,x2,x3⟩:=x
   dsimp only at kc0 kc1 kc2 HX0
   have HW:Hz (Below wr.heap.size wr ((wr.alloc (.cells #[.int .i32 x1,.int .i32 x2,.int .i32 x3] 117)).alloc (.cells #[.int .i32 x2,.int .i32 x3] 134)).drew):=kz ((((Below.refl _ wr).alloc (Nat.le_refl _) _).alloc (by simp) _).trans ⟨rfl,rfl,rfl,Nat.le_refl _,fun _ _ =>rfl⟩)
   have bP:Blk ((wr.alloc (.cells #[.int .i32 x1,.int .i32 x2,.int .i32 x3] 117)).alloc (.cells #[.int .i32 x2,.int .i32 x3] 134)).drew wr.heap.size #[.int .i32 x1,.int .i32 x2,.int .i32 x3] 117:=(Blk.new wr _ _).alloc _
   have bQ:Blk ((wr.alloc (.cells #[.int .i32 x1,.int .i32 x2,.int .i32 x3] 117)).alloc (.cells #[.int .i32 x2,.int .i32 x3] 134)).drew (wr.heap.size+1) #[.int .i32 x2,.int .i32 x3] 134:=by
    have:=Blk.new (wr.alloc (.cells #[.int .i32 x1,.int .i32 x2,.int .i32 x3] 117)) #[.int .i32 x2,.int .i32 x3] 134
    rw [World.size_alloc] at this
    exact this
   have HF:Hz (∀ w3,KeptX (fun g =>g=M6∨g=M7) ((wr.alloc (.cells #[.int .i32 x1,.int .i32 x2,.int .i32 x3] 117)).alloc (.cells #[.int .i32 x2,.int .i32 x3] 134)).drew w3→w3.cell? ⟨wr.heap.size,0,none⟩=some (.int .i32 x1)∧w3.cell? ⟨wr.heap.size+1,0,none⟩=some (.int .i32 x2)∧w3.cell? ⟨wr.heap.size+1,1,none⟩=some (.int .i32 x3)∧w3.cell? ⟨B,13,none⟩=some (.map (some M6))∧w3.cell? ⟨B,14,none⟩=some (.map (some M7))):=kz (fun w3 h3 =>by
    have hm6:=(oz HM).1.lt
    have hm7:=(oz HM).2.1.lt
    obtain ⟨_,_,_,_,_,hB,hB6,hB7,hc6,hc7⟩:=oz HR
    have hBr:B < wr.heap.size:=Nat.lt_of_lt_of_le hB (oz HM).2.2.size
    have bP3:=h3.blk bP (show ¬ (wr.heap.size=M6∨wr.heap.size=M7) by omega)
    have bQ3:=h3.blk bQ (show ¬ (wr.heap.size+1=M6∨wr.heap.size+1=M7) by omega)
    have kB:∀ j,w3.cell? ⟨B,j,none⟩=w2.cell? ⟨B,j,none⟩:=fun j =>(h3.cell (p:=⟨B,j,none⟩) (Nat.lt_of_lt_of_le hBr (oz HW).size) (show ¬ (B=M6∨B=M7) by omega)).trans (((oz HW).cell (p:=⟨B,j,none⟩) hBr).trans ((oz HM).2.2.cell (p:=⟨B,j,none⟩) hB (show ¬ (B=M6∨B=M7) by omega)))
    exact ⟨bP3.cell 0,bQ3.cell 0,bQ3.cell 1,(kB 13).trans hc6,(kB 14).trans hc7⟩)
   have HX:Hz (R32 x1∧R32 x2∧R32 x3∧k≤1000000∧M6≠M7∧PaAt ((wr.alloc (.cells #[.int .i32 x1,.int .i32 x2,.int .i32 x3] 117)).alloc (.cells #[.int .i32 x2,.int .i32 x3] 134)).drew M6 k (T.pr.take k)∧JoAt ((wr.alloc (.cells #[.int .i32 x1,.int .i32 x2,.int .i32 x3] 117)).alloc (.cells #[.int .i32 x2,.int .i32 x3] 134)).drew M7 k (T.pr.take k)):=kz ⟨(oz HX0).2.1,(oz HX0).2.2.1,(oz HX0).2.2.2,oz HKB,(oz HR).2.2.2.2.1,(oz HM).1.below (oz HW),(oz HM).2.1.below (oz HW)⟩
   clear hx hc n0 n1 n2 hgM hgw hg bP bQ
   go_wp2_with fail
   generalize ((wr.alloc (.cells #[.int .i32 x1,.int .i32 x2,.int .i32 x3] 117)).alloc (.cells #[.int .i32 x2,.int .i32 x3] 134))=wb at *
   refine zmS hmx HF HX ?_
   intro U wn HN
   have hkb:k+1≤1000000:=by have:=oz HKN;omega
   have HN2:Hz (PaAt wn M6 (k+1) (T.pr.take (k+1))∧JoAt wn M7 (k+1) (T.pr.take (k+1))∧KeptX (fun g =>g=M6∨g=M7) w2 wn):=kz (by
    rw [List.take_add_one,(oz HX0).1]
    exact ⟨(oz HN).1,(oz HN).2.1,((oz HM).2.2.trans (zat (oz HW) _)).trans (oz HN).2.2⟩)
   go_wp2_with fail
   exact ⟨⟨k+1,oz HKN,by go_num,HN2⟩,by have:=oz HKN;simp [intOf];omega⟩
  ·have hk1:¬ (k:Int) < (T.pr.length:Int):=by omega
   have HE:Hz (PaAt wr M6 T.pr.length T.pr∧JoAt wr M7 T.pr.length T.pr∧KeptX (fun g =>g=M6∨g=M7) w2 wr):=kz (by
    obtain rfl:k=T.pr.length:=by omega
    have:=oz HM
    rwa [List.take_of_length_le (Nat.le_refl _)] at this)
   clear HM
   go_wp2_with fail
   exact oz HQ _ _ rfl rfl HE
set_option maxRecDepth 100000 in
set_option maxHeartbeats 8000000 in
theorem zmE (T:TV) (hn:T.ma.length≤1000000) (hz:∀ x ∈ T.ma,R32 x.1∧-9223372036854775808≤x.2∧x.2≤9223372036854775807) {w2:World} {B P lo M5 c2:Nat} {a2:Option Addr} {z0 z2 z4 z5 z6 z7 z8 z9 z10 z11 z12 z13 z14 z15 z16 z17 z18 z19 z20 z21 z22 z23 z24 z25 z26 z27 z28 z29 z30 z31 z32 z33 z34 z35 z36 z37 z38 z39 z40 z41 z42 z43 z44 z45 z46 z47 z48 z49 z50 z51 z52 z53 z54 z55 z56 z57 z58 z59 z60 z61 z62 z63 z64 z65 z66 z67 z68 z69 z70 z71 z72 z73 z74 z75 z76 z77 z78 z79 z80 z81 z82 z83 z84 z85 z86 z87 z88 z89 z90 z91 z92 z93 z94 z95 z96 z97 z98 z99 z100:Value} {Q:Exit→Act→World→Prop} (hmx:Tryz.prog.follows .mixedOrders=true)
  (hP:w2.cell? ⟨P,2,none⟩=some (.slice a2 T.ma.length c2))
  (HR:Hz (RowC w2 lo a2 (zdO T.ma)∧lo≤w2.heap.size∧lo≤M5∧B < w2.heap.size∧B≠M5∧w2.cell? ⟨B,12,none⟩=some (.map (some M5))))
  (HM0:Hz (ClAt w2 M5 0 (T.ma.take 0)∧KeptX (fun g =>g=M5) w2 w2))
  (hQ:∀ (v7 v53 v54 v55 v56 v57 v58 v59 v60 v61 v62 v63 v64 v65 v66 v67 v68:Value) (wn:World),Hz (ClAt wn M5 T.ma.length T.ma∧KeptX (fun g =>g=M5) w2 wn)→Code.wp Tryz.prog tail3 Q { tmps:=#[z0,.pointer (some ⟨P,0,none⟩),z2,.pointer (some ⟨B,0,none⟩),z4,z5,z6,v7,z8,z9,z10,z11,z12,z13,z14,z15,z16,z17,z18,z19,z20,z21,z22,z23,z24,z25,z26,z27,z28,z29,z30,z31,z32,z33,z34,z35,z36,z37,z38,z39,z40,z41,z42,z43,z44,z45,z46,z47,z48,z49,z50,z51,z52,v53,v54,v55,v56,v57,v58,v59,v60,v61,v62,v63,v64,v65,v66,v67,v68,z69,z70,z71,z72,z73,z74,z75,z76,z77,z78,z79,z80,z81,z82,z83,z84,z85,z86,z87,z88,z89,z90,z91,z92,z93,z94,z95,z96,z97,z98,z99,z100],defers := [] } wn) :
  Code.wp Tryz.prog tail2 Q { tmps:=#[z0,.pointer (some ⟨P,0,none⟩),z2,.pointer (some ⟨B,0,none⟩),z4,z5,z6,z7,z8,z9,z10,z11,z12,z13,z14,z15,z16,z17,z18,z19,z20,z21,z22,z23,z24,z25,z26,z27,z28,z29,z30,z31,z32,z33,z34,z35,z36,z37,z38,z39,z40,z41,z42,z43,z44,z45,z46,z47,z48,z49,z50,z51,z52,z53,z54,z55,z56,z57,z58,z59,z60,z61,z62,z63,z64,z65,z66,z67,z68,z69,z70,z71,z72,z73,z74,z75,z76,z77,z78,z79,z80,z81,z82,z83,z84,z85,z86,z87,z88,z89,z90,z91,z92,z93,z94,z95,z96,z97,z98,z99,z100],defers := [] } w2:=by
 have HQ:=kz hQ
 have HZ:=kz hz
 clear hQ hz
 delta tail2 Tryz.f52
 dsimp only
 refine wp_seq_k (fun K hK =>?_)
 have HK:=kz hK
 clear hK
 go_wp2_with fail
 go_loopw [7,56] (fun _ s56 wr => ∃ k:Nat,k≤T.ma.length∧s56=.int .i64 k∧Hz (ClAt wr M5 k (T.ma.take k)∧KeptX (fun g =>g=M5) w2 wr)) (fun _ s56 _ =>T.ma.length - (intOf s56).toNat)
 case atStart =>exact ⟨0,Nat.zero_le _,rfl,HM0⟩
 case round =>
  obtain ⟨k,hk,rfl,HM⟩:=hrel
  clear HM0
  by_cases hkn:k < T.ma.length
  ·obtain ⟨x,hx⟩:∃ x,T.ma[k]?=some x:=⟨_,List.getElem?_eq_getElem hkn⟩
   obtain ⟨n0,n1⟩:=zgW T.ma k x hx
   obtain ⟨g,q,rfl,hg,hc⟩:=(oz HR).1 (by have:=(List.getElem?_eq_some_iff.1 n0).1;omega)
   have hgM:¬ g=M5:=by have:=(oz HR).2.2.1;omega
   have hgw:g < w2.heap.size:=Nat.lt_of_lt_of_le hg (oz HR).2.1
   have kc0:wr.cell? ⟨g,q+k*2,none⟩=some (.int .i32 x.1):=((oz HM).2.cell (p:=⟨g,q+k*2,none⟩) hgw hgM).trans (hc _ _ n0)
   have kc1:wr.cell? ⟨g,q+k*2+1,none⟩=some (.int .i64 x.2):=((oz HM).2.cell (p:=⟨g,q+k*2+1,none⟩) hgw hgM).trans (hc _ _ n1)
   have HKN:Hz (k+1≤T.ma.length):=kz hkn
   have HX0:=kz hx
   have HX:=kz (And.intro (oz HZ x (List.mem_of_getElem? hx)).1 (And.intro (oz HZ x (List.mem_of_getElem? hx)).2.1 (And.intro (oz HZ x (List.mem_of_getElem? hx)).2.2 (show k≤1000000 by omega))))
   have hk1:(k:Int) < (T.ma.length:Int):=by omega
   have hk2:((k:Nat):Int).toNat=k:=by omega
   obtain ⟨m1,m2⟩:=x
   dsimp only at kc0 kc1 HX HX0
   have HB2:Hz (Below wr.heap.size wr (wr.alloc (.cells #[.int .i32 m1,.int .i64 m2] 115)).drew):=kz (((Below.refl _ wr).alloc (Nat.le_refl _) _).trans ⟨rfl,rfl,rfl,Nat.le_refl _,fun _ _ =>rfl⟩)
   have bM:Blk (wr.alloc (.cells #[.int .i32 m1,.int .i64 m2] 115)).drew wr.heap.size #[.int .i32 m1,.int .i64 m2] 115:=Blk.new wr _ _
   have HF:Hz (∀ w3,KeptX (fun _ =>False) (wr.alloc (.cells #[.int .i32 m1,.int .i64 m2] 115)).drew w3→Blk w3 wr.heap.size #[.int .i32 m1,.int .i64 m2] 115∧w3.cell? ⟨B,12,none⟩=some (.map (some M5))∧ClAt w3 M5 k (T.ma.take k)):=kz (fun w3 h3 =>by
    obtain ⟨_,_,_,hB,hB5,hc5⟩:=oz HR
    have hBr:B < wr.heap.size:=Nat.lt_of_lt_of_le hB (oz HM).2.size
    exact ⟨bM.below h3.below bM.lt,(h3.below.cell (p:=⟨B,12,none⟩) (Nat.lt_of_lt_of_le hBr (oz HB2).size)).trans (((oz HB2).cell (p:=⟨B,12,none⟩) hBr).trans (((oz HM).2.cell (p:=⟨B,12,none⟩) hB hB5).trans hc5)),((oz HM).1.below (oz HB2)).below h3.below⟩)
   clear hx hc n0 n1 hgM hgw hg bM
   go_wp2_with fail
   generalize (wr.alloc (.cells #[.int .i32 m1,.int .i64 m2] 115))=wb at *
   refine zmT hmx HF HX ?_
   intro U wn HN
   have hkb:k+1≤1000000:=by have:=oz HKN;omega
   have HN2:Hz (ClAt wn M5 (k+1) (T.ma.take (k+1))∧KeptX (fun g =>g=M5) w2 wn):=kz ⟨by rw [List.take_add_one,oz HX0];exact (oz HN).1,((oz HM).2.trans (zat (oz HB2) _)).trans (oz HN).2⟩
   go_wp2_with fail
   exact ⟨⟨k+1,oz HKN,by go_num,HN2⟩,by have:=oz HKN;simp [intOf];omega⟩
  ·have hk1:¬ (k:Int) < (T.ma.length:Int):=by omega
   have HE:Hz (ClAt wr M5 T.ma.length T.ma∧KeptX (fun g =>g=M5) w2 wr):=kz (by
    obtain rfl:k=T.ma.length:=by omega
    have:=oz HM
    rwa [List.take_of_length_le (Nat.le_refl _)] at this)
   clear HM
   go_wp2_with fail
   exact oz HK _ _ (oz HQ _ _ _ _ _ _ _ _ _ _ _ _ _ _ _ _ _ _ HE)
def XMap (X:Nat→Prop) (w:World):Prop := ∀ g,X g→∃ es c,w.heap[g]?=some (.map es c)
theorem XMap.ty {X:Nat→Prop} {w:World} (h:XMap X w):XTy X w:=fun g hx =>.inr (h g hx)
theorem XMap.ok {X:Nat→Prop} {w:World} (h:XMap X w):XOk X w:=fun g hx =>.inr (h g hx)
theorem XMap.no {X:Nat→Prop} {w:World} (h:XMap X w) {g:Nat} {cur:Array Value} {t:TypeId} (hb:Blk w g cur t):¬ X g:=fun hx =>by
 obtain ⟨es,c,hm⟩:=h g hx
 unfold Blk at hb
 rw [hb] at hm
 injection hm with e
 cases e
theorem XMap.row {X:Nat→Prop} {w w':World} (hX:XMap X w) (k:KeptX X w w') {lo E sz n:Nat} {v:Value} {xs:List Value} (h:w.ownsRow lo E sz v n xs):w'.ownsRow lo E sz v n xs:=by
 rcases h.2 with ⟨e,h0⟩ | ⟨g,cap,cur,e,hb,hg,r⟩
 ·exact ⟨h.1,.inl ⟨e,h0⟩⟩
 ·exact ⟨h.1,.inr ⟨g,cap,cur,e,hb,k.blk hg (hX.no hg),r⟩⟩
theorem MpAt.isMap {w:World} {kt:TypeId} {R:Value→Option (DataW Unit × List MemPlace)} {M n:Nat} {G:Lit→Option (DataW Unit)} (h:MpAt w kt R M n G):∃ es c,w.heap[M]?=some (.map es c):=by
 obtain ⟨D,⟨es,clock,hb,r⟩,h2⟩:=h
 exact ⟨es,clock,hb⟩
theorem zev {lo:Nat} {W w w':World} {X:Nat→Prop} (h:Below lo W w) (hk:KeptX X w w') (hX:∀ g,X g→lo≤g) (hl:lo≤W.heap.size):Below lo W w' :=
 ⟨hk.os.trans h.os,hk.tape.trans h.tape,hk.output.trans h.output,Nat.le_trans h.size hk.size,fun g hg =>(hk.block g (Nat.lt_of_lt_of_le hg (Nat.le_trans hl h.size)) (fun hx =>by have:=hX g hx;omega)).trans (h.block g hg)⟩
theorem FoAt.keptB {w w':World} {B M n:Nat} {zs:List (Int × ByteArray)} {cur:Array Value} {t:TypeId} (h:FoAt w M n zs) (k:KeptX (fun g =>g=B) w w') (hb:Blk w B cur t) (hc:∀ q y,cur[0]?≠some (.int q y)):FoAt w' M n zs:=by
 obtain ⟨G,h1,h2⟩:=h.mp
 refine ⟨G,k.mp h1 (zcO h1 hb),fun r hr =>?_⟩
 rcases h2 r hr with h3 | ⟨x,hx,e,g,c,h4,h5,h6⟩
 ·exact .inl h3
 ·refine .inr ⟨x,hx,e,g,c,h4,h5,Nat.lt_of_lt_of_le h6.1 k.size,fun j y hy =>?_⟩
  refine (k.cell (p:=⟨g,j,none⟩) h6.1 (fun e =>?_)).trans (h6.2 j y hy)
  have e:g=B:=e
  subst e
  obtain ⟨y0,hy0⟩:∃ y0,(zah x.2)[0]?=some y0:=⟨_,List.getElem?_eq_getElem (by have:=(List.getElem?_eq_some_iff.1 hy).1;omega)⟩
  have:=h6.2 0 y0 hy0
  rw [hb.cell 0] at this
  exact hc _ _ this
structure BkA (w:World) (B lo:Nat) (T:TV) (t0 t1 t2 t3 t4 t5 t6 t7 sv:Value) (bs:List Nat) (Bc Bd Ba M5 n5 M6 n6 M7 n7 MF nF ML nL:Nat):Prop where
 bx:Blk w B (zq8 t0 t1 t2 t3 t4 t5 t6 t7 sv Bc Bd Ba M5 M6 M7 MF ML) 107
 tb:TabAt w lo T (.agg #[t0,t1,t2,t3,t4,t5,t6,t7])
 len:bs.length=T.sc.length
 row:w.ownsRow lo 101 1 sv T.sc.length (bs.map zke)
 sets:∀ (j:Nat) (s:ByteArray × List (Int × Int)) (b:Nat),T.sc[j]?=some s→bs[j]?=some b→SetV w s.2 b
 co:SetV w T.co Bc
 dr:SetV w T.dr Bd
 al:SetV w T.al Ba
 cl:ClAt w M5 n5 T.ma
 pa:PaAt w M6 n6 T.pr
 jo:JoAt w M7 n7 T.pr
 fo:FoAt w MF nF T.fo
 lk:FoAt w ML nL T.lk
theorem BkA.below {w w':World} {B lo:Nat} {T:TV} {t0 t1 t2 t3 t4 t5 t6 t7 sv:Value} {bs:List Nat} {Bc Bd Ba M5 n5 M6 n6 M7 n7 MF nF ML nL:Nat} (h:BkA w B lo T t0 t1 t2 t3 t4 t5 t6 t7 sv bs Bc Bd Ba M5 n5 M6 n6 M7 n7 MF nF ML nL) (hb:Below w.heap.size w w'):BkA w' B lo T t0 t1 t2 t3 t4 t5 t6 t7 sv bs Bc Bd Ba M5 n5 M6 n6 M7 n7 MF nF ML nL :=
 ⟨h.bx.below hb h.bx.lt,h.tb.below hb,h.len,zal h.row hb,fun j s b h1 h2 =>(h.sets j s b h1 h2).below hb,h.co.below hb,h.dr.below hb,h.al.below hb,h.cl.below hb,h.pa.below hb,h.jo.below hb,h.fo.below hb,h.lk.below hb⟩
def BookAt (w:World) (B:Nat) (T:TV):Prop := ∃ lo t0 t1 t2 t3 t4 t5 t6 t7 sv bs Bc Bd Ba M5 n5 M6 n6 M7 n7 MF nF ML nL,BkA w B lo T t0 t1 t2 t3 t4 t5 t6 t7 sv bs Bc Bd Ba M5 n5 M6 n6 M7 n7 MF nF ML nL
theorem BookAt.below {w w':World} {B:Nat} {T:TV} (h:BookAt w B T) (hb:Below w.heap.size w w'):BookAt w' B T:=by
 obtain ⟨lo,t0,t1,t2,t3,t4,t5,t6,t7,sv,bs,Bc,Bd,Ba,M5,n5,M6,n6,M7,n7,MF,nF,ML,nL,h⟩:=h
 exact ⟨lo,t0,t1,t2,t3,t4,t5,t6,t7,sv,bs,Bc,Bd,Ba,M5,n5,M6,n6,M7,n7,MF,nF,ML,nL,h.below hb⟩
theorem zmF {w:World} {lo:Nat} {T:TV} {t0 t1 t2 t3 t4 t5 t6 t7:Value} (h:TabAt w lo T (.agg #[t0,t1,t2,t3,t4,t5,t6,t7])):∀ q y,t0≠.int q y:=fun q y e0 =>by
 obtain ⟨v0,us,v1,v2,v3,v4,v5,v6,v7,e,hl,h1⟩:=h
 injection e with e
 have e:=congrArg (fun l:Array Value =>l[0]?) e
 have e:t0=v0:=by simpa using e
 have hr:=h1.own 0 v0 _ rfl rfl
 rcases hr.2 with ⟨e1,_⟩ | ⟨g,cap,cur,e1,_⟩
 ·rw [← e,e0] at e1;cases e1
 ·rw [← e,e0] at e1;cases e1
theorem zpP {w wr wn wq:World} {B lo:Nat} {T:TV} {t0 t1 t2 t3 t4 t5 t6 t7 sv:Value} {bs:List Nat} {Bc Bd Ba M5 n5 M6 n6 M7 n7 MF nF ML nL:Nat}
  (hK:BkC w lo T t0 t1 t2 t3 t4 t5 t6 t7 Bc Bd Ba M5 M6 M7 MF nF ML nL) (hB:Blk w B (zq8 t0 t1 t2 t3 t4 t5 t6 t7 (.slice none 0 0) Bc Bd Ba M5 M6 M7 MF ML) 107) (hlo:lo≤w.heap.size)
  (hS:ScSt w wr B T t0 t1 t2 t3 t4 t5 t6 t7 Bc Bd Ba M5 M6 M7 MF ML T.sc.length sv bs) (h2:ClAt wn M5 n5 T.ma) (k2:KeptX (fun g =>g=M5) wr wn) (h3:PaAt wq M6 n6 T.pr) (h4:JoAt wq M7 n7 T.pr) (k3:KeptX (fun g =>g=M6∨g=M7) wn wq):BookAt wq B T:=by
 have m5:=hK.m5 21 zeD
 have m6:=hK.m6 21 zeD
 have m7:=hK.m7 21 zeD
 have b5:=zcO m5 hB
 have b6:=zcO m6 hB
 have b7:=zcO m7 hB
 have x1:XTy (fun g =>g=B) w:=fun g e =>by
  subst e
  exact .inl ⟨_,_,hB,.inl rfl⟩
 have m5r:=hS.kp.mp m5 b5
 have x2:XMap (fun g =>g=M5) wr:=fun g e =>by
  subst e
  exact m5r.isMap
 have m6n:=k2.mp (hS.kp.mp m6 b6) (fun e =>hK.n56 e.symm)
 have m7n:=k2.mp (hS.kp.mp m7 b7) (fun e =>hK.n57 e.symm)
 have x3:XMap (fun g =>g=M6∨g=M7) wn:=fun g e =>by
  rcases e with e | e
  ·subst e
   exact m6n.isMap
  ·subst e
   exact m7n.isMap
 have sv1:∀ l C,SetV w l C→SetV wq l C:=fun l C h =>x3.ty.setV k3 (x2.ty.setV k2 (x1.setV hS.kp h))
 have hc0:∀ q y,(zq8 t0 t1 t2 t3 t4 t5 t6 t7 (.slice none 0 0) Bc Bd Ba M5 M6 M7 MF ML)[0]?≠some (.int q y):=fun q y e =>zmF hK.tb q y (Option.some.inj e)
 have fo1:∀ M n l,M≠M5→M≠M6→M≠M7→FoAt w M n l→FoAt wq M n l:=fun M n l q5 q6 q7 h =>x3.ok.fo k3 (x2.ok.fo k2 (h.keptB hS.kp hB hc0) q5) (fun e =>e.elim q6 q7)
 exact ⟨lo, t0, t1, t2, t3, t4, t5, t6, t7, sv, bs, Bc, Bd, Ba, M5, n5, M6, n6, M7, n7, MF, nF, ML, nL,
   { bx := k3.blk (k2.blk hS.bx (fun e => b5 e.symm)) (fun e => e.elim (fun e => b6 e.symm) (fun e => b7 e.symm))
     tb:=x3.ty.tab k3 (x2.ty.tab k2 (x1.tab hS.kp hK.tb))
     len:=hS.len
     row:=x3.row k3 (x2.row k2 (zaE hS.row hlo))
     sets:=fun j s b h1 hb =>x3.ty.setV k3 (x2.ty.setV k2 (hS.sets j s b h1 hb))
     co:=sv1 _ _ hK.co
     dr:=sv1 _ _ hK.dr
     al:=sv1 _ _ hK.al
     cl:=by
       obtain ⟨G,g1,g2⟩:=h2.mp
       exact ⟨G,k3.mp g1 (fun e =>e.elim hK.n56 hK.n57),g2⟩
     pa:=h3
     jo:=h4
     fo:=fo1 _ _ _ (fun e =>hK.n5F e.symm) (fun e =>hK.n6F e.symm) (fun e =>hK.n7F e.symm) hK.mF
     lk:=fo1 _ _ _ (fun e =>hK.n5L e.symm) (fun e =>hK.n6L e.symm) (fun e =>hK.n7L e.symm) hK.mL }⟩
theorem zmN {W w:World} {lo:Nat} {a:Option Addr} {zs:List Value} (h:RowC W lo a zs) (hc:∀ g j,g < lo→w.cell? ⟨g,j,none⟩=W.cell? ⟨g,j,none⟩):RowC w lo a zs:=fun h0 =>by
 obtain ⟨g,q,e,hg,h1⟩:=h h0
 exact ⟨g,q,e,hg,fun j v hv =>(hc g (q+j) hg).trans (h1 j v hv)⟩
theorem BookAt.cls {w:World} {B:Nat} {T:TV} (h:BookAt w B T):∃ M n,w.cell? ⟨B,12,none⟩=some (.map (some M))∧ClAt w M n T.ma:=by
 obtain ⟨lo,t0,t1,t2,t3,t4,t5,t6,t7,sv,bs,Bc,Bd,Ba,M5,n5,M6,n6,M7,n7,MF,nF,ML,nL,h⟩:=h
 exact ⟨M5,n5,h.bx.cell 12,h.cl⟩
theorem BookAt.pas {w:World} {B:Nat} {T:TV} (h:BookAt w B T):∃ M n,w.cell? ⟨B,13,none⟩=some (.map (some M))∧PaAt w M n T.pr:=by
 obtain ⟨lo,t0,t1,t2,t3,t4,t5,t6,t7,sv,bs,Bc,Bd,Ba,M5,n5,M6,n6,M7,n7,MF,nF,ML,nL,h⟩:=h
 exact ⟨M6,n6,h.bx.cell 13,h.pa⟩
theorem BookAt.fos {w:World} {B:Nat} {T:TV} (h:BookAt w B T):∃ M n,w.cell? ⟨B,15,none⟩=some (.map (some M))∧FoAt w M n T.fo:=by
 obtain ⟨lo,t0,t1,t2,t3,t4,t5,t6,t7,sv,bs,Bc,Bd,Ba,M5,n5,M6,n6,M7,n7,MF,nF,ML,nL,h⟩:=h
 exact ⟨MF,nF,h.bx.cell 15,h.fo⟩
theorem BookAt.lks {w:World} {B:Nat} {T:TV} (h:BookAt w B T):∃ M n,w.cell? ⟨B,16,none⟩=some (.map (some M))∧FoAt w M n T.lk:=by
 obtain ⟨lo,t0,t1,t2,t3,t4,t5,t6,t7,sv,bs,Bc,Bd,Ba,M5,n5,M6,n6,M7,n7,MF,nF,ML,nL,h⟩:=h
 exact ⟨ML,nL,h.bx.cell 16,h.lk⟩
theorem BookAt.cos {w:World} {B:Nat} {T:TV} (h:BookAt w B T):∃ C,w.cell? ⟨B,9,none⟩=some (.pointer (some ⟨C,0,none⟩))∧SetV w T.co C:=by
 obtain ⟨lo,t0,t1,t2,t3,t4,t5,t6,t7,sv,bs,Bc,Bd,Ba,M5,n5,M6,n6,M7,n7,MF,nF,ML,nL,h⟩:=h
 exact ⟨Bc,h.bx.cell 9,h.co⟩
theorem BookAt.drs {w:World} {B:Nat} {T:TV} (h:BookAt w B T):∃ C,w.cell? ⟨B,10,none⟩=some (.pointer (some ⟨C,0,none⟩))∧SetV w T.dr C:=by
 obtain ⟨lo,t0,t1,t2,t3,t4,t5,t6,t7,sv,bs,Bc,Bd,Ba,M5,n5,M6,n6,M7,n7,MF,nF,ML,nL,h⟩:=h
 exact ⟨Bd,h.bx.cell 10,h.dr⟩
theorem BookAt.als {w:World} {B:Nat} {T:TV} (h:BookAt w B T):∃ C,w.cell? ⟨B,11,none⟩=some (.pointer (some ⟨C,0,none⟩))∧SetV w T.al C:=by
 obtain ⟨lo,t0,t1,t2,t3,t4,t5,t6,t7,sv,bs,Bc,Bd,Ba,M5,n5,M6,n6,M7,n7,MF,nF,ML,nL,h⟩:=h
 exact ⟨Ba,h.bx.cell 11,h.al⟩
theorem zdW {w:World} {l:List (Int × Int)} {C:Nat} (hl:l.length≤1000000) (h:SetV w l C) (r:Int):Calls Tryz.prog 65 #[.pointer (some ⟨C,0,none⟩),.int .i32 r] w fun e w' =>e=.returned (.bool (zan l r))∧Below w.heap.size w w':=by
 obtain ⟨zs,lo0,h1,h2,h3,h4⟩:=h
 have:=zk8 C zs r w (h1.set h2 (by omega))
 rwa [h4 r] at this
set_option maxRecDepth 100000 in
theorem ze1 {T:TV} (hO:zam T) (B:Nat) (r:Int) (w:World) (h:BookAt w B T):Calls Tryz.prog 98 #[.pointer (some ⟨B,0,none⟩),.int .i32 r] w fun e w' =>e=.returned (.bool (zan T.co r))∧Below w.heap.size w w':=by
 obtain ⟨C,c0,hs⟩:=h.cos
 have HC:=kz (zdW (by have:=hO.l1;omega) hs r)
 clear hs h hO
 go_enter Tryz.func98,Tryz.ntmps98
 go_wp2_with fail
 refine (oz HC).mono ?_
 rintro e w1 ⟨rfl,hb⟩
 have HB:=kz hb
 clear hb HC
 go_wp2_with fail
 go_ret
 exact ⟨rfl,oz HB⟩
set_option maxRecDepth 100000 in
theorem zdc {T:TV} (hO:zam T) (B:Nat) (r:Int) (w:World) (h:BookAt w B T):Calls Tryz.prog 42 #[.pointer (some ⟨B,0,none⟩),.int .i32 r] w fun e w' =>e=.returned (.bool (drB T r))∧Below w.heap.size w w':=by
 obtain ⟨C,c0,hs⟩:=h.drs
 have HC:=kz (zdW (by have:=hO.l6;omega) hs r)
 clear hs h hO
 go_enter Tryz.func42,Tryz.ntmps42
 go_wp2_with fail
 refine (oz HC).mono ?_
 rintro e w1 ⟨rfl,hb⟩
 have HB:=kz hb
 clear hb HC
 go_wp2_with fail
 go_ret
 exact ⟨rfl,oz HB⟩
theorem MpAt.look1 {w:World} {kt mt et:TypeId} {R:Value→Option (DataW Unit × List MemPlace)} {M n:Nat} {G:Lit→Option (DataW Unit)} (h:MpAt w kt R M n G) (K:Keyed Tryz.prog kt) (ht:Tryz.prog.underlying mt=some (.map kt et)) {z:Value} (hz:(zeroValue et).run Tryz.prog w=.ok z w) {zd:DataW Unit} {zp:List MemPlace} (hzd:R z=some (zd,zp)) {key:Value} {k:Lit} (hk:keyOf Tryz.prog kt key=some k) (hkl:WideAt.IsKeyLit k) :
  ∃ v ps,(Instr.lookup mt (.map (some M)) key false).run Tryz.prog w=.ok v w∧R v=some ((G k).getD zd,ps):=by
 obtain ⟨D,h1,h2⟩:=h
 obtain ⟨v,ps,hr,hv⟩:=h1.lookup K ht hz hzd hk
 rw [(h2 k hkl).2] at hv
 exact ⟨v,ps,hr,hv⟩
theorem zn9 (u:World):(zeroValue 3).run Tryz.prog u=.ok (.int .i64 0) u:=by kernel_rfl
set_option maxRecDepth 100000 in
theorem znR {T:TV} (hO:zam T) {w:World} {M n:Nat} (h:ClAt w M n T.ma) {r:Int} (hr:R32 r):(Instr.lookup 102 (.map (some M)) (.int .i32 r) false).run Tryz.prog w=.ok (.int .i64 (zbk T r)) w:=by
 obtain ⟨G,hm,hg⟩:=h.mp
 obtain ⟨v,ps,hl,hv⟩:=hm.look1 (int_keyed Tryz.underlying21) Tryz.underlying102 (zn9 w) (plainElem_int Tryz.underlying3 (by decide)) (keyOf_int_mk Tryz.underlying21 (zi2 hr)) trivial
 obtain ⟨a,rfl,ha,_⟩:=plainElem_int_inv Tryz.underlying3 hv
 injection ha with ha _
 rw [hl]
 rcases hg r hr with ⟨h1,h2⟩ | ⟨x,hx,rfl,h2⟩
 ·rw [h2] at ha
  injection ha with ha
  injection ha with _ ha
  rw [zid h1,ha]
 ·rw [h2] at ha
  injection ha with ha
  injection ha with _ ha
  rw [zle hO hx,ha]
set_option maxRecDepth 100000 in
theorem zcg {T:TV} (hO:zam T) (B:Nat) (r:Int) (hr:R32 r) (w:World) (h:BookAt w B T):Calls Tryz.prog 99 #[.pointer (some ⟨B,0,none⟩),.int .i32 r] w fun e w' =>e=.returned (.int .i64 (zbk T r))∧w'=w:=by
 obtain ⟨M,n,c0,hs⟩:=h.cls
 have hl:=znR hO hs hr
 clear hs h hO hr
 go_enter Tryz.func99,Tryz.ntmps99
 go_wp2_with fail
 go_ret
 exact ⟨rfl,rfl⟩
def zr4 (x:Option (Int × Int × Int)):Value := .agg #[.int .i32 ((x.map (·.2.1)).getD 0),.int .i32 ((x.map (·.2.2)).getD 0)]
set_option maxRecDepth 100000 in
theorem zkZ {T:TV} (hO:zam T) {w:World} {M n:Nat} (h:PaAt w M n T.pr) {r:Int} (hr:R32 r):(Instr.lookup 103 (.map (some M)) (.int .i32 r) true).run Tryz.prog w=.ok (.tuple #[zr4 (zbN T r),.bool (zbN T r).isSome]) w:=by
 obtain ⟨G,hm,hg⟩:=h.mp
 obtain ⟨v,ps,hl,hv⟩:=hm.look (int_keyed Tryz.underlying21) Tryz.underlying103 (zkP w) (zhW 0 0) (keyOf_int_mk Tryz.underlying21 (zi2 hr)) trivial
 rw [hl]
 rcases hg r hr with ⟨h1,h2⟩ | ⟨x,hx,rfl,h2⟩
 ·rw [h2] at hv
  rw [zg2 hv,zmr h1,h2]
  rfl
 ·rw [h2] at hv
  rw [zg2 hv,zp7 hO hx,h2]
  rfl
theorem zkB {v:Value} {g n c:Nat} {ps:List MemPlace} (h:zeS v=some (hdr g n c,ps)):v=.slice (some ⟨g,0,none⟩) n c:=by
 unfold zeS at h
 split at h
 ·injection h with h
  injection h with h _
  unfold hdr at h
  injection h with h
  injection h with h1 h2
  injection h2 with h2 h3
  injection h3 with h3 _
  injection h1 with h1
  injection h1 with _ h1
  injection h2 with h2
  injection h2 with _ h2
  injection h3 with h3
  injection h3 with _ h3
  rw [Int.ofNat.inj h1,Int.ofNat.inj h2,Int.ofNat.inj h3]
 ·injection h with h
  injection h with h _
  unfold hdr at h
  injection h with h
  cases h
 ·cases h
theorem zjv {v:Value} {ps:List MemPlace} (h:zeS v=some (.agg [],ps)):v=.slice none 0 0:=by
 unfold zeS at h
 split at h
 ·injection h with h
  injection h with h _
  unfold hdr at h
  injection h with h
  cases h
 ·rfl
 ·cases h
set_option maxRecDepth 100000 in
theorem zpS {T:TV} {zs:List (Int × ByteArray)} (hpw:zs.Pairwise (fun x y =>x.1≠y.1)) {w:World} {M n:Nat} (h:FoAt w M n zs) {r:Int} (hr:R32 r):∃ a c,(Instr.lookup 105 (.map (some M)) (.int .i32 r) true).run Tryz.prog w=.ok (.tuple #[.slice a (((toP zs r).map (fun x =>zah x.2)).getD []).length c,.bool (toP zs r).isSome]) w∧RnC w w.heap.size a (((toP zs r).map (fun x =>zah x.2)).getD [])∧(toP zs r=none→a=none∧c=0):=by
 obtain ⟨G,hm,hg⟩:=h.mp
 obtain ⟨v,ps,hl,hv⟩:=hm.look (int_keyed Tryz.underlying21) Tryz.underlying105 (z := .slice none 0 0) (by kernel_rfl) zkA (keyOf_int_mk Tryz.underlying21 (zi2 hr)) trivial
 rcases hg r hr with ⟨h1,h2⟩ | ⟨x,hx,rfl,g,c,h2,h3,h4⟩
 ·rw [h2] at hv hl
  refine ⟨none,0, ?_, ?_,fun _ =>⟨rfl,rfl⟩⟩
  ·rw [hl,zmz h1,zjv hv]
   rfl
  ·rw [zmz h1]
   intro h0
   simp at h0
 ·rw [h2] at hv hl
  refine ⟨some ⟨g,0,none⟩,c, ?_, ?_,fun q =>?_⟩
  ·rw [hl,zqe hpw hx,zkB hv]
   rfl
  ·rw [zqe hpw hx]
   intro h0
   exact ⟨g,0,rfl,h4.1,fun j y hy =>by rw [Nat.zero_add];exact h4.2 j y hy⟩
  ·rw [zqe hpw hx] at q
   cases q
end Go.Proofs.YtmemedpoaocdkaaGreat
namespace Go.Proofs.YtmemedpoaocdkaaGreat
open Go.RowKit Go.Shelf
set_option linter.unusedVariables false
theorem zaG {W:World} {lo E sz n:Nat} {a:Option Addr} {c:Nat} {xs:List Value} (h:W.ownsRow lo E sz (.slice a n c) n xs):RowC W W.heap.size a xs:=by
 intro h0
 have hl:=h.1
 have hn:n≠0:=fun e =>by rw [e,Nat.zero_mul] at hl;omega
 rcases zpd h (fun e =>absurd e hn) with ⟨_,e,_⟩ | ⟨g,c',e,_,_,_,hx⟩
 ·exact absurd e hn
 ·injection e with e1
  refine ⟨g,0,e1,zb4 h g (by rw [e1];rfl),fun j u hu =>?_⟩
  have:=hx j u hu
  rw [show (⟨g,0,none⟩:Addr).add j=⟨g,0+j,none⟩ by cases j <;> simp [Addr.add]] at this
  exact this
theorem TabAt.inn {W:World} {lo:Nat} {T:TV} {v:Value} (h:TabAt W lo T v):∃ a0 a1 a2 a3 a4 a5 a6 a7 c0 c1 c2 c3 c4 c5 c6 c7 us,v=.agg #[.slice a0 T.sc.length c0,.slice a1 T.co.length c1,.slice a2 T.ma.length c2,.slice a3 T.pr.length c3,.slice a4 T.fo.length c4,.slice a5 T.lk.length c5,.slice a6 T.dr.length c6,.slice a7 T.al.length c7]∧TabIn W T a0 a1 a2 a3 a4 a5 a6 a7 us∧Lst W lo ((.slice a0 T.sc.length c0::us)++[.slice a1 T.co.length c1]++[.slice a2 T.ma.length c2]++[.slice a3 T.pr.length c3]++[.slice a4 T.fo.length c4]++[.slice a5 T.lk.length c5]++[.slice a6 T.dr.length c6]++[.slice a7 T.al.length c7]) (zi5 T us):=by
 obtain ⟨v0,us,v1,v2,v3,v4,v5,v6,v7,rfl,hu,hL⟩:=h
 have hM:(T.sc.map (fun s =>Ln.mk 113 2 s.2.length (zaW s.2))).length=us.length:=by rw [List.length_map,hu]
 have key:∀ (k:Nat) (x:Value) (l:Ln),((v0::us)++[v1]++[v2]++[v3]++[v4]++[v5]++[v6]++[v7])[k]?=some x→(zi5 T us)[k]?=some l→W.ownsRow lo l.E l.sz x l.n l.xs:=fun k x l hx hl =>hL.own k x l hx hl
 have A:∀ (k:Nat),((v0::us)++[v1]++[v2]++[v3]++[v4]++[v5]++[v6]++[v7])[us.length+1+k]?=[v1,v2,v3,v4,v5,v6,v7][k]?:=fun k =>by
  rw [show (v0::us)++[v1]++[v2]++[v3]++[v4]++[v5]++[v6]++[v7]=(v0::us)++[v1,v2,v3,v4,v5,v6,v7] by simp,List.getElem?_append_right (by simp)]
  congr 1
  simp
 have B:∀ (k:Nat),(zi5 T us)[us.length+1+k]?=[Ln.mk 113 2 T.co.length (zaW T.co),Ln.mk 115 2 T.ma.length (zdO T.ma),Ln.mk 117 3 T.pr.length (zdb T.pr),Ln.mk 119 2 T.fo.length (zbo T.fo),Ln.mk 119 2 T.lk.length (zbo T.lk),Ln.mk 113 2 T.dr.length (zaW T.dr),Ln.mk 113 2 T.al.length (zaW T.al)][k]?:=fun k =>by
  unfold zi5
  rw [show ∀ (a:List Ln) (b c d e f g h:Ln),a++[b]++[c]++[d]++[e]++[f]++[g]++[h]=a++[b,c,d,e,f,g,h] from fun a b c d e f g h =>by simp,List.getElem?_append_right (by rw [List.length_cons,hM];omega)]
  congr 1
  rw [List.length_cons,hM]
  omega
 have o0:=key 0 v0 _ rfl rfl
 have o1:=key _ v1 _ (A 0) (B 0)
 have o2:=key _ v2 _ (A 1) (B 1)
 have o3:=key _ v3 _ (A 2) (B 2)
 have o4:=key _ v4 _ (A 3) (B 3)
 have o5:=key _ v5 _ (A 4) (B 4)
 have o6:=key _ v6 _ (A 5) (B 5)
 have o7:=key _ v7 _ (A 6) (B 6)
 obtain ⟨a0,c0,rfl⟩:=zaL o0
 obtain ⟨a1,c1,rfl⟩:=zaL o1
 obtain ⟨a2,c2,rfl⟩:=zaL o2
 obtain ⟨a3,c3,rfl⟩:=zaL o3
 obtain ⟨a4,c4,rfl⟩:=zaL o4
 obtain ⟨a5,c5,rfl⟩:=zaL o5
 obtain ⟨a6,c6,rfl⟩:=zaL o6
 obtain ⟨a7,c7,rfl⟩:=zaL o7
 refine ⟨a0,a1,a2,a3,a4,a5,a6,a7,c0,c1,c2,c3,c4,c5,c6,c7,us,rfl,⟨hu,zaG o0,zaG o1,zaG o2,zaG o3,zaG o4,zaG o5,zaG o6,zaG o7, ?_⟩,hL⟩
 intro j x u hx hu2
 have oj:=key (j+1) u (Ln.mk 113 2 x.2.length (zaW x.2)) (by
  rw [show ∀ (a:List Value) (b c d e f g h:Value),a++[b]++[c]++[d]++[e]++[f]++[g]++[h]=a++[b,c,d,e,f,g,h] from fun a b c d e f g h =>by simp,List.getElem?_append_left (by have:=(List.getElem?_eq_some_iff.1 hu2).1;simp;omega),List.getElem?_cons_succ]
  exact hu2) (by
  unfold zi5
  rw [show ∀ (a:List Ln) (b c d e f g h:Ln),a++[b]++[c]++[d]++[e]++[f]++[g]++[h]=a++[b,c,d,e,f,g,h] from fun a b c d e f g h =>by simp,List.getElem?_append_left (by rw [List.length_cons,hM];have:=(List.getElem?_eq_some_iff.1 hu2).1;omega),List.getElem?_cons_succ,List.getElem?_map,hx]
  rfl)
 obtain ⟨b,d,rfl⟩:=zaL oj
 exact ⟨b,d,rfl,zaG oj⟩
end Go.Proofs.YtmemedpoaocdkaaGreat
namespace Go.Proofs.YtmemedpoaocdkaaGreat
open Go.RowKit Go.Shelf Go.Maps
set_option linter.unusedVariables false
def zpc (x:Option (Int × Int × Int)):Value := .tuple #[.int .i32 ((x.map (·.2.1)).getD 0),.int .i32 ((x.map (·.2.2)).getD 0),.bool x.isSome]
set_option maxRecDepth 100000 in
set_option maxHeartbeats 4000000 in
theorem zik {T:TV} (hO:zam T) (B:Nat) (r:Int) (hr:R32 r) (w:World) (h:BookAt w B T):Calls Tryz.prog 188 #[.pointer (some ⟨B,0,none⟩),.int .i32 r] w fun e w' =>e=.returned (zpc (zbN T r))∧Below w.heap.size w w':=by
 obtain ⟨M,n,c0,hs⟩:=h.pas
 have hl:=zkZ hO hs hr
 unfold zpc zr4 at *
 generalize ((zbN T r).map (·.2.1)).getD 0=x1 at *
 generalize ((zbN T r).map (·.2.2)).getD 0=x2 at *
 generalize (zbN T r).isSome=ok at *
 have bP:=Blk.new w #[.int .i32 x1,.int .i32 x2] 134
 have q0:=bP.cell 0
 have q1:=bP.cell 1
 have HB:Hz (Below w.heap.size w (w.alloc (.cells #[.int .i32 x1,.int .i32 x2] 134))):=kz ((Below.refl _ w).alloc (Nat.le_refl _) _)
 clear hs h hO hr bP
 go_enter Tryz.func188,Tryz.ntmps188
 go_wp2_with fail
 generalize w.alloc (.cells #[.int .i32 x1,.int .i32 x2] 134)=w1 at *
 go_quiet (fail)
 go_wp2_with fail
 exact bodyPost_ret (v := .tuple #[.int .i32 x1,.int .i32 x2,.bool ok]) (by simp [results,Tryz.results188,go_sem]) rfl ⟨rfl,(oz HB).trans ⟨rfl,rfl,rfl,Nat.le_refl _,fun _ _ =>rfl⟩⟩
set_option maxRecDepth 100000 in
theorem zd9 {T:TV} (hO:zam T) (B:Nat) (r:Int) (hr:R32 r) (w:World) (h:BookAt w B T):Calls Tryz.prog 142 #[.pointer (some ⟨B,0,none⟩),.int .i32 r] w fun e w' =>e=.returned (.bool (za9 T r || zdP T r))∧Below w.heap.size w w':=by
 obtain ⟨M,n,c0,hs⟩:=h.pas
 have hl:=zkZ hO hs hr
 rw [zmq] at hl
 have hcm:=zfg hO r
 unfold zr4 at *
 generalize ((zbN T r).map (·.2.1)).getD 0=x1 at *
 generalize ((zbN T r).map (·.2.2)).getD 0=x2 at *
 have hB:Below w.heap.size w (w.alloc (.cells #[.int .i32 x1,.int .i32 x2] 134)):=(Below.refl _ w).alloc (Nat.le_refl _) _
 have HC:=kz (zcg hO B r hr _ (h.below hB))
 have HB:=kz hB
 have HM:=kz hcm
 clear hs h hO hr hB hcm
 generalize zdP T r=ok at *
 cases ok with
 | true =>
  go_enter Tryz.func142,Tryz.ntmps142
  go_wp2_with fail
  go_ret
  exact ⟨by rw [Bool.or_true];rfl,oz HB⟩
 | false =>
  go_enter Tryz.func142,Tryz.ntmps142
  go_wp2_with fail
  refine (oz HC).mono ?_
  rintro e w1 ⟨rfl,rfl⟩
  clear HC
  go_wp2_with fail
  go_ret
  refine ⟨?_,oz HB⟩
  rw [Bool.or_false, ← Bool.not_not (b:=za9 T r), ← oz HM]
  rfl
set_option maxRecDepth 100000 in
set_option maxHeartbeats 4000000 in
theorem zkI {T:TV} (hO:zam T) (B:Nat) (r:Int) (hr:R32 r) (w:World) (h:BookAt w B T):Calls Tryz.prog 144 #[.pointer (some ⟨B,0,none⟩),.int .i32 r] w fun e w' =>e=.returned (.bool (zaR T r))∧Below w.heap.size w w':=by
 obtain ⟨M,n,c0,hs⟩:=h.fos
 obtain ⟨a,c,hl,_⟩:=zpS (T:=T) hO.t4 hs hr
 rw [zmy] at hl
 generalize (((toP T.fo r).map (fun x =>zah x.2)).getD []).length=ln at *
 have HW:=kz (zbF r w)
 have hwr:=zdd r
 have HM:=kz (zd9 hO B r hr w h)
 have HD:=kz (fun w1 (hb:Below w.heap.size w w1) =>zdc hO B r w1 (h.below hb))
 have hP:zaR T r=(zaq r && (!zep T.fo r && (!(za9 T r || zdP T r) && !drB T r))):=by
  unfold zaR
  cases zaq r <;> cases za9 T r <;> cases zdP T r <;> cases drB T r <;> cases zep T.fo r <;> rfl
 rw [hP]
 clear hs h hO hr hP
 obtain ⟨wd,hwd⟩:∃ wd,zaA r=wd:=⟨_,rfl⟩
 rw [hwd] at HW hwr
 clear hwd
 generalize zaq r=b1 at *
 generalize zep T.fo r=b2 at *
 generalize (za9 T r || zdP T r)=b3 at *
 generalize drB T r=b4 at *
 cases b1 with
 | false =>
  obtain rfl:wd=0:=by simpa using hwr
  clear hwr
  cases b2 with
  | true =>
   go_enter Tryz.func144,Tryz.ntmps144
   go_wp2_with fail
   refine (oz HW).mono ?_
   rintro e w1 ⟨rfl,rfl⟩
   go_wp2_with fail
   go_ret
   exact ⟨rfl,Below.refl _ _⟩
  | false =>
   go_enter Tryz.func144,Tryz.ntmps144
   go_wp2_with fail
   refine (oz HW).mono ?_
   rintro e w1 ⟨rfl,rfl⟩
   go_wp2_with fail
   go_ret
   exact ⟨rfl,Below.refl _ _⟩
 | true =>
  have hw0:(wd == 0)=false:=hwr
  have hw1:¬ wd=0:=by simpa using hwr
  clear hwr
  cases b2 with
  | true =>
   go_enter Tryz.func144,Tryz.ntmps144
   go_wp2_with fail
   refine (oz HW).mono ?_
   rintro e w1 ⟨rfl,rfl⟩
   go_wp2_with fail
   go_ret
   exact ⟨rfl,Below.refl _ _⟩
  | false =>
   go_enter Tryz.func144,Tryz.ntmps144
   go_wp2_with fail
   refine (oz HW).mono ?_
   rintro e w1 ⟨rfl,rfl⟩
   go_wp2_with fail
   refine (oz HM).mono ?_
   rintro e w2 ⟨rfl,hb2⟩
   have HB2:=kz hb2
   clear hb2 HM
   cases b3 with
   | true =>
    go_wp2_with fail
    go_ret
    exact ⟨rfl,oz HB2⟩
   | false =>
    go_wp2_with fail
    refine (oz HD w2 (oz HB2)).mono ?_
    rintro e w3 ⟨rfl,hb3⟩
    have HB3:=kz ((oz HB2).trans (hb3.mono (oz HB2).size))
    clear hb3 HD
    go_wp2_with fail
    go_ret
    refine ⟨?_,oz HB3⟩
    show Ending.returned (.bool (wd != 0 && !b4))=_
    rw [show (wd != 0)=true by simpa using hw1]
    rfl
structure BkT (w:World) (B:Nat) (T:TV) (a0 a1 a2 a3 a4 a5 a6 a7:Option Addr) (c0 c1 c2 c3 c4 c5 c6 c7:Nat) (us:List Value):Prop where
 k0:w.cell? ⟨B,0,none⟩=some (.slice a0 T.sc.length c0)
 k1:w.cell? ⟨B,1,none⟩=some (.slice a1 T.co.length c1)
 k2:w.cell? ⟨B,2,none⟩=some (.slice a2 T.ma.length c2)
 k3:w.cell? ⟨B,3,none⟩=some (.slice a3 T.pr.length c3)
 k4:w.cell? ⟨B,4,none⟩=some (.slice a4 T.fo.length c4)
 k5:w.cell? ⟨B,5,none⟩=some (.slice a5 T.lk.length c5)
 k6:w.cell? ⟨B,6,none⟩=some (.slice a6 T.dr.length c6)
 k7:w.cell? ⟨B,7,none⟩=some (.slice a7 T.al.length c7)
 lt:B < w.heap.size
 ti:TabIn w T a0 a1 a2 a3 a4 a5 a6 a7 us
theorem BkT.below {w w':World} {B:Nat} {T:TV} {a0 a1 a2 a3 a4 a5 a6 a7:Option Addr} {c0 c1 c2 c3 c4 c5 c6 c7:Nat} {us:List Value} (h:BkT w B T a0 a1 a2 a3 a4 a5 a6 a7 c0 c1 c2 c3 c4 c5 c6 c7 us) (hb:Below w.heap.size w w'):BkT w' B T a0 a1 a2 a3 a4 a5 a6 a7 c0 c1 c2 c3 c4 c5 c6 c7 us:=by
 have k:∀ j,w'.cell? ⟨B,j,none⟩=w.cell? ⟨B,j,none⟩:=fun j =>hb.cell (p:=⟨B,j,none⟩) h.lt
 exact ⟨(k 0).trans h.k0,(k 1).trans h.k1,(k 2).trans h.k2,(k 3).trans h.k3,(k 4).trans h.k4,(k 5).trans h.k5,(k 6).trans h.k6,(k 7).trans h.k7,Nat.lt_of_lt_of_le h.lt hb.size,h.ti.lower hb⟩
theorem BookAt.tabs {w:World} {B:Nat} {T:TV} (h:BookAt w B T):∃ a0 a1 a2 a3 a4 a5 a6 a7 c0 c1 c2 c3 c4 c5 c6 c7 us,BkT w B T a0 a1 a2 a3 a4 a5 a6 a7 c0 c1 c2 c3 c4 c5 c6 c7 us:=by
 obtain ⟨lo,t0,t1,t2,t3,t4,t5,t6,t7,sv,bs,Bc,Bd,Ba,M5,n5,M6,n6,M7,n7,MF,nF,ML,nL,h⟩:=h
 obtain ⟨a0,a1,a2,a3,a4,a5,a6,a7,c0,c1,c2,c3,c4,c5,c6,c7,us,e,ti,_⟩:=h.tb.inn
 injection e with e
 have key:∀ j v,#[t0,t1,t2,t3,t4,t5,t6,t7][j]?=some v→w.cell? ⟨B,j,none⟩=some v:=fun j v hv =>by
  rw [h.bx.cell j, ← hv]
  have hj:j < 8:=(Array.getElem?_eq_some_iff.1 hv).1
  obtain rfl | rfl | rfl | rfl | rfl | rfl | rfl | rfl:j=0∨j=1∨j=2∨j=3∨j=4∨j=5∨j=6∨j=7:=by omega
  all_goals rfl
 rw [e] at key
 exact ⟨a0,a1,a2,a3,a4,a5,a6,a7,c0,c1,c2,c3,c4,c5,c6,c7,us,key 0 _ rfl,key 1 _ rfl,key 2 _ rfl,key 3 _ rfl,key 4 _ rfl,key 5 _ rfl,key 6 _ rfl,key 7 _ rfl,h.bx.lt,ti⟩
end Go.Proofs.YtmemedpoaocdkaaGreat
