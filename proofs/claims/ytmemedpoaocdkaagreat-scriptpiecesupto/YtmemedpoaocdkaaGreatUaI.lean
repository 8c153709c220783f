/- The reference's own look at what every table says alike. -/
import Derived.Test.YtmemedpoaocdkaaGreatUaH
namespace Go.Proofs.YtmemedpoaocdkaaGreat
open Go.RowKit Go.Shelf
set_option linter.unusedVariables false
def zj6 (x:Int × Int):Int:=if zgF x.1 then 5 else 0
def zj5 (x:Int × Int × Int):Int:=if zgF x.1 then 5 else 0
def zhb (x:Int × ByteArray):Int:=if (zgF x.1 && decide (x.1 < 65∨90 < x.1)) || zfo x.2 then 5 else 0
def zjg (x:Int × ByteArray):Int:=if zi8 x.1 || zfo x.2 then 5 else 0
theorem zi3 {r:Int}:r ∈ comL ↔ 45≤r∧r≤57∧r≠47:=by
 unfold comL
 simp
 omega
theorem zgU {list:Int} {l:List (Int × Int)} {must:List Int} {r:Int} (hr:r ∈ must) (h:zan l r=false):zbV list l must=(5,list,0):=by
 unfold zbV
 rw [if_neg (fun e =>by have:=List.all_eq_true.1 e r hr;rw [h] at this;cases this)]
theorem znp {list:Int} {l:List (Int × Int)} {must:List Int} (h:∀ r ∈ must,zan l r=true):zbV list l must=(0,0,0):=by
 unfold zbV
 rw [if_pos (List.all_eq_true.2 h)]
def zdz (W:World) (U:Nat→Value):Act:={ tmps:=#[U 0,.pointer (some ⟨W.heap.size,0,none⟩),.pointer (some ⟨W.heap.size+1,0,none⟩),U 3,U 4,U 5,U 6,U 7,U 8,U 9,U 10,U 11,U 12,U 13,U 14,U 15,U 16,U 17,U 18,U 19,U 20,U 21,U 22,U 23,U 24,U 25,U 26,U 27,U 28,U 29,U 30,U 31,U 32,U 33,U 34,U 35,U 36,U 37,U 38,U 39,U 40,U 41,U 42,U 43,U 44,U 45,U 46,U 47,U 48,U 49,U 50,U 51,U 52,U 53,U 54,U 55,U 56,U 57,U 58,U 59,U 60,U 61,U 62,U 63,U 64,U 65,U 66,U 67,U 68,U 69,U 70,U 71,U 72,U 73,U 74,U 75,U 76,U 77,U 78,U 79,U 80,U 81,U 82,U 83,U 84,U 85,U 86,U 87,U 88,U 89,U 90,U 91,U 92,U 93,U 94,U 95,U 96,U 97,U 98,U 99,U 100,U 101,U 102,U 103,U 104,U 105,U 106,U 107,U 108,U 109,U 110,U 111,U 112,U 113,U 114],defers := [] }
noncomputable def uaRa:Code:=match Tryz.f92.body with
 | some (.seq _ (.seq c _)) =>c
 | _ =>.skip
set_option maxRecDepth 100000 in
set_option maxHeartbeats 8000000 in
theorem zoq (T:TV) (hT:TabB T) (A:TbA) (W w:World) (h:RxS W w T A) (U:Nat→Value) {Q:Exit→Act→World→Prop}
  (hN:zbV 2 T.co comL=(0,0,0)→∀ (a:Act) (wn:World),(∃ U',a=zdz W U')→Hz (RxT W w wn T A)→Q .normal a wn)
  (hR:∀ (y k:Int),zbV 2 T.co comL=(y,2,k)→y≠0→∀ (a:Act) (wn:World),a.tmps.getD 2 undef=.pointer (some ⟨W.heap.size+1,0,none⟩)→a.defers=[]→Hz (RxD W wn (y,2,k))→Q .ret a wn) :
  Code.wp Tryz.prog uaRa Q (zdz W U) w:=by
 have HN:=kz hN
 have HR:=kz hR
 have HX:=kz (RxT.refl h)
 have HO:=kz (fun r b (hb:zan T.co r=b) a c w (hv:RowC w w.heap.size a (zaW T.co)) =>by have:=zem T.co hT.n1 a c r w hv;rwa [hb] at this)
 clear hN hR h hT
 delta uaRa Tryz.f92 zdz at *
 dsimp only
 go_wp2_with fail
 go_loopw [3] (fun i wr => ∃ r:Int,45≤r∧r≤58∧i=.int .i32 r∧Hz (∀ q,45≤q→q < r→q≠47→zan T.co q=true)∧Hz (RxT W w wr T A)) (fun i _ =>58 - (intOf i).toNat)
 case atStart =>exact ⟨45,by omega,by omega,rfl,kz (fun q h1 h2 _ =>by omega),HX⟩
 case round =>
  clear HX
  obtain ⟨r,hr0,hr1,rfl,HI,HX⟩:=hrel
  have zz:=(oz HX).rx.tb.z1
  by_cases hr2:r≤57
  ·by_cases h47:r=47
   ·subst h47
    have HI2:Hz (∀ q,45≤q→q < 48→q≠47→zan T.co q=true):=kz (fun q h1 h2 h3 =>by
     by_cases e:q=47
     ·exact absurd h3 (by omega)
     ·exact oz HI q h1 (by omega) h3)
    clear HI
    go_wp2_with fail
    exact ⟨⟨48,by omega,by omega,by first | rfl | go_num,HI2,HX⟩,by simp [intOf] <;> omega⟩
   ·have n47:(r == 47)=false:=by simpa using h47
    cases hm:zan T.co r with
    | false =>
     have HE:Hz (zbV 2 T.co comL=(5,2,0)):=kz (zgU (zi3.2 (by omega)) hm)
     have HOc:=kz (oz HO r _ hm A.a1 A.c1 wr ((oz HX).rx.tb.ti.r1))
     clear HI HO hm
     go_wp2_with fail
     refine (oz HOc).mono ?_
     rintro e wx ⟨rfl,hw⟩
     rw [hw]
     clear hw wx HOc
     have r0:=(oz HX).rx.rs.cell 0
     have f0:=(oz HX).rx.rs.frozen 0
     have r1:=(oz HX).rx.rs.cell 1
     have f1:=(oz HX).rx.rs.frozen 1
     have r2:=(oz HX).rx.rs.cell 2
     have f2:=(oz HX).rx.rs.frozen 2
     go_wp2_with fail
     exact oz HR _ _ (oz HE) (by decide) _ _ rfl rfl (kz ((oz HX).put _ _ _))
    | true =>
     have HI2:Hz (∀ q,45≤q→q < r+1→q≠47→zan T.co q=true):=kz (fun q h1 h2 h3 =>by
      by_cases e:q=r
      ·rw [e];exact hm
      ·exact oz HI q h1 (by omega) h3)
     have HOc:=kz (oz HO r _ hm A.a1 A.c1 wr ((oz HX).rx.tb.ti.r1))
     clear HI HO hm
     go_wp2_with fail
     refine (oz HOc).mono ?_
     rintro e wx ⟨rfl,hw⟩
     rw [hw]
     clear hw wx HOc
     go_wp2_with fail
     exact ⟨⟨r+1,by omega,by omega,by first | rfl | go_num,HI2,HX⟩,by simp [intOf];omega⟩
  ·have HE:Hz (zbV 2 T.co comL=(0,0,0)):=kz (znp (fun q hq =>by
    have:=zi3.1 hq
    exact oz HI q (by omega) (by omega) (by omega)))
   clear HI HR
   go_wp2_with fail
   exact oz HN (oz HE) _ _ (zax rfl) HX
noncomputable def uaRb:Code:=match Tryz.f92.body with
 | some (.seq _ (.seq _ (.seq c _))) =>c
 | _ =>.skip
set_option maxRecDepth 100000 in
set_option maxHeartbeats 8000000 in
theorem zop (T:TV) (hT:TabB T) (A:TbA) (W w:World)  (h:RxS W w T A) (U:Nat→Value) {Q:Exit→Act→World→Prop}
  (hN:zaf 3 T.ma ma0 (zj6)=(0,0,0)→∀ (a:Act) (wn:World),(∃ U',a=zdz W U')→Hz (RxT W w wn T A)→Q .normal a wn)
  (hR:∀ (y k:Int),zaf 3 T.ma ma0 (zj6)=(y,3,k)→y≠0→∀ (a:Act) (wn:World),a.tmps.getD 2 undef=.pointer (some ⟨W.heap.size+1,0,none⟩)→a.defers=[]→Hz (RxD W wn (y,3,k))→Q .ret a wn) :
  Code.wp Tryz.prog uaRb Q (zdz W U) w:=by
 have HN:=kz hN
 have HR:=kz hR
 have HX:=kz (RxT.refl h)
 have hln:=hT.n2
 clear hN hR h
 delta uaRb Tryz.f92 zdz at *
 dsimp only
 go_wp2_with fail
 go_loopw [4] (fun i wr => ∃ k:Nat,k≤T.ma.length∧i=.int .i64 k∧Hz (OkTo T.ma ma0 (zj6) k)∧Hz (RxT W w wr T A)) (fun i _ =>T.ma.length - (intOf i).toNat)
 case atStart =>exact ⟨0,Nat.zero_le _,rfl,kz (OkTo.zero _ _ _),HX⟩
 case round =>
  clear HX
  obtain ⟨k,hk,rfl,HO,HX⟩:=hrel
  by_cases hkn:k < T.ma.length
  ·obtain ⟨x,hx⟩:∃ x,T.ma[k]?=some x:=⟨_,List.getElem?_eq_getElem hkn⟩
   obtain ⟨g,o,ea,hg,c0,c1⟩:=zrd (oz HX).rx.tb.ti.r2 hx
   have HK:=kz hx
   have HG:=kz hg
   have k1:(k:Int) < (T.ma.length:Int):=by omega
   have k2:((k:Nat):Int).toNat=k:=by omega
   have zz:=(oz HX).rx.tb.z2
   rw [ea] at zz
   clear hg hx
   cases h1:zgF x.1 with
   | true =>
    have hf:zj6 x=5:=by unfold zj6;rw [h1];rfl
    have HE:=kz ((oz HO).bad (oz HK) 3 (by rw [hf];decide))
    rw [hf] at HE
    clear hf HO HK
    have HC:=kz (fun w =>by have:=zbY x.1 w;rwa [h1] at this)
    clear ea h1
    go_wp2_with fail
    refine (oz HC _).mono ?_
    rintro e wx ⟨rfl,hw⟩
    rw [hw]
    clear hw wx
    have r0:=(oz HX).rx.rs.cell 0
    have f0:=(oz HX).rx.rs.frozen 0
    have r1:=(oz HX).rx.rs.cell 1
    have f1:=(oz HX).rx.rs.frozen 1
    have r2:=(oz HX).rx.rs.cell 2
    have f2:=(oz HX).rx.rs.frozen 2
    go_wp2_with fail
    exact oz HR _ _ (oz HE) (by decide) _ _ rfl rfl (kz ((oz HX).put _ _ _))
   | false =>
    have hf:zj6 x=0:=by unfold zj6;rw [h1];rfl
    have HO2:=kz ((oz HO).next (oz HK) hf)
    clear hf HO HK
    have HC:=kz (fun w =>by have:=zbY x.1 w;rwa [h1] at this)
    clear ea h1
    go_wp2_with fail
    refine (oz HC _).mono ?_
    rintro e wx ⟨rfl,hw⟩
    rw [hw]
    clear hw wx
    go_wp2_with fail
    exact ⟨⟨k+1,by omega,by first | rfl | go_num,HO2,HX⟩,by simp [intOf];omega⟩
  ·have k1:¬ (k:Int) < (T.ma.length:Int):=by omega
   have zz:=(oz HX).rx.tb.z2
   have HE:=kz ((oz HO).ok (by omega) 3)
   clear HO HR
   go_wp2_with fail
   exact oz HN (oz HE) _ _ (zax rfl) HX
noncomputable def uaRc:Code:=match Tryz.f92.body with
 | some (.seq _ (.seq _ (.seq _ (.seq c _)))) =>c
 | _ =>.skip
set_option maxRecDepth 100000 in
set_option maxHeartbeats 8000000 in
theorem zoo (T:TV) (hT:TabB T) (A:TbA) (W w:World)  (h:RxS W w T A) (U:Nat→Value) {Q:Exit→Act→World→Prop}
  (hN:zaf 4 T.pr pr0 (zj5)=(0,0,0)→∀ (a:Act) (wn:World),(∃ U',a=zdz W U')→Hz (RxT W w wn T A)→Q .normal a wn)
  (hR:∀ (y k:Int),zaf 4 T.pr pr0 (zj5)=(y,4,k)→y≠0→∀ (a:Act) (wn:World),a.tmps.getD 2 undef=.pointer (some ⟨W.heap.size+1,0,none⟩)→a.defers=[]→Hz (RxD W wn (y,4,k))→Q .ret a wn) :
  Code.wp Tryz.prog uaRc Q (zdz W U) w:=by
 have HN:=kz hN
 have HR:=kz hR
 have HX:=kz (RxT.refl h)
 have hln:=hT.n3
 clear hN hR h
 delta uaRc Tryz.f92 zdz at *
 dsimp only
 go_wp2_with fail
 go_loopw [5] (fun i wr => ∃ k:Nat,k≤T.pr.length∧i=.int .i64 k∧Hz (OkTo T.pr pr0 (zj5) k)∧Hz (RxT W w wr T A)) (fun i _ =>T.pr.length - (intOf i).toNat)
 case atStart =>exact ⟨0,Nat.zero_le _,rfl,kz (OkTo.zero _ _ _),HX⟩
 case round =>
  clear HX
  obtain ⟨k,hk,rfl,HO,HX⟩:=hrel
  by_cases hkn:k < T.pr.length
  ·obtain ⟨x,hx⟩:∃ x,T.pr[k]?=some x:=⟨_,List.getElem?_eq_getElem hkn⟩
   obtain ⟨g,o,ea,hg,c0,c1,c2⟩:=zo8 (oz HX).rx.tb.ti.r3 hx
   have HK:=kz hx
   have HG:=kz hg
   have k1:(k:Int) < (T.pr.length:Int):=by omega
   have k2:((k:Nat):Int).toNat=k:=by omega
   have zz:=(oz HX).rx.tb.z3
   rw [ea] at zz
   clear hg hx
   cases h1:zgF x.1 with
   | true =>
    have hf:zj5 x=5:=by unfold zj5;rw [h1];rfl
    have HE:=kz ((oz HO).bad (oz HK) 4 (by rw [hf];decide))
    rw [hf] at HE
    clear hf HO HK
    have HC:=kz (fun w =>by have:=zbY x.1 w;rwa [h1] at this)
    clear ea h1
    go_wp2_with fail
    refine (oz HC _).mono ?_
    rintro e wx ⟨rfl,hw⟩
    rw [hw]
    clear hw wx
    have r0:=(oz HX).rx.rs.cell 0
    have f0:=(oz HX).rx.rs.frozen 0
    have r1:=(oz HX).rx.rs.cell 1
    have f1:=(oz HX).rx.rs.frozen 1
    have r2:=(oz HX).rx.rs.cell 2
    have f2:=(oz HX).rx.rs.frozen 2
    go_wp2_with fail
    exact oz HR _ _ (oz HE) (by decide) _ _ rfl rfl (kz ((oz HX).put _ _ _))
   | false =>
    have hf:zj5 x=0:=by unfold zj5;rw [h1];rfl
    have HO2:=kz ((oz HO).next (oz HK) hf)
    clear hf HO HK
    have HC:=kz (fun w =>by have:=zbY x.1 w;rwa [h1] at this)
    clear ea h1
    go_wp2_with fail
    refine (oz HC _).mono ?_
    rintro e wx ⟨rfl,hw⟩
    rw [hw]
    clear hw wx
    go_wp2_with fail
    exact ⟨⟨k+1,by omega,by first | rfl | go_num,HO2,HX⟩,by simp [intOf];omega⟩
  ·have k1:¬ (k:Int) < (T.pr.length:Int):=by omega
   have zz:=(oz HX).rx.tb.z3
   have HE:=kz ((oz HO).ok (by omega) 4)
   clear HO HR
   go_wp2_with fail
   exact oz HN (oz HE) _ _ (zax rfl) HX
noncomputable def uaRd:Code:=match Tryz.f92.body with
 | some (.seq _ (.seq _ (.seq _ (.seq _ (.seq c _))))) =>c
 | _ =>.skip
set_option maxRecDepth 100000 in
set_option maxHeartbeats 8000000 in
theorem zon (T:TV) (hT:TabB T) (A:TbA) (W w:World) (hO:zam T)  (h:RxS W w T A) (U:Nat→Value) {Q:Exit→Act→World→Prop}
  (hN:zaf 5 T.fo mp0 (zhb)=(0,0,0)→∀ (a:Act) (wn:World),(∃ U',a=zdz W U')→Hz (RxT W w wn T A)→Q .normal a wn)
  (hR:∀ (y k:Int),zaf 5 T.fo mp0 (zhb)=(y,5,k)→y≠0→∀ (a:Act) (wn:World),a.tmps.getD 2 undef=.pointer (some ⟨W.heap.size+1,0,none⟩)→a.defers=[]→Hz (RxD W wn (y,5,k))→Q .ret a wn) :
  Code.wp Tryz.prog uaRd Q (zdz W U) w:=by
 have HN:=kz hN
 have HR:=kz hR
 have HX:=kz (RxT.refl h)
 have hln:=hT.n4
 have HZ:=kz (fun x (hx:x ∈ T.fo) =>And.intro (hT.z4 x hx) (zf7 (hO.f4 x hx).2).1)
 clear hN hR h
 delta uaRd Tryz.f92 zdz at *
 dsimp only
 go_wp2_with fail
 go_loopw [6] (fun i wr => ∃ k:Nat,k≤T.fo.length∧i=.int .i64 k∧Hz (OkTo T.fo mp0 (zhb) k)∧Hz (RxT W w wr T A)) (fun i _ =>T.fo.length - (intOf i).toNat)
 case atStart =>exact ⟨0,Nat.zero_le _,rfl,kz (OkTo.zero _ _ _),HX⟩
 case round =>
  clear HX
  obtain ⟨k,hk,rfl,HO,HX⟩:=hrel
  by_cases hkn:k < T.fo.length
  ·obtain ⟨x,hx⟩:∃ x,T.fo[k]?=some x:=⟨_,List.getElem?_eq_getElem hkn⟩
   obtain ⟨g,o,ea,hg,c0,c1⟩:=zmk (oz HX).rx.tb.ti.r4 hx
   have HK:=kz hx
   have HG:=kz hg
   have k1:(k:Int) < (T.fo.length:Int):=by omega
   have k2:((k:Nat):Int).toNat=k:=by omega
   have zz:=(oz HX).rx.tb.z4
   rw [ea] at zz
   clear hg hx
   cases h1:zgF x.1 with
   | true =>
    by_cases h2:x.1 < 65
    ·have hf:zhb x=5:=by unfold zhb;rw [h1,decide_eq_true (by omega)];rfl
     have HE:=kz ((oz HO).bad (oz HK) 5 (by rw [hf];decide))
     rw [hf] at HE
     clear hf HO HK
     have HC:=kz (fun w =>by have:=zbY x.1 w;rwa [h1] at this)
     clear ea h1
     go_wp2_with fail
     refine (oz HC _).mono ?_
     rintro e wx ⟨rfl,hw⟩
     rw [hw]
     clear hw wx
     have r0:=(oz HX).rx.rs.cell 0
     have f0:=(oz HX).rx.rs.frozen 0
     have r1:=(oz HX).rx.rs.cell 1
     have f1:=(oz HX).rx.rs.frozen 1
     have r2:=(oz HX).rx.rs.cell 2
     have f2:=(oz HX).rx.rs.frozen 2
     go_wp2_with fail
     exact oz HR _ _ (oz HE) (by decide) _ _ rfl rfl (kz ((oz HX).put _ _ _))
    ·by_cases h3:90 < x.1
     ·have hf:zhb x=5:=by unfold zhb;rw [h1,decide_eq_true (by omega)];rfl
      have HE:=kz ((oz HO).bad (oz HK) 5 (by rw [hf];decide))
      rw [hf] at HE
      clear hf HO HK
      have HC:=kz (fun w =>by have:=zbY x.1 w;rwa [h1] at this)
      clear ea h1
      go_wp2_with fail
      refine (oz HC _).mono ?_
      rintro e wx ⟨rfl,hw⟩
      rw [hw]
      clear hw wx
      have r0:=(oz HX).rx.rs.cell 0
      have f0:=(oz HX).rx.rs.frozen 0
      have r1:=(oz HX).rx.rs.cell 1
      have f1:=(oz HX).rx.rs.frozen 1
      have r2:=(oz HX).rx.rs.cell 2
      have f2:=(oz HX).rx.rs.frozen 2
      go_wp2_with fail
      exact oz HR _ _ (oz HE) (by decide) _ _ rfl rfl (kz ((oz HX).put _ _ _))
     ·cases hs:zfo x.2 with
      | true =>
       have HC:=kz (fun w =>by have:=zbY x.1 w;rwa [h1] at this)
       have HS:=kz (fun w =>by have:=zdg x.2 (oz HZ x (List.mem_of_getElem? (oz HK))).1 (oz HZ x (List.mem_of_getElem? (oz HK))).2 w;rwa [hs] at this)
       have hf:zhb x=5:=by unfold zhb;rw [h1,decide_eq_false (by omega),hs];rfl
       have HE:=kz ((oz HO).bad (oz HK) 5 (by rw [hf];decide))
       rw [hf] at HE
       clear hf HO HK
       clear ea hs
       clear h1
       go_wp2_with fail
       refine (oz HC _).mono ?_
       rintro e wx ⟨rfl,hw⟩
       rw [hw]
       clear hw wx
       go_wp2_with fail
       refine (oz HS _).mono ?_
       rintro e w3 ⟨rfl,hbx⟩
       have HX1:=kz ((oz HX).below hbx)
       clear hbx HX HS zz c0 c1
       have r0:=(oz HX1).rx.rs.cell 0
       have f0:=(oz HX1).rx.rs.frozen 0
       have r1:=(oz HX1).rx.rs.cell 1
       have f1:=(oz HX1).rx.rs.frozen 1
       have r2:=(oz HX1).rx.rs.cell 2
       have f2:=(oz HX1).rx.rs.frozen 2
       go_wp2_with fail
       exact oz HR _ _ (oz HE) (by decide) _ _ rfl rfl (kz ((oz HX1).put _ _ _))
      | false =>
       have HC:=kz (fun w =>by have:=zbY x.1 w;rwa [h1] at this)
       have HS:=kz (fun w =>by have:=zdg x.2 (oz HZ x (List.mem_of_getElem? (oz HK))).1 (oz HZ x (List.mem_of_getElem? (oz HK))).2 w;rwa [hs] at this)
       have hf:zhb x=0:=by unfold zhb;rw [h1,decide_eq_false (by omega),hs];rfl
       have HO2:=kz ((oz HO).next (oz HK) hf)
       clear hf HO HK
       clear ea hs
       clear h1
       go_wp2_with fail
       refine (oz HC _).mono ?_
       rintro e wx ⟨rfl,hw⟩
       rw [hw]
       clear hw wx
       go_wp2_with fail
       refine (oz HS _).mono ?_
       rintro e w3 ⟨rfl,hbx⟩
       have HX1:=kz ((oz HX).below hbx)
       clear hbx HX HS zz c0 c1
       go_wp2_with fail
       exact ⟨⟨k+1,by omega,by first | rfl | go_num,HO2,HX1⟩,by simp [intOf];omega⟩
   | false =>
    cases hs:zfo x.2 with
    | true =>
     have HC:=kz (fun w =>by have:=zbY x.1 w;rwa [h1] at this)
     have HS:=kz (fun w =>by have:=zdg x.2 (oz HZ x (List.mem_of_getElem? (oz HK))).1 (oz HZ x (List.mem_of_getElem? (oz HK))).2 w;rwa [hs] at this)
     have hf:zhb x=5:=by unfold zhb;rw [h1,hs];rfl
     have HE:=kz ((oz HO).bad (oz HK) 5 (by rw [hf];decide))
     rw [hf] at HE
     clear hf HO HK
     clear ea hs
     clear h1
     go_wp2_with fail
     refine (oz HC _).mono ?_
     rintro e wx ⟨rfl,hw⟩
     rw [hw]
     clear hw wx
     go_wp2_with fail
     refine (oz HS _).mono ?_
     rintro e w3 ⟨rfl,hbx⟩
     have HX1:=kz ((oz HX).below hbx)
     clear hbx HX HS zz c0 c1
     have r0:=(oz HX1).rx.rs.cell 0
     have f0:=(oz HX1).rx.rs.frozen 0
     have r1:=(oz HX1).rx.rs.cell 1
     have f1:=(oz HX1).rx.rs.frozen 1
     have r2:=(oz HX1).rx.rs.cell 2
     have f2:=(oz HX1).rx.rs.frozen 2
     go_wp2_with fail
     exact oz HR _ _ (oz HE) (by decide) _ _ rfl rfl (kz ((oz HX1).put _ _ _))
    | false =>
     have HC:=kz (fun w =>by have:=zbY x.1 w;rwa [h1] at this)
     have HS:=kz (fun w =>by have:=zdg x.2 (oz HZ x (List.mem_of_getElem? (oz HK))).1 (oz HZ x (List.mem_of_getElem? (oz HK))).2 w;rwa [hs] at this)
     have hf:zhb x=0:=by unfold zhb;rw [h1,hs];rfl
     have HO2:=kz ((oz HO).next (oz HK) hf)
     clear hf HO HK
     clear ea hs
     clear h1
     go_wp2_with fail
     refine (oz HC _).mono ?_
     rintro e wx ⟨rfl,hw⟩
     rw [hw]
     clear hw wx
     go_wp2_with fail
     refine (oz HS _).mono ?_
     rintro e w3 ⟨rfl,hbx⟩
     have HX1:=kz ((oz HX).below hbx)
     clear hbx HX HS zz c0 c1
     go_wp2_with fail
     exact ⟨⟨k+1,by omega,by first | rfl | go_num,HO2,HX1⟩,by simp [intOf];omega⟩
  ·have k1:¬ (k:Int) < (T.fo.length:Int):=by omega
   have zz:=(oz HX).rx.tb.z4
   have HE:=kz ((oz HO).ok (by omega) 5)
   clear HO HR
   go_wp2_with fail
   exact oz HN (oz HE) _ _ (zax rfl) HX
noncomputable def uaRe:Code:=match Tryz.f92.body with
 | some (.seq _ (.seq _ (.seq _ (.seq _ (.seq _ (.seq c _)))))) =>c
 | _ =>.skip
set_option maxRecDepth 100000 in
set_option maxHeartbeats 8000000 in
theorem zom (T:TV) (hT:TabB T) (A:TbA) (W w:World) (hO:zam T)  (h:RxS W w T A) (U:Nat→Value) {Q:Exit→Act→World→Prop}
  (hN:zaf 6 T.lk mp0 (zjg)=(0,0,0)→∀ (a:Act) (wn:World),(∃ U',a=zdz W U')→Hz (RxT W w wn T A)→Q .normal a wn)
  (hR:∀ (y k:Int),zaf 6 T.lk mp0 (zjg)=(y,6,k)→y≠0→∀ (a:Act) (wn:World),a.tmps.getD 2 undef=.pointer (some ⟨W.heap.size+1,0,none⟩)→a.defers=[]→Hz (RxD W wn (y,6,k))→Q .ret a wn) :
  Code.wp Tryz.prog uaRe Q (zdz W U) w:=by
 have HN:=kz hN
 have HR:=kz hR
 have HX:=kz (RxT.refl h)
 have hln:=hT.n5
 have HZ:=kz (fun x (hx:x ∈ T.lk) =>And.intro (hT.z5 x hx) (zf7 (hO.f5 x hx).2).1)
 clear hN hR h
 delta uaRe Tryz.f92 zdz at *
 dsimp only
 go_wp2_with fail
 go_loopw [8] (fun i wr => ∃ k:Nat,k≤T.lk.length∧i=.int .i64 k∧Hz (OkTo T.lk mp0 (zjg) k)∧Hz (RxT W w wr T A)) (fun i _ =>T.lk.length - (intOf i).toNat)
 case atStart =>exact ⟨0,Nat.zero_le _,rfl,kz (OkTo.zero _ _ _),HX⟩
 case round =>
  clear HX
  obtain ⟨k,hk,rfl,HO,HX⟩:=hrel
  by_cases hkn:k < T.lk.length
  ·obtain ⟨x,hx⟩:∃ x,T.lk[k]?=some x:=⟨_,List.getElem?_eq_getElem hkn⟩
   obtain ⟨g,o,ea,hg,c0,c1⟩:=zmk (oz HX).rx.tb.ti.r5 hx
   have HK:=kz hx
   have HG:=kz hg
   have k1:(k:Int) < (T.lk.length:Int):=by omega
   have k2:((k:Nat):Int).toNat=k:=by omega
   have zz:=(oz HX).rx.tb.z5
   rw [ea] at zz
   clear hg hx
   cases h1:zi8 x.1 with
   | true =>
    have hf:zjg x=5:=by unfold zjg;rw [h1];rfl
    have HE:=kz ((oz HO).bad (oz HK) 6 (by rw [hf];decide))
    rw [hf] at HE
    clear hf HO HK
    have HC:=kz (fun w =>by have:=zfI x.1 w;rwa [h1] at this)
    clear ea h1
    go_wp2_with fail
    refine (oz HC _).mono ?_
    rintro e wx ⟨rfl,hw⟩
    rw [hw]
    clear hw wx
    have r0:=(oz HX).rx.rs.cell 0
    have f0:=(oz HX).rx.rs.frozen 0
    have r1:=(oz HX).rx.rs.cell 1
    have f1:=(oz HX).rx.rs.frozen 1
    have r2:=(oz HX).rx.rs.cell 2
    have f2:=(oz HX).rx.rs.frozen 2
    go_wp2_with fail
    exact oz HR _ _ (oz HE) (by decide) _ _ rfl rfl (kz ((oz HX).put _ _ _))
   | false =>
    cases hs:zfo x.2 with
    | true =>
     have HC:=kz (fun w =>by have:=zfI x.1 w;rwa [h1] at this)
     have HS:=kz (fun w =>by have:=zdg x.2 (oz HZ x (List.mem_of_getElem? (oz HK))).1 (oz HZ x (List.mem_of_getElem? (oz HK))).2 w;rwa [hs] at this)
     have hf:zjg x=5:=by unfold zjg;rw [h1,hs];rfl
     have HE:=kz ((oz HO).bad (oz HK) 6 (by rw [hf];decide))
     rw [hf] at HE
     clear hf HO HK
     clear ea hs
     clear h1
     go_wp2_with fail
     refine (oz HC _).mono ?_
     rintro e wx ⟨rfl,hw⟩
     rw [hw]
     clear hw wx
     go_wp2_with fail
     refine (oz HS _).mono ?_
     rintro e w3 ⟨rfl,hbx⟩
     have HX1:=kz ((oz HX).below hbx)
     clear hbx HX HS zz c0 c1
     have r0:=(oz HX1).rx.rs.cell 0
     have f0:=(oz HX1).rx.rs.frozen 0
     have r1:=(oz HX1).rx.rs.cell 1
     have f1:=(oz HX1).rx.rs.frozen 1
     have r2:=(oz HX1).rx.rs.cell 2
     have f2:=(oz HX1).rx.rs.frozen 2
     go_wp2_with fail
     exact oz HR _ _ (oz HE) (by decide) _ _ rfl rfl (kz ((oz HX1).put _ _ _))
    | false =>
     have HC:=kz (fun w =>by have:=zfI x.1 w;rwa [h1] at this)
     have HS:=kz (fun w =>by have:=zdg x.2 (oz HZ x (List.mem_of_getElem? (oz HK))).1 (oz HZ x (List.mem_of_getElem? (oz HK))).2 w;rwa [hs] at this)
     have hf:zjg x=0:=by unfold zjg;rw [h1,hs];rfl
     have HO2:=kz ((oz HO).next (oz HK) hf)
     clear hf HO HK
     clear ea hs
     clear h1
     go_wp2_with fail
     refine (oz HC _).mono ?_
     rintro e wx ⟨rfl,hw⟩
     rw [hw]
     clear hw wx
     go_wp2_with fail
     refine (oz HS _).mono ?_
     rintro e w3 ⟨rfl,hbx⟩
     have HX1:=kz ((oz HX).below hbx)
     clear hbx HX HS zz c0 c1
     go_wp2_with fail
     exact ⟨⟨k+1,by omega,by first | rfl | go_num,HO2,HX1⟩,by simp [intOf];omega⟩
  ·have k1:¬ (k:Int) < (T.lk.length:Int):=by omega
   have zz:=(oz HX).rx.tb.z5
   have HE:=kz ((oz HO).ok (by omega) 6)
   clear HO HR
   go_wp2_with fail
   exact oz HN (oz HE) _ _ (zax rfl) HX
set_option maxRecDepth 100000 in
set_option maxHeartbeats 8000000 in
theorem zlD (T:TV) (hT:TabB T) (hO:zam T) (v:Value) (W:World) (hv:TbV W T v) :
  Calls Tryz.prog 92 #[v] W fun e w' =>e=.returned (wrV (orW [zbV 2 T.co comL,zaf 3 T.ma ma0 zj6,zaf 4 T.pr pr0 zj5,zaf 5 T.fo mp0 zhb,zaf 6 T.lk mp0 zjg]))∧Below W.heap.size W w':=by
 obtain ⟨A,rfl,hA⟩:=hv
 have HX:=kz (RxS.start hA)
 have HT:=kz hT
 have HO:=kz hO
 have HV:∃ mb,Hz (orW [zbV 2 T.co comL,zaf 3 T.ma ma0 zj6,zaf 4 T.pr pr0 zj5,zaf 5 T.fo mp0 zhb,zaf 6 T.lk mp0 zjg]=mb):=⟨_,kz rfl⟩
 obtain ⟨mb,HV⟩:=HV
 rw [show orW [zbV 2 T.co comL,zaf 3 T.ma ma0 zj6,zaf 4 T.pr pr0 zj5,zaf 5 T.fo mp0 zhb,zaf 6 T.lk mp0 zjg]=mb from oz HV]
 clear hA hT hO
 go_enter Tryz.func92,Tryz.ntmps92
 refine wp_seq_k (fun K0 hK0 =>?_)
 have HK0:=kz hK0
 clear hK0
 go_wp2_with fail
 refine oz HK0 _ _ ?_
 clear HK0 K0
 generalize (W.alloc (.cells #[.slice A.a0 T.sc.length A.c0,.slice A.a1 T.co.length A.c1,.slice A.a2 T.ma.length A.c2,.slice A.a3 T.pr.length A.c3,.slice A.a4 T.fo.length A.c4,.slice A.a5 T.lk.length A.c5,.slice A.a6 T.dr.length A.c6,.slice A.a7 T.al.length A.c7] 28)).alloc (.cells #[.int .i64 0,.int .i64 0,.int .i64 0] 76)=w0 at *
 have hR:∀ (y l k:Int),mb=(y,l,k)→∀ (a:Act) (wn:World),a.tmps.getD 2 undef=.pointer (some ⟨W.heap.size+1,0,none⟩)→a.defers=[]→Hz (RxD W wn (y,l,k))→bodyPost Tryz.prog Tryz.f92 (fun e w' =>e=.returned (wrV mb)∧Below W.heap.size W w') .ret a wn:=fun y l k e a wn h1 h2 h3 =>by
  subst e
  exact bodyPost_ret (v:=wrV (y,l,k)) (zco Tryz.results92 h1 (oz h3).rs rfl) h2 ⟨rfl,(oz h3).bl⟩
 refine wp_seq_k (fun K1 hK1 =>?_)
 refine zaO (F:=zdz W) (zax rfl) (fun U =>?_)
 refine zoq T (oz HT) A W _ (oz HX) U ?_ ?_
 rotate_left
 ·intro y k e hy a wn h1 h2 h3
  exact hR y _ k (by rw [← oz HV,zaj (by rw [e];exact hy),e]) a wn h1 h2 h3
 intro E1 a w1 ⟨U1,hU⟩ hx
 subst hU
 have HX1:=kz (oz hx).rx
 clear hx
 refine hK1 _ _ ?_
 clear hK1 K1
 refine wp_seq_k (fun K2 hK2 =>?_)
 refine zaO (F:=zdz W) ⟨U1,rfl⟩ (fun U =>?_)
 refine zop T (oz HT) A W _ (oz HX1) U ?_ ?_
 rotate_left
 ·intro y k e hy a wn h1 h2 h3
  exact hR y _ k (by rw [← oz HV,zad (by rw [E1]),zaj (by rw [e];exact hy),e]) a wn h1 h2 h3
 intro E2 a w2 ⟨U2,hU⟩ hx
 subst hU
 have HX2:=kz (oz hx).rx
 clear hx
 refine hK2 _ _ ?_
 clear hK2 K2
 refine wp_seq_k (fun K3 hK3 =>?_)
 refine zaO (F:=zdz W) ⟨U2,rfl⟩ (fun U =>?_)
 refine zoo T (oz HT) A W _ (oz HX2) U ?_ ?_
 rotate_left
 ·intro y k e hy a wn h1 h2 h3
  exact hR y _ k (by rw [← oz HV,zad (by rw [E1]),zad (by rw [E2]),zaj (by rw [e];exact hy),e]) a wn h1 h2 h3
 intro E3 a w3 ⟨U3,hU⟩ hx
 subst hU
 have HX3:=kz (oz hx).rx
 clear hx
 refine hK3 _ _ ?_
 clear hK3 K3
 refine wp_seq_k (fun K4 hK4 =>?_)
 refine zaO (F:=zdz W) ⟨U3,rfl⟩ (fun U =>?_)
 refine zon T (oz HT) A W _ (oz HO) (oz HX3) U ?_ ?_
 rotate_left
 ·intro y k e hy a wn h1 h2 h3
  exact hR y _ k (by rw [← oz HV,zad (by rw [E1]),zad (by rw [E2]),zad (by rw [E3]),zaj (by rw [e];exact hy),e]) a wn h1 h2 h3
 intro E4 a w4 ⟨U4,hU⟩ hx
 subst hU
 have HX4:=kz (oz hx).rx
 clear hx
 refine hK4 _ _ ?_
 clear hK4 K4
 refine wp_seq_k (fun K5 hK5 =>?_)
 refine zaO (F:=zdz W) ⟨U4,rfl⟩ (fun U =>?_)
 refine zom T (oz HT) A W _ (oz HO) (oz HX4) U ?_ ?_
 rotate_left
 ·intro y k e hy a wn h1 h2 h3
  exact hR y _ k (by rw [← oz HV,zad (by rw [E1]),zad (by rw [E2]),zad (by rw [E3]),zad (by rw [E4]),zaj (by rw [e];exact hy),e]) a wn h1 h2 h3
 intro E5 a w5 ⟨U5,hU⟩ hx
 subst hU
 have HX5:=kz (oz hx).rx
 clear hx
 refine hK5 _ _ ?_
 clear hK5 K5
 have hm:mb=(0,0,0):=by
  rw [← oz HV,zad (by rw [E1]),zad (by rw [E2]),zad (by rw [E3]),zad (by rw [E4]),zad (by rw [E5])]
  rfl
 subst hm
 clear hR HV E1 E2 E3 E4 E5
 refine zaO (F:=zdz W) ⟨U5,rfl⟩ (fun U =>?_)
 unfold zdz
 have r0:=(oz HX5).rs.cell 0
 have f0:=(oz HX5).rs.frozen 0
 have r1:=(oz HX5).rs.cell 1
 have f1:=(oz HX5).rs.frozen 1
 have r2:=(oz HX5).rs.cell 2
 have f2:=(oz HX5).rs.frozen 2
 go_wp2_with fail
 exact bodyPost_ret (v:=wrV (0,0,0)) (zco Tryz.results92 rfl (zcw (oz HX5).rs _ _ _) rfl) rfl ⟨rfl,((oz HX5).put (0,0,0)).bl⟩
end Go.Proofs.YtmemedpoaocdkaaGreat
