/- Texts of this claim, one behind the other. -/
import Derived.Test.YtmemedpoaocdkaaGreatUaH
namespace Go.Proofs.YtmemedpoaocdkaaGreat
open Go.RowKit Go.Shelf
set_option linter.unusedVariables false
set_option maxRecDepth 100000
set_option maxHeartbeats 8000000
def zjo (x:Int × Int):Int:=if zfO x.1 then 5 else 0
def zjn (x:Int × Int × Int):Int:=if zfO x.1 then 5 else 0
def zgm (x:Int × ByteArray):Int:=if (zfO x.1 && decide (x.1 < 65∨90 < x.1)) || zeC x.2 then 5 else 0
def ziA (x:Int × ByteArray):Int:=if ziv x.1 || zeC x.2 then 5 else 0
theorem ziq {r:Int}:r ∈ comL ↔ 45≤r∧r≤57∧r≠47:=by
 unfold comL
 simp
 omega
theorem zf4 {list:Int} {l:List (Int × Int)} {must:List Int} {r:Int} (hr:r ∈ must) (h:zam l r=false):zbM list l must=(5,list,0):=by
 unfold zbM
 rw [if_neg (fun e =>by have:=List.all_eq_true.1 e r hr;rw [h] at this;cases this)]
theorem zmX {list:Int} {l:List (Int × Int)} {must:List Int} (h:∀ r ∈ must,zam l r=true):zbM list l must=(0,0,0):=by
 unfold zbM
 rw [if_pos (List.all_eq_true.2 h)]
def zc7 (W:World) (U:Nat→Value):Act:={ tmps:=#[U 0,.pointer (some ⟨W.heap.size,0,none⟩),.pointer (some ⟨W.heap.size+1,0,none⟩),U 3,U 4,U 5,U 6,U 7,U 8,U 9,U 10,U 11,U 12,U 13,U 14,U 15,U 16,U 17,U 18,U 19,U 20,U 21,U 22,U 23,U 24,U 25,U 26,U 27,U 28,U 29,U 30,U 31,U 32,U 33,U 34,U 35,U 36,U 37,U 38,U 39,U 40,U 41,U 42,U 43,U 44,U 45,U 46,U 47,U 48,U 49,U 50,U 51,U 52,U 53,U 54,U 55,U 56,U 57,U 58,U 59,U 60,U 61,U 62,U 63,U 64,U 65,U 66,U 67,U 68,U 69,U 70,U 71,U 72,U 73,U 74,U 75,U 76,U 77,U 78,U 79,U 80,U 81,U 82,U 83,U 84,U 85,U 86,U 87,U 88,U 89,U 90,U 91,U 92,U 93,U 94,U 95,U 96,U 97,U 98,U 99,U 100,U 101,U 102,U 103,U 104,U 105,U 106,U 107,U 108,U 109,U 110,U 111,U 112,U 113,U 114],defers := [] }
noncomputable def uaRa:Code:=match Tryz.f92.body with
 | some (.seq _ (.seq c _)) =>c
 | _ =>.skip
theorem znW (T:TV) (hT:TabB T) (A:TbA) (W w:World) (h:RxS W w T A) (U:Nat→Value) {Q:Exit→Act→World→Prop}
  (hN:zbM 2 T.co comL=(0,0,0)→∀ (a:Act) (wn:World),(∃ U',a=zc7 W U')→Hz (RxT W w wn T A)→Q .normal a wn)
  (hR:∀ (y k:Int),zbM 2 T.co comL=(y,2,k)→y≠0→∀ (a:Act) (wn:World),a.tmps.getD 2 undef=.pointer (some ⟨W.heap.size+1,0,none⟩)→a.defers=[]→Hz (RxD W wn (y,2,k))→Q .ret a wn) :
  Code.wp Tryz.prog uaRa Q (zc7 W U) w:=by
 have HN:=kz hN
 have HR:=kz hR
 have HX:=kz (RxT.refl h)
 have HO:=kz (fun r b (hb:zam T.co r=b) a c w (hv:RowC w w.heap.size a (zaQ T.co)) =>by have:=zbk T.co hT.n1 a c r w hv;rwa [hb] at this)
 clear hN hR h hT
 delta uaRa Tryz.f92 zc7 at *
 dsimp only
 go_wp2_with fail
 go_loopw [3] (fun i wr => ∃ r:Int,45≤r∧r≤58∧i=.int .i32 r∧Hz (∀ q,45≤q→q < r→q≠47→zam T.co q=true)∧Hz (RxT W w wr T A)) (fun i _ =>58 - (intOf i).toNat)
 case atStart =>exact ⟨45,by omega,by omega,rfl,kz (fun q h1 h2 _ =>by omega),HX⟩
 case round =>
  clear HX
  obtain ⟨r,hr0,hr1,rfl,HI,HX⟩:=hrel
  have zz:=(oz HX).rx.tb.z1
  by_cases hr2:r≤57
  ·by_cases h47:r=47
   ·subst h47
    have HI2:Hz (∀ q,45≤q→q < 48→q≠47→zam T.co q=true):=kz (fun q h1 h2 h3 =>by
     by_cases e:q=47
     ·exact absurd h3 (by omega)
     ·exact oz HI q h1 (by omega) h3)
    clear HI
    go_wp2_with fail
    exact ⟨⟨48,by omega,by omega,by first | rfl | go_num,HI2,HX⟩,by simp [intOf] <;> omega⟩
   ·have n47:(r == 47)=false:=by simpa using h47
    cases hm:zam T.co r with
    | false =>
     have HE:Hz (zbM 2 T.co comL=(5,2,0)):=kz (zf4 (ziq.2 (by omega)) hm)
     have HOc:=kz (oz HO r _ hm A.a1 A.c1 wr ((oz HX).rx.tb.ti.r1))
     clear HI HO hm
     go_wp2_with fail
     refine (oz HOc).mono ?_
     rintro e wx ⟨rfl,hw⟩
     rw [hw]
     clear hw wx HOc
     have r0:=(oz HX).rx.rs.cell 0
     have f0:=(oz HX).rx.rs.frozen 0
     have r1:=(oz HX).rx.rs.cell 1
     have f1:=(oz HX).rx.rs.frozen 1
     have r2:=(oz HX).rx.rs.cell 2
     have f2:=(oz HX).rx.rs.frozen 2
     go_wp2_with fail
     exact oz HR _ _ (oz HE) (by decide) _ _ rfl rfl (kz ((oz HX).put _ _ _))
    | true =>
     have HI2:Hz (∀ q,45≤q→q < r+1→q≠47→zam T.co q=true):=kz (fun q h1 h2 h3 =>by
      by_cases e:q=r
      ·rw [e];exact hm
      ·exact oz HI q h1 (by omega) h3)
     have HOc:=kz (oz HO r _ hm A.a1 A.c1 wr ((oz HX).rx.tb.ti.r1))
     clear HI HO hm
     go_wp2_with fail
     refine (oz HOc).mono ?_
     rintro e wx ⟨rfl,hw⟩
     rw [hw]
     clear hw wx HOc
     go_wp2_with fail
     exact ⟨⟨r+1,by omega,by omega,by first | rfl | go_num,HI2,HX⟩,by simp [intOf];omega⟩
  ·have HE:Hz (zbM 2 T.co comL=(0,0,0)):=kz (zmX (fun q hq =>by
    have:=ziq.1 hq
    exact oz HI q (by omega) (by omega) (by omega)))
   clear HI HR
   go_wp2_with fail
   exact oz HN (oz HE) _ _ (zau rfl) HX
noncomputable def uaRb:Code:=match Tryz.f92.body with
 | some (.seq _ (.seq _ (.seq c _))) =>c
 | _ =>.skip
theorem znV (T:TV) (hT:TabB T) (A:TbA) (W w:World)  (h:RxS W w T A) (U:Nat→Value) {Q:Exit→Act→World→Prop}
  (hN:zaf 3 T.ma ma0 (zjo)=(0,0,0)→∀ (a:Act) (wn:World),(∃ U',a=zc7 W U')→Hz (RxT W w wn T A)→Q .normal a wn)
  (hR:∀ (y k:Int),zaf 3 T.ma ma0 (zjo)=(y,3,k)→y≠0→∀ (a:Act) (wn:World),a.tmps.getD 2 undef=.pointer (some ⟨W.heap.size+1,0,none⟩)→a.defers=[]→Hz (RxD W wn (y,3,k))→Q .ret a wn) :
  Code.wp Tryz.prog uaRb Q (zc7 W U) w:=by
 have HN:=kz hN
 have HR:=kz hR
 have HX:=kz (RxT.refl h)
 have hln:=hT.n2
 clear hN hR h
 delta uaRb Tryz.f92 zc7 at *
 dsimp only
 go_wp2_with fail
 go_loopw [4] (fun i wr => ∃ k:Nat,k≤T.ma.length∧i=.int .i64 k∧Hz (OkTo T.ma ma0 (zjo) k)∧Hz (RxT W w wr T A)) (fun i _ =>T.ma.length - (intOf i).toNat)
 case atStart =>exact ⟨0,Nat.zero_le _,rfl,kz (OkTo.zero _ _ _),HX⟩
 case round =>
  clear HX
  obtain ⟨k,hk,rfl,HO,HX⟩:=hrel
  by_cases hkn:k < T.ma.length
  ·obtain ⟨x,hx⟩:∃ x,T.ma[k]?=some x:=⟨_,List.getElem?_eq_getElem hkn⟩
   obtain ⟨g,o,ea,hg,c0,c1⟩:=zqq (oz HX).rx.tb.ti.r2 hx
   have HK:=kz hx
   have HG:=kz hg
   have k1:(k:Int) < (T.ma.length:Int):=by omega
   have k2:((k:Nat):Int).toNat=k:=by omega
   have zz:=(oz HX).rx.tb.z2
   rw [ea] at zz
   clear hg hx
   cases h1:zfO x.1 with
   | true =>
    have hf:zjo x=5:=by unfold zjo;rw [h1];rfl
    have HE:=kz ((oz HO).bad (oz HK) 3 (by rw [hf];decide))
    rw [hf] at HE
    clear hf HO HK
    have HC:=kz (fun w =>by have:=zbO x.1 w;rwa [h1] at this)
    clear ea h1
    go_wp2_with fail
    refine (oz HC _).mono ?_
    rintro e wx ⟨rfl,hw⟩
    rw [hw]
    clear hw wx
    have r0:=(oz HX).rx.rs.cell 0
    have f0:=(oz HX).rx.rs.frozen 0
    have r1:=(oz HX).rx.rs.cell 1
    have f1:=(oz HX).rx.rs.frozen 1
    have r2:=(oz HX).rx.rs.cell 2
    have f2:=(oz HX).rx.rs.frozen 2
    go_wp2_with fail
    exact oz HR _ _ (oz HE) (by decide) _ _ rfl rfl (kz ((oz HX).put _ _ _))
   | false =>
    have hf:zjo x=0:=by unfold zjo;rw [h1];rfl
    have HO2:=kz ((oz HO).next (oz HK) hf)
    clear hf HO HK
    have HC:=kz (fun w =>by have:=zbO x.1 w;rwa [h1] at this)
    clear ea h1
    go_wp2_with fail
    refine (oz HC _).mono ?_
    rintro e wx ⟨rfl,hw⟩
    rw [hw]
    clear hw wx
    go_wp2_with fail
    exact ⟨⟨k+1,by omega,by first | rfl | go_num,HO2,HX⟩,by simp [intOf];omega⟩
  ·have k1:¬ (k:Int) < (T.ma.length:Int):=by omega
   have zz:=(oz HX).rx.tb.z2
   have HE:=kz ((oz HO).ok (by omega) 3)
   clear HO HR
   go_wp2_with fail
   exact oz HN (oz HE) _ _ (zau rfl) HX
noncomputable def uaRc:Code:=match Tryz.f92.body with
 | some (.seq _ (.seq _ (.seq _ (.seq c _)))) =>c
 | _ =>.skip
theorem znU (T:TV) (hT:TabB T) (A:TbA) (W w:World)  (h:RxS W w T A) (U:Nat→Value) {Q:Exit→Act→World→Prop}
  (hN:zaf 4 T.pr pr0 (zjn)=(0,0,0)→∀ (a:Act) (wn:World),(∃ U',a=zc7 W U')→Hz (RxT W w wn T A)→Q .normal a wn)
  (hR:∀ (y k:Int),zaf 4 T.pr pr0 (zjn)=(y,4,k)→y≠0→∀ (a:Act) (wn:World),a.tmps.getD 2 undef=.pointer (some ⟨W.heap.size+1,0,none⟩)→a.defers=[]→Hz (RxD W wn (y,4,k))→Q .ret a wn) :
  Code.wp Tryz.prog uaRc Q (zc7 W U) w:=by
 have HN:=kz hN
 have HR:=kz hR
 have HX:=kz (RxT.refl h)
 have hln:=hT.n3
 clear hN hR h
 delta uaRc Tryz.f92 zc7 at *
 dsimp only
 go_wp2_with fail
 go_loopw [5] (fun i wr => ∃ k:Nat,k≤T.pr.length∧i=.int .i64 k∧Hz (OkTo T.pr pr0 (zjn) k)∧Hz (RxT W w wr T A)) (fun i _ =>T.pr.length - (intOf i).toNat)
 case atStart =>exact ⟨0,Nat.zero_le _,rfl,kz (OkTo.zero _ _ _),HX⟩
 case round =>
  clear HX
  obtain ⟨k,hk,rfl,HO,HX⟩:=hrel
  by_cases hkn:k < T.pr.length
  ·obtain ⟨x,hx⟩:∃ x,T.pr[k]?=some x:=⟨_,List.getElem?_eq_getElem hkn⟩
   obtain ⟨g,o,ea,hg,c0,c1,c2⟩:=zoz (oz HX).rx.tb.ti.r3 hx
   have HK:=kz hx
   have HG:=kz hg
   have k1:(k:Int) < (T.pr.length:Int):=by omega
   have k2:((k:Nat):Int).toNat=k:=by omega
   have zz:=(oz HX).rx.tb.z3
   rw [ea] at zz
   clear hg hx
   cases h1:zfO x.1 with
   | true =>
    have hf:zjn x=5:=by unfold zjn;rw [h1];rfl
    have HE:=kz ((oz HO).bad (oz HK) 4 (by rw [hf];decide))
    rw [hf] at HE
    clear hf HO HK
    have HC:=kz (fun w =>by have:=zbO x.1 w;rwa [h1] at this)
    clear ea h1
    go_wp2_with fail
    refine (oz HC _).mono ?_
    rintro e wx ⟨rfl,hw⟩
    rw [hw]
    clear hw wx
    have r0:=(oz HX).rx.rs.cell 0
    have f0:=(oz HX).rx.rs.frozen 0
    have r1:=(oz HX).rx.rs.cell 1
    have f1:=(oz HX).rx.rs.frozen 1
    have r2:=(oz HX).rx.rs.cell 2
    have f2:=(oz HX).rx.rs.frozen 2
    go_wp2_with fail
    exact oz HR _ _ (oz HE) (by decide) _ _ rfl rfl (kz ((oz HX).put _ _ _))
   | false =>
    have hf:zjn x=0:=by unfold zjn;rw [h1];rfl
    have HO2:=kz ((oz HO).next (oz HK) hf)
    clear hf HO HK
    have HC:=kz (fun w =>by have:=zbO x.1 w;rwa [h1] at this)
    clear ea h1
    go_wp2_with fail
    refine (oz HC _).mono ?_
    rintro e wx ⟨rfl,hw⟩
    rw [hw]
    clear hw wx
    go_wp2_with fail
    exact ⟨⟨k+1,by omega,by first | rfl | go_num,HO2,HX⟩,by simp [intOf];omega⟩
  ·have k1:¬ (k:Int) < (T.pr.length:Int):=by omega
   have zz:=(oz HX).rx.tb.z3
   have HE:=kz ((oz HO).ok (by omega) 4)
   clear HO HR
   go_wp2_with fail
   exact oz HN (oz HE) _ _ (zau rfl) HX
noncomputable def uaRd:Code:=match Tryz.f92.body with
 | some (.seq _ (.seq _ (.seq _ (.seq _ (.seq c _))))) =>c
 | _ =>.skip
theorem znT (T:TV) (hT:TabB T) (A:TbA) (W w:World) (hO:zav T)  (h:RxS W w T A) (U:Nat→Value) {Q:Exit→Act→World→Prop}
  (hN:zaf 5 T.fo mp0 (zgm)=(0,0,0)→∀ (a:Act) (wn:World),(∃ U',a=zc7 W U')→Hz (RxT W w wn T A)→Q .normal a wn)
  (hR:∀ (y k:Int),zaf 5 T.fo mp0 (zgm)=(y,5,k)→y≠0→∀ (a:Act) (wn:World),a.tmps.getD 2 undef=.pointer (some ⟨W.heap.size+1,0,none⟩)→a.defers=[]→Hz (RxD W wn (y,5,k))→Q .ret a wn) :
  Code.wp Tryz.prog uaRd Q (zc7 W U) w:=by
 have HN:=kz hN
 have HR:=kz hR
 have HX:=kz (RxT.refl h)
 have hln:=hT.n4
 have HZ:=kz (fun x (hx:x ∈ T.fo) =>And.intro (hT.z4 x hx) (zff (hO.f4 x hx).2).1)
 clear hN hR h
 delta uaRd Tryz.f92 zc7 at *
 dsimp only
 go_wp2_with fail
 go_loopw [6] (fun i wr => ∃ k:Nat,k≤T.fo.length∧i=.int .i64 k∧Hz (OkTo T.fo mp0 (zgm) k)∧Hz (RxT W w wr T A)) (fun i _ =>T.fo.length - (intOf i).toNat)
 case atStart =>exact ⟨0,Nat.zero_le _,rfl,kz (OkTo.zero _ _ _),HX⟩
 case round =>
  clear HX
  obtain ⟨k,hk,rfl,HO,HX⟩:=hrel
  by_cases hkn:k < T.fo.length
  ·obtain ⟨x,hx⟩:∃ x,T.fo[k]?=some x:=⟨_,List.getElem?_eq_getElem hkn⟩
   obtain ⟨g,o,ea,hg,c0,c1⟩:=zlH (oz HX).rx.tb.ti.r4 hx
   have HK:=kz hx
   have HG:=kz hg
   have k1:(k:Int) < (T.fo.length:Int):=by omega
   have k2:((k:Nat):Int).toNat=k:=by omega
   have zz:=(oz HX).rx.tb.z4
   rw [ea] at zz
   clear hg hx
   cases h1:zfO x.1 with
   | true =>
    by_cases h2:x.1 < 65
    ·have hf:zgm x=5:=by unfold zgm;rw [h1,decide_eq_true (by omega)];rfl
     have HE:=kz ((oz HO).bad (oz HK) 5 (by rw [hf];decide))
     rw [hf] at HE
     clear hf HO HK
     have HC:=kz (fun w =>by have:=zbO x.1 w;rwa [h1] at this)
     clear ea h1
     go_wp2_with fail
     refine (oz HC _).mono ?_
     rintro e wx ⟨rfl,hw⟩
     rw [hw]
     clear hw wx
     have r0:=(oz HX).rx.rs.cell 0
     have f0:=(oz HX).rx.rs.frozen 0
     have r1:=(oz HX).rx.rs.cell 1
     have f1:=(oz HX).rx.rs.frozen 1
     have r2:=(oz HX).rx.rs.cell 2
     have f2:=(oz HX).rx.rs.frozen 2
     go_wp2_with fail
     exact oz HR _ _ (oz HE) (by decide) _ _ rfl rfl (kz ((oz HX).put _ _ _))
    ·by_cases h3:90 < x.1
     ·have hf:zgm x=5:=by unfold zgm;rw [h1,decide_eq_true (by omega)];rfl
      have HE:=kz ((oz HO).bad (oz HK) 5 (by rw [hf];decide))
      rw [hf] at HE
      clear hf HO HK
      have HC:=kz (fun w =>by have:=zbO x.1 w;rwa [h1] at this)
      clear ea h1
      go_wp2_with fail
      refine (oz HC _).mono ?_
      rintro e wx ⟨rfl,hw⟩
      rw [hw]
      clear hw wx
      have r0:=(oz HX).rx.rs.cell 0
      have f0:=(oz HX).rx.rs.frozen 0
      have r1:=(oz HX).rx.rs.cell 1
      have f1:=(oz HX).rx.rs.frozen 1
      have r2:=(oz HX).rx.rs.cell 2
      have f2:=(oz HX).rx.rs.frozen 2
      go_wp2_with fail
      exact oz HR _ _ (oz HE) (by decide) _ _ rfl rfl (kz ((oz HX).put _ _ _))
     ·cases hs:zeC x.2 with
      | true =>
       have HC:=kz (fun w =>by have:=zbO x.1 w;rwa [h1] at this)
       have HS:=kz (fun w =>by have:=zcO x.2 (oz HZ x (List.mem_of_getElem? (oz HK))).1 (oz HZ x (List.mem_of_getElem? (oz HK))).2 w;rwa [hs] at this)
       have hf:zgm x=5:=by unfold zgm;rw [h1,decide_eq_false (by omega),hs];rfl
       have HE:=kz ((oz HO).bad (oz HK) 5 (by rw [hf];decide))
       rw [hf] at HE
       clear hf HO HK
       clear ea hs
       clear h1
       go_wp2_with fail
       refine (oz HC _).mono ?_
       rintro e wx ⟨rfl,hw⟩
       rw [hw]
       clear hw wx
       go_wp2_with fail
       refine (oz HS _).mono ?_
       rintro e w3 ⟨rfl,hbx⟩
       have HX1:=kz ((oz HX).below hbx)
       clear hbx HX HS zz c0 c1
       have r0:=(oz HX1).rx.rs.cell 0
       have f0:=(oz HX1).rx.rs.frozen 0
       have r1:=(oz HX1).rx.rs.cell 1
       have f1:=(oz HX1).rx.rs.frozen 1
       have r2:=(oz HX1).rx.rs.cell 2
       have f2:=(oz HX1).rx.rs.frozen 2
       go_wp2_with fail
       exact oz HR _ _ (oz HE) (by decide) _ _ rfl rfl (kz ((oz HX1).put _ _ _))
      | false =>
       have HC:=kz (fun w =>by have:=zbO x.1 w;rwa [h1] at this)
       have HS:=kz (fun w =>by have:=zcO x.2 (oz HZ x (List.mem_of_getElem? (oz HK))).1 (oz HZ x (List.mem_of_getElem? (oz HK))).2 w;rwa [hs] at this)
       have hf:zgm x=0:=by unfold zgm;rw [h1,decide_eq_false (by omega),hs];rfl
       have HO2:=kz ((oz HO).next (oz HK) hf)
       clear hf HO HK
       clear ea hs
       clear h1
       go_wp2_with fail
       refine (oz HC _).mono ?_
       rintro e wx ⟨rfl,hw⟩
       rw [hw]
       clear hw wx
       go_wp2_with fail
       refine (oz HS _).mono ?_
       rintro e w3 ⟨rfl,hbx⟩
       have HX1:=kz ((oz HX).below hbx)
       clear hbx HX HS zz c0 c1
       go_wp2_with fail
       exact ⟨⟨k+1,by omega,by first | rfl | go_num,HO2,HX1⟩,by simp [intOf];omega⟩
   | false =>
    cases hs:zeC x.2 with
    | true =>
     have HC:=kz (fun w =>by have:=zbO x.1 w;rwa [h1] at this)
     have HS:=kz (fun w =>by have:=zcO x.2 (oz HZ x (List.mem_of_getElem? (oz HK))).1 (oz HZ x (List.mem_of_getElem? (oz HK))).2 w;rwa [hs] at this)
     have hf:zgm x=5:=by unfold zgm;rw [h1,hs];rfl
     have HE:=kz ((oz HO).bad (oz HK) 5 (by rw [hf];decide))
     rw [hf] at HE
     clear hf HO HK
     clear ea hs
     clear h1
     go_wp2_with fail
     refine (oz HC _).mono ?_
     rintro e wx ⟨rfl,hw⟩
     rw [hw]
     clear hw wx
     go_wp2_with fail
     refine (oz HS _).mono ?_
     rintro e w3 ⟨rfl,hbx⟩
     have HX1:=kz ((oz HX).below hbx)
     clear hbx HX HS zz c0 c1
     have r0:=(oz HX1).rx.rs.cell 0
     have f0:=(oz HX1).rx.rs.frozen 0
     have r1:=(oz HX1).rx.rs.cell 1
     have f1:=(oz HX1).rx.rs.frozen 1
     have r2:=(oz HX1).rx.rs.cell 2
     have f2:=(oz HX1).rx.rs.frozen 2
     go_wp2_with fail
     exact oz HR _ _ (oz HE) (by decide) _ _ rfl rfl (kz ((oz HX1).put _ _ _))
    | false =>
     have HC:=kz (fun w =>by have:=zbO x.1 w;rwa [h1] at this)
     have HS:=kz (fun w =>by have:=zcO x.2 (oz HZ x (List.mem_of_getElem? (oz HK))).1 (oz HZ x (List.mem_of_getElem? (oz HK))).2 w;rwa [hs] at this)
     have hf:zgm x=0:=by unfold zgm;rw [h1,hs];rfl
     have HO2:=kz ((oz HO).next (oz HK) hf)
     clear hf HO HK
     clear ea hs
     clear h1
     go_wp2_with fail
     refine (oz HC _).mono ?_
     rintro e wx ⟨rfl,hw⟩
     rw [hw]
     clear hw wx
     go_wp2_with fail
     refine (oz HS _).mono ?_
     rintro e w3 ⟨rfl,hbx⟩
     have HX1:=kz ((oz HX).below hbx)
     clear hbx HX HS zz c0 c1
     go_wp2_with fail
     exact ⟨⟨k+1,by omega,by first | rfl | go_num,HO2,HX1⟩,by simp [intOf];omega⟩
  ·have k1:¬ (k:Int) < (T.fo.length:Int):=by omega
   have zz:=(oz HX).rx.tb.z4
   have HE:=kz ((oz HO).ok (by omega) 5)
   clear HO HR
   go_wp2_with fail
   exact oz HN (oz HE) _ _ (zau rfl) HX
noncomputable def uaRe:Code:=match Tryz.f92.body with
 | some (.seq _ (.seq _ (.seq _ (.seq _ (.seq _ (.seq c _)))))) =>c
 | _ =>.skip
theorem znS (T:TV) (hT:TabB T) (A:TbA) (W w:World) (hO:zav T)  (h:RxS W w T A) (U:Nat→Value) {Q:Exit→Act→World→Prop}
  (hN:zaf 6 T.lk mp0 (ziA)=(0,0,0)→∀ (a:Act) (wn:World),(∃ U',a=zc7 W U')→Hz (RxT W w wn T A)→Q .normal a wn)
  (hR:∀ (y k:Int),zaf 6 T.lk mp0 (ziA)=(y,6,k)→y≠0→∀ (a:Act) (wn:World),a.tmps.getD 2 undef=.pointer (some ⟨W.heap.size+1,0,none⟩)→a.defers=[]→Hz (RxD W wn (y,6,k))→Q .ret a wn) :
  Code.wp Tryz.prog uaRe Q (zc7 W U) w:=by
 have HN:=kz hN
 have HR:=kz hR
 have HX:=kz (RxT.refl h)
 have hln:=hT.n5
 have HZ:=kz (fun x (hx:x ∈ T.lk) =>And.intro (hT.z5 x hx) (zff (hO.f5 x hx).2).1)
 clear hN hR h
 delta uaRe Tryz.f92 zc7 at *
 dsimp only
 go_wp2_with fail
 go_loopw [8] (fun i wr => ∃ k:Nat,k≤T.lk.length∧i=.int .i64 k∧Hz (OkTo T.lk mp0 (ziA) k)∧Hz (RxT W w wr T A)) (fun i _ =>T.lk.length - (intOf i).toNat)
 case atStart =>exact ⟨0,Nat.zero_le _,rfl,kz (OkTo.zero _ _ _),HX⟩
 case round =>
  clear HX
  obtain ⟨k,hk,rfl,HO,HX⟩:=hrel
  by_cases hkn:k < T.lk.length
  ·obtain ⟨x,hx⟩:∃ x,T.lk[k]?=some x:=⟨_,List.getElem?_eq_getElem hkn⟩
   obtain ⟨g,o,ea,hg,c0,c1⟩:=zlH (oz HX).rx.tb.ti.r5 hx
   have HK:=kz hx
   have HG:=kz hg
   have k1:(k:Int) < (T.lk.length:Int):=by omega
   have k2:((k:Nat):Int).toNat=k:=by omega
   have zz:=(oz HX).rx.tb.z5
   rw [ea] at zz
   clear hg hx
   cases h1:ziv x.1 with
   | true =>
    have hf:ziA x=5:=by unfold ziA;rw [h1];rfl
    have HE:=kz ((oz HO).bad (oz HK) 6 (by rw [hf];decide))
    rw [hf] at HE
    clear hf HO HK
    have HC:=kz (fun w =>by have:=zeS x.1 w;rwa [h1] at this)
    clear ea h1
    go_wp2_with fail
    refine (oz HC _).mono ?_
    rintro e wx ⟨rfl,hw⟩
    rw [hw]
    clear hw wx
    have r0:=(oz HX).rx.rs.cell 0
    have f0:=(oz HX).rx.rs.frozen 0
    have r1:=(oz HX).rx.rs.cell 1
    have f1:=(oz HX).rx.rs.frozen 1
    have r2:=(oz HX).rx.rs.cell 2
    have f2:=(oz HX).rx.rs.frozen 2
    go_wp2_with fail
    exact oz HR _ _ (oz HE) (by decide) _ _ rfl rfl (kz ((oz HX).put _ _ _))
   | false =>
    cases hs:zeC x.2 with
    | true =>
     have HC:=kz (fun w =>by have:=zeS x.1 w;rwa [h1] at this)
     have HS:=kz (fun w =>by have:=zcO x.2 (oz HZ x (List.mem_of_getElem? (oz HK))).1 (oz HZ x (List.mem_of_getElem? (oz HK))).2 w;rwa [hs] at this)
     have hf:ziA x=5:=by unfold ziA;rw [h1,hs];rfl
     have HE:=kz ((oz HO).bad (oz HK) 6 (by rw [hf];decide))
     rw [hf] at HE
     clear hf HO HK
     clear ea hs
     clear h1
     go_wp2_with fail
     refine (oz HC _).mono ?_
     rintro e wx ⟨rfl,hw⟩
     rw [hw]
     clear hw wx
     go_wp2_with fail
     refine (oz HS _).mono ?_
     rintro e w3 ⟨rfl,hbx⟩
     have HX1:=kz ((oz HX).below hbx)
     clear hbx HX HS zz c0 c1
     have r0:=(oz HX1).rx.rs.cell 0
     have f0:=(oz HX1).rx.rs.frozen 0
     have r1:=(oz HX1).rx.rs.cell 1
     have f1:=(oz HX1).rx.rs.frozen 1
     have r2:=(oz HX1).rx.rs.cell 2
     have f2:=(oz HX1).rx.rs.frozen 2
     go_wp2_with fail
     exact oz HR _ _ (oz HE) (by decide) _ _ rfl rfl (kz ((oz HX1).put _ _ _))
    | false =>
     have HC:=kz (fun w =>by have:=zeS x.1 w;rwa [h1] at this)
     have HS:=kz (fun w =>by have:=zcO x.2 (oz HZ x (List.mem_of_getElem? (oz HK))).1 (oz HZ x (List.mem_of_getElem? (oz HK))).2 w;rwa [hs] at this)
     have hf:ziA x=0:=by unfold ziA;rw [h1,hs];rfl
     have HO2:=kz ((oz HO).next (oz HK) hf)
     clear hf HO HK
     clear ea hs
     clear h1
     go_wp2_with fail
     refine (oz HC _).mono ?_
     rintro e wx ⟨rfl,hw⟩
     rw [hw]
     clear hw wx
     go_wp2_with fail
     refine (oz HS _).mono ?_
     rintro e w3 ⟨rfl,hbx⟩
     have HX1:=kz ((oz HX).below hbx)
     clear hbx HX HS zz c0 c1
     go_wp2_with fail
     exact ⟨⟨k+1,by omega,by first | rfl | go_num,HO2,HX1⟩,by simp [intOf];omega⟩
  ·have k1:¬ (k:Int) < (T.lk.length:Int):=by omega
   have zz:=(oz HX).rx.tb.z5
   have HE:=kz ((oz HO).ok (by omega) 6)
   clear HO HR
   go_wp2_with fail
   exact oz HN (oz HE) _ _ (zau rfl) HX
theorem zkT (T:TV) (hT:TabB T) (hO:zav T) (v:Value) (W:World) (hv:TbV W T v) :
  Calls Tryz.prog 92 #[v] W fun e w' =>e=.returned (wrV (orW [zbM 2 T.co comL,zaf 3 T.ma ma0 zjo,zaf 4 T.pr pr0 zjn,zaf 5 T.fo mp0 zgm,zaf 6 T.lk mp0 ziA]))∧Below W.heap.size W w':=by
 obtain ⟨A,rfl,hA⟩:=hv
 have HX:=kz (RxS.start hA)
 have HT:=kz hT
 have HO:=kz hO
 have HV:∃ mb,Hz (orW [zbM 2 T.co comL,zaf 3 T.ma ma0 zjo,zaf 4 T.pr pr0 zjn,zaf 5 T.fo mp0 zgm,zaf 6 T.lk mp0 ziA]=mb):=⟨_,kz rfl⟩
 obtain ⟨mb,HV⟩:=HV
 rw [show orW [zbM 2 T.co comL,zaf 3 T.ma ma0 zjo,zaf 4 T.pr pr0 zjn,zaf 5 T.fo mp0 zgm,zaf 6 T.lk mp0 ziA]=mb from oz HV]
 clear hA hT hO
 go_enter Tryz.func92,Tryz.ntmps92
 refine wp_seq_k (fun K0 hK0 =>?_)
 have HK0:=kz hK0
 clear hK0
 go_wp2_with fail
 refine oz HK0 _ _ ?_
 clear HK0 K0
 generalize (W.alloc (.cells #[.slice A.a0 T.sc.length A.c0,.slice A.a1 T.co.length A.c1,.slice A.a2 T.ma.length A.c2,.slice A.a3 T.pr.length A.c3,.slice A.a4 T.fo.length A.c4,.slice A.a5 T.lk.length A.c5,.slice A.a6 T.dr.length A.c6,.slice A.a7 T.al.length A.c7] 28)).alloc (.cells #[.int .i64 0,.int .i64 0,.int .i64 0] 76)=w0 at *
 have hR:∀ (y l k:Int),mb=(y,l,k)→∀ (a:Act) (wn:World),a.tmps.getD 2 undef=.pointer (some ⟨W.heap.size+1,0,none⟩)→a.defers=[]→Hz (RxD W wn (y,l,k))→bodyPost Tryz.prog Tryz.f92 (fun e w' =>e=.returned (wrV mb)∧Below W.heap.size W w') .ret a wn:=fun y l k e a wn h1 h2 h3 =>by
  subst e
  exact bodyPost_ret (v:=wrV (y,l,k)) (zb8 Tryz.results92 h1 (oz h3).rs rfl) h2 ⟨rfl,(oz h3).bl⟩
 refine wp_seq_k (fun K1 hK1 =>?_)
 refine zaL (F:=zc7 W) (zau rfl) (fun U =>?_)
 refine znW T (oz HT) A W _ (oz HX) U ?_ ?_
 rotate_left
 ·intro y k e hy a wn h1 h2 h3
  exact hR y _ k (by rw [← oz HV,zai (by rw [e];exact hy),e]) a wn h1 h2 h3
 intro E1 a w1 ⟨U1,hU⟩ hx
 subst hU
 have HX1:=kz (oz hx).rx
 clear hx
 refine hK1 _ _ ?_
 clear hK1 K1
 refine wp_seq_k (fun K2 hK2 =>?_)
 refine zaL (F:=zc7 W) ⟨U1,rfl⟩ (fun U =>?_)
 refine znV T (oz HT) A W _ (oz HX1) U ?_ ?_
 rotate_left
 ·intro y k e hy a wn h1 h2 h3
  exact hR y _ k (by rw [← oz HV,zad (by rw [E1]),zai (by rw [e];exact hy),e]) a wn h1 h2 h3
 intro E2 a w2 ⟨U2,hU⟩ hx
 subst hU
 have HX2:=kz (oz hx).rx
 clear hx
 refine hK2 _ _ ?_
 clear hK2 K2
 refine wp_seq_k (fun K3 hK3 =>?_)
 refine zaL (F:=zc7 W) ⟨U2,rfl⟩ (fun U =>?_)
 refine znU T (oz HT) A W _ (oz HX2) U ?_ ?_
 rotate_left
 ·intro y k e hy a wn h1 h2 h3
  exact hR y _ k (by rw [← oz HV,zad (by rw [E1]),zad (by rw [E2]),zai (by rw [e];exact hy),e]) a wn h1 h2 h3
 intro E3 a w3 ⟨U3,hU⟩ hx
 subst hU
 have HX3:=kz (oz hx).rx
 clear hx
 refine hK3 _ _ ?_
 clear hK3 K3
 refine wp_seq_k (fun K4 hK4 =>?_)
 refine zaL (F:=zc7 W) ⟨U3,rfl⟩ (fun U =>?_)
 refine znT T (oz HT) A W _ (oz HO) (oz HX3) U ?_ ?_
 rotate_left
 ·intro y k e hy a wn h1 h2 h3
  exact hR y _ k (by rw [← oz HV,zad (by rw [E1]),zad (by rw [E2]),zad (by rw [E3]),zai (by rw [e];exact hy),e]) a wn h1 h2 h3
 intro E4 a w4 ⟨U4,hU⟩ hx
 subst hU
 have HX4:=kz (oz hx).rx
 clear hx
 refine hK4 _ _ ?_
 clear hK4 K4
 refine wp_seq_k (fun K5 hK5 =>?_)
 refine zaL (F:=zc7 W) ⟨U4,rfl⟩ (fun U =>?_)
 refine znS T (oz HT) A W _ (oz HO) (oz HX4) U ?_ ?_
 rotate_left
 ·intro y k e hy a wn h1 h2 h3
  exact hR y _ k (by rw [← oz HV,zad (by rw [E1]),zad (by rw [E2]),zad (by rw [E3]),zad (by rw [E4]),zai (by rw [e];exact hy),e]) a wn h1 h2 h3
 intro E5 a w5 ⟨U5,hU⟩ hx
 subst hU
 have HX5:=kz (oz hx).rx
 clear hx
 refine hK5 _ _ ?_
 clear hK5 K5
 have hm:mb=(0,0,0):=by
  rw [← oz HV,zad (by rw [E1]),zad (by rw [E2]),zad (by rw [E3]),zad (by rw [E4]),zad (by rw [E5])]
  rfl
 subst hm
 clear hR HV E1 E2 E3 E4 E5
 refine zaL (F:=zc7 W) ⟨U5,rfl⟩ (fun U =>?_)
 unfold zc7
 have r0:=(oz HX5).rs.cell 0
 have f0:=(oz HX5).rs.frozen 0
 have r1:=(oz HX5).rs.cell 1
 have f1:=(oz HX5).rs.frozen 1
 have r2:=(oz HX5).rs.cell 2
 have f2:=(oz HX5).rs.frozen 2
 go_wp2_with fail
 exact bodyPost_ret (v:=wrV (0,0,0)) (zb8 Tryz.results92 rfl (zcf (oz HX5).rs _ _ _) rfl) rfl ⟨rfl,((oz HX5).put (0,0,0)).bl⟩
theorem zf8 (w:World) (x:Obj):Below w.heap.size w (w.alloc x):=(Below.refl _ w).alloc (Nat.le_refl _) _
theorem zeL {r:Int}:r ∈ labL ↔ r=45∨(48≤r∧r≤57)∨(97≤r∧r≤122):=by
 unfold labL
 rw [List.mem_append,List.mem_map]
 constructor
 ·rintro (h | ⟨k,hk,rfl⟩)
  ·simp at h;omega
  ·have:=List.mem_range.1 hk;omega
 ·intro h
  by_cases h2:97≤r
  ·exact .inr ⟨(r - 97).toNat,List.mem_range.2 (by omega),by omega⟩
  ·refine .inl ?_
   simp
   omega
theorem zj5 {x:Int × Int} {r:Int} (h0:0≤r) (h1:r < 128) (h2:x.1≤r) (h3:r≤x.2) (h4:zi9 r=false):alF x=5:=by
 unfold alF
 rw [if_pos (List.any_eq_true.2 ⟨r.toNat,List.mem_range.2 (by omega),by rw [show ((r.toNat:Nat):Int)=r by omega,h4,decide_eq_true ⟨h2,h3⟩];rfl⟩)]
theorem zpq {x:Int × Int} (h:∀ q,x.1≤q→q≤x.2→0≤q→q < 128→zi9 q=true):alF x=0:=by
 unfold alF
 rw [if_neg]
 intro e
 obtain ⟨k,hk,e⟩:=List.any_eq_true.1 e
 have hk:=List.mem_range.1 hk
 rw [Bool.and_eq_true] at e
 have e1:=of_decide_eq_true e.1
 rw [h k e1.1 e1.2 (by omega) (by omega)] at e
 simp at e
def zeM (W:World) (U:Nat→Value):Act:={ tmps:=#[U 0,.pointer (some ⟨W.heap.size,0,none⟩),.pointer (some ⟨W.heap.size+1,0,none⟩),U 3,U 4,U 5,U 6,U 7,U 8,U 9,U 10,U 11,U 12,U 13,U 14,U 15,U 16,U 17,U 18,U 19,U 20,U 21,U 22,U 23,U 24,U 25,U 26,U 27,U 28,U 29,U 30,U 31,U 32,U 33,U 34,U 35,U 36,U 37,U 38,U 39,U 40,U 41,U 42,U 43,U 44,U 45,U 46,U 47,U 48,U 49,U 50,U 51,U 52,U 53,U 54,U 55,U 56,U 57,U 58,U 59,U 60,U 61,U 62,U 63,U 64,U 65,U 66,U 67,U 68,U 69,U 70,U 71,U 72,U 73,U 74,U 75,U 76,U 77,U 78,U 79,U 80,U 81,U 82,U 83,U 84,U 85,U 86,U 87,U 88,U 89,U 90,U 91,U 92,U 93,U 94,U 95,U 96,U 97,U 98,U 99,U 100,U 101,U 102,U 103,U 104,U 105,U 106,U 107,U 108,U 109,U 110,U 111,U 112,U 113,U 114,U 115,U 116,U 117,U 118,U 119,U 120,U 121],defers := [] }
noncomputable def uaHb:Code:=match Tryz.f60.body with
 | some (.seq _ (.seq _ (.seq _ (.seq c _)))) =>c
 | _ =>.skip
theorem zn2 (T:TV) (hT:TabB T) (A:TbA) (W w:World)  (h:RxS W w T A) (U:Nat→Value) {Q:Exit→Act→World→Prop}
  (hN:zaf 7 T.dr ma0 (drF)=(0,0,0)→∀ (a:Act) (wn:World),(∃ U',a=zeM W U')→Hz (RxT W w wn T A)→Q .normal a wn)
  (hR:∀ (y k:Int),zaf 7 T.dr ma0 (drF)=(y,7,k)→y≠0→∀ (a:Act) (wn:World),a.tmps.getD 2 undef=.pointer (some ⟨W.heap.size+1,0,none⟩)→a.defers=[]→Hz (RxD W wn (y,7,k))→Q .ret a wn) :
  Code.wp Tryz.prog uaHb Q (zeM W U) w:=by
 have HN:=kz hN
 have HR:=kz hR
 have HX:=kz (RxT.refl h)
 have hln:=hT.n6
 clear hN hR h
 delta uaHb Tryz.f60 zeM at *
 dsimp only
 go_wp2_with fail
 go_loopw [4] (fun i wr => ∃ k:Nat,k≤T.dr.length∧i=.int .i64 k∧Hz (OkTo T.dr ma0 (drF) k)∧Hz (RxT W w wr T A)) (fun i _ =>T.dr.length - (intOf i).toNat)
 case atStart =>exact ⟨0,Nat.zero_le _,rfl,kz (OkTo.zero _ _ _),HX⟩
 case round =>
  clear HX
  obtain ⟨k,hk,rfl,HO,HX⟩:=hrel
  by_cases hkn:k < T.dr.length
  ·obtain ⟨x,hx⟩:∃ x,T.dr[k]?=some x:=⟨_,List.getElem?_eq_getElem hkn⟩
   obtain ⟨g,o,ea,hg,c0,c1⟩:=zqp (oz HX).rx.tb.ti.r6 hx
   have HK:=kz hx
   have HG:=kz hg
   have k1:(k:Int) < (T.dr.length:Int):=by omega
   have k2:((k:Nat):Int).toNat=k:=by omega
   have zz:=(oz HX).rx.tb.z6
   rw [ea] at zz
   clear hg hx
   by_cases h1:x.1 < 128
   ·have hf:drF x=5:=by unfold drF;exact if_pos (by omega)
    have HE:=kz ((oz HO).bad (oz HK) 7 (by rw [hf];decide))
    rw [hf] at HE
    clear hf HO HK
    clear ea
    have r0:=(oz HX).rx.rs.cell 0
    have f0:=(oz HX).rx.rs.frozen 0
    have r1:=(oz HX).rx.rs.cell 1
    have f1:=(oz HX).rx.rs.frozen 1
    have r2:=(oz HX).rx.rs.cell 2
    have f2:=(oz HX).rx.rs.frozen 2
    go_wp2_with fail
    exact oz HR _ _ (oz HE) (by decide) _ _ rfl rfl (kz ((oz HX).put _ _ _))
   ·by_cases h2:x.1≤65533
    ·by_cases h3:65533≤x.2
     ·have hf:drF x=5:=by unfold drF;exact if_pos (by omega)
      have HE:=kz ((oz HO).bad (oz HK) 7 (by rw [hf];decide))
      rw [hf] at HE
      clear hf HO HK
      clear ea
      have r0:=(oz HX).rx.rs.cell 0
      have f0:=(oz HX).rx.rs.frozen 0
      have r1:=(oz HX).rx.rs.cell 1
      have f1:=(oz HX).rx.rs.frozen 1
      have r2:=(oz HX).rx.rs.cell 2
      have f2:=(oz HX).rx.rs.frozen 2
      go_wp2_with fail
      exact oz HR _ _ (oz HE) (by decide) _ _ rfl rfl (kz ((oz HX).put _ _ _))
     ·have hf:drF x=0:=by unfold drF;exact if_neg (by omega)
      have HO2:=kz ((oz HO).next (oz HK) hf)
      clear hf HO HK
      clear ea
      go_wp2_with fail
      exact ⟨⟨k+1,by omega,by first | rfl | go_num,HO2,HX⟩,by simp [intOf];omega⟩
    ·have hf:drF x=0:=by unfold drF;exact if_neg (by omega)
     have HO2:=kz ((oz HO).next (oz HK) hf)
     clear hf HO HK
     clear ea
     go_wp2_with fail
     exact ⟨⟨k+1,by omega,by first | rfl | go_num,HO2,HX⟩,by simp [intOf];omega⟩
  ·have k1:¬ (k:Int) < (T.dr.length:Int):=by omega
   have zz:=(oz HX).rx.tb.z6
   have HE:=kz ((oz HO).ok (by omega) 7)
   clear HO HR
   go_wp2_with fail
   exact oz HN (oz HE) _ _ (zau rfl) HX
noncomputable def uaHc:Code:=match Tryz.f60.body with
 | some (.seq _ (.seq _ (.seq _ (.seq _ (.seq c _))))) =>c
 | _ =>.skip
theorem zn1 (T:TV) (hT:TabB T) (A:TbA) (W w:World) (hO:zav T)  (h:RxS W w T A) (U:Nat→Value) {Q:Exit→Act→World→Prop}
  (hN:zaf 8 T.al ma0 (alF)=(0,0,0)→∀ (a:Act) (wn:World),(∃ U',a=zeM W U')→Hz (RxT W w wn T A)→Q .normal a wn)
  (hR:∀ (y k:Int),zaf 8 T.al ma0 (alF)=(y,8,k)→y≠0→∀ (a:Act) (wn:World),a.tmps.getD 2 undef=.pointer (some ⟨W.heap.size+1,0,none⟩)→a.defers=[]→Hz (RxD W wn (y,8,k))→Q .ret a wn) :
  Code.wp Tryz.prog uaHc Q (zeM W U) w:=by
 have HN:=kz hN
 have HR:=kz hR
 have HX:=kz (RxT.refl h)
 have hln:=hT.n7
 have HZ:=kz (fun x (hx:x ∈ T.al) =>hO.f7 x hx)
 clear hN hR h
 delta uaHc Tryz.f60 zeM at *
 dsimp only
 go_wp2_with fail
 go_loopw [5] (fun i wr => ∃ k:Nat,k≤T.al.length∧i=.int .i64 k∧Hz (OkTo T.al ma0 (alF) k)∧Hz (RxT W w wr T A)) (fun i _ =>T.al.length - (intOf i).toNat)
 case atStart =>exact ⟨0,Nat.zero_le _,rfl,kz (OkTo.zero _ _ _),HX⟩
 case round =>
  clear HX
  obtain ⟨k,hk,rfl,HO,HX⟩:=hrel
  by_cases hkn:k < T.al.length
  ·obtain ⟨x,hx⟩:∃ x,T.al[k]?=some x:=⟨_,List.getElem?_eq_getElem hkn⟩
   obtain ⟨g,o,ea,hg,c0,c1⟩:=zqp (oz HX).rx.tb.ti.r7 hx
   have HK:=kz hx
   have HG:=kz hg
   have k1:(k:Int) < (T.al.length:Int):=by omega
   have k2:((k:Nat):Int).toNat=k:=by omega
   have zz:=(oz HX).rx.tb.z7
   rw [ea] at zz
   clear hg hx
   have he:=zat ((oz HZ) x (List.mem_of_getElem? (oz HK))).1
   obtain ⟨⟨he1,he2,_⟩,⟨he3,he4,_⟩⟩:=he
   clear HZ ea
   go_wp2_with fail
   obtain ⟨wq,hwq⟩:∃ wq,wq=wr:=⟨_,rfl⟩
   subst hwq
   go_loopw [6] (fun jv wi => ∃ r:Int,x.1≤r∧r≤1114112∧jv=.int .i32 r∧Hz (∀ q,x.1≤q→q < r→zi9 q=true)∧wi=wq) (fun jv _ =>128 - (intOf jv).toNat)
   case atStart =>exact ⟨x.1,by omega,by omega,rfl,kz (fun q h1 h2 =>by omega),rfl⟩
   case round =>
    obtain ⟨r,hr0,hr1,rfl,HI,rfl⟩:=hrel
    by_cases h1:r≤x.2
    ·by_cases h2:r < 128
     ·by_cases h3:r=45
      ·subst h3
       have HI2:Hz (∀ q,x.1≤q→q < 46→zi9 q=true):=kz (fun q h1 h2 =>by
        by_cases e:q=45
        ·rw [e];decide
        ·exact oz HI q h1 (by omega))
       clear HI
       go_wp2_with fail
       exact ⟨⟨46,by omega,by omega,by first | rfl | go_num,HI2,by first | trivial | rfl⟩,by simp [intOf] <;> omega⟩
      ·have n3:(r == 45)=false:=by simpa using h3
       by_cases h4:r < 48
       ·have hf:alF x=5:=zj5 (r:=r) (by omega) (by omega) (by omega) (by omega) (by unfold zi9;exact decide_eq_false (by omega))
        have HE:=kz ((oz HO).bad (oz HK) 8 (by rw [hf];decide))
        rw [hf] at HE
        clear hf HO HK HI
        have r0:=(oz HX).rx.rs.cell 0
        have f0:=(oz HX).rx.rs.frozen 0
        have r1:=(oz HX).rx.rs.cell 1
        have f1:=(oz HX).rx.rs.frozen 1
        have r2:=(oz HX).rx.rs.cell 2
        have f2:=(oz HX).rx.rs.frozen 2
        go_wp2_with fail
        exact oz HR _ _ (oz HE) (by decide) _ _ rfl rfl (kz ((oz HX).put _ _ _))
       ·by_cases h5:57 < r
        ·by_cases h6:r < 97
         ·have hf:alF x=5:=zj5 (r:=r) (by omega) (by omega) (by omega) (by omega) (by unfold zi9;exact decide_eq_false (by omega))
          have HE:=kz ((oz HO).bad (oz HK) 8 (by rw [hf];decide))
          rw [hf] at HE
          clear hf HO HK HI
          have r0:=(oz HX).rx.rs.cell 0
          have f0:=(oz HX).rx.rs.frozen 0
          have r1:=(oz HX).rx.rs.cell 1
          have f1:=(oz HX).rx.rs.frozen 1
          have r2:=(oz HX).rx.rs.cell 2
          have f2:=(oz HX).rx.rs.frozen 2
          go_wp2_with fail
          exact oz HR _ _ (oz HE) (by decide) _ _ rfl rfl (kz ((oz HX).put _ _ _))
         ·by_cases h7:122 < r
          ·have hf:alF x=5:=zj5 (r:=r) (by omega) (by omega) (by omega) (by omega) (by unfold zi9;exact decide_eq_false (by omega))
           have HE:=kz ((oz HO).bad (oz HK) 8 (by rw [hf];decide))
           rw [hf] at HE
           clear hf HO HK HI
           have r0:=(oz HX).rx.rs.cell 0
           have f0:=(oz HX).rx.rs.frozen 0
           have r1:=(oz HX).rx.rs.cell 1
           have f1:=(oz HX).rx.rs.frozen 1
           have r2:=(oz HX).rx.rs.cell 2
           have f2:=(oz HX).rx.rs.frozen 2
           go_wp2_with fail
           exact oz HR _ _ (oz HE) (by decide) _ _ rfl rfl (kz ((oz HX).put _ _ _))
          ·have HI2:Hz (∀ q,x.1≤q→q < r+1→zi9 q=true):=kz (fun q h1 h2 =>by
            by_cases e:q=r
            ·rw [e];unfold zi9;exact decide_eq_true (by omega)
            ·exact oz HI q h1 (by omega))
           clear HI
           go_wp2_with fail
           exact ⟨⟨r+1,by omega,by omega,by first | rfl | go_num,HI2,by first | trivial | rfl⟩,by simp [intOf] <;> omega⟩
        ·have HI2:Hz (∀ q,x.1≤q→q < r+1→zi9 q=true):=kz (fun q h1 h2 =>by
          by_cases e:q=r
          ·rw [e];unfold zi9;exact decide_eq_true (by omega)
          ·exact oz HI q h1 (by omega))
         clear HI
         go_wp2_with fail
         exact ⟨⟨r+1,by omega,by omega,by first | rfl | go_num,HI2,by first | trivial | rfl⟩,by simp [intOf] <;> omega⟩
     ·have HF:Hz (alF x=0):=kz (zpq (fun q h1 h2 h3 h4 =>oz HI q h1 (by omega)))
      have HO2:=kz ((oz HO).next (oz HK) (oz HF))
      clear HO HK HI HF
      go_wp2_with fail
      exact ⟨⟨k+1,by omega,by first | rfl | go_num,HO2,HX⟩,by simp [intOf];omega⟩
    ·have HF:Hz (alF x=0):=kz (zpq (fun q h1 h2 h3 h4 =>oz HI q h1 (by omega)))
     have HO2:=kz ((oz HO).next (oz HK) (oz HF))
     clear HO HK HI HF
     go_wp2_with fail
     exact ⟨⟨k+1,by omega,by first | rfl | go_num,HO2,HX⟩,by simp [intOf];omega⟩
  ·have k1:¬ (k:Int) < (T.al.length:Int):=by omega
   have zz:=(oz HX).rx.tb.z7
   have HE:=kz ((oz HO).ok (by omega) 8)
   clear HO HR
   go_wp2_with fail
   exact oz HN (oz HE) _ _ (zau rfl) HX
noncomputable def uaHd:Code:=match Tryz.f60.body with
 | some (.seq _ (.seq _ (.seq _ (.seq _ (.seq _ (.seq c _)))))) =>c
 | _ =>.skip
theorem zn0 (T:TV) (hT:TabB T) (A:TbA) (W w:World) (h:RxS W w T A) (U:Nat→Value) {Q:Exit→Act→World→Prop}
  (hN:zbM 8 T.al labL=(0,0,0)→∀ (a:Act) (wn:World),(∃ U',a=zeM W U')→Hz (RxT W w wn T A)→Q .normal a wn)
  (hR:∀ (y k:Int),zbM 8 T.al labL=(y,8,k)→y≠0→∀ (a:Act) (wn:World),a.tmps.getD 2 undef=.pointer (some ⟨W.heap.size+1,0,none⟩)→a.defers=[]→Hz (RxD W wn (y,8,k))→Q .ret a wn) :
  Code.wp Tryz.prog uaHd Q (zeM W U) w:=by
 have HN:=kz hN
 have HR:=kz hR
 have HX:=kz (RxT.refl h)
 have HO:=kz (fun r b (hb:zam T.al r=b) a c w (hv:RowC w w.heap.size a (zaQ T.al)) =>by have:=zbk T.al hT.n7 a c r w hv;rwa [hb] at this)
 clear hN hR h hT
 delta uaHd Tryz.f60 zeM at *
 dsimp only
 go_wp2_with fail
 go_loopw [7] (fun i wr => ∃ r:Int,45≤r∧r≤123∧i=.int .i32 r∧Hz (∀ q,45≤q→q < r→(q=45∨(48≤q∧q≤57)∨(97≤q∧q≤122))→zam T.al q=true)∧Hz (RxT W w wr T A)) (fun i _ =>123 - (intOf i).toNat)
 case atStart =>exact ⟨45,by omega,by omega,rfl,kz (fun q h1 h2 _ =>by omega),HX⟩
 case round =>
  clear HX
  obtain ⟨r,hr0,hr1,rfl,HI,HX⟩:=hrel
  have zz:=(oz HX).rx.tb.z7
  by_cases hr2:r≤122
  ·by_cases h45:r=45
   ·subst h45
    cases hm:zam T.al 45 with
    | false =>
     have HE:Hz (zbM 8 T.al labL=(5,8,0)):=kz (zf4 (zeL.2 (by omega)) hm)
     have HOc:=kz (oz HO 45 _ hm A.a7 A.c7 wr ((oz HX).rx.tb.ti.r7))
     clear HI HO hm
     go_wp2_with fail
     refine (oz HOc).mono ?_
     rintro e wx ⟨rfl,hw⟩
     rw [hw]
     clear hw wx HOc
     have r0:=(oz HX).rx.rs.cell 0
     have f0:=(oz HX).rx.rs.frozen 0
     have r1:=(oz HX).rx.rs.cell 1
     have f1:=(oz HX).rx.rs.frozen 1
     have r2:=(oz HX).rx.rs.cell 2
     have f2:=(oz HX).rx.rs.frozen 2
     go_wp2_with fail
     exact oz HR _ _ (oz HE) (by decide) _ _ rfl rfl (kz ((oz HX).put _ _ _))
    | true =>
     have HI2:Hz (∀ q,45≤q→q < 46→(q=45∨(48≤q∧q≤57)∨(97≤q∧q≤122))→zam T.al q=true):=kz (fun q h1 h2 h3 =>by
      by_cases e:q=45
      ·rw [e];exact hm
      ·exact oz HI q h1 (by omega) h3)
     have HOc:=kz (oz HO 45 _ hm A.a7 A.c7 wr ((oz HX).rx.tb.ti.r7))
     clear HI HO hm
     go_wp2_with fail
     refine (oz HOc).mono ?_
     rintro e wx ⟨rfl,hw⟩
     rw [hw]
     clear hw wx HOc
     go_wp2_with fail
     exact ⟨⟨46,by omega,by omega,by first | rfl | go_num,HI2,HX⟩,by simp [intOf] <;> omega⟩
   ·have n45:(r == 45)=false:=by simpa using h45
    by_cases h1:r < 48
    ·have HI2:Hz (∀ q,45≤q→q < r+1→(q=45∨(48≤q∧q≤57)∨(97≤q∧q≤122))→zam T.al q=true):=kz (fun q h1 h2 h3 =>by
      by_cases e:q=r
      ·exact absurd h3 (by omega)
      ·exact oz HI q h1 (by omega) h3)
     clear HI
     go_wp2_with fail
     exact ⟨⟨r+1,by omega,by omega,by first | rfl | go_num,HI2,HX⟩,by simp [intOf] <;> omega⟩
    ·by_cases h2:r≤57
     ·cases hm:zam T.al r with
      | false =>
       have HE:Hz (zbM 8 T.al labL=(5,8,0)):=kz (zf4 (zeL.2 (by omega)) hm)
       have HOc:=kz (oz HO r _ hm A.a7 A.c7 wr ((oz HX).rx.tb.ti.r7))
       clear HI HO hm
       go_wp2_with fail
       refine (oz HOc).mono ?_
       rintro e wx ⟨rfl,hw⟩
       rw [hw]
       clear hw wx HOc
       have r0:=(oz HX).rx.rs.cell 0
       have f0:=(oz HX).rx.rs.frozen 0
       have r1:=(oz HX).rx.rs.cell 1
       have f1:=(oz HX).rx.rs.frozen 1
       have r2:=(oz HX).rx.rs.cell 2
       have f2:=(oz HX).rx.rs.frozen 2
       go_wp2_with fail
       exact oz HR _ _ (oz HE) (by decide) _ _ rfl rfl (kz ((oz HX).put _ _ _))
      | true =>
       have HI2:Hz (∀ q,45≤q→q < r+1→(q=45∨(48≤q∧q≤57)∨(97≤q∧q≤122))→zam T.al q=true):=kz (fun q h1 h2 h3 =>by
        by_cases e:q=r
        ·rw [e];exact hm
        ·exact oz HI q h1 (by omega) h3)
       have HOc:=kz (oz HO r _ hm A.a7 A.c7 wr ((oz HX).rx.tb.ti.r7))
       clear HI HO hm
       go_wp2_with fail
       refine (oz HOc).mono ?_
       rintro e wx ⟨rfl,hw⟩
       rw [hw]
       clear hw wx HOc
       go_wp2_with fail
       exact ⟨⟨r+1,by omega,by omega,by first | rfl | go_num,HI2,HX⟩,by simp [intOf];omega⟩
     ·by_cases h3:97≤r
      ·cases hm:zam T.al r with
       | false =>
        have HE:Hz (zbM 8 T.al labL=(5,8,0)):=kz (zf4 (zeL.2 (by omega)) hm)
        have HOc:=kz (oz HO r _ hm A.a7 A.c7 wr ((oz HX).rx.tb.ti.r7))
        clear HI HO hm
        go_wp2_with fail
        refine (oz HOc).mono ?_
        rintro e wx ⟨rfl,hw⟩
        rw [hw]
        clear hw wx HOc
        have r0:=(oz HX).rx.rs.cell 0
        have f0:=(oz HX).rx.rs.frozen 0
        have r1:=(oz HX).rx.rs.cell 1
        have f1:=(oz HX).rx.rs.frozen 1
        have r2:=(oz HX).rx.rs.cell 2
        have f2:=(oz HX).rx.rs.frozen 2
        go_wp2_with fail
        exact oz HR _ _ (oz HE) (by decide) _ _ rfl rfl (kz ((oz HX).put _ _ _))
       | true =>
        have HI2:Hz (∀ q,45≤q→q < r+1→(q=45∨(48≤q∧q≤57)∨(97≤q∧q≤122))→zam T.al q=true):=kz (fun q h1 h2 h3 =>by
         by_cases e:q=r
         ·rw [e];exact hm
         ·exact oz HI q h1 (by omega) h3)
        have HOc:=kz (oz HO r _ hm A.a7 A.c7 wr ((oz HX).rx.tb.ti.r7))
        clear HI HO hm
        go_wp2_with fail
        refine (oz HOc).mono ?_
        rintro e wx ⟨rfl,hw⟩
        rw [hw]
        clear hw wx HOc
        go_wp2_with fail
        exact ⟨⟨r+1,by omega,by omega,by first | rfl | go_num,HI2,HX⟩,by simp [intOf];omega⟩
      ·have HI2:Hz (∀ q,45≤q→q < r+1→(q=45∨(48≤q∧q≤57)∨(97≤q∧q≤122))→zam T.al q=true):=kz (fun q h1 h2 h3 =>by
        by_cases e:q=r
        ·exact absurd h3 (by omega)
        ·exact oz HI q h1 (by omega) h3)
       clear HI
       go_wp2_with fail
       exact ⟨⟨r+1,by omega,by omega,by first | rfl | go_num,HI2,HX⟩,by simp [intOf] <;> omega⟩
  ·have HE:Hz (zbM 8 T.al labL=(0,0,0)):=kz (zmX (fun q hq =>by
    have:=zeL.1 hq
    exact oz HI q (by omega) (by omega) this))
   clear HI HR
   go_wp2_with fail
   exact oz HN (oz HE) _ _ (zau rfl) HX
theorem zm2 (T:TV):zcZ T=if (orW [zbM 2 T.co comL,zaf 3 T.ma ma0 zjo,zaf 4 T.pr pr0 zjn,zaf 5 T.fo mp0 zgm,zaf 6 T.lk mp0 ziA]).1=0 then orW [zaf 7 T.dr ma0 drF,zaf 8 T.al ma0 alF,zbM 8 T.al labL] else orW [zbM 2 T.co comL,zaf 3 T.ma ma0 zjo,zaf 4 T.pr pr0 zjn,zaf 5 T.fo mp0 zgm,zaf 6 T.lk mp0 ziA]:=za3 [zbM 2 T.co comL,zaf 3 T.ma ma0 zjo,zaf 4 T.pr pr0 zjn,zaf 5 T.fo mp0 zgm,zaf 6 T.lk mp0 ziA] [zaf 7 T.dr ma0 drF,zaf 8 T.al ma0 alF,zbM 8 T.al labL]
theorem zjr (T:TV) (hT:TabB T) (hO:zav T) (v:Value) (W:World) (hv:TbV W T v) :
  Calls Tryz.prog 60 #[v] W fun e w' =>e=.returned (wrV (zcZ T))∧Below W.heap.size W w':=by
 obtain ⟨A,rfl,hA⟩:=hv
 have HX:=kz (RxS.start hA)
 have HT:=kz hT
 have HO:=kz hO
 have HV:∃ mb,Hz (orW [zaf 7 T.dr ma0 drF,zaf 8 T.al ma0 alF,zbM 8 T.al labL]=mb):=⟨_,kz rfl⟩
 obtain ⟨mb,HV⟩:=HV
 have HC:=kz (fun w (hv:TbV w T (.agg #[.slice A.a0 T.sc.length A.c0,.slice A.a1 T.co.length A.c1,.slice A.a2 T.ma.length A.c2,.slice A.a3 T.pr.length A.c3,.slice A.a4 T.fo.length A.c4,.slice A.a5 T.lk.length A.c5,.slice A.a6 T.dr.length A.c6,.slice A.a7 T.al.length A.c7])) =>zkT T hT hO _ w hv)
 rw [zm2,oz HV]
 obtain ⟨x0,x1,x2,hx⟩:∃ x0 x1 x2,orW [zbM 2 T.co comL,zaf 3 T.ma ma0 zjo,zaf 4 T.pr pr0 zjn,zaf 5 T.fo mp0 zgm,zaf 6 T.lk mp0 ziA]=(x0,x1,x2):=⟨_,_,_,rfl⟩
 have HOK:Hz (x0=0→(x0,x1,x2)=((0:Int),(0:Int),(0:Int))):=kz (fun e =>by have:=zbu [zbM 2 T.co comL,zaf 3 T.ma ma0 zjo,zaf 4 T.pr pr0 zjn,zaf 5 T.fo mp0 zgm,zaf 6 T.lk mp0 ziA];rw [hx] at this;exact this e)
 rw [hx] at HC ⊢
 dsimp only at HC ⊢
 clear hA hT hO hx
 by_cases hx0:x0=0
 ·have e:=oz HOK hx0
  obtain ⟨rfl,hh⟩:=Prod.mk.inj e
  obtain ⟨rfl,rfl⟩:=Prod.mk.inj hh
  rw [if_pos rfl]
  clear HOK e hh hx0
  go_enter Tryz.func60,Tryz.ntmps60
  refine wp_seq_k (fun K0 hK0 =>?_)
  have HK0:=kz hK0
  clear hK0
  go_wp2_with fail
  refine oz HK0 _ _ ?_
  clear HK0 K0
  generalize (W.alloc (.cells #[.slice A.a0 T.sc.length A.c0,.slice A.a1 T.co.length A.c1,.slice A.a2 T.ma.length A.c2,.slice A.a3 T.pr.length A.c3,.slice A.a4 T.fo.length A.c4,.slice A.a5 T.lk.length A.c5,.slice A.a6 T.dr.length A.c6,.slice A.a7 T.al.length A.c7] 28)).alloc (.cells #[.int .i64 0,.int .i64 0,.int .i64 0] 76)=w0 at *
  have hR:∀ (y l k:Int),mb=(y,l,k)→∀ (a:Act) (wn:World),a.tmps.getD 2 undef=.pointer (some ⟨W.heap.size+1,0,none⟩)→a.defers=[]→Hz (RxD W wn (y,l,k))→bodyPost Tryz.prog Tryz.f60 (fun e w' =>e=.returned (wrV mb)∧Below W.heap.size W w') .ret a wn:=fun y l k e a wn h1 h2 h3 =>by
   subst e
   exact bodyPost_ret (v:=wrV (y,l,k)) (zb8 Tryz.results60 h1 (oz h3).rs rfl) h2 ⟨rfl,(oz h3).bl⟩
  have HRR:=kz hR
  clear hR
  have z0:=(oz HX).tb.z0
  have z1:=(oz HX).tb.z1
  have z2:=(oz HX).tb.z2
  have z3:=(oz HX).tb.z3
  have z4:=(oz HX).tb.z4
  have z5:=(oz HX).tb.z5
  have z6:=(oz HX).tb.z6
  have z7:=(oz HX).tb.z7
  refine wp_seq_k (fun Ka hKa =>?_)
  have HKa:=kz hKa
  clear hKa
  go_wp2_with fail
  refine (oz HC _ (oz HX).tb.tv).mono ?_
  rintro e w1 ⟨rfl,hb⟩
  have HX1:=kz (((oz HX).below hb).below (zf8 w1 (.cells #[.int .i64 0,.int .i64 0,.int .i64 0] 76)))
  have q0:=(Blk.new w1 #[.int .i64 0,.int .i64 0,.int .i64 0] 76).cell 0
  clear hb HX HC z0 z1 z2 z3 z4 z5 z6 z7
  unfold wrV
  go_wp2_with fail
  refine oz HKa _ _ ?_
  clear HKa Ka
  refine wp_seq_k (fun Kb hKb =>?_)
  have HKb:=kz hKb
  clear hKb
  go_wp2_with fail
  refine oz HKb _ _ ?_
  clear HKb Kb q0
  generalize w1.alloc (.cells #[.int .i64 0,.int .i64 0,.int .i64 0] 76)=w2 at *
  have hR:=oz HRR
  clear HRR
  refine wp_seq_k (fun K1 hK1 =>?_)
  refine zaL (F:=zeM W) (zau rfl) (fun U =>?_)
  refine zn2 T (oz HT) A W _ (oz HX1) U ?_ ?_
  rotate_left
  ·intro y k e hy a wn h1 h2 h3
   exact hR y _ k (by rw [← oz HV,zai (by rw [e];exact hy),e]) a wn h1 h2 h3
  intro E1 a w1 ⟨U1,hU⟩ hx
  subst hU
  have HX1:=kz (oz hx).rx
  clear hx
  refine hK1 _ _ ?_
  clear hK1 K1
  refine wp_seq_k (fun K2 hK2 =>?_)
  refine zaL (F:=zeM W) ⟨U1,rfl⟩ (fun U =>?_)
  refine zn1 T (oz HT) A W _ (oz HO) (oz HX1) U ?_ ?_
  rotate_left
  ·intro y k e hy a wn h1 h2 h3
   exact hR y _ k (by rw [← oz HV,zad (by rw [E1]),zai (by rw [e];exact hy),e]) a wn h1 h2 h3
  intro E2 a w2 ⟨U2,hU⟩ hx
  subst hU
  have HX2:=kz (oz hx).rx
  clear hx
  refine hK2 _ _ ?_
  clear hK2 K2
  refine wp_seq_k (fun K3 hK3 =>?_)
  refine zaL (F:=zeM W) ⟨U2,rfl⟩ (fun U =>?_)
  refine zn0 T (oz HT) A W _ (oz HX2) U ?_ ?_
  rotate_left
  ·intro y k e hy a wn h1 h2 h3
   exact hR y _ k (by rw [← oz HV,zad (by rw [E1]),zad (by rw [E2]),zai (by rw [e];exact hy),e]) a wn h1 h2 h3
  intro E3 a w3 ⟨U3,hU⟩ hx
  subst hU
  have HX3:=kz (oz hx).rx
  clear hx
  refine hK3 _ _ ?_
  clear hK3 K3
  have hm:mb=(0,0,0):=by
   rw [← oz HV,zad (by rw [E1]),zad (by rw [E2]),zad (by rw [E3])]
   rfl
  subst hm
  clear hR HV E1 E2 E3
  refine zaL (F:=zeM W) ⟨U3,rfl⟩ (fun U =>?_)
  unfold zeM
  have r0:=(oz HX3).rs.cell 0
  have f0:=(oz HX3).rs.frozen 0
  have r1:=(oz HX3).rs.cell 1
  have f1:=(oz HX3).rs.frozen 1
  have r2:=(oz HX3).rs.cell 2
  have f2:=(oz HX3).rs.frozen 2
  go_wp2_with fail
  exact bodyPost_ret (v:=wrV (0,0,0)) (zb8 Tryz.results60 rfl (zcf (oz HX3).rs _ _ _) rfl) rfl ⟨rfl,((oz HX3).put (0,0,0)).bl⟩
 ·rw [if_neg hx0]
  have q:(x0 == 0)=false:=by simpa using hx0
  clear HOK HV
  go_enter Tryz.func60,Tryz.ntmps60
  refine wp_seq_k (fun K0 hK0 =>?_)
  have HK0:=kz hK0
  clear hK0
  go_wp2_with fail
  refine oz HK0 _ _ ?_
  clear HK0 K0
  generalize (W.alloc (.cells #[.slice A.a0 T.sc.length A.c0,.slice A.a1 T.co.length A.c1,.slice A.a2 T.ma.length A.c2,.slice A.a3 T.pr.length A.c3,.slice A.a4 T.fo.length A.c4,.slice A.a5 T.lk.length A.c5,.slice A.a6 T.dr.length A.c6,.slice A.a7 T.al.length A.c7] 28)).alloc (.cells #[.int .i64 0,.int .i64 0,.int .i64 0] 76)=w0 at *
  have z0:=(oz HX).tb.z0
  have z1:=(oz HX).tb.z1
  have z2:=(oz HX).tb.z2
  have z3:=(oz HX).tb.z3
  have z4:=(oz HX).tb.z4
  have z5:=(oz HX).tb.z5
  have z6:=(oz HX).tb.z6
  have z7:=(oz HX).tb.z7
  go_wp2_with fail
  refine (oz HC _ (oz HX).tb.tv).mono ?_
  rintro e w1 ⟨rfl,hb⟩
  have HX1:=kz (((oz HX).below hb).below (zf8 w1 (.cells #[.int .i64 x0,.int .i64 x1,.int .i64 x2] 76)))
  have q0:=(Blk.new w1 #[.int .i64 x0,.int .i64 x1,.int .i64 x2] 76).cell 0
  have q1:=(Blk.new w1 #[.int .i64 x0,.int .i64 x1,.int .i64 x2] 76).cell 1
  have q2:=(Blk.new w1 #[.int .i64 x0,.int .i64 x1,.int .i64 x2] 76).cell 2
  clear hb HX HC z0 z1 z2 z3 z4 z5 z6 z7
  unfold wrV
  have r0:=(oz HX1).rs.cell 0
  have f0:=(oz HX1).rs.frozen 0
  have r1:=(oz HX1).rs.cell 1
  have f1:=(oz HX1).rs.frozen 1
  have r2:=(oz HX1).rs.cell 2
  have f2:=(oz HX1).rs.frozen 2
  go_wp2_with fail
  exact bodyPost_ret (v:=wrV (x0,x1,x2)) (zb8 Tryz.results60 rfl (zcf (oz HX1).rs _ _ _) rfl) rfl ⟨rfl,((oz HX1).put (x0,x1,x2)).bl⟩
end Go.Proofs.YtmemedpoaocdkaaGreat
