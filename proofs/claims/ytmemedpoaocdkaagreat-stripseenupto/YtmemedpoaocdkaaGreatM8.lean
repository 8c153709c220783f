/- Texts of this claim, one behind the other. -/
import Derived.Test.YtmemedpoaocdkaaGreatM7
namespace Go.Proofs.YtmemedpoaocdkaaGreat
open Go.RowKit Go.Shelf
set_option linter.unusedVariables false
set_option maxRecDepth 100000
set_option maxHeartbeats 8000000
def zpm (T:TV) (x:Int × Int):Int:=if drB T x.1 then 37 else 0
def zlL (T:TV) (x:Int × Int × Int):Int:=if drB T x.1 || (drB T x.2.1 || drB T x.2.2) then 37 else 0
def zja (T:TV) (x:Int × ByteArray):Int:=if drB T x.1 then 37 else 0
theorem zaL {α : Type} {P:Program} {c:Code} {Q:Exit→Act→World→Prop} {F : α→Act} {a:Act} {w:World} (ha:∃ U,a=F U) (h:∀ U,Code.wp P c Q (F U) w):Code.wp P c Q a w:=by
 obtain ⟨U,rfl⟩:=ha
 exact h U
def zd0 (W:World) (U:Nat→Value):Act:={ tmps:=#[U 0,.pointer (some ⟨W.heap.size,0,none⟩),.pointer (some ⟨W.heap.size+1,0,none⟩),U 3,U 4,U 5,U 6,U 7,U 8,U 9,U 10,U 11,U 12,U 13,U 14,U 15,U 16,U 17,U 18,U 19,U 20,U 21,U 22,U 23,U 24,U 25,U 26,U 27,U 28,U 29,U 30,U 31,U 32,U 33,U 34,U 35,U 36,U 37,U 38,U 39,U 40,U 41,U 42,U 43,U 44,U 45,U 46,U 47,U 48,U 49,U 50,U 51,U 52,U 53,U 54,U 55,U 56,U 57,U 58,U 59,U 60,U 61,U 62,U 63,U 64,U 65,U 66,U 67,U 68,U 69,U 70,U 71,U 72,U 73,U 74,U 75,U 76,U 77,U 78,U 79,U 80,U 81,U 82,U 83,U 84,U 85,U 86,U 87,U 88,U 89,U 90,U 91,U 92,U 93,U 94,U 95,U 96,U 97,U 98,U 99,U 100,U 101],defers := [] }
noncomputable def uaDa:Code:=match Tryz.f58.body with
 | some (.seq _ (.seq c _)) =>c
 | _ =>.skip
theorem zod (T:TV) (hT:TabB T) (A:TbA) (W w:World)  (h:RxS W w T A) (U:Nat→Value) {Q:Exit→Act→World→Prop}
  (hN:zaf 3 T.ma ma0 (zpm T)=(0,0,0)→∀ (a:Act) (wn:World),(∃ U',a=zd0 W U')→Hz (RxT W w wn T A)→Q .normal a wn)
  (hR:∀ (y k:Int),zaf 3 T.ma ma0 (zpm T)=(y,3,k)→y≠0→∀ (a:Act) (wn:World),a.tmps.getD 2 undef=.pointer (some ⟨W.heap.size+1,0,none⟩)→a.defers=[]→Hz (RxD W wn (y,3,k))→Q .ret a wn) :
  Code.wp Tryz.prog uaDa Q (zd0 W U) w:=by
 have HN:=kz hN
 have HR:=kz hR
 have HX:=kz (RxT.refl h)
 have hln:=hT.n2
 have HC:=kz (fun r b (hb:zam T.dr r=b) a c w (hv:RowC w w.heap.size a (zaQ T.dr)) =>by have:=zbk T.dr hT.n6 a c r w hv;rwa [hb] at this)
 clear hN hR h
 delta uaDa Tryz.f58 zd0 at *
 dsimp only
 go_wp2_with fail
 go_loopw [3] (fun i wr => ∃ k:Nat,k≤T.ma.length∧i=.int .i64 k∧Hz (OkTo T.ma ma0 (zpm T) k)∧Hz (RxT W w wr T A)) (fun i _ =>T.ma.length - (intOf i).toNat)
 case atStart =>exact ⟨0,Nat.zero_le _,rfl,kz (OkTo.zero _ _ _),HX⟩
 case round =>
  clear HX
  obtain ⟨k,hk,rfl,HO,HX⟩:=hrel
  by_cases hkn:k < T.ma.length
  ·obtain ⟨x,hx⟩:∃ x,T.ma[k]?=some x:=⟨_,List.getElem?_eq_getElem hkn⟩
   obtain ⟨g,o,ea,hg,c0,c1⟩:=zqq (oz HX).rx.tb.ti.r2 hx
   have HK:=kz hx
   have HG:=kz hg
   have k1:(k:Int) < (T.ma.length:Int):=by omega
   have k2:((k:Nat):Int).toNat=k:=by omega
   have zz:=(oz HX).rx.tb.z2
   rw [ea] at zz
   clear hg hx
   cases h1:drB T x.1 with
   | true =>
    have hf:zpm T x=37:=by unfold zpm;rw [h1];rfl
    have HE:=kz ((oz HO).bad (oz HK) 3 (by rw [hf];decide))
    rw [hf] at HE
    clear hf HO HK
    have y0:=cell_regrown c0
    have y6:=cell_regrown (oz HX).rx.tb.z6
    have yz:=cell_regrown zz
    have mh1:zam T.dr x.1=true:=h1
    clear h1
    go_wp2_with fail
    refine wp_region_quiet_below (by kernel_rfl) (by kernel_rfl) ?_
    repeat (go_big_quiet_step (exact Calls.regrown_of ((oz HC _ _ (by assumption) _ _ _ ((oz HX).rx.tb.ti.r6.below (below_regrown wr _ _) (below_regrown wr _ _).size)).mono (fun e w2 h =>⟨h.1,h.2 ▸ Below.refl _ _⟩))))
    first | refine wpQuiet_nil ?_ | skip
    rintro w' ⟨p,rfl⟩
    have HBq:=kz (below_regrown wr p.d p.os)
    generalize Go.Sort.grow (redrawn wr p.d) p.os=w1 at *
    have HX1:=kz ((oz HX).below (oz HBq))
    clear y0 y6 yz HC HX zz
    have r0:=(oz HX1).rx.rs.cell 0
    have f0:=(oz HX1).rx.rs.frozen 0
    have r1:=(oz HX1).rx.rs.cell 1
    have f1:=(oz HX1).rx.rs.frozen 1
    have r2:=(oz HX1).rx.rs.cell 2
    have f2:=(oz HX1).rx.rs.frozen 2
    go_wp2_with fail
    exact oz HR _ _ (oz HE) (by decide) _ _ rfl rfl (kz ((oz HX1).put _ _ _))
   | false =>
    have hf:zpm T x=0:=by unfold zpm;rw [h1];rfl
    have HO2:=kz ((oz HO).next (oz HK) hf)
    clear hf HO HK
    have y0:=cell_regrown c0
    have y6:=cell_regrown (oz HX).rx.tb.z6
    have yz:=cell_regrown zz
    have mh1:zam T.dr x.1=false:=h1
    clear h1
    go_wp2_with fail
    refine wp_region_quiet_below (by kernel_rfl) (by kernel_rfl) ?_
    repeat (go_big_quiet_step (exact Calls.regrown_of ((oz HC _ _ (by assumption) _ _ _ ((oz HX).rx.tb.ti.r6.below (below_regrown wr _ _) (below_regrown wr _ _).size)).mono (fun e w2 h =>⟨h.1,h.2 ▸ Below.refl _ _⟩))))
    first | refine wpQuiet_nil ?_ | skip
    rintro w' ⟨p,rfl⟩
    have HBq:=kz (below_regrown wr p.d p.os)
    generalize Go.Sort.grow (redrawn wr p.d) p.os=w1 at *
    have HX1:=kz ((oz HX).below (oz HBq))
    clear y0 y6 yz HC HX zz
    go_wp2_with fail
    exact ⟨⟨k+1,by omega,by first | rfl | go_num,HO2,HX1⟩,by simp [intOf];omega⟩
  ·have k1:¬ (k:Int) < (T.ma.length:Int):=by omega
   have zz:=(oz HX).rx.tb.z2
   have HE:=kz ((oz HO).ok (by omega) 3)
   clear HO HR
   go_wp2_with fail
   exact oz HN (oz HE) _ _ (zau rfl) HX
noncomputable def uaDb:Code:=match Tryz.f58.body with
 | some (.seq _ (.seq _ (.seq c _))) =>c
 | _ =>.skip
theorem zoc (T:TV) (hT:TabB T) (A:TbA) (W w:World)  (h:RxS W w T A) (U:Nat→Value) {Q:Exit→Act→World→Prop}
  (hN:zaf 4 T.pr pr0 (zlL T)=(0,0,0)→∀ (a:Act) (wn:World),(∃ U',a=zd0 W U')→Hz (RxT W w wn T A)→Q .normal a wn)
  (hR:∀ (y k:Int),zaf 4 T.pr pr0 (zlL T)=(y,4,k)→y≠0→∀ (a:Act) (wn:World),a.tmps.getD 2 undef=.pointer (some ⟨W.heap.size+1,0,none⟩)→a.defers=[]→Hz (RxD W wn (y,4,k))→Q .ret a wn) :
  Code.wp Tryz.prog uaDb Q (zd0 W U) w:=by
 have HN:=kz hN
 have HR:=kz hR
 have HX:=kz (RxT.refl h)
 have hln:=hT.n3
 have HC:=kz (fun r b (hb:zam T.dr r=b) a c w (hv:RowC w w.heap.size a (zaQ T.dr)) =>by have:=zbk T.dr hT.n6 a c r w hv;rwa [hb] at this)
 clear hN hR h
 delta uaDb Tryz.f58 zd0 at *
 dsimp only
 go_wp2_with fail
 go_loopw [4] (fun i wr => ∃ k:Nat,k≤T.pr.length∧i=.int .i64 k∧Hz (OkTo T.pr pr0 (zlL T) k)∧Hz (RxT W w wr T A)) (fun i _ =>T.pr.length - (intOf i).toNat)
 case atStart =>exact ⟨0,Nat.zero_le _,rfl,kz (OkTo.zero _ _ _),HX⟩
 case round =>
  clear HX
  obtain ⟨k,hk,rfl,HO,HX⟩:=hrel
  by_cases hkn:k < T.pr.length
  ·obtain ⟨x,hx⟩:∃ x,T.pr[k]?=some x:=⟨_,List.getElem?_eq_getElem hkn⟩
   obtain ⟨g,o,ea,hg,c0,c1,c2⟩:=zoz (oz HX).rx.tb.ti.r3 hx
   have HK:=kz hx
   have HG:=kz hg
   have k1:(k:Int) < (T.pr.length:Int):=by omega
   have k2:((k:Nat):Int).toNat=k:=by omega
   have zz:=(oz HX).rx.tb.z3
   rw [ea] at zz
   clear hg hx
   cases h1:drB T x.1 with
   | true =>
    have hf:zlL T x=37:=by unfold zlL;rw [h1];rfl
    have HE:=kz ((oz HO).bad (oz HK) 4 (by rw [hf];decide))
    rw [hf] at HE
    clear hf HO HK
    have y0:=cell_regrown c0
    have y1:=cell_regrown c1
    have y2:=cell_regrown c2
    have y6:=cell_regrown (oz HX).rx.tb.z6
    have yz:=cell_regrown zz
    have mh1:zam T.dr x.1=true:=h1
    clear h1
    go_wp2_with fail
    refine wp_region_quiet_below (by kernel_rfl) (by kernel_rfl) ?_
    repeat (go_big_quiet_step (exact Calls.regrown_of ((oz HC _ _ (by assumption) _ _ _ ((oz HX).rx.tb.ti.r6.below (below_regrown wr _ _) (below_regrown wr _ _).size)).mono (fun e w2 h =>⟨h.1,h.2 ▸ Below.refl _ _⟩))))
    first | refine wpQuiet_nil ?_ | skip
    rintro w' ⟨p,rfl⟩
    have HBq:=kz (below_regrown wr p.d p.os)
    generalize Go.Sort.grow (redrawn wr p.d) p.os=w1 at *
    have HX1:=kz ((oz HX).below (oz HBq))
    clear y0 y1 y2 y6 yz HC HX zz
    have r0:=(oz HX1).rx.rs.cell 0
    have f0:=(oz HX1).rx.rs.frozen 0
    have r1:=(oz HX1).rx.rs.cell 1
    have f1:=(oz HX1).rx.rs.frozen 1
    have r2:=(oz HX1).rx.rs.cell 2
    have f2:=(oz HX1).rx.rs.frozen 2
    go_wp2_with fail
    exact oz HR _ _ (oz HE) (by decide) _ _ rfl rfl (kz ((oz HX1).put _ _ _))
   | false =>
    cases h2:drB T x.2.1 with
    | true =>
     have hf:zlL T x=37:=by unfold zlL;rw [h1,h2];rfl
     have HE:=kz ((oz HO).bad (oz HK) 4 (by rw [hf];decide))
     rw [hf] at HE
     clear hf HO HK
     have y0:=cell_regrown c0
     have y1:=cell_regrown c1
     have y2:=cell_regrown c2
     have y6:=cell_regrown (oz HX).rx.tb.z6
     have yz:=cell_regrown zz
     have mh1:zam T.dr x.1=false:=h1
     have mh2:zam T.dr x.2.1=true:=h2
     clear h1 h2
     go_wp2_with fail
     refine wp_region_quiet_below (by kernel_rfl) (by kernel_rfl) ?_
     repeat (go_big_quiet_step (exact Calls.regrown_of ((oz HC _ _ (by assumption) _ _ _ ((oz HX).rx.tb.ti.r6.below (below_regrown wr _ _) (below_regrown wr _ _).size)).mono (fun e w2 h =>⟨h.1,h.2 ▸ Below.refl _ _⟩))))
     first | refine wpQuiet_nil ?_ | skip
     rintro w' ⟨p,rfl⟩
     have HBq:=kz (below_regrown wr p.d p.os)
     generalize Go.Sort.grow (redrawn wr p.d) p.os=w1 at *
     have HX1:=kz ((oz HX).below (oz HBq))
     clear y0 y1 y2 y6 yz HC HX zz
     have r0:=(oz HX1).rx.rs.cell 0
     have f0:=(oz HX1).rx.rs.frozen 0
     have r1:=(oz HX1).rx.rs.cell 1
     have f1:=(oz HX1).rx.rs.frozen 1
     have r2:=(oz HX1).rx.rs.cell 2
     have f2:=(oz HX1).rx.rs.frozen 2
     go_wp2_with fail
     exact oz HR _ _ (oz HE) (by decide) _ _ rfl rfl (kz ((oz HX1).put _ _ _))
    | false =>
     cases h3:drB T x.2.2 with
     | true =>
      have hf:zlL T x=37:=by unfold zlL;rw [h1,h2,h3];rfl
      have HE:=kz ((oz HO).bad (oz HK) 4 (by rw [hf];decide))
      rw [hf] at HE
      clear hf HO HK
      have y0:=cell_regrown c0
      have y1:=cell_regrown c1
      have y2:=cell_regrown c2
      have y6:=cell_regrown (oz HX).rx.tb.z6
      have yz:=cell_regrown zz
      have mh1:zam T.dr x.1=false:=h1
      have mh2:zam T.dr x.2.1=false:=h2
      have mh3:zam T.dr x.2.2=true:=h3
      clear h1 h2 h3
      go_wp2_with fail
      refine wp_region_quiet_below (by kernel_rfl) (by kernel_rfl) ?_
      repeat (go_big_quiet_step (exact Calls.regrown_of ((oz HC _ _ (by assumption) _ _ _ ((oz HX).rx.tb.ti.r6.below (below_regrown wr _ _) (below_regrown wr _ _).size)).mono (fun e w2 h =>⟨h.1,h.2 ▸ Below.refl _ _⟩))))
      first | refine wpQuiet_nil ?_ | skip
      rintro w' ⟨p,rfl⟩
      have HBq:=kz (below_regrown wr p.d p.os)
      generalize Go.Sort.grow (redrawn wr p.d) p.os=w1 at *
      have HX1:=kz ((oz HX).below (oz HBq))
      clear y0 y1 y2 y6 yz HC HX zz
      have r0:=(oz HX1).rx.rs.cell 0
      have f0:=(oz HX1).rx.rs.frozen 0
      have r1:=(oz HX1).rx.rs.cell 1
      have f1:=(oz HX1).rx.rs.frozen 1
      have r2:=(oz HX1).rx.rs.cell 2
      have f2:=(oz HX1).rx.rs.frozen 2
      go_wp2_with fail
      exact oz HR _ _ (oz HE) (by decide) _ _ rfl rfl (kz ((oz HX1).put _ _ _))
     | false =>
      have hf:zlL T x=0:=by unfold zlL;rw [h1,h2,h3];rfl
      have HO2:=kz ((oz HO).next (oz HK) hf)
      clear hf HO HK
      have y0:=cell_regrown c0
      have y1:=cell_regrown c1
      have y2:=cell_regrown c2
      have y6:=cell_regrown (oz HX).rx.tb.z6
      have yz:=cell_regrown zz
      have mh1:zam T.dr x.1=false:=h1
      have mh2:zam T.dr x.2.1=false:=h2
      have mh3:zam T.dr x.2.2=false:=h3
      clear h1 h2 h3
      go_wp2_with fail
      refine wp_region_quiet_below (by kernel_rfl) (by kernel_rfl) ?_
      repeat (go_big_quiet_step (exact Calls.regrown_of ((oz HC _ _ (by assumption) _ _ _ ((oz HX).rx.tb.ti.r6.below (below_regrown wr _ _) (below_regrown wr _ _).size)).mono (fun e w2 h =>⟨h.1,h.2 ▸ Below.refl _ _⟩))))
      first | refine wpQuiet_nil ?_ | skip
      rintro w' ⟨p,rfl⟩
      have HBq:=kz (below_regrown wr p.d p.os)
      generalize Go.Sort.grow (redrawn wr p.d) p.os=w1 at *
      have HX1:=kz ((oz HX).below (oz HBq))
      clear y0 y1 y2 y6 yz HC HX zz
      go_wp2_with fail
      exact ⟨⟨k+1,by omega,by first | rfl | go_num,HO2,HX1⟩,by simp [intOf];omega⟩
  ·have k1:¬ (k:Int) < (T.pr.length:Int):=by omega
   have zz:=(oz HX).rx.tb.z3
   have HE:=kz ((oz HO).ok (by omega) 4)
   clear HO HR
   go_wp2_with fail
   exact oz HN (oz HE) _ _ (zau rfl) HX
noncomputable def uaDc:Code:=match Tryz.f58.body with
 | some (.seq _ (.seq _ (.seq _ (.seq c _)))) =>c
 | _ =>.skip
theorem zob (T:TV) (hT:TabB T) (A:TbA) (W w:World)  (h:RxS W w T A) (U:Nat→Value) {Q:Exit→Act→World→Prop}
  (hN:zaf 5 T.fo mp0 (zja T)=(0,0,0)→∀ (a:Act) (wn:World),(∃ U',a=zd0 W U')→Hz (RxT W w wn T A)→Q .normal a wn)
  (hR:∀ (y k:Int),zaf 5 T.fo mp0 (zja T)=(y,5,k)→y≠0→∀ (a:Act) (wn:World),a.tmps.getD 2 undef=.pointer (some ⟨W.heap.size+1,0,none⟩)→a.defers=[]→Hz (RxD W wn (y,5,k))→Q .ret a wn) :
  Code.wp Tryz.prog uaDc Q (zd0 W U) w:=by
 have HN:=kz hN
 have HR:=kz hR
 have HX:=kz (RxT.refl h)
 have hln:=hT.n4
 have HC:=kz (fun r b (hb:zam T.dr r=b) a c w (hv:RowC w w.heap.size a (zaQ T.dr)) =>by have:=zbk T.dr hT.n6 a c r w hv;rwa [hb] at this)
 clear hN hR h
 delta uaDc Tryz.f58 zd0 at *
 dsimp only
 go_wp2_with fail
 go_loopw [5] (fun i wr => ∃ k:Nat,k≤T.fo.length∧i=.int .i64 k∧Hz (OkTo T.fo mp0 (zja T) k)∧Hz (RxT W w wr T A)) (fun i _ =>T.fo.length - (intOf i).toNat)
 case atStart =>exact ⟨0,Nat.zero_le _,rfl,kz (OkTo.zero _ _ _),HX⟩
 case round =>
  clear HX
  obtain ⟨k,hk,rfl,HO,HX⟩:=hrel
  by_cases hkn:k < T.fo.length
  ·obtain ⟨x,hx⟩:∃ x,T.fo[k]?=some x:=⟨_,List.getElem?_eq_getElem hkn⟩
   obtain ⟨g,o,ea,hg,c0,c1⟩:=zlH (oz HX).rx.tb.ti.r4 hx
   have HK:=kz hx
   have HG:=kz hg
   have k1:(k:Int) < (T.fo.length:Int):=by omega
   have k2:((k:Nat):Int).toNat=k:=by omega
   have zz:=(oz HX).rx.tb.z4
   rw [ea] at zz
   clear hg hx
   cases h1:drB T x.1 with
   | true =>
    have hf:zja T x=37:=by unfold zja;rw [h1];rfl
    have HE:=kz ((oz HO).bad (oz HK) 5 (by rw [hf];decide))
    rw [hf] at HE
    clear hf HO HK
    have y0:=cell_regrown c0
    have y6:=cell_regrown (oz HX).rx.tb.z6
    have yz:=cell_regrown zz
    have mh1:zam T.dr x.1=true:=h1
    clear h1
    go_wp2_with fail
    refine wp_region_quiet_below (by kernel_rfl) (by kernel_rfl) ?_
    repeat (go_big_quiet_step (exact Calls.regrown_of ((oz HC _ _ (by assumption) _ _ _ ((oz HX).rx.tb.ti.r6.below (below_regrown wr _ _) (below_regrown wr _ _).size)).mono (fun e w2 h =>⟨h.1,h.2 ▸ Below.refl _ _⟩))))
    first | refine wpQuiet_nil ?_ | skip
    rintro w' ⟨p,rfl⟩
    have HBq:=kz (below_regrown wr p.d p.os)
    generalize Go.Sort.grow (redrawn wr p.d) p.os=w1 at *
    have HX1:=kz ((oz HX).below (oz HBq))
    clear y0 y6 yz HC HX zz
    have r0:=(oz HX1).rx.rs.cell 0
    have f0:=(oz HX1).rx.rs.frozen 0
    have r1:=(oz HX1).rx.rs.cell 1
    have f1:=(oz HX1).rx.rs.frozen 1
    have r2:=(oz HX1).rx.rs.cell 2
    have f2:=(oz HX1).rx.rs.frozen 2
    go_wp2_with fail
    exact oz HR _ _ (oz HE) (by decide) _ _ rfl rfl (kz ((oz HX1).put _ _ _))
   | false =>
    have hf:zja T x=0:=by unfold zja;rw [h1];rfl
    have HO2:=kz ((oz HO).next (oz HK) hf)
    clear hf HO HK
    have y0:=cell_regrown c0
    have y6:=cell_regrown (oz HX).rx.tb.z6
    have yz:=cell_regrown zz
    have mh1:zam T.dr x.1=false:=h1
    clear h1
    go_wp2_with fail
    refine wp_region_quiet_below (by kernel_rfl) (by kernel_rfl) ?_
    repeat (go_big_quiet_step (exact Calls.regrown_of ((oz HC _ _ (by assumption) _ _ _ ((oz HX).rx.tb.ti.r6.below (below_regrown wr _ _) (below_regrown wr _ _).size)).mono (fun e w2 h =>⟨h.1,h.2 ▸ Below.refl _ _⟩))))
    first | refine wpQuiet_nil ?_ | skip
    rintro w' ⟨p,rfl⟩
    have HBq:=kz (below_regrown wr p.d p.os)
    generalize Go.Sort.grow (redrawn wr p.d) p.os=w1 at *
    have HX1:=kz ((oz HX).below (oz HBq))
    clear y0 y6 yz HC HX zz
    go_wp2_with fail
    exact ⟨⟨k+1,by omega,by first | rfl | go_num,HO2,HX1⟩,by simp [intOf];omega⟩
  ·have k1:¬ (k:Int) < (T.fo.length:Int):=by omega
   have zz:=(oz HX).rx.tb.z4
   have HE:=kz ((oz HO).ok (by omega) 5)
   clear HO HR
   go_wp2_with fail
   exact oz HN (oz HE) _ _ (zau rfl) HX
noncomputable def uaDd:Code:=match Tryz.f58.body with
 | some (.seq _ (.seq _ (.seq _ (.seq _ (.seq c _))))) =>c
 | _ =>.skip
theorem zoa (T:TV) (hT:TabB T) (A:TbA) (W w:World)  (h:RxS W w T A) (U:Nat→Value) {Q:Exit→Act→World→Prop}
  (hN:zaf 6 T.lk mp0 (zja T)=(0,0,0)→∀ (a:Act) (wn:World),(∃ U',a=zd0 W U')→Hz (RxT W w wn T A)→Q .normal a wn)
  (hR:∀ (y k:Int),zaf 6 T.lk mp0 (zja T)=(y,6,k)→y≠0→∀ (a:Act) (wn:World),a.tmps.getD 2 undef=.pointer (some ⟨W.heap.size+1,0,none⟩)→a.defers=[]→Hz (RxD W wn (y,6,k))→Q .ret a wn) :
  Code.wp Tryz.prog uaDd Q (zd0 W U) w:=by
 have HN:=kz hN
 have HR:=kz hR
 have HX:=kz (RxT.refl h)
 have hln:=hT.n5
 have HC:=kz (fun r b (hb:zam T.dr r=b) a c w (hv:RowC w w.heap.size a (zaQ T.dr)) =>by have:=zbk T.dr hT.n6 a c r w hv;rwa [hb] at this)
 clear hN hR h
 delta uaDd Tryz.f58 zd0 at *
 dsimp only
 go_wp2_with fail
 go_loopw [6] (fun i wr => ∃ k:Nat,k≤T.lk.length∧i=.int .i64 k∧Hz (OkTo T.lk mp0 (zja T) k)∧Hz (RxT W w wr T A)) (fun i _ =>T.lk.length - (intOf i).toNat)
 case atStart =>exact ⟨0,Nat.zero_le _,rfl,kz (OkTo.zero _ _ _),HX⟩
 case round =>
  clear HX
  obtain ⟨k,hk,rfl,HO,HX⟩:=hrel
  by_cases hkn:k < T.lk.length
  ·obtain ⟨x,hx⟩:∃ x,T.lk[k]?=some x:=⟨_,List.getElem?_eq_getElem hkn⟩
   obtain ⟨g,o,ea,hg,c0,c1⟩:=zlH (oz HX).rx.tb.ti.r5 hx
   have HK:=kz hx
   have HG:=kz hg
   have k1:(k:Int) < (T.lk.length:Int):=by omega
   have k2:((k:Nat):Int).toNat=k:=by omega
   have zz:=(oz HX).rx.tb.z5
   rw [ea] at zz
   clear hg hx
   cases h1:drB T x.1 with
   | true =>
    have hf:zja T x=37:=by unfold zja;rw [h1];rfl
    have HE:=kz ((oz HO).bad (oz HK) 6 (by rw [hf];decide))
    rw [hf] at HE
    clear hf HO HK
    have y0:=cell_regrown c0
    have y6:=cell_regrown (oz HX).rx.tb.z6
    have yz:=cell_regrown zz
    have mh1:zam T.dr x.1=true:=h1
    clear h1
    go_wp2_with fail
    refine wp_region_quiet_below (by kernel_rfl) (by kernel_rfl) ?_
    repeat (go_big_quiet_step (exact Calls.regrown_of ((oz HC _ _ (by assumption) _ _ _ ((oz HX).rx.tb.ti.r6.below (below_regrown wr _ _) (below_regrown wr _ _).size)).mono (fun e w2 h =>⟨h.1,h.2 ▸ Below.refl _ _⟩))))
    first | refine wpQuiet_nil ?_ | skip
    rintro w' ⟨p,rfl⟩
    have HBq:=kz (below_regrown wr p.d p.os)
    generalize Go.Sort.grow (redrawn wr p.d) p.os=w1 at *
    have HX1:=kz ((oz HX).below (oz HBq))
    clear y0 y6 yz HC HX zz
    have r0:=(oz HX1).rx.rs.cell 0
    have f0:=(oz HX1).rx.rs.frozen 0
    have r1:=(oz HX1).rx.rs.cell 1
    have f1:=(oz HX1).rx.rs.frozen 1
    have r2:=(oz HX1).rx.rs.cell 2
    have f2:=(oz HX1).rx.rs.frozen 2
    go_wp2_with fail
    exact oz HR _ _ (oz HE) (by decide) _ _ rfl rfl (kz ((oz HX1).put _ _ _))
   | false =>
    have hf:zja T x=0:=by unfold zja;rw [h1];rfl
    have HO2:=kz ((oz HO).next (oz HK) hf)
    clear hf HO HK
    have y0:=cell_regrown c0
    have y6:=cell_regrown (oz HX).rx.tb.z6
    have yz:=cell_regrown zz
    have mh1:zam T.dr x.1=false:=h1
    clear h1
    go_wp2_with fail
    refine wp_region_quiet_below (by kernel_rfl) (by kernel_rfl) ?_
    repeat (go_big_quiet_step (exact Calls.regrown_of ((oz HC _ _ (by assumption) _ _ _ ((oz HX).rx.tb.ti.r6.below (below_regrown wr _ _) (below_regrown wr _ _).size)).mono (fun e w2 h =>⟨h.1,h.2 ▸ Below.refl _ _⟩))))
    first | refine wpQuiet_nil ?_ | skip
    rintro w' ⟨p,rfl⟩
    have HBq:=kz (below_regrown wr p.d p.os)
    generalize Go.Sort.grow (redrawn wr p.d) p.os=w1 at *
    have HX1:=kz ((oz HX).below (oz HBq))
    clear y0 y6 yz HC HX zz
    go_wp2_with fail
    exact ⟨⟨k+1,by omega,by first | rfl | go_num,HO2,HX1⟩,by simp [intOf];omega⟩
  ·have k1:¬ (k:Int) < (T.lk.length:Int):=by omega
   have zz:=(oz HX).rx.tb.z5
   have HE:=kz ((oz HO).ok (by omega) 6)
   clear HO HR
   go_wp2_with fail
   exact oz HN (oz HE) _ _ (zau rfl) HX
theorem zjt (T:TV) (hT:TabB T) (v:Value) (W:World) (hv:TbV W T v) :
  Calls Tryz.prog 58 #[v] W fun e w' =>e=.returned (wrV (zb5 T))∧Below W.heap.size W w':=by
 obtain ⟨A,rfl,hA⟩:=hv
 have HX:=kz (RxS.start hA)
 have HT:=kz hT
 have HV:∃ mb,Hz (orW [zaf 3 T.ma ma0 (zpm T),zaf 4 T.pr pr0 (zlL T),zaf 5 T.fo mp0 (zja T),zaf 6 T.lk mp0 (zja T)]=mb):=⟨_,kz rfl⟩
 obtain ⟨mb,HV⟩:=HV
 rw [show zb5 T=mb from oz HV]
 clear hA hT
 go_enter Tryz.func58,Tryz.ntmps58
 refine wp_seq_k (fun K0 hK0 =>?_)
 have HK0:=kz hK0
 clear hK0
 go_wp2_with fail
 refine oz HK0 _ _ ?_
 clear HK0 K0
 generalize (W.alloc (.cells #[.slice A.a0 T.sc.length A.c0,.slice A.a1 T.co.length A.c1,.slice A.a2 T.ma.length A.c2,.slice A.a3 T.pr.length A.c3,.slice A.a4 T.fo.length A.c4,.slice A.a5 T.lk.length A.c5,.slice A.a6 T.dr.length A.c6,.slice A.a7 T.al.length A.c7] 28)).alloc (.cells #[.int .i64 0,.int .i64 0,.int .i64 0] 76)=w0 at *
 have hR:∀ (y l k:Int),mb=(y,l,k)→∀ (a:Act) (wn:World),a.tmps.getD 2 undef=.pointer (some ⟨W.heap.size+1,0,none⟩)→a.defers=[]→Hz (RxD W wn (y,l,k))→bodyPost Tryz.prog Tryz.f58 (fun e w' =>e=.returned (wrV mb)∧Below W.heap.size W w') .ret a wn:=fun y l k e a wn h1 h2 h3 =>by
  subst e
  exact bodyPost_ret (v:=wrV (y,l,k)) (zb8 Tryz.results58 h1 (oz h3).rs rfl) h2 ⟨rfl,(oz h3).bl⟩
 refine wp_seq_k (fun K1 hK1 =>?_)
 refine zaL (F:=zd0 W) (zau rfl) (fun U =>?_)
 refine zod T (oz HT) A W _ (oz HX) U ?_ ?_
 rotate_left
 ·intro y k e hy a wn h1 h2 h3
  exact hR y _ k (by rw [← oz HV,zai (by rw [e];exact hy),e]) a wn h1 h2 h3
 intro E1 a w1 ⟨U1,hU⟩ hx
 subst hU
 have HX1:=kz (oz hx).rx
 clear hx
 refine hK1 _ _ ?_
 clear hK1 K1
 refine wp_seq_k (fun K2 hK2 =>?_)
 refine zaL (F:=zd0 W) ⟨U1,rfl⟩ (fun U =>?_)
 refine zoc T (oz HT) A W _ (oz HX1) U ?_ ?_
 rotate_left
 ·intro y k e hy a wn h1 h2 h3
  exact hR y _ k (by rw [← oz HV,zad (by rw [E1]),zai (by rw [e];exact hy),e]) a wn h1 h2 h3
 intro E2 a w2 ⟨U2,hU⟩ hx
 subst hU
 have HX2:=kz (oz hx).rx
 clear hx
 refine hK2 _ _ ?_
 clear hK2 K2
 refine wp_seq_k (fun K3 hK3 =>?_)
 refine zaL (F:=zd0 W) ⟨U2,rfl⟩ (fun U =>?_)
 refine zob T (oz HT) A W _ (oz HX2) U ?_ ?_
 rotate_left
 ·intro y k e hy a wn h1 h2 h3
  exact hR y _ k (by rw [← oz HV,zad (by rw [E1]),zad (by rw [E2]),zai (by rw [e];exact hy),e]) a wn h1 h2 h3
 intro E3 a w3 ⟨U3,hU⟩ hx
 subst hU
 have HX3:=kz (oz hx).rx
 clear hx
 refine hK3 _ _ ?_
 clear hK3 K3
 refine wp_seq_k (fun K4 hK4 =>?_)
 refine zaL (F:=zd0 W) ⟨U3,rfl⟩ (fun U =>?_)
 refine zoa T (oz HT) A W _ (oz HX3) U ?_ ?_
 rotate_left
 ·intro y k e hy a wn h1 h2 h3
  exact hR y _ k (by rw [← oz HV,zad (by rw [E1]),zad (by rw [E2]),zad (by rw [E3]),zai (by rw [e];exact hy),e]) a wn h1 h2 h3
 intro E4 a w4 ⟨U4,hU⟩ hx
 subst hU
 have HX4:=kz (oz hx).rx
 clear hx
 refine hK4 _ _ ?_
 clear hK4 K4
 have hm:mb=(0,0,0):=by
  rw [← oz HV,zad (by rw [E1]),zad (by rw [E2]),zad (by rw [E3]),zad (by rw [E4])]
  rfl
 subst hm
 clear hR HV E1 E2 E3 E4
 refine zaL (F:=zd0 W) ⟨U4,rfl⟩ (fun U =>?_)
 unfold zd0
 have r0:=(oz HX4).rs.cell 0
 have f0:=(oz HX4).rs.frozen 0
 have r1:=(oz HX4).rs.cell 1
 have f1:=(oz HX4).rs.frozen 1
 have r2:=(oz HX4).rs.cell 2
 have f2:=(oz HX4).rs.frozen 2
 go_wp2_with fail
 exact bodyPost_ret (v:=wrV (0,0,0)) (zb8 Tryz.results58 rfl (zcf (oz HX4).rs _ _ _) rfl) rfl ⟨rfl,((oz HX4).put (0,0,0)).bl⟩
def zgZ (W:World) (U:Nat→Value):Act:={ tmps:=#[U 0,.pointer (some ⟨W.heap.size,0,none⟩),.pointer (some ⟨W.heap.size+1,0,none⟩),U 3,U 4,U 5,U 6,U 7,U 8,U 9,U 10,U 11,U 12,U 13,U 14,U 15,U 16,U 17,U 18,U 19,U 20,U 21,U 22,U 23,U 24,U 25,U 26,U 27,U 28,U 29,U 30,U 31,U 32,U 33,U 34,U 35,U 36,U 37,U 38,U 39,U 40,U 41,U 42,U 43,U 44,U 45,U 46,U 47,U 48,U 49,U 50,U 51,U 52,U 53,U 54,U 55,U 56,U 57,U 58,U 59,U 60,U 61,U 62],defers := [] }
noncomputable def uaPa:Code:=match Tryz.f57.body with
 | some (.seq _ (.seq c _)) =>c
 | _ =>.skip
theorem znY (T:TV) (hT:TabB T) (A:TbA) (W w:World)  (h:RxS W w T A) (U:Nat→Value) {Q:Exit→Act→World→Prop}
  (hN:zaf 4 T.pr pr0 (prE T)=(0,0,0)→∀ (a:Act) (wn:World),(∃ U',a=zgZ W U')→Hz (RxT W w wn T A)→Q .normal a wn)
  (hR:∀ (y k:Int),zaf 4 T.pr pr0 (prE T)=(y,4,k)→y≠0→∀ (a:Act) (wn:World),a.tmps.getD 2 undef=.pointer (some ⟨W.heap.size+1,0,none⟩)→a.defers=[]→Hz (RxD W wn (y,4,k))→Q .ret a wn) :
  Code.wp Tryz.prog uaPa Q (zgZ W U) w:=by
 have HN:=kz hN
 have HR:=kz hR
 have HX:=kz (RxT.refl h)
 have hln:=hT.n3
 have HM:=kz (fun r b (hb:za7 T r=b) w (hv:TbV w T (.agg #[.slice A.a0 T.sc.length A.c0,.slice A.a1 T.co.length A.c1,.slice A.a2 T.ma.length A.c2,.slice A.a3 T.pr.length A.c3,.slice A.a4 T.fo.length A.c4,.slice A.a5 T.lk.length A.c5,.slice A.a6 T.dr.length A.c6,.slice A.a7 T.al.length A.c7])) =>by have:=zes T hT.n2 _ r w hv;rwa [hb] at this)
 clear hN hR h
 delta uaPa Tryz.f57 zgZ at *
 dsimp only
 go_wp2_with fail
 go_loopw [3] (fun i wr => ∃ k:Nat,k≤T.pr.length∧i=.int .i64 k∧Hz (OkTo T.pr pr0 (prE T) k)∧Hz (RxT W w wr T A)) (fun i _ =>T.pr.length - (intOf i).toNat)
 case atStart =>exact ⟨0,Nat.zero_le _,rfl,kz (OkTo.zero _ _ _),HX⟩
 case round =>
  clear HX
  obtain ⟨k,hk,rfl,HO,HX⟩:=hrel
  by_cases hkn:k < T.pr.length
  ·obtain ⟨x,hx⟩:∃ x,T.pr[k]?=some x:=⟨_,List.getElem?_eq_getElem hkn⟩
   obtain ⟨g,o,ea,hg,c0,c1,c2⟩:=zoz (oz HX).rx.tb.ti.r3 hx
   have HK:=kz hx
   have HG:=kz hg
   have k1:(k:Int) < (T.pr.length:Int):=by omega
   have k2:((k:Nat):Int).toNat=k:=by omega
   have zz:=(oz HX).rx.tb.z3
   rw [ea] at zz
   clear hg hx
   cases h1:za7 T x.1 with
   | true =>
    have hf:prE T x=32:=by unfold prE;rw [h1];rfl
    have HE:=kz ((oz HO).bad (oz HK) 4 (by rw [hf];decide))
    rw [hf] at HE
    clear hf HO HK
    have y0:=cell_regrown (oz HX).rx.tb.z0
    have y1:=cell_regrown (oz HX).rx.tb.z1
    have y2:=cell_regrown (oz HX).rx.tb.z2
    have y4:=cell_regrown (oz HX).rx.tb.z4
    have y5:=cell_regrown (oz HX).rx.tb.z5
    have y6:=cell_regrown (oz HX).rx.tb.z6
    have y7:=cell_regrown (oz HX).rx.tb.z7
    have yz:=cell_regrown zz
    have x0:=cell_regrown c0
    have x1:=cell_regrown c1
    have x2:=cell_regrown c2
    have HM2:=kz (fun r b hb w' (hw:Below wr.heap.size wr w') =>oz HM r b hb w' ((oz HX).rx.tb.tv.below hw))
    rw [ea] at HM2
    have mh1:za7 T x.1=true:=h1
    clear ea h1
    go_wp2_with fail
    refine wp_region_quiet_below (by kernel_rfl) (by kernel_rfl) ?_
    repeat (go_big_quiet_step (exact Calls.regrown_of (oz HM2 _ _ (by assumption) _ (below_regrown wr _ _))))
    first | refine wpQuiet_nil ?_ | skip
    rintro w' ⟨p,rfl⟩
    have HBq:=kz (below_regrown wr p.d p.os)
    generalize Go.Sort.grow (redrawn wr p.d) p.os=w1 at *
    have HX1:=kz ((oz HX).below (oz HBq))
    clear y0 y1 y2 y4 y5 y6 y7 yz x0 x1 x2 HM HM2 HX zz
    have r0:=(oz HX1).rx.rs.cell 0
    have f0:=(oz HX1).rx.rs.frozen 0
    have r1:=(oz HX1).rx.rs.cell 1
    have f1:=(oz HX1).rx.rs.frozen 1
    have r2:=(oz HX1).rx.rs.cell 2
    have f2:=(oz HX1).rx.rs.frozen 2
    go_wp2_with fail
    exact oz HR _ _ (oz HE) (by decide) _ _ rfl rfl (kz ((oz HX1).put _ _ _))
   | false =>
    cases h2:za7 T x.2.1 with
    | true =>
     have hf:prE T x=32:=by unfold prE;rw [h1,h2];rfl
     have HE:=kz ((oz HO).bad (oz HK) 4 (by rw [hf];decide))
     rw [hf] at HE
     clear hf HO HK
     have y0:=cell_regrown (oz HX).rx.tb.z0
     have y1:=cell_regrown (oz HX).rx.tb.z1
     have y2:=cell_regrown (oz HX).rx.tb.z2
     have y4:=cell_regrown (oz HX).rx.tb.z4
     have y5:=cell_regrown (oz HX).rx.tb.z5
     have y6:=cell_regrown (oz HX).rx.tb.z6
     have y7:=cell_regrown (oz HX).rx.tb.z7
     have yz:=cell_regrown zz
     have x0:=cell_regrown c0
     have x1:=cell_regrown c1
     have x2:=cell_regrown c2
     have HM2:=kz (fun r b hb w' (hw:Below wr.heap.size wr w') =>oz HM r b hb w' ((oz HX).rx.tb.tv.below hw))
     rw [ea] at HM2
     have mh1:za7 T x.1=false:=h1
     have mh2:za7 T x.2.1=true:=h2
     clear ea h1 h2
     go_wp2_with fail
     refine wp_region_quiet_below (by kernel_rfl) (by kernel_rfl) ?_
     repeat (go_big_quiet_step (exact Calls.regrown_of (oz HM2 _ _ (by assumption) _ (below_regrown wr _ _))))
     first | refine wpQuiet_nil ?_ | skip
     rintro w' ⟨p,rfl⟩
     have HBq:=kz (below_regrown wr p.d p.os)
     generalize Go.Sort.grow (redrawn wr p.d) p.os=w1 at *
     have HX1:=kz ((oz HX).below (oz HBq))
     clear y0 y1 y2 y4 y5 y6 y7 yz x0 x1 x2 HM HM2 HX zz
     have r0:=(oz HX1).rx.rs.cell 0
     have f0:=(oz HX1).rx.rs.frozen 0
     have r1:=(oz HX1).rx.rs.cell 1
     have f1:=(oz HX1).rx.rs.frozen 1
     have r2:=(oz HX1).rx.rs.cell 2
     have f2:=(oz HX1).rx.rs.frozen 2
     go_wp2_with fail
     exact oz HR _ _ (oz HE) (by decide) _ _ rfl rfl (kz ((oz HX1).put _ _ _))
    | false =>
     cases h3:za7 T x.2.2 with
     | false =>
      have hf:prE T x=32:=by unfold prE;rw [h1,h2,h3];rfl
      have HE:=kz ((oz HO).bad (oz HK) 4 (by rw [hf];decide))
      rw [hf] at HE
      clear hf HO HK
      have y0:=cell_regrown (oz HX).rx.tb.z0
      have y1:=cell_regrown (oz HX).rx.tb.z1
      have y2:=cell_regrown (oz HX).rx.tb.z2
      have y4:=cell_regrown (oz HX).rx.tb.z4
      have y5:=cell_regrown (oz HX).rx.tb.z5
      have y6:=cell_regrown (oz HX).rx.tb.z6
      have y7:=cell_regrown (oz HX).rx.tb.z7
      have yz:=cell_regrown zz
      have x0:=cell_regrown c0
      have x1:=cell_regrown c1
      have x2:=cell_regrown c2
      have HM2:=kz (fun r b hb w' (hw:Below wr.heap.size wr w') =>oz HM r b hb w' ((oz HX).rx.tb.tv.below hw))
      rw [ea] at HM2
      have mh1:za7 T x.1=false:=h1
      have mh2:za7 T x.2.1=false:=h2
      have mh3:za7 T x.2.2=false:=h3
      clear ea h1 h2 h3
      go_wp2_with fail
      refine wp_region_quiet_below (by kernel_rfl) (by kernel_rfl) ?_
      repeat (go_big_quiet_step (exact Calls.regrown_of (oz HM2 _ _ (by assumption) _ (below_regrown wr _ _))))
      first | refine wpQuiet_nil ?_ | skip
      rintro w' ⟨p,rfl⟩
      have HBq:=kz (below_regrown wr p.d p.os)
      generalize Go.Sort.grow (redrawn wr p.d) p.os=w1 at *
      have HX1:=kz ((oz HX).below (oz HBq))
      clear y0 y1 y2 y4 y5 y6 y7 yz x0 x1 x2 HM HM2 HX zz
      have r0:=(oz HX1).rx.rs.cell 0
      have f0:=(oz HX1).rx.rs.frozen 0
      have r1:=(oz HX1).rx.rs.cell 1
      have f1:=(oz HX1).rx.rs.frozen 1
      have r2:=(oz HX1).rx.rs.cell 2
      have f2:=(oz HX1).rx.rs.frozen 2
      go_wp2_with fail
      exact oz HR _ _ (oz HE) (by decide) _ _ rfl rfl (kz ((oz HX1).put _ _ _))
     | true =>
      have hf:prE T x=0:=by unfold prE;rw [h1,h2,h3];rfl
      have HO2:=kz ((oz HO).next (oz HK) hf)
      clear hf HO HK
      have y0:=cell_regrown (oz HX).rx.tb.z0
      have y1:=cell_regrown (oz HX).rx.tb.z1
      have y2:=cell_regrown (oz HX).rx.tb.z2
      have y4:=cell_regrown (oz HX).rx.tb.z4
      have y5:=cell_regrown (oz HX).rx.tb.z5
      have y6:=cell_regrown (oz HX).rx.tb.z6
      have y7:=cell_regrown (oz HX).rx.tb.z7
      have yz:=cell_regrown zz
      have x0:=cell_regrown c0
      have x1:=cell_regrown c1
      have x2:=cell_regrown c2
      have HM2:=kz (fun r b hb w' (hw:Below wr.heap.size wr w') =>oz HM r b hb w' ((oz HX).rx.tb.tv.below hw))
      rw [ea] at HM2
      have mh1:za7 T x.1=false:=h1
      have mh2:za7 T x.2.1=false:=h2
      have mh3:za7 T x.2.2=true:=h3
      clear ea h1 h2 h3
      go_wp2_with fail
      refine wp_region_quiet_below (by kernel_rfl) (by kernel_rfl) ?_
      repeat (go_big_quiet_step (exact Calls.regrown_of (oz HM2 _ _ (by assumption) _ (below_regrown wr _ _))))
      first | refine wpQuiet_nil ?_ | skip
      rintro w' ⟨p,rfl⟩
      have HBq:=kz (below_regrown wr p.d p.os)
      generalize Go.Sort.grow (redrawn wr p.d) p.os=w1 at *
      have HX1:=kz ((oz HX).below (oz HBq))
      clear y0 y1 y2 y4 y5 y6 y7 yz x0 x1 x2 HM HM2 HX zz
      go_wp2_with fail
      exact ⟨⟨k+1,by omega,by first | rfl | go_num,HO2,HX1⟩,by simp [intOf];omega⟩
  ·have k1:¬ (k:Int) < (T.pr.length:Int):=by omega
   have zz:=(oz HX).rx.tb.z3
   have HE:=kz ((oz HO).ok (by omega) 4)
   clear HO HR
   go_wp2_with fail
   exact oz HN (oz HE) _ _ (zau rfl) HX
noncomputable def uaPb:Code:=match Tryz.f57.body with
 | some (.seq _ (.seq _ (.seq c _))) =>c
 | _ =>.skip
theorem znX (T:TV) (hT:TabB T) (A:TbA) (W w:World)  (h:RxS W w T A) (U:Nat→Value) {Q:Exit→Act→World→Prop}
  (hN:zaf 4 T.pr pr0 (prR T)=(0,0,0)→∀ (a:Act) (wn:World),(∃ U',a=zgZ W U')→Hz (RxT W w wn T A)→Q .normal a wn)
  (hR:∀ (y k:Int),zaf 4 T.pr pr0 (prR T)=(y,4,k)→y≠0→∀ (a:Act) (wn:World),a.tmps.getD 2 undef=.pointer (some ⟨W.heap.size+1,0,none⟩)→a.defers=[]→Hz (RxD W wn (y,4,k))→Q .ret a wn) :
  Code.wp Tryz.prog uaPb Q (zgZ W U) w:=by
 have HN:=kz hN
 have HR:=kz hR
 have HX:=kz (RxT.refl h)
 have hln:=hT.n3
 have HM:=kz (fun k x (hx:T.pr[k]?=some x) w (hv:TbV w T (.agg #[.slice A.a0 T.sc.length A.c0,.slice A.a1 T.co.length A.c1,.slice A.a2 T.ma.length A.c2,.slice A.a3 T.pr.length A.c3,.slice A.a4 T.fo.length A.c4,.slice A.a5 T.lk.length A.c5,.slice A.a6 T.dr.length A.c6,.slice A.a7 T.al.length A.c7])) =>zjv T hT.n3 _ k x hx w hv)
 clear hN hR h
 delta uaPb Tryz.f57 zgZ at *
 dsimp only
 go_wp2_with fail
 go_loopw [4] (fun i wr => ∃ k:Nat,k≤T.pr.length∧i=.int .i64 k∧Hz (OkTo T.pr pr0 (prR T) k)∧Hz (RxT W w wr T A)) (fun i _ =>T.pr.length - (intOf i).toNat)
 case atStart =>exact ⟨0,Nat.zero_le _,rfl,kz (OkTo.zero _ _ _),HX⟩
 case round =>
  clear HX
  obtain ⟨k,hk,rfl,HO,HX⟩:=hrel
  by_cases hkn:k < T.pr.length
  ·obtain ⟨x,hx⟩:∃ x,T.pr[k]?=some x:=⟨_,List.getElem?_eq_getElem hkn⟩
   obtain ⟨g,o,ea,hg,c0,c1,c2⟩:=zoz (oz HX).rx.tb.ti.r3 hx
   have HK:=kz hx
   have HG:=kz hg
   have k1:(k:Int) < (T.pr.length:Int):=by omega
   have k2:((k:Nat):Int).toNat=k:=by omega
   have zz:=(oz HX).rx.tb.z3
   rw [ea] at zz
   clear hg hx
   cases hq:zcu T T.pr.length x.2.1 1 with
   | none =>
    have HC2:=kz (fun w' (hw:Below wr.heap.size wr w') =>oz HM k x (oz HK) w' ((oz HX).rx.tb.tv.below hw))
    rw [ea,hq] at HC2
    clear ea c0 c1 c2
    have hf:prR T x=33:=by unfold prR;rw [hq]
    have HE:=kz ((oz HO).bad (oz HK) 4 (by rw [hf];decide))
    rw [hf] at HE
    clear hf HO HK
    rw [show chI none = -1 from rfl] at HC2
    have z0:=(oz HX).rx.tb.z0
    have z1:=(oz HX).rx.tb.z1
    have z2:=(oz HX).rx.tb.z2
    have z4:=(oz HX).rx.tb.z4
    have z5:=(oz HX).rx.tb.z5
    have z6:=(oz HX).rx.tb.z6
    have z7:=(oz HX).rx.tb.z7
    clear hq
    go_wp2_with fail
    refine (oz HC2 wr (Below.refl _ _)).mono ?_
    rintro e w1 ⟨rfl,hbx⟩
    have HX1:=kz ((oz HX).below hbx)
    clear z0 z1 z2 z4 z5 z6 z7 HM HC2 HX zz hbx
    have r0:=(oz HX1).rx.rs.cell 0
    have f0:=(oz HX1).rx.rs.frozen 0
    have r1:=(oz HX1).rx.rs.cell 1
    have f1:=(oz HX1).rx.rs.frozen 1
    have r2:=(oz HX1).rx.rs.cell 2
    have f2:=(oz HX1).rx.rs.frozen 2
    go_wp2_with fail
    exact oz HR _ _ (oz HE) (by decide) _ _ rfl rfl (kz ((oz HX1).put _ _ _))
   | some n =>
    have hc:chI (some n)=(n:Int):=rfl
    by_cases h4:4 < n
    ·have HC2:=kz (fun w' (hw:Below wr.heap.size wr w') =>oz HM k x (oz HK) w' ((oz HX).rx.tb.tv.below hw))
     rw [ea,hq] at HC2
     clear ea c0 c1 c2
     have hf:prR T x=34:=by unfold prR;rw [hq];exact if_pos h4
     have HE:=kz ((oz HO).bad (oz HK) 4 (by rw [hf];decide))
     rw [hf] at HE
     clear hf HO HK
     rw [hc] at HC2
     have n1:¬ (n:Int) < 0:=by omega
     have n2:(4:Int) < (n:Int):=by omega
     clear hc h4
     have z0:=(oz HX).rx.tb.z0
     have z1:=(oz HX).rx.tb.z1
     have z2:=(oz HX).rx.tb.z2
     have z4:=(oz HX).rx.tb.z4
     have z5:=(oz HX).rx.tb.z5
     have z6:=(oz HX).rx.tb.z6
     have z7:=(oz HX).rx.tb.z7
     clear hq
     go_wp2_with fail
     refine (oz HC2 wr (Below.refl _ _)).mono ?_
     rintro e w1 ⟨rfl,hbx⟩
     have HX1:=kz ((oz HX).below hbx)
     clear z0 z1 z2 z4 z5 z6 z7 HM HC2 HX zz hbx
     have r0:=(oz HX1).rx.rs.cell 0
     have f0:=(oz HX1).rx.rs.frozen 0
     have r1:=(oz HX1).rx.rs.cell 1
     have f1:=(oz HX1).rx.rs.frozen 1
     have r2:=(oz HX1).rx.rs.cell 2
     have f2:=(oz HX1).rx.rs.frozen 2
     go_wp2_with fail
     exact oz HR _ _ (oz HE) (by decide) _ _ rfl rfl (kz ((oz HX1).put _ _ _))
    ·have HC2:=kz (fun w' (hw:Below wr.heap.size wr w') =>oz HM k x (oz HK) w' ((oz HX).rx.tb.tv.below hw))
     rw [ea,hq] at HC2
     clear ea c0 c1 c2
     have hf:prR T x=0:=by unfold prR;rw [hq];exact if_neg h4
     have HO2:=kz ((oz HO).next (oz HK) hf)
     clear hf HO HK
     rw [hc] at HC2
     have n1:¬ (n:Int) < 0:=by omega
     have n2:¬ (4:Int) < (n:Int):=by omega
     clear hc h4
     have z0:=(oz HX).rx.tb.z0
     have z1:=(oz HX).rx.tb.z1
     have z2:=(oz HX).rx.tb.z2
     have z4:=(oz HX).rx.tb.z4
     have z5:=(oz HX).rx.tb.z5
     have z6:=(oz HX).rx.tb.z6
     have z7:=(oz HX).rx.tb.z7
     clear hq
     go_wp2_with fail
     refine (oz HC2 wr (Below.refl _ _)).mono ?_
     rintro e w1 ⟨rfl,hbx⟩
     have HX1:=kz ((oz HX).below hbx)
     clear z0 z1 z2 z4 z5 z6 z7 HM HC2 HX zz hbx
     go_wp2_with fail
     exact ⟨⟨k+1,by omega,by first | rfl | go_num,HO2,HX1⟩,by simp [intOf];omega⟩
  ·have k1:¬ (k:Int) < (T.pr.length:Int):=by omega
   have zz:=(oz HX).rx.tb.z3
   have HE:=kz ((oz HO).ok (by omega) 4)
   clear HO HR
   go_wp2_with fail
   exact oz HN (oz HE) _ _ (zau rfl) HX
theorem zjq (T:TV) (hT:TabB T) (v:Value) (W:World) (hv:TbV W T v) :
  Calls Tryz.prog 57 #[v] W fun e w' =>e=.returned (wrV (orW [zbI T,zc8 T]))∧Below W.heap.size W w':=by
 obtain ⟨A,rfl,hA⟩:=hv
 have HX:=kz (RxS.start hA)
 have HT:=kz hT
 have HV:∃ mb,Hz (orW [zaf 4 T.pr pr0 (prE T),zaf 4 T.pr pr0 (prR T)]=mb):=⟨_,kz rfl⟩
 obtain ⟨mb,HV⟩:=HV
 rw [show orW [zbI T,zc8 T]=mb from oz HV]
 clear hA hT
 go_enter Tryz.func57,Tryz.ntmps57
 refine wp_seq_k (fun K0 hK0 =>?_)
 have HK0:=kz hK0
 clear hK0
 go_wp2_with fail
 refine oz HK0 _ _ ?_
 clear HK0 K0
 generalize (W.alloc (.cells #[.slice A.a0 T.sc.length A.c0,.slice A.a1 T.co.length A.c1,.slice A.a2 T.ma.length A.c2,.slice A.a3 T.pr.length A.c3,.slice A.a4 T.fo.length A.c4,.slice A.a5 T.lk.length A.c5,.slice A.a6 T.dr.length A.c6,.slice A.a7 T.al.length A.c7] 28)).alloc (.cells #[.int .i64 0,.int .i64 0,.int .i64 0] 76)=w0 at *
 have hR:∀ (y l k:Int),mb=(y,l,k)→∀ (a:Act) (wn:World),a.tmps.getD 2 undef=.pointer (some ⟨W.heap.size+1,0,none⟩)→a.defers=[]→Hz (RxD W wn (y,l,k))→bodyPost Tryz.prog Tryz.f57 (fun e w' =>e=.returned (wrV mb)∧Below W.heap.size W w') .ret a wn:=fun y l k e a wn h1 h2 h3 =>by
  subst e
  exact bodyPost_ret (v:=wrV (y,l,k)) (zb8 Tryz.results57 h1 (oz h3).rs rfl) h2 ⟨rfl,(oz h3).bl⟩
 refine wp_seq_k (fun K1 hK1 =>?_)
 refine zaL (F:=zgZ W) (zau rfl) (fun U =>?_)
 refine znY T (oz HT) A W _ (oz HX) U ?_ ?_
 rotate_left
 ·intro y k e hy a wn h1 h2 h3
  exact hR y _ k (by rw [← oz HV,zai (by rw [e];exact hy),e]) a wn h1 h2 h3
 intro E1 a w1 ⟨U1,hU⟩ hx
 subst hU
 have HX1:=kz (oz hx).rx
 clear hx
 refine hK1 _ _ ?_
 clear hK1 K1
 refine wp_seq_k (fun K2 hK2 =>?_)
 refine zaL (F:=zgZ W) ⟨U1,rfl⟩ (fun U =>?_)
 refine znX T (oz HT) A W _ (oz HX1) U ?_ ?_
 rotate_left
 ·intro y k e hy a wn h1 h2 h3
  exact hR y _ k (by rw [← oz HV,zad (by rw [E1]),zai (by rw [e];exact hy),e]) a wn h1 h2 h3
 intro E2 a w2 ⟨U2,hU⟩ hx
 subst hU
 have HX2:=kz (oz hx).rx
 clear hx
 refine hK2 _ _ ?_
 clear hK2 K2
 have hm:mb=(0,0,0):=by
  rw [← oz HV,zad (by rw [E1]),zad (by rw [E2])]
  rfl
 subst hm
 clear hR HV E1 E2
 refine zaL (F:=zgZ W) ⟨U2,rfl⟩ (fun U =>?_)
 unfold zgZ
 have r0:=(oz HX2).rs.cell 0
 have f0:=(oz HX2).rs.frozen 0
 have r1:=(oz HX2).rs.cell 1
 have f1:=(oz HX2).rs.frozen 1
 have r2:=(oz HX2).rs.cell 2
 have f2:=(oz HX2).rs.frozen 2
 go_wp2_with fail
 exact bodyPost_ret (v:=wrV (0,0,0)) (zb8 Tryz.results57 rfl (zcf (oz HX2).rs _ _ _) rfl) rfl ⟨rfl,((oz HX2).put (0,0,0)).bl⟩
end Go.Proofs.YtmemedpoaocdkaaGreat
