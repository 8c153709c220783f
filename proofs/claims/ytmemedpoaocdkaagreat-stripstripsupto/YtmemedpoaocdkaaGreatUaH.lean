/- The reference's own look at what rows lead to. -/
import Derived.Test.YtmemedpoaocdkaaGreatM8
namespace Go.Proofs.YtmemedpoaocdkaaGreat
open Go.RowKit Go.Shelf
set_option linter.unusedVariables false
set_option maxRecDepth 100000
set_option maxHeartbeats 8000000
def zfc (T:TV) (x:Int × ByteArray):Int:=if za7 T x.1 || zdn T x.1 then 31 else 0
def zlZ (T:TV) (x:Int × ByteArray):Int:=if (zak x.2).any (fun r => !zaN T r) then 35 else 0
def zlG (T:TV) (x:Int × ByteArray):Int:=if (zak x.2).any (fun r => !zaN T r || zdN T.lk r) then 36 else 0
theorem RxT.chain {W w0 w1 w2:World} {T:TV} {A:TbA} (h:RxT W w0 w1 T A) (k:RxT W w1 w2 T A):RxT W w0 w2 T A:=⟨k.rx,h.fr.trans (k.fr.mono h.fr.size)⟩
def zdZ (W:World) (U:Nat→Value):Act:={ tmps:=#[U 0,.pointer (some ⟨W.heap.size,0,none⟩),.pointer (some ⟨W.heap.size+1,0,none⟩),U 3,U 4,U 5,U 6,U 7,U 8,U 9,U 10,U 11,U 12,U 13,U 14,U 15,U 16,U 17,U 18,U 19,U 20,U 21,U 22,U 23,U 24,U 25,U 26,U 27,U 28,U 29,U 30,U 31,U 32,U 33,U 34,U 35,U 36,U 37,U 38,U 39,U 40,U 41,U 42,U 43,U 44,U 45,U 46,U 47,U 48,U 49,U 50,U 51,U 52,U 53,U 54,U 55,U 56,U 57,U 58,U 59,U 60,U 61,U 62,U 63,U 64,U 65,U 66,U 67,U 68,U 69,U 70,U 71,U 72,U 73,U 74,U 75,U 76,U 77,U 78,U 79,U 80,U 81,U 82,U 83,U 84,U 85,U 86,U 87,U 88,U 89,U 90,U 91,U 92,U 93,U 94,U 95,U 96,U 97,U 98,U 99,U 100,U 101,U 102,U 103,U 104,U 105,U 106,U 107,U 108,U 109,U 110,U 111,U 112,U 113,U 114,U 115,U 116,U 117,U 118,U 119,U 120,U 121,U 122,U 123,U 124,U 125,U 126,U 127,U 128,U 129,U 130,U 131,U 132,U 133,U 134,U 135,U 136,U 137,U 138,U 139,U 140,U 141,U 142,U 143],defers := [] }
noncomputable def uaTa:Code:=match Tryz.f59.body with
 | some (.seq _ (.seq c _)) =>c
 | _ =>.skip
theorem znR (T:TV) (hT:TabB T) (A:TbA) (W w:World)  (h:RxS W w T A) (U:Nat→Value) {Q:Exit→Act→World→Prop}
  (hN:zaf 5 T.fo mp0 (zfc T)=(0,0,0)→∀ (a:Act) (wn:World),(∃ U',a=zdZ W U')→Hz (RxT W w wn T A)→Q .normal a wn)
  (hR:∀ (y k:Int),zaf 5 T.fo mp0 (zfc T)=(y,5,k)→y≠0→∀ (a:Act) (wn:World),a.tmps.getD 2 undef=.pointer (some ⟨W.heap.size+1,0,none⟩)→a.defers=[]→Hz (RxD W wn (y,5,k))→Q .ret a wn) :
  Code.wp Tryz.prog uaTa Q (zdZ W U) w:=by
 have HN:=kz hN
 have HR:=kz hR
 have HX:=kz (RxT.refl h)
 have hln:=hT.n4
 have HM:=kz (fun r b (hb:za7 T r=b) w (hv:TbV w T (.agg #[.slice A.a0 T.sc.length A.c0,.slice A.a1 T.co.length A.c1,.slice A.a2 T.ma.length A.c2,.slice A.a3 T.pr.length A.c3,.slice A.a4 T.fo.length A.c4,.slice A.a5 T.lk.length A.c5,.slice A.a6 T.dr.length A.c6,.slice A.a7 T.al.length A.c7])) =>by have:=zes T hT.n2 _ r w hv;rwa [hb] at this)
 have HW:=kz (fun r w (hv:TbV w T (.agg #[.slice A.a0 T.sc.length A.c0,.slice A.a1 T.co.length A.c1,.slice A.a2 T.ma.length A.c2,.slice A.a3 T.pr.length A.c3,.slice A.a4 T.fo.length A.c4,.slice A.a5 T.lk.length A.c5,.slice A.a6 T.dr.length A.c6,.slice A.a7 T.al.length A.c7])) =>zdK T hT.n3 _ r w hv)
 clear hN hR h
 delta uaTa Tryz.f59 zdZ at *
 dsimp only
 go_wp2_with fail
 go_loopw [3] (fun i wr => ∃ k:Nat,k≤T.fo.length∧i=.int .i64 k∧Hz (OkTo T.fo mp0 (zfc T) k)∧Hz (RxT W w wr T A)) (fun i _ =>T.fo.length - (intOf i).toNat)
 case atStart =>exact ⟨0,Nat.zero_le _,rfl,kz (OkTo.zero _ _ _),HX⟩
 case round =>
  clear HX
  obtain ⟨k,hk,rfl,HO,HX⟩:=hrel
  by_cases hkn:k < T.fo.length
  ·obtain ⟨x,hx⟩:∃ x,T.fo[k]?=some x:=⟨_,List.getElem?_eq_getElem hkn⟩
   obtain ⟨g,o,ea,hg,c0,c1⟩:=zlH (oz HX).rx.tb.ti.r4 hx
   have HK:=kz hx
   have HG:=kz hg
   have k1:(k:Int) < (T.fo.length:Int):=by omega
   have k2:((k:Nat):Int).toNat=k:=by omega
   have zz:=(oz HX).rx.tb.z4
   rw [ea] at zz
   clear hg hx
   cases h1:za7 T x.1 with
   | true =>
    have hf:zfc T x=31:=by unfold zfc;rw [h1];rfl
    have HE:=kz ((oz HO).bad (oz HK) 5 (by rw [hf];decide))
    rw [hf] at HE
    clear hf HO HK
    have y0:=cell_regrown (oz HX).rx.tb.z0
    have y1:=cell_regrown (oz HX).rx.tb.z1
    have y2:=cell_regrown (oz HX).rx.tb.z2
    have y3:=cell_regrown (oz HX).rx.tb.z3
    have y5:=cell_regrown (oz HX).rx.tb.z5
    have y6:=cell_regrown (oz HX).rx.tb.z6
    have y7:=cell_regrown (oz HX).rx.tb.z7
    have yz:=cell_regrown zz
    have x0:=cell_regrown c0
    have HM2:=kz (fun r b hb w' (hw:Below wr.heap.size wr w') =>oz HM r b hb w' ((oz HX).rx.tb.tv.below hw))
    rw [ea] at HM2
    have m1:za7 T x.1=true:=h1
    clear ea h1
    go_wp2_with fail
    refine wp_region_quiet_below (by kernel_rfl) (by kernel_rfl) ?_
    repeat (go_big_quiet_step (exact Calls.regrown_of (oz HM2 _ _ (by assumption) _ (below_regrown wr _ _))))
    first | refine wpQuiet_nil ?_ | skip
    rintro w' ⟨p,rfl⟩
    have HBq:=kz (below_regrown wr p.d p.os)
    generalize Go.Sort.grow (redrawn wr p.d) p.os=w1 at *
    have HX1:=kz ((oz HX).below (oz HBq))
    clear y0 y1 y2 y3 y5 y6 y7 yz x0 HM HM2 HW HX zz
    have r0:=(oz HX1).rx.rs.cell 0
    have f0:=(oz HX1).rx.rs.frozen 0
    have r1:=(oz HX1).rx.rs.cell 1
    have f1:=(oz HX1).rx.rs.frozen 1
    have r2:=(oz HX1).rx.rs.cell 2
    have f2:=(oz HX1).rx.rs.frozen 2
    go_wp2_with fail
    exact oz HR _ _ (oz HE) (by decide) _ _ rfl rfl (kz ((oz HX1).put _ _ _))
   | false =>
    cases h2:zdn T x.1 with
    | true =>
     have hf:zfc T x=31:=by unfold zfc;rw [h1,h2];rfl
     have HE:=kz ((oz HO).bad (oz HK) 5 (by rw [hf];decide))
     rw [hf] at HE
     clear hf HO HK
     have hi:0≤zd1 T.pr (fun y =>y.1 == x.1):=by
      have:=zcp T.pr (fun y =>y.1 == x.1)
      rw [show T.pr.any (fun y =>y.1 == x.1)=true from h2] at this
      have:=of_decide_eq_false this
      omega
     have HW2:=kz (fun w' (hw:Below wr.heap.size wr w') =>oz HW x.1 w' ((oz HX).rx.tb.tv.below hw))
     rw [ea] at HW2
     generalize zd1 T.pr (fun y =>y.1 == x.1)=ii at *
     have y0:=cell_regrown (oz HX).rx.tb.z0
     have y1:=cell_regrown (oz HX).rx.tb.z1
     have y2:=cell_regrown (oz HX).rx.tb.z2
     have y3:=cell_regrown (oz HX).rx.tb.z3
     have y5:=cell_regrown (oz HX).rx.tb.z5
     have y6:=cell_regrown (oz HX).rx.tb.z6
     have y7:=cell_regrown (oz HX).rx.tb.z7
     have yz:=cell_regrown zz
     have x0:=cell_regrown c0
     have HM2:=kz (fun r b hb w' (hw:Below wr.heap.size wr w') =>oz HM r b hb w' ((oz HX).rx.tb.tv.below hw))
     rw [ea] at HM2
     have m1:za7 T x.1=false:=h1
     clear ea h1 h2
     go_wp2_with fail
     refine wp_region_quiet_below (by kernel_rfl) (by kernel_rfl) ?_
     repeat (go_big_quiet_step (first | exact Calls.regrown_of (oz HM2 _ _ (by assumption) _ (below_regrown wr _ _)) | exact Calls.regrown_of (oz HW2 _ (below_regrown wr _ _))))
     first | refine wpQuiet_nil ?_ | skip
     rintro w' ⟨p,rfl⟩
     have HBq:=kz (below_regrown wr p.d p.os)
     generalize Go.Sort.grow (redrawn wr p.d) p.os=w1 at *
     have HX1:=kz ((oz HX).below (oz HBq))
     clear y0 y1 y2 y3 y5 y6 y7 yz x0 HM HM2 HW HW2 HX zz
     have r0:=(oz HX1).rx.rs.cell 0
     have f0:=(oz HX1).rx.rs.frozen 0
     have r1:=(oz HX1).rx.rs.cell 1
     have f1:=(oz HX1).rx.rs.frozen 1
     have r2:=(oz HX1).rx.rs.cell 2
     have f2:=(oz HX1).rx.rs.frozen 2
     go_wp2_with fail
     exact oz HR _ _ (oz HE) (by decide) _ _ rfl rfl (kz ((oz HX1).put _ _ _))
    | false =>
     have hf:zfc T x=0:=by unfold zfc;rw [h1,h2];rfl
     have HO2:=kz ((oz HO).next (oz HK) hf)
     clear hf HO HK
     have hi:¬ 0≤zd1 T.pr (fun y =>y.1 == x.1):=by
      have:=zcp T.pr (fun y =>y.1 == x.1)
      rw [show T.pr.any (fun y =>y.1 == x.1)=false from h2] at this
      have:=of_decide_eq_true this
      omega
     have HW2:=kz (fun w' (hw:Below wr.heap.size wr w') =>oz HW x.1 w' ((oz HX).rx.tb.tv.below hw))
     rw [ea] at HW2
     generalize zd1 T.pr (fun y =>y.1 == x.1)=ii at *
     have y0:=cell_regrown (oz HX).rx.tb.z0
     have y1:=cell_regrown (oz HX).rx.tb.z1
     have y2:=cell_regrown (oz HX).rx.tb.z2
     have y3:=cell_regrown (oz HX).rx.tb.z3
     have y5:=cell_regrown (oz HX).rx.tb.z5
     have y6:=cell_regrown (oz HX).rx.tb.z6
     have y7:=cell_regrown (oz HX).rx.tb.z7
     have yz:=cell_regrown zz
     have x0:=cell_regrown c0
     have HM2:=kz (fun r b hb w' (hw:Below wr.heap.size wr w') =>oz HM r b hb w' ((oz HX).rx.tb.tv.below hw))
     rw [ea] at HM2
     have m1:za7 T x.1=false:=h1
     clear ea h1 h2
     go_wp2_with fail
     refine wp_region_quiet_below (by kernel_rfl) (by kernel_rfl) ?_
     repeat (go_big_quiet_step (first | exact Calls.regrown_of (oz HM2 _ _ (by assumption) _ (below_regrown wr _ _)) | exact Calls.regrown_of (oz HW2 _ (below_regrown wr _ _))))
     first | refine wpQuiet_nil ?_ | skip
     rintro w' ⟨p,rfl⟩
     have HBq:=kz (below_regrown wr p.d p.os)
     generalize Go.Sort.grow (redrawn wr p.d) p.os=w1 at *
     have HX1:=kz ((oz HX).below (oz HBq))
     clear y0 y1 y2 y3 y5 y6 y7 yz x0 HM HM2 HW HW2 HX zz
     go_wp2_with fail
     exact ⟨⟨k+1,by omega,by first | rfl | go_num,HO2,HX1⟩,by simp [intOf];omega⟩
  ·have k1:¬ (k:Int) < (T.fo.length:Int):=by omega
   have zz:=(oz HX).rx.tb.z4
   have HE:=kz ((oz HO).ok (by omega) 5)
   clear HO HR
   go_wp2_with fail
   exact oz HN (oz HE) _ _ (zau rfl) HX
noncomputable def uaTb:Code:=match Tryz.f59.body with
 | some (.seq _ (.seq _ (.seq c _))) =>c
 | _ =>.skip
theorem znQ (T:TV) (hT:TabB T) (A:TbA) (W w:World)  (h:RxS W w T A) (U:Nat→Value) {Q:Exit→Act→World→Prop}
  (hN:zaf 6 T.lk mp0 (zfc T)=(0,0,0)→∀ (a:Act) (wn:World),(∃ U',a=zdZ W U')→Hz (RxT W w wn T A)→Q .normal a wn)
  (hR:∀ (y k:Int),zaf 6 T.lk mp0 (zfc T)=(y,6,k)→y≠0→∀ (a:Act) (wn:World),a.tmps.getD 2 undef=.pointer (some ⟨W.heap.size+1,0,none⟩)→a.defers=[]→Hz (RxD W wn (y,6,k))→Q .ret a wn) :
  Code.wp Tryz.prog uaTb Q (zdZ W U) w:=by
 have HN:=kz hN
 have HR:=kz hR
 have HX:=kz (RxT.refl h)
 have hln:=hT.n5
 have HM:=kz (fun r b (hb:za7 T r=b) w (hv:TbV w T (.agg #[.slice A.a0 T.sc.length A.c0,.slice A.a1 T.co.length A.c1,.slice A.a2 T.ma.length A.c2,.slice A.a3 T.pr.length A.c3,.slice A.a4 T.fo.length A.c4,.slice A.a5 T.lk.length A.c5,.slice A.a6 T.dr.length A.c6,.slice A.a7 T.al.length A.c7])) =>by have:=zes T hT.n2 _ r w hv;rwa [hb] at this)
 have HW:=kz (fun r w (hv:TbV w T (.agg #[.slice A.a0 T.sc.length A.c0,.slice A.a1 T.co.length A.c1,.slice A.a2 T.ma.length A.c2,.slice A.a3 T.pr.length A.c3,.slice A.a4 T.fo.length A.c4,.slice A.a5 T.lk.length A.c5,.slice A.a6 T.dr.length A.c6,.slice A.a7 T.al.length A.c7])) =>zdK T hT.n3 _ r w hv)
 clear hN hR h
 delta uaTb Tryz.f59 zdZ at *
 dsimp only
 go_wp2_with fail
 go_loopw [4] (fun i wr => ∃ k:Nat,k≤T.lk.length∧i=.int .i64 k∧Hz (OkTo T.lk mp0 (zfc T) k)∧Hz (RxT W w wr T A)) (fun i _ =>T.lk.length - (intOf i).toNat)
 case atStart =>exact ⟨0,Nat.zero_le _,rfl,kz (OkTo.zero _ _ _),HX⟩
 case round =>
  clear HX
  obtain ⟨k,hk,rfl,HO,HX⟩:=hrel
  by_cases hkn:k < T.lk.length
  ·obtain ⟨x,hx⟩:∃ x,T.lk[k]?=some x:=⟨_,List.getElem?_eq_getElem hkn⟩
   obtain ⟨g,o,ea,hg,c0,c1⟩:=zlH (oz HX).rx.tb.ti.r5 hx
   have HK:=kz hx
   have HG:=kz hg
   have k1:(k:Int) < (T.lk.length:Int):=by omega
   have k2:((k:Nat):Int).toNat=k:=by omega
   have zz:=(oz HX).rx.tb.z5
   rw [ea] at zz
   clear hg hx
   cases h1:za7 T x.1 with
   | true =>
    have hf:zfc T x=31:=by unfold zfc;rw [h1];rfl
    have HE:=kz ((oz HO).bad (oz HK) 6 (by rw [hf];decide))
    rw [hf] at HE
    clear hf HO HK
    have y0:=cell_regrown (oz HX).rx.tb.z0
    have y1:=cell_regrown (oz HX).rx.tb.z1
    have y2:=cell_regrown (oz HX).rx.tb.z2
    have y3:=cell_regrown (oz HX).rx.tb.z3
    have y4:=cell_regrown (oz HX).rx.tb.z4
    have y6:=cell_regrown (oz HX).rx.tb.z6
    have y7:=cell_regrown (oz HX).rx.tb.z7
    have yz:=cell_regrown zz
    have x0:=cell_regrown c0
    have HM2:=kz (fun r b hb w' (hw:Below wr.heap.size wr w') =>oz HM r b hb w' ((oz HX).rx.tb.tv.below hw))
    rw [ea] at HM2
    have m1:za7 T x.1=true:=h1
    clear ea h1
    go_wp2_with fail
    refine wp_region_quiet_below (by kernel_rfl) (by kernel_rfl) ?_
    repeat (go_big_quiet_step (exact Calls.regrown_of (oz HM2 _ _ (by assumption) _ (below_regrown wr _ _))))
    first | refine wpQuiet_nil ?_ | skip
    rintro w' ⟨p,rfl⟩
    have HBq:=kz (below_regrown wr p.d p.os)
    generalize Go.Sort.grow (redrawn wr p.d) p.os=w1 at *
    have HX1:=kz ((oz HX).below (oz HBq))
    clear y0 y1 y2 y3 y4 y6 y7 yz x0 HM HM2 HW HX zz
    have r0:=(oz HX1).rx.rs.cell 0
    have f0:=(oz HX1).rx.rs.frozen 0
    have r1:=(oz HX1).rx.rs.cell 1
    have f1:=(oz HX1).rx.rs.frozen 1
    have r2:=(oz HX1).rx.rs.cell 2
    have f2:=(oz HX1).rx.rs.frozen 2
    go_wp2_with fail
    exact oz HR _ _ (oz HE) (by decide) _ _ rfl rfl (kz ((oz HX1).put _ _ _))
   | false =>
    cases h2:zdn T x.1 with
    | true =>
     have hf:zfc T x=31:=by unfold zfc;rw [h1,h2];rfl
     have HE:=kz ((oz HO).bad (oz HK) 6 (by rw [hf];decide))
     rw [hf] at HE
     clear hf HO HK
     have hi:0≤zd1 T.pr (fun y =>y.1 == x.1):=by
      have:=zcp T.pr (fun y =>y.1 == x.1)
      rw [show T.pr.any (fun y =>y.1 == x.1)=true from h2] at this
      have:=of_decide_eq_false this
      omega
     have HW2:=kz (fun w' (hw:Below wr.heap.size wr w') =>oz HW x.1 w' ((oz HX).rx.tb.tv.below hw))
     rw [ea] at HW2
     generalize zd1 T.pr (fun y =>y.1 == x.1)=ii at *
     have y0:=cell_regrown (oz HX).rx.tb.z0
     have y1:=cell_regrown (oz HX).rx.tb.z1
     have y2:=cell_regrown (oz HX).rx.tb.z2
     have y3:=cell_regrown (oz HX).rx.tb.z3
     have y4:=cell_regrown (oz HX).rx.tb.z4
     have y6:=cell_regrown (oz HX).rx.tb.z6
     have y7:=cell_regrown (oz HX).rx.tb.z7
     have yz:=cell_regrown zz
     have x0:=cell_regrown c0
     have HM2:=kz (fun r b hb w' (hw:Below wr.heap.size wr w') =>oz HM r b hb w' ((oz HX).rx.tb.tv.below hw))
     rw [ea] at HM2
     have m1:za7 T x.1=false:=h1
     clear ea h1 h2
     go_wp2_with fail
     refine wp_region_quiet_below (by kernel_rfl) (by kernel_rfl) ?_
     repeat (go_big_quiet_step (first | exact Calls.regrown_of (oz HM2 _ _ (by assumption) _ (below_regrown wr _ _)) | exact Calls.regrown_of (oz HW2 _ (below_regrown wr _ _))))
     first | refine wpQuiet_nil ?_ | skip
     rintro w' ⟨p,rfl⟩
     have HBq:=kz (below_regrown wr p.d p.os)
     generalize Go.Sort.grow (redrawn wr p.d) p.os=w1 at *
     have HX1:=kz ((oz HX).below (oz HBq))
     clear y0 y1 y2 y3 y4 y6 y7 yz x0 HM HM2 HW HW2 HX zz
     have r0:=(oz HX1).rx.rs.cell 0
     have f0:=(oz HX1).rx.rs.frozen 0
     have r1:=(oz HX1).rx.rs.cell 1
     have f1:=(oz HX1).rx.rs.frozen 1
     have r2:=(oz HX1).rx.rs.cell 2
     have f2:=(oz HX1).rx.rs.frozen 2
     go_wp2_with fail
     exact oz HR _ _ (oz HE) (by decide) _ _ rfl rfl (kz ((oz HX1).put _ _ _))
    | false =>
     have hf:zfc T x=0:=by unfold zfc;rw [h1,h2];rfl
     have HO2:=kz ((oz HO).next (oz HK) hf)
     clear hf HO HK
     have hi:¬ 0≤zd1 T.pr (fun y =>y.1 == x.1):=by
      have:=zcp T.pr (fun y =>y.1 == x.1)
      rw [show T.pr.any (fun y =>y.1 == x.1)=false from h2] at this
      have:=of_decide_eq_true this
      omega
     have HW2:=kz (fun w' (hw:Below wr.heap.size wr w') =>oz HW x.1 w' ((oz HX).rx.tb.tv.below hw))
     rw [ea] at HW2
     generalize zd1 T.pr (fun y =>y.1 == x.1)=ii at *
     have y0:=cell_regrown (oz HX).rx.tb.z0
     have y1:=cell_regrown (oz HX).rx.tb.z1
     have y2:=cell_regrown (oz HX).rx.tb.z2
     have y3:=cell_regrown (oz HX).rx.tb.z3
     have y4:=cell_regrown (oz HX).rx.tb.z4
     have y6:=cell_regrown (oz HX).rx.tb.z6
     have y7:=cell_regrown (oz HX).rx.tb.z7
     have yz:=cell_regrown zz
     have x0:=cell_regrown c0
     have HM2:=kz (fun r b hb w' (hw:Below wr.heap.size wr w') =>oz HM r b hb w' ((oz HX).rx.tb.tv.below hw))
     rw [ea] at HM2
     have m1:za7 T x.1=false:=h1
     clear ea h1 h2
     go_wp2_with fail
     refine wp_region_quiet_below (by kernel_rfl) (by kernel_rfl) ?_
     repeat (go_big_quiet_step (first | exact Calls.regrown_of (oz HM2 _ _ (by assumption) _ (below_regrown wr _ _)) | exact Calls.regrown_of (oz HW2 _ (below_regrown wr _ _))))
     first | refine wpQuiet_nil ?_ | skip
     rintro w' ⟨p,rfl⟩
     have HBq:=kz (below_regrown wr p.d p.os)
     generalize Go.Sort.grow (redrawn wr p.d) p.os=w1 at *
     have HX1:=kz ((oz HX).below (oz HBq))
     clear y0 y1 y2 y3 y4 y6 y7 yz x0 HM HM2 HW HW2 HX zz
     go_wp2_with fail
     exact ⟨⟨k+1,by omega,by first | rfl | go_num,HO2,HX1⟩,by simp [intOf];omega⟩
  ·have k1:¬ (k:Int) < (T.lk.length:Int):=by omega
   have zz:=(oz HX).rx.tb.z5
   have HE:=kz ((oz HO).ok (by omega) 6)
   clear HO HR
   go_wp2_with fail
   exact oz HN (oz HE) _ _ (zau rfl) HX
noncomputable def uaTc:Code:=match Tryz.f59.body with
 | some (.seq _ (.seq _ (.seq _ (.seq c _)))) =>c
 | _ =>.skip
theorem znP (T:TV) (hT:TabB T) (A:TbA) (W w:World) (hO:zav T)  (h:RxS W w T A) (U:Nat→Value) {Q:Exit→Act→World→Prop}
  (hN:zaf 5 T.fo mp0 (zlZ T)=(0,0,0)→∀ (a:Act) (wn:World),(∃ U',a=zdZ W U')→Hz (RxT W w wn T A)→Q .normal a wn)
  (hR:∀ (y k:Int),zaf 5 T.fo mp0 (zlZ T)=(y,5,k)→y≠0→∀ (a:Act) (wn:World),a.tmps.getD 2 undef=.pointer (some ⟨W.heap.size+1,0,none⟩)→a.defers=[]→Hz (RxD W wn (y,5,k))→Q .ret a wn) :
  Code.wp Tryz.prog uaTc Q (zdZ W U) w:=by
 have HN:=kz hN
 have HR:=kz hR
 have HX:=kz (RxT.refl h)
 have hln:=hT.n4
 have HP:=kz (fun r b (hb:zaN T r=b) w (hv:TbV w T (.agg #[.slice A.a0 T.sc.length A.c0,.slice A.a1 T.co.length A.c1,.slice A.a2 T.ma.length A.c2,.slice A.a3 T.pr.length A.c3,.slice A.a4 T.fo.length A.c4,.slice A.a5 T.lk.length A.c5,.slice A.a6 T.dr.length A.c6,.slice A.a7 T.al.length A.c7])) =>by have:=zgo T hT _ r w hv;rwa [hb] at this)
 have HF:=kz (fun r a c w (hv:RowC w w.heap.size a (zbl T.lk)) =>zb2 T.lk hT.n5 a c r w hv)
 have HZ:=kz (fun x (hx:x ∈ T.fo) =>And.intro (hT.z4 x hx) (zff (hO.f4 x hx).2).1)
 clear hN hR h
 delta uaTc Tryz.f59 zdZ at *
 dsimp only
 go_wp2_with fail
 go_loopw [5] (fun i wr => ∃ k:Nat,k≤T.fo.length∧i=.int .i64 k∧Hz (OkTo T.fo mp0 (zlZ T) k)∧Hz (RxT W w wr T A)) (fun i _ =>T.fo.length - (intOf i).toNat)
 case atStart =>exact ⟨0,Nat.zero_le _,rfl,kz (OkTo.zero _ _ _),HX⟩
 case round =>
  clear HX
  obtain ⟨k,hk,rfl,HO,HX⟩:=hrel
  by_cases hkn:k < T.fo.length
  ·obtain ⟨x,hx⟩:∃ x,T.fo[k]?=some x:=⟨_,List.getElem?_eq_getElem hkn⟩
   obtain ⟨g,o,ea,hg,c0,c1⟩:=zlH (oz HX).rx.tb.ti.r4 hx
   have HK:=kz hx
   have HG:=kz hg
   have k1:(k:Int) < (T.fo.length:Int):=by omega
   have k2:((k:Nat):Int).toNat=k:=by omega
   have zz:=(oz HX).rx.tb.z4
   rw [ea] at zz
   clear hg hx
   have HRU:=kz (zck x.2 (oz HZ x (List.mem_of_getElem? (oz HK))).1 wr)
   have HOK:=kz (oz HZ x (List.mem_of_getElem? (oz HK))).2
   have HLN:Hz ((zak x.2).length≤1048576):=kz (by have:=(oz HZ x (List.mem_of_getElem? (oz HK))).1;rw [zbD];have:=zap x.2;omega)
   have HFX:Hz (zlZ T x=if (zak x.2).any (fun r => !zaN T r) then 35 else 0):=kz rfl
   clear ea
   go_wp2_with fail
   refine (oz HRU).mono ?_
   rintro e w5 ⟨hyes,_,hb⟩
   obtain ⟨v,rfl,ho⟩:=hyes (oz HOK)
   obtain ⟨p,c,rfl,hRn⟩:=zfq ho
   have HRn:=kz hRn
   have HX5:=kz ((oz HX).below hb)
   have HX0:=kz (RxT.refl (oz HX5).rx)
   clear hyes hb HRU HOK ho hRn c0 c1 zz HX HZ
   generalize zak x.2=l at *
   have hll:=oz HLN
   clear HLN
   go_wp2_with fail
   go_loopw [8] (fun jv wi => ∃ m:Nat,m≤l.length∧jv=.int .i64 m∧Hz (NoneB l (fun r => !zaN T r) m)∧Hz (RxT W w5 wi T A)) (fun jv _ =>l.length - (intOf jv).toNat)
   case atStart =>exact ⟨0,Nat.zero_le _,rfl,kz (NoneB.zero _ _),HX0⟩
   case round =>
    clear HX0
    obtain ⟨m,hm,rfl,HN2,HX6⟩:=hrel
    by_cases hml:m < l.length
    ·obtain ⟨z,hz⟩:∃ z,l[m]?=some z:=⟨_,List.getElem?_eq_getElem hml⟩
     have HKz:=kz hz
     obtain ⟨g2,e2,hg2,d0⟩:=((oz HRn).below (oz HX6).fr) m z hz
     subst e2
     have m1:(m:Int) < (l.length:Int):=by omega
     have m2:((m:Nat):Int).toNat=m:=by omega
     clear hg2 hz
     cases h1:zaN T z with
     | false =>
      have hf:zlZ T x=35:=by rw [oz HFX,zdV (oz HKz) (by rw [h1];rfl)];rfl
      have HE:=kz ((oz HO).bad (oz HK) 5 (by rw [hf];decide))
      rw [hf] at HE
      clear hf HO HK HN2 HKz HFX
      have y0:=cell_regrown (oz HX6).rx.tb.z0
      have y1:=cell_regrown (oz HX6).rx.tb.z1
      have y2:=cell_regrown (oz HX6).rx.tb.z2
      have y3:=cell_regrown (oz HX6).rx.tb.z3
      have y4:=cell_regrown (oz HX6).rx.tb.z4
      have y5:=cell_regrown (oz HX6).rx.tb.z5
      have y6:=cell_regrown (oz HX6).rx.tb.z6
      have y7:=cell_regrown (oz HX6).rx.tb.z7
      have yd:=cell_regrown d0
      have n1:zaN T z=false:=h1
      clear h1
      go_wp2_with fail
      refine wp_region_quiet_below (by kernel_rfl) (by kernel_rfl) ?_
      repeat (go_big_quiet_step (exact Calls.regrown_of (oz HP _ _ (by assumption) _ ((oz HX6).rx.tb.tv.below (below_regrown _ _ _)))))
      first | refine wpQuiet_nil ?_ | skip
      rintro w' ⟨p,rfl⟩
      have HBq:=kz (below_regrown wr p.d p.os)
      generalize Go.Sort.grow (redrawn wr p.d) p.os=w1 at *
      have HX7:=kz ((oz HX5).chain ((oz HX6).below (oz HBq)))
      clear y0 y1 y2 y3 y4 y5 y6 y7 yd d0 HP HF HX6 HX5
      have r0:=(oz HX7).rx.rs.cell 0
      have f0:=(oz HX7).rx.rs.frozen 0
      have r1:=(oz HX7).rx.rs.cell 1
      have f1:=(oz HX7).rx.rs.frozen 1
      have r2:=(oz HX7).rx.rs.cell 2
      have f2:=(oz HX7).rx.rs.frozen 2
      go_wp2_with fail
      exact oz HR _ _ (oz HE) (by decide) _ _ rfl rfl (kz ((oz HX7).put _ _ _))
     | true =>
      have HN3:=kz ((oz HN2).next (oz HKz) (by rw [h1];rfl))
      clear HN2 HKz
      have y0:=cell_regrown (oz HX6).rx.tb.z0
      have y1:=cell_regrown (oz HX6).rx.tb.z1
      have y2:=cell_regrown (oz HX6).rx.tb.z2
      have y3:=cell_regrown (oz HX6).rx.tb.z3
      have y4:=cell_regrown (oz HX6).rx.tb.z4
      have y5:=cell_regrown (oz HX6).rx.tb.z5
      have y6:=cell_regrown (oz HX6).rx.tb.z6
      have y7:=cell_regrown (oz HX6).rx.tb.z7
      have yd:=cell_regrown d0
      have n1:zaN T z=true:=h1
      clear h1
      go_wp2_with fail
      refine wp_region_quiet_below (by kernel_rfl) (by kernel_rfl) ?_
      repeat (go_big_quiet_step (exact Calls.regrown_of (oz HP _ _ (by assumption) _ ((oz HX6).rx.tb.tv.below (below_regrown _ _ _)))))
      first | refine wpQuiet_nil ?_ | skip
      rintro w' ⟨p,rfl⟩
      have HBq:=kz (below_regrown wr p.d p.os)
      generalize Go.Sort.grow (redrawn wr p.d) p.os=w1 at *
      have HX7:=kz ((oz HX6).below (oz HBq))
      clear y0 y1 y2 y3 y4 y5 y6 y7 yd d0 HP HF HX6
      go_wp2_with fail
      exact ⟨⟨m+1,by omega,by first | rfl | go_num,HN3,HX7⟩,by simp [intOf];omega⟩
    ·have m1:¬ (m:Int) < (l.length:Int):=by omega
     have hf:zlZ T x=0:=by rw [oz HFX,(oz HN2).any (by omega)];rfl
     have HO2:=kz ((oz HO).next (oz HK) hf)
     have HX7:=kz ((oz HX5).chain (oz HX6))
     clear hf HO HK HN2 HFX
     go_wp2_with fail
     exact ⟨⟨k+1,by omega,by first | rfl | go_num,HO2,HX7⟩,by simp [intOf];omega⟩
  ·have k1:¬ (k:Int) < (T.fo.length:Int):=by omega
   have zz:=(oz HX).rx.tb.z4
   have HE:=kz ((oz HO).ok (by omega) 5)
   clear HO HR
   go_wp2_with fail
   exact oz HN (oz HE) _ _ (zau rfl) HX
noncomputable def uaTd:Code:=match Tryz.f59.body with
 | some (.seq _ (.seq _ (.seq _ (.seq _ (.seq c _))))) =>c
 | _ =>.skip
theorem znO (T:TV) (hT:TabB T) (A:TbA) (W w:World) (hO:zav T)  (h:RxS W w T A) (U:Nat→Value) {Q:Exit→Act→World→Prop}
  (hN:zaf 6 T.lk mp0 (zlG T)=(0,0,0)→∀ (a:Act) (wn:World),(∃ U',a=zdZ W U')→Hz (RxT W w wn T A)→Q .normal a wn)
  (hR:∀ (y k:Int),zaf 6 T.lk mp0 (zlG T)=(y,6,k)→y≠0→∀ (a:Act) (wn:World),a.tmps.getD 2 undef=.pointer (some ⟨W.heap.size+1,0,none⟩)→a.defers=[]→Hz (RxD W wn (y,6,k))→Q .ret a wn) :
  Code.wp Tryz.prog uaTd Q (zdZ W U) w:=by
 have HN:=kz hN
 have HR:=kz hR
 have HX:=kz (RxT.refl h)
 have hln:=hT.n5
 have HP:=kz (fun r b (hb:zaN T r=b) w (hv:TbV w T (.agg #[.slice A.a0 T.sc.length A.c0,.slice A.a1 T.co.length A.c1,.slice A.a2 T.ma.length A.c2,.slice A.a3 T.pr.length A.c3,.slice A.a4 T.fo.length A.c4,.slice A.a5 T.lk.length A.c5,.slice A.a6 T.dr.length A.c6,.slice A.a7 T.al.length A.c7])) =>by have:=zgo T hT _ r w hv;rwa [hb] at this)
 have HF:=kz (fun r a c w (hv:RowC w w.heap.size a (zbl T.lk)) =>zb2 T.lk hT.n5 a c r w hv)
 have HZ:=kz (fun x (hx:x ∈ T.lk) =>And.intro (hT.z5 x hx) (zff (hO.f5 x hx).2).1)
 clear hN hR h
 delta uaTd Tryz.f59 zdZ at *
 dsimp only
 go_wp2_with fail
 go_loopw [9] (fun i wr => ∃ k:Nat,k≤T.lk.length∧i=.int .i64 k∧Hz (OkTo T.lk mp0 (zlG T) k)∧Hz (RxT W w wr T A)) (fun i _ =>T.lk.length - (intOf i).toNat)
 case atStart =>exact ⟨0,Nat.zero_le _,rfl,kz (OkTo.zero _ _ _),HX⟩
 case round =>
  clear HX
  obtain ⟨k,hk,rfl,HO,HX⟩:=hrel
  by_cases hkn:k < T.lk.length
  ·obtain ⟨x,hx⟩:∃ x,T.lk[k]?=some x:=⟨_,List.getElem?_eq_getElem hkn⟩
   obtain ⟨g,o,ea,hg,c0,c1⟩:=zlH (oz HX).rx.tb.ti.r5 hx
   have HK:=kz hx
   have HG:=kz hg
   have k1:(k:Int) < (T.lk.length:Int):=by omega
   have k2:((k:Nat):Int).toNat=k:=by omega
   have zz:=(oz HX).rx.tb.z5
   rw [ea] at zz
   clear hg hx
   have HRU:=kz (zck x.2 (oz HZ x (List.mem_of_getElem? (oz HK))).1 wr)
   have HOK:=kz (oz HZ x (List.mem_of_getElem? (oz HK))).2
   have HLN:Hz ((zak x.2).length≤1048576):=kz (by have:=(oz HZ x (List.mem_of_getElem? (oz HK))).1;rw [zbD];have:=zap x.2;omega)
   have HFX:Hz (zlG T x=if (zak x.2).any (fun r => !zaN T r || zdN T.lk r) then 36 else 0):=kz rfl
   clear ea
   go_wp2_with fail
   refine (oz HRU).mono ?_
   rintro e w5 ⟨hyes,_,hb⟩
   obtain ⟨v,rfl,ho⟩:=hyes (oz HOK)
   obtain ⟨p,c,rfl,hRn⟩:=zfq ho
   have HRn:=kz hRn
   have HX5:=kz ((oz HX).below hb)
   have HX0:=kz (RxT.refl (oz HX5).rx)
   clear hyes hb HRU HOK ho hRn c0 c1 zz HX HZ
   generalize zak x.2=l at *
   have hll:=oz HLN
   clear HLN
   go_wp2_with fail
   go_loopw [12] (fun jv wi => ∃ m:Nat,m≤l.length∧jv=.int .i64 m∧Hz (NoneB l (fun r => !zaN T r || zdN T.lk r) m)∧Hz (RxT W w5 wi T A)) (fun jv _ =>l.length - (intOf jv).toNat)
   case atStart =>exact ⟨0,Nat.zero_le _,rfl,kz (NoneB.zero _ _),HX0⟩
   case round =>
    clear HX0
    obtain ⟨m,hm,rfl,HN2,HX6⟩:=hrel
    by_cases hml:m < l.length
    ·obtain ⟨z,hz⟩:∃ z,l[m]?=some z:=⟨_,List.getElem?_eq_getElem hml⟩
     have HKz:=kz hz
     obtain ⟨g2,e2,hg2,d0⟩:=((oz HRn).below (oz HX6).fr) m z hz
     subst e2
     have m1:(m:Int) < (l.length:Int):=by omega
     have m2:((m:Nat):Int).toNat=m:=by omega
     clear hg2 hz
     cases h1:zaN T z with
     | false =>
      have hf:zlG T x=36:=by rw [oz HFX,zdV (oz HKz) (by rw [h1];rfl)];rfl
      have HE:=kz ((oz HO).bad (oz HK) 6 (by rw [hf];decide))
      rw [hf] at HE
      clear hf HO HK HN2 HKz HFX
      have y0:=cell_regrown (oz HX6).rx.tb.z0
      have y1:=cell_regrown (oz HX6).rx.tb.z1
      have y2:=cell_regrown (oz HX6).rx.tb.z2
      have y3:=cell_regrown (oz HX6).rx.tb.z3
      have y4:=cell_regrown (oz HX6).rx.tb.z4
      have y5:=cell_regrown (oz HX6).rx.tb.z5
      have y6:=cell_regrown (oz HX6).rx.tb.z6
      have y7:=cell_regrown (oz HX6).rx.tb.z7
      have yd:=cell_regrown d0
      have n1:zaN T z=false:=h1
      clear h1
      go_wp2_with fail
      refine wp_region_quiet_below (by kernel_rfl) (by kernel_rfl) ?_
      repeat (go_big_quiet_step (exact Calls.regrown_of (oz HP _ _ (by assumption) _ ((oz HX6).rx.tb.tv.below (below_regrown _ _ _)))))
      first | refine wpQuiet_nil ?_ | skip
      rintro w' ⟨p,rfl⟩
      have HBq:=kz (below_regrown wr p.d p.os)
      generalize Go.Sort.grow (redrawn wr p.d) p.os=w1 at *
      have HX7:=kz ((oz HX5).chain ((oz HX6).below (oz HBq)))
      clear y0 y1 y2 y3 y4 y5 y6 y7 yd d0 HP HF HX6 HX5
      have r0:=(oz HX7).rx.rs.cell 0
      have f0:=(oz HX7).rx.rs.frozen 0
      have r1:=(oz HX7).rx.rs.cell 1
      have f1:=(oz HX7).rx.rs.frozen 1
      have r2:=(oz HX7).rx.rs.cell 2
      have f2:=(oz HX7).rx.rs.frozen 2
      go_wp2_with fail
      exact oz HR _ _ (oz HE) (by decide) _ _ rfl rfl (kz ((oz HX7).put _ _ _))
     | true =>
      cases h2:zdN T.lk z with
      | true =>
       have hf:zlG T x=36:=by rw [oz HFX,zdV (oz HKz) (by rw [h1,h2];rfl)];rfl
       have HE:=kz ((oz HO).bad (oz HK) 6 (by rw [hf];decide))
       rw [hf] at HE
       clear hf HO HK HN2 HKz HFX
       have y0:=cell_regrown (oz HX6).rx.tb.z0
       have y1:=cell_regrown (oz HX6).rx.tb.z1
       have y2:=cell_regrown (oz HX6).rx.tb.z2
       have y3:=cell_regrown (oz HX6).rx.tb.z3
       have y4:=cell_regrown (oz HX6).rx.tb.z4
       have y5:=cell_regrown (oz HX6).rx.tb.z5
       have y6:=cell_regrown (oz HX6).rx.tb.z6
       have y7:=cell_regrown (oz HX6).rx.tb.z7
       have yd:=cell_regrown d0
       have n1:zaN T z=true:=h1
       have hi:0≤zd1 T.lk (fun y =>y.1 == z):=by
        have:=zcp T.lk (fun y =>y.1 == z)
        rw [show T.lk.any (fun y =>y.1 == z)=true from h2] at this
        have:=of_decide_eq_false this
        omega
       have HF2:=kz (fun w' (hw:Below wr.heap.size wr w') =>oz HF z A.a5 A.c5 w' ((oz HX6).rx.tb.ti.r5.below hw hw.size))
       generalize zd1 T.lk (fun y =>y.1 == z)=ii at *
       clear h1 h2
       go_wp2_with fail
       refine wp_region_quiet_below (by kernel_rfl) (by kernel_rfl) ?_
       repeat (go_big_quiet_step (first | exact Calls.regrown_of (oz HP _ _ (by assumption) _ ((oz HX6).rx.tb.tv.below (below_regrown _ _ _))) | exact Calls.regrown_of ((oz HF2 _ (below_regrown _ _ _)).mono (fun e w2 h =>⟨h.1,h.2 ▸ Below.refl _ _⟩))))
       first | refine wpQuiet_nil ?_ | skip
       rintro w' ⟨p,rfl⟩
       have HBq:=kz (below_regrown wr p.d p.os)
       generalize Go.Sort.grow (redrawn wr p.d) p.os=w1 at *
       have HX7:=kz ((oz HX5).chain ((oz HX6).below (oz HBq)))
       clear y0 y1 y2 y3 y4 y5 y6 y7 yd d0 HP HF HX6 HX5 HF2
       have r0:=(oz HX7).rx.rs.cell 0
       have f0:=(oz HX7).rx.rs.frozen 0
       have r1:=(oz HX7).rx.rs.cell 1
       have f1:=(oz HX7).rx.rs.frozen 1
       have r2:=(oz HX7).rx.rs.cell 2
       have f2:=(oz HX7).rx.rs.frozen 2
       go_wp2_with fail
       exact oz HR _ _ (oz HE) (by decide) _ _ rfl rfl (kz ((oz HX7).put _ _ _))
      | false =>
       have HN3:=kz ((oz HN2).next (oz HKz) (by rw [h1,h2];rfl))
       clear HN2 HKz
       have y0:=cell_regrown (oz HX6).rx.tb.z0
       have y1:=cell_regrown (oz HX6).rx.tb.z1
       have y2:=cell_regrown (oz HX6).rx.tb.z2
       have y3:=cell_regrown (oz HX6).rx.tb.z3
       have y4:=cell_regrown (oz HX6).rx.tb.z4
       have y5:=cell_regrown (oz HX6).rx.tb.z5
       have y6:=cell_regrown (oz HX6).rx.tb.z6
       have y7:=cell_regrown (oz HX6).rx.tb.z7
       have yd:=cell_regrown d0
       have n1:zaN T z=true:=h1
       have hi:¬ 0≤zd1 T.lk (fun y =>y.1 == z):=by
        have:=zcp T.lk (fun y =>y.1 == z)
        rw [show T.lk.any (fun y =>y.1 == z)=false from h2] at this
        have:=of_decide_eq_true this
        omega
       have HF2:=kz (fun w' (hw:Below wr.heap.size wr w') =>oz HF z A.a5 A.c5 w' ((oz HX6).rx.tb.ti.r5.below hw hw.size))
       generalize zd1 T.lk (fun y =>y.1 == z)=ii at *
       clear h1 h2
       go_wp2_with fail
       refine wp_region_quiet_below (by kernel_rfl) (by kernel_rfl) ?_
       repeat (go_big_quiet_step (first | exact Calls.regrown_of (oz HP _ _ (by assumption) _ ((oz HX6).rx.tb.tv.below (below_regrown _ _ _))) | exact Calls.regrown_of ((oz HF2 _ (below_regrown _ _ _)).mono (fun e w2 h =>⟨h.1,h.2 ▸ Below.refl _ _⟩))))
       first | refine wpQuiet_nil ?_ | skip
       rintro w' ⟨p,rfl⟩
       have HBq:=kz (below_regrown wr p.d p.os)
       generalize Go.Sort.grow (redrawn wr p.d) p.os=w1 at *
       have HX7:=kz ((oz HX6).below (oz HBq))
       clear y0 y1 y2 y3 y4 y5 y6 y7 yd d0 HP HF HX6 HF2
       go_wp2_with fail
       exact ⟨⟨m+1,by omega,by first | rfl | go_num,HN3,HX7⟩,by simp [intOf];omega⟩
    ·have m1:¬ (m:Int) < (l.length:Int):=by omega
     have hf:zlG T x=0:=by rw [oz HFX,(oz HN2).any (by omega)];rfl
     have HO2:=kz ((oz HO).next (oz HK) hf)
     have HX7:=kz ((oz HX5).chain (oz HX6))
     clear hf HO HK HN2 HFX
     go_wp2_with fail
     exact ⟨⟨k+1,by omega,by first | rfl | go_num,HO2,HX7⟩,by simp [intOf];omega⟩
  ·have k1:¬ (k:Int) < (T.lk.length:Int):=by omega
   have zz:=(oz HX).rx.tb.z5
   have HE:=kz ((oz HO).ok (by omega) 6)
   clear HO HR
   go_wp2_with fail
   exact oz HN (oz HE) _ _ (zau rfl) HX
theorem zpw (T:TV):orW [zca T,zhI T]=orW [orW [zaf 5 T.fo mp0 (zfc T),zaf 6 T.lk mp0 (zfc T)],orW [zaf 5 T.fo mp0 (zlZ T),zaf 6 T.lk mp0 (zlG T)]]:=rfl
theorem zoG (a b:List (Int × Int × Int)):orW [orW a,orW b]=orW (a++b):=by
 rw [za3]
 by_cases h:(orW a).1=0
 ·rw [if_pos h,zad h]
  by_cases h2:(orW b).1=0
  ·rw [zad h2];exact (zbu b h2).symm
  ·rw [zai h2]
 ·rw [if_neg h,zai h]
theorem zon (T:TV):orW [zca T,zhI T]=orW [zaf 5 T.fo mp0 (zfc T),zaf 6 T.lk mp0 (zfc T),zaf 5 T.fo mp0 (zlZ T),zaf 6 T.lk mp0 (zlG T)]:=(zpw T).trans (zoG _ _)
theorem zmp (T:TV) (hT:TabB T) (hO:zav T) (v:Value) (W:World) (hv:TbV W T v) :
  Calls Tryz.prog 59 #[v] W fun e w' =>e=.returned (wrV (orW [zaf 5 T.fo mp0 (zfc T),zaf 6 T.lk mp0 (zfc T),zaf 5 T.fo mp0 (zlZ T),zaf 6 T.lk mp0 (zlG T)]))∧Below W.heap.size W w':=by
 obtain ⟨A,rfl,hA⟩:=hv
 have HX:=kz (RxS.start hA)
 have HT:=kz hT
 have HO:=kz hO
 have HV:∃ mb,Hz (orW [zaf 5 T.fo mp0 (zfc T),zaf 6 T.lk mp0 (zfc T),zaf 5 T.fo mp0 (zlZ T),zaf 6 T.lk mp0 (zlG T)]=mb):=⟨_,kz rfl⟩
 obtain ⟨mb,HV⟩:=HV
 rw [show orW [zaf 5 T.fo mp0 (zfc T),zaf 6 T.lk mp0 (zfc T),zaf 5 T.fo mp0 (zlZ T),zaf 6 T.lk mp0 (zlG T)]=mb from oz HV]
 clear hA hT hO
 go_enter Tryz.func59,Tryz.ntmps59
 refine wp_seq_k (fun K0 hK0 =>?_)
 have HK0:=kz hK0
 clear hK0
 go_wp2_with fail
 refine oz HK0 _ _ ?_
 clear HK0 K0
 generalize (W.alloc (.cells #[.slice A.a0 T.sc.length A.c0,.slice A.a1 T.co.length A.c1,.slice A.a2 T.ma.length A.c2,.slice A.a3 T.pr.length A.c3,.slice A.a4 T.fo.length A.c4,.slice A.a5 T.lk.length A.c5,.slice A.a6 T.dr.length A.c6,.slice A.a7 T.al.length A.c7] 28)).alloc (.cells #[.int .i64 0,.int .i64 0,.int .i64 0] 76)=w0 at *
 have hR:∀ (y l k:Int),mb=(y,l,k)→∀ (a:Act) (wn:World),a.tmps.getD 2 undef=.pointer (some ⟨W.heap.size+1,0,none⟩)→a.defers=[]→Hz (RxD W wn (y,l,k))→bodyPost Tryz.prog Tryz.f59 (fun e w' =>e=.returned (wrV mb)∧Below W.heap.size W w') .ret a wn:=fun y l k e a wn h1 h2 h3 =>by
  subst e
  exact bodyPost_ret (v:=wrV (y,l,k)) (zb8 Tryz.results59 h1 (oz h3).rs rfl) h2 ⟨rfl,(oz h3).bl⟩
 refine wp_seq_k (fun K1 hK1 =>?_)
 refine zaL (F:=zdZ W) (zau rfl) (fun U =>?_)
 refine znR T (oz HT) A W _ (oz HX) U ?_ ?_
 rotate_left
 ·intro y k e hy a wn h1 h2 h3
  exact hR y _ k (by rw [← oz HV,zai (by rw [e];exact hy),e]) a wn h1 h2 h3
 intro E1 a w1 ⟨U1,hU⟩ hx
 subst hU
 have HX1:=kz (oz hx).rx
 clear hx
 refine hK1 _ _ ?_
 clear hK1 K1
 refine wp_seq_k (fun K2 hK2 =>?_)
 refine zaL (F:=zdZ W) ⟨U1,rfl⟩ (fun U =>?_)
 refine znQ T (oz HT) A W _ (oz HX1) U ?_ ?_
 rotate_left
 ·intro y k e hy a wn h1 h2 h3
  exact hR y _ k (by rw [← oz HV,zad (by rw [E1]),zai (by rw [e];exact hy),e]) a wn h1 h2 h3
 intro E2 a w2 ⟨U2,hU⟩ hx
 subst hU
 have HX2:=kz (oz hx).rx
 clear hx
 refine hK2 _ _ ?_
 clear hK2 K2
 refine wp_seq_k (fun K3 hK3 =>?_)
 refine zaL (F:=zdZ W) ⟨U2,rfl⟩ (fun U =>?_)
 refine znP T (oz HT) A W _ (oz HO) (oz HX2) U ?_ ?_
 rotate_left
 ·intro y k e hy a wn h1 h2 h3
  exact hR y _ k (by rw [← oz HV,zad (by rw [E1]),zad (by rw [E2]),zai (by rw [e];exact hy),e]) a wn h1 h2 h3
 intro E3 a w3 ⟨U3,hU⟩ hx
 subst hU
 have HX3:=kz (oz hx).rx
 clear hx
 refine hK3 _ _ ?_
 clear hK3 K3
 refine wp_seq_k (fun K4 hK4 =>?_)
 refine zaL (F:=zdZ W) ⟨U3,rfl⟩ (fun U =>?_)
 refine znO T (oz HT) A W _ (oz HO) (oz HX3) U ?_ ?_
 rotate_left
 ·intro y k e hy a wn h1 h2 h3
  exact hR y _ k (by rw [← oz HV,zad (by rw [E1]),zad (by rw [E2]),zad (by rw [E3]),zai (by rw [e];exact hy),e]) a wn h1 h2 h3
 intro E4 a w4 ⟨U4,hU⟩ hx
 subst hU
 have HX4:=kz (oz hx).rx
 clear hx
 refine hK4 _ _ ?_
 clear hK4 K4
 have hm:mb=(0,0,0):=by
  rw [← oz HV,zad (by rw [E1]),zad (by rw [E2]),zad (by rw [E3]),zad (by rw [E4])]
  rfl
 subst hm
 clear hR HV E1 E2 E3 E4
 refine zaL (F:=zdZ W) ⟨U4,rfl⟩ (fun U =>?_)
 unfold zdZ
 have r0:=(oz HX4).rs.cell 0
 have f0:=(oz HX4).rs.frozen 0
 have r1:=(oz HX4).rs.cell 1
 have f1:=(oz HX4).rs.frozen 1
 have r2:=(oz HX4).rs.cell 2
 have f2:=(oz HX4).rs.frozen 2
 go_wp2_with fail
 exact bodyPost_ret (v:=wrV (0,0,0)) (zb8 Tryz.results59 rfl (zcf (oz HX4).rs _ _ _) rfl) rfl ⟨rfl,((oz HX4).put (0,0,0)).bl⟩
end Go.Proofs.YtmemedpoaocdkaaGreat
