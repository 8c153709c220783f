/- Texts of this claim, one behind the other. -/
import Derived.Test.YthchopdfmchpkaaGreatM7
namespace Go.Proofs.YthchopdfmchpkaaGreat
open Go.RowKit Go.Shelf
set_option linter.unusedVariables false
set_option maxRecDepth 100000
set_option maxHeartbeats 8000000
def YK (T:TV) (x:Int × ByteArray):Int:=if yJ T x.1 || XU T x.1 then 31 else 0
def zbS (T:TV) (x:Int × ByteArray):Int:=if (zk x.2).any (fun r => !zO T r) then 35 else 0
def za4 (T:TV) (x:Int × ByteArray):Int:=if (zk x.2).any (fun r => !zO T r || Yd T.lk r) then 36 else 0
theorem RxT.chain {W w0 w1 w2:World} {T:TV} {A:TbA} (h:RxT W w0 w1 T A) (k:RxT W w1 w2 T A):RxT W w0 w2 T A:=⟨k.rx,h.fr.trans (k.fr.mono h.fr.size)⟩
def Yp (W:World) (U:Nat→Value):Act:={ tmps:=#[U 0,.pointer (some ⟨W.heap.size,0,none⟩),.pointer (some ⟨W.heap.size+1,0,none⟩),U 3,U 4,U 5,U 6,U 7,U 8,U 9,U 10,U 11,U 12,U 13,U 14,U 15,U 16,U 17,U 18,U 19,U 20,U 21,U 22,U 23,U 24,U 25,U 26,U 27,U 28,U 29,U 30,U 31,U 32,U 33,U 34,U 35,U 36,U 37,U 38,U 39,U 40,U 41,U 42,U 43,U 44,U 45,U 46,U 47,U 48,U 49,U 50,U 51,U 52,U 53,U 54,U 55,U 56,U 57,U 58,U 59,U 60,U 61,U 62,U 63,U 64,U 65,U 66,U 67,U 68,U 69,U 70,U 71,U 72,U 73,U 74,U 75,U 76,U 77,U 78,U 79,U 80,U 81,U 82,U 83,U 84,U 85,U 86,U 87,U 88,U 89,U 90,U 91,U 92,U 93,U 94,U 95,U 96,U 97,U 98,U 99,U 100,U 101,U 102,U 103,U 104,U 105,U 106,U 107,U 108,U 109,U 110,U 111,U 112,U 113,U 114,U 115,U 116,U 117,U 118,U 119,U 120,U 121,U 122,U 123,U 124,U 125,U 126,U 127,U 128,U 129,U 130,U 131,U 132,U 133,U 134,U 135,U 136,U 137,U 138,U 139,U 140,U 141,U 142,U 143],defers := [] }
noncomputable def uaTa:Code:=match Tryz.f66.body with
 | some (.seq _ (.seq c _)) =>c
 | _ =>.skip
theorem zgU (T:TV) (hT:TabB T) (A:TbA) (W w:World)  (h:RxS W w T A) (U:Nat→Value) {Q:Exit→Act→World→Prop}
  (hN:zg 5 T.fo mp0 (YK T)=(0,0,0)→∀ (a:Act) (wn:World),(∃ U',a=Yp W U')→Hz (RxT W w wn T A)→Q .normal a wn)
  (hR:∀ (y k:Int),zg 5 T.fo mp0 (YK T)=(y,5,k)→y≠0→∀ (a:Act) (wn:World),a.tmps.getD 2 undef=.pointer (some ⟨W.heap.size+1,0,none⟩)→a.defers=[]→Hz (RxD W wn (y,5,k))→Q .ret a wn) :
  Code.wp Tryz.prog uaTa Q (Yp W U) w:=by
 have HN:=kz hN;have HR:=kz hR;have HX:=kz (RxT.refl h);have hln:=hT.n4;have HM:=kz (fun r b (hb:yJ T r=b) w (hv:TbV w T (.agg #[.slice A.a0 T.sc.length A.c0,.slice A.a1 T.co.length A.c1,.slice A.a2 T.ma.length A.c2,.slice A.a3 T.pr.length A.c3,.slice A.a4 T.fo.length A.c4,.slice A.a5 T.lk.length A.c5,.slice A.a6 T.dr.length A.c6,.slice A.a7 T.al.length A.c7])) =>by have:=ZG T hT.n2 _ r w hv;rwa [hb] at this);have HW:=kz (fun r w (hv:TbV w T (.agg #[.slice A.a0 T.sc.length A.c0,.slice A.a1 T.co.length A.c1,.slice A.a2 T.ma.length A.c2,.slice A.a3 T.pr.length A.c3,.slice A.a4 T.fo.length A.c4,.slice A.a5 T.lk.length A.c5,.slice A.a6 T.dr.length A.c6,.slice A.a7 T.al.length A.c7])) =>YQ T hT.n3 _ r w hv);clear hN hR h
 delta uaTa Tryz.f66 Yp at *
 dsimp only;go_wp2_with fail
 go_loopw [3] (fun i wr => ∃ k:Nat,k≤T.fo.length∧i=.int .i64 k∧Hz (OkTo T.fo mp0 (YK T) k)∧Hz (RxT W w wr T A)) (fun i _ =>T.fo.length - (intOf i).toNat)
 case atStart =>exact ⟨0,Zn _,rfl,kz (OkTo.zero _ _ _),HX⟩
 case round =>
  clear HX;obtain ⟨k,hk,rfl,HO,HX⟩:=hrel;by_cases hkn:k < T.fo.length
  ·obtain ⟨x,hx⟩:∃ x,T.fo[k]?=some x:=⟨_,qR hkn⟩;obtain ⟨g,o,ea,hg,c0,c1⟩:=za8 (oz HX).rx.tb.ti.r4 hx;have HK:=kz hx;have HG:=kz hg;have k1:(k:Int) < (T.fo.length:Int):=by omega
   have k2:=Zp k
   have zz:=(oz HX).rx.tb.z4;rw [ea] at zz;clear hg hx;cases h1:yJ T x.1 with
   | true =>
    have hf:YK T x=31:=by unfold YK;rw [h1];rfl
    have HE:=kz ((oz HO).bad (oz HK) 5 (by rw [hf];decide));rw [hf] at HE;clear hf HO HK;have y0:=zP (oz HX).rx.tb.z0;have y1:=zP (oz HX).rx.tb.z1;have y2:=zP (oz HX).rx.tb.z2;have y3:=zP (oz HX).rx.tb.z3;have y5:=zP (oz HX).rx.tb.z5;have y6:=zP (oz HX).rx.tb.z6;have y7:=zP (oz HX).rx.tb.z7;have yz:=zP zz;have x0:=zP c0;have HM2:=kz (fun r b hb w' (hw:Below wr.heap.size wr w') =>oz HM r b hb w' ((oz HX).rx.tb.tv.below hw));rw [ea] at HM2;have m1:yJ T x.1=true:=h1;clear ea h1;go_wp2_with fail
    refine JG (by kernel_rfl) (by kernel_rfl) ?_;repeat (go_big_quiet_step (exact QH (oz HM2 _ _ (by assumption) _ (Xu wr _ _))))
    first | refine wpQuiet_nil ?_ | skip
    rintro w' ⟨p,rfl⟩;have HBq:=kz (Xu wr p.d p.os);generalize Go.Sort.grow (redrawn wr p.d) p.os=w1 at *;have HX1:=kz ((oz HX).below (oz HBq));clear y0 y1 y2 y3 y5 y6 y7 yz x0 HM HM2 HW HX zz;have r0:=(oz HX1).rx.rs.cell 0;have f0:=(oz HX1).rx.rs.frozen 0;have r1:=(oz HX1).rx.rs.cell 1;have f1:=(oz HX1).rx.rs.frozen 1;have r2:=(oz HX1).rx.rs.cell 2;have f2:=(oz HX1).rx.rs.frozen 2;go_wp2_with fail
    exact oz HR _ _ (oz HE) (by decide) _ _ rfl rfl (kz ((oz HX1).put _ _ _))
   | false =>
    cases h2:XU T x.1 with
    | true =>
     have hf:YK T x=31:=by unfold YK;rw [h1,h2];rfl
     have HE:=kz ((oz HO).bad (oz HK) 5 (by rw [hf];decide));rw [hf] at HE;clear hf HO HK;have hi:0≤XJ T.pr (fun y =>y.1 == x.1):=by
      have:=Xj T.pr (fun y =>y.1 == x.1);rw [show T.pr.any (fun y =>y.1 == x.1)=true from h2] at this;have:=of_decide_eq_false this;omega
     have HW2:=kz (fun w' (hw:Below wr.heap.size wr w') =>oz HW x.1 w' ((oz HX).rx.tb.tv.below hw));rw [ea] at HW2;generalize XJ T.pr (fun y =>y.1 == x.1)=ii at *;have y0:=zP (oz HX).rx.tb.z0;have y1:=zP (oz HX).rx.tb.z1;have y2:=zP (oz HX).rx.tb.z2;have y3:=zP (oz HX).rx.tb.z3;have y5:=zP (oz HX).rx.tb.z5;have y6:=zP (oz HX).rx.tb.z6;have y7:=zP (oz HX).rx.tb.z7;have yz:=zP zz;have x0:=zP c0;have HM2:=kz (fun r b hb w' (hw:Below wr.heap.size wr w') =>oz HM r b hb w' ((oz HX).rx.tb.tv.below hw));rw [ea] at HM2;have m1:yJ T x.1=false:=h1;clear ea h1 h2;go_wp2_with fail
     refine JG (by kernel_rfl) (by kernel_rfl) ?_;repeat (go_big_quiet_step (first | exact QH (oz HM2 _ _ (by assumption) _ (Xu wr _ _)) | exact QH (oz HW2 _ (Xu wr _ _))))
     first | refine wpQuiet_nil ?_ | skip
     rintro w' ⟨p,rfl⟩;have HBq:=kz (Xu wr p.d p.os);generalize Go.Sort.grow (redrawn wr p.d) p.os=w1 at *;have HX1:=kz ((oz HX).below (oz HBq));clear y0 y1 y2 y3 y5 y6 y7 yz x0 HM HM2 HW HW2 HX zz;have r0:=(oz HX1).rx.rs.cell 0;have f0:=(oz HX1).rx.rs.frozen 0;have r1:=(oz HX1).rx.rs.cell 1;have f1:=(oz HX1).rx.rs.frozen 1;have r2:=(oz HX1).rx.rs.cell 2;have f2:=(oz HX1).rx.rs.frozen 2;go_wp2_with fail
     exact oz HR _ _ (oz HE) (by decide) _ _ rfl rfl (kz ((oz HX1).put _ _ _))
    | false =>
     have hf:YK T x=0:=by unfold YK;rw [h1,h2];rfl
     have HO2:=kz ((oz HO).next (oz HK) hf);clear hf HO HK;have hi:¬ 0≤XJ T.pr (fun y =>y.1 == x.1):=by
      have:=Xj T.pr (fun y =>y.1 == x.1);rw [show T.pr.any (fun y =>y.1 == x.1)=false from h2] at this;have:=of_decide_eq_true this;omega
     have HW2:=kz (fun w' (hw:Below wr.heap.size wr w') =>oz HW x.1 w' ((oz HX).rx.tb.tv.below hw));rw [ea] at HW2;generalize XJ T.pr (fun y =>y.1 == x.1)=ii at *;have y0:=zP (oz HX).rx.tb.z0;have y1:=zP (oz HX).rx.tb.z1;have y2:=zP (oz HX).rx.tb.z2;have y3:=zP (oz HX).rx.tb.z3;have y5:=zP (oz HX).rx.tb.z5;have y6:=zP (oz HX).rx.tb.z6;have y7:=zP (oz HX).rx.tb.z7;have yz:=zP zz;have x0:=zP c0;have HM2:=kz (fun r b hb w' (hw:Below wr.heap.size wr w') =>oz HM r b hb w' ((oz HX).rx.tb.tv.below hw));rw [ea] at HM2;have m1:yJ T x.1=false:=h1;clear ea h1 h2;go_wp2_with fail
     refine JG (by kernel_rfl) (by kernel_rfl) ?_;repeat (go_big_quiet_step (first | exact QH (oz HM2 _ _ (by assumption) _ (Xu wr _ _)) | exact QH (oz HW2 _ (Xu wr _ _))))
     first | refine wpQuiet_nil ?_ | skip
     rintro w' ⟨p,rfl⟩;have HBq:=kz (Xu wr p.d p.os);generalize Go.Sort.grow (redrawn wr p.d) p.os=w1 at *;have HX1:=kz ((oz HX).below (oz HBq));clear y0 y1 y2 y3 y5 y6 y7 yz x0 HM HM2 HW HW2 HX zz;go_wp2_with fail
     exact ⟨⟨k+1,by omega,by first | rfl | go_num,HO2,HX1⟩,by simp [intOf];omega⟩
  ·have k1:¬ (k:Int) < (T.fo.length:Int):=by omega
   have zz:=(oz HX).rx.tb.z4;have HE:=kz ((oz HO).ok (by omega) 5);clear HO HR;go_wp2_with fail
   exact oz HN (oz HE) _ _ (zq rfl) HX
noncomputable def uaTb:Code:=match Tryz.f66.body with
 | some (.seq _ (.seq _ (.seq c _))) =>c
 | _ =>.skip
theorem zgT (T:TV) (hT:TabB T) (A:TbA) (W w:World)  (h:RxS W w T A) (U:Nat→Value) {Q:Exit→Act→World→Prop}
  (hN:zg 6 T.lk mp0 (YK T)=(0,0,0)→∀ (a:Act) (wn:World),(∃ U',a=Yp W U')→Hz (RxT W w wn T A)→Q .normal a wn)
  (hR:∀ (y k:Int),zg 6 T.lk mp0 (YK T)=(y,6,k)→y≠0→∀ (a:Act) (wn:World),a.tmps.getD 2 undef=.pointer (some ⟨W.heap.size+1,0,none⟩)→a.defers=[]→Hz (RxD W wn (y,6,k))→Q .ret a wn) :
  Code.wp Tryz.prog uaTb Q (Yp W U) w:=by
 have HN:=kz hN;have HR:=kz hR;have HX:=kz (RxT.refl h);have hln:=hT.n5;have HM:=kz (fun r b (hb:yJ T r=b) w (hv:TbV w T (.agg #[.slice A.a0 T.sc.length A.c0,.slice A.a1 T.co.length A.c1,.slice A.a2 T.ma.length A.c2,.slice A.a3 T.pr.length A.c3,.slice A.a4 T.fo.length A.c4,.slice A.a5 T.lk.length A.c5,.slice A.a6 T.dr.length A.c6,.slice A.a7 T.al.length A.c7])) =>by have:=ZG T hT.n2 _ r w hv;rwa [hb] at this);have HW:=kz (fun r w (hv:TbV w T (.agg #[.slice A.a0 T.sc.length A.c0,.slice A.a1 T.co.length A.c1,.slice A.a2 T.ma.length A.c2,.slice A.a3 T.pr.length A.c3,.slice A.a4 T.fo.length A.c4,.slice A.a5 T.lk.length A.c5,.slice A.a6 T.dr.length A.c6,.slice A.a7 T.al.length A.c7])) =>YQ T hT.n3 _ r w hv);clear hN hR h
 delta uaTb Tryz.f66 Yp at *
 dsimp only;go_wp2_with fail
 go_loopw [4] (fun i wr => ∃ k:Nat,k≤T.lk.length∧i=.int .i64 k∧Hz (OkTo T.lk mp0 (YK T) k)∧Hz (RxT W w wr T A)) (fun i _ =>T.lk.length - (intOf i).toNat)
 case atStart =>exact ⟨0,Zn _,rfl,kz (OkTo.zero _ _ _),HX⟩
 case round =>
  clear HX;obtain ⟨k,hk,rfl,HO,HX⟩:=hrel;by_cases hkn:k < T.lk.length
  ·obtain ⟨x,hx⟩:∃ x,T.lk[k]?=some x:=⟨_,qR hkn⟩;obtain ⟨g,o,ea,hg,c0,c1⟩:=za8 (oz HX).rx.tb.ti.r5 hx;have HK:=kz hx;have HG:=kz hg;have k1:(k:Int) < (T.lk.length:Int):=by omega
   have k2:=Zp k
   have zz:=(oz HX).rx.tb.z5;rw [ea] at zz;clear hg hx;cases h1:yJ T x.1 with
   | true =>
    have hf:YK T x=31:=by unfold YK;rw [h1];rfl
    have HE:=kz ((oz HO).bad (oz HK) 6 (by rw [hf];decide));rw [hf] at HE;clear hf HO HK;have y0:=zP (oz HX).rx.tb.z0;have y1:=zP (oz HX).rx.tb.z1;have y2:=zP (oz HX).rx.tb.z2;have y3:=zP (oz HX).rx.tb.z3;have y4:=zP (oz HX).rx.tb.z4;have y6:=zP (oz HX).rx.tb.z6;have y7:=zP (oz HX).rx.tb.z7;have yz:=zP zz;have x0:=zP c0;have HM2:=kz (fun r b hb w' (hw:Below wr.heap.size wr w') =>oz HM r b hb w' ((oz HX).rx.tb.tv.below hw));rw [ea] at HM2;have m1:yJ T x.1=true:=h1;clear ea h1;go_wp2_with fail
    refine JG (by kernel_rfl) (by kernel_rfl) ?_;repeat (go_big_quiet_step (exact QH (oz HM2 _ _ (by assumption) _ (Xu wr _ _))))
    first | refine wpQuiet_nil ?_ | skip
    rintro w' ⟨p,rfl⟩;have HBq:=kz (Xu wr p.d p.os);generalize Go.Sort.grow (redrawn wr p.d) p.os=w1 at *;have HX1:=kz ((oz HX).below (oz HBq));clear y0 y1 y2 y3 y4 y6 y7 yz x0 HM HM2 HW HX zz;have r0:=(oz HX1).rx.rs.cell 0;have f0:=(oz HX1).rx.rs.frozen 0;have r1:=(oz HX1).rx.rs.cell 1;have f1:=(oz HX1).rx.rs.frozen 1;have r2:=(oz HX1).rx.rs.cell 2;have f2:=(oz HX1).rx.rs.frozen 2;go_wp2_with fail
    exact oz HR _ _ (oz HE) (by decide) _ _ rfl rfl (kz ((oz HX1).put _ _ _))
   | false =>
    cases h2:XU T x.1 with
    | true =>
     have hf:YK T x=31:=by unfold YK;rw [h1,h2];rfl
     have HE:=kz ((oz HO).bad (oz HK) 6 (by rw [hf];decide));rw [hf] at HE;clear hf HO HK;have hi:0≤XJ T.pr (fun y =>y.1 == x.1):=by
      have:=Xj T.pr (fun y =>y.1 == x.1);rw [show T.pr.any (fun y =>y.1 == x.1)=true from h2] at this;have:=of_decide_eq_false this;omega
     have HW2:=kz (fun w' (hw:Below wr.heap.size wr w') =>oz HW x.1 w' ((oz HX).rx.tb.tv.below hw));rw [ea] at HW2;generalize XJ T.pr (fun y =>y.1 == x.1)=ii at *;have y0:=zP (oz HX).rx.tb.z0;have y1:=zP (oz HX).rx.tb.z1;have y2:=zP (oz HX).rx.tb.z2;have y3:=zP (oz HX).rx.tb.z3;have y4:=zP (oz HX).rx.tb.z4;have y6:=zP (oz HX).rx.tb.z6;have y7:=zP (oz HX).rx.tb.z7;have yz:=zP zz;have x0:=zP c0;have HM2:=kz (fun r b hb w' (hw:Below wr.heap.size wr w') =>oz HM r b hb w' ((oz HX).rx.tb.tv.below hw));rw [ea] at HM2;have m1:yJ T x.1=false:=h1;clear ea h1 h2;go_wp2_with fail
     refine JG (by kernel_rfl) (by kernel_rfl) ?_;repeat (go_big_quiet_step (first | exact QH (oz HM2 _ _ (by assumption) _ (Xu wr _ _)) | exact QH (oz HW2 _ (Xu wr _ _))))
     first | refine wpQuiet_nil ?_ | skip
     rintro w' ⟨p,rfl⟩;have HBq:=kz (Xu wr p.d p.os);generalize Go.Sort.grow (redrawn wr p.d) p.os=w1 at *;have HX1:=kz ((oz HX).below (oz HBq));clear y0 y1 y2 y3 y4 y6 y7 yz x0 HM HM2 HW HW2 HX zz;have r0:=(oz HX1).rx.rs.cell 0;have f0:=(oz HX1).rx.rs.frozen 0;have r1:=(oz HX1).rx.rs.cell 1;have f1:=(oz HX1).rx.rs.frozen 1;have r2:=(oz HX1).rx.rs.cell 2;have f2:=(oz HX1).rx.rs.frozen 2;go_wp2_with fail
     exact oz HR _ _ (oz HE) (by decide) _ _ rfl rfl (kz ((oz HX1).put _ _ _))
    | false =>
     have hf:YK T x=0:=by unfold YK;rw [h1,h2];rfl
     have HO2:=kz ((oz HO).next (oz HK) hf);clear hf HO HK;have hi:¬ 0≤XJ T.pr (fun y =>y.1 == x.1):=by
      have:=Xj T.pr (fun y =>y.1 == x.1);rw [show T.pr.any (fun y =>y.1 == x.1)=false from h2] at this;have:=of_decide_eq_true this;omega
     have HW2:=kz (fun w' (hw:Below wr.heap.size wr w') =>oz HW x.1 w' ((oz HX).rx.tb.tv.below hw));rw [ea] at HW2;generalize XJ T.pr (fun y =>y.1 == x.1)=ii at *;have y0:=zP (oz HX).rx.tb.z0;have y1:=zP (oz HX).rx.tb.z1;have y2:=zP (oz HX).rx.tb.z2;have y3:=zP (oz HX).rx.tb.z3;have y4:=zP (oz HX).rx.tb.z4;have y6:=zP (oz HX).rx.tb.z6;have y7:=zP (oz HX).rx.tb.z7;have yz:=zP zz;have x0:=zP c0;have HM2:=kz (fun r b hb w' (hw:Below wr.heap.size wr w') =>oz HM r b hb w' ((oz HX).rx.tb.tv.below hw));rw [ea] at HM2;have m1:yJ T x.1=false:=h1;clear ea h1 h2;go_wp2_with fail
     refine JG (by kernel_rfl) (by kernel_rfl) ?_;repeat (go_big_quiet_step (first | exact QH (oz HM2 _ _ (by assumption) _ (Xu wr _ _)) | exact QH (oz HW2 _ (Xu wr _ _))))
     first | refine wpQuiet_nil ?_ | skip
     rintro w' ⟨p,rfl⟩;have HBq:=kz (Xu wr p.d p.os);generalize Go.Sort.grow (redrawn wr p.d) p.os=w1 at *;have HX1:=kz ((oz HX).below (oz HBq));clear y0 y1 y2 y3 y4 y6 y7 yz x0 HM HM2 HW HW2 HX zz;go_wp2_with fail
     exact ⟨⟨k+1,by omega,by first | rfl | go_num,HO2,HX1⟩,by simp [intOf];omega⟩
  ·have k1:¬ (k:Int) < (T.lk.length:Int):=by omega
   have zz:=(oz HX).rx.tb.z5;have HE:=kz ((oz HO).ok (by omega) 6);clear HO HR;go_wp2_with fail
   exact oz HN (oz HE) _ _ (zq rfl) HX
noncomputable def uaTc:Code:=match Tryz.f66.body with
 | some (.seq _ (.seq _ (.seq _ (.seq c _)))) =>c
 | _ =>.skip
theorem zgS (T:TV) (hT:TabB T) (A:TbA) (W w:World) (hO:zx T)  (h:RxS W w T A) (U:Nat→Value) {Q:Exit→Act→World→Prop}
  (hN:zg 5 T.fo mp0 (zbS T)=(0,0,0)→∀ (a:Act) (wn:World),(∃ U',a=Yp W U')→Hz (RxT W w wn T A)→Q .normal a wn)
  (hR:∀ (y k:Int),zg 5 T.fo mp0 (zbS T)=(y,5,k)→y≠0→∀ (a:Act) (wn:World),a.tmps.getD 2 undef=.pointer (some ⟨W.heap.size+1,0,none⟩)→a.defers=[]→Hz (RxD W wn (y,5,k))→Q .ret a wn) :
  Code.wp Tryz.prog uaTc Q (Yp W U) w:=by
 have HN:=kz hN;have HR:=kz hR;have HX:=kz (RxT.refl h);have hln:=hT.n4;have HP:=kz (fun r b (hb:zO T r=b) w (hv:TbV w T (.agg #[.slice A.a0 T.sc.length A.c0,.slice A.a1 T.co.length A.c1,.slice A.a2 T.ma.length A.c2,.slice A.a3 T.pr.length A.c3,.slice A.a4 T.fo.length A.c4,.slice A.a5 T.lk.length A.c5,.slice A.a6 T.dr.length A.c6,.slice A.a7 T.al.length A.c7])) =>by have:=QX T hT _ r w hv;rwa [hb] at this);have HF:=kz (fun r a c w (hv:RowC w w.heap.size a (yW T.lk)) =>qU T.lk hT.n5 a c r w hv);have HZ:=kz (fun x (hx:x ∈ T.fo) =>yB (hT.z4 x hx) (Jn (hO.f4 x hx).2).1);clear hN hR h
 delta uaTc Tryz.f66 Yp at *
 dsimp only;go_wp2_with fail
 go_loopw [5] (fun i wr => ∃ k:Nat,k≤T.fo.length∧i=.int .i64 k∧Hz (OkTo T.fo mp0 (zbS T) k)∧Hz (RxT W w wr T A)) (fun i _ =>T.fo.length - (intOf i).toNat)
 case atStart =>exact ⟨0,Zn _,rfl,kz (OkTo.zero _ _ _),HX⟩
 case round =>
  clear HX;obtain ⟨k,hk,rfl,HO,HX⟩:=hrel;by_cases hkn:k < T.fo.length
  ·obtain ⟨x,hx⟩:∃ x,T.fo[k]?=some x:=⟨_,qR hkn⟩;obtain ⟨g,o,ea,hg,c0,c1⟩:=za8 (oz HX).rx.tb.ti.r4 hx;have HK:=kz hx;have HG:=kz hg;have k1:(k:Int) < (T.fo.length:Int):=by omega
   have k2:=Zp k
   have zz:=(oz HX).rx.tb.z4;rw [ea] at zz;clear hg hx;have HRU:=kz (Xm x.2 (oz HZ x (YH (oz HK))).1 wr);have HOK:=kz (oz HZ x (YH (oz HK))).2;have HLN:Hz ((zk x.2).length≤1048576):=kz (by have:=(oz HZ x (YH (oz HK))).1;rw [j9];have:=zX x.2;omega);have HFX:Hz (zbS T x=if (zk x.2).any (fun r => !zO T r) then 35 else 0):=kz rfl;clear ea;go_wp2_with fail
   refine (oz HRU).mono ?_;rintro e w5 ⟨hyes,_,hb⟩;obtain ⟨v,rfl,ho⟩:=hyes (oz HOK);obtain ⟨p,c,rfl,hRn⟩:=Ju ho;have HRn:=kz hRn;have HX5:=kz ((oz HX).below hb);have HX0:=kz (RxT.refl (oz HX5).rx);clear hyes hb HRU HOK ho hRn c0 c1 zz HX HZ;generalize zk x.2=l at *;have hll:=oz HLN;clear HLN;go_wp2_with fail
   go_loopw [8] (fun jv wi => ∃ m:Nat,m≤l.length∧jv=.int .i64 m∧Hz (NoneB l (fun r => !zO T r) m)∧Hz (RxT W w5 wi T A)) (fun jv _ =>l.length - (intOf jv).toNat)
   case atStart =>exact ⟨0,Zn _,rfl,kz (NoneB.zero _ _),HX0⟩
   case round =>
    clear HX0;obtain ⟨m,hm,rfl,HN2,HX6⟩:=hrel;by_cases hml:m < l.length
    ·obtain ⟨z,hz⟩:∃ z,l[m]?=some z:=⟨_,qR hml⟩;have HKz:=kz hz;obtain ⟨g2,e2,hg2,d0⟩:=((oz HRn).below (oz HX6).fr) m z hz;subst e2;have m1:(m:Int) < (l.length:Int):=by omega
     have m2:((m:Nat):Int).toNat=m:=by omega
     clear hg2 hz;cases h1:zO T z with
     | false =>
      have hf:zbS T x=35:=by rw [oz HFX,Yl (oz HKz) (by rw [h1];rfl)];rfl
      have HE:=kz ((oz HO).bad (oz HK) 5 (by rw [hf];decide));rw [hf] at HE;clear hf HO HK HN2 HKz HFX;have y0:=zP (oz HX6).rx.tb.z0;have y1:=zP (oz HX6).rx.tb.z1;have y2:=zP (oz HX6).rx.tb.z2;have y3:=zP (oz HX6).rx.tb.z3;have y4:=zP (oz HX6).rx.tb.z4;have y5:=zP (oz HX6).rx.tb.z5;have y6:=zP (oz HX6).rx.tb.z6;have y7:=zP (oz HX6).rx.tb.z7;have yd:=zP d0;have n1:zO T z=false:=h1;clear h1;go_wp2_with fail
      refine JG (by kernel_rfl) (by kernel_rfl) ?_;repeat (go_big_quiet_step (exact QH (oz HP _ _ (by assumption) _ ((oz HX6).rx.tb.tv.below (Xu _ _ _)))))
      first | refine wpQuiet_nil ?_ | skip
      rintro w' ⟨p,rfl⟩;have HBq:=kz (Xu wr p.d p.os);generalize Go.Sort.grow (redrawn wr p.d) p.os=w1 at *;have HX7:=kz ((oz HX5).chain ((oz HX6).below (oz HBq)));clear y0 y1 y2 y3 y4 y5 y6 y7 yd d0 HP HF HX6 HX5;have r0:=(oz HX7).rx.rs.cell 0;have f0:=(oz HX7).rx.rs.frozen 0;have r1:=(oz HX7).rx.rs.cell 1;have f1:=(oz HX7).rx.rs.frozen 1;have r2:=(oz HX7).rx.rs.cell 2;have f2:=(oz HX7).rx.rs.frozen 2;go_wp2_with fail
      exact oz HR _ _ (oz HE) (by decide) _ _ rfl rfl (kz ((oz HX7).put _ _ _))
     | true =>
      have HN3:=kz ((oz HN2).next (oz HKz) (by rw [h1];rfl));clear HN2 HKz;have y0:=zP (oz HX6).rx.tb.z0;have y1:=zP (oz HX6).rx.tb.z1;have y2:=zP (oz HX6).rx.tb.z2;have y3:=zP (oz HX6).rx.tb.z3;have y4:=zP (oz HX6).rx.tb.z4;have y5:=zP (oz HX6).rx.tb.z5;have y6:=zP (oz HX6).rx.tb.z6;have y7:=zP (oz HX6).rx.tb.z7;have yd:=zP d0;have n1:zO T z=true:=h1;clear h1;go_wp2_with fail
      refine JG (by kernel_rfl) (by kernel_rfl) ?_;repeat (go_big_quiet_step (exact QH (oz HP _ _ (by assumption) _ ((oz HX6).rx.tb.tv.below (Xu _ _ _)))))
      first | refine wpQuiet_nil ?_ | skip
      rintro w' ⟨p,rfl⟩;have HBq:=kz (Xu wr p.d p.os);generalize Go.Sort.grow (redrawn wr p.d) p.os=w1 at *;have HX7:=kz ((oz HX6).below (oz HBq));clear y0 y1 y2 y3 y4 y5 y6 y7 yd d0 HP HF HX6;go_wp2_with fail
      exact ⟨⟨m+1,by omega,by first | rfl | go_num,HN3,HX7⟩,by simp [intOf];omega⟩
    ·have m1:¬ (m:Int) < (l.length:Int):=by omega
     have hf:zbS T x=0:=by rw [oz HFX,(oz HN2).any (by omega)];rfl
     have HO2:=kz ((oz HO).next (oz HK) hf);have HX7:=kz ((oz HX5).chain (oz HX6));clear hf HO HK HN2 HFX;go_wp2_with fail
     exact ⟨⟨k+1,by omega,by first | rfl | go_num,HO2,HX7⟩,by simp [intOf];omega⟩
  ·have k1:¬ (k:Int) < (T.fo.length:Int):=by omega
   have zz:=(oz HX).rx.tb.z4;have HE:=kz ((oz HO).ok (by omega) 5);clear HO HR;go_wp2_with fail
   exact oz HN (oz HE) _ _ (zq rfl) HX
noncomputable def uaTd:Code:=match Tryz.f66.body with
 | some (.seq _ (.seq _ (.seq _ (.seq _ (.seq c _))))) =>c
 | _ =>.skip
theorem zgR (T:TV) (hT:TabB T) (A:TbA) (W w:World) (hO:zx T)  (h:RxS W w T A) (U:Nat→Value) {Q:Exit→Act→World→Prop}
  (hN:zg 6 T.lk mp0 (za4 T)=(0,0,0)→∀ (a:Act) (wn:World),(∃ U',a=Yp W U')→Hz (RxT W w wn T A)→Q .normal a wn)
  (hR:∀ (y k:Int),zg 6 T.lk mp0 (za4 T)=(y,6,k)→y≠0→∀ (a:Act) (wn:World),a.tmps.getD 2 undef=.pointer (some ⟨W.heap.size+1,0,none⟩)→a.defers=[]→Hz (RxD W wn (y,6,k))→Q .ret a wn) :
  Code.wp Tryz.prog uaTd Q (Yp W U) w:=by
 have HN:=kz hN;have HR:=kz hR;have HX:=kz (RxT.refl h);have hln:=hT.n5;have HP:=kz (fun r b (hb:zO T r=b) w (hv:TbV w T (.agg #[.slice A.a0 T.sc.length A.c0,.slice A.a1 T.co.length A.c1,.slice A.a2 T.ma.length A.c2,.slice A.a3 T.pr.length A.c3,.slice A.a4 T.fo.length A.c4,.slice A.a5 T.lk.length A.c5,.slice A.a6 T.dr.length A.c6,.slice A.a7 T.al.length A.c7])) =>by have:=QX T hT _ r w hv;rwa [hb] at this);have HF:=kz (fun r a c w (hv:RowC w w.heap.size a (yW T.lk)) =>qU T.lk hT.n5 a c r w hv);have HZ:=kz (fun x (hx:x ∈ T.lk) =>yB (hT.z5 x hx) (Jn (hO.f5 x hx).2).1);clear hN hR h
 delta uaTd Tryz.f66 Yp at *
 dsimp only;go_wp2_with fail
 go_loopw [9] (fun i wr => ∃ k:Nat,k≤T.lk.length∧i=.int .i64 k∧Hz (OkTo T.lk mp0 (za4 T) k)∧Hz (RxT W w wr T A)) (fun i _ =>T.lk.length - (intOf i).toNat)
 case atStart =>exact ⟨0,Zn _,rfl,kz (OkTo.zero _ _ _),HX⟩
 case round =>
  clear HX;obtain ⟨k,hk,rfl,HO,HX⟩:=hrel;by_cases hkn:k < T.lk.length
  ·obtain ⟨x,hx⟩:∃ x,T.lk[k]?=some x:=⟨_,qR hkn⟩;obtain ⟨g,o,ea,hg,c0,c1⟩:=za8 (oz HX).rx.tb.ti.r5 hx;have HK:=kz hx;have HG:=kz hg;have k1:(k:Int) < (T.lk.length:Int):=by omega
   have k2:=Zp k
   have zz:=(oz HX).rx.tb.z5;rw [ea] at zz;clear hg hx;have HRU:=kz (Xm x.2 (oz HZ x (YH (oz HK))).1 wr);have HOK:=kz (oz HZ x (YH (oz HK))).2;have HLN:Hz ((zk x.2).length≤1048576):=kz (by have:=(oz HZ x (YH (oz HK))).1;rw [j9];have:=zX x.2;omega);have HFX:Hz (za4 T x=if (zk x.2).any (fun r => !zO T r || Yd T.lk r) then 36 else 0):=kz rfl;clear ea;go_wp2_with fail
   refine (oz HRU).mono ?_;rintro e w5 ⟨hyes,_,hb⟩;obtain ⟨v,rfl,ho⟩:=hyes (oz HOK);obtain ⟨p,c,rfl,hRn⟩:=Ju ho;have HRn:=kz hRn;have HX5:=kz ((oz HX).below hb);have HX0:=kz (RxT.refl (oz HX5).rx);clear hyes hb HRU HOK ho hRn c0 c1 zz HX HZ;generalize zk x.2=l at *;have hll:=oz HLN;clear HLN;go_wp2_with fail
   go_loopw [12] (fun jv wi => ∃ m:Nat,m≤l.length∧jv=.int .i64 m∧Hz (NoneB l (fun r => !zO T r || Yd T.lk r) m)∧Hz (RxT W w5 wi T A)) (fun jv _ =>l.length - (intOf jv).toNat)
   case atStart =>exact ⟨0,Zn _,rfl,kz (NoneB.zero _ _),HX0⟩
   case round =>
    clear HX0;obtain ⟨m,hm,rfl,HN2,HX6⟩:=hrel;by_cases hml:m < l.length
    ·obtain ⟨z,hz⟩:∃ z,l[m]?=some z:=⟨_,qR hml⟩;have HKz:=kz hz;obtain ⟨g2,e2,hg2,d0⟩:=((oz HRn).below (oz HX6).fr) m z hz;subst e2;have m1:(m:Int) < (l.length:Int):=by omega
     have m2:((m:Nat):Int).toNat=m:=by omega
     clear hg2 hz;cases h1:zO T z with
     | false =>
      have hf:za4 T x=36:=by rw [oz HFX,Yl (oz HKz) (by rw [h1];rfl)];rfl
      have HE:=kz ((oz HO).bad (oz HK) 6 (by rw [hf];decide));rw [hf] at HE;clear hf HO HK HN2 HKz HFX;have y0:=zP (oz HX6).rx.tb.z0;have y1:=zP (oz HX6).rx.tb.z1;have y2:=zP (oz HX6).rx.tb.z2;have y3:=zP (oz HX6).rx.tb.z3;have y4:=zP (oz HX6).rx.tb.z4;have y5:=zP (oz HX6).rx.tb.z5;have y6:=zP (oz HX6).rx.tb.z6;have y7:=zP (oz HX6).rx.tb.z7;have yd:=zP d0;have n1:zO T z=false:=h1;clear h1;go_wp2_with fail
      refine JG (by kernel_rfl) (by kernel_rfl) ?_;repeat (go_big_quiet_step (exact QH (oz HP _ _ (by assumption) _ ((oz HX6).rx.tb.tv.below (Xu _ _ _)))))
      first | refine wpQuiet_nil ?_ | skip
      rintro w' ⟨p,rfl⟩;have HBq:=kz (Xu wr p.d p.os);generalize Go.Sort.grow (redrawn wr p.d) p.os=w1 at *;have HX7:=kz ((oz HX5).chain ((oz HX6).below (oz HBq)));clear y0 y1 y2 y3 y4 y5 y6 y7 yd d0 HP HF HX6 HX5;have r0:=(oz HX7).rx.rs.cell 0;have f0:=(oz HX7).rx.rs.frozen 0;have r1:=(oz HX7).rx.rs.cell 1;have f1:=(oz HX7).rx.rs.frozen 1;have r2:=(oz HX7).rx.rs.cell 2;have f2:=(oz HX7).rx.rs.frozen 2;go_wp2_with fail
      exact oz HR _ _ (oz HE) (by decide) _ _ rfl rfl (kz ((oz HX7).put _ _ _))
     | true =>
      cases h2:Yd T.lk z with
      | true =>
       have hf:za4 T x=36:=by rw [oz HFX,Yl (oz HKz) (by rw [h1,h2];rfl)];rfl
       have HE:=kz ((oz HO).bad (oz HK) 6 (by rw [hf];decide));rw [hf] at HE;clear hf HO HK HN2 HKz HFX;have y0:=zP (oz HX6).rx.tb.z0;have y1:=zP (oz HX6).rx.tb.z1;have y2:=zP (oz HX6).rx.tb.z2;have y3:=zP (oz HX6).rx.tb.z3;have y4:=zP (oz HX6).rx.tb.z4;have y5:=zP (oz HX6).rx.tb.z5;have y6:=zP (oz HX6).rx.tb.z6;have y7:=zP (oz HX6).rx.tb.z7;have yd:=zP d0;have n1:zO T z=true:=h1;have hi:0≤XJ T.lk (fun y =>y.1 == z):=by
        have:=Xj T.lk (fun y =>y.1 == z);rw [show T.lk.any (fun y =>y.1 == z)=true from h2] at this;have:=of_decide_eq_false this;omega
       have HF2:=kz (fun w' (hw:Below wr.heap.size wr w') =>oz HF z A.a5 A.c5 w' ((oz HX6).rx.tb.ti.r5.below hw hw.size));generalize XJ T.lk (fun y =>y.1 == z)=ii at *;clear h1 h2;go_wp2_with fail
       refine JG (by kernel_rfl) (by kernel_rfl) ?_;repeat (go_big_quiet_step (first | exact QH (oz HP _ _ (by assumption) _ ((oz HX6).rx.tb.tv.below (Xu _ _ _))) | exact QH ((oz HF2 _ (Xu _ _ _)).mono (fun e w2 h =>⟨h.1,h.2 ▸ zl⟩))))
       first | refine wpQuiet_nil ?_ | skip
       rintro w' ⟨p,rfl⟩;have HBq:=kz (Xu wr p.d p.os);generalize Go.Sort.grow (redrawn wr p.d) p.os=w1 at *;have HX7:=kz ((oz HX5).chain ((oz HX6).below (oz HBq)));clear y0 y1 y2 y3 y4 y5 y6 y7 yd d0 HP HF HX6 HX5 HF2;have r0:=(oz HX7).rx.rs.cell 0;have f0:=(oz HX7).rx.rs.frozen 0;have r1:=(oz HX7).rx.rs.cell 1;have f1:=(oz HX7).rx.rs.frozen 1;have r2:=(oz HX7).rx.rs.cell 2;have f2:=(oz HX7).rx.rs.frozen 2;go_wp2_with fail
       exact oz HR _ _ (oz HE) (by decide) _ _ rfl rfl (kz ((oz HX7).put _ _ _))
      | false =>
       have HN3:=kz ((oz HN2).next (oz HKz) (by rw [h1,h2];rfl));clear HN2 HKz;have y0:=zP (oz HX6).rx.tb.z0;have y1:=zP (oz HX6).rx.tb.z1;have y2:=zP (oz HX6).rx.tb.z2;have y3:=zP (oz HX6).rx.tb.z3;have y4:=zP (oz HX6).rx.tb.z4;have y5:=zP (oz HX6).rx.tb.z5;have y6:=zP (oz HX6).rx.tb.z6;have y7:=zP (oz HX6).rx.tb.z7;have yd:=zP d0;have n1:zO T z=true:=h1;have hi:¬ 0≤XJ T.lk (fun y =>y.1 == z):=by
        have:=Xj T.lk (fun y =>y.1 == z);rw [show T.lk.any (fun y =>y.1 == z)=false from h2] at this;have:=of_decide_eq_true this;omega
       have HF2:=kz (fun w' (hw:Below wr.heap.size wr w') =>oz HF z A.a5 A.c5 w' ((oz HX6).rx.tb.ti.r5.below hw hw.size));generalize XJ T.lk (fun y =>y.1 == z)=ii at *;clear h1 h2;go_wp2_with fail
       refine JG (by kernel_rfl) (by kernel_rfl) ?_;repeat (go_big_quiet_step (first | exact QH (oz HP _ _ (by assumption) _ ((oz HX6).rx.tb.tv.below (Xu _ _ _))) | exact QH ((oz HF2 _ (Xu _ _ _)).mono (fun e w2 h =>⟨h.1,h.2 ▸ zl⟩))))
       first | refine wpQuiet_nil ?_ | skip
       rintro w' ⟨p,rfl⟩;have HBq:=kz (Xu wr p.d p.os);generalize Go.Sort.grow (redrawn wr p.d) p.os=w1 at *;have HX7:=kz ((oz HX6).below (oz HBq));clear y0 y1 y2 y3 y4 y5 y6 y7 yd d0 HP HF HX6 HF2;go_wp2_with fail
       exact ⟨⟨m+1,by omega,by first | rfl | go_num,HN3,HX7⟩,by simp [intOf];omega⟩
    ·have m1:¬ (m:Int) < (l.length:Int):=by omega
     have hf:za4 T x=0:=by rw [oz HFX,(oz HN2).any (by omega)];rfl
     have HO2:=kz ((oz HO).next (oz HK) hf);have HX7:=kz ((oz HX5).chain (oz HX6));clear hf HO HK HN2 HFX;go_wp2_with fail
     exact ⟨⟨k+1,by omega,by first | rfl | go_num,HO2,HX7⟩,by simp [intOf];omega⟩
  ·have k1:¬ (k:Int) < (T.lk.length:Int):=by omega
   have zz:=(oz HX).rx.tb.z5;have HE:=kz ((oz HO).ok (by omega) 6);clear HO HR;go_wp2_with fail
   exact oz HN (oz HE) _ _ (zq rfl) HX
theorem ziR (T:TV):orW [qP T,JI T]=orW [orW [zg 5 T.fo mp0 (YK T),zg 6 T.lk mp0 (YK T)],orW [zg 5 T.fo mp0 (zbS T),zg 6 T.lk mp0 (za4 T)]]:=rfl
theorem zhF (a b:List (Int × Int × Int)):orW [orW a,orW b]=orW (a++b):=by
 rw [yM];by_cases h:(orW a).1=0
 ·rw [if_pos h,ze h];by_cases h2:(orW b).1=0
  ·rw [ze h2];exact (jJ b h2).symm
  ·rw [zj h2]
 ·rw [if_neg h,zj h]
theorem zhp (T:TV):orW [qP T,JI T]=orW [zg 5 T.fo mp0 (YK T),zg 6 T.lk mp0 (YK T),zg 5 T.fo mp0 (zbS T),zg 6 T.lk mp0 (za4 T)]:=(ziR T).trans (zhF _ _)
theorem zfL (T:TV) (hT:TabB T) (hO:zx T) (v:Value) (W:World) (hv:TbV W T v) :
  Calls Tryz.prog 66 #[v] W fun e w' =>e=.returned (wrV (orW [zg 5 T.fo mp0 (YK T),zg 6 T.lk mp0 (YK T),zg 5 T.fo mp0 (zbS T),zg 6 T.lk mp0 (za4 T)]))∧Below W.heap.size W w':=by
 obtain ⟨A,rfl,hA⟩:=hv;have HX:=kz (RxS.start hA);have HT:=kz hT;have HO:=kz hO;have HV:∃ mb,Hz (orW [zg 5 T.fo mp0 (YK T),zg 6 T.lk mp0 (YK T),zg 5 T.fo mp0 (zbS T),zg 6 T.lk mp0 (za4 T)]=mb):=⟨_,kz rfl⟩;obtain ⟨mb,HV⟩:=HV;rw [show orW [zg 5 T.fo mp0 (YK T),zg 6 T.lk mp0 (YK T),zg 5 T.fo mp0 (zbS T),zg 6 T.lk mp0 (za4 T)]=mb from oz HV];clear hA hT hO;go_enter Tryz.func66,Tryz.ntmps66;refine wp_seq_k (fun K0 hK0 =>?_);have HK0:=kz hK0;clear hK0;go_wp2_with fail
 refine oz HK0 _ _ ?_;clear HK0 K0;generalize (W.alloc _).alloc _=w0 at *;have hR:∀ (y l k:Int),mb=(y,l,k)→∀ (a:Act) (wn:World),a.tmps.getD 2 undef=.pointer (some ⟨W.heap.size+1,0,none⟩)→a.defers=[]→Hz (RxD W wn (y,l,k))→bodyPost Tryz.prog Tryz.f66 (fun e w' =>e=.returned (wrV mb)∧Below W.heap.size W w') .ret a wn:=fun y l k e a wn h1 h2 h3 =>by
  subst e;exact XS (v:=wrV (y,l,k)) (jA Tryz.results66 h1 (oz h3).rs rfl) h2 ⟨rfl,(oz h3).bl⟩
 refine wp_seq_k (fun K1 hK1 =>?_);refine zN (F:=Yp W) (zq rfl) (fun U =>?_);refine zgU T (oz HT) A W _ (oz HX) U ?_ ?_
 rotate_left
 ·intro y k e hy a wn h1 h2 h3;exact hR y _ k (by rw [← oz HV,zj (by rw [e];exact hy),e]) a wn h1 h2 h3
 intro E1 a w1 ⟨U1,hU⟩ hx;subst hU;have HX1:=kz (oz hx).rx;clear hx;refine hK1 _ _ ?_;clear hK1 K1;refine wp_seq_k (fun K2 hK2 =>?_);refine zN (F:=Yp W) ⟨U1,rfl⟩ (fun U =>?_);refine zgT T (oz HT) A W _ (oz HX1) U ?_ ?_
 rotate_left
 ·intro y k e hy a wn h1 h2 h3;exact hR y _ k (by rw [← oz HV,ze (by rw [E1]),zj (by rw [e];exact hy),e]) a wn h1 h2 h3
 intro E2 a w2 ⟨U2,hU⟩ hx;subst hU;have HX2:=kz (oz hx).rx;clear hx;refine hK2 _ _ ?_;clear hK2 K2;refine wp_seq_k (fun K3 hK3 =>?_);refine zN (F:=Yp W) ⟨U2,rfl⟩ (fun U =>?_);refine zgS T (oz HT) A W _ (oz HO) (oz HX2) U ?_ ?_
 rotate_left
 ·intro y k e hy a wn h1 h2 h3;exact hR y _ k (by rw [← oz HV,ze (by rw [E1]),ze (by rw [E2]),zj (by rw [e];exact hy),e]) a wn h1 h2 h3
 intro E3 a w3 ⟨U3,hU⟩ hx;subst hU;have HX3:=kz (oz hx).rx;clear hx;refine hK3 _ _ ?_;clear hK3 K3;refine wp_seq_k (fun K4 hK4 =>?_);refine zN (F:=Yp W) ⟨U3,rfl⟩ (fun U =>?_);refine zgR T (oz HT) A W _ (oz HO) (oz HX3) U ?_ ?_
 rotate_left
 ·intro y k e hy a wn h1 h2 h3;exact hR y _ k (by rw [← oz HV,ze (by rw [E1]),ze (by rw [E2]),ze (by rw [E3]),zj (by rw [e];exact hy),e]) a wn h1 h2 h3
 intro E4 a w4 ⟨U4,hU⟩ hx;subst hU;have HX4:=kz (oz hx).rx;clear hx;refine hK4 _ _ ?_;clear hK4 K4;have hm:mb=(0,0,0):=by
  rw [← oz HV,ze (by rw [E1]),ze (by rw [E2]),ze (by rw [E3]),ze (by rw [E4])];rfl
 subst hm;clear hR HV E1 E2 E3 E4;refine zN (F:=Yp W) ⟨U4,rfl⟩ (fun U =>?_);unfold Yp;have r0:=(oz HX4).rs.cell 0;have f0:=(oz HX4).rs.frozen 0;have r1:=(oz HX4).rs.cell 1;have f1:=(oz HX4).rs.frozen 1;have r2:=(oz HX4).rs.cell 2;have f2:=(oz HX4).rs.frozen 2;go_wp2_with fail
 exact XS (v:=wrV (0,0,0)) (jA Tryz.results66 rfl (jG (oz HX4).rs _ _ _) rfl) rfl ⟨rfl,((oz HX4).put (0,0,0)).bl⟩
def Kx (x:Int × Int):Int:=if Zi x.1 then 5 else 0
def Kw (x:Int × Int × Int):Int:=if Zi x.1 then 5 else 0
def ZO (x:Int × ByteArray):Int:=if (Zi x.1 && decide (x.1 < 65∨90 < x.1)) || Za x.2 then 5 else 0
def Qx (x:Int × ByteArray):Int:=if Qw x.1 || Za x.2 then 5 else 0
theorem za2 {r:Int}:r ∈ comL ↔ 45≤r∧r≤57∧r≠47:=by
 unfold comL;simp;omega
theorem Qo {list:Int} {l:List (Int × Int)} {must:List Int} {r:Int} (hr:r ∈ must) (h:zi l r=false):jM list l must=(5,list,0):=by
 unfold jM;rw [if_neg (fun e =>by have:=List.all_eq_true.1 e r hr;rw [h] at this;cases this)]
theorem zfd {list:Int} {l:List (Int × Int)} {must:List Int} (h:∀ r ∈ must,zi l r=true):jM list l must=(0,0,0):=by
 unfold jM;rw [if_pos (List.all_eq_true.2 h)]
def XG (W:World) (U:Nat→Value):Act:={ tmps:=#[U 0,.pointer (some ⟨W.heap.size,0,none⟩),.pointer (some ⟨W.heap.size+1,0,none⟩),U 3,U 4,U 5,U 6,U 7,U 8,U 9,U 10,U 11,U 12,U 13,U 14,U 15,U 16,U 17,U 18,U 19,U 20,U 21,U 22,U 23,U 24,U 25,U 26,U 27,U 28,U 29,U 30,U 31,U 32,U 33,U 34,U 35,U 36,U 37,U 38,U 39,U 40,U 41,U 42,U 43,U 44,U 45,U 46,U 47,U 48,U 49,U 50,U 51,U 52,U 53,U 54,U 55,U 56,U 57,U 58,U 59,U 60,U 61,U 62,U 63,U 64,U 65,U 66,U 67,U 68,U 69,U 70,U 71,U 72,U 73,U 74,U 75,U 76,U 77,U 78,U 79,U 80,U 81,U 82,U 83,U 84,U 85,U 86,U 87,U 88,U 89,U 90,U 91,U 92,U 93,U 94,U 95,U 96,U 97,U 98,U 99,U 100,U 101,U 102,U 103,U 104,U 105,U 106,U 107,U 108,U 109,U 110,U 111,U 112,U 113,U 114],defers := [] }
noncomputable def uaRa:Code:=match Tryz.f104.body with
 | some (.seq _ (.seq c _)) =>c
 | _ =>.skip
theorem zgZ (T:TV) (hT:TabB T) (A:TbA) (W w:World) (h:RxS W w T A) (U:Nat→Value) {Q:Exit→Act→World→Prop}
  (hN:jM 2 T.co comL=(0,0,0)→∀ (a:Act) (wn:World),(∃ U',a=XG W U')→Hz (RxT W w wn T A)→Q .normal a wn)
  (hR:∀ (y k:Int),jM 2 T.co comL=(y,2,k)→y≠0→∀ (a:Act) (wn:World),a.tmps.getD 2 undef=.pointer (some ⟨W.heap.size+1,0,none⟩)→a.defers=[]→Hz (RxD W wn (y,2,k))→Q .ret a wn) :
  Code.wp Tryz.prog uaRa Q (XG W U) w:=by
 have HN:=kz hN;have HR:=kz hR;have HX:=kz (RxT.refl h);have HO:=kz (fun r b (hb:zi T.co r=b) a c w (hv:RowC w w.heap.size a (zM T.co)) =>by have:=XM T.co hT.n1 a c r w hv;rwa [hb] at this);clear hN hR h hT
 delta uaRa Tryz.f104 XG at *
 dsimp only;go_wp2_with fail
 go_loopw [3] (fun i wr => ∃ r:Int,45≤r∧r≤58∧i=.int .i32 r∧Hz (∀ q,45≤q→q < r→q≠47→zi T.co q=true)∧Hz (RxT W w wr T A)) (fun i _ =>58 - (intOf i).toNat)
 case atStart =>exact ⟨45,by omega,by omega,rfl,kz (fun q h1 h2 _ =>by omega),HX⟩
 case round =>
  clear HX;obtain ⟨r,hr0,hr1,rfl,HI,HX⟩:=hrel;have zz:=(oz HX).rx.tb.z1;by_cases hr2:r≤57
  ·by_cases h47:r=47
   ·subst h47;have HI2:Hz (∀ q,45≤q→q < 48→q≠47→zi T.co q=true):=kz (fun q h1 h2 h3 =>by
     by_cases e:q=47
     ·exact absurd h3 (by omega)
     ·exact oz HI q h1 (by omega) h3)
    clear HI;go_wp2_with fail
    exact ⟨⟨48,by omega,by omega,by first | rfl | go_num,HI2,HX⟩,by simp [intOf] <;> omega⟩
   ·have n47:(r == 47)=false:=by simpa using h47
    cases hm:zi T.co r with
    | false =>
     have HE:Hz (jM 2 T.co comL=(5,2,0)):=kz (Qo (za2.2 (by omega)) hm);have HOc:=kz (oz HO r _ hm A.a1 A.c1 wr ((oz HX).rx.tb.ti.r1));clear HI HO hm;go_wp2_with fail
     refine (oz HOc).mono ?_;rintro e wx ⟨rfl,hw⟩;rw [hw];clear hw wx HOc;have r0:=(oz HX).rx.rs.cell 0;have f0:=(oz HX).rx.rs.frozen 0;have r1:=(oz HX).rx.rs.cell 1;have f1:=(oz HX).rx.rs.frozen 1;have r2:=(oz HX).rx.rs.cell 2;have f2:=(oz HX).rx.rs.frozen 2;go_wp2_with fail
     exact oz HR _ _ (oz HE) (by decide) _ _ rfl rfl (kz ((oz HX).put _ _ _))
    | true =>
     have HI2:Hz (∀ q,45≤q→q < r+1→q≠47→zi T.co q=true):=kz (fun q h1 h2 h3 =>by
      by_cases e:q=r
      ·rw [e];exact hm
      ·exact oz HI q h1 (by omega) h3)
     have HOc:=kz (oz HO r _ hm A.a1 A.c1 wr ((oz HX).rx.tb.ti.r1));clear HI HO hm;go_wp2_with fail
     refine (oz HOc).mono ?_;rintro e wx ⟨rfl,hw⟩;rw [hw];clear hw wx HOc;go_wp2_with fail
     exact ⟨⟨r+1,by omega,by omega,by first | rfl | go_num,HI2,HX⟩,by simp [intOf];omega⟩
  ·have HE:Hz (jM 2 T.co comL=(0,0,0)):=kz (zfd (fun q hq =>by
    have:=za2.1 hq;exact oz HI q (by omega) (by omega) (by omega)))
   clear HI HR;go_wp2_with fail
   exact oz HN (oz HE) _ _ (zq rfl) HX
noncomputable def uaRb:Code:=match Tryz.f104.body with
 | some (.seq _ (.seq _ (.seq c _))) =>c
 | _ =>.skip
theorem zgY (T:TV) (hT:TabB T) (A:TbA) (W w:World)  (h:RxS W w T A) (U:Nat→Value) {Q:Exit→Act→World→Prop}
  (hN:zg 3 T.ma ma0 (Kx)=(0,0,0)→∀ (a:Act) (wn:World),(∃ U',a=XG W U')→Hz (RxT W w wn T A)→Q .normal a wn)
  (hR:∀ (y k:Int),zg 3 T.ma ma0 (Kx)=(y,3,k)→y≠0→∀ (a:Act) (wn:World),a.tmps.getD 2 undef=.pointer (some ⟨W.heap.size+1,0,none⟩)→a.defers=[]→Hz (RxD W wn (y,3,k))→Q .ret a wn) :
  Code.wp Tryz.prog uaRb Q (XG W U) w:=by
 have HN:=kz hN;have HR:=kz hR;have HX:=kz (RxT.refl h);have hln:=hT.n2;clear hN hR h
 delta uaRb Tryz.f104 XG at *
 dsimp only;go_wp2_with fail
 go_loopw [4] (fun i wr => ∃ k:Nat,k≤T.ma.length∧i=.int .i64 k∧Hz (OkTo T.ma ma0 (Kx) k)∧Hz (RxT W w wr T A)) (fun i _ =>T.ma.length - (intOf i).toNat)
 case atStart =>exact ⟨0,Zn _,rfl,kz (OkTo.zero _ _ _),HX⟩
 case round =>
  clear HX;obtain ⟨k,hk,rfl,HO,HX⟩:=hrel;by_cases hkn:k < T.ma.length
  ·obtain ⟨x,hx⟩:∃ x,T.ma[k]?=some x:=⟨_,qR hkn⟩;obtain ⟨g,o,ea,hg,c0,c1⟩:=zgE (oz HX).rx.tb.ti.r2 hx;have HK:=kz hx;have HG:=kz hg;have k1:(k:Int) < (T.ma.length:Int):=by omega
   have k2:=Zp k
   have zz:=(oz HX).rx.tb.z2;rw [ea] at zz;clear hg hx;cases h1:Zi x.1 with
   | true =>
    have hf:Kx x=5:=by unfold Kx;rw [h1];rfl
    have HE:=kz ((oz HO).bad (oz HK) 3 (by rw [hf];decide));rw [hf] at HE;clear hf HO HK;have HC:=kz (fun w =>by have:=qO x.1 w;rwa [h1] at this);clear ea h1;go_wp2_with fail
    refine (oz HC _).mono ?_;rintro e wx ⟨rfl,hw⟩;rw [hw];clear hw wx;have r0:=(oz HX).rx.rs.cell 0;have f0:=(oz HX).rx.rs.frozen 0;have r1:=(oz HX).rx.rs.cell 1;have f1:=(oz HX).rx.rs.frozen 1;have r2:=(oz HX).rx.rs.cell 2;have f2:=(oz HX).rx.rs.frozen 2;go_wp2_with fail
    exact oz HR _ _ (oz HE) (by decide) _ _ rfl rfl (kz ((oz HX).put _ _ _))
   | false =>
    have hf:Kx x=0:=by unfold Kx;rw [h1];rfl
    have HO2:=kz ((oz HO).next (oz HK) hf);clear hf HO HK;have HC:=kz (fun w =>by have:=qO x.1 w;rwa [h1] at this);clear ea h1;go_wp2_with fail
    refine (oz HC _).mono ?_;rintro e wx ⟨rfl,hw⟩;rw [hw];clear hw wx;go_wp2_with fail
    exact ⟨⟨k+1,by omega,by first | rfl | go_num,HO2,HX⟩,by simp [intOf];omega⟩
  ·have k1:¬ (k:Int) < (T.ma.length:Int):=by omega
   have zz:=(oz HX).rx.tb.z2;have HE:=kz ((oz HO).ok (by omega) 3);clear HO HR;go_wp2_with fail
   exact oz HN (oz HE) _ _ (zq rfl) HX
noncomputable def uaRc:Code:=match Tryz.f104.body with
 | some (.seq _ (.seq _ (.seq _ (.seq c _)))) =>c
 | _ =>.skip
theorem zgX (T:TV) (hT:TabB T) (A:TbA) (W w:World)  (h:RxS W w T A) (U:Nat→Value) {Q:Exit→Act→World→Prop}
  (hN:zg 4 T.pr pr0 (Kw)=(0,0,0)→∀ (a:Act) (wn:World),(∃ U',a=XG W U')→Hz (RxT W w wn T A)→Q .normal a wn)
  (hR:∀ (y k:Int),zg 4 T.pr pr0 (Kw)=(y,4,k)→y≠0→∀ (a:Act) (wn:World),a.tmps.getD 2 undef=.pointer (some ⟨W.heap.size+1,0,none⟩)→a.defers=[]→Hz (RxD W wn (y,4,k))→Q .ret a wn) :
  Code.wp Tryz.prog uaRc Q (XG W U) w:=by
 have HN:=kz hN;have HR:=kz hR;have HX:=kz (RxT.refl h);have hln:=hT.n3;clear hN hR h
 delta uaRc Tryz.f104 XG at *
 dsimp only;go_wp2_with fail
 go_loopw [5] (fun i wr => ∃ k:Nat,k≤T.pr.length∧i=.int .i64 k∧Hz (OkTo T.pr pr0 (Kw) k)∧Hz (RxT W w wr T A)) (fun i _ =>T.pr.length - (intOf i).toNat)
 case atStart =>exact ⟨0,Zn _,rfl,kz (OkTo.zero _ _ _),HX⟩
 case round =>
  clear HX;obtain ⟨k,hk,rfl,HO,HX⟩:=hrel;by_cases hkn:k < T.pr.length
  ·obtain ⟨x,hx⟩:∃ x,T.pr[k]?=some x:=⟨_,qR hkn⟩;obtain ⟨g,o,ea,hg,c0,c1,c2⟩:=zdV (oz HX).rx.tb.ti.r3 hx;have HK:=kz hx;have HG:=kz hg;have k1:(k:Int) < (T.pr.length:Int):=by omega
   have k2:=Zp k
   have zz:=(oz HX).rx.tb.z3;rw [ea] at zz;clear hg hx;cases h1:Zi x.1 with
   | true =>
    have hf:Kw x=5:=by unfold Kw;rw [h1];rfl
    have HE:=kz ((oz HO).bad (oz HK) 4 (by rw [hf];decide));rw [hf] at HE;clear hf HO HK;have HC:=kz (fun w =>by have:=qO x.1 w;rwa [h1] at this);clear ea h1;go_wp2_with fail
    refine (oz HC _).mono ?_;rintro e wx ⟨rfl,hw⟩;rw [hw];clear hw wx;have r0:=(oz HX).rx.rs.cell 0;have f0:=(oz HX).rx.rs.frozen 0;have r1:=(oz HX).rx.rs.cell 1;have f1:=(oz HX).rx.rs.frozen 1;have r2:=(oz HX).rx.rs.cell 2;have f2:=(oz HX).rx.rs.frozen 2;go_wp2_with fail
    exact oz HR _ _ (oz HE) (by decide) _ _ rfl rfl (kz ((oz HX).put _ _ _))
   | false =>
    have hf:Kw x=0:=by unfold Kw;rw [h1];rfl
    have HO2:=kz ((oz HO).next (oz HK) hf);clear hf HO HK;have HC:=kz (fun w =>by have:=qO x.1 w;rwa [h1] at this);clear ea h1;go_wp2_with fail
    refine (oz HC _).mono ?_;rintro e wx ⟨rfl,hw⟩;rw [hw];clear hw wx;go_wp2_with fail
    exact ⟨⟨k+1,by omega,by first | rfl | go_num,HO2,HX⟩,by simp [intOf];omega⟩
  ·have k1:¬ (k:Int) < (T.pr.length:Int):=by omega
   have zz:=(oz HX).rx.tb.z3;have HE:=kz ((oz HO).ok (by omega) 4);clear HO HR;go_wp2_with fail
   exact oz HN (oz HE) _ _ (zq rfl) HX
noncomputable def uaRd:Code:=match Tryz.f104.body with
 | some (.seq _ (.seq _ (.seq _ (.seq _ (.seq c _))))) =>c
 | _ =>.skip
theorem zgW (T:TV) (hT:TabB T) (A:TbA) (W w:World) (hO:zx T)  (h:RxS W w T A) (U:Nat→Value) {Q:Exit→Act→World→Prop}
  (hN:zg 5 T.fo mp0 (ZO)=(0,0,0)→∀ (a:Act) (wn:World),(∃ U',a=XG W U')→Hz (RxT W w wn T A)→Q .normal a wn)
  (hR:∀ (y k:Int),zg 5 T.fo mp0 (ZO)=(y,5,k)→y≠0→∀ (a:Act) (wn:World),a.tmps.getD 2 undef=.pointer (some ⟨W.heap.size+1,0,none⟩)→a.defers=[]→Hz (RxD W wn (y,5,k))→Q .ret a wn) :
  Code.wp Tryz.prog uaRd Q (XG W U) w:=by
 have HN:=kz hN;have HR:=kz hR;have HX:=kz (RxT.refl h);have hln:=hT.n4;have HZ:=kz (fun x (hx:x ∈ T.fo) =>yB (hT.z4 x hx) (Jn (hO.f4 x hx).2).1);clear hN hR h
 delta uaRd Tryz.f104 XG at *
 dsimp only;go_wp2_with fail
 go_loopw [6] (fun i wr => ∃ k:Nat,k≤T.fo.length∧i=.int .i64 k∧Hz (OkTo T.fo mp0 (ZO) k)∧Hz (RxT W w wr T A)) (fun i _ =>T.fo.length - (intOf i).toNat)
 case atStart =>exact ⟨0,Zn _,rfl,kz (OkTo.zero _ _ _),HX⟩
 case round =>
  clear HX;obtain ⟨k,hk,rfl,HO,HX⟩:=hrel;by_cases hkn:k < T.fo.length
  ·obtain ⟨x,hx⟩:∃ x,T.fo[k]?=some x:=⟨_,qR hkn⟩;obtain ⟨g,o,ea,hg,c0,c1⟩:=za8 (oz HX).rx.tb.ti.r4 hx;have HK:=kz hx;have HG:=kz hg;have k1:(k:Int) < (T.fo.length:Int):=by omega
   have k2:=Zp k
   have zz:=(oz HX).rx.tb.z4;rw [ea] at zz;clear hg hx;cases h1:Zi x.1 with
   | true =>
    by_cases h2:x.1 < 65
    ·have hf:ZO x=5:=by unfold ZO;rw [h1,JS (by omega)];rfl
     have HE:=kz ((oz HO).bad (oz HK) 5 (by rw [hf];decide));rw [hf] at HE;clear hf HO HK;have HC:=kz (fun w =>by have:=qO x.1 w;rwa [h1] at this);clear ea h1;go_wp2_with fail
     refine (oz HC _).mono ?_;rintro e wx ⟨rfl,hw⟩;rw [hw];clear hw wx;have r0:=(oz HX).rx.rs.cell 0;have f0:=(oz HX).rx.rs.frozen 0;have r1:=(oz HX).rx.rs.cell 1;have f1:=(oz HX).rx.rs.frozen 1;have r2:=(oz HX).rx.rs.cell 2;have f2:=(oz HX).rx.rs.frozen 2;go_wp2_with fail
     exact oz HR _ _ (oz HE) (by decide) _ _ rfl rfl (kz ((oz HX).put _ _ _))
    ·by_cases h3:90 < x.1
     ·have hf:ZO x=5:=by unfold ZO;rw [h1,JS (by omega)];rfl
      have HE:=kz ((oz HO).bad (oz HK) 5 (by rw [hf];decide));rw [hf] at HE;clear hf HO HK;have HC:=kz (fun w =>by have:=qO x.1 w;rwa [h1] at this);clear ea h1;go_wp2_with fail
      refine (oz HC _).mono ?_;rintro e wx ⟨rfl,hw⟩;rw [hw];clear hw wx;have r0:=(oz HX).rx.rs.cell 0;have f0:=(oz HX).rx.rs.frozen 0;have r1:=(oz HX).rx.rs.cell 1;have f1:=(oz HX).rx.rs.frozen 1;have r2:=(oz HX).rx.rs.cell 2;have f2:=(oz HX).rx.rs.frozen 2;go_wp2_with fail
      exact oz HR _ _ (oz HE) (by decide) _ _ rfl rfl (kz ((oz HX).put _ _ _))
     ·cases hs:Za x.2 with
      | true =>
       have HC:=kz (fun w =>by have:=qO x.1 w;rwa [h1] at this);have HS:=kz (fun w =>by have:=XW x.2 (oz HZ x (YH (oz HK))).1 (oz HZ x (YH (oz HK))).2 w;rwa [hs] at this);have hf:ZO x=5:=by unfold ZO;rw [h1,Zq (by omega),hs];rfl
       have HE:=kz ((oz HO).bad (oz HK) 5 (by rw [hf];decide));rw [hf] at HE;clear hf HO HK;clear ea hs;clear h1;go_wp2_with fail
       refine (oz HC _).mono ?_;rintro e wx ⟨rfl,hw⟩;rw [hw];clear hw wx;go_wp2_with fail
       refine (oz HS _).mono ?_;rintro e w3 ⟨rfl,hbx⟩;have HX1:=kz ((oz HX).below hbx);clear hbx HX HS zz c0 c1;have r0:=(oz HX1).rx.rs.cell 0;have f0:=(oz HX1).rx.rs.frozen 0;have r1:=(oz HX1).rx.rs.cell 1;have f1:=(oz HX1).rx.rs.frozen 1;have r2:=(oz HX1).rx.rs.cell 2;have f2:=(oz HX1).rx.rs.frozen 2;go_wp2_with fail
       exact oz HR _ _ (oz HE) (by decide) _ _ rfl rfl (kz ((oz HX1).put _ _ _))
      | false =>
       have HC:=kz (fun w =>by have:=qO x.1 w;rwa [h1] at this);have HS:=kz (fun w =>by have:=XW x.2 (oz HZ x (YH (oz HK))).1 (oz HZ x (YH (oz HK))).2 w;rwa [hs] at this);have hf:ZO x=0:=by unfold ZO;rw [h1,Zq (by omega),hs];rfl
       have HO2:=kz ((oz HO).next (oz HK) hf);clear hf HO HK;clear ea hs;clear h1;go_wp2_with fail
       refine (oz HC _).mono ?_;rintro e wx ⟨rfl,hw⟩;rw [hw];clear hw wx;go_wp2_with fail
       refine (oz HS _).mono ?_;rintro e w3 ⟨rfl,hbx⟩;have HX1:=kz ((oz HX).below hbx);clear hbx HX HS zz c0 c1;go_wp2_with fail
       exact ⟨⟨k+1,by omega,by first | rfl | go_num,HO2,HX1⟩,by simp [intOf];omega⟩
   | false =>
    cases hs:Za x.2 with
    | true =>
     have HC:=kz (fun w =>by have:=qO x.1 w;rwa [h1] at this);have HS:=kz (fun w =>by have:=XW x.2 (oz HZ x (YH (oz HK))).1 (oz HZ x (YH (oz HK))).2 w;rwa [hs] at this);have hf:ZO x=5:=by unfold ZO;rw [h1,hs];rfl
     have HE:=kz ((oz HO).bad (oz HK) 5 (by rw [hf];decide));rw [hf] at HE;clear hf HO HK;clear ea hs;clear h1;go_wp2_with fail
     refine (oz HC _).mono ?_;rintro e wx ⟨rfl,hw⟩;rw [hw];clear hw wx;go_wp2_with fail
     refine (oz HS _).mono ?_;rintro e w3 ⟨rfl,hbx⟩;have HX1:=kz ((oz HX).below hbx);clear hbx HX HS zz c0 c1;have r0:=(oz HX1).rx.rs.cell 0;have f0:=(oz HX1).rx.rs.frozen 0;have r1:=(oz HX1).rx.rs.cell 1;have f1:=(oz HX1).rx.rs.frozen 1;have r2:=(oz HX1).rx.rs.cell 2;have f2:=(oz HX1).rx.rs.frozen 2;go_wp2_with fail
     exact oz HR _ _ (oz HE) (by decide) _ _ rfl rfl (kz ((oz HX1).put _ _ _))
    | false =>
     have HC:=kz (fun w =>by have:=qO x.1 w;rwa [h1] at this);have HS:=kz (fun w =>by have:=XW x.2 (oz HZ x (YH (oz HK))).1 (oz HZ x (YH (oz HK))).2 w;rwa [hs] at this);have hf:ZO x=0:=by unfold ZO;rw [h1,hs];rfl
     have HO2:=kz ((oz HO).next (oz HK) hf);clear hf HO HK;clear ea hs;clear h1;go_wp2_with fail
     refine (oz HC _).mono ?_;rintro e wx ⟨rfl,hw⟩;rw [hw];clear hw wx;go_wp2_with fail
     refine (oz HS _).mono ?_;rintro e w3 ⟨rfl,hbx⟩;have HX1:=kz ((oz HX).below hbx);clear hbx HX HS zz c0 c1;go_wp2_with fail
     exact ⟨⟨k+1,by omega,by first | rfl | go_num,HO2,HX1⟩,by simp [intOf];omega⟩
  ·have k1:¬ (k:Int) < (T.fo.length:Int):=by omega
   have zz:=(oz HX).rx.tb.z4;have HE:=kz ((oz HO).ok (by omega) 5);clear HO HR;go_wp2_with fail
   exact oz HN (oz HE) _ _ (zq rfl) HX
noncomputable def uaRe:Code:=match Tryz.f104.body with
 | some (.seq _ (.seq _ (.seq _ (.seq _ (.seq _ (.seq c _)))))) =>c
 | _ =>.skip
theorem zgV (T:TV) (hT:TabB T) (A:TbA) (W w:World) (hO:zx T)  (h:RxS W w T A) (U:Nat→Value) {Q:Exit→Act→World→Prop}
  (hN:zg 6 T.lk mp0 (Qx)=(0,0,0)→∀ (a:Act) (wn:World),(∃ U',a=XG W U')→Hz (RxT W w wn T A)→Q .normal a wn)
  (hR:∀ (y k:Int),zg 6 T.lk mp0 (Qx)=(y,6,k)→y≠0→∀ (a:Act) (wn:World),a.tmps.getD 2 undef=.pointer (some ⟨W.heap.size+1,0,none⟩)→a.defers=[]→Hz (RxD W wn (y,6,k))→Q .ret a wn) :
  Code.wp Tryz.prog uaRe Q (XG W U) w:=by
 have HN:=kz hN;have HR:=kz hR;have HX:=kz (RxT.refl h);have hln:=hT.n5;have HZ:=kz (fun x (hx:x ∈ T.lk) =>yB (hT.z5 x hx) (Jn (hO.f5 x hx).2).1);clear hN hR h
 delta uaRe Tryz.f104 XG at *
 dsimp only;go_wp2_with fail
 go_loopw [8] (fun i wr => ∃ k:Nat,k≤T.lk.length∧i=.int .i64 k∧Hz (OkTo T.lk mp0 (Qx) k)∧Hz (RxT W w wr T A)) (fun i _ =>T.lk.length - (intOf i).toNat)
 case atStart =>exact ⟨0,Zn _,rfl,kz (OkTo.zero _ _ _),HX⟩
 case round =>
  clear HX;obtain ⟨k,hk,rfl,HO,HX⟩:=hrel;by_cases hkn:k < T.lk.length
  ·obtain ⟨x,hx⟩:∃ x,T.lk[k]?=some x:=⟨_,qR hkn⟩;obtain ⟨g,o,ea,hg,c0,c1⟩:=za8 (oz HX).rx.tb.ti.r5 hx;have HK:=kz hx;have HG:=kz hg;have k1:(k:Int) < (T.lk.length:Int):=by omega
   have k2:=Zp k
   have zz:=(oz HX).rx.tb.z5;rw [ea] at zz;clear hg hx;cases h1:Qw x.1 with
   | true =>
    have hf:Qx x=5:=by unfold Qx;rw [h1];rfl
    have HE:=kz ((oz HO).bad (oz HK) 6 (by rw [hf];decide));rw [hf] at HE;clear hf HO HK;have HC:=kz (fun w =>by have:=Jc x.1 w;rwa [h1] at this);clear ea h1;go_wp2_with fail
    refine (oz HC _).mono ?_;rintro e wx ⟨rfl,hw⟩;rw [hw];clear hw wx;have r0:=(oz HX).rx.rs.cell 0;have f0:=(oz HX).rx.rs.frozen 0;have r1:=(oz HX).rx.rs.cell 1;have f1:=(oz HX).rx.rs.frozen 1;have r2:=(oz HX).rx.rs.cell 2;have f2:=(oz HX).rx.rs.frozen 2;go_wp2_with fail
    exact oz HR _ _ (oz HE) (by decide) _ _ rfl rfl (kz ((oz HX).put _ _ _))
   | false =>
    cases hs:Za x.2 with
    | true =>
     have HC:=kz (fun w =>by have:=Jc x.1 w;rwa [h1] at this);have HS:=kz (fun w =>by have:=XW x.2 (oz HZ x (YH (oz HK))).1 (oz HZ x (YH (oz HK))).2 w;rwa [hs] at this);have hf:Qx x=5:=by unfold Qx;rw [h1,hs];rfl
     have HE:=kz ((oz HO).bad (oz HK) 6 (by rw [hf];decide));rw [hf] at HE;clear hf HO HK;clear ea hs;clear h1;go_wp2_with fail
     refine (oz HC _).mono ?_;rintro e wx ⟨rfl,hw⟩;rw [hw];clear hw wx;go_wp2_with fail
     refine (oz HS _).mono ?_;rintro e w3 ⟨rfl,hbx⟩;have HX1:=kz ((oz HX).below hbx);clear hbx HX HS zz c0 c1;have r0:=(oz HX1).rx.rs.cell 0;have f0:=(oz HX1).rx.rs.frozen 0;have r1:=(oz HX1).rx.rs.cell 1;have f1:=(oz HX1).rx.rs.frozen 1;have r2:=(oz HX1).rx.rs.cell 2;have f2:=(oz HX1).rx.rs.frozen 2;go_wp2_with fail
     exact oz HR _ _ (oz HE) (by decide) _ _ rfl rfl (kz ((oz HX1).put _ _ _))
    | false =>
     have HC:=kz (fun w =>by have:=Jc x.1 w;rwa [h1] at this);have HS:=kz (fun w =>by have:=XW x.2 (oz HZ x (YH (oz HK))).1 (oz HZ x (YH (oz HK))).2 w;rwa [hs] at this);have hf:Qx x=0:=by unfold Qx;rw [h1,hs];rfl
     have HO2:=kz ((oz HO).next (oz HK) hf);clear hf HO HK;clear ea hs;clear h1;go_wp2_with fail
     refine (oz HC _).mono ?_;rintro e wx ⟨rfl,hw⟩;rw [hw];clear hw wx;go_wp2_with fail
     refine (oz HS _).mono ?_;rintro e w3 ⟨rfl,hbx⟩;have HX1:=kz ((oz HX).below hbx);clear hbx HX HS zz c0 c1;go_wp2_with fail
     exact ⟨⟨k+1,by omega,by first | rfl | go_num,HO2,HX1⟩,by simp [intOf];omega⟩
  ·have k1:¬ (k:Int) < (T.lk.length:Int):=by omega
   have zz:=(oz HX).rx.tb.z5;have HE:=kz ((oz HO).ok (by omega) 6);clear HO HR;go_wp2_with fail
   exact oz HN (oz HE) _ _ (zq rfl) HX
theorem zdY (T:TV) (hT:TabB T) (hO:zx T) (v:Value) (W:World) (hv:TbV W T v) :
  Calls Tryz.prog 104 #[v] W fun e w' =>e=.returned (wrV (orW [jM 2 T.co comL,zg 3 T.ma ma0 Kx,zg 4 T.pr pr0 Kw,zg 5 T.fo mp0 ZO,zg 6 T.lk mp0 Qx]))∧Below W.heap.size W w':=by
 obtain ⟨A,rfl,hA⟩:=hv;have HX:=kz (RxS.start hA);have HT:=kz hT;have HO:=kz hO;have HV:∃ mb,Hz (orW [jM 2 T.co comL,zg 3 T.ma ma0 Kx,zg 4 T.pr pr0 Kw,zg 5 T.fo mp0 ZO,zg 6 T.lk mp0 Qx]=mb):=⟨_,kz rfl⟩;obtain ⟨mb,HV⟩:=HV;rw [show orW [jM 2 T.co comL,zg 3 T.ma ma0 Kx,zg 4 T.pr pr0 Kw,zg 5 T.fo mp0 ZO,zg 6 T.lk mp0 Qx]=mb from oz HV];clear hA hT hO;go_enter Tryz.func104,Tryz.ntmps104;refine wp_seq_k (fun K0 hK0 =>?_);have HK0:=kz hK0;clear hK0;go_wp2_with fail
 refine oz HK0 _ _ ?_;clear HK0 K0;generalize (W.alloc _).alloc _=w0 at *;have hR:∀ (y l k:Int),mb=(y,l,k)→∀ (a:Act) (wn:World),a.tmps.getD 2 undef=.pointer (some ⟨W.heap.size+1,0,none⟩)→a.defers=[]→Hz (RxD W wn (y,l,k))→bodyPost Tryz.prog Tryz.f104 (fun e w' =>e=.returned (wrV mb)∧Below W.heap.size W w') .ret a wn:=fun y l k e a wn h1 h2 h3 =>by
  subst e;exact XS (v:=wrV (y,l,k)) (jA Tryz.results104 h1 (oz h3).rs rfl) h2 ⟨rfl,(oz h3).bl⟩
 refine wp_seq_k (fun K1 hK1 =>?_);refine zN (F:=XG W) (zq rfl) (fun U =>?_);refine zgZ T (oz HT) A W _ (oz HX) U ?_ ?_
 rotate_left
 ·intro y k e hy a wn h1 h2 h3;exact hR y _ k (by rw [← oz HV,zj (by rw [e];exact hy),e]) a wn h1 h2 h3
 intro E1 a w1 ⟨U1,hU⟩ hx;subst hU;have HX1:=kz (oz hx).rx;clear hx;refine hK1 _ _ ?_;clear hK1 K1;refine wp_seq_k (fun K2 hK2 =>?_);refine zN (F:=XG W) ⟨U1,rfl⟩ (fun U =>?_);refine zgY T (oz HT) A W _ (oz HX1) U ?_ ?_
 rotate_left
 ·intro y k e hy a wn h1 h2 h3;exact hR y _ k (by rw [← oz HV,ze (by rw [E1]),zj (by rw [e];exact hy),e]) a wn h1 h2 h3
 intro E2 a w2 ⟨U2,hU⟩ hx;subst hU;have HX2:=kz (oz hx).rx;clear hx;refine hK2 _ _ ?_;clear hK2 K2;refine wp_seq_k (fun K3 hK3 =>?_);refine zN (F:=XG W) ⟨U2,rfl⟩ (fun U =>?_);refine zgX T (oz HT) A W _ (oz HX2) U ?_ ?_
 rotate_left
 ·intro y k e hy a wn h1 h2 h3;exact hR y _ k (by rw [← oz HV,ze (by rw [E1]),ze (by rw [E2]),zj (by rw [e];exact hy),e]) a wn h1 h2 h3
 intro E3 a w3 ⟨U3,hU⟩ hx;subst hU;have HX3:=kz (oz hx).rx;clear hx;refine hK3 _ _ ?_;clear hK3 K3;refine wp_seq_k (fun K4 hK4 =>?_);refine zN (F:=XG W) ⟨U3,rfl⟩ (fun U =>?_);refine zgW T (oz HT) A W _ (oz HO) (oz HX3) U ?_ ?_
 rotate_left
 ·intro y k e hy a wn h1 h2 h3;exact hR y _ k (by rw [← oz HV,ze (by rw [E1]),ze (by rw [E2]),ze (by rw [E3]),zj (by rw [e];exact hy),e]) a wn h1 h2 h3
 intro E4 a w4 ⟨U4,hU⟩ hx;subst hU;have HX4:=kz (oz hx).rx;clear hx;refine hK4 _ _ ?_;clear hK4 K4;refine wp_seq_k (fun K5 hK5 =>?_);refine zN (F:=XG W) ⟨U4,rfl⟩ (fun U =>?_);refine zgV T (oz HT) A W _ (oz HO) (oz HX4) U ?_ ?_
 rotate_left
 ·intro y k e hy a wn h1 h2 h3;exact hR y _ k (by rw [← oz HV,ze (by rw [E1]),ze (by rw [E2]),ze (by rw [E3]),ze (by rw [E4]),zj (by rw [e];exact hy),e]) a wn h1 h2 h3
 intro E5 a w5 ⟨U5,hU⟩ hx;subst hU;have HX5:=kz (oz hx).rx;clear hx;refine hK5 _ _ ?_;clear hK5 K5;have hm:mb=(0,0,0):=by
  rw [← oz HV,ze (by rw [E1]),ze (by rw [E2]),ze (by rw [E3]),ze (by rw [E4]),ze (by rw [E5])];rfl
 subst hm;clear hR HV E1 E2 E3 E4 E5;refine zN (F:=XG W) ⟨U5,rfl⟩ (fun U =>?_);unfold XG;have r0:=(oz HX5).rs.cell 0;have f0:=(oz HX5).rs.frozen 0;have r1:=(oz HX5).rs.cell 1;have f1:=(oz HX5).rs.frozen 1;have r2:=(oz HX5).rs.cell 2;have f2:=(oz HX5).rs.frozen 2;go_wp2_with fail
 exact XS (v:=wrV (0,0,0)) (jA Tryz.results104 rfl (jG (oz HX5).rs _ _ _) rfl) rfl ⟨rfl,((oz HX5).put (0,0,0)).bl⟩
end Go.Proofs.YthchopdfmchpkaaGreat
