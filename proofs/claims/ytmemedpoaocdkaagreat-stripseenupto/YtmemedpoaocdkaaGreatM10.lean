/- Texts of this claim, one behind the other. -/
import Derived.Test.YtmemedpoaocdkaaGreatM9
namespace Go.Proofs.YtmemedpoaocdkaaGreat
open Go.RowKit Go.Shelf
set_option linter.unusedVariables false
set_option maxRecDepth 100000
set_option maxHeartbeats 8000000
structure CkS (W w:World) (B:Nat) (T:TV) (A:TbA) (x:Int × Int × Int):Prop where
 bl:Below W.heap.size W w
 bx:Blk w W.heap.size #[.slice A.a0 T.sc.length A.c0,.slice A.a1 T.co.length A.c1,.slice A.a2 T.ma.length A.c2,.slice A.a3 T.pr.length A.c3,.slice A.a4 T.fo.length A.c4,.slice A.a5 T.lk.length A.c5,.slice A.a6 T.dr.length A.c6,.slice A.a7 T.al.length A.c7] 28
 rs:Blk w (W.heap.size+1) #[.int .i64 0,.int .i64 0,.int .i64 0] 76
 bw:Blk w B (wrC x) 76
 lo:W.heap.size+2≤B
section
variable {W w w':World} {B:Nat} {T:TV} {A:TbA} {x:Int × Int × Int}
theorem CkS.below (h:CkS W w B T A x) (hb:Below w.heap.size w w'):CkS W w' B T A x:=⟨h.bl.trans (hb.mono h.bl.size),h.bx.below hb h.bx.lt,h.rs.below hb h.rs.lt,h.bw.below hb h.bw.lt,h.lo⟩
theorem CkS.rx (h:CkS W w B T A x) (hT:zfM W T A):RxS W w T A:=⟨⟨h.bl,h.bx,hT.lower h.bl⟩,h.rs⟩
theorem CkS.put (h:CkS W w B T A x) (y:Int × Int × Int):CkS W (((w.setCell ⟨B,0,none⟩ (.int .i64 y.1)).setCell ⟨B,1,none⟩ (.int .i64 y.2.1)).setCell ⟨B,2,none⟩ (.int .i64 y.2.2)) B T A y :=
 have hl:=h.lo
 ⟨zaW h.bl (by omega) h.bl.size _ _ _,((h.bx.other (by omega) _).other (by omega) _).other (by omega) _,((h.rs.other (by omega) _).other (by omega) _).other (by omega) _,zcf h.bw _ _ _,hl⟩
theorem CkS.end (h:CkS W w B T A x):RxD W (((w.setCell ⟨W.heap.size+1,0,none⟩ (.int .i64 x.1)).setCell ⟨W.heap.size+1,1,none⟩ (.int .i64 x.2.1)).setCell ⟨W.heap.size+1,2,none⟩ (.int .i64 x.2.2)) x :=
 ⟨zaW h.bl (by omega) h.bl.size _ _ _,zcf h.rs _ _ _⟩
theorem CkS.start {w1:World} (h:RxS W w1 T A) (x:Int × Int × Int):CkS W (w1.alloc (.cells (wrC x) 76)) w1.heap.size T A x :=
 have hb:=zf8 w1 (.cells (wrC x) 76)
 have hs:=h.rs.lt
 ⟨(h.below hb).tb.bl,(h.below hb).tb.bx,(h.below hb).rs,Blk.new _ _ _,by omega⟩
end
def zb7 (W:World) (v5:Value) (U:Nat→Value):Act:={ tmps:=#[U 0,.pointer (some ⟨W.heap.size,0,none⟩),.pointer (some ⟨W.heap.size+1,0,none⟩),U 3,U 4,v5,U 6,U 7,U 8,U 9,U 10,U 11,U 12,U 13,U 14,U 15,U 16,U 17,U 18,U 19,U 20,U 21,U 22,U 23,U 24,U 25,U 26,U 27,U 28,U 29,U 30,U 31,U 32,U 33,U 34,U 35,U 36,U 37,U 38,U 39,U 40,U 41,U 42,U 43,U 44,U 45,U 46,U 47,U 48,U 49,U 50,U 51,U 52,U 53,U 54,U 55,U 56,U 57,U 58,U 59,U 60,U 61,U 62,U 63,U 64,U 65,U 66,U 67,U 68,U 69,U 70,U 71,U 72,U 73,U 74,U 75,U 76,U 77,U 78,U 79,U 80,U 81,U 82,U 83,U 84,U 85,U 86,U 87,U 88,U 89,U 90,U 91,U 92,U 93,U 94,U 95,U 96,U 97,U 98,U 99,U 100,U 101,U 102,U 103,U 104,U 105,U 106,U 107,U 108,U 109,U 110,U 111,U 112,U 113,U 114,U 115,U 116,U 117,U 118,U 119,U 120,U 121,U 122,U 123,U 124,U 125,U 126],defers := [] }
noncomputable def uaFa:Code:=match Tryz.f55.body with
 | some (.seq _ (.seq c _)) =>c
 | _ =>.skip
theorem zn9 (T:TV) (hT:TabB T) (A:TbA) (W w:World) (v5:Value)  (h:RxS W w T A) (U:Nat→Value) {Q:Exit→Act→World→Prop}
  (hN:zaf 1 T.sc sc0 (scF)=(0,0,0)→∀ (a:Act) (wn:World),(∃ U',a=zb7 W v5 U')→Hz (RxT W w wn T A)→Q .normal a wn)
  (hR:∀ (y k:Int),zaf 1 T.sc sc0 (scF)=(y,1,k)→y≠0→∀ (a:Act) (wn:World),a.tmps.getD 2 undef=.pointer (some ⟨W.heap.size+1,0,none⟩)→a.defers=[]→Hz (RxD W wn (y,1,k))→Q .ret a wn) :
  Code.wp Tryz.prog uaFa Q (zb7 W v5 U) w:=by
 have HN:=kz hN
 have HR:=kz hR
 have HX:=kz (RxT.refl h)
 have hln:=hT.n0
 have HZ:=kz hT.z0
 clear hN hR h
 delta uaFa Tryz.f55 zb7 at *
 dsimp only
 go_wp2_with fail
 go_loopw [3] (fun i wr => ∃ k:Nat,k≤T.sc.length∧i=.int .i64 k∧Hz (OkTo T.sc sc0 (scF) k)∧Hz (RxT W w wr T A)) (fun i _ =>T.sc.length - (intOf i).toNat)
 case atStart =>exact ⟨0,Nat.zero_le _,rfl,kz (OkTo.zero _ _ _),HX⟩
 case round =>
  clear HX
  obtain ⟨k,hk,rfl,HO,HX⟩:=hrel
  by_cases hkn:k < T.sc.length
  ·obtain ⟨x,hx⟩:∃ x,T.sc[k]?=some x:=⟨_,List.getElem?_eq_getElem hkn⟩
   obtain ⟨g,o,bq,dq,ea,hg,c0,c1,hrow⟩:=zoy (oz HX).rx.tb.ti hx
   have HRW:=kz hrow
   clear hrow
   have HK:=kz hx
   have HG:=kz hg
   have k1:(k:Int) < (T.sc.length:Int):=by omega
   have k2:((k:Nat):Int).toNat=k:=by omega
   have zz:=(oz HX).rx.tb.z0
   rw [ea] at zz
   clear hg hx
   obtain ⟨y,hy⟩:∃ y,scF x=y:=⟨_,rfl⟩
   have HC:=kz (by have:=ziG x.1 (by have:=(oz HZ x (List.mem_of_getElem? (oz HK))).1;unfold maxLen;omega) x.2 (oz HZ x (List.mem_of_getElem? (oz HK))).2 bq dq wr (oz HRW);rw [show scF (x.1,x.2)=y from hy] at this;exact this)
   clear ea HRW HZ
   by_cases hy0:y=0
   ·subst hy0
    have HO2:=kz ((oz HO).next (oz HK) hy)
    clear hy HO HK
    go_wp2_with fail
    refine (oz HC).mono ?_
    rintro e w3 ⟨rfl,hbx⟩
    have HX1:=kz ((oz HX).below hbx)
    clear hbx HX HC zz c0 c1
    go_wp2_with fail
    exact ⟨⟨k+1,by omega,by first | rfl | go_num,HO2,HX1⟩,by simp [intOf];omega⟩
   ·have HE:=kz ((oz HO).bad (oz HK) 1 (by rw [hy];exact hy0))
    rw [hy] at HE
    have HY:=kz hy0
    have q:(y == 0)=false:=by simpa using hy0
    clear hy HO HK hy0
    go_wp2_with fail
    refine (oz HC).mono ?_
    rintro e w3 ⟨rfl,hbx⟩
    have HX1:=kz ((oz HX).below hbx)
    clear hbx HX HC zz c0 c1
    have r0:=(oz HX1).rx.rs.cell 0
    have f0:=(oz HX1).rx.rs.frozen 0
    have r1:=(oz HX1).rx.rs.cell 1
    have f1:=(oz HX1).rx.rs.frozen 1
    have r2:=(oz HX1).rx.rs.cell 2
    have f2:=(oz HX1).rx.rs.frozen 2
    go_wp2_with fail
    exact oz HR _ _ (oz HE) (oz HY) _ _ rfl rfl (kz ((oz HX1).put _ _ _))
  ·have k1:¬ (k:Int) < (T.sc.length:Int):=by omega
   have zz:=(oz HX).rx.tb.z0
   have HE:=kz ((oz HO).ok (by omega) 1)
   clear HO HR
   go_wp2_with fail
   exact oz HN (oz HE) _ _ (zau rfl) HX
noncomputable def uaFb:Code:=match Tryz.f55.body with
 | some (.seq _ (.seq _ (.seq _ (.seq _ (.seq c _))))) =>c
 | _ =>.skip
theorem zn8 (T:TV) (hT:TabB T) (A:TbA) (W w:World) (v5:Value)  (h:RxS W w T A) (U:Nat→Value) {Q:Exit→Act→World→Prop}
  (hN:zaf 3 T.ma ma0 (maF)=(0,0,0)→∀ (a:Act) (wn:World),(∃ U',a=zb7 W v5 U')→Hz (RxT W w wn T A)→Q .normal a wn)
  (hR:∀ (y k:Int),zaf 3 T.ma ma0 (maF)=(y,3,k)→y≠0→∀ (a:Act) (wn:World),a.tmps.getD 2 undef=.pointer (some ⟨W.heap.size+1,0,none⟩)→a.defers=[]→Hz (RxD W wn (y,3,k))→Q .ret a wn) :
  Code.wp Tryz.prog uaFb Q (zb7 W v5 U) w:=by
 have HN:=kz hN
 have HR:=kz hR
 have HX:=kz (RxT.refl h)
 have hln:=hT.n2
 have HZ:=kz hT.z2
 clear hN hR h
 delta uaFb Tryz.f55 zb7 at *
 dsimp only
 go_wp2_with fail
 go_loopw [6] (fun i wr => ∃ k:Nat,k≤T.ma.length∧i=.int .i64 k∧Hz (OkTo T.ma ma0 (maF) k)∧Hz (RxT W w wr T A)) (fun i _ =>T.ma.length - (intOf i).toNat)
 case atStart =>exact ⟨0,Nat.zero_le _,rfl,kz (OkTo.zero _ _ _),HX⟩
 case round =>
  clear HX
  obtain ⟨k,hk,rfl,HO,HX⟩:=hrel
  by_cases hkn:k < T.ma.length
  ·obtain ⟨x,hx⟩:∃ x,T.ma[k]?=some x:=⟨_,List.getElem?_eq_getElem hkn⟩
   obtain ⟨g,o,ea,hg,c0,c1⟩:=zqq (oz HX).rx.tb.ti.r2 hx
   have HK:=kz hx
   have HG:=kz hg
   have k1:(k:Int) < (T.ma.length:Int):=by omega
   have k2:((k:Nat):Int).toNat=k:=by omega
   have zz:=(oz HX).rx.tb.z2
   rw [ea] at zz
   clear hg hx
   cases r0:zan x.1 with
   | false =>
    have hf:maF x=12:=by unfold maF;rw [r0];rfl
    have HE:=kz ((oz HO).bad (oz HK) 3 (by rw [hf];decide))
    rw [hf] at HE
    clear hf HO HK
    have HA:=kz (fun w =>by have:=zax x.1 w;rwa [r0] at this)
    clear ea r0
    go_wp2_with fail
    refine (oz HA _).mono ?_
    rintro e wx ⟨rfl,hw⟩
    rw [hw]
    clear hw wx
    have r0:=(oz HX).rx.rs.cell 0
    have f0:=(oz HX).rx.rs.frozen 0
    have r1:=(oz HX).rx.rs.cell 1
    have f1:=(oz HX).rx.rs.frozen 1
    have r2:=(oz HX).rx.rs.cell 2
    have f2:=(oz HX).rx.rs.frozen 2
    go_wp2_with fail
    exact oz HR _ _ (oz HE) (by decide) _ _ rfl rfl (kz ((oz HX).put _ _ _))
   | true =>
    by_cases h1:x.2 < 1
    ·have hf:maF x=30:=by unfold maF;rw [r0,if_pos rfl,if_pos (by omega)]
     have HE:=kz ((oz HO).bad (oz HK) 3 (by rw [hf];decide))
     rw [hf] at HE
     clear hf HO HK
     have HA:=kz (fun w =>by have:=zax x.1 w;rwa [r0] at this)
     clear ea r0
     go_wp2_with fail
     refine (oz HA _).mono ?_
     rintro e wx ⟨rfl,hw⟩
     rw [hw]
     clear hw wx
     have r0:=(oz HX).rx.rs.cell 0
     have f0:=(oz HX).rx.rs.frozen 0
     have r1:=(oz HX).rx.rs.cell 1
     have f1:=(oz HX).rx.rs.frozen 1
     have r2:=(oz HX).rx.rs.cell 2
     have f2:=(oz HX).rx.rs.frozen 2
     go_wp2_with fail
     exact oz HR _ _ (oz HE) (by decide) _ _ rfl rfl (kz ((oz HX).put _ _ _))
    ·by_cases h2:254 < x.2
     ·have hf:maF x=30:=by unfold maF;rw [r0,if_pos rfl,if_pos (by omega)]
      have HE:=kz ((oz HO).bad (oz HK) 3 (by rw [hf];decide))
      rw [hf] at HE
      clear hf HO HK
      have HA:=kz (fun w =>by have:=zax x.1 w;rwa [r0] at this)
      clear ea r0
      go_wp2_with fail
      refine (oz HA _).mono ?_
      rintro e wx ⟨rfl,hw⟩
      rw [hw]
      clear hw wx
      have r0:=(oz HX).rx.rs.cell 0
      have f0:=(oz HX).rx.rs.frozen 0
      have r1:=(oz HX).rx.rs.cell 1
      have f1:=(oz HX).rx.rs.frozen 1
      have r2:=(oz HX).rx.rs.cell 2
      have f2:=(oz HX).rx.rs.frozen 2
      go_wp2_with fail
      exact oz HR _ _ (oz HE) (by decide) _ _ rfl rfl (kz ((oz HX).put _ _ _))
     ·have hf:maF x=0:=by unfold maF;rw [r0,if_pos rfl,if_neg (by omega)]
      have HO2:=kz ((oz HO).next (oz HK) hf)
      clear hf HO HK
      have HA:=kz (fun w =>by have:=zax x.1 w;rwa [r0] at this)
      clear ea r0
      go_wp2_with fail
      refine (oz HA _).mono ?_
      rintro e wx ⟨rfl,hw⟩
      rw [hw]
      clear hw wx
      go_wp2_with fail
      exact ⟨⟨k+1,by omega,by first | rfl | go_num,HO2,HX⟩,by simp [intOf];omega⟩
  ·have k1:¬ (k:Int) < (T.ma.length:Int):=by omega
   have zz:=(oz HX).rx.tb.z2
   have HE:=kz ((oz HO).ok (by omega) 3)
   clear HO HR
   go_wp2_with fail
   exact oz HN (oz HE) _ _ (zau rfl) HX
noncomputable def uaFc:Code:=match Tryz.f55.body with
 | some (.seq _ (.seq _ (.seq _ (.seq _ (.seq _ (.seq c _)))))) =>c
 | _ =>.skip
theorem zn7 (T:TV) (hT:TabB T) (A:TbA) (W w:World) (v5:Value)  (h:RxS W w T A) (U:Nat→Value) {Q:Exit→Act→World→Prop}
  (hN:zaf 4 T.pr pr0 (prF)=(0,0,0)→∀ (a:Act) (wn:World),(∃ U',a=zb7 W v5 U')→Hz (RxT W w wn T A)→Q .normal a wn)
  (hR:∀ (y k:Int),zaf 4 T.pr pr0 (prF)=(y,4,k)→y≠0→∀ (a:Act) (wn:World),a.tmps.getD 2 undef=.pointer (some ⟨W.heap.size+1,0,none⟩)→a.defers=[]→Hz (RxD W wn (y,4,k))→Q .ret a wn) :
  Code.wp Tryz.prog uaFc Q (zb7 W v5 U) w:=by
 have HN:=kz hN
 have HR:=kz hR
 have HX:=kz (RxT.refl h)
 have hln:=hT.n3
 clear hN hR h
 delta uaFc Tryz.f55 zb7 at *
 dsimp only
 go_wp2_with fail
 go_loopw [7] (fun i wr => ∃ k:Nat,k≤T.pr.length∧i=.int .i64 k∧Hz (OkTo T.pr pr0 (prF) k)∧Hz (RxT W w wr T A)) (fun i _ =>T.pr.length - (intOf i).toNat)
 case atStart =>exact ⟨0,Nat.zero_le _,rfl,kz (OkTo.zero _ _ _),HX⟩
 case round =>
  clear HX
  obtain ⟨k,hk,rfl,HO,HX⟩:=hrel
  by_cases hkn:k < T.pr.length
  ·obtain ⟨x,hx⟩:∃ x,T.pr[k]?=some x:=⟨_,List.getElem?_eq_getElem hkn⟩
   obtain ⟨g,o,ea,hg,c0,c1,c2⟩:=zoz (oz HX).rx.tb.ti.r3 hx
   have HK:=kz hx
   have HG:=kz hg
   have k1:(k:Int) < (T.pr.length:Int):=by omega
   have k2:((k:Nat):Int).toNat=k:=by omega
   have zz:=(oz HX).rx.tb.z3
   rw [ea] at zz
   clear hg hx
   cases r0:zan x.1 with
   | false =>
    have hf:prF x=12:=by unfold prF;rw [r0];rfl
    have HE:=kz ((oz HO).bad (oz HK) 4 (by rw [hf];decide))
    rw [hf] at HE
    clear hf HO HK
    have HA0:=kz (fun w =>by have:=zax x.1 w;rwa [r0] at this)
    clear ea r0
    go_wp2_with fail
    refine (oz HA0 _).mono ?_
    rintro e wx ⟨rfl,hw⟩
    rw [hw]
    clear hw wx
    have r0:=(oz HX).rx.rs.cell 0
    have f0:=(oz HX).rx.rs.frozen 0
    have r1:=(oz HX).rx.rs.cell 1
    have f1:=(oz HX).rx.rs.frozen 1
    have r2:=(oz HX).rx.rs.cell 2
    have f2:=(oz HX).rx.rs.frozen 2
    go_wp2_with fail
    exact oz HR _ _ (oz HE) (by decide) _ _ rfl rfl (kz ((oz HX).put _ _ _))
   | true =>
    cases r1:zan x.2.1 with
    | false =>
     have hf:prF x=12:=by unfold prF;rw [r0,r1];rfl
     have HE:=kz ((oz HO).bad (oz HK) 4 (by rw [hf];decide))
     rw [hf] at HE
     clear hf HO HK
     have HA0:=kz (fun w =>by have:=zax x.1 w;rwa [r0] at this)
     have HA1:=kz (fun w =>by have:=zax x.2.1 w;rwa [r1] at this)
     clear ea r0 r1
     go_wp2_with fail
     refine (oz HA0 _).mono ?_
     rintro e wx ⟨rfl,hw⟩
     rw [hw]
     clear hw wx
     go_wp2_with fail
     refine (oz HA1 _).mono ?_
     rintro e wx ⟨rfl,hw⟩
     rw [hw]
     clear hw wx
     have r0:=(oz HX).rx.rs.cell 0
     have f0:=(oz HX).rx.rs.frozen 0
     have r1:=(oz HX).rx.rs.cell 1
     have f1:=(oz HX).rx.rs.frozen 1
     have r2:=(oz HX).rx.rs.cell 2
     have f2:=(oz HX).rx.rs.frozen 2
     go_wp2_with fail
     exact oz HR _ _ (oz HE) (by decide) _ _ rfl rfl (kz ((oz HX).put _ _ _))
    | true =>
     cases r2:zan x.2.2 with
     | false =>
      have hf:prF x=12:=by unfold prF;rw [r0,r1,r2];rfl
      have HE:=kz ((oz HO).bad (oz HK) 4 (by rw [hf];decide))
      rw [hf] at HE
      clear hf HO HK
      have HA0:=kz (fun w =>by have:=zax x.1 w;rwa [r0] at this)
      have HA1:=kz (fun w =>by have:=zax x.2.1 w;rwa [r1] at this)
      have HA2:=kz (fun w =>by have:=zax x.2.2 w;rwa [r2] at this)
      clear ea r0 r1 r2
      go_wp2_with fail
      refine (oz HA0 _).mono ?_
      rintro e wx ⟨rfl,hw⟩
      rw [hw]
      clear hw wx
      go_wp2_with fail
      refine (oz HA1 _).mono ?_
      rintro e wx ⟨rfl,hw⟩
      rw [hw]
      clear hw wx
      go_wp2_with fail
      refine (oz HA2 _).mono ?_
      rintro e wx ⟨rfl,hw⟩
      rw [hw]
      clear hw wx
      have r0:=(oz HX).rx.rs.cell 0
      have f0:=(oz HX).rx.rs.frozen 0
      have r1:=(oz HX).rx.rs.cell 1
      have f1:=(oz HX).rx.rs.frozen 1
      have r2:=(oz HX).rx.rs.cell 2
      have f2:=(oz HX).rx.rs.frozen 2
      go_wp2_with fail
      exact oz HR _ _ (oz HE) (by decide) _ _ rfl rfl (kz ((oz HX).put _ _ _))
     | true =>
      have hf:prF x=0:=by unfold prF;rw [r0,r1,r2];rfl
      have HO2:=kz ((oz HO).next (oz HK) hf)
      clear hf HO HK
      have HA0:=kz (fun w =>by have:=zax x.1 w;rwa [r0] at this)
      have HA1:=kz (fun w =>by have:=zax x.2.1 w;rwa [r1] at this)
      have HA2:=kz (fun w =>by have:=zax x.2.2 w;rwa [r2] at this)
      clear ea r0 r1 r2
      go_wp2_with fail
      refine (oz HA0 _).mono ?_
      rintro e wx ⟨rfl,hw⟩
      rw [hw]
      clear hw wx
      go_wp2_with fail
      refine (oz HA1 _).mono ?_
      rintro e wx ⟨rfl,hw⟩
      rw [hw]
      clear hw wx
      go_wp2_with fail
      refine (oz HA2 _).mono ?_
      rintro e wx ⟨rfl,hw⟩
      rw [hw]
      clear hw wx
      go_wp2_with fail
      exact ⟨⟨k+1,by omega,by first | rfl | go_num,HO2,HX⟩,by simp [intOf];omega⟩
  ·have k1:¬ (k:Int) < (T.pr.length:Int):=by omega
   have zz:=(oz HX).rx.tb.z3
   have HE:=kz ((oz HO).ok (by omega) 4)
   clear HO HR
   go_wp2_with fail
   exact oz HN (oz HE) _ _ (zau rfl) HX
set_option maxRecDepth 100000
set_option maxHeartbeats 8000000
theorem zfr {x:Int × Int × Int} (h:OkW x):orW [x]=x:=by
 by_cases e:x.1=0
 ·rw [zad e,h e];rfl
 ·exact zai e
theorem zco {l:List (Int × Int × Int)} {y:Int × Int × Int} (h:OkW y):orW (l++[y])=if (orW l).1=0 then y else orW l:=by rw [za3,zfr h]
theorem zpQ {l m:List (Int × Int × Int)}:orW (l++[orW m])=orW (l++m):=by rw [za3,za3,zfr (zbu m)]
theorem zf9 (list:Int) (l:List (Int × Int)):OkW (spW list l):=zbN _ _ _
theorem zga {α : Type} (list:Int) (l:List α) (d : α) (f : α→Int):OkW (zaf list l d f):=zbN _ _ _
noncomputable def uaFd:Code:=match Tryz.f55.body with
 | some (.seq _ (.seq _ (.seq _ (.seq _ (.seq _ (.seq _ (.seq c _))))))) =>c
 | _ =>.skip
theorem zn6 (T:TV) (hT:TabB T) (A:TbA) (W w:World) (B:Nat) (hTW:zfM W T A) (l:List (Int × Int × Int)) (h:CkS W w B T A (orW l)) (h0:(orW l).1=0) (U:Nat→Value) {Q:Exit→Act→World→Prop}
  (hQ:∀ (a:Act) (wn:World),(∃ U',a=zb7 W (.pointer (some ⟨B,0,none⟩)) U')→Hz (CkS W wn B T A (orW (l++[zaf 5 T.fo mp0 mpF])))→Q .normal a wn) :
  Code.wp Tryz.prog uaFd Q (zb7 W (.pointer (some ⟨B,0,none⟩)) U) w:=by
 have HQ:=kz hQ
 have HX:=kz h
 have HC:=kz (zhf 5 T.fo hT.n4 hT.z4 A.a4 A.c4 w (hTW.lower h.bl).r4)
 have HV:=kz (zco (l:=l) (y:=zaf 5 T.fo mp0 mpF) (zga _ _ _ _))
 obtain ⟨y,hy⟩:∃ y,zaf 5 T.fo mp0 mpF=y:=⟨_,rfl⟩
 obtain ⟨x,hx⟩:∃ x,orW l=x:=⟨_,rfl⟩
 rw [hy] at HC HV
 rw [hx] at HX HV h0
 rw [hy] at HQ
 rw [oz HV] at HQ
 clear HV hQ h hx hy hT hTW
 obtain ⟨x0,x1,x2⟩:=x
 obtain ⟨y0,y1,y2⟩:=y
 unfold wrV at HC
 dsimp only at HC HQ h0 HX
 delta uaFd Tryz.f55 zb7 at *
 dsimp only
 subst h0
 rw [if_pos rfl] at HQ
 have s0:=(oz HX).bw.cell 0
 have g0:=(oz HX).bw.frozen 0
 have s1:=(oz HX).bw.cell 1
 have g1:=(oz HX).bw.frozen 1
 have s2:=(oz HX).bw.cell 2
 have g2:=(oz HX).bw.frozen 2
 have z:=(oz HX).bx.cell 4
 go_wp2_with fail
 refine (oz HC).mono ?_
 rintro e w2 ⟨rfl,hb⟩
 have HX2:=kz ((oz HX).below hb)
 clear hb HC HX z
 clear s0 s1 s2 g0 g1 g2
 have s0:=(oz HX2).bw.cell 0
 have g0:=(oz HX2).bw.frozen 0
 have s1:=(oz HX2).bw.cell 1
 have g1:=(oz HX2).bw.frozen 1
 have s2:=(oz HX2).bw.cell 2
 have g2:=(oz HX2).bw.frozen 2
 go_wp2_with fail
 exact oz HQ _ _ (zau rfl) (kz ((oz HX2).put (y0,y1,y2)))
noncomputable def uaFe:Code:=match Tryz.f55.body with
 | some (.seq _ (.seq _ (.seq _ (.seq _ (.seq _ (.seq _ (.seq _ (.seq c _)))))))) =>c
 | _ =>.skip
theorem zn5 (T:TV) (hT:TabB T) (A:TbA) (W w:World) (B:Nat) (hTW:zfM W T A) (l:List (Int × Int × Int)) (h:CkS W w B T A (orW l)) (U:Nat→Value) {Q:Exit→Act→World→Prop}
  (hQ:∀ (a:Act) (wn:World),(∃ U',a=zb7 W (.pointer (some ⟨B,0,none⟩)) U')→Hz (CkS W wn B T A (orW (l++[zaf 6 T.lk mp0 mpF])))→Q .normal a wn) :
  Code.wp Tryz.prog uaFe Q (zb7 W (.pointer (some ⟨B,0,none⟩)) U) w:=by
 have HQ:=kz hQ
 have HX:=kz h
 have HC:=kz (zhf 6 T.lk hT.n5 hT.z5 A.a5 A.c5 w (hTW.lower h.bl).r5)
 have HV:=kz (zco (l:=l) (y:=zaf 6 T.lk mp0 mpF) (zga _ _ _ _))
 obtain ⟨y,hy⟩:∃ y,zaf 6 T.lk mp0 mpF=y:=⟨_,rfl⟩
 obtain ⟨x,hx⟩:∃ x,orW l=x:=⟨_,rfl⟩
 rw [hy] at HC HV
 rw [hx] at HX HV
 rw [hy] at HQ
 rw [oz HV] at HQ
 clear HV hQ h hx hy hT hTW
 obtain ⟨x0,x1,x2⟩:=x
 obtain ⟨y0,y1,y2⟩:=y
 unfold wrV at HC
 dsimp only at HC HQ HX
 delta uaFe Tryz.f55 zb7 at *
 dsimp only
 by_cases hx0:x0=0
 ·subst hx0
  rw [if_pos rfl] at HQ
  have s0:=(oz HX).bw.cell 0
  have g0:=(oz HX).bw.frozen 0
  have s1:=(oz HX).bw.cell 1
  have g1:=(oz HX).bw.frozen 1
  have s2:=(oz HX).bw.cell 2
  have g2:=(oz HX).bw.frozen 2
  have z:=(oz HX).bx.cell 5
  go_wp2_with fail
  refine (oz HC).mono ?_
  rintro e w2 ⟨rfl,hb⟩
  have HX2:=kz ((oz HX).below hb)
  clear hb HC HX z
  clear s0 s1 s2 g0 g1 g2
  have s0:=(oz HX2).bw.cell 0
  have g0:=(oz HX2).bw.frozen 0
  have s1:=(oz HX2).bw.cell 1
  have g1:=(oz HX2).bw.frozen 1
  have s2:=(oz HX2).bw.cell 2
  have g2:=(oz HX2).bw.frozen 2
  go_wp2_with fail
  exact oz HQ _ _ (zau rfl) (kz ((oz HX2).put (y0,y1,y2)))
 ·rw [if_neg hx0] at HQ
  have q:(x0 == 0)=false:=by simpa using hx0
  have s0:=(oz HX).bw.cell 0
  have g0:=(oz HX).bw.frozen 0
  have s1:=(oz HX).bw.cell 1
  have g1:=(oz HX).bw.frozen 1
  have s2:=(oz HX).bw.cell 2
  have g2:=(oz HX).bw.frozen 2
  go_wp2_with fail
  exact oz HQ _ _ (zau rfl) HX
noncomputable def uaFf:Code:=match Tryz.f55.body with
 | some (.seq _ (.seq _ (.seq _ (.seq _ (.seq _ (.seq _ (.seq _ (.seq _ (.seq c _))))))))) =>c
 | _ =>.skip
theorem zn4 (T:TV) (hT:TabB T) (A:TbA) (W w:World) (B:Nat) (hTW:zfM W T A) (l:List (Int × Int × Int)) (h:CkS W w B T A (orW l)) (U:Nat→Value) {Q:Exit→Act→World→Prop}
  (hQ:∀ (a:Act) (wn:World),(∃ U',a=zb7 W (.pointer (some ⟨B,0,none⟩)) U')→Hz (CkS W wn B T A (orW (l++[spW 7 T.dr])))→Q .normal a wn) :
  Code.wp Tryz.prog uaFf Q (zb7 W (.pointer (some ⟨B,0,none⟩)) U) w:=by
 have HQ:=kz hQ
 have HX:=kz h
 have HC:=kz (zdL 7 T.dr hT.n6 A.a6 A.c6 w (hTW.lower h.bl).r6)
 have HV:=kz (zco (l:=l) (y:=spW 7 T.dr) (zf9 _ _))
 obtain ⟨y,hy⟩:∃ y,spW 7 T.dr=y:=⟨_,rfl⟩
 obtain ⟨x,hx⟩:∃ x,orW l=x:=⟨_,rfl⟩
 rw [hy] at HC HV
 rw [hx] at HX HV
 rw [hy] at HQ
 rw [oz HV] at HQ
 clear HV hQ h hx hy hT hTW
 obtain ⟨x0,x1,x2⟩:=x
 obtain ⟨y0,y1,y2⟩:=y
 unfold wrV at HC
 dsimp only at HC HQ HX
 delta uaFf Tryz.f55 zb7 at *
 dsimp only
 by_cases hx0:x0=0
 ·subst hx0
  rw [if_pos rfl] at HQ
  have s0:=(oz HX).bw.cell 0
  have g0:=(oz HX).bw.frozen 0
  have s1:=(oz HX).bw.cell 1
  have g1:=(oz HX).bw.frozen 1
  have s2:=(oz HX).bw.cell 2
  have g2:=(oz HX).bw.frozen 2
  have z:=(oz HX).bx.cell 6
  go_wp2_with fail
  refine (oz HC).mono ?_
  rintro e w2 ⟨rfl,hb⟩
  have HX2:=kz ((oz HX).below hb)
  clear hb HC HX z
  clear s0 s1 s2 g0 g1 g2
  have s0:=(oz HX2).bw.cell 0
  have g0:=(oz HX2).bw.frozen 0
  have s1:=(oz HX2).bw.cell 1
  have g1:=(oz HX2).bw.frozen 1
  have s2:=(oz HX2).bw.cell 2
  have g2:=(oz HX2).bw.frozen 2
  go_wp2_with fail
  exact oz HQ _ _ (zau rfl) (kz ((oz HX2).put (y0,y1,y2)))
 ·rw [if_neg hx0] at HQ
  have q:(x0 == 0)=false:=by simpa using hx0
  have s0:=(oz HX).bw.cell 0
  have g0:=(oz HX).bw.frozen 0
  have s1:=(oz HX).bw.cell 1
  have g1:=(oz HX).bw.frozen 1
  have s2:=(oz HX).bw.cell 2
  have g2:=(oz HX).bw.frozen 2
  go_wp2_with fail
  exact oz HQ _ _ (zau rfl) HX
noncomputable def uaFg:Code:=match Tryz.f55.body with
 | some (.seq _ (.seq _ (.seq _ (.seq _ (.seq _ (.seq _ (.seq _ (.seq _ (.seq _ (.seq c _)))))))))) =>c
 | _ =>.skip
theorem zn3 (T:TV) (hT:TabB T) (A:TbA) (W w:World) (B:Nat) (hTW:zfM W T A) (l:List (Int × Int × Int)) (h:CkS W w B T A (orW l)) (U:Nat→Value) {Q:Exit→Act→World→Prop}
  (hQ:∀ (a:Act) (wn:World),(∃ U',a=zb7 W (.pointer (some ⟨B,0,none⟩)) U')→Hz (CkS W wn B T A (orW (l++[spW 8 T.al])))→Q .normal a wn) :
  Code.wp Tryz.prog uaFg Q (zb7 W (.pointer (some ⟨B,0,none⟩)) U) w:=by
 have HQ:=kz hQ
 have HX:=kz h
 have HC:=kz (zdL 8 T.al hT.n7 A.a7 A.c7 w (hTW.lower h.bl).r7)
 have HV:=kz (zco (l:=l) (y:=spW 8 T.al) (zf9 _ _))
 obtain ⟨y,hy⟩:∃ y,spW 8 T.al=y:=⟨_,rfl⟩
 obtain ⟨x,hx⟩:∃ x,orW l=x:=⟨_,rfl⟩
 rw [hy] at HC HV
 rw [hx] at HX HV
 rw [hy] at HQ
 rw [oz HV] at HQ
 clear HV hQ h hx hy hT hTW
 obtain ⟨x0,x1,x2⟩:=x
 obtain ⟨y0,y1,y2⟩:=y
 unfold wrV at HC
 dsimp only at HC HQ HX
 delta uaFg Tryz.f55 zb7 at *
 dsimp only
 by_cases hx0:x0=0
 ·subst hx0
  rw [if_pos rfl] at HQ
  have s0:=(oz HX).bw.cell 0
  have g0:=(oz HX).bw.frozen 0
  have s1:=(oz HX).bw.cell 1
  have g1:=(oz HX).bw.frozen 1
  have s2:=(oz HX).bw.cell 2
  have g2:=(oz HX).bw.frozen 2
  have z:=(oz HX).bx.cell 7
  go_wp2_with fail
  refine (oz HC).mono ?_
  rintro e w2 ⟨rfl,hb⟩
  have HX2:=kz ((oz HX).below hb)
  clear hb HC HX z
  clear s0 s1 s2 g0 g1 g2
  have s0:=(oz HX2).bw.cell 0
  have g0:=(oz HX2).bw.frozen 0
  have s1:=(oz HX2).bw.cell 1
  have g1:=(oz HX2).bw.frozen 1
  have s2:=(oz HX2).bw.cell 2
  have g2:=(oz HX2).bw.frozen 2
  go_wp2_with fail
  exact oz HQ _ _ (zau rfl) (kz ((oz HX2).put (y0,y1,y2)))
 ·rw [if_neg hx0] at HQ
  have q:(x0 == 0)=false:=by simpa using hx0
  have s0:=(oz HX).bw.cell 0
  have g0:=(oz HX).bw.frozen 0
  have s1:=(oz HX).bw.cell 1
  have g1:=(oz HX).bw.frozen 1
  have s2:=(oz HX).bw.cell 2
  have g2:=(oz HX).bw.frozen 2
  go_wp2_with fail
  exact oz HQ _ _ (zau rfl) HX
theorem zjs (T:TV) (hT:TabB T) (v:Value) (W:World) (hv:TbV W T v) :
  Calls Tryz.prog 55 #[v] W fun e w' =>e=.returned (wrV (zbh T))∧Below W.heap.size W w':=by
 obtain ⟨A,rfl,hA⟩:=hv
 have HX:=kz (RxS.start hA)
 have HT:=kz hT
 have HTW:=kz hA
 have HV:∃ mb,Hz (orW [zaf 1 T.sc sc0 scF,spW 2 T.co,zaf 3 T.ma ma0 maF,zaf 4 T.pr pr0 prF,zaf 5 T.fo mp0 mpF,zaf 6 T.lk mp0 mpF,spW 7 T.dr,spW 8 T.al]=mb):=⟨_,kz rfl⟩
 obtain ⟨mb,HV⟩:=HV
 rw [show zbh T=mb from oz HV]
 clear hA hT
 go_enter Tryz.func55,Tryz.ntmps55
 refine wp_seq_k (fun K0 hK0 =>?_)
 have HK0:=kz hK0
 clear hK0
 go_wp2_with fail
 refine oz HK0 _ _ ?_
 clear HK0 K0
 generalize (W.alloc (.cells #[.slice A.a0 T.sc.length A.c0,.slice A.a1 T.co.length A.c1,.slice A.a2 T.ma.length A.c2,.slice A.a3 T.pr.length A.c3,.slice A.a4 T.fo.length A.c4,.slice A.a5 T.lk.length A.c5,.slice A.a6 T.dr.length A.c6,.slice A.a7 T.al.length A.c7] 28)).alloc (.cells #[.int .i64 0,.int .i64 0,.int .i64 0] 76)=w0 at *
 have hR:∀ (y l k:Int),mb=(y,l,k)→∀ (a:Act) (wn:World),a.tmps.getD 2 undef=.pointer (some ⟨W.heap.size+1,0,none⟩)→a.defers=[]→Hz (RxD W wn (y,l,k))→bodyPost Tryz.prog Tryz.f55 (fun e w' =>e=.returned (wrV mb)∧Below W.heap.size W w') .ret a wn:=fun y l k e a wn h1 h2 h3 =>by
  subst e
  exact bodyPost_ret (v:=wrV (y,l,k)) (zb8 Tryz.results55 h1 (oz h3).rs rfl) h2 ⟨rfl,(oz h3).bl⟩
 refine wp_seq_k (fun K1 hK1 =>?_)
 refine zaL (F:=zb7 W undef) (zau rfl) (fun U =>?_)
 refine zn9 T (oz HT) A W _ undef (oz HX) U ?_ ?_
 rotate_left
 ·intro y k e hy a wn h1 h2 h3
  exact hR y _ k (by rw [← oz HV,zai (by rw [e];exact hy),e]) a wn h1 h2 h3
 intro E1 a w1 ⟨U1,hU⟩ hx
 subst hU
 have HX1:=kz (oz hx).rx
 clear hx
 refine hK1 _ _ ?_
 clear hK1 K1
 have HC:=kz (zdL 2 T.co (oz HT).n1 A.a1 A.c1 w1 (oz HX1).tb.ti.r1)
 obtain ⟨x,hx⟩:∃ x,spW 2 T.co=x:=⟨_,rfl⟩
 have HOK:=kz (zf9 2 T.co)
 rw [hx] at HC HOK
 have HXE:=kz hx
 clear hx
 obtain ⟨x0,x1,x2⟩:=x
 refine wp_seq_k (fun Ka hKa =>?_)
 have HKa:=kz hKa
 have HRR:=kz hR
 clear hKa hR
 have HE1:=kz E1
 clear E1
 unfold zb7
 have z1:=(oz HX1).tb.z1
 go_wp2_with fail
 refine (oz HC).mono ?_
 rintro e w2 ⟨rfl,hb⟩
 have HX2:=kz ((oz HX1).below hb)
 have HK2:=kz (CkS.start (oz HX2) (x0,x1,x2))
 clear hb HC HX HX1 z1
 unfold wrV
 have s0:=(oz HK2).bw.cell 0
 have s1:=(oz HK2).bw.cell 1
 have s2:=(oz HK2).bw.cell 2
 unfold wrC at *
 dsimp only at HK2 s0 s1 s2
 go_wp2_with fail
 refine oz HKa _ _ ?_
 clear HKa Ka
 obtain ⟨B,hB⟩:∃ B,B=w2.heap.size:=⟨_,rfl⟩
 rw [← hB] at HK2 s0 s1 s2 ⊢
 generalize w2.alloc (.cells #[.int .i64 x0,.int .i64 x1,.int .i64 x2] 76)=w3 at *
 clear hB HX2
 refine wp_seq_k (fun Kb hKb =>?_)
 have HKb:=kz hKb
 clear hKb
 by_cases hx0:x0=0
 ·have e:=oz HOK hx0
  obtain ⟨rfl,hh⟩:=Prod.mk.inj e
  obtain ⟨rfl,rfl⟩:=Prod.mk.inj hh
  clear e hh hx0 HOK
  go_wp2_with fail
  refine oz HKb _ _ ?_
  clear HKb Kb s0 s1 s2
  have hR:=oz HRR
  have E1:=oz HE1
  have E2:=oz HXE
  clear HRR
  refine wp_seq_k (fun K2 hK2 =>?_)
  refine zaL (F:=zb7 W (.pointer (some ⟨B,0,none⟩))) (zau rfl) (fun U =>?_)
  refine zn8 T (oz HT) A W _ (.pointer (some ⟨B,0,none⟩)) ((oz HK2).rx (oz HTW)) U ?_ ?_
  rotate_left
  ·intro y k e hy a wn h1 h2 h3
   exact hR y _ k (by rw [← oz HV,zad (by rw [E1]),zad (by rw [E2]),zai (by rw [e];exact hy),e]) a wn h1 h2 h3
  intro E3 a w4 ⟨U2,hU⟩ hx
  subst hU
  have HK4:=kz ((oz HK2).below (oz hx).fr)
  clear hx
  refine hK2 _ _ ?_
  clear hK2 K2
  refine wp_seq_k (fun K3 hK3 =>?_)
  refine zaL (F:=zb7 W (.pointer (some ⟨B,0,none⟩))) ⟨U2,rfl⟩ (fun U =>?_)
  refine zn7 T (oz HT) A W _ (.pointer (some ⟨B,0,none⟩)) ((oz HK4).rx (oz HTW)) U ?_ ?_
  rotate_left
  ·intro y k e hy a wn h1 h2 h3
   exact hR y _ k (by rw [← oz HV,zad (by rw [E1]),zad (by rw [E2]),zad (by rw [E3]),zai (by rw [e];exact hy),e]) a wn h1 h2 h3
  intro E4 a w5 ⟨U3,hU⟩ hx
  subst hU
  have HK5:=kz ((oz HK4).below (oz hx).fr)
  clear hx
  refine hK3 _ _ ?_
  clear hK3 K3
  have h0:orW [zaf 1 T.sc sc0 scF,spW 2 T.co,zaf 3 T.ma ma0 maF,zaf 4 T.pr pr0 prF]=(0,0,0):=by
   rw [zad (by rw [E1]),zad (by rw [E2]),zad (by rw [E3]),zad (by rw [E4])]
   rfl
  clear E1 E2 E3 E4
  refine wp_seq_k (fun K4 hK4 =>?_)
  refine zaL (F:=zb7 W (.pointer (some ⟨B,0,none⟩))) ⟨U3,rfl⟩ (fun U =>?_)
  refine zn6 T (oz HT) A W _ B (oz HTW) [zaf 1 T.sc sc0 scF,spW 2 T.co,zaf 3 T.ma ma0 maF,zaf 4 T.pr pr0 prF] (by rw [h0];exact oz HK5) (by rw [h0]) U ?_
  intro a w6 ⟨U4,hU⟩ hx
  subst hU
  have HK6:=hx
  clear hx
  refine hK4 _ _ ?_
  clear hK4 K4
  refine wp_seq_k (fun K5 hK5 =>?_)
  refine zaL (F:=zb7 W (.pointer (some ⟨B,0,none⟩))) ⟨U4,rfl⟩ (fun U =>?_)
  refine zn5 T (oz HT) A W _ B (oz HTW) [zaf 1 T.sc sc0 scF,spW 2 T.co,zaf 3 T.ma ma0 maF,zaf 4 T.pr pr0 prF,zaf 5 T.fo mp0 mpF] (oz HK6) U ?_
  intro a w7 ⟨U5,hU⟩ hx
  subst hU
  have HK7:=hx
  clear hx
  refine hK5 _ _ ?_
  clear hK5 K5
  refine wp_seq_k (fun K6 hK6 =>?_)
  refine zaL (F:=zb7 W (.pointer (some ⟨B,0,none⟩))) ⟨U5,rfl⟩ (fun U =>?_)
  refine zn4 T (oz HT) A W _ B (oz HTW) [zaf 1 T.sc sc0 scF,spW 2 T.co,zaf 3 T.ma ma0 maF,zaf 4 T.pr pr0 prF,zaf 5 T.fo mp0 mpF,zaf 6 T.lk mp0 mpF] (oz HK7) U ?_
  intro a w8 ⟨U6,hU⟩ hx
  subst hU
  have HK8:=hx
  clear hx
  refine hK6 _ _ ?_
  clear hK6 K6
  refine wp_seq_k (fun K7 hK7 =>?_)
  refine zaL (F:=zb7 W (.pointer (some ⟨B,0,none⟩))) ⟨U6,rfl⟩ (fun U =>?_)
  refine zn3 T (oz HT) A W _ B (oz HTW) [zaf 1 T.sc sc0 scF,spW 2 T.co,zaf 3 T.ma ma0 maF,zaf 4 T.pr pr0 prF,zaf 5 T.fo mp0 mpF,zaf 6 T.lk mp0 mpF,spW 7 T.dr] (oz HK8) U ?_
  intro a w9 ⟨U7,hU⟩ hx
  subst hU
  have HK9:=hx
  clear hx
  refine hK7 _ _ ?_
  clear hK7 K7
  have HK10:Hz (CkS W w9 B T A mb):=kz (by
   have:=oz HK9
   rw [← oz HV]
   exact this)
  obtain ⟨m0,m1,m2⟩:=mb
  have HRR:=kz hR
  clear hR HV HK5 HK6 HK7 HK8 HK9 h0
  unfold zb7
  have s0:=(oz HK10).bw.cell 0
  have s1:=(oz HK10).bw.cell 1
  have s2:=(oz HK10).bw.cell 2
  have r0:=(oz HK10).rs.cell 0
  have f0:=(oz HK10).rs.frozen 0
  have r1:=(oz HK10).rs.cell 1
  have f1:=(oz HK10).rs.frozen 1
  have r2:=(oz HK10).rs.cell 2
  have f2:=(oz HK10).rs.frozen 2
  go_wp2_with fail
  exact oz HRR _ _ _ rfl _ _ rfl rfl (kz (oz HK10).end)
 ·have q:(x0 == 0)=false:=by simpa using hx0
  have hm:mb=(x0,x1,x2):=by
   rw [← oz HV,zad (by rw [oz HE1]),zai (by rw [oz HXE];exact hx0),oz HXE]
  have hR:=oz HRR
  have HRR:=kz hR
  clear hR
  have r0:=(oz HK2).rs.cell 0
  have f0:=(oz HK2).rs.frozen 0
  have r1:=(oz HK2).rs.cell 1
  have f1:=(oz HK2).rs.frozen 1
  have r2:=(oz HK2).rs.cell 2
  have f2:=(oz HK2).rs.frozen 2
  have HM:=kz hm
  clear hm hx0
  go_wp2_with fail
  exact oz HRR _ _ _ (oz HM) _ _ rfl rfl (kz (oz HK2).end)
set_option maxRecDepth 100000
set_option maxHeartbeats 8000000
theorem zlV {α β : Type} [BEq β] {l:List α} {d : α} {key : α→β} {k m:Nat} {x y : α} (hx:l[k]?=some x) (hm:m < k) (hy:l[m]?=some y) (h:(key y == key x)=true):twF l d key k=14:=by
 unfold twF
 rw [zb1 hx,if_pos]
 exact zdV (k:=m) (by rw [List.getElem?_take_of_lt hm];exact hy) h
theorem zjd {α β : Type} [BEq β] {l:List α} {d : α} {key : α→β} {k:Nat} {x : α} (hx:l[k]?=some x) (h:NoneB l (fun y =>key y == key x) k):twF l d key k=0:=by
 unfold twF
 rw [zb1 hx,if_neg]
 rw [Bool.not_eq_true,List.any_eq_false]
 intro y hy
 obtain ⟨i,hi,e⟩:=List.mem_take_iff_getElem.1 hy
 have this:(key y == key x)=false:=h i y (by omega) (by rw [List.getElem?_eq_getElem (by omega),e])
 rw [this]
 decide
def zpc (x y:Int × Int × Int):Bool:=decide (y.1=x.1∨(y.2.1=x.2.1∧y.2.2=x.2.2))
theorem zlT {l:List (Int × Int × Int)} {k m:Nat} {x y:Int × Int × Int} (hx:l[k]?=some x) (hm:m < k) (hy:l[m]?=some y) (h:zpc x y=true):twP l k=14:=by
 unfold twP
 rw [zb1 hx,if_pos]
 exact zdV (k:=m) (by rw [List.getElem?_take_of_lt hm];exact hy) h
theorem zok {l:List (Int × Int × Int)} {k:Nat} {x:Int × Int × Int} (hx:l[k]?=some x) (h:NoneB l (zpc x) k):twP l k=0:=by
 unfold twP
 rw [zb1 hx,if_neg]
 rw [Bool.not_eq_true,List.any_eq_false]
 intro y hy
 obtain ⟨i,hi,e⟩:=List.mem_take_iff_getElem.1 hy
 have:=h i y (by omega) (by rw [List.getElem?_eq_getElem (by omega),e])
 unfold zpc at this
 rw [this]
 decide
theorem zoL {a b:ByteArray} (h:a=b):(a.toList == b.toList)=true∧(b.data.toList == a.data.toList)=true:=by
 subst h
 exact ⟨by simp,by simp⟩
theorem zpU {a b:ByteArray} (h:¬ a=b):(a.toList == b.toList)=false∧(b.data.toList == a.data.toList)=false:=by
 rw [ByteArray.toList_eq,ByteArray.toList_eq]
 have h1:¬ a.data.toList=b.data.toList:=fun e =>h (ByteArray.ext (Array.toList_inj.1 e))
 exact ⟨beq_eq_false_iff_ne.2 h1,beq_eq_false_iff_ne.2 (fun e =>h1 e.symm)⟩
theorem zpi {l:List (Int × ByteArray)} {k:Nat} {x:Int × ByteArray} (hx:l[k]?=some x):(zd1 l (fun y =>y.1 == x.1) < (k:Int)∧twF l mp0 (fun y =>y.1) k=14)∨(¬ zd1 l (fun y =>y.1 == x.1) < (k:Int)∧twF l mp0 (fun y =>y.1) k=0):=by
 rcases zfs l (fun y =>y.1 == x.1) with ⟨_,h,_⟩ | ⟨j,y,e,hj,hy,hp,_,_,hn⟩
 ·have:=List.any_eq_false.1 h x (List.mem_of_getElem? hx)
  simp at this
 ·rw [e]
  by_cases h:j < k
  ·exact .inl ⟨by omega,zlV hx h hy hp⟩
  ·exact .inr ⟨by omega,zjd hx (fun i z hi hz =>hn i z (by omega) hz)⟩
def zc6 (W:World) (U:Nat→Value):Act:={ tmps:=#[U 0,.pointer (some ⟨W.heap.size,0,none⟩),.pointer (some ⟨W.heap.size+1,0,none⟩),U 3,U 4,U 5,U 6,U 7,U 8,U 9,U 10,U 11,U 12,U 13,U 14,U 15,U 16,U 17,U 18,U 19,U 20,U 21,U 22,U 23,U 24,U 25,U 26,U 27,U 28,U 29,U 30,U 31,U 32,U 33,U 34,U 35,U 36,U 37,U 38,U 39,U 40,U 41,U 42,U 43,U 44,U 45,U 46,U 47,U 48,U 49,U 50,U 51,U 52,U 53,U 54,U 55,U 56,U 57,U 58,U 59,U 60,U 61,U 62,U 63,U 64,U 65,U 66,U 67,U 68,U 69,U 70,U 71,U 72,U 73,U 74,U 75,U 76,U 77,U 78,U 79,U 80,U 81,U 82,U 83,U 84,U 85,U 86,U 87,U 88,U 89,U 90,U 91,U 92,U 93,U 94,U 95,U 96,U 97,U 98,U 99,U 100,U 101,U 102,U 103,U 104,U 105,U 106,U 107,U 108,U 109,U 110,U 111,U 112,U 113,U 114,U 115,U 116,U 117,U 118,U 119,U 120,U 121,U 122,U 123,U 124,U 125,U 126,U 127,U 128,U 129,U 130,U 131,U 132,U 133,U 134,U 135,U 136,U 137,U 138,U 139,U 140,U 141,U 142,U 143,U 144,U 145,U 146,U 147,U 148,U 149,U 150],defers := [] }
noncomputable def uaWa:Code:=match Tryz.f56.body with
 | some (.seq _ (.seq c _)) =>c
 | _ =>.skip
theorem znN (T:TV) (hT:TabB T) (A:TbA) (W w:World) (h:RxS W w T A) (U:Nat→Value) {Q:Exit→Act→World→Prop}
  (hN:zaG 1 T.sc.length (twF T.sc sc0 (fun x =>x.1.data.toList))=(0,0,0)→∀ (a:Act) (wn:World),(∃ U',a=zc6 W U')→Hz (RxT W w wn T A)→Q .normal a wn)
  (hR:∀ (y k:Int),zaG 1 T.sc.length (twF T.sc sc0 (fun x =>x.1.data.toList))=(y,1,k)→y≠0→∀ (a:Act) (wn:World),a.tmps.getD 2 undef=.pointer (some ⟨W.heap.size+1,0,none⟩)→a.defers=[]→Hz (RxD W wn (y,1,k))→Q .ret a wn) :
  Code.wp Tryz.prog uaWa Q (zc6 W U) w:=by
 have HN:=kz hN
 have HR:=kz hR
 have HX:=kz (RxT.refl h)
 have hln:=hT.n0
 have HF:=kz (fun r a c w (hv:RowC w w.heap.size a (zbl T.fo)) =>zb2 T.fo hT.n4 a c r w hv)
 clear hN hR h hT
 delta uaWa Tryz.f56 zc6 at *
 dsimp only
 go_wp2_with fail
 go_loopw [3] (fun i wr => ∃ k:Nat,k≤T.sc.length∧i=.int .i64 k∧Hz (OkR (twF T.sc sc0 (fun x =>x.1.data.toList)) k)∧Hz (RxT W w wr T A)) (fun i _ =>T.sc.length - (intOf i).toNat)
 case atStart =>exact ⟨0,Nat.zero_le _,rfl,kz (OkR.zero _),HX⟩
 case round =>
  clear HX
  obtain ⟨k,hk,rfl,HO,HX⟩:=hrel
  by_cases hkn:k < T.sc.length
  ·obtain ⟨x,hx⟩:∃ x,T.sc[k]?=some x:=⟨_,List.getElem?_eq_getElem hkn⟩
   obtain ⟨g,o,bq,dq,ea,hg,c0,c1,_⟩:=zoy (oz HX).rx.tb.ti hx
   have HK:=kz hx
   have HG:=kz hg
   have k1:(k:Int) < (T.sc.length:Int):=by omega
   have k2:((k:Nat):Int).toNat=k:=by omega
   have zz:=(oz HX).rx.tb.z0
   rw [ea] at zz
   clear hg hx
   have HX0:=kz (RxT.refl (oz HX).rx)
   have HKN:=kz hkn
   clear HF hkn
   go_wp2_with fail
   obtain ⟨wq,hwq⟩:∃ wq,wq=wr:=⟨_,rfl⟩
   subst hwq
   go_loopw [4] (fun jv wi => ∃ m:Nat,m≤k∧jv=.int .i64 m∧Hz (NoneB T.sc (fun y =>(fun x:ByteArray × List (Int × Int) =>x.1.data.toList) y == (fun x:ByteArray × List (Int × Int) =>x.1.data.toList) x) m)∧Hz (RxT W wq wi T A)) (fun jv _ =>k - (intOf jv).toNat)
   case atStart =>exact ⟨0,Nat.zero_le _,rfl,kz (NoneB.zero _ _),HX0⟩
   case round =>
    clear HX0
    obtain ⟨m,hm,rfl,HN2,HX2⟩:=hrel
    by_cases hmk:m < k
    ·obtain ⟨y,hy⟩:∃ y,T.sc[m]?=some y:=⟨_,List.getElem?_eq_getElem (by have:=oz HKN;omega)⟩
     obtain ⟨g2,o2,b2,e2,ea2,hg2,d0,d1,_⟩:=zoy (oz HX2).rx.tb.ti hy
     rw [ea] at ea2
     injection ea2 with ea2
     injection ea2 with e3 e4
     subst e3 e4
     have HKy:=kz hy
     have m1:(m:Int) < (k:Int):=by omega
     have m2:((m:Nat):Int).toNat=m:=by omega
     have m3:(m:Int) < (T.sc.length:Int):=by omega
     have b0:=zbi c0 (oz HX2).fr (oz HG)
     have zw:=(oz HX2).rx.tb.z0
     rw [ea] at zw
     by_cases hc:x.1=y.1
     ·obtain ⟨e0,e1⟩:=zoL hc
      have hf:(twF T.sc sc0 (fun x =>x.1.data.toList)) k=14:=zlV (oz HK) hmk (oz HKy) e1
      have HE:=kz (zba (list:=1) (n:=T.sc.length) k (by omega) (oz HO) (by rw [hf];decide))
      rw [hf] at HE
      clear hf HO HK
      have ya:=cell_regrown b0
      have yb:=cell_regrown d0
      have yz:=cell_regrown zw
      clear ea hc
      go_wp2_with fail
      refine wp_region_quiet_below (by kernel_rfl) (by kernel_rfl) ?_
      repeat (go_big_quiet_step (fail))
      first | refine wpQuiet_nil ?_ | skip
      rintro w' ⟨p,rfl⟩
      have HBq:=kz (below_regrown wr p.d p.os)
      generalize Go.Sort.grow (redrawn wr p.d) p.os=w1 at *
      have HX3:=kz ((oz HX).chain ((oz HX2).below (oz HBq)))
      clear ya yb yz b0 zw c0 c1 d0 d1 zz HX HX2 HN2 HKy
      have r0:=(oz HX3).rx.rs.cell 0
      have f0:=(oz HX3).rx.rs.frozen 0
      have r1:=(oz HX3).rx.rs.cell 1
      have f1:=(oz HX3).rx.rs.frozen 1
      have r2:=(oz HX3).rx.rs.cell 2
      have f2:=(oz HX3).rx.rs.frozen 2
      go_wp2_with fail
      exact oz HR _ _ (oz HE) (by decide) _ _ rfl rfl (kz ((oz HX3).put _ _ _))
     ·obtain ⟨e0,e1⟩:=zpU hc
      have HN3:=kz ((oz HN2).next (oz HKy) e1)
      have ya:=cell_regrown b0
      have yb:=cell_regrown d0
      have yz:=cell_regrown zw
      clear HN2 HKy hc e1
      go_wp2_with fail
      refine wp_region_quiet_below (by kernel_rfl) (by kernel_rfl) ?_
      repeat (go_big_quiet_step (fail))
      first | refine wpQuiet_nil ?_ | skip
      rintro w' ⟨p,rfl⟩
      have HBq:=kz (below_regrown wr p.d p.os)
      generalize Go.Sort.grow (redrawn wr p.d) p.os=w1 at *
      have HX3:=kz ((oz HX2).below (oz HBq))
      clear ya yb yz b0 zw d0 d1 HX2
      go_wp2_with fail
      exact ⟨⟨m+1,by omega,by first | rfl | go_num,HN3,HX3⟩,by simp [intOf];omega⟩
    ·have m1:¬ (m:Int) < (k:Int):=by omega
     obtain rfl:m=k:=by omega
     have hf:(twF T.sc sc0 (fun x =>x.1.data.toList)) m=0:=zjd (oz HK) (oz HN2)
     have HO2:=kz ((oz HO).next hf)
     have HX3:=kz ((oz HX).chain (oz HX2))
     have hkn:=oz HKN
     clear hf HO HK HN2 ea
     go_wp2_with fail
     exact ⟨⟨m+1,by omega,by first | rfl | go_num,HO2,HX3⟩,by simp [intOf];omega⟩
  ·have k1:¬ (k:Int) < (T.sc.length:Int):=by omega
   have zz:=(oz HX).rx.tb.z0
   have HE:Hz (zaG 1 T.sc.length (twF T.sc sc0 (fun x =>x.1.data.toList))=(0,0,0)):=kz (zbE (fun i hi =>oz HO i (by omega)))
   clear HO HR HF
   go_wp2_with fail
   exact oz HN (oz HE) _ _ (zau rfl) HX
noncomputable def uaWb:Code:=match Tryz.f56.body with
 | some (.seq _ (.seq _ (.seq c _))) =>c
 | _ =>.skip
theorem znM (T:TV) (hT:TabB T) (A:TbA) (W w:World) (h:RxS W w T A) (U:Nat→Value) {Q:Exit→Act→World→Prop}
  (hN:zaG 3 T.ma.length (twF T.ma ma0 (fun x =>x.1))=(0,0,0)→∀ (a:Act) (wn:World),(∃ U',a=zc6 W U')→Hz (RxT W w wn T A)→Q .normal a wn)
  (hR:∀ (y k:Int),zaG 3 T.ma.length (twF T.ma ma0 (fun x =>x.1))=(y,3,k)→y≠0→∀ (a:Act) (wn:World),a.tmps.getD 2 undef=.pointer (some ⟨W.heap.size+1,0,none⟩)→a.defers=[]→Hz (RxD W wn (y,3,k))→Q .ret a wn) :
  Code.wp Tryz.prog uaWb Q (zc6 W U) w:=by
 have HN:=kz hN
 have HR:=kz hR
 have HX:=kz (RxT.refl h)
 have hln:=hT.n2
 have HF:=kz (fun r a c w (hv:RowC w w.heap.size a (zbl T.fo)) =>zb2 T.fo hT.n4 a c r w hv)
 clear hN hR h hT
 delta uaWb Tryz.f56 zc6 at *
 dsimp only
 go_wp2_with fail
 go_loopw [5] (fun i wr => ∃ k:Nat,k≤T.ma.length∧i=.int .i64 k∧Hz (OkR (twF T.ma ma0 (fun x =>x.1)) k)∧Hz (RxT W w wr T A)) (fun i _ =>T.ma.length - (intOf i).toNat)
 case atStart =>exact ⟨0,Nat.zero_le _,rfl,kz (OkR.zero _),HX⟩
 case round =>
  clear HX
  obtain ⟨k,hk,rfl,HO,HX⟩:=hrel
  by_cases hkn:k < T.ma.length
  ·obtain ⟨x,hx⟩:∃ x,T.ma[k]?=some x:=⟨_,List.getElem?_eq_getElem hkn⟩
   obtain ⟨g,o,ea,hg,c0,c1⟩:=zqq (oz HX).rx.tb.ti.r2 hx
   have HK:=kz hx
   have HG:=kz hg
   have k1:(k:Int) < (T.ma.length:Int):=by omega
   have k2:((k:Nat):Int).toNat=k:=by omega
   have zz:=(oz HX).rx.tb.z2
   rw [ea] at zz
   clear hg hx
   have HX0:=kz (RxT.refl (oz HX).rx)
   have HKN:=kz hkn
   clear HF hkn
   go_wp2_with fail
   obtain ⟨wq,hwq⟩:∃ wq,wq=wr:=⟨_,rfl⟩
   subst hwq
   go_loopw [6] (fun jv wi => ∃ m:Nat,m≤k∧jv=.int .i64 m∧Hz (NoneB T.ma (fun y =>(fun x:Int × Int =>x.1) y == (fun x:Int × Int =>x.1) x) m)∧Hz (RxT W wq wi T A)) (fun jv _ =>k - (intOf jv).toNat)
   case atStart =>exact ⟨0,Nat.zero_le _,rfl,kz (NoneB.zero _ _),HX0⟩
   case round =>
    clear HX0
    obtain ⟨m,hm,rfl,HN2,HX2⟩:=hrel
    by_cases hmk:m < k
    ·obtain ⟨y,hy⟩:∃ y,T.ma[m]?=some y:=⟨_,List.getElem?_eq_getElem (by have:=oz HKN;omega)⟩
     obtain ⟨g2,o2,ea2,hg2,d0,d1⟩:=zqq (oz HX2).rx.tb.ti.r2 hy
     rw [ea] at ea2
     injection ea2 with ea2
     injection ea2 with e3 e4
     subst e3 e4
     have HKy:=kz hy
     have m1:(m:Int) < (k:Int):=by omega
     have m2:((m:Nat):Int).toNat=m:=by omega
     have m3:(m:Int) < (T.ma.length:Int):=by omega
     have b0:=zbi c0 (oz HX2).fr (oz HG)
     have zw:=(oz HX2).rx.tb.z2
     rw [ea] at zw
     by_cases hc:x.1=y.1
     ·obtain ⟨x0,x1⟩:=x
      obtain ⟨y0,y1⟩:=y
      dsimp only at hc b0 c0 c1 d0 d1
      subst hc
      have e0:(x0 == x0)=true:=by simp
      have hf:(twF T.ma ma0 (fun x =>x.1)) k=14:=zlV (oz HK) hmk (oz HKy) (by simp)
      have HE:=kz (zba (list:=3) (n:=T.ma.length) k (by omega) (oz HO) (by rw [hf];decide))
      rw [hf] at HE
      clear hf HO HK
      have ya:=cell_regrown b0
      have yb:=cell_regrown d0
      have yz:=cell_regrown zw
      clear ea
      go_wp2_with fail
      refine wp_region_quiet_below (by kernel_rfl) (by kernel_rfl) ?_
      repeat (go_big_quiet_step (fail))
      first | refine wpQuiet_nil ?_ | skip
      rintro w' ⟨p,rfl⟩
      have HBq:=kz (below_regrown wr p.d p.os)
      generalize Go.Sort.grow (redrawn wr p.d) p.os=w1 at *
      have HX3:=kz ((oz HX).chain ((oz HX2).below (oz HBq)))
      clear ya yb yz b0 zw c0 c1 d0 d1 zz HX HX2 HN2 HKy
      have r0:=(oz HX3).rx.rs.cell 0
      have f0:=(oz HX3).rx.rs.frozen 0
      have r1:=(oz HX3).rx.rs.cell 1
      have f1:=(oz HX3).rx.rs.frozen 1
      have r2:=(oz HX3).rx.rs.cell 2
      have f2:=(oz HX3).rx.rs.frozen 2
      go_wp2_with fail
      exact oz HR _ _ (oz HE) (by decide) _ _ rfl rfl (kz ((oz HX3).put _ _ _))
     ·have e1:(y.1 == x.1)=false:=by simpa using fun e =>hc e.symm
      have e0:(x.1 == y.1)=false:=by simpa using hc
      have HN3:=kz ((oz HN2).next (oz HKy) e1)
      have ya:=cell_regrown b0
      have yb:=cell_regrown d0
      have yz:=cell_regrown zw
      clear HN2 HKy hc e1
      go_wp2_with fail
      refine wp_region_quiet_below (by kernel_rfl) (by kernel_rfl) ?_
      repeat (go_big_quiet_step (fail))
      first | refine wpQuiet_nil ?_ | skip
      rintro w' ⟨p,rfl⟩
      have HBq:=kz (below_regrown wr p.d p.os)
      generalize Go.Sort.grow (redrawn wr p.d) p.os=w1 at *
      have HX3:=kz ((oz HX2).below (oz HBq))
      clear ya yb yz b0 zw d0 d1 HX2
      go_wp2_with fail
      exact ⟨⟨m+1,by omega,by first | rfl | go_num,HN3,HX3⟩,by simp [intOf];omega⟩
    ·have m1:¬ (m:Int) < (k:Int):=by omega
     obtain rfl:m=k:=by omega
     have hf:(twF T.ma ma0 (fun x =>x.1)) m=0:=zjd (oz HK) (oz HN2)
     have HO2:=kz ((oz HO).next hf)
     have HX3:=kz ((oz HX).chain (oz HX2))
     have hkn:=oz HKN
     clear hf HO HK HN2 ea
     go_wp2_with fail
     exact ⟨⟨m+1,by omega,by first | rfl | go_num,HO2,HX3⟩,by simp [intOf];omega⟩
  ·have k1:¬ (k:Int) < (T.ma.length:Int):=by omega
   have zz:=(oz HX).rx.tb.z2
   have HE:Hz (zaG 3 T.ma.length (twF T.ma ma0 (fun x =>x.1))=(0,0,0)):=kz (zbE (fun i hi =>oz HO i (by omega)))
   clear HO HR HF
   go_wp2_with fail
   exact oz HN (oz HE) _ _ (zau rfl) HX
end Go.Proofs.YtmemedpoaocdkaaGreat
