/- Texts of this claim, one behind the other. -/
import Derived.Test.YtmemedpoaocdkaaGreatM10
namespace Go.Proofs.YtmemedpoaocdkaaGreat
open Go.RowKit Go.Shelf
set_option linter.unusedVariables false
set_option maxRecDepth 100000
set_option maxHeartbeats 8000000
noncomputable def uaWc:Code:=match Tryz.f56.body with
 | some (.seq _ (.seq _ (.seq _ (.seq c _)))) =>c
 | _ =>.skip
theorem znL (T:TV) (hT:TabB T) (A:TbA) (W w:World) (h:RxS W w T A) (U:Nat→Value) {Q:Exit→Act→World→Prop}
  (hN:zaG 4 T.pr.length (twP T.pr)=(0,0,0)→∀ (a:Act) (wn:World),(∃ U',a=zc6 W U')→Hz (RxT W w wn T A)→Q .normal a wn)
  (hR:∀ (y k:Int),zaG 4 T.pr.length (twP T.pr)=(y,4,k)→y≠0→∀ (a:Act) (wn:World),a.tmps.getD 2 undef=.pointer (some ⟨W.heap.size+1,0,none⟩)→a.defers=[]→Hz (RxD W wn (y,4,k))→Q .ret a wn) :
  Code.wp Tryz.prog uaWc Q (zc6 W U) w:=by
 have HN:=kz hN
 have HR:=kz hR
 have HX:=kz (RxT.refl h)
 have hln:=hT.n3
 have HF:=kz (fun r a c w (hv:RowC w w.heap.size a (zbl T.fo)) =>zb2 T.fo hT.n4 a c r w hv)
 clear hN hR h hT
 delta uaWc Tryz.f56 zc6 at *
 dsimp only
 go_wp2_with fail
 go_loopw [7] (fun i wr => ∃ k:Nat,k≤T.pr.length∧i=.int .i64 k∧Hz (OkR (twP T.pr) k)∧Hz (RxT W w wr T A)) (fun i _ =>T.pr.length - (intOf i).toNat)
 case atStart =>exact ⟨0,Nat.zero_le _,rfl,kz (OkR.zero _),HX⟩
 case round =>
  clear HX
  obtain ⟨k,hk,rfl,HO,HX⟩:=hrel
  by_cases hkn:k < T.pr.length
  ·obtain ⟨x,hx⟩:∃ x,T.pr[k]?=some x:=⟨_,List.getElem?_eq_getElem hkn⟩
   obtain ⟨g,o,ea,hg,c0,c1,c2⟩:=zoz (oz HX).rx.tb.ti.r3 hx
   have HK:=kz hx
   have HG:=kz hg
   have k1:(k:Int) < (T.pr.length:Int):=by omega
   have k2:((k:Nat):Int).toNat=k:=by omega
   have zz:=(oz HX).rx.tb.z3
   rw [ea] at zz
   clear hg hx
   have HX0:=kz (RxT.refl (oz HX).rx)
   have HKN:=kz hkn
   clear HF hkn
   go_wp2_with fail
   obtain ⟨wq,hwq⟩:∃ wq,wq=wr:=⟨_,rfl⟩
   subst hwq
   go_loopw [8] (fun jv wi => ∃ m:Nat,m≤k∧jv=.int .i64 m∧Hz (NoneB T.pr (zpc x) m)∧Hz (RxT W wq wi T A)) (fun jv _ =>k - (intOf jv).toNat)
   case atStart =>exact ⟨0,Nat.zero_le _,rfl,kz (NoneB.zero _ _),HX0⟩
   case round =>
    clear HX0
    obtain ⟨m,hm,rfl,HN2,HX2⟩:=hrel
    by_cases hmk:m < k
    ·obtain ⟨y,hy⟩:∃ y,T.pr[m]?=some y:=⟨_,List.getElem?_eq_getElem (by have:=oz HKN;omega)⟩
     obtain ⟨g2,o2,ea2,hg2,d0,d1,d2⟩:=zoz (oz HX2).rx.tb.ti.r3 hy
     rw [ea] at ea2
     injection ea2 with ea2
     injection ea2 with e3 e4
     subst e3 e4
     have HKy:=kz hy
     have m1:(m:Int) < (k:Int):=by omega
     have m2:((m:Nat):Int).toNat=m:=by omega
     have m3:(m:Int) < (T.pr.length:Int):=by omega
     have b0:=zbi c0 (oz HX2).fr (oz HG)
     have zw:=(oz HX2).rx.tb.z3
     rw [ea] at zw
     have b1:=zbi c1 (oz HX2).fr (oz HG)
     have b2:=zbi c2 (oz HX2).fr (oz HG)
     obtain ⟨x0,x1,x2⟩:=x
     obtain ⟨y0,y1,y2⟩:=y
     dsimp only at b0 b1 b2 c0 c1 c2 d0 d1 d2
     have hn1:=zf8 wr (.cells #[.int .i32 x0,.int .i32 x1,.int .i32 x2] 117)
     have i0:=zbi d0 hn1 hg2
     have i1:=zbi d1 hn1 hg2
     have i2:=zbi d2 hn1 hg2
     have zv:=((oz HX2).below hn1).rx.tb.z3
     rw [ea] at zv
     have HX3:=kz (((oz HX2).below hn1).below (zf8 _ (.cells #[.int .i32 y0,.int .i32 y1,.int .i32 y2] 117)))
     have j0:=((Blk.new wr #[.int .i32 x0,.int .i32 x1,.int .i32 x2] 117).alloc (.cells #[.int .i32 y0,.int .i32 y1,.int .i32 y2] 117)).cell 0
     have j1:=((Blk.new wr #[.int .i32 x0,.int .i32 x1,.int .i32 x2] 117).alloc (.cells #[.int .i32 y0,.int .i32 y1,.int .i32 y2] 117)).cell 1
     have j2:=((Blk.new wr #[.int .i32 x0,.int .i32 x1,.int .i32 x2] 117).alloc (.cells #[.int .i32 y0,.int .i32 y1,.int .i32 y2] 117)).cell 2
     have by_:Blk ((wr.alloc (.cells #[.int .i32 x0,.int .i32 x1,.int .i32 x2] 117)).alloc (.cells #[.int .i32 y0,.int .i32 y1,.int .i32 y2] 117)) (wr.heap.size+1) #[.int .i32 y0,.int .i32 y1,.int .i32 y2] 117:=by
      have h:=Blk.new (wr.alloc (.cells #[.int .i32 x0,.int .i32 x1,.int .i32 x2] 117)) #[.int .i32 y0,.int .i32 y1,.int .i32 y2] 117
      rw [World.size_alloc] at h
      exact h
     have l0:=by_.cell 0
     have l1:=by_.cell 1
     have l2:=by_.cell 2
     clear by_ hn1 hg2
     by_cases h0:x0=y0
     ·subst h0
      have e0:(x0 == x0)=true:=by simp
      have hf:(twP T.pr) k=14:=zlT (oz HK) hmk (oz HKy) (by unfold zpc;simp)
      have HE:=kz (zba (list:=4) (n:=T.pr.length) k (by omega) (oz HO) (by rw [hf];decide))
      rw [hf] at HE
      clear hf HO HK
      have HX4:=kz ((oz HX).chain (oz HX3))
      have r0:=(oz HX4).rx.rs.cell 0
      have f0:=(oz HX4).rx.rs.frozen 0
      have r1:=(oz HX4).rx.rs.cell 1
      have f1:=(oz HX4).rx.rs.frozen 1
      have r2:=(oz HX4).rx.rs.cell 2
      have f2:=(oz HX4).rx.rs.frozen 2
      clear HX HX2 HX3 HN2 HKy ea
      go_wp2_with fail
      exact oz HR _ _ (oz HE) (by decide) _ _ rfl rfl (kz ((oz HX4).put _ _ _))
     ·have e0:(x0 == y0)=false:=by simpa using h0
      by_cases h1:x1=y1
      ·subst h1
       have e1:(x1 == x1)=true:=by simp
       by_cases h2:x2=y2
       ·subst h2
        have e2:(x2 == x2)=true:=by simp
        have hf:(twP T.pr) k=14:=zlT (oz HK) hmk (oz HKy) (by unfold zpc;simp)
        have HE:=kz (zba (list:=4) (n:=T.pr.length) k (by omega) (oz HO) (by rw [hf];decide))
        rw [hf] at HE
        clear hf HO HK
        have HX4:=kz ((oz HX).chain (oz HX3))
        have r0:=(oz HX4).rx.rs.cell 0
        have f0:=(oz HX4).rx.rs.frozen 0
        have r1:=(oz HX4).rx.rs.cell 1
        have f1:=(oz HX4).rx.rs.frozen 1
        have r2:=(oz HX4).rx.rs.cell 2
        have f2:=(oz HX4).rx.rs.frozen 2
        clear HX HX2 HX3 HN2 HKy ea
        go_wp2_with fail
        exact oz HR _ _ (oz HE) (by decide) _ _ rfl rfl (kz ((oz HX4).put _ _ _))
       ·have e2:(x2 == y2)=false:=by simpa using h2
        have HN3:=kz ((oz HN2).next (oz HKy) (by unfold zpc;simp;exact ⟨fun e =>h0 e.symm,fun e =>h2 e.symm⟩))
        clear HN2 HKy HX2
        go_wp2_with fail
        exact ⟨⟨m+1,by omega,by first | rfl | go_num,HN3,HX3⟩,by simp [intOf];omega⟩
      ·have e1:(x1 == y1)=false:=by simpa using h1
       have HN3:=kz ((oz HN2).next (oz HKy) (by unfold zpc;simp;exact ⟨fun e =>h0 e.symm,fun e =>absurd e.symm h1⟩))
       clear HN2 HKy HX2
       go_wp2_with fail
       exact ⟨⟨m+1,by omega,by first | rfl | go_num,HN3,HX3⟩,by simp [intOf];omega⟩
    ·have m1:¬ (m:Int) < (k:Int):=by omega
     obtain rfl:m=k:=by omega
     have hf:(twP T.pr) m=0:=zok (oz HK) (oz HN2)
     have HO2:=kz ((oz HO).next hf)
     have HX3:=kz ((oz HX).chain (oz HX2))
     have hkn:=oz HKN
     clear hf HO HK HN2 ea
     go_wp2_with fail
     exact ⟨⟨m+1,by omega,by first | rfl | go_num,HO2,HX3⟩,by simp [intOf];omega⟩
  ·have k1:¬ (k:Int) < (T.pr.length:Int):=by omega
   have zz:=(oz HX).rx.tb.z3
   have HE:Hz (zaG 4 T.pr.length (twP T.pr)=(0,0,0)):=kz (zbE (fun i hi =>oz HO i (by omega)))
   clear HO HR HF
   go_wp2_with fail
   exact oz HN (oz HE) _ _ (zau rfl) HX
noncomputable def uaWd:Code:=match Tryz.f56.body with
 | some (.seq _ (.seq _ (.seq _ (.seq _ (.seq c _))))) =>c
 | _ =>.skip
theorem znK (T:TV) (hT:TabB T) (A:TbA) (W w:World) (h:RxS W w T A) (U:Nat→Value) {Q:Exit→Act→World→Prop}
  (hN:zaG 5 T.fo.length (twF T.fo mp0 (fun x =>x.1))=(0,0,0)→∀ (a:Act) (wn:World),(∃ U',a=zc6 W U')→Hz (RxT W w wn T A)→Q .normal a wn)
  (hR:∀ (y k:Int),zaG 5 T.fo.length (twF T.fo mp0 (fun x =>x.1))=(y,5,k)→y≠0→∀ (a:Act) (wn:World),a.tmps.getD 2 undef=.pointer (some ⟨W.heap.size+1,0,none⟩)→a.defers=[]→Hz (RxD W wn (y,5,k))→Q .ret a wn) :
  Code.wp Tryz.prog uaWd Q (zc6 W U) w:=by
 have HN:=kz hN
 have HR:=kz hR
 have HX:=kz (RxT.refl h)
 have hln:=hT.n4
 have HF:=kz (fun r a c w (hv:RowC w w.heap.size a (zbl T.fo)) =>zb2 T.fo hT.n4 a c r w hv)
 clear hN hR h hT
 delta uaWd Tryz.f56 zc6 at *
 dsimp only
 go_wp2_with fail
 go_loopw [11] (fun i wr => ∃ k:Nat,k≤T.fo.length∧i=.int .i64 k∧Hz (OkR (twF T.fo mp0 (fun x =>x.1)) k)∧Hz (RxT W w wr T A)) (fun i _ =>T.fo.length - (intOf i).toNat)
 case atStart =>exact ⟨0,Nat.zero_le _,rfl,kz (OkR.zero _),HX⟩
 case round =>
  clear HX
  obtain ⟨k,hk,rfl,HO,HX⟩:=hrel
  by_cases hkn:k < T.fo.length
  ·obtain ⟨x,hx⟩:∃ x,T.fo[k]?=some x:=⟨_,List.getElem?_eq_getElem hkn⟩
   obtain ⟨g,o,ea,hg,c0,c1⟩:=zlH (oz HX).rx.tb.ti.r4 hx
   have HK:=kz hx
   have HG:=kz hg
   have k1:(k:Int) < (T.fo.length:Int):=by omega
   have k2:((k:Nat):Int).toNat=k:=by omega
   have zz:=(oz HX).rx.tb.z4
   rw [ea] at zz
   clear hg hx
   have HF2:=kz (fun w' (hw:Below wr.heap.size wr w') =>oz HF x.1 A.a4 A.c4 w' ((oz HX).rx.tb.ti.r4.below hw hw.size))
   rw [ea] at HF2
   have HT2:=kz (zpi (oz HK))
   generalize zd1 T.fo (fun y =>y.1 == x.1)=ii at *
   clear HF ea
   rcases oz HT2 with ⟨hi,hv⟩ | ⟨hi,hv⟩
   ·have hf:(twF T.fo mp0 (fun x =>x.1)) k=14:=hv
    have HE:=kz (zba (list:=5) (n:=T.fo.length) k (by omega) (oz HO) (by rw [hf];decide))
    rw [hf] at HE
    clear hf HO HK
    have y0:=cell_regrown c0
    have yz:=cell_regrown zz
    clear hv HT2 hkn
    go_wp2_with fail
    refine wp_region_quiet_below (by kernel_rfl) (by kernel_rfl) ?_
    repeat (go_big_quiet_step (exact Calls.regrown_of ((oz HF2 _ (below_regrown _ _ _)).mono (fun e w2 h =>⟨h.1,h.2 ▸ Below.refl _ _⟩))))
    first | refine wpQuiet_nil ?_ | skip
    rintro w' ⟨p,rfl⟩
    have HBq:=kz (below_regrown wr p.d p.os)
    generalize Go.Sort.grow (redrawn wr p.d) p.os=w1 at *
    have HX1:=kz ((oz HX).below (oz HBq))
    clear y0 yz HF2 HX zz c0 c1
    have r0:=(oz HX1).rx.rs.cell 0
    have f0:=(oz HX1).rx.rs.frozen 0
    have r1:=(oz HX1).rx.rs.cell 1
    have f1:=(oz HX1).rx.rs.frozen 1
    have r2:=(oz HX1).rx.rs.cell 2
    have f2:=(oz HX1).rx.rs.frozen 2
    go_wp2_with fail
    exact oz HR _ _ (oz HE) (by decide) _ _ rfl rfl (kz ((oz HX1).put _ _ _))
   ·have HO2:=kz ((oz HO).next hv)
    have y0:=cell_regrown c0
    have yz:=cell_regrown zz
    clear hv HT2 HO HK
    go_wp2_with fail
    refine wp_region_quiet_below (by kernel_rfl) (by kernel_rfl) ?_
    repeat (go_big_quiet_step (exact Calls.regrown_of ((oz HF2 _ (below_regrown _ _ _)).mono (fun e w2 h =>⟨h.1,h.2 ▸ Below.refl _ _⟩))))
    first | refine wpQuiet_nil ?_ | skip
    rintro w' ⟨p,rfl⟩
    have HBq:=kz (below_regrown wr p.d p.os)
    generalize Go.Sort.grow (redrawn wr p.d) p.os=w1 at *
    have HX1:=kz ((oz HX).below (oz HBq))
    clear y0 yz HF2 HX zz c0 c1
    go_wp2_with fail
    exact ⟨⟨k+1,by omega,by first | rfl | go_num,HO2,HX1⟩,by simp [intOf];omega⟩
  ·have k1:¬ (k:Int) < (T.fo.length:Int):=by omega
   have zz:=(oz HX).rx.tb.z4
   have HE:Hz (zaG 5 T.fo.length (twF T.fo mp0 (fun x =>x.1))=(0,0,0)):=kz (zbE (fun i hi =>oz HO i (by omega)))
   clear HO HR HF
   go_wp2_with fail
   exact oz HN (oz HE) _ _ (zau rfl) HX
noncomputable def uaWe:Code:=match Tryz.f56.body with
 | some (.seq _ (.seq _ (.seq _ (.seq _ (.seq _ (.seq c _)))))) =>c
 | _ =>.skip
theorem znJ (T:TV) (hT:TabB T) (A:TbA) (W w:World) (h:RxS W w T A) (U:Nat→Value) {Q:Exit→Act→World→Prop}
  (hN:zaG 6 T.lk.length (twF T.lk mp0 (fun x =>x.1))=(0,0,0)→∀ (a:Act) (wn:World),(∃ U',a=zc6 W U')→Hz (RxT W w wn T A)→Q .normal a wn)
  (hR:∀ (y k:Int),zaG 6 T.lk.length (twF T.lk mp0 (fun x =>x.1))=(y,6,k)→y≠0→∀ (a:Act) (wn:World),a.tmps.getD 2 undef=.pointer (some ⟨W.heap.size+1,0,none⟩)→a.defers=[]→Hz (RxD W wn (y,6,k))→Q .ret a wn) :
  Code.wp Tryz.prog uaWe Q (zc6 W U) w:=by
 have HN:=kz hN
 have HR:=kz hR
 have HX:=kz (RxT.refl h)
 have hln:=hT.n5
 have HF:=kz (fun r a c w (hv:RowC w w.heap.size a (zbl T.lk)) =>zb2 T.lk hT.n5 a c r w hv)
 clear hN hR h hT
 delta uaWe Tryz.f56 zc6 at *
 dsimp only
 go_wp2_with fail
 go_loopw [12] (fun i wr => ∃ k:Nat,k≤T.lk.length∧i=.int .i64 k∧Hz (OkR (twF T.lk mp0 (fun x =>x.1)) k)∧Hz (RxT W w wr T A)) (fun i _ =>T.lk.length - (intOf i).toNat)
 case atStart =>exact ⟨0,Nat.zero_le _,rfl,kz (OkR.zero _),HX⟩
 case round =>
  clear HX
  obtain ⟨k,hk,rfl,HO,HX⟩:=hrel
  by_cases hkn:k < T.lk.length
  ·obtain ⟨x,hx⟩:∃ x,T.lk[k]?=some x:=⟨_,List.getElem?_eq_getElem hkn⟩
   obtain ⟨g,o,ea,hg,c0,c1⟩:=zlH (oz HX).rx.tb.ti.r5 hx
   have HK:=kz hx
   have HG:=kz hg
   have k1:(k:Int) < (T.lk.length:Int):=by omega
   have k2:((k:Nat):Int).toNat=k:=by omega
   have zz:=(oz HX).rx.tb.z5
   rw [ea] at zz
   clear hg hx
   have HF2:=kz (fun w' (hw:Below wr.heap.size wr w') =>oz HF x.1 A.a5 A.c5 w' ((oz HX).rx.tb.ti.r5.below hw hw.size))
   rw [ea] at HF2
   have HT2:=kz (zpi (oz HK))
   generalize zd1 T.lk (fun y =>y.1 == x.1)=ii at *
   clear HF ea
   rcases oz HT2 with ⟨hi,hv⟩ | ⟨hi,hv⟩
   ·have hf:(twF T.lk mp0 (fun x =>x.1)) k=14:=hv
    have HE:=kz (zba (list:=6) (n:=T.lk.length) k (by omega) (oz HO) (by rw [hf];decide))
    rw [hf] at HE
    clear hf HO HK
    have y0:=cell_regrown c0
    have yz:=cell_regrown zz
    clear hv HT2 hkn
    go_wp2_with fail
    refine wp_region_quiet_below (by kernel_rfl) (by kernel_rfl) ?_
    repeat (go_big_quiet_step (exact Calls.regrown_of ((oz HF2 _ (below_regrown _ _ _)).mono (fun e w2 h =>⟨h.1,h.2 ▸ Below.refl _ _⟩))))
    first | refine wpQuiet_nil ?_ | skip
    rintro w' ⟨p,rfl⟩
    have HBq:=kz (below_regrown wr p.d p.os)
    generalize Go.Sort.grow (redrawn wr p.d) p.os=w1 at *
    have HX1:=kz ((oz HX).below (oz HBq))
    clear y0 yz HF2 HX zz c0 c1
    have r0:=(oz HX1).rx.rs.cell 0
    have f0:=(oz HX1).rx.rs.frozen 0
    have r1:=(oz HX1).rx.rs.cell 1
    have f1:=(oz HX1).rx.rs.frozen 1
    have r2:=(oz HX1).rx.rs.cell 2
    have f2:=(oz HX1).rx.rs.frozen 2
    go_wp2_with fail
    exact oz HR _ _ (oz HE) (by decide) _ _ rfl rfl (kz ((oz HX1).put _ _ _))
   ·have HO2:=kz ((oz HO).next hv)
    have y0:=cell_regrown c0
    have yz:=cell_regrown zz
    clear hv HT2 HO HK
    go_wp2_with fail
    refine wp_region_quiet_below (by kernel_rfl) (by kernel_rfl) ?_
    repeat (go_big_quiet_step (exact Calls.regrown_of ((oz HF2 _ (below_regrown _ _ _)).mono (fun e w2 h =>⟨h.1,h.2 ▸ Below.refl _ _⟩))))
    first | refine wpQuiet_nil ?_ | skip
    rintro w' ⟨p,rfl⟩
    have HBq:=kz (below_regrown wr p.d p.os)
    generalize Go.Sort.grow (redrawn wr p.d) p.os=w1 at *
    have HX1:=kz ((oz HX).below (oz HBq))
    clear y0 yz HF2 HX zz c0 c1
    go_wp2_with fail
    exact ⟨⟨k+1,by omega,by first | rfl | go_num,HO2,HX1⟩,by simp [intOf];omega⟩
  ·have k1:¬ (k:Int) < (T.lk.length:Int):=by omega
   have zz:=(oz HX).rx.tb.z5
   have HE:Hz (zaG 6 T.lk.length (twF T.lk mp0 (fun x =>x.1))=(0,0,0)):=kz (zbE (fun i hi =>oz HO i (by omega)))
   clear HO HR HF
   go_wp2_with fail
   exact oz HN (oz HE) _ _ (zau rfl) HX
theorem zjp (T:TV) (hT:TabB T) (v:Value) (W:World) (hv:TbV W T v) :
  Calls Tryz.prog 56 #[v] W fun e w' =>e=.returned (wrV (za9 T))∧Below W.heap.size W w':=by
 obtain ⟨A,rfl,hA⟩:=hv
 have HX:=kz (RxS.start hA)
 have HT:=kz hT
 have HV:∃ mb,Hz (orW [zaG 1 T.sc.length (twF T.sc sc0 (fun x =>x.1.data.toList)),zaG 3 T.ma.length (twF T.ma ma0 (fun x =>x.1)),zaG 4 T.pr.length (twP T.pr),zaG 5 T.fo.length (twF T.fo mp0 (fun x =>x.1)),zaG 6 T.lk.length (twF T.lk mp0 (fun x =>x.1))]=mb):=⟨_,kz rfl⟩
 obtain ⟨mb,HV⟩:=HV
 rw [show za9 T=mb from oz HV]
 clear hA hT
 go_enter Tryz.func56,Tryz.ntmps56
 refine wp_seq_k (fun K0 hK0 =>?_)
 have HK0:=kz hK0
 clear hK0
 go_wp2_with fail
 refine oz HK0 _ _ ?_
 clear HK0 K0
 generalize (W.alloc (.cells #[.slice A.a0 T.sc.length A.c0,.slice A.a1 T.co.length A.c1,.slice A.a2 T.ma.length A.c2,.slice A.a3 T.pr.length A.c3,.slice A.a4 T.fo.length A.c4,.slice A.a5 T.lk.length A.c5,.slice A.a6 T.dr.length A.c6,.slice A.a7 T.al.length A.c7] 28)).alloc (.cells #[.int .i64 0,.int .i64 0,.int .i64 0] 76)=w0 at *
 have hR:∀ (y l k:Int),mb=(y,l,k)→∀ (a:Act) (wn:World),a.tmps.getD 2 undef=.pointer (some ⟨W.heap.size+1,0,none⟩)→a.defers=[]→Hz (RxD W wn (y,l,k))→bodyPost Tryz.prog Tryz.f56 (fun e w' =>e=.returned (wrV mb)∧Below W.heap.size W w') .ret a wn:=fun y l k e a wn h1 h2 h3 =>by
  subst e
  exact bodyPost_ret (v:=wrV (y,l,k)) (zb8 Tryz.results56 h1 (oz h3).rs rfl) h2 ⟨rfl,(oz h3).bl⟩
 refine wp_seq_k (fun K1 hK1 =>?_)
 refine zaL (F:=zc6 W) (zau rfl) (fun U =>?_)
 refine znN T (oz HT) A W _ (oz HX) U ?_ ?_
 rotate_left
 ·intro y k e hy a wn h1 h2 h3
  exact hR y _ k (by rw [← oz HV,zai (by rw [e];exact hy),e]) a wn h1 h2 h3
 intro E1 a w1 ⟨U1,hU⟩ hx
 subst hU
 have HX1:=kz (oz hx).rx
 clear hx
 refine hK1 _ _ ?_
 clear hK1 K1
 refine wp_seq_k (fun K2 hK2 =>?_)
 refine zaL (F:=zc6 W) ⟨U1,rfl⟩ (fun U =>?_)
 refine znM T (oz HT) A W _ (oz HX1) U ?_ ?_
 rotate_left
 ·intro y k e hy a wn h1 h2 h3
  exact hR y _ k (by rw [← oz HV,zad (by rw [E1]),zai (by rw [e];exact hy),e]) a wn h1 h2 h3
 intro E2 a w2 ⟨U2,hU⟩ hx
 subst hU
 have HX2:=kz (oz hx).rx
 clear hx
 refine hK2 _ _ ?_
 clear hK2 K2
 refine wp_seq_k (fun K3 hK3 =>?_)
 refine zaL (F:=zc6 W) ⟨U2,rfl⟩ (fun U =>?_)
 refine znL T (oz HT) A W _ (oz HX2) U ?_ ?_
 rotate_left
 ·intro y k e hy a wn h1 h2 h3
  exact hR y _ k (by rw [← oz HV,zad (by rw [E1]),zad (by rw [E2]),zai (by rw [e];exact hy),e]) a wn h1 h2 h3
 intro E3 a w3 ⟨U3,hU⟩ hx
 subst hU
 have HX3:=kz (oz hx).rx
 clear hx
 refine hK3 _ _ ?_
 clear hK3 K3
 refine wp_seq_k (fun K4 hK4 =>?_)
 refine zaL (F:=zc6 W) ⟨U3,rfl⟩ (fun U =>?_)
 refine znK T (oz HT) A W _ (oz HX3) U ?_ ?_
 rotate_left
 ·intro y k e hy a wn h1 h2 h3
  exact hR y _ k (by rw [← oz HV,zad (by rw [E1]),zad (by rw [E2]),zad (by rw [E3]),zai (by rw [e];exact hy),e]) a wn h1 h2 h3
 intro E4 a w4 ⟨U4,hU⟩ hx
 subst hU
 have HX4:=kz (oz hx).rx
 clear hx
 refine hK4 _ _ ?_
 clear hK4 K4
 refine wp_seq_k (fun K5 hK5 =>?_)
 refine zaL (F:=zc6 W) ⟨U4,rfl⟩ (fun U =>?_)
 refine znJ T (oz HT) A W _ (oz HX4) U ?_ ?_
 rotate_left
 ·intro y k e hy a wn h1 h2 h3
  exact hR y _ k (by rw [← oz HV,zad (by rw [E1]),zad (by rw [E2]),zad (by rw [E3]),zad (by rw [E4]),zai (by rw [e];exact hy),e]) a wn h1 h2 h3
 intro E5 a w5 ⟨U5,hU⟩ hx
 subst hU
 have HX5:=kz (oz hx).rx
 clear hx
 refine hK5 _ _ ?_
 clear hK5 K5
 have hm:mb=(0,0,0):=by
  rw [← oz HV,zad (by rw [E1]),zad (by rw [E2]),zad (by rw [E3]),zad (by rw [E4]),zad (by rw [E5])]
  rfl
 subst hm
 clear hR HV E1 E2 E3 E4 E5
 refine zaL (F:=zc6 W) ⟨U5,rfl⟩ (fun U =>?_)
 unfold zc6
 have r0:=(oz HX5).rs.cell 0
 have f0:=(oz HX5).rs.frozen 0
 have r1:=(oz HX5).rs.cell 1
 have f1:=(oz HX5).rs.frozen 1
 have r2:=(oz HX5).rs.cell 2
 have f2:=(oz HX5).rs.frozen 2
 go_wp2_with fail
 exact bodyPost_ret (v:=wrV (0,0,0)) (zb8 Tryz.results56 rfl (zcf (oz HX5).rs _ _ _) rfl) rfl ⟨rfl,((oz HX5).put (0,0,0)).bl⟩
def znB (x:ByteArray × List (Int × Int)):Int:=if 1024 < x.2.length then 4 else 0
def zlK (T:TV):List Nat := [T.co.length,T.ma.length,T.pr.length,T.fo.length,T.lk.length,T.dr.length,T.al.length]
def mostQ:List Nat := [1024,512,4096,4096,4096,1024,1024]
def zoS (T:TV):List (Int × Int × Int) := [zeb 2 T.co.length 1024,zeb 3 T.ma.length 512,zeb 4 T.pr.length 4096,zeb 5 T.fo.length 4096,zeb 6 T.lk.length 4096,zeb 7 T.dr.length 1024,zeb 8 T.al.length 1024]
theorem zaT {list:Int} {n m:Nat} (h:n≤m):zeb list n m=(0,0,0):=if_pos h
theorem zbp {list:Int} {n m:Nat} (h:m < n):zeb list n m=(4,list,(m:Int)):=if_neg (by omega)
theorem zp0 {T:TV} (h:∀ j,j < 7→(zlK T).getD j 0≤mostQ.getD j 0):orW (zoS T)=(0,0,0):=by
 have h0:T.co.length≤1024:=h 0 (by omega)
 have h1:T.ma.length≤512:=h 1 (by omega)
 have h2:T.pr.length≤4096:=h 2 (by omega)
 have h3:T.fo.length≤4096:=h 3 (by omega)
 have h4:T.lk.length≤4096:=h 4 (by omega)
 have h5:T.dr.length≤1024:=h 5 (by omega)
 have h6:T.al.length≤1024:=h 6 (by omega)
 unfold zoS
 rw [zaT h0,zaT h1,zaT h2,zaT h3,zaT h4,zaT h5,zaT h6]
 rfl
theorem zoR {T:TV} {k:Nat} (hk:k < 7) (h:∀ j,j < k→(zlK T).getD j 0≤mostQ.getD j 0) (hb:mostQ.getD k 0 < (zlK T).getD k 0):orW (zoS T)=(4,2+(k:Int),((mostQ.getD k 0:Nat):Int)):=by
 unfold zoS
 have hk:k=0∨k=1∨k=2∨k=3∨k=4∨k=5∨k=6:=by omega
 rcases hk with rfl | rfl | rfl | rfl | rfl | rfl | rfl
 ·have hb:1024 < T.co.length:=hb
  rw [zai (by rw [zbp hb];decide),zbp hb]
  rfl
 ·have h0:T.co.length≤1024:=h 0 (by omega)
  have hb:512 < T.ma.length:=hb
  rw [zad (by rw [zaT h0]),zai (by rw [zbp hb];decide),zbp hb]
  rfl
 ·have h0:T.co.length≤1024:=h 0 (by omega)
  have h1:T.ma.length≤512:=h 1 (by omega)
  have hb:4096 < T.pr.length:=hb
  rw [zad (by rw [zaT h0]),zad (by rw [zaT h1]),zai (by rw [zbp hb];decide),zbp hb]
  rfl
 ·have h0:T.co.length≤1024:=h 0 (by omega)
  have h1:T.ma.length≤512:=h 1 (by omega)
  have h2:T.pr.length≤4096:=h 2 (by omega)
  have hb:4096 < T.fo.length:=hb
  rw [zad (by rw [zaT h0]),zad (by rw [zaT h1]),zad (by rw [zaT h2]),zai (by rw [zbp hb];decide),zbp hb]
  rfl
 ·have h0:T.co.length≤1024:=h 0 (by omega)
  have h1:T.ma.length≤512:=h 1 (by omega)
  have h2:T.pr.length≤4096:=h 2 (by omega)
  have h3:T.fo.length≤4096:=h 3 (by omega)
  have hb:4096 < T.lk.length:=hb
  rw [zad (by rw [zaT h0]),zad (by rw [zaT h1]),zad (by rw [zaT h2]),zad (by rw [zaT h3]),zai (by rw [zbp hb];decide),zbp hb]
  rfl
 ·have h0:T.co.length≤1024:=h 0 (by omega)
  have h1:T.ma.length≤512:=h 1 (by omega)
  have h2:T.pr.length≤4096:=h 2 (by omega)
  have h3:T.fo.length≤4096:=h 3 (by omega)
  have h4:T.lk.length≤4096:=h 4 (by omega)
  have hb:1024 < T.dr.length:=hb
  rw [zad (by rw [zaT h0]),zad (by rw [zaT h1]),zad (by rw [zaT h2]),zad (by rw [zaT h3]),zad (by rw [zaT h4]),zai (by rw [zbp hb];decide),zbp hb]
  rfl
 ·have h0:T.co.length≤1024:=h 0 (by omega)
  have h1:T.ma.length≤512:=h 1 (by omega)
  have h2:T.pr.length≤4096:=h 2 (by omega)
  have h3:T.fo.length≤4096:=h 3 (by omega)
  have h4:T.lk.length≤4096:=h 4 (by omega)
  have h5:T.dr.length≤1024:=h 5 (by omega)
  have hb:1024 < T.al.length:=hb
  rw [zad (by rw [zaT h0]),zad (by rw [zaT h1]),zad (by rw [zaT h2]),zad (by rw [zaT h3]),zad (by rw [zaT h4]),zad (by rw [zaT h5]),zai (by rw [zbp hb];decide),zbp hb]
  rfl
def zlS (W:World) (U:Nat→Value):Act:={ tmps:=#[U 0,.pointer (some ⟨W.heap.size,0,none⟩),.pointer (some ⟨W.heap.size+1,0,none⟩),U 3,U 4,U 5,U 6,U 7,U 8,U 9,U 10,U 11,U 12,U 13,U 14,U 15,U 16,U 17,U 18,U 19,U 20,U 21,U 22,U 23,U 24,U 25,U 26,U 27,U 28,U 29,U 30,U 31,U 32,U 33,U 34,U 35,U 36,U 37,U 38,U 39,U 40,U 41,U 42,U 43,U 44,U 45,U 46,U 47,U 48,U 49,U 50,U 51,U 52,U 53,U 54,U 55,U 56,U 57,U 58,U 59,U 60,U 61,U 62,U 63,U 64,U 65,U 66,U 67,U 68,U 69,U 70,U 71,U 72,U 73,U 74],defers := [] }
noncomputable def uaLa:Code:=match Tryz.f54.body with
 | some (.seq _ (.seq _ (.seq c _))) =>c
 | _ =>.skip
theorem znZ (T:TV) (hT:TabB T) (A:TbA) (W w:World)  (h:RxS W w T A) (U:Nat→Value) {Q:Exit→Act→World→Prop}
  (hN:zaf 1 T.sc sc0 (znB)=(0,0,0)→∀ (a:Act) (wn:World),(∃ U',a=zlS W U')→Hz (RxT W w wn T A)→Q .normal a wn)
  (hR:∀ (y k:Int),zaf 1 T.sc sc0 (znB)=(y,1,k)→y≠0→∀ (a:Act) (wn:World),a.tmps.getD 2 undef=.pointer (some ⟨W.heap.size+1,0,none⟩)→a.defers=[]→Hz (RxD W wn (y,1,k))→Q .ret a wn) :
  Code.wp Tryz.prog uaLa Q (zlS W U) w:=by
 have HN:=kz hN
 have HR:=kz hR
 have HX:=kz (RxT.refl h)
 have hln:=hT.n0
 clear hN hR h
 delta uaLa Tryz.f54 zlS at *
 dsimp only
 go_wp2_with fail
 go_loopw [3] (fun i wr => ∃ k:Nat,k≤T.sc.length∧i=.int .i64 k∧Hz (OkTo T.sc sc0 (znB) k)∧Hz (RxT W w wr T A)) (fun i _ =>T.sc.length - (intOf i).toNat)
 case atStart =>exact ⟨0,Nat.zero_le _,rfl,kz (OkTo.zero _ _ _),HX⟩
 case round =>
  clear HX
  obtain ⟨k,hk,rfl,HO,HX⟩:=hrel
  by_cases hkn:k < T.sc.length
  ·obtain ⟨x,hx⟩:∃ x,T.sc[k]?=some x:=⟨_,List.getElem?_eq_getElem hkn⟩
   obtain ⟨g,o,bq,dq,ea,hg,c0,c1,hrow⟩:=zoy (oz HX).rx.tb.ti hx
   have HRW:=kz hrow
   clear hrow
   have HK:=kz hx
   have HG:=kz hg
   have k1:(k:Int) < (T.sc.length:Int):=by omega
   have k2:((k:Nat):Int).toNat=k:=by omega
   have zz:=(oz HX).rx.tb.z0
   rw [ea] at zz
   clear hg hx
   by_cases h1:1024 < x.2.length
   ·have hf:znB x=4:=by unfold znB;exact if_pos h1
    have HE:=kz ((oz HO).bad (oz HK) 1 (by rw [hf];decide))
    rw [hf] at HE
    clear hf HO HK
    have n1:(1024:Int) < (x.2.length:Int):=by omega
    clear ea HRW h1
    have r0:=(oz HX).rx.rs.cell 0
    have f0:=(oz HX).rx.rs.frozen 0
    have r1:=(oz HX).rx.rs.cell 1
    have f1:=(oz HX).rx.rs.frozen 1
    have r2:=(oz HX).rx.rs.cell 2
    have f2:=(oz HX).rx.rs.frozen 2
    go_wp2_with fail
    exact oz HR _ _ (oz HE) (by decide) _ _ rfl rfl (kz ((oz HX).put _ _ _))
   ·have hf:znB x=0:=by unfold znB;exact if_neg h1
    have HO2:=kz ((oz HO).next (oz HK) hf)
    clear hf HO HK
    have n1:¬ (1024:Int) < (x.2.length:Int):=by omega
    clear ea HRW h1
    go_wp2_with fail
    exact ⟨⟨k+1,by omega,by first | rfl | go_num,HO2,HX⟩,by simp [intOf];omega⟩
  ·have k1:¬ (k:Int) < (T.sc.length:Int):=by omega
   have zz:=(oz HX).rx.tb.z0
   have HE:=kz ((oz HO).ok (by omega) 1)
   clear HO HR
   go_wp2_with fail
   exact oz HN (oz HE) _ _ (zau rfl) HX
theorem zpY {w:World} {g:Nat} {T:TV} (b:Blk w g #[.int .i64 T.co.length,.int .i64 T.ma.length,.int .i64 T.pr.length,.int .i64 T.fo.length,.int .i64 T.lk.length,.int .i64 T.dr.length,.int .i64 T.al.length] 3) (k:Nat) (hk:k < 7):w.cell? ⟨g,k,none⟩=some (.int .i64 ((zlK T).getD k 0:Nat)):=by
 rw [b.cell k]
 have hk:k=0∨k=1∨k=2∨k=3∨k=4∨k=5∨k=6:=by omega
 rcases hk with rfl | rfl | rfl | rfl | rfl | rfl | rfl <;> rfl
theorem zpV {w:World} {g:Nat} (b:Blk w g #[.int .i64 1024,.int .i64 512,.int .i64 4096,.int .i64 4096,.int .i64 4096,.int .i64 1024,.int .i64 1024] 3) (k:Nat) (hk:k < 7):w.cell? ⟨g,k,none⟩=some (.int .i64 (mostQ.getD k 0:Nat)):=by
 rw [b.cell k]
 have hk:k=0∨k=1∨k=2∨k=3∨k=4∨k=5∨k=6:=by omega
 rcases hk with rfl | rfl | rfl | rfl | rfl | rfl | rfl <;> rfl
theorem zrk {T:TV} (hT:TabB T) (k:Nat):(zlK T).getD k 0≤1048576∧mostQ.getD k 0≤1048576:=by
 have h1:=hT.n1
 have h2:=hT.n2
 have h3:=hT.n3
 have h4:=hT.n4
 have h5:=hT.n5
 have h6:=hT.n6
 have h7:=hT.n7
 by_cases hk:k < 7
 ·have hk:k=0∨k=1∨k=2∨k=3∨k=4∨k=5∨k=6:=by omega
  rcases hk with rfl | rfl | rfl | rfl | rfl | rfl | rfl
  ·exact ⟨h1,by decide⟩
  ·exact ⟨h2,by decide⟩
  ·exact ⟨h3,by decide⟩
  ·exact ⟨h4,by decide⟩
  ·exact ⟨h5,by decide⟩
  ·exact ⟨h6,by decide⟩
  ·exact ⟨h7,by decide⟩
 ·have e1:(zlK T).getD k 0=0:=by simp [List.getD,List.getElem?_eq_none (show (zlK T).length≤k by show 7≤k;omega)]
  have e2:mostQ.getD k 0=0:=by simp [List.getD,List.getElem?_eq_none (show mostQ.length≤k by show 7≤k;omega)]
  rw [e1,e2]
  exact ⟨by omega,by omega⟩
structure LqS (W w:World) (g:Nat) (T:TV) (A:TbA):Prop where
 rx:RxS W w T A
 bl:Blk w g #[.int .i64 T.co.length,.int .i64 T.ma.length,.int .i64 T.pr.length,.int .i64 T.fo.length,.int .i64 T.lk.length,.int .i64 T.dr.length,.int .i64 T.al.length] 3
 bm:Blk w (g+1) #[.int .i64 1024,.int .i64 512,.int .i64 4096,.int .i64 4096,.int .i64 4096,.int .i64 1024,.int .i64 1024] 3
theorem LqS.below {W w w':World} {g:Nat} {T:TV} {A:TbA} (h:LqS W w g T A) (hb:Below w.heap.size w w'):LqS W w' g T A:=⟨h.rx.below hb,h.bl.below hb h.bl.lt,h.bm.below hb h.bm.lt⟩
theorem LqS.start {W w:World} {T:TV} {A:TbA} (h:RxS W w T A):LqS W ((w.alloc (.cells #[.int .i64 T.co.length,.int .i64 T.ma.length,.int .i64 T.pr.length,.int .i64 T.fo.length,.int .i64 T.lk.length,.int .i64 T.dr.length,.int .i64 T.al.length] 3)).alloc (.cells #[.int .i64 1024,.int .i64 512,.int .i64 4096,.int .i64 4096,.int .i64 4096,.int .i64 1024,.int .i64 1024] 3)) w.heap.size T A :=
 have h1:=zf8 w (.cells #[.int .i64 T.co.length,.int .i64 T.ma.length,.int .i64 T.pr.length,.int .i64 T.fo.length,.int .i64 T.lk.length,.int .i64 T.dr.length,.int .i64 T.al.length] 3)
 have h2:=zf8 (w.alloc (.cells #[.int .i64 T.co.length,.int .i64 T.ma.length,.int .i64 T.pr.length,.int .i64 T.fo.length,.int .i64 T.lk.length,.int .i64 T.dr.length,.int .i64 T.al.length] 3)) (.cells #[.int .i64 1024,.int .i64 512,.int .i64 4096,.int .i64 4096,.int .i64 4096,.int .i64 1024,.int .i64 1024] 3)
 ⟨(h.below h1).below h2,(Blk.new w _ _).alloc _,by
  have b:=Blk.new (w.alloc (.cells #[.int .i64 T.co.length,.int .i64 T.ma.length,.int .i64 T.pr.length,.int .i64 T.fo.length,.int .i64 T.lk.length,.int .i64 T.dr.length,.int .i64 T.al.length] 3)) #[.int .i64 1024,.int .i64 512,.int .i64 4096,.int .i64 4096,.int .i64 4096,.int .i64 1024,.int .i64 1024] 3
  rw [World.size_alloc] at b
  exact b⟩
theorem zpZ (T:TV):zbL T=orW [zeb 1 T.sc.length 64,zaf 1 T.sc sc0 znB,orW (zoS T)]:=by
 have:zbL T=orW ([zeb 1 T.sc.length 64,zaf 1 T.sc sc0 znB]++zoS T):=rfl
 rw [this, ← zpQ]
 rfl
theorem zkV (T:TV) (hT:TabB T) (v:Value) (W:World) (hv:TbV W T v) :
  Calls Tryz.prog 54 #[v] W fun e w' =>e=.returned (wrV (zbL T))∧Below W.heap.size W w':=by
 obtain ⟨A,rfl,hA⟩:=hv
 have HX:=kz (RxS.start hA)
 have HT:=kz hT
 have HV:∃ mb,Hz (orW [zeb 1 T.sc.length 64,zaf 1 T.sc sc0 znB,orW (zoS T)]=mb):=⟨_,kz rfl⟩
 obtain ⟨mb,HV⟩:=HV
 rw [zpZ,oz HV]
 have hn:=hT.n0
 clear hA hT
 go_enter Tryz.func54,Tryz.ntmps54
 refine wp_seq_k (fun K0 hK0 =>?_)
 have HK0:=kz hK0
 clear hK0
 go_wp2_with fail
 refine oz HK0 _ _ ?_
 clear HK0 K0
 generalize (W.alloc (.cells #[.slice A.a0 T.sc.length A.c0,.slice A.a1 T.co.length A.c1,.slice A.a2 T.ma.length A.c2,.slice A.a3 T.pr.length A.c3,.slice A.a4 T.fo.length A.c4,.slice A.a5 T.lk.length A.c5,.slice A.a6 T.dr.length A.c6,.slice A.a7 T.al.length A.c7] 28)).alloc (.cells #[.int .i64 0,.int .i64 0,.int .i64 0] 76)=w0 at *
 have hR:∀ (y l k:Int),mb=(y,l,k)→∀ (a:Act) (wn:World),a.tmps.getD 2 undef=.pointer (some ⟨W.heap.size+1,0,none⟩)→a.defers=[]→Hz (RxD W wn (y,l,k))→bodyPost Tryz.prog Tryz.f54 (fun e w' =>e=.returned (wrV mb)∧Below W.heap.size W w') .ret a wn:=fun y l k e a wn h1 h2 h3 =>by
  subst e
  exact bodyPost_ret (v:=wrV (y,l,k)) (zb8 Tryz.results54 h1 (oz h3).rs rfl) h2 ⟨rfl,(oz h3).bl⟩
 have z0:=(oz HX).tb.z0
 refine wp_seq_k (fun Ka hKa =>?_)
 have HKa:=kz hKa
 have HRR:=kz hR
 clear hKa hR
 by_cases h64:64 < T.sc.length
 ·have n1:(64:Int) < (T.sc.length:Int):=by omega
  have hm:mb=(4,1,64):=by
   rw [← oz HV,zbp h64,zai (by decide)]
   rfl
  subst hm
  have r0:=(oz HX).rs.cell 0
  have f0:=(oz HX).rs.frozen 0
  have r1:=(oz HX).rs.cell 1
  have f1:=(oz HX).rs.frozen 1
  have r2:=(oz HX).rs.cell 2
  have f2:=(oz HX).rs.frozen 2
  clear HV h64
  go_wp2_with fail
  exact oz HRR _ _ _ rfl _ _ rfl rfl (kz ((oz HX).put (4,1,64)))
 ·have n1:¬ (64:Int) < (T.sc.length:Int):=by omega
  have HE0:=kz (zaT (list:=1) (show T.sc.length≤64 by omega))
  clear h64
  go_wp2_with fail
  refine oz HKa _ _ ?_
  clear HKa Ka z0
  have hR:=oz HRR
  clear HRR
  refine wp_seq_k (fun K1 hK1 =>?_)
  refine zaL (F:=zlS W) (zau rfl) (fun U =>?_)
  refine znZ T (oz HT) A W _ (oz HX) U ?_ ?_
  rotate_left
  ·intro y k e hy a wn h1 h2 h3
   exact hR y _ k (by rw [← oz HV,zad (by rw [oz HE0]),zai (by rw [e];exact hy),e]) a wn h1 h2 h3
  intro E1 a w1 ⟨U1,hU⟩ hx
  subst hU
  have HX1:=kz (oz hx).rx
  clear hx HX
  refine hK1 _ _ ?_
  clear hK1 K1
  have HV1:Hz (orW (zoS T)=mb):=kz (by
   rw [← oz HV,zad (by rw [oz HE0]),zad (by rw [E1]),zfr (zbu _)])
  have HQ:=kz (LqS.start (oz HX1))
  have HRR:=kz hR
  have HLQ:=kz (zrk (oz HT))
  clear hR HV HE0 E1
  unfold zlS
  have z1:=(oz HX1).tb.z1
  have z2:=(oz HX1).tb.z2
  have z3:=(oz HX1).tb.z3
  have z4:=(oz HX1).tb.z4
  have z5:=(oz HX1).tb.z5
  have z6:=(oz HX1).tb.z6
  have z7:=(oz HX1).tb.z7
  go_wp2_with fail
  obtain ⟨g,hg⟩:∃ g,g=w1.heap.size:=⟨_,rfl⟩
  rw [← hg] at HQ ⊢
  generalize (w1.alloc (.cells #[.int .i64 T.co.length,.int .i64 T.ma.length,.int .i64 T.pr.length,.int .i64 T.fo.length,.int .i64 T.lk.length,.int .i64 T.dr.length,.int .i64 T.al.length] 3)).alloc (.cells #[.int .i64 1024,.int .i64 512,.int .i64 4096,.int .i64 4096,.int .i64 4096,.int .i64 1024,.int .i64 1024] 3)=w2 at *
  clear z1 z2 z3 z4 z5 z6 z7 hg HX1
  go_loopw [6] (fun i wr => ∃ k:Nat,k≤7∧i=.int .i64 k∧Hz (∀ j,j < k→(zlK T).getD j 0≤mostQ.getD j 0)∧Hz (LqS W wr g T A)) (fun i _ =>7 - (intOf i).toNat)
  case atStart =>exact ⟨0,by omega,rfl,kz (fun j h =>absurd h (by omega)),HQ⟩
  case round =>
   clear HQ
   obtain ⟨k,hk,rfl,HI,HQ⟩:=hrel
   by_cases hk7:k < 7
   ·have k1:(k:Int) < 7:=by omega
    have k2:((k:Nat):Int).toNat=k:=by omega
    have c0:=zpY (oz HQ).bl k hk7
    have c1:=zpV (oz HQ).bm k hk7
    obtain ⟨hl1,hl2⟩:=oz HLQ k
    have HBD:Hz (mostQ.getD k 0 < (zlK T).getD k 0→orW (zoS T)=(4,2+(k:Int),((mostQ.getD k 0:Nat):Int))):=kz (fun e =>zoR hk7 (oz HI) e)
    have HLE:Hz ((zlK T).getD k 0≤mostQ.getD k 0→∀ j,j < k+1→(zlK T).getD j 0≤mostQ.getD j 0):=kz (fun e j hj =>by
     by_cases ej:j=k
     ·rw [ej];exact e
     ·exact oz HI j (by omega))
    generalize (zlK T).getD k 0=a1 at *
    generalize mostQ.getD k 0=b1 at *
    have y0:=cell_regrown c0
    have y1:=cell_regrown c1
    clear HI
    by_cases hab:b1 < a1
    ·have n2:(b1:Int) < (a1:Int):=by omega
     have hm:mb=(4,2+(k:Int),(b1:Int)):=by rw [← oz HV1];exact oz HBD hab
     subst hm
     clear HBD HLE HV1 hab
     go_wp2_with fail
     refine wp_region_quiet_below (by kernel_rfl) (by kernel_rfl) ?_
     repeat (go_big_quiet_step (fail))
     first | refine wpQuiet_nil ?_ | skip
     rintro w' ⟨p,rfl⟩
     have HBq:=kz (below_regrown wr p.d p.os)
     generalize Go.Sort.grow (redrawn wr p.d) p.os=w1 at *
     have HQ2:=kz ((oz HQ).below (oz HBq))
     have d1:=zbi c1 (oz HBq) ((za5 c1))
     clear y0 y1 HQ c0 c1
     have r0:=(oz HQ2).rx.rs.cell 0
     have f0:=(oz HQ2).rx.rs.frozen 0
     have r1:=(oz HQ2).rx.rs.cell 1
     have f1:=(oz HQ2).rx.rs.frozen 1
     have r2:=(oz HQ2).rx.rs.cell 2
     have f2:=(oz HQ2).rx.rs.frozen 2
     go_wp2_with fail
     exact oz HRR _ _ _ rfl _ _ rfl rfl (kz ((oz HQ2).rx.put (4,2+(k:Int),(b1:Int))))
    ·have n2:¬ (b1:Int) < (a1:Int):=by omega
     have HI2:=kz (oz HLE (by omega))
     clear HBD HLE hab
     go_wp2_with fail
     refine wp_region_quiet_below (by kernel_rfl) (by kernel_rfl) ?_
     repeat (go_big_quiet_step (fail))
     first | refine wpQuiet_nil ?_ | skip
     rintro w' ⟨p,rfl⟩
     have HBq:=kz (below_regrown wr p.d p.os)
     generalize Go.Sort.grow (redrawn wr p.d) p.os=w1 at *
     have HQ2:=kz ((oz HQ).below (oz HBq))
     clear y0 y1 HQ c0 c1
     go_wp2_with fail
     exact ⟨⟨k+1,by omega,by first | rfl | go_num,HI2,HQ2⟩,by simp [intOf];omega⟩
   ·have k1:¬ (k:Int) < 7:=by omega
    have hm:mb=(0,0,0):=by
     rw [← oz HV1]
     exact zp0 (fun j hj =>oz HI j (by omega))
    subst hm
    clear HI HV1
    have r0:=(oz HQ).rx.rs.cell 0
    have f0:=(oz HQ).rx.rs.frozen 0
    have r1:=(oz HQ).rx.rs.cell 1
    have f1:=(oz HQ).rx.rs.frozen 1
    have r2:=(oz HQ).rx.rs.cell 2
    have f2:=(oz HQ).rx.rs.frozen 2
    go_wp2_with fail
    exact oz HRR _ _ _ rfl _ _ rfl rfl (kz ((oz HQ).rx.put (0,0,0)))
def zcA (W:World) (v3:Value) (U:Nat→Value):Act:={ tmps:=#[U 0,.pointer (some ⟨W.heap.size,0,none⟩),.pointer (some ⟨W.heap.size+1,0,none⟩),v3,U 4,U 5,U 6,U 7,U 8,U 9,U 10,U 11,U 12,U 13,U 14,U 15,U 16,U 17,U 18,U 19,U 20,U 21,U 22,U 23,U 24,U 25,U 26,U 27,U 28,U 29,U 30,U 31,U 32,U 33,U 34,U 35,U 36],defers := [] }
noncomputable def uaCa:Code:=match Tryz.f37.body with
 | some (.seq _ (.seq _ (.seq c _))) =>c
 | _ =>.skip
theorem zoj (T:TV) (A:TbA) (W w:World) (B:Nat) (hTW:zfM W T A) (l:List (Int × Int × Int)) (y:Int × Int × Int) (hy:OkW y) (hC:(orW l).1=0→∀ w1,TbV w1 T (.agg #[.slice A.a0 T.sc.length A.c0,.slice A.a1 T.co.length A.c1,.slice A.a2 T.ma.length A.c2,.slice A.a3 T.pr.length A.c3,.slice A.a4 T.fo.length A.c4,.slice A.a5 T.lk.length A.c5,.slice A.a6 T.dr.length A.c6,.slice A.a7 T.al.length A.c7])→Calls Tryz.prog 55 #[.agg #[.slice A.a0 T.sc.length A.c0,.slice A.a1 T.co.length A.c1,.slice A.a2 T.ma.length A.c2,.slice A.a3 T.pr.length A.c3,.slice A.a4 T.fo.length A.c4,.slice A.a5 T.lk.length A.c5,.slice A.a6 T.dr.length A.c6,.slice A.a7 T.al.length A.c7]] w1 fun e w' =>e=.returned (wrV y)∧Below w1.heap.size w1 w')
  (h:CkS W w B T A (orW l)) (U:Nat→Value) {Q:Exit→Act→World→Prop}
  (hQ:∀ (a:Act) (wn:World),(∃ U',a=zcA W (.pointer (some ⟨B,0,none⟩)) U')→Hz (CkS W wn B T A (orW (l++[y])))→Q .normal a wn) :
  Code.wp Tryz.prog uaCa Q (zcA W (.pointer (some ⟨B,0,none⟩)) U) w:=by
 have HQ:=kz hQ
 have HX:=kz h
 have HC:=kz hC
 have HTW:=kz hTW
 have HV:=kz (zco (l:=l) (y:=y) hy)
 obtain ⟨x,hx⟩:∃ x,orW l=x:=⟨_,rfl⟩
 rw [hx] at HX HV HC
 rw [oz HV] at HQ
 clear HV hQ h hx hy hC hTW
 obtain ⟨x0,x1,x2⟩:=x
 obtain ⟨y0,y1,y2⟩:=y
 unfold wrV at HC
 dsimp only at HC HQ HX
 delta uaCa Tryz.f37 zcA at *
 dsimp only
 by_cases hx0:x0=0
 ·subst hx0
  rw [if_pos rfl] at HQ
  have s0:=(oz HX).bw.cell 0
  have g0:=(oz HX).bw.frozen 0
  have s1:=(oz HX).bw.cell 1
  have g1:=(oz HX).bw.frozen 1
  have s2:=(oz HX).bw.cell 2
  have g2:=(oz HX).bw.frozen 2
  have z0:=(oz HX).bx.cell 0
  have z1:=(oz HX).bx.cell 1
  have z2:=(oz HX).bx.cell 2
  have z3:=(oz HX).bx.cell 3
  have z4:=(oz HX).bx.cell 4
  have z5:=(oz HX).bx.cell 5
  have z6:=(oz HX).bx.cell 6
  have z7:=(oz HX).bx.cell 7
  go_wp2_with fail
  refine (oz HC (by first | trivial | rfl) _ ((oz HX).rx (oz HTW)).tb.tv).mono ?_
  rintro e w2 ⟨rfl,hb⟩
  have HX2:=kz ((oz HX).below hb)
  clear hb HC HX z0 z1 z2 z3 z4 z5 z6 z7
  clear s0 s1 s2 g0 g1 g2
  have s0:=(oz HX2).bw.cell 0
  have g0:=(oz HX2).bw.frozen 0
  have s1:=(oz HX2).bw.cell 1
  have g1:=(oz HX2).bw.frozen 1
  have s2:=(oz HX2).bw.cell 2
  have g2:=(oz HX2).bw.frozen 2
  go_wp2_with fail
  exact oz HQ _ _ (zau rfl) (kz ((oz HX2).put (y0,y1,y2)))
 ·rw [if_neg hx0] at HQ
  have q:(x0 == 0)=false:=by simpa using hx0
  have s0:=(oz HX).bw.cell 0
  have g0:=(oz HX).bw.frozen 0
  have s1:=(oz HX).bw.cell 1
  have g1:=(oz HX).bw.frozen 1
  have s2:=(oz HX).bw.cell 2
  have g2:=(oz HX).bw.frozen 2
  go_wp2_with fail
  exact oz HQ _ _ (zau rfl) HX
noncomputable def uaCb:Code:=match Tryz.f37.body with
 | some (.seq _ (.seq _ (.seq _ (.seq c _)))) =>c
 | _ =>.skip
theorem zoi (T:TV) (A:TbA) (W w:World) (B:Nat) (hTW:zfM W T A) (l:List (Int × Int × Int)) (y:Int × Int × Int) (hy:OkW y) (hC:(orW l).1=0→∀ w1,TbV w1 T (.agg #[.slice A.a0 T.sc.length A.c0,.slice A.a1 T.co.length A.c1,.slice A.a2 T.ma.length A.c2,.slice A.a3 T.pr.length A.c3,.slice A.a4 T.fo.length A.c4,.slice A.a5 T.lk.length A.c5,.slice A.a6 T.dr.length A.c6,.slice A.a7 T.al.length A.c7])→Calls Tryz.prog 56 #[.agg #[.slice A.a0 T.sc.length A.c0,.slice A.a1 T.co.length A.c1,.slice A.a2 T.ma.length A.c2,.slice A.a3 T.pr.length A.c3,.slice A.a4 T.fo.length A.c4,.slice A.a5 T.lk.length A.c5,.slice A.a6 T.dr.length A.c6,.slice A.a7 T.al.length A.c7]] w1 fun e w' =>e=.returned (wrV y)∧Below w1.heap.size w1 w')
  (h:CkS W w B T A (orW l)) (U:Nat→Value) {Q:Exit→Act→World→Prop}
  (hQ:∀ (a:Act) (wn:World),(∃ U',a=zcA W (.pointer (some ⟨B,0,none⟩)) U')→Hz (CkS W wn B T A (orW (l++[y])))→Q .normal a wn) :
  Code.wp Tryz.prog uaCb Q (zcA W (.pointer (some ⟨B,0,none⟩)) U) w:=by
 have HQ:=kz hQ
 have HX:=kz h
 have HC:=kz hC
 have HTW:=kz hTW
 have HV:=kz (zco (l:=l) (y:=y) hy)
 obtain ⟨x,hx⟩:∃ x,orW l=x:=⟨_,rfl⟩
 rw [hx] at HX HV HC
 rw [oz HV] at HQ
 clear HV hQ h hx hy hC hTW
 obtain ⟨x0,x1,x2⟩:=x
 obtain ⟨y0,y1,y2⟩:=y
 unfold wrV at HC
 dsimp only at HC HQ HX
 delta uaCb Tryz.f37 zcA at *
 dsimp only
 by_cases hx0:x0=0
 ·subst hx0
  rw [if_pos rfl] at HQ
  have s0:=(oz HX).bw.cell 0
  have g0:=(oz HX).bw.frozen 0
  have s1:=(oz HX).bw.cell 1
  have g1:=(oz HX).bw.frozen 1
  have s2:=(oz HX).bw.cell 2
  have g2:=(oz HX).bw.frozen 2
  have z0:=(oz HX).bx.cell 0
  have z1:=(oz HX).bx.cell 1
  have z2:=(oz HX).bx.cell 2
  have z3:=(oz HX).bx.cell 3
  have z4:=(oz HX).bx.cell 4
  have z5:=(oz HX).bx.cell 5
  have z6:=(oz HX).bx.cell 6
  have z7:=(oz HX).bx.cell 7
  go_wp2_with fail
  refine (oz HC (by first | trivial | rfl) _ ((oz HX).rx (oz HTW)).tb.tv).mono ?_
  rintro e w2 ⟨rfl,hb⟩
  have HX2:=kz ((oz HX).below hb)
  clear hb HC HX z0 z1 z2 z3 z4 z5 z6 z7
  clear s0 s1 s2 g0 g1 g2
  have s0:=(oz HX2).bw.cell 0
  have g0:=(oz HX2).bw.frozen 0
  have s1:=(oz HX2).bw.cell 1
  have g1:=(oz HX2).bw.frozen 1
  have s2:=(oz HX2).bw.cell 2
  have g2:=(oz HX2).bw.frozen 2
  go_wp2_with fail
  exact oz HQ _ _ (zau rfl) (kz ((oz HX2).put (y0,y1,y2)))
 ·rw [if_neg hx0] at HQ
  have q:(x0 == 0)=false:=by simpa using hx0
  have s0:=(oz HX).bw.cell 0
  have g0:=(oz HX).bw.frozen 0
  have s1:=(oz HX).bw.cell 1
  have g1:=(oz HX).bw.frozen 1
  have s2:=(oz HX).bw.cell 2
  have g2:=(oz HX).bw.frozen 2
  go_wp2_with fail
  exact oz HQ _ _ (zau rfl) HX
noncomputable def uaCc:Code:=match Tryz.f37.body with
 | some (.seq _ (.seq _ (.seq _ (.seq _ (.seq c _))))) =>c
 | _ =>.skip
theorem zoh (T:TV) (A:TbA) (W w:World) (B:Nat) (hTW:zfM W T A) (l:List (Int × Int × Int)) (y:Int × Int × Int) (hy:OkW y) (hC:(orW l).1=0→∀ w1,TbV w1 T (.agg #[.slice A.a0 T.sc.length A.c0,.slice A.a1 T.co.length A.c1,.slice A.a2 T.ma.length A.c2,.slice A.a3 T.pr.length A.c3,.slice A.a4 T.fo.length A.c4,.slice A.a5 T.lk.length A.c5,.slice A.a6 T.dr.length A.c6,.slice A.a7 T.al.length A.c7])→Calls Tryz.prog 57 #[.agg #[.slice A.a0 T.sc.length A.c0,.slice A.a1 T.co.length A.c1,.slice A.a2 T.ma.length A.c2,.slice A.a3 T.pr.length A.c3,.slice A.a4 T.fo.length A.c4,.slice A.a5 T.lk.length A.c5,.slice A.a6 T.dr.length A.c6,.slice A.a7 T.al.length A.c7]] w1 fun e w' =>e=.returned (wrV y)∧Below w1.heap.size w1 w')
  (h:CkS W w B T A (orW l)) (U:Nat→Value) {Q:Exit→Act→World→Prop}
  (hQ:∀ (a:Act) (wn:World),(∃ U',a=zcA W (.pointer (some ⟨B,0,none⟩)) U')→Hz (CkS W wn B T A (orW (l++[y])))→Q .normal a wn) :
  Code.wp Tryz.prog uaCc Q (zcA W (.pointer (some ⟨B,0,none⟩)) U) w:=by
 have HQ:=kz hQ
 have HX:=kz h
 have HC:=kz hC
 have HTW:=kz hTW
 have HV:=kz (zco (l:=l) (y:=y) hy)
 obtain ⟨x,hx⟩:∃ x,orW l=x:=⟨_,rfl⟩
 rw [hx] at HX HV HC
 rw [oz HV] at HQ
 clear HV hQ h hx hy hC hTW
 obtain ⟨x0,x1,x2⟩:=x
 obtain ⟨y0,y1,y2⟩:=y
 unfold wrV at HC
 dsimp only at HC HQ HX
 delta uaCc Tryz.f37 zcA at *
 dsimp only
 by_cases hx0:x0=0
 ·subst hx0
  rw [if_pos rfl] at HQ
  have s0:=(oz HX).bw.cell 0
  have g0:=(oz HX).bw.frozen 0
  have s1:=(oz HX).bw.cell 1
  have g1:=(oz HX).bw.frozen 1
  have s2:=(oz HX).bw.cell 2
  have g2:=(oz HX).bw.frozen 2
  have z0:=(oz HX).bx.cell 0
  have z1:=(oz HX).bx.cell 1
  have z2:=(oz HX).bx.cell 2
  have z3:=(oz HX).bx.cell 3
  have z4:=(oz HX).bx.cell 4
  have z5:=(oz HX).bx.cell 5
  have z6:=(oz HX).bx.cell 6
  have z7:=(oz HX).bx.cell 7
  go_wp2_with fail
  refine (oz HC (by first | trivial | rfl) _ ((oz HX).rx (oz HTW)).tb.tv).mono ?_
  rintro e w2 ⟨rfl,hb⟩
  have HX2:=kz ((oz HX).below hb)
  clear hb HC HX z0 z1 z2 z3 z4 z5 z6 z7
  clear s0 s1 s2 g0 g1 g2
  have s0:=(oz HX2).bw.cell 0
  have g0:=(oz HX2).bw.frozen 0
  have s1:=(oz HX2).bw.cell 1
  have g1:=(oz HX2).bw.frozen 1
  have s2:=(oz HX2).bw.cell 2
  have g2:=(oz HX2).bw.frozen 2
  go_wp2_with fail
  exact oz HQ _ _ (zau rfl) (kz ((oz HX2).put (y0,y1,y2)))
 ·rw [if_neg hx0] at HQ
  have q:(x0 == 0)=false:=by simpa using hx0
  have s0:=(oz HX).bw.cell 0
  have g0:=(oz HX).bw.frozen 0
  have s1:=(oz HX).bw.cell 1
  have g1:=(oz HX).bw.frozen 1
  have s2:=(oz HX).bw.cell 2
  have g2:=(oz HX).bw.frozen 2
  go_wp2_with fail
  exact oz HQ _ _ (zau rfl) HX
noncomputable def uaCd:Code:=match Tryz.f37.body with
 | some (.seq _ (.seq _ (.seq _ (.seq _ (.seq _ (.seq c _)))))) =>c
 | _ =>.skip
theorem zog (T:TV) (A:TbA) (W w:World) (B:Nat) (hTW:zfM W T A) (l:List (Int × Int × Int)) (y:Int × Int × Int) (hy:OkW y) (hC:(orW l).1=0→∀ w1,TbV w1 T (.agg #[.slice A.a0 T.sc.length A.c0,.slice A.a1 T.co.length A.c1,.slice A.a2 T.ma.length A.c2,.slice A.a3 T.pr.length A.c3,.slice A.a4 T.fo.length A.c4,.slice A.a5 T.lk.length A.c5,.slice A.a6 T.dr.length A.c6,.slice A.a7 T.al.length A.c7])→Calls Tryz.prog 58 #[.agg #[.slice A.a0 T.sc.length A.c0,.slice A.a1 T.co.length A.c1,.slice A.a2 T.ma.length A.c2,.slice A.a3 T.pr.length A.c3,.slice A.a4 T.fo.length A.c4,.slice A.a5 T.lk.length A.c5,.slice A.a6 T.dr.length A.c6,.slice A.a7 T.al.length A.c7]] w1 fun e w' =>e=.returned (wrV y)∧Below w1.heap.size w1 w')
  (h:CkS W w B T A (orW l)) (U:Nat→Value) {Q:Exit→Act→World→Prop}
  (hQ:∀ (a:Act) (wn:World),(∃ U',a=zcA W (.pointer (some ⟨B,0,none⟩)) U')→Hz (CkS W wn B T A (orW (l++[y])))→Q .normal a wn) :
  Code.wp Tryz.prog uaCd Q (zcA W (.pointer (some ⟨B,0,none⟩)) U) w:=by
 have HQ:=kz hQ
 have HX:=kz h
 have HC:=kz hC
 have HTW:=kz hTW
 have HV:=kz (zco (l:=l) (y:=y) hy)
 obtain ⟨x,hx⟩:∃ x,orW l=x:=⟨_,rfl⟩
 rw [hx] at HX HV HC
 rw [oz HV] at HQ
 clear HV hQ h hx hy hC hTW
 obtain ⟨x0,x1,x2⟩:=x
 obtain ⟨y0,y1,y2⟩:=y
 unfold wrV at HC
 dsimp only at HC HQ HX
 delta uaCd Tryz.f37 zcA at *
 dsimp only
 by_cases hx0:x0=0
 ·subst hx0
  rw [if_pos rfl] at HQ
  have s0:=(oz HX).bw.cell 0
  have g0:=(oz HX).bw.frozen 0
  have s1:=(oz HX).bw.cell 1
  have g1:=(oz HX).bw.frozen 1
  have s2:=(oz HX).bw.cell 2
  have g2:=(oz HX).bw.frozen 2
  have z0:=(oz HX).bx.cell 0
  have z1:=(oz HX).bx.cell 1
  have z2:=(oz HX).bx.cell 2
  have z3:=(oz HX).bx.cell 3
  have z4:=(oz HX).bx.cell 4
  have z5:=(oz HX).bx.cell 5
  have z6:=(oz HX).bx.cell 6
  have z7:=(oz HX).bx.cell 7
  go_wp2_with fail
  refine (oz HC (by first | trivial | rfl) _ ((oz HX).rx (oz HTW)).tb.tv).mono ?_
  rintro e w2 ⟨rfl,hb⟩
  have HX2:=kz ((oz HX).below hb)
  clear hb HC HX z0 z1 z2 z3 z4 z5 z6 z7
  clear s0 s1 s2 g0 g1 g2
  have s0:=(oz HX2).bw.cell 0
  have g0:=(oz HX2).bw.frozen 0
  have s1:=(oz HX2).bw.cell 1
  have g1:=(oz HX2).bw.frozen 1
  have s2:=(oz HX2).bw.cell 2
  have g2:=(oz HX2).bw.frozen 2
  go_wp2_with fail
  exact oz HQ _ _ (zau rfl) (kz ((oz HX2).put (y0,y1,y2)))
 ·rw [if_neg hx0] at HQ
  have q:(x0 == 0)=false:=by simpa using hx0
  have s0:=(oz HX).bw.cell 0
  have g0:=(oz HX).bw.frozen 0
  have s1:=(oz HX).bw.cell 1
  have g1:=(oz HX).bw.frozen 1
  have s2:=(oz HX).bw.cell 2
  have g2:=(oz HX).bw.frozen 2
  go_wp2_with fail
  exact oz HQ _ _ (zau rfl) HX
noncomputable def uaCe:Code:=match Tryz.f37.body with
 | some (.seq _ (.seq _ (.seq _ (.seq _ (.seq _ (.seq _ (.seq c _))))))) =>c
 | _ =>.skip
theorem zof (T:TV) (A:TbA) (W w:World) (B:Nat) (hTW:zfM W T A) (l:List (Int × Int × Int)) (y:Int × Int × Int) (hy:OkW y) (hC:(orW l).1=0→∀ w1,TbV w1 T (.agg #[.slice A.a0 T.sc.length A.c0,.slice A.a1 T.co.length A.c1,.slice A.a2 T.ma.length A.c2,.slice A.a3 T.pr.length A.c3,.slice A.a4 T.fo.length A.c4,.slice A.a5 T.lk.length A.c5,.slice A.a6 T.dr.length A.c6,.slice A.a7 T.al.length A.c7])→Calls Tryz.prog 59 #[.agg #[.slice A.a0 T.sc.length A.c0,.slice A.a1 T.co.length A.c1,.slice A.a2 T.ma.length A.c2,.slice A.a3 T.pr.length A.c3,.slice A.a4 T.fo.length A.c4,.slice A.a5 T.lk.length A.c5,.slice A.a6 T.dr.length A.c6,.slice A.a7 T.al.length A.c7]] w1 fun e w' =>e=.returned (wrV y)∧Below w1.heap.size w1 w')
  (h:CkS W w B T A (orW l)) (U:Nat→Value) {Q:Exit→Act→World→Prop}
  (hQ:∀ (a:Act) (wn:World),(∃ U',a=zcA W (.pointer (some ⟨B,0,none⟩)) U')→Hz (CkS W wn B T A (orW (l++[y])))→Q .normal a wn) :
  Code.wp Tryz.prog uaCe Q (zcA W (.pointer (some ⟨B,0,none⟩)) U) w:=by
 have HQ:=kz hQ
 have HX:=kz h
 have HC:=kz hC
 have HTW:=kz hTW
 have HV:=kz (zco (l:=l) (y:=y) hy)
 obtain ⟨x,hx⟩:∃ x,orW l=x:=⟨_,rfl⟩
 rw [hx] at HX HV HC
 rw [oz HV] at HQ
 clear HV hQ h hx hy hC hTW
 obtain ⟨x0,x1,x2⟩:=x
 obtain ⟨y0,y1,y2⟩:=y
 unfold wrV at HC
 dsimp only at HC HQ HX
 delta uaCe Tryz.f37 zcA at *
 dsimp only
 by_cases hx0:x0=0
 ·subst hx0
  rw [if_pos rfl] at HQ
  have s0:=(oz HX).bw.cell 0
  have g0:=(oz HX).bw.frozen 0
  have s1:=(oz HX).bw.cell 1
  have g1:=(oz HX).bw.frozen 1
  have s2:=(oz HX).bw.cell 2
  have g2:=(oz HX).bw.frozen 2
  have z0:=(oz HX).bx.cell 0
  have z1:=(oz HX).bx.cell 1
  have z2:=(oz HX).bx.cell 2
  have z3:=(oz HX).bx.cell 3
  have z4:=(oz HX).bx.cell 4
  have z5:=(oz HX).bx.cell 5
  have z6:=(oz HX).bx.cell 6
  have z7:=(oz HX).bx.cell 7
  go_wp2_with fail
  refine (oz HC (by first | trivial | rfl) _ ((oz HX).rx (oz HTW)).tb.tv).mono ?_
  rintro e w2 ⟨rfl,hb⟩
  have HX2:=kz ((oz HX).below hb)
  clear hb HC HX z0 z1 z2 z3 z4 z5 z6 z7
  clear s0 s1 s2 g0 g1 g2
  have s0:=(oz HX2).bw.cell 0
  have g0:=(oz HX2).bw.frozen 0
  have s1:=(oz HX2).bw.cell 1
  have g1:=(oz HX2).bw.frozen 1
  have s2:=(oz HX2).bw.cell 2
  have g2:=(oz HX2).bw.frozen 2
  go_wp2_with fail
  exact oz HQ _ _ (zau rfl) (kz ((oz HX2).put (y0,y1,y2)))
 ·rw [if_neg hx0] at HQ
  have q:(x0 == 0)=false:=by simpa using hx0
  have s0:=(oz HX).bw.cell 0
  have g0:=(oz HX).bw.frozen 0
  have s1:=(oz HX).bw.cell 1
  have g1:=(oz HX).bw.frozen 1
  have s2:=(oz HX).bw.cell 2
  have g2:=(oz HX).bw.frozen 2
  go_wp2_with fail
  exact oz HQ _ _ (zau rfl) HX
noncomputable def uaCf:Code:=match Tryz.f37.body with
 | some (.seq _ (.seq _ (.seq _ (.seq _ (.seq _ (.seq _ (.seq _ (.seq c _)))))))) =>c
 | _ =>.skip
theorem zoe (T:TV) (A:TbA) (W w:World) (B:Nat) (hTW:zfM W T A) (l:List (Int × Int × Int)) (y:Int × Int × Int) (hy:OkW y) (hC:(orW l).1=0→∀ w1,TbV w1 T (.agg #[.slice A.a0 T.sc.length A.c0,.slice A.a1 T.co.length A.c1,.slice A.a2 T.ma.length A.c2,.slice A.a3 T.pr.length A.c3,.slice A.a4 T.fo.length A.c4,.slice A.a5 T.lk.length A.c5,.slice A.a6 T.dr.length A.c6,.slice A.a7 T.al.length A.c7])→Calls Tryz.prog 60 #[.agg #[.slice A.a0 T.sc.length A.c0,.slice A.a1 T.co.length A.c1,.slice A.a2 T.ma.length A.c2,.slice A.a3 T.pr.length A.c3,.slice A.a4 T.fo.length A.c4,.slice A.a5 T.lk.length A.c5,.slice A.a6 T.dr.length A.c6,.slice A.a7 T.al.length A.c7]] w1 fun e w' =>e=.returned (wrV y)∧Below w1.heap.size w1 w')
  (h:CkS W w B T A (orW l)) (U:Nat→Value) {Q:Exit→Act→World→Prop}
  (hQ:∀ (a:Act) (wn:World),(∃ U',a=zcA W (.pointer (some ⟨B,0,none⟩)) U')→Hz (CkS W wn B T A (orW (l++[y])))→Q .normal a wn) :
  Code.wp Tryz.prog uaCf Q (zcA W (.pointer (some ⟨B,0,none⟩)) U) w:=by
 have HQ:=kz hQ
 have HX:=kz h
 have HC:=kz hC
 have HTW:=kz hTW
 have HV:=kz (zco (l:=l) (y:=y) hy)
 obtain ⟨x,hx⟩:∃ x,orW l=x:=⟨_,rfl⟩
 rw [hx] at HX HV HC
 rw [oz HV] at HQ
 clear HV hQ h hx hy hC hTW
 obtain ⟨x0,x1,x2⟩:=x
 obtain ⟨y0,y1,y2⟩:=y
 unfold wrV at HC
 dsimp only at HC HQ HX
 delta uaCf Tryz.f37 zcA at *
 dsimp only
 by_cases hx0:x0=0
 ·subst hx0
  rw [if_pos rfl] at HQ
  have s0:=(oz HX).bw.cell 0
  have g0:=(oz HX).bw.frozen 0
  have s1:=(oz HX).bw.cell 1
  have g1:=(oz HX).bw.frozen 1
  have s2:=(oz HX).bw.cell 2
  have g2:=(oz HX).bw.frozen 2
  have z0:=(oz HX).bx.cell 0
  have z1:=(oz HX).bx.cell 1
  have z2:=(oz HX).bx.cell 2
  have z3:=(oz HX).bx.cell 3
  have z4:=(oz HX).bx.cell 4
  have z5:=(oz HX).bx.cell 5
  have z6:=(oz HX).bx.cell 6
  have z7:=(oz HX).bx.cell 7
  go_wp2_with fail
  refine (oz HC (by first | trivial | rfl) _ ((oz HX).rx (oz HTW)).tb.tv).mono ?_
  rintro e w2 ⟨rfl,hb⟩
  have HX2:=kz ((oz HX).below hb)
  clear hb HC HX z0 z1 z2 z3 z4 z5 z6 z7
  clear s0 s1 s2 g0 g1 g2
  have s0:=(oz HX2).bw.cell 0
  have g0:=(oz HX2).bw.frozen 0
  have s1:=(oz HX2).bw.cell 1
  have g1:=(oz HX2).bw.frozen 1
  have s2:=(oz HX2).bw.cell 2
  have g2:=(oz HX2).bw.frozen 2
  go_wp2_with fail
  exact oz HQ _ _ (zau rfl) (kz ((oz HX2).put (y0,y1,y2)))
 ·rw [if_neg hx0] at HQ
  have q:(x0 == 0)=false:=by simpa using hx0
  have s0:=(oz HX).bw.cell 0
  have g0:=(oz HX).bw.frozen 0
  have s1:=(oz HX).bw.cell 1
  have g1:=(oz HX).bw.frozen 1
  have s2:=(oz HX).bw.cell 2
  have g2:=(oz HX).bw.frozen 2
  go_wp2_with fail
  exact oz HQ _ _ (zau rfl) HX
theorem zlm (T:TV):orW [zbL T,zbh T,za9 T,orW [zbI T,zc8 T],zb5 T,orW [zca T,zhI T],zcZ T]=zcJ T:=by
 have e1:orW [zbL T,zbh T,za9 T,orW [zbI T,zc8 T],zb5 T,orW [zca T,zhI T],zcZ T]=orW ([zbL T,zbh T,za9 T]++([orW [zbI T,zc8 T]]++([zb5 T]++([orW [zca T,zhI T]]++[zcZ T])))):=rfl
 have e2:zcJ T=orW ([zbL T,zbh T,za9 T]++([zbI T,zc8 T]++([zb5 T]++([zca T,zhI T]++[zcZ T])))):=rfl
 rw [e1,e2,za3,za3 (l := [zbL T,zbh T,za9 T])]
 rw [za3 [orW [zbI T,zc8 T]],za3 [zbI T,zc8 T],zfr (zbu [zbI T,zc8 T])]
 rw [za3 [zb5 T],za3 [zb5 T]]
 rw [za3 [orW [zca T,zhI T]],za3 [zca T,zhI T],zfr (zbu [zca T,zhI T])]
theorem ziy {T:TV} {m:List (Int × Int × Int)} (h:(orW ([zbL T,zbh T,za9 T]++m)).1=0):zav T:=by
 refine ziz ?_
 rw [za3] at h
 by_cases e:(orW [zbL T,zbh T,za9 T]).1=0
 ·exact e
 ·rw [if_neg e] at h;exact absurd h e
theorem zju (T:TV) (hT:TabB T) (v:Value) (W:World) (hv:TbV W T v) :
  Calls Tryz.prog 37 #[v] W fun e w' =>e=.returned (wrV (zcJ T))∧Below W.heap.size W w':=by
 obtain ⟨A,rfl,hA⟩:=hv
 have HX:=kz (RxS.start hA)
 have HT:=kz hT
 have HTW:=kz hA
 have HV:∃ mb,Hz (orW [zbL T,zbh T,za9 T,orW [zbI T,zc8 T],zb5 T,orW [zca T,zhI T],zcZ T]=mb):=⟨_,kz rfl⟩
 obtain ⟨mb,HV⟩:=HV
 rw [← zlm,oz HV]
 have HC:=kz (fun w (hv:TbV w T (.agg #[.slice A.a0 T.sc.length A.c0,.slice A.a1 T.co.length A.c1,.slice A.a2 T.ma.length A.c2,.slice A.a3 T.pr.length A.c3,.slice A.a4 T.fo.length A.c4,.slice A.a5 T.lk.length A.c5,.slice A.a6 T.dr.length A.c6,.slice A.a7 T.al.length A.c7])) =>zkV T hT _ w hv)
 obtain ⟨x,hx⟩:∃ x,zbL T=x:=⟨_,rfl⟩
 rw [hx] at HC
 have HXE:=kz hx
 clear hA hT hx
 obtain ⟨x0,x1,x2⟩:=x
 go_enter Tryz.func37,Tryz.ntmps37
 refine wp_seq_k (fun K0 hK0 =>?_)
 have HK0:=kz hK0
 clear hK0
 go_wp2_with fail
 refine oz HK0 _ _ ?_
 clear HK0 K0
 generalize (W.alloc (.cells #[.slice A.a0 T.sc.length A.c0,.slice A.a1 T.co.length A.c1,.slice A.a2 T.ma.length A.c2,.slice A.a3 T.pr.length A.c3,.slice A.a4 T.fo.length A.c4,.slice A.a5 T.lk.length A.c5,.slice A.a6 T.dr.length A.c6,.slice A.a7 T.al.length A.c7] 28)).alloc (.cells #[.int .i64 0,.int .i64 0,.int .i64 0] 76)=w0 at *
 have hR:∀ (y l k:Int),mb=(y,l,k)→∀ (a:Act) (wn:World),a.tmps.getD 2 undef=.pointer (some ⟨W.heap.size+1,0,none⟩)→a.defers=[]→Hz (RxD W wn (y,l,k))→bodyPost Tryz.prog Tryz.f37 (fun e w' =>e=.returned (wrV mb)∧Below W.heap.size W w') .ret a wn:=fun y l k e a wn h1 h2 h3 =>by
  subst e
  exact bodyPost_ret (v:=wrV (y,l,k)) (zb8 Tryz.results37 h1 (oz h3).rs rfl) h2 ⟨rfl,(oz h3).bl⟩
 refine wp_seq_k (fun Ka hKa =>?_)
 have HKa:=kz hKa
 have HRR:=kz hR
 clear hKa hR
 have z0:=(oz HX).tb.z0
 have z1:=(oz HX).tb.z1
 have z2:=(oz HX).tb.z2
 have z3:=(oz HX).tb.z3
 have z4:=(oz HX).tb.z4
 have z5:=(oz HX).tb.z5
 have z6:=(oz HX).tb.z6
 have z7:=(oz HX).tb.z7
 go_wp2_with fail
 refine (oz HC _ (oz HX).tb.tv).mono ?_
 rintro e w2 ⟨rfl,hb⟩
 have HX2:=kz ((oz HX).below hb)
 have HK2:=kz (CkS.start (oz HX2) (x0,x1,x2))
 clear hb HC HX z0 z1 z2 z3 z4 z5 z6 z7
 unfold wrV
 have s0:=(oz HK2).bw.cell 0
 have s1:=(oz HK2).bw.cell 1
 have s2:=(oz HK2).bw.cell 2
 unfold wrC at *
 dsimp only at HK2 s0 s1 s2
 go_wp2_with fail
 refine oz HKa _ _ ?_
 clear HKa Ka s0 s1 s2
 obtain ⟨B,hB⟩:∃ B,B=w2.heap.size:=⟨_,rfl⟩
 rw [← hB] at HK2 ⊢
 generalize w2.alloc (.cells #[.int .i64 x0,.int .i64 x1,.int .i64 x2] 76)=w3 at *
 have HS0:Hz (CkS W w3 B T A (orW [zbL T])):=kz (by
  rw [zfr (show OkW (zbL T) from zbu _),oz HXE]
  exact oz HK2)
 clear hB HX2 HK2 HXE
 refine wp_seq_k (fun K1 hK1 =>?_)
 refine zaL (F:=zcA W (.pointer (some ⟨B,0,none⟩))) (zau rfl) (fun U =>?_)
 refine zoj T A W _ B (oz HTW) [zbL T] (zbh T) (zbu _) (fun h0 w1 h1 =>zjs T (oz HT) _ w1 h1) (oz HS0) U ?_
 intro a w4 ⟨U1,hU⟩ HS1
 subst hU
 refine hK1 _ _ ?_
 clear hK1 K1 HS0
 refine wp_seq_k (fun K2 hK2 =>?_)
 refine zaL (F:=zcA W (.pointer (some ⟨B,0,none⟩))) ⟨U1,rfl⟩ (fun U =>?_)
 refine zoi T A W _ B (oz HTW) [zbL T,zbh T] (za9 T) (zbu _) (fun h0 w1 h1 =>zjp T (oz HT) _ w1 h1) (oz HS1) U ?_
 intro a w5 ⟨U2,hU⟩ HS2
 subst hU
 refine hK2 _ _ ?_
 clear hK2 K2 HS1
 refine wp_seq_k (fun K3 hK3 =>?_)
 refine zaL (F:=zcA W (.pointer (some ⟨B,0,none⟩))) ⟨U2,rfl⟩ (fun U =>?_)
 refine zoh T A W _ B (oz HTW) [zbL T,zbh T,za9 T] (orW [zbI T,zc8 T]) (zbu _) (fun h0 w1 h1 =>zjq T (oz HT) _ w1 h1) (oz HS2) U ?_
 intro a w6 ⟨U3,hU⟩ HS3
 subst hU
 refine hK3 _ _ ?_
 clear hK3 K3 HS2
 refine wp_seq_k (fun K4 hK4 =>?_)
 refine zaL (F:=zcA W (.pointer (some ⟨B,0,none⟩))) ⟨U3,rfl⟩ (fun U =>?_)
 refine zog T A W _ B (oz HTW) [zbL T,zbh T,za9 T,orW [zbI T,zc8 T]] (zb5 T) (zbu _) (fun h0 w1 h1 =>zjt T (oz HT) _ w1 h1) (oz HS3) U ?_
 intro a w7 ⟨U4,hU⟩ HS4
 subst hU
 refine hK4 _ _ ?_
 clear hK4 K4 HS3
 refine wp_seq_k (fun K5 hK5 =>?_)
 refine zaL (F:=zcA W (.pointer (some ⟨B,0,none⟩))) ⟨U4,rfl⟩ (fun U =>?_)
 refine zof T A W _ B (oz HTW) [zbL T,zbh T,za9 T,orW [zbI T,zc8 T],zb5 T] (orW [zca T,zhI T]) (zbu _) (fun h0 w1 h1 =>by rw [zon];exact zmp T (oz HT) (ziy (m := [orW [zbI T,zc8 T],zb5 T]) h0) _ w1 h1) (oz HS4) U ?_
 intro a w8 ⟨U5,hU⟩ HS5
 subst hU
 refine hK5 _ _ ?_
 clear hK5 K5 HS4
 refine wp_seq_k (fun K6 hK6 =>?_)
 refine zaL (F:=zcA W (.pointer (some ⟨B,0,none⟩))) ⟨U5,rfl⟩ (fun U =>?_)
 refine zoe T A W _ B (oz HTW) [zbL T,zbh T,za9 T,orW [zbI T,zc8 T],zb5 T,orW [zca T,zhI T]] (zcZ T) (zbu _) (fun h0 w1 h1 =>zjr T (oz HT) (ziy (m := [orW [zbI T,zc8 T],zb5 T,orW [zca T,zhI T]]) h0) _ w1 h1) (oz HS5) U ?_
 intro a w9 ⟨U6,hU⟩ HS6
 subst hU
 refine hK6 _ _ ?_
 clear hK6 K6 HS5
 have HK10:Hz (CkS W w9 B T A mb):=kz (by
  have:=oz HS6
  rw [← oz HV]
  exact this)
 obtain ⟨m0,m1,m2⟩:=mb
 clear HV HS6
 unfold zcA
 have s0:=(oz HK10).bw.cell 0
 have s1:=(oz HK10).bw.cell 1
 have s2:=(oz HK10).bw.cell 2
 have r0:=(oz HK10).rs.cell 0
 have f0:=(oz HK10).rs.frozen 0
 have r1:=(oz HK10).rs.cell 1
 have f1:=(oz HK10).rs.frozen 1
 have r2:=(oz HK10).rs.cell 2
 have f2:=(oz HK10).rs.frozen 2
 go_wp2_with fail
 exact oz HRR _ _ _ rfl _ _ rfl rfl (kz (oz HK10).end)
end Go.Proofs.YtmemedpoaocdkaaGreat
