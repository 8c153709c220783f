/- Texts of this claim, one behind the other. -/
import Derived.Test.YthchopdfmchpkaaGreatM9
namespace Go.Proofs.YthchopdfmchpkaaGreat
open Go.RowKit Go.Shelf
set_option linter.unusedVariables false
set_option maxRecDepth 100000
set_option maxHeartbeats 8000000
theorem zeJ {α β : Type} [BEq β] {l:List α} {d : α} {key : α→β} {k m:Nat} {x y : α} (hx:l[k]?=some x) (hm:m < k) (hy:l[m]?=some y) (h:(key y == key x)=true):twF l d key k=14:=by
 unfold twF;rw [qM hx,if_pos];exact Yl (k:=m) (by rw [List.getElem?_take_of_lt hm];exact hy) h
theorem zbR {α β : Type} [BEq β] {l:List α} {d : α} {key : α→β} {k:Nat} {x : α} (hx:l[k]?=some x) (h:NoneB l (fun y =>key y == key x) k):twF l d key k=0:=by
 unfold twF;rw [qM hx,if_neg];rw [Bool.not_eq_true,List.any_eq_false];intro y hy;obtain ⟨i,hi,e⟩:=List.mem_take_iff_getElem.1 hy;have this:(key y == key x)=false:=h i y (by omega) (by rw [qR (by omega),e]);rw [this];decide
def zeW (x y:Int × Int × Int):Bool:=decide (y.1=x.1∨(y.2.1=x.2.1∧y.2.2=x.2.2))
theorem zeV {l:List (Int × Int × Int)} {k m:Nat} {x y:Int × Int × Int} (hx:l[k]?=some x) (hm:m < k) (hy:l[m]?=some y) (h:zeW x y=true):twP l k=14:=by
 unfold twP;rw [qM hx,if_pos];exact Yl (k:=m) (by rw [List.getElem?_take_of_lt hm];exact hy) h
theorem zhn {l:List (Int × Int × Int)} {k:Nat} {x:Int × Int × Int} (hx:l[k]?=some x) (h:NoneB l (zeW x) k):twP l k=0:=by
 unfold twP;rw [qM hx,if_neg];rw [Bool.not_eq_true,List.any_eq_false];intro y hy;obtain ⟨i,hi,e⟩:=List.mem_take_iff_getElem.1 hy;have:=h i y (by omega) (by rw [qR (by omega),e]);unfold zeW at this;rw [this];decide
theorem zhL {a b:ByteArray} (h:a=b):(a.toList == b.toList)=true∧(b.data.toList == a.data.toList)=true:=by
 subst h;exact ⟨by simp,by simp⟩
theorem zjc {a b:ByteArray} (h:¬ a=b):(a.toList == b.toList)=false∧(b.data.toList == a.data.toList)=false:=by
 rw [ByteArray.toList_eq,ByteArray.toList_eq];have h1:¬ a.data.toList=b.data.toList:=fun e =>h (ByteArray.ext (Array.toList_inj.1 e))
 exact ⟨beq_eq_false_iff_ne.2 h1,beq_eq_false_iff_ne.2 (fun e =>h1 e.symm)⟩
theorem ziv {l:List (Int × ByteArray)} {k:Nat} {x:Int × ByteArray} (hx:l[k]?=some x):(XJ l (fun y =>y.1 == x.1) < (k:Int)∧twF l mp0 (fun y =>y.1) k=14)∨(¬ XJ l (fun y =>y.1 == x.1) < (k:Int)∧twF l mp0 (fun y =>y.1) k=0):=by
 rcases JN l (fun y =>y.1 == x.1) with ⟨_,h,_⟩ | ⟨j,y,e,hj,hy,hp,_,_,hn⟩
 ·have:=List.any_eq_false.1 h x (YH hx);simp at this
 ·rw [e];by_cases h:j < k
  ·exact .inl ⟨by omega,zeJ hx h hy hp⟩
  ·exact .inr ⟨by omega,zbR hx (fun i z hi hz =>hn i z (by omega) hz)⟩
def XF (W:World) (U:Nat→Value):Act:={ tmps:=#[U 0,.pointer (some ⟨W.heap.size,0,none⟩),.pointer (some ⟨W.heap.size+1,0,none⟩),U 3,U 4,U 5,U 6,U 7,U 8,U 9,U 10,U 11,U 12,U 13,U 14,U 15,U 16,U 17,U 18,U 19,U 20,U 21,U 22,U 23,U 24,U 25,U 26,U 27,U 28,U 29,U 30,U 31,U 32,U 33,U 34,U 35,U 36,U 37,U 38,U 39,U 40,U 41,U 42,U 43,U 44,U 45,U 46,U 47,U 48,U 49,U 50,U 51,U 52,U 53,U 54,U 55,U 56,U 57,U 58,U 59,U 60,U 61,U 62,U 63,U 64,U 65,U 66,U 67,U 68,U 69,U 70,U 71,U 72,U 73,U 74,U 75,U 76,U 77,U 78,U 79,U 80,U 81,U 82,U 83,U 84,U 85,U 86,U 87,U 88,U 89,U 90,U 91,U 92,U 93,U 94,U 95,U 96,U 97,U 98,U 99,U 100,U 101,U 102,U 103,U 104,U 105,U 106,U 107,U 108,U 109,U 110,U 111,U 112,U 113,U 114,U 115,U 116,U 117,U 118,U 119,U 120,U 121,U 122,U 123,U 124,U 125,U 126,U 127,U 128,U 129,U 130,U 131,U 132,U 133,U 134,U 135,U 136,U 137,U 138,U 139,U 140,U 141,U 142,U 143,U 144,U 145,U 146,U 147,U 148,U 149,U 150],defers := [] }
noncomputable def uaWa:Code:=match Tryz.f63.body with
 | some (.seq _ (.seq c _)) =>c
 | _ =>.skip
theorem zgQ (T:TV) (hT:TabB T) (A:TbA) (W w:World) (h:RxS W w T A) (U:Nat→Value) {Q:Exit→Act→World→Prop}
  (hN:zG 1 T.sc.length (twF T.sc sc0 (fun x =>x.1.data.toList))=(0,0,0)→∀ (a:Act) (wn:World),(∃ U',a=XF W U')→Hz (RxT W w wn T A)→Q .normal a wn)
  (hR:∀ (y k:Int),zG 1 T.sc.length (twF T.sc sc0 (fun x =>x.1.data.toList))=(y,1,k)→y≠0→∀ (a:Act) (wn:World),a.tmps.getD 2 undef=.pointer (some ⟨W.heap.size+1,0,none⟩)→a.defers=[]→Hz (RxD W wn (y,1,k))→Q .ret a wn) :
  Code.wp Tryz.prog uaWa Q (XF W U) w:=by
 have HN:=kz hN;have HR:=kz hR;have HX:=kz (RxT.refl h);have hln:=hT.n0;have HF:=kz (fun r a c w (hv:RowC w w.heap.size a (yW T.fo)) =>qU T.fo hT.n4 a c r w hv);clear hN hR h hT
 delta uaWa Tryz.f63 XF at *
 dsimp only;go_wp2_with fail
 go_loopw [3] (fun i wr => ∃ k:Nat,k≤T.sc.length∧i=.int .i64 k∧Hz (OkR (twF T.sc sc0 (fun x =>x.1.data.toList)) k)∧Hz (RxT W w wr T A)) (fun i _ =>T.sc.length - (intOf i).toNat)
 case atStart =>exact ⟨0,Zn _,rfl,kz (OkR.zero _),HX⟩
 case round =>
  clear HX;obtain ⟨k,hk,rfl,HO,HX⟩:=hrel;by_cases hkn:k < T.sc.length
  ·obtain ⟨x,hx⟩:∃ x,T.sc[k]?=some x:=⟨_,qR hkn⟩;obtain ⟨g,o,bq,dq,ea,hg,c0,c1,_⟩:=zdU (oz HX).rx.tb.ti hx;have HK:=kz hx;have HG:=kz hg;have k1:(k:Int) < (T.sc.length:Int):=by omega
   have k2:=Zp k
   have zz:=(oz HX).rx.tb.z0;rw [ea] at zz;clear hg hx;have HX0:=kz (RxT.refl (oz HX).rx);have HKN:=kz hkn;clear HF hkn;go_wp2_with fail
   obtain ⟨wq,hwq⟩:∃ wq,wq=wr:=⟨_,rfl⟩;subst hwq;go_loopw [4] (fun jv wi => ∃ m:Nat,m≤k∧jv=.int .i64 m∧Hz (NoneB T.sc (fun y =>(fun x:ByteArray × List (Int × Int) =>x.1.data.toList) y == (fun x:ByteArray × List (Int × Int) =>x.1.data.toList) x) m)∧Hz (RxT W wq wi T A)) (fun jv _ =>k - (intOf jv).toNat)
   case atStart =>exact ⟨0,Zn _,rfl,kz (NoneB.zero _ _),HX0⟩
   case round =>
    clear HX0;obtain ⟨m,hm,rfl,HN2,HX2⟩:=hrel;by_cases hmk:m < k
    ·obtain ⟨y,hy⟩:∃ y,T.sc[m]?=some y:=⟨_,qR (by have:=oz HKN;omega)⟩;obtain ⟨g2,o2,b2,e2,ea2,hg2,d0,d1,_⟩:=zdU (oz HX2).rx.tb.ti hy;rw [ea] at ea2;injection ea2 with ea2;injection ea2 with e3 e4;subst e3 e4;have HKy:=kz hy;have m1:(m:Int) < (k:Int):=by omega
     have m2:((m:Nat):Int).toNat=m:=by omega
     have m3:(m:Int) < (T.sc.length:Int):=by omega
     have b0:=yZ c0 (oz HX2).fr (oz HG);have zw:=(oz HX2).rx.tb.z0;rw [ea] at zw;by_cases hc:x.1=y.1
     ·obtain ⟨e0,e1⟩:=zhL hc;have hf:(twF T.sc sc0 (fun x =>x.1.data.toList)) k=14:=zeJ (oz HK) hmk (oz HKy) e1;have HE:=kz (yU (list:=1) (n:=T.sc.length) k (by omega) (oz HO) (by rw [hf];decide));rw [hf] at HE;clear hf HO HK;have ya:=zP b0;have yb:=zP d0;have yz:=zP zw;clear ea hc;go_wp2_with fail
      refine JG (by kernel_rfl) (by kernel_rfl) ?_;repeat (go_big_quiet_step (fail))
      first | refine wpQuiet_nil ?_ | skip
      rintro w' ⟨p,rfl⟩;have HBq:=kz (Xu wr p.d p.os);generalize Go.Sort.grow (redrawn wr p.d) p.os=w1 at *;have HX3:=kz ((oz HX).chain ((oz HX2).below (oz HBq)));clear ya yb yz b0 zw c0 c1 d0 d1 zz HX HX2 HN2 HKy;have r0:=(oz HX3).rx.rs.cell 0;have f0:=(oz HX3).rx.rs.frozen 0;have r1:=(oz HX3).rx.rs.cell 1;have f1:=(oz HX3).rx.rs.frozen 1;have r2:=(oz HX3).rx.rs.cell 2;have f2:=(oz HX3).rx.rs.frozen 2;go_wp2_with fail
      exact oz HR _ _ (oz HE) (by decide) _ _ rfl rfl (kz ((oz HX3).put _ _ _))
     ·obtain ⟨e0,e1⟩:=zjc hc;have HN3:=kz ((oz HN2).next (oz HKy) e1);have ya:=zP b0;have yb:=zP d0;have yz:=zP zw;clear HN2 HKy hc e1;go_wp2_with fail
      refine JG (by kernel_rfl) (by kernel_rfl) ?_;repeat (go_big_quiet_step (fail))
      first | refine wpQuiet_nil ?_ | skip
      rintro w' ⟨p,rfl⟩;have HBq:=kz (Xu wr p.d p.os);generalize Go.Sort.grow (redrawn wr p.d) p.os=w1 at *;have HX3:=kz ((oz HX2).below (oz HBq));clear ya yb yz b0 zw d0 d1 HX2;go_wp2_with fail
      exact ⟨⟨m+1,by omega,by first | rfl | go_num,HN3,HX3⟩,by simp [intOf];omega⟩
    ·have m1:¬ (m:Int) < (k:Int):=by omega
     obtain rfl:m=k:=by omega
     have hf:(twF T.sc sc0 (fun x =>x.1.data.toList)) m=0:=zbR (oz HK) (oz HN2);have HO2:=kz ((oz HO).next hf);have HX3:=kz ((oz HX).chain (oz HX2));have hkn:=oz HKN;clear hf HO HK HN2 ea;go_wp2_with fail
     exact ⟨⟨m+1,by omega,by first | rfl | go_num,HO2,HX3⟩,by simp [intOf];omega⟩
  ·have k1:¬ (k:Int) < (T.sc.length:Int):=by omega
   have zz:=(oz HX).rx.tb.z0;have HE:Hz (zG 1 T.sc.length (twF T.sc sc0 (fun x =>x.1.data.toList))=(0,0,0)):=kz (jW (fun i hi =>oz HO i (by omega)));clear HO HR HF;go_wp2_with fail
   exact oz HN (oz HE) _ _ (zq rfl) HX
noncomputable def uaWb:Code:=match Tryz.f63.body with
 | some (.seq _ (.seq _ (.seq c _))) =>c
 | _ =>.skip
theorem zgP (T:TV) (hT:TabB T) (A:TbA) (W w:World) (h:RxS W w T A) (U:Nat→Value) {Q:Exit→Act→World→Prop}
  (hN:zG 3 T.ma.length (twF T.ma ma0 (fun x =>x.1))=(0,0,0)→∀ (a:Act) (wn:World),(∃ U',a=XF W U')→Hz (RxT W w wn T A)→Q .normal a wn)
  (hR:∀ (y k:Int),zG 3 T.ma.length (twF T.ma ma0 (fun x =>x.1))=(y,3,k)→y≠0→∀ (a:Act) (wn:World),a.tmps.getD 2 undef=.pointer (some ⟨W.heap.size+1,0,none⟩)→a.defers=[]→Hz (RxD W wn (y,3,k))→Q .ret a wn) :
  Code.wp Tryz.prog uaWb Q (XF W U) w:=by
 have HN:=kz hN;have HR:=kz hR;have HX:=kz (RxT.refl h);have hln:=hT.n2;have HF:=kz (fun r a c w (hv:RowC w w.heap.size a (yW T.fo)) =>qU T.fo hT.n4 a c r w hv);clear hN hR h hT
 delta uaWb Tryz.f63 XF at *
 dsimp only;go_wp2_with fail
 go_loopw [5] (fun i wr => ∃ k:Nat,k≤T.ma.length∧i=.int .i64 k∧Hz (OkR (twF T.ma ma0 (fun x =>x.1)) k)∧Hz (RxT W w wr T A)) (fun i _ =>T.ma.length - (intOf i).toNat)
 case atStart =>exact ⟨0,Zn _,rfl,kz (OkR.zero _),HX⟩
 case round =>
  clear HX;obtain ⟨k,hk,rfl,HO,HX⟩:=hrel;by_cases hkn:k < T.ma.length
  ·obtain ⟨x,hx⟩:∃ x,T.ma[k]?=some x:=⟨_,qR hkn⟩;obtain ⟨g,o,ea,hg,c0,c1⟩:=zgE (oz HX).rx.tb.ti.r2 hx;have HK:=kz hx;have HG:=kz hg;have k1:(k:Int) < (T.ma.length:Int):=by omega
   have k2:=Zp k
   have zz:=(oz HX).rx.tb.z2;rw [ea] at zz;clear hg hx;have HX0:=kz (RxT.refl (oz HX).rx);have HKN:=kz hkn;clear HF hkn;go_wp2_with fail
   obtain ⟨wq,hwq⟩:∃ wq,wq=wr:=⟨_,rfl⟩;subst hwq;go_loopw [6] (fun jv wi => ∃ m:Nat,m≤k∧jv=.int .i64 m∧Hz (NoneB T.ma (fun y =>(fun x:Int × Int =>x.1) y == (fun x:Int × Int =>x.1) x) m)∧Hz (RxT W wq wi T A)) (fun jv _ =>k - (intOf jv).toNat)
   case atStart =>exact ⟨0,Zn _,rfl,kz (NoneB.zero _ _),HX0⟩
   case round =>
    clear HX0;obtain ⟨m,hm,rfl,HN2,HX2⟩:=hrel;by_cases hmk:m < k
    ·obtain ⟨y,hy⟩:∃ y,T.ma[m]?=some y:=⟨_,qR (by have:=oz HKN;omega)⟩;obtain ⟨g2,o2,ea2,hg2,d0,d1⟩:=zgE (oz HX2).rx.tb.ti.r2 hy;rw [ea] at ea2;injection ea2 with ea2;injection ea2 with e3 e4;subst e3 e4;have HKy:=kz hy;have m1:(m:Int) < (k:Int):=by omega
     have m2:((m:Nat):Int).toNat=m:=by omega
     have m3:(m:Int) < (T.ma.length:Int):=by omega
     have b0:=yZ c0 (oz HX2).fr (oz HG);have zw:=(oz HX2).rx.tb.z2;rw [ea] at zw;by_cases hc:x.1=y.1
     ·obtain ⟨x0,x1⟩:=x;obtain ⟨y0,y1⟩:=y;dsimp only at hc b0 c0 c1 d0 d1;subst hc;have e0:(x0 == x0)=true:=by simp
      have hf:(twF T.ma ma0 (fun x =>x.1)) k=14:=zeJ (oz HK) hmk (oz HKy) (by simp);have HE:=kz (yU (list:=3) (n:=T.ma.length) k (by omega) (oz HO) (by rw [hf];decide));rw [hf] at HE;clear hf HO HK;have ya:=zP b0;have yb:=zP d0;have yz:=zP zw;clear ea;go_wp2_with fail
      refine JG (by kernel_rfl) (by kernel_rfl) ?_;repeat (go_big_quiet_step (fail))
      first | refine wpQuiet_nil ?_ | skip
      rintro w' ⟨p,rfl⟩;have HBq:=kz (Xu wr p.d p.os);generalize Go.Sort.grow (redrawn wr p.d) p.os=w1 at *;have HX3:=kz ((oz HX).chain ((oz HX2).below (oz HBq)));clear ya yb yz b0 zw c0 c1 d0 d1 zz HX HX2 HN2 HKy;have r0:=(oz HX3).rx.rs.cell 0;have f0:=(oz HX3).rx.rs.frozen 0;have r1:=(oz HX3).rx.rs.cell 1;have f1:=(oz HX3).rx.rs.frozen 1;have r2:=(oz HX3).rx.rs.cell 2;have f2:=(oz HX3).rx.rs.frozen 2;go_wp2_with fail
      exact oz HR _ _ (oz HE) (by decide) _ _ rfl rfl (kz ((oz HX3).put _ _ _))
     ·have e1:(y.1 == x.1)=false:=by simpa using fun e =>hc e.symm
      have e0:(x.1 == y.1)=false:=by simpa using hc
      have HN3:=kz ((oz HN2).next (oz HKy) e1);have ya:=zP b0;have yb:=zP d0;have yz:=zP zw;clear HN2 HKy hc e1;go_wp2_with fail
      refine JG (by kernel_rfl) (by kernel_rfl) ?_;repeat (go_big_quiet_step (fail))
      first | refine wpQuiet_nil ?_ | skip
      rintro w' ⟨p,rfl⟩;have HBq:=kz (Xu wr p.d p.os);generalize Go.Sort.grow (redrawn wr p.d) p.os=w1 at *;have HX3:=kz ((oz HX2).below (oz HBq));clear ya yb yz b0 zw d0 d1 HX2;go_wp2_with fail
      exact ⟨⟨m+1,by omega,by first | rfl | go_num,HN3,HX3⟩,by simp [intOf];omega⟩
    ·have m1:¬ (m:Int) < (k:Int):=by omega
     obtain rfl:m=k:=by omega
     have hf:(twF T.ma ma0 (fun x =>x.1)) m=0:=zbR (oz HK) (oz HN2);have HO2:=kz ((oz HO).next hf);have HX3:=kz ((oz HX).chain (oz HX2));have hkn:=oz HKN;clear hf HO HK HN2 ea;go_wp2_with fail
     exact ⟨⟨m+1,by omega,by first | rfl | go_num,HO2,HX3⟩,by simp [intOf];omega⟩
  ·have k1:¬ (k:Int) < (T.ma.length:Int):=by omega
   have zz:=(oz HX).rx.tb.z2;have HE:Hz (zG 3 T.ma.length (twF T.ma ma0 (fun x =>x.1))=(0,0,0)):=kz (jW (fun i hi =>oz HO i (by omega)));clear HO HR HF;go_wp2_with fail
   exact oz HN (oz HE) _ _ (zq rfl) HX
noncomputable def uaWc:Code:=match Tryz.f63.body with
 | some (.seq _ (.seq _ (.seq _ (.seq c _)))) =>c
 | _ =>.skip
theorem zgO (T:TV) (hT:TabB T) (A:TbA) (W w:World) (h:RxS W w T A) (U:Nat→Value) {Q:Exit→Act→World→Prop}
  (hN:zG 4 T.pr.length (twP T.pr)=(0,0,0)→∀ (a:Act) (wn:World),(∃ U',a=XF W U')→Hz (RxT W w wn T A)→Q .normal a wn)
  (hR:∀ (y k:Int),zG 4 T.pr.length (twP T.pr)=(y,4,k)→y≠0→∀ (a:Act) (wn:World),a.tmps.getD 2 undef=.pointer (some ⟨W.heap.size+1,0,none⟩)→a.defers=[]→Hz (RxD W wn (y,4,k))→Q .ret a wn) :
  Code.wp Tryz.prog uaWc Q (XF W U) w:=by
 have HN:=kz hN;have HR:=kz hR;have HX:=kz (RxT.refl h);have hln:=hT.n3;have HF:=kz (fun r a c w (hv:RowC w w.heap.size a (yW T.fo)) =>qU T.fo hT.n4 a c r w hv);clear hN hR h hT
 delta uaWc Tryz.f63 XF at *
 dsimp only;go_wp2_with fail
 go_loopw [7] (fun i wr => ∃ k:Nat,k≤T.pr.length∧i=.int .i64 k∧Hz (OkR (twP T.pr) k)∧Hz (RxT W w wr T A)) (fun i _ =>T.pr.length - (intOf i).toNat)
 case atStart =>exact ⟨0,Zn _,rfl,kz (OkR.zero _),HX⟩
 case round =>
  clear HX;obtain ⟨k,hk,rfl,HO,HX⟩:=hrel;by_cases hkn:k < T.pr.length
  ·obtain ⟨x,hx⟩:∃ x,T.pr[k]?=some x:=⟨_,qR hkn⟩;obtain ⟨g,o,ea,hg,c0,c1,c2⟩:=zdV (oz HX).rx.tb.ti.r3 hx;have HK:=kz hx;have HG:=kz hg;have k1:(k:Int) < (T.pr.length:Int):=by omega
   have k2:=Zp k
   have zz:=(oz HX).rx.tb.z3;rw [ea] at zz;clear hg hx;have HX0:=kz (RxT.refl (oz HX).rx);have HKN:=kz hkn;clear HF hkn;go_wp2_with fail
   obtain ⟨wq,hwq⟩:∃ wq,wq=wr:=⟨_,rfl⟩;subst hwq;go_loopw [8] (fun jv wi => ∃ m:Nat,m≤k∧jv=.int .i64 m∧Hz (NoneB T.pr (zeW x) m)∧Hz (RxT W wq wi T A)) (fun jv _ =>k - (intOf jv).toNat)
   case atStart =>exact ⟨0,Zn _,rfl,kz (NoneB.zero _ _),HX0⟩
   case round =>
    clear HX0;obtain ⟨m,hm,rfl,HN2,HX2⟩:=hrel;by_cases hmk:m < k
    ·obtain ⟨y,hy⟩:∃ y,T.pr[m]?=some y:=⟨_,qR (by have:=oz HKN;omega)⟩;obtain ⟨g2,o2,ea2,hg2,d0,d1,d2⟩:=zdV (oz HX2).rx.tb.ti.r3 hy;rw [ea] at ea2;injection ea2 with ea2;injection ea2 with e3 e4;subst e3 e4;have HKy:=kz hy;have m1:(m:Int) < (k:Int):=by omega
     have m2:((m:Nat):Int).toNat=m:=by omega
     have m3:(m:Int) < (T.pr.length:Int):=by omega
     have b0:=yZ c0 (oz HX2).fr (oz HG);have zw:=(oz HX2).rx.tb.z3;rw [ea] at zw;have b1:=yZ c1 (oz HX2).fr (oz HG);have b2:=yZ c2 (oz HX2).fr (oz HG);obtain ⟨x0,x1,x2⟩:=x;obtain ⟨y0,y1,y2⟩:=y;dsimp only at b0 b1 b2 c0 c1 c2 d0 d1 d2;have hn1:=Zk wr (.cells #[.int .i32 x0,.int .i32 x1,.int .i32 x2] 100);have i0:=yZ d0 hn1 hg2;have i1:=yZ d1 hn1 hg2;have i2:=yZ d2 hn1 hg2;have zv:=((oz HX2).below hn1).rx.tb.z3;rw [ea] at zv;have HX3:=kz (((oz HX2).below hn1).below (Zk _ (.cells #[.int .i32 y0,.int .i32 y1,.int .i32 y2] 100)));have j0:=((Blk.new wr #[.int .i32 x0,.int .i32 x1,.int .i32 x2] 100).alloc (.cells #[.int .i32 y0,.int .i32 y1,.int .i32 y2] 100)).cell 0;have j1:=((Blk.new wr #[.int .i32 x0,.int .i32 x1,.int .i32 x2] 100).alloc (.cells #[.int .i32 y0,.int .i32 y1,.int .i32 y2] 100)).cell 1;have j2:=((Blk.new wr #[.int .i32 x0,.int .i32 x1,.int .i32 x2] 100).alloc (.cells #[.int .i32 y0,.int .i32 y1,.int .i32 y2] 100)).cell 2;have by_:Blk ((wr.alloc (.cells #[.int .i32 x0,.int .i32 x1,.int .i32 x2] 100)).alloc (.cells #[.int .i32 y0,.int .i32 y1,.int .i32 y2] 100)) (wr.heap.size+1) #[.int .i32 y0,.int .i32 y1,.int .i32 y2] 100:=by
      have h:=Blk.new (wr.alloc (.cells #[.int .i32 x0,.int .i32 x1,.int .i32 x2] 100)) #[.int .i32 y0,.int .i32 y1,.int .i32 y2] 100;rw [World.size_alloc] at h;exact h
     have l0:=by_.cell 0;have l1:=by_.cell 1;have l2:=by_.cell 2;clear by_ hn1 hg2;by_cases h0:x0=y0
     ·subst h0;have e0:(x0 == x0)=true:=by simp
      have hf:(twP T.pr) k=14:=zeV (oz HK) hmk (oz HKy) (by unfold zeW;simp);have HE:=kz (yU (list:=4) (n:=T.pr.length) k (by omega) (oz HO) (by rw [hf];decide));rw [hf] at HE;clear hf HO HK;have HX4:=kz ((oz HX).chain (oz HX3));have r0:=(oz HX4).rx.rs.cell 0;have f0:=(oz HX4).rx.rs.frozen 0;have r1:=(oz HX4).rx.rs.cell 1;have f1:=(oz HX4).rx.rs.frozen 1;have r2:=(oz HX4).rx.rs.cell 2;have f2:=(oz HX4).rx.rs.frozen 2;clear HX HX2 HX3 HN2 HKy ea;go_wp2_with fail
      exact oz HR _ _ (oz HE) (by decide) _ _ rfl rfl (kz ((oz HX4).put _ _ _))
     ·have e0:(x0 == y0)=false:=by simpa using h0
      by_cases h1:x1=y1
      ·subst h1;have e1:(x1 == x1)=true:=by simp
       by_cases h2:x2=y2
       ·subst h2;have e2:(x2 == x2)=true:=by simp
        have hf:(twP T.pr) k=14:=zeV (oz HK) hmk (oz HKy) (by unfold zeW;simp);have HE:=kz (yU (list:=4) (n:=T.pr.length) k (by omega) (oz HO) (by rw [hf];decide));rw [hf] at HE;clear hf HO HK;have HX4:=kz ((oz HX).chain (oz HX3));have r0:=(oz HX4).rx.rs.cell 0;have f0:=(oz HX4).rx.rs.frozen 0;have r1:=(oz HX4).rx.rs.cell 1;have f1:=(oz HX4).rx.rs.frozen 1;have r2:=(oz HX4).rx.rs.cell 2;have f2:=(oz HX4).rx.rs.frozen 2;clear HX HX2 HX3 HN2 HKy ea;go_wp2_with fail
        exact oz HR _ _ (oz HE) (by decide) _ _ rfl rfl (kz ((oz HX4).put _ _ _))
       ·have e2:(x2 == y2)=false:=by simpa using h2
        have HN3:=kz ((oz HN2).next (oz HKy) (by unfold zeW;simp;exact ⟨fun e =>h0 e.symm,fun e =>h2 e.symm⟩));clear HN2 HKy HX2;go_wp2_with fail
        exact ⟨⟨m+1,by omega,by first | rfl | go_num,HN3,HX3⟩,by simp [intOf];omega⟩
      ·have e1:(x1 == y1)=false:=by simpa using h1
       have HN3:=kz ((oz HN2).next (oz HKy) (by unfold zeW;simp;exact ⟨fun e =>h0 e.symm,fun e =>absurd e.symm h1⟩));clear HN2 HKy HX2;go_wp2_with fail
       exact ⟨⟨m+1,by omega,by first | rfl | go_num,HN3,HX3⟩,by simp [intOf];omega⟩
    ·have m1:¬ (m:Int) < (k:Int):=by omega
     obtain rfl:m=k:=by omega
     have hf:(twP T.pr) m=0:=zhn (oz HK) (oz HN2);have HO2:=kz ((oz HO).next hf);have HX3:=kz ((oz HX).chain (oz HX2));have hkn:=oz HKN;clear hf HO HK HN2 ea;go_wp2_with fail
     exact ⟨⟨m+1,by omega,by first | rfl | go_num,HO2,HX3⟩,by simp [intOf];omega⟩
  ·have k1:¬ (k:Int) < (T.pr.length:Int):=by omega
   have zz:=(oz HX).rx.tb.z3;have HE:Hz (zG 4 T.pr.length (twP T.pr)=(0,0,0)):=kz (jW (fun i hi =>oz HO i (by omega)));clear HO HR HF;go_wp2_with fail
   exact oz HN (oz HE) _ _ (zq rfl) HX
noncomputable def uaWd:Code:=match Tryz.f63.body with
 | some (.seq _ (.seq _ (.seq _ (.seq _ (.seq c _))))) =>c
 | _ =>.skip
theorem zgN (T:TV) (hT:TabB T) (A:TbA) (W w:World) (h:RxS W w T A) (U:Nat→Value) {Q:Exit→Act→World→Prop}
  (hN:zG 5 T.fo.length (twF T.fo mp0 (fun x =>x.1))=(0,0,0)→∀ (a:Act) (wn:World),(∃ U',a=XF W U')→Hz (RxT W w wn T A)→Q .normal a wn)
  (hR:∀ (y k:Int),zG 5 T.fo.length (twF T.fo mp0 (fun x =>x.1))=(y,5,k)→y≠0→∀ (a:Act) (wn:World),a.tmps.getD 2 undef=.pointer (some ⟨W.heap.size+1,0,none⟩)→a.defers=[]→Hz (RxD W wn (y,5,k))→Q .ret a wn) :
  Code.wp Tryz.prog uaWd Q (XF W U) w:=by
 have HN:=kz hN;have HR:=kz hR;have HX:=kz (RxT.refl h);have hln:=hT.n4;have HF:=kz (fun r a c w (hv:RowC w w.heap.size a (yW T.fo)) =>qU T.fo hT.n4 a c r w hv);clear hN hR h hT
 delta uaWd Tryz.f63 XF at *
 dsimp only;go_wp2_with fail
 go_loopw [11] (fun i wr => ∃ k:Nat,k≤T.fo.length∧i=.int .i64 k∧Hz (OkR (twF T.fo mp0 (fun x =>x.1)) k)∧Hz (RxT W w wr T A)) (fun i _ =>T.fo.length - (intOf i).toNat)
 case atStart =>exact ⟨0,Zn _,rfl,kz (OkR.zero _),HX⟩
 case round =>
  clear HX;obtain ⟨k,hk,rfl,HO,HX⟩:=hrel;by_cases hkn:k < T.fo.length
  ·obtain ⟨x,hx⟩:∃ x,T.fo[k]?=some x:=⟨_,qR hkn⟩;obtain ⟨g,o,ea,hg,c0,c1⟩:=za8 (oz HX).rx.tb.ti.r4 hx;have HK:=kz hx;have HG:=kz hg;have k1:(k:Int) < (T.fo.length:Int):=by omega
   have k2:=Zp k
   have zz:=(oz HX).rx.tb.z4;rw [ea] at zz;clear hg hx;have HF2:=kz (fun w' (hw:Below wr.heap.size wr w') =>oz HF x.1 A.a4 A.c4 w' ((oz HX).rx.tb.ti.r4.below hw hw.size));rw [ea] at HF2;have HT2:=kz (ziv (oz HK));generalize XJ T.fo (fun y =>y.1 == x.1)=ii at *;clear HF ea;rcases oz HT2 with ⟨hi,hv⟩ | ⟨hi,hv⟩
   ·have hf:(twF T.fo mp0 (fun x =>x.1)) k=14:=hv;have HE:=kz (yU (list:=5) (n:=T.fo.length) k (by omega) (oz HO) (by rw [hf];decide));rw [hf] at HE;clear hf HO HK;have y0:=zP c0;have yz:=zP zz;clear hv HT2 hkn;go_wp2_with fail
    refine JG (by kernel_rfl) (by kernel_rfl) ?_;repeat (go_big_quiet_step (exact QH ((oz HF2 _ (Xu _ _ _)).mono (fun e w2 h =>⟨h.1,h.2 ▸ zl⟩))))
    first | refine wpQuiet_nil ?_ | skip
    rintro w' ⟨p,rfl⟩;have HBq:=kz (Xu wr p.d p.os);generalize Go.Sort.grow (redrawn wr p.d) p.os=w1 at *;have HX1:=kz ((oz HX).below (oz HBq));clear y0 yz HF2 HX zz c0 c1;have r0:=(oz HX1).rx.rs.cell 0;have f0:=(oz HX1).rx.rs.frozen 0;have r1:=(oz HX1).rx.rs.cell 1;have f1:=(oz HX1).rx.rs.frozen 1;have r2:=(oz HX1).rx.rs.cell 2;have f2:=(oz HX1).rx.rs.frozen 2;go_wp2_with fail
    exact oz HR _ _ (oz HE) (by decide) _ _ rfl rfl (kz ((oz HX1).put _ _ _))
   ·have HO2:=kz ((oz HO).next hv);have y0:=zP c0;have yz:=zP zz;clear hv HT2 HO HK;go_wp2_with fail
    refine JG (by kernel_rfl) (by kernel_rfl) ?_;repeat (go_big_quiet_step (exact QH ((oz HF2 _ (Xu _ _ _)).mono (fun e w2 h =>⟨h.1,h.2 ▸ zl⟩))))
    first | refine wpQuiet_nil ?_ | skip
    rintro w' ⟨p,rfl⟩;have HBq:=kz (Xu wr p.d p.os);generalize Go.Sort.grow (redrawn wr p.d) p.os=w1 at *;have HX1:=kz ((oz HX).below (oz HBq));clear y0 yz HF2 HX zz c0 c1;go_wp2_with fail
    exact ⟨⟨k+1,by omega,by first | rfl | go_num,HO2,HX1⟩,by simp [intOf];omega⟩
  ·have k1:¬ (k:Int) < (T.fo.length:Int):=by omega
   have zz:=(oz HX).rx.tb.z4;have HE:Hz (zG 5 T.fo.length (twF T.fo mp0 (fun x =>x.1))=(0,0,0)):=kz (jW (fun i hi =>oz HO i (by omega)));clear HO HR HF;go_wp2_with fail
   exact oz HN (oz HE) _ _ (zq rfl) HX
noncomputable def uaWe:Code:=match Tryz.f63.body with
 | some (.seq _ (.seq _ (.seq _ (.seq _ (.seq _ (.seq c _)))))) =>c
 | _ =>.skip
theorem zgM (T:TV) (hT:TabB T) (A:TbA) (W w:World) (h:RxS W w T A) (U:Nat→Value) {Q:Exit→Act→World→Prop}
  (hN:zG 6 T.lk.length (twF T.lk mp0 (fun x =>x.1))=(0,0,0)→∀ (a:Act) (wn:World),(∃ U',a=XF W U')→Hz (RxT W w wn T A)→Q .normal a wn)
  (hR:∀ (y k:Int),zG 6 T.lk.length (twF T.lk mp0 (fun x =>x.1))=(y,6,k)→y≠0→∀ (a:Act) (wn:World),a.tmps.getD 2 undef=.pointer (some ⟨W.heap.size+1,0,none⟩)→a.defers=[]→Hz (RxD W wn (y,6,k))→Q .ret a wn) :
  Code.wp Tryz.prog uaWe Q (XF W U) w:=by
 have HN:=kz hN;have HR:=kz hR;have HX:=kz (RxT.refl h);have hln:=hT.n5;have HF:=kz (fun r a c w (hv:RowC w w.heap.size a (yW T.lk)) =>qU T.lk hT.n5 a c r w hv);clear hN hR h hT
 delta uaWe Tryz.f63 XF at *
 dsimp only;go_wp2_with fail
 go_loopw [12] (fun i wr => ∃ k:Nat,k≤T.lk.length∧i=.int .i64 k∧Hz (OkR (twF T.lk mp0 (fun x =>x.1)) k)∧Hz (RxT W w wr T A)) (fun i _ =>T.lk.length - (intOf i).toNat)
 case atStart =>exact ⟨0,Zn _,rfl,kz (OkR.zero _),HX⟩
 case round =>
  clear HX;obtain ⟨k,hk,rfl,HO,HX⟩:=hrel;by_cases hkn:k < T.lk.length
  ·obtain ⟨x,hx⟩:∃ x,T.lk[k]?=some x:=⟨_,qR hkn⟩;obtain ⟨g,o,ea,hg,c0,c1⟩:=za8 (oz HX).rx.tb.ti.r5 hx;have HK:=kz hx;have HG:=kz hg;have k1:(k:Int) < (T.lk.length:Int):=by omega
   have k2:=Zp k
   have zz:=(oz HX).rx.tb.z5;rw [ea] at zz;clear hg hx;have HF2:=kz (fun w' (hw:Below wr.heap.size wr w') =>oz HF x.1 A.a5 A.c5 w' ((oz HX).rx.tb.ti.r5.below hw hw.size));rw [ea] at HF2;have HT2:=kz (ziv (oz HK));generalize XJ T.lk (fun y =>y.1 == x.1)=ii at *;clear HF ea;rcases oz HT2 with ⟨hi,hv⟩ | ⟨hi,hv⟩
   ·have hf:(twF T.lk mp0 (fun x =>x.1)) k=14:=hv;have HE:=kz (yU (list:=6) (n:=T.lk.length) k (by omega) (oz HO) (by rw [hf];decide));rw [hf] at HE;clear hf HO HK;have y0:=zP c0;have yz:=zP zz;clear hv HT2 hkn;go_wp2_with fail
    refine JG (by kernel_rfl) (by kernel_rfl) ?_;repeat (go_big_quiet_step (exact QH ((oz HF2 _ (Xu _ _ _)).mono (fun e w2 h =>⟨h.1,h.2 ▸ zl⟩))))
    first | refine wpQuiet_nil ?_ | skip
    rintro w' ⟨p,rfl⟩;have HBq:=kz (Xu wr p.d p.os);generalize Go.Sort.grow (redrawn wr p.d) p.os=w1 at *;have HX1:=kz ((oz HX).below (oz HBq));clear y0 yz HF2 HX zz c0 c1;have r0:=(oz HX1).rx.rs.cell 0;have f0:=(oz HX1).rx.rs.frozen 0;have r1:=(oz HX1).rx.rs.cell 1;have f1:=(oz HX1).rx.rs.frozen 1;have r2:=(oz HX1).rx.rs.cell 2;have f2:=(oz HX1).rx.rs.frozen 2;go_wp2_with fail
    exact oz HR _ _ (oz HE) (by decide) _ _ rfl rfl (kz ((oz HX1).put _ _ _))
   ·have HO2:=kz ((oz HO).next hv);have y0:=zP c0;have yz:=zP zz;clear hv HT2 HO HK;go_wp2_with fail
    refine JG (by kernel_rfl) (by kernel_rfl) ?_;repeat (go_big_quiet_step (exact QH ((oz HF2 _ (Xu _ _ _)).mono (fun e w2 h =>⟨h.1,h.2 ▸ zl⟩))))
    first | refine wpQuiet_nil ?_ | skip
    rintro w' ⟨p,rfl⟩;have HBq:=kz (Xu wr p.d p.os);generalize Go.Sort.grow (redrawn wr p.d) p.os=w1 at *;have HX1:=kz ((oz HX).below (oz HBq));clear y0 yz HF2 HX zz c0 c1;go_wp2_with fail
    exact ⟨⟨k+1,by omega,by first | rfl | go_num,HO2,HX1⟩,by simp [intOf];omega⟩
  ·have k1:¬ (k:Int) < (T.lk.length:Int):=by omega
   have zz:=(oz HX).rx.tb.z5;have HE:Hz (zG 6 T.lk.length (twF T.lk mp0 (fun x =>x.1))=(0,0,0)):=kz (jW (fun i hi =>oz HO i (by omega)));clear HO HR HF;go_wp2_with fail
   exact oz HN (oz HE) _ _ (zq rfl) HX
theorem zcm (T:TV) (hT:TabB T) (v:Value) (W:World) (hv:TbV W T v) :
  Calls Tryz.prog 63 #[v] W fun e w' =>e=.returned (wrV (yQ T))∧Below W.heap.size W w':=by
 obtain ⟨A,rfl,hA⟩:=hv;have HX:=kz (RxS.start hA);have HT:=kz hT;have HV:∃ mb,Hz (orW [zG 1 T.sc.length (twF T.sc sc0 (fun x =>x.1.data.toList)),zG 3 T.ma.length (twF T.ma ma0 (fun x =>x.1)),zG 4 T.pr.length (twP T.pr),zG 5 T.fo.length (twF T.fo mp0 (fun x =>x.1)),zG 6 T.lk.length (twF T.lk mp0 (fun x =>x.1))]=mb):=⟨_,kz rfl⟩;obtain ⟨mb,HV⟩:=HV;rw [show yQ T=mb from oz HV];clear hA hT;go_enter Tryz.func63,Tryz.ntmps63;refine wp_seq_k (fun K0 hK0 =>?_);have HK0:=kz hK0;clear hK0;go_wp2_with fail
 refine oz HK0 _ _ ?_;clear HK0 K0;generalize (W.alloc _).alloc _=w0 at *;have hR:∀ (y l k:Int),mb=(y,l,k)→∀ (a:Act) (wn:World),a.tmps.getD 2 undef=.pointer (some ⟨W.heap.size+1,0,none⟩)→a.defers=[]→Hz (RxD W wn (y,l,k))→bodyPost Tryz.prog Tryz.f63 (fun e w' =>e=.returned (wrV mb)∧Below W.heap.size W w') .ret a wn:=fun y l k e a wn h1 h2 h3 =>by
  subst e;exact XS (v:=wrV (y,l,k)) (jA Tryz.results63 h1 (oz h3).rs rfl) h2 ⟨rfl,(oz h3).bl⟩
 refine wp_seq_k (fun K1 hK1 =>?_);refine zN (F:=XF W) (zq rfl) (fun U =>?_);refine zgQ T (oz HT) A W _ (oz HX) U ?_ ?_
 rotate_left
 ·intro y k e hy a wn h1 h2 h3;exact hR y _ k (by rw [← oz HV,zj (by rw [e];exact hy),e]) a wn h1 h2 h3
 intro E1 a w1 ⟨U1,hU⟩ hx;subst hU;have HX1:=kz (oz hx).rx;clear hx;refine hK1 _ _ ?_;clear hK1 K1;refine wp_seq_k (fun K2 hK2 =>?_);refine zN (F:=XF W) ⟨U1,rfl⟩ (fun U =>?_);refine zgP T (oz HT) A W _ (oz HX1) U ?_ ?_
 rotate_left
 ·intro y k e hy a wn h1 h2 h3;exact hR y _ k (by rw [← oz HV,ze (by rw [E1]),zj (by rw [e];exact hy),e]) a wn h1 h2 h3
 intro E2 a w2 ⟨U2,hU⟩ hx;subst hU;have HX2:=kz (oz hx).rx;clear hx;refine hK2 _ _ ?_;clear hK2 K2;refine wp_seq_k (fun K3 hK3 =>?_);refine zN (F:=XF W) ⟨U2,rfl⟩ (fun U =>?_);refine zgO T (oz HT) A W _ (oz HX2) U ?_ ?_
 rotate_left
 ·intro y k e hy a wn h1 h2 h3;exact hR y _ k (by rw [← oz HV,ze (by rw [E1]),ze (by rw [E2]),zj (by rw [e];exact hy),e]) a wn h1 h2 h3
 intro E3 a w3 ⟨U3,hU⟩ hx;subst hU;have HX3:=kz (oz hx).rx;clear hx;refine hK3 _ _ ?_;clear hK3 K3;refine wp_seq_k (fun K4 hK4 =>?_);refine zN (F:=XF W) ⟨U3,rfl⟩ (fun U =>?_);refine zgN T (oz HT) A W _ (oz HX3) U ?_ ?_
 rotate_left
 ·intro y k e hy a wn h1 h2 h3;exact hR y _ k (by rw [← oz HV,ze (by rw [E1]),ze (by rw [E2]),ze (by rw [E3]),zj (by rw [e];exact hy),e]) a wn h1 h2 h3
 intro E4 a w4 ⟨U4,hU⟩ hx;subst hU;have HX4:=kz (oz hx).rx;clear hx;refine hK4 _ _ ?_;clear hK4 K4;refine wp_seq_k (fun K5 hK5 =>?_);refine zN (F:=XF W) ⟨U4,rfl⟩ (fun U =>?_);refine zgM T (oz HT) A W _ (oz HX4) U ?_ ?_
 rotate_left
 ·intro y k e hy a wn h1 h2 h3;exact hR y _ k (by rw [← oz HV,ze (by rw [E1]),ze (by rw [E2]),ze (by rw [E3]),ze (by rw [E4]),zj (by rw [e];exact hy),e]) a wn h1 h2 h3
 intro E5 a w5 ⟨U5,hU⟩ hx;subst hU;have HX5:=kz (oz hx).rx;clear hx;refine hK5 _ _ ?_;clear hK5 K5;have hm:mb=(0,0,0):=by
  rw [← oz HV,ze (by rw [E1]),ze (by rw [E2]),ze (by rw [E3]),ze (by rw [E4]),ze (by rw [E5])];rfl
 subst hm;clear hR HV E1 E2 E3 E4 E5;refine zN (F:=XF W) ⟨U5,rfl⟩ (fun U =>?_);unfold XF;have r0:=(oz HX5).rs.cell 0;have f0:=(oz HX5).rs.frozen 0;have r1:=(oz HX5).rs.cell 1;have f1:=(oz HX5).rs.frozen 1;have r2:=(oz HX5).rs.cell 2;have f2:=(oz HX5).rs.frozen 2;go_wp2_with fail
 exact XS (v:=wrV (0,0,0)) (jA Tryz.results63 rfl (jG (oz HX5).rs _ _ _) rfl) rfl ⟨rfl,((oz HX5).put (0,0,0)).bl⟩
def zdj (x:ByteArray × List (Int × Int)):Int:=if 1024 < x.2.length then 4 else 0
def zbl (T:TV):List Nat := [T.co.length,T.ma.length,T.pr.length,T.fo.length,T.lk.length,T.dr.length,T.al.length]
def mostQ:List Nat := [1024,512,4096,4096,4096,1024,1024]
def zea (T:TV):List (Int × Int × Int) := [XQ 2 T.co.length 1024,XQ 3 T.ma.length 512,XQ 4 T.pr.length 4096,XQ 5 T.fo.length 4096,XQ 6 T.lk.length 4096,XQ 7 T.dr.length 1024,XQ 8 T.al.length 1024]
theorem zZ {list:Int} {n m:Nat} (h:n≤m):XQ list n m=(0,0,0):=if_pos h
theorem jH {list:Int} {n m:Nat} (h:m < n):XQ list n m=(4,list,(m:Int)):=if_neg (by omega)
theorem zjl {T:TV} (h:∀ j,j < 7→(zbl T).getD j 0≤mostQ.getD j 0):orW (zea T)=(0,0,0):=by
 have h0:T.co.length≤1024:=h 0 (by omega);have h1:T.ma.length≤512:=h 1 (by omega);have h2:T.pr.length≤4096:=h 2 (by omega);have h3:T.fo.length≤4096:=h 3 (by omega);have h4:T.lk.length≤4096:=h 4 (by omega);have h5:T.dr.length≤1024:=h 5 (by omega);have h6:T.al.length≤1024:=h 6 (by omega);unfold zea;rw [zZ h0,zZ h1,zZ h2,zZ h3,zZ h4,zZ h5,zZ h6];rfl
theorem zhR {T:TV} {k:Nat} (hk:k < 7) (h:∀ j,j < k→(zbl T).getD j 0≤mostQ.getD j 0) (hb:mostQ.getD k 0 < (zbl T).getD k 0):orW (zea T)=(4,2+(k:Int),((mostQ.getD k 0:Nat):Int)):=by
 unfold zea;have hk:k=0∨k=1∨k=2∨k=3∨k=4∨k=5∨k=6:=by omega
 rcases hk with rfl | rfl | rfl | rfl | rfl | rfl | rfl
 ·have hb:1024 < T.co.length:=hb;rw [zj (by rw [jH hb];decide),jH hb];rfl
 ·have h0:T.co.length≤1024:=h 0 (by omega);have hb:512 < T.ma.length:=hb;rw [ze (by rw [zZ h0]),zj (by rw [jH hb];decide),jH hb];rfl
 ·have h0:T.co.length≤1024:=h 0 (by omega);have h1:T.ma.length≤512:=h 1 (by omega);have hb:4096 < T.pr.length:=hb;rw [ze (by rw [zZ h0]),ze (by rw [zZ h1]),zj (by rw [jH hb];decide),jH hb];rfl
 ·have h0:T.co.length≤1024:=h 0 (by omega);have h1:T.ma.length≤512:=h 1 (by omega);have h2:T.pr.length≤4096:=h 2 (by omega);have hb:4096 < T.fo.length:=hb;rw [ze (by rw [zZ h0]),ze (by rw [zZ h1]),ze (by rw [zZ h2]),zj (by rw [jH hb];decide),jH hb];rfl
 ·have h0:T.co.length≤1024:=h 0 (by omega);have h1:T.ma.length≤512:=h 1 (by omega);have h2:T.pr.length≤4096:=h 2 (by omega);have h3:T.fo.length≤4096:=h 3 (by omega);have hb:4096 < T.lk.length:=hb;rw [ze (by rw [zZ h0]),ze (by rw [zZ h1]),ze (by rw [zZ h2]),ze (by rw [zZ h3]),zj (by rw [jH hb];decide),jH hb];rfl
 ·have h0:T.co.length≤1024:=h 0 (by omega);have h1:T.ma.length≤512:=h 1 (by omega);have h2:T.pr.length≤4096:=h 2 (by omega);have h3:T.fo.length≤4096:=h 3 (by omega);have h4:T.lk.length≤4096:=h 4 (by omega);have hb:1024 < T.dr.length:=hb;rw [ze (by rw [zZ h0]),ze (by rw [zZ h1]),ze (by rw [zZ h2]),ze (by rw [zZ h3]),ze (by rw [zZ h4]),zj (by rw [jH hb];decide),jH hb];rfl
 ·have h0:T.co.length≤1024:=h 0 (by omega);have h1:T.ma.length≤512:=h 1 (by omega);have h2:T.pr.length≤4096:=h 2 (by omega);have h3:T.fo.length≤4096:=h 3 (by omega);have h4:T.lk.length≤4096:=h 4 (by omega);have h5:T.dr.length≤1024:=h 5 (by omega);have hb:1024 < T.al.length:=hb;rw [ze (by rw [zZ h0]),ze (by rw [zZ h1]),ze (by rw [zZ h2]),ze (by rw [zZ h3]),ze (by rw [zZ h4]),ze (by rw [zZ h5]),zj (by rw [jH hb];decide),jH hb];rfl
def zdE (W:World) (U:Nat→Value):Act:={ tmps:=#[U 0,.pointer (some ⟨W.heap.size,0,none⟩),.pointer (some ⟨W.heap.size+1,0,none⟩),U 3,U 4,U 5,U 6,U 7,U 8,U 9,U 10,U 11,U 12,U 13,U 14,U 15,U 16,U 17,U 18,U 19,U 20,U 21,U 22,U 23,U 24,U 25,U 26,U 27,U 28,U 29,U 30,U 31,U 32,U 33,U 34,U 35,U 36,U 37,U 38,U 39,U 40,U 41,U 42,U 43,U 44,U 45,U 46,U 47,U 48,U 49,U 50,U 51,U 52,U 53,U 54,U 55,U 56,U 57,U 58,U 59,U 60,U 61,U 62,U 63,U 64,U 65,U 66,U 67,U 68,U 69,U 70,U 71,U 72,U 73,U 74],defers := [] }
noncomputable def uaLa:Code:=match Tryz.f61.body with
 | some (.seq _ (.seq _ (.seq c _))) =>c
 | _ =>.skip
theorem zg2 (T:TV) (hT:TabB T) (A:TbA) (W w:World)  (h:RxS W w T A) (U:Nat→Value) {Q:Exit→Act→World→Prop}
  (hN:zg 1 T.sc sc0 (zdj)=(0,0,0)→∀ (a:Act) (wn:World),(∃ U',a=zdE W U')→Hz (RxT W w wn T A)→Q .normal a wn)
  (hR:∀ (y k:Int),zg 1 T.sc sc0 (zdj)=(y,1,k)→y≠0→∀ (a:Act) (wn:World),a.tmps.getD 2 undef=.pointer (some ⟨W.heap.size+1,0,none⟩)→a.defers=[]→Hz (RxD W wn (y,1,k))→Q .ret a wn) :
  Code.wp Tryz.prog uaLa Q (zdE W U) w:=by
 have HN:=kz hN;have HR:=kz hR;have HX:=kz (RxT.refl h);have hln:=hT.n0;clear hN hR h
 delta uaLa Tryz.f61 zdE at *
 dsimp only;go_wp2_with fail
 go_loopw [3] (fun i wr => ∃ k:Nat,k≤T.sc.length∧i=.int .i64 k∧Hz (OkTo T.sc sc0 (zdj) k)∧Hz (RxT W w wr T A)) (fun i _ =>T.sc.length - (intOf i).toNat)
 case atStart =>exact ⟨0,Zn _,rfl,kz (OkTo.zero _ _ _),HX⟩
 case round =>
  clear HX;obtain ⟨k,hk,rfl,HO,HX⟩:=hrel;by_cases hkn:k < T.sc.length
  ·obtain ⟨x,hx⟩:∃ x,T.sc[k]?=some x:=⟨_,qR hkn⟩;obtain ⟨g,o,bq,dq,ea,hg,c0,c1,hrow⟩:=zdU (oz HX).rx.tb.ti hx;have HRW:=kz hrow;clear hrow;have HK:=kz hx;have HG:=kz hg;have k1:(k:Int) < (T.sc.length:Int):=by omega
   have k2:=Zp k
   have zz:=(oz HX).rx.tb.z0;rw [ea] at zz;clear hg hx;by_cases h1:1024 < x.2.length
   ·have hf:zdj x=4:=by unfold zdj;exact if_pos h1
    have HE:=kz ((oz HO).bad (oz HK) 1 (by rw [hf];decide));rw [hf] at HE;clear hf HO HK;have n1:(1024:Int) < (x.2.length:Int):=by omega
    clear ea HRW h1;have r0:=(oz HX).rx.rs.cell 0;have f0:=(oz HX).rx.rs.frozen 0;have r1:=(oz HX).rx.rs.cell 1;have f1:=(oz HX).rx.rs.frozen 1;have r2:=(oz HX).rx.rs.cell 2;have f2:=(oz HX).rx.rs.frozen 2;go_wp2_with fail
    exact oz HR _ _ (oz HE) (by decide) _ _ rfl rfl (kz ((oz HX).put _ _ _))
   ·have hf:zdj x=0:=by unfold zdj;exact if_neg h1
    have HO2:=kz ((oz HO).next (oz HK) hf);clear hf HO HK;have n1:¬ (1024:Int) < (x.2.length:Int):=by omega
    clear ea HRW h1;go_wp2_with fail
    exact ⟨⟨k+1,by omega,by first | rfl | go_num,HO2,HX⟩,by simp [intOf];omega⟩
  ·have k1:¬ (k:Int) < (T.sc.length:Int):=by omega
   have zz:=(oz HX).rx.tb.z0;have HE:=kz ((oz HO).ok (by omega) 1);clear HO HR;go_wp2_with fail
   exact oz HN (oz HE) _ _ (zq rfl) HX
theorem zjj {w:World} {g:Nat} {T:TV} (b:Blk w g #[.int .i64 T.co.length,.int .i64 T.ma.length,.int .i64 T.pr.length,.int .i64 T.fo.length,.int .i64 T.lk.length,.int .i64 T.dr.length,.int .i64 T.al.length] 3) (k:Nat) (hk:k < 7):w.cell? ⟨g,k,none⟩=some (.int .i64 ((zbl T).getD k 0:Nat)):=by
 rw [b.cell k];have hk:k=0∨k=1∨k=2∨k=3∨k=4∨k=5∨k=6:=by omega
 rcases hk with rfl | rfl | rfl | rfl | rfl | rfl | rfl <;> rfl
theorem zjd {w:World} {g:Nat} (b:Blk w g #[.int .i64 1024,.int .i64 512,.int .i64 4096,.int .i64 4096,.int .i64 4096,.int .i64 1024,.int .i64 1024] 3) (k:Nat) (hk:k < 7):w.cell? ⟨g,k,none⟩=some (.int .i64 (mostQ.getD k 0:Nat)):=by
 rw [b.cell k];have hk:k=0∨k=1∨k=2∨k=3∨k=4∨k=5∨k=6:=by omega
 rcases hk with rfl | rfl | rfl | rfl | rfl | rfl | rfl <;> rfl
theorem zkE {T:TV} (hT:TabB T) (k:Nat):(zbl T).getD k 0≤1048576∧mostQ.getD k 0≤1048576:=by
 have h1:=hT.n1;have h2:=hT.n2;have h3:=hT.n3;have h4:=hT.n4;have h5:=hT.n5;have h6:=hT.n6;have h7:=hT.n7;by_cases hk:k < 7
 ·have hk:k=0∨k=1∨k=2∨k=3∨k=4∨k=5∨k=6:=by omega
  rcases hk with rfl | rfl | rfl | rfl | rfl | rfl | rfl
  ·exact ⟨h1,by decide⟩
  ·exact ⟨h2,by decide⟩
  ·exact ⟨h3,by decide⟩
  ·exact ⟨h4,by decide⟩
  ·exact ⟨h5,by decide⟩
  ·exact ⟨h6,by decide⟩
  ·exact ⟨h7,by decide⟩
 ·have e1:(zbl T).getD k 0=0:=by simp [List.getD,List.getElem?_eq_none (show (zbl T).length≤k by show 7≤k;omega)]
  have e2:mostQ.getD k 0=0:=by simp [List.getD,List.getElem?_eq_none (show mostQ.length≤k by show 7≤k;omega)]
  rw [e1,e2];exact ⟨by omega,by omega⟩
structure LqS (W w:World) (g:Nat) (T:TV) (A:TbA):Prop where
 rx:RxS W w T A
 bl:Blk w g #[.int .i64 T.co.length,.int .i64 T.ma.length,.int .i64 T.pr.length,.int .i64 T.fo.length,.int .i64 T.lk.length,.int .i64 T.dr.length,.int .i64 T.al.length] 3
 bm:Blk w (g+1) #[.int .i64 1024,.int .i64 512,.int .i64 4096,.int .i64 4096,.int .i64 4096,.int .i64 1024,.int .i64 1024] 3
theorem LqS.below {W w w':World} {g:Nat} {T:TV} {A:TbA} (h:LqS W w g T A) (hb:Below w.heap.size w w'):LqS W w' g T A:=⟨h.rx.below hb,h.bl.below hb h.bl.lt,h.bm.below hb h.bm.lt⟩
theorem LqS.start {W w:World} {T:TV} {A:TbA} (h:RxS W w T A):LqS W ((w.alloc (.cells #[.int .i64 T.co.length,.int .i64 T.ma.length,.int .i64 T.pr.length,.int .i64 T.fo.length,.int .i64 T.lk.length,.int .i64 T.dr.length,.int .i64 T.al.length] 3)).alloc (.cells #[.int .i64 1024,.int .i64 512,.int .i64 4096,.int .i64 4096,.int .i64 4096,.int .i64 1024,.int .i64 1024] 3)) w.heap.size T A :=
 have h1:=Zk w (.cells #[.int .i64 T.co.length,.int .i64 T.ma.length,.int .i64 T.pr.length,.int .i64 T.fo.length,.int .i64 T.lk.length,.int .i64 T.dr.length,.int .i64 T.al.length] 3);have h2:=Zk (w.alloc (.cells #[.int .i64 T.co.length,.int .i64 T.ma.length,.int .i64 T.pr.length,.int .i64 T.fo.length,.int .i64 T.lk.length,.int .i64 T.dr.length,.int .i64 T.al.length] 3)) (.cells #[.int .i64 1024,.int .i64 512,.int .i64 4096,.int .i64 4096,.int .i64 4096,.int .i64 1024,.int .i64 1024] 3)
 ⟨(h.below h1).below h2,(Blk.new w _ _).alloc _,by
  have b:=Blk.new (w.alloc (.cells #[.int .i64 T.co.length,.int .i64 T.ma.length,.int .i64 T.pr.length,.int .i64 T.fo.length,.int .i64 T.lk.length,.int .i64 T.dr.length,.int .i64 T.al.length] 3)) #[.int .i64 1024,.int .i64 512,.int .i64 4096,.int .i64 4096,.int .i64 4096,.int .i64 1024,.int .i64 1024] 3;rw [World.size_alloc] at b;exact b⟩
theorem zjk (T:TV):jL T=orW [XQ 1 T.sc.length 64,zg 1 T.sc sc0 zdj,orW (zea T)]:=by
 have:jL T=orW ([XQ 1 T.sc.length 64,zg 1 T.sc sc0 zdj]++zea T):=rfl;rw [this, ← zi6];rfl
theorem zd0 (T:TV) (hT:TabB T) (v:Value) (W:World) (hv:TbV W T v) :
  Calls Tryz.prog 61 #[v] W fun e w' =>e=.returned (wrV (jL T))∧Below W.heap.size W w':=by
 obtain ⟨A,rfl,hA⟩:=hv;have HX:=kz (RxS.start hA);have HT:=kz hT;have HV:∃ mb,Hz (orW [XQ 1 T.sc.length 64,zg 1 T.sc sc0 zdj,orW (zea T)]=mb):=⟨_,kz rfl⟩;obtain ⟨mb,HV⟩:=HV;rw [zjk,oz HV];have hn:=hT.n0;clear hA hT;go_enter Tryz.func61,Tryz.ntmps61;refine wp_seq_k (fun K0 hK0 =>?_);have HK0:=kz hK0;clear hK0;go_wp2_with fail
 refine oz HK0 _ _ ?_;clear HK0 K0;generalize (W.alloc _).alloc _=w0 at *;have hR:∀ (y l k:Int),mb=(y,l,k)→∀ (a:Act) (wn:World),a.tmps.getD 2 undef=.pointer (some ⟨W.heap.size+1,0,none⟩)→a.defers=[]→Hz (RxD W wn (y,l,k))→bodyPost Tryz.prog Tryz.f61 (fun e w' =>e=.returned (wrV mb)∧Below W.heap.size W w') .ret a wn:=fun y l k e a wn h1 h2 h3 =>by
  subst e;exact XS (v:=wrV (y,l,k)) (jA Tryz.results61 h1 (oz h3).rs rfl) h2 ⟨rfl,(oz h3).bl⟩
 have z0:=(oz HX).tb.z0;refine wp_seq_k (fun Ka hKa =>?_);have HKa:=kz hKa;have HRR:=kz hR;clear hKa hR;by_cases h64:64 < T.sc.length
 ·have n1:(64:Int) < (T.sc.length:Int):=by omega
  have hm:mb=(4,1,64):=by
   rw [← oz HV,jH h64,zj (by decide)];rfl
  subst hm;have r0:=(oz HX).rs.cell 0;have f0:=(oz HX).rs.frozen 0;have r1:=(oz HX).rs.cell 1;have f1:=(oz HX).rs.frozen 1;have r2:=(oz HX).rs.cell 2;have f2:=(oz HX).rs.frozen 2;clear HV h64;go_wp2_with fail
  exact oz HRR _ _ _ rfl _ _ rfl rfl (kz ((oz HX).put (4,1,64)))
 ·have n1:¬ (64:Int) < (T.sc.length:Int):=by omega
  have HE0:=kz (zZ (list:=1) (show T.sc.length≤64 by omega));clear h64;go_wp2_with fail
  refine oz HKa _ _ ?_;clear HKa Ka z0;have hR:=oz HRR;clear HRR;refine wp_seq_k (fun K1 hK1 =>?_);refine zN (F:=zdE W) (zq rfl) (fun U =>?_);refine zg2 T (oz HT) A W _ (oz HX) U ?_ ?_
  rotate_left
  ·intro y k e hy a wn h1 h2 h3;exact hR y _ k (by rw [← oz HV,ze (by rw [oz HE0]),zj (by rw [e];exact hy),e]) a wn h1 h2 h3
  intro E1 a w1 ⟨U1,hU⟩ hx;subst hU;have HX1:=kz (oz hx).rx;clear hx HX;refine hK1 _ _ ?_;clear hK1 K1;have HV1:Hz (orW (zea T)=mb):=kz (by
   rw [← oz HV,ze (by rw [oz HE0]),ze (by rw [E1]),Jv (jJ _)])
  have HQ:=kz (LqS.start (oz HX1));have HRR:=kz hR;have HLQ:=kz (zkE (oz HT));clear hR HV HE0 E1;unfold zdE;have z1:=(oz HX1).tb.z1;have z2:=(oz HX1).tb.z2;have z3:=(oz HX1).tb.z3;have z4:=(oz HX1).tb.z4;have z5:=(oz HX1).tb.z5;have z6:=(oz HX1).tb.z6;have z7:=(oz HX1).tb.z7;go_wp2_with fail
  obtain ⟨g,hg⟩:∃ g,g=w1.heap.size:=⟨_,rfl⟩;rw [← hg] at HQ ⊢;generalize (w1.alloc _).alloc _=w2 at *;clear z1 z2 z3 z4 z5 z6 z7 hg HX1;go_loopw [6] (fun i wr => ∃ k:Nat,k≤7∧i=.int .i64 k∧Hz (∀ j,j < k→(zbl T).getD j 0≤mostQ.getD j 0)∧Hz (LqS W wr g T A)) (fun i _ =>7 - (intOf i).toNat)
  case atStart =>exact ⟨0,by omega,rfl,kz (fun j h =>absurd h (by omega)),HQ⟩
  case round =>
   clear HQ;obtain ⟨k,hk,rfl,HI,HQ⟩:=hrel;by_cases hk7:k < 7
   ·have k1:(k:Int) < 7:=by omega
    have k2:=Zp k
    have c0:=zjj (oz HQ).bl k hk7;have c1:=zjd (oz HQ).bm k hk7;obtain ⟨hl1,hl2⟩:=oz HLQ k;have HBD:Hz (mostQ.getD k 0 < (zbl T).getD k 0→orW (zea T)=(4,2+(k:Int),((mostQ.getD k 0:Nat):Int))):=kz (fun e =>zhR hk7 (oz HI) e);have HLE:Hz ((zbl T).getD k 0≤mostQ.getD k 0→∀ j,j < k+1→(zbl T).getD j 0≤mostQ.getD j 0):=kz (fun e j hj =>by
     by_cases ej:j=k
     ·rw [ej];exact e
     ·exact oz HI j (by omega))
    generalize (zbl T).getD k 0=a1 at *;generalize mostQ.getD k 0=b1 at *;have y0:=zP c0;have y1:=zP c1;clear HI;by_cases hab:b1 < a1
    ·have n2:(b1:Int) < (a1:Int):=by omega
     have hm:mb=(4,2+(k:Int),(b1:Int)):=by rw [← oz HV1];exact oz HBD hab
     subst hm;clear HBD HLE HV1 hab;go_wp2_with fail
     refine JG (by kernel_rfl) (by kernel_rfl) ?_;repeat (go_big_quiet_step (fail))
     first | refine wpQuiet_nil ?_ | skip
     rintro w' ⟨p,rfl⟩;have HBq:=kz (Xu wr p.d p.os);generalize Go.Sort.grow (redrawn wr p.d) p.os=w1 at *;have HQ2:=kz ((oz HQ).below (oz HBq));have d1:=yZ c1 (oz HBq) ((YG c1));clear y0 y1 HQ c0 c1;have r0:=(oz HQ2).rx.rs.cell 0;have f0:=(oz HQ2).rx.rs.frozen 0;have r1:=(oz HQ2).rx.rs.cell 1;have f1:=(oz HQ2).rx.rs.frozen 1;have r2:=(oz HQ2).rx.rs.cell 2;have f2:=(oz HQ2).rx.rs.frozen 2;go_wp2_with fail
     exact oz HRR _ _ _ rfl _ _ rfl rfl (kz ((oz HQ2).rx.put (4,2+(k:Int),(b1:Int))))
    ·have n2:¬ (b1:Int) < (a1:Int):=by omega
     have HI2:=kz (oz HLE (by omega));clear HBD HLE hab;go_wp2_with fail
     refine JG (by kernel_rfl) (by kernel_rfl) ?_;repeat (go_big_quiet_step (fail))
     first | refine wpQuiet_nil ?_ | skip
     rintro w' ⟨p,rfl⟩;have HBq:=kz (Xu wr p.d p.os);generalize Go.Sort.grow (redrawn wr p.d) p.os=w1 at *;have HQ2:=kz ((oz HQ).below (oz HBq));clear y0 y1 HQ c0 c1;go_wp2_with fail
     exact ⟨⟨k+1,by omega,by first | rfl | go_num,HI2,HQ2⟩,by simp [intOf];omega⟩
   ·have k1:¬ (k:Int) < 7:=by omega
    have hm:mb=(0,0,0):=by
     rw [← oz HV1];exact zjl (fun j hj =>oz HI j (by omega))
    subst hm;clear HI HV1;have r0:=(oz HQ).rx.rs.cell 0;have f0:=(oz HQ).rx.rs.frozen 0;have r1:=(oz HQ).rx.rs.cell 1;have f1:=(oz HQ).rx.rs.frozen 1;have r2:=(oz HQ).rx.rs.cell 2;have f2:=(oz HQ).rx.rs.frozen 2;go_wp2_with fail
    exact oz HRR _ _ _ rfl _ _ rfl rfl (kz ((oz HQ).rx.put (0,0,0)))
end Go.Proofs.YthchopdfmchpkaaGreat
