/- Texts of this claim, one behind the other. -/
import Derived.Test.YthchopdfmchpkaaGreatM8
namespace Go.Proofs.YthchopdfmchpkaaGreat
open Go.RowKit Go.Shelf
set_option linter.unusedVariables false
set_option maxRecDepth 100000
set_option maxHeartbeats 8000000
theorem Zk (w:World) (x:Obj):Below w.heap.size w (w.alloc x):=(Below.refl _ w).alloc zD _
theorem Z8 {r:Int}:r ∈ labL ↔ r=45∨(48≤r∧r≤57)∨(97≤r∧r≤122):=by
 unfold labL;rw [List.mem_append,List.mem_map];constructor
 ·rintro (h | ⟨k,hk,rfl⟩)
  ·simp at h;omega
  ·have:=List.mem_range.1 hk;omega
 ·intro h;by_cases h2:97≤r
  ·exact .inr ⟨(r - 97).toNat,List.mem_range.2 (by omega),by omega⟩
  ·refine .inl ?_;simp;omega
theorem zb9 {x:Int × Int} {r:Int} (h0:0≤r) (h1:r < 128) (h2:x.1≤r) (h3:r≤x.2) (h4:Q7 r=false):alF x=5:=by
 unfold alF;rw [if_pos (List.any_eq_true.2 ⟨r.toNat,List.mem_range.2 (by omega),by rw [show ((r.toNat:Nat):Int)=r by omega,h4,JS ⟨h2,h3⟩];rfl⟩)]
theorem ziC {x:Int × Int} (h:∀ q,x.1≤q→q≤x.2→0≤q→q < 128→Q7 q=true):alF x=0:=by
 unfold alF;rw [if_neg];intro e;obtain ⟨k,hk,e⟩:=List.any_eq_true.1 e;have hk:=List.mem_range.1 hk;rw [Bool.and_eq_true] at e;have e1:=of_decide_eq_true e.1;rw [h k e1.1 e1.2 (by omega) (by omega)] at e;simp at e
def ZB (W:World) (U:Nat→Value):Act:={ tmps:=#[U 0,.pointer (some ⟨W.heap.size,0,none⟩),.pointer (some ⟨W.heap.size+1,0,none⟩),U 3,U 4,U 5,U 6,U 7,U 8,U 9,U 10,U 11,U 12,U 13,U 14,U 15,U 16,U 17,U 18,U 19,U 20,U 21,U 22,U 23,U 24,U 25,U 26,U 27,U 28,U 29,U 30,U 31,U 32,U 33,U 34,U 35,U 36,U 37,U 38,U 39,U 40,U 41,U 42,U 43,U 44,U 45,U 46,U 47,U 48,U 49,U 50,U 51,U 52,U 53,U 54,U 55,U 56,U 57,U 58,U 59,U 60,U 61,U 62,U 63,U 64,U 65,U 66,U 67,U 68,U 69,U 70,U 71,U 72,U 73,U 74,U 75,U 76,U 77,U 78,U 79,U 80,U 81,U 82,U 83,U 84,U 85,U 86,U 87,U 88,U 89,U 90,U 91,U 92,U 93,U 94,U 95,U 96,U 97,U 98,U 99,U 100,U 101,U 102,U 103,U 104,U 105,U 106,U 107,U 108,U 109,U 110,U 111,U 112,U 113,U 114,U 115,U 116,U 117,U 118,U 119,U 120,U 121],defers := [] }
noncomputable def uaHb:Code:=match Tryz.f67.body with
 | some (.seq _ (.seq _ (.seq _ (.seq c _)))) =>c
 | _ =>.skip
theorem zg5 (T:TV) (hT:TabB T) (A:TbA) (W w:World)  (h:RxS W w T A) (U:Nat→Value) {Q:Exit→Act→World→Prop}
  (hN:zg 7 T.dr ma0 (drF)=(0,0,0)→∀ (a:Act) (wn:World),(∃ U',a=ZB W U')→Hz (RxT W w wn T A)→Q .normal a wn)
  (hR:∀ (y k:Int),zg 7 T.dr ma0 (drF)=(y,7,k)→y≠0→∀ (a:Act) (wn:World),a.tmps.getD 2 undef=.pointer (some ⟨W.heap.size+1,0,none⟩)→a.defers=[]→Hz (RxD W wn (y,7,k))→Q .ret a wn) :
  Code.wp Tryz.prog uaHb Q (ZB W U) w:=by
 have HN:=kz hN;have HR:=kz hR;have HX:=kz (RxT.refl h);have hln:=hT.n6;clear hN hR h
 delta uaHb Tryz.f67 ZB at *
 dsimp only;go_wp2_with fail
 go_loopw [4] (fun i wr => ∃ k:Nat,k≤T.dr.length∧i=.int .i64 k∧Hz (OkTo T.dr ma0 (drF) k)∧Hz (RxT W w wr T A)) (fun i _ =>T.dr.length - (intOf i).toNat)
 case atStart =>exact ⟨0,Zn _,rfl,kz (OkTo.zero _ _ _),HX⟩
 case round =>
  clear HX;obtain ⟨k,hk,rfl,HO,HX⟩:=hrel;by_cases hkn:k < T.dr.length
  ·obtain ⟨x,hx⟩:∃ x,T.dr[k]?=some x:=⟨_,qR hkn⟩;obtain ⟨g,o,ea,hg,c0,c1⟩:=zim (oz HX).rx.tb.ti.r6 hx;have HK:=kz hx;have HG:=kz hg;have k1:(k:Int) < (T.dr.length:Int):=by omega
   have k2:=Zp k
   have zz:=(oz HX).rx.tb.z6;rw [ea] at zz;clear hg hx;by_cases h1:x.1 < 128
   ·have hf:drF x=5:=by unfold drF;exact if_pos (by omega)
    have HE:=kz ((oz HO).bad (oz HK) 7 (by rw [hf];decide));rw [hf] at HE;clear hf HO HK;clear ea;have r0:=(oz HX).rx.rs.cell 0;have f0:=(oz HX).rx.rs.frozen 0;have r1:=(oz HX).rx.rs.cell 1;have f1:=(oz HX).rx.rs.frozen 1;have r2:=(oz HX).rx.rs.cell 2;have f2:=(oz HX).rx.rs.frozen 2;go_wp2_with fail
    exact oz HR _ _ (oz HE) (by decide) _ _ rfl rfl (kz ((oz HX).put _ _ _))
   ·by_cases h2:x.1≤65533
    ·by_cases h3:65533≤x.2
     ·have hf:drF x=5:=by unfold drF;exact if_pos (by omega)
      have HE:=kz ((oz HO).bad (oz HK) 7 (by rw [hf];decide));rw [hf] at HE;clear hf HO HK;clear ea;have r0:=(oz HX).rx.rs.cell 0;have f0:=(oz HX).rx.rs.frozen 0;have r1:=(oz HX).rx.rs.cell 1;have f1:=(oz HX).rx.rs.frozen 1;have r2:=(oz HX).rx.rs.cell 2;have f2:=(oz HX).rx.rs.frozen 2;go_wp2_with fail
      exact oz HR _ _ (oz HE) (by decide) _ _ rfl rfl (kz ((oz HX).put _ _ _))
     ·have hf:drF x=0:=by unfold drF;exact if_neg (by omega)
      have HO2:=kz ((oz HO).next (oz HK) hf);clear hf HO HK;clear ea;go_wp2_with fail
      exact ⟨⟨k+1,by omega,by first | rfl | go_num,HO2,HX⟩,by simp [intOf];omega⟩
    ·have hf:drF x=0:=by unfold drF;exact if_neg (by omega)
     have HO2:=kz ((oz HO).next (oz HK) hf);clear hf HO HK;clear ea;go_wp2_with fail
     exact ⟨⟨k+1,by omega,by first | rfl | go_num,HO2,HX⟩,by simp [intOf];omega⟩
  ·have k1:¬ (k:Int) < (T.dr.length:Int):=by omega
   have zz:=(oz HX).rx.tb.z6;have HE:=kz ((oz HO).ok (by omega) 7);clear HO HR;go_wp2_with fail
   exact oz HN (oz HE) _ _ (zq rfl) HX
noncomputable def uaHc:Code:=match Tryz.f67.body with
 | some (.seq _ (.seq _ (.seq _ (.seq _ (.seq c _))))) =>c
 | _ =>.skip
theorem zg4 (T:TV) (hT:TabB T) (A:TbA) (W w:World) (hO:zx T)  (h:RxS W w T A) (U:Nat→Value) {Q:Exit→Act→World→Prop}
  (hN:zg 8 T.al ma0 (alF)=(0,0,0)→∀ (a:Act) (wn:World),(∃ U',a=ZB W U')→Hz (RxT W w wn T A)→Q .normal a wn)
  (hR:∀ (y k:Int),zg 8 T.al ma0 (alF)=(y,8,k)→y≠0→∀ (a:Act) (wn:World),a.tmps.getD 2 undef=.pointer (some ⟨W.heap.size+1,0,none⟩)→a.defers=[]→Hz (RxD W wn (y,8,k))→Q .ret a wn) :
  Code.wp Tryz.prog uaHc Q (ZB W U) w:=by
 have HN:=kz hN;have HR:=kz hR;have HX:=kz (RxT.refl h);have hln:=hT.n7;have HZ:=kz (fun x (hx:x ∈ T.al) =>hO.f7 x hx);clear hN hR h
 delta uaHc Tryz.f67 ZB at *
 dsimp only;go_wp2_with fail
 go_loopw [5] (fun i wr => ∃ k:Nat,k≤T.al.length∧i=.int .i64 k∧Hz (OkTo T.al ma0 (alF) k)∧Hz (RxT W w wr T A)) (fun i _ =>T.al.length - (intOf i).toNat)
 case atStart =>exact ⟨0,Zn _,rfl,kz (OkTo.zero _ _ _),HX⟩
 case round =>
  clear HX;obtain ⟨k,hk,rfl,HO,HX⟩:=hrel;by_cases hkn:k < T.al.length
  ·obtain ⟨x,hx⟩:∃ x,T.al[k]?=some x:=⟨_,qR hkn⟩;obtain ⟨g,o,ea,hg,c0,c1⟩:=zim (oz HX).rx.tb.ti.r7 hx;have HK:=kz hx;have HG:=kz hg;have k1:(k:Int) < (T.al.length:Int):=by omega
   have k2:=Zp k
   have zz:=(oz HX).rx.tb.z7;rw [ea] at zz;clear hg hx;have he:=zr ((oz HZ) x (YH (oz HK))).1;obtain ⟨⟨he1,he2,_⟩,⟨he3,he4,_⟩⟩:=he;clear HZ ea;go_wp2_with fail
   obtain ⟨wq,hwq⟩:∃ wq,wq=wr:=⟨_,rfl⟩;subst hwq;go_loopw [6] (fun jv wi => ∃ r:Int,x.1≤r∧r≤1114112∧jv=.int .i32 r∧Hz (∀ q,x.1≤q→q < r→Q7 q=true)∧wi=wq) (fun jv _ =>128 - (intOf jv).toNat)
   case atStart =>exact ⟨x.1,by omega,by omega,rfl,kz (fun q h1 h2 =>by omega),rfl⟩
   case round =>
    obtain ⟨r,hr0,hr1,rfl,HI,rfl⟩:=hrel;by_cases h1:r≤x.2
    ·by_cases h2:r < 128
     ·by_cases h3:r=45
      ·subst h3;have HI2:Hz (∀ q,x.1≤q→q < 46→Q7 q=true):=kz (fun q h1 h2 =>by
        by_cases e:q=45
        ·rw [e];decide
        ·exact oz HI q h1 (by omega))
       clear HI;go_wp2_with fail
       exact ⟨⟨46,by omega,by omega,by first | rfl | go_num,HI2,by first | trivial | rfl⟩,by simp [intOf] <;> omega⟩
      ·have n3:(r == 45)=false:=by simpa using h3
       by_cases h4:r < 48
       ·have hf:alF x=5:=zb9 (r:=r) (by omega) (by omega) (by omega) (by omega) (by unfold Q7;exact Zq (by omega));have HE:=kz ((oz HO).bad (oz HK) 8 (by rw [hf];decide));rw [hf] at HE;clear hf HO HK HI;have r0:=(oz HX).rx.rs.cell 0;have f0:=(oz HX).rx.rs.frozen 0;have r1:=(oz HX).rx.rs.cell 1;have f1:=(oz HX).rx.rs.frozen 1;have r2:=(oz HX).rx.rs.cell 2;have f2:=(oz HX).rx.rs.frozen 2;go_wp2_with fail
        exact oz HR _ _ (oz HE) (by decide) _ _ rfl rfl (kz ((oz HX).put _ _ _))
       ·by_cases h5:57 < r
        ·by_cases h6:r < 97
         ·have hf:alF x=5:=zb9 (r:=r) (by omega) (by omega) (by omega) (by omega) (by unfold Q7;exact Zq (by omega));have HE:=kz ((oz HO).bad (oz HK) 8 (by rw [hf];decide));rw [hf] at HE;clear hf HO HK HI;have r0:=(oz HX).rx.rs.cell 0;have f0:=(oz HX).rx.rs.frozen 0;have r1:=(oz HX).rx.rs.cell 1;have f1:=(oz HX).rx.rs.frozen 1;have r2:=(oz HX).rx.rs.cell 2;have f2:=(oz HX).rx.rs.frozen 2;go_wp2_with fail
          exact oz HR _ _ (oz HE) (by decide) _ _ rfl rfl (kz ((oz HX).put _ _ _))
         ·by_cases h7:122 < r
          ·have hf:alF x=5:=zb9 (r:=r) (by omega) (by omega) (by omega) (by omega) (by unfold Q7;exact Zq (by omega));have HE:=kz ((oz HO).bad (oz HK) 8 (by rw [hf];decide));rw [hf] at HE;clear hf HO HK HI;have r0:=(oz HX).rx.rs.cell 0;have f0:=(oz HX).rx.rs.frozen 0;have r1:=(oz HX).rx.rs.cell 1;have f1:=(oz HX).rx.rs.frozen 1;have r2:=(oz HX).rx.rs.cell 2;have f2:=(oz HX).rx.rs.frozen 2;go_wp2_with fail
           exact oz HR _ _ (oz HE) (by decide) _ _ rfl rfl (kz ((oz HX).put _ _ _))
          ·have HI2:Hz (∀ q,x.1≤q→q < r+1→Q7 q=true):=kz (fun q h1 h2 =>by
            by_cases e:q=r
            ·rw [e];unfold Q7;exact JS (by omega)
            ·exact oz HI q h1 (by omega))
           clear HI;go_wp2_with fail
           exact ⟨⟨r+1,by omega,by omega,by first | rfl | go_num,HI2,by first | trivial | rfl⟩,by simp [intOf] <;> omega⟩
        ·have HI2:Hz (∀ q,x.1≤q→q < r+1→Q7 q=true):=kz (fun q h1 h2 =>by
          by_cases e:q=r
          ·rw [e];unfold Q7;exact JS (by omega)
          ·exact oz HI q h1 (by omega))
         clear HI;go_wp2_with fail
         exact ⟨⟨r+1,by omega,by omega,by first | rfl | go_num,HI2,by first | trivial | rfl⟩,by simp [intOf] <;> omega⟩
     ·have HF:Hz (alF x=0):=kz (ziC (fun q h1 h2 h3 h4 =>oz HI q h1 (by omega)));have HO2:=kz ((oz HO).next (oz HK) (oz HF));clear HO HK HI HF;go_wp2_with fail
      exact ⟨⟨k+1,by omega,by first | rfl | go_num,HO2,HX⟩,by simp [intOf];omega⟩
    ·have HF:Hz (alF x=0):=kz (ziC (fun q h1 h2 h3 h4 =>oz HI q h1 (by omega)));have HO2:=kz ((oz HO).next (oz HK) (oz HF));clear HO HK HI HF;go_wp2_with fail
     exact ⟨⟨k+1,by omega,by first | rfl | go_num,HO2,HX⟩,by simp [intOf];omega⟩
  ·have k1:¬ (k:Int) < (T.al.length:Int):=by omega
   have zz:=(oz HX).rx.tb.z7;have HE:=kz ((oz HO).ok (by omega) 8);clear HO HR;go_wp2_with fail
   exact oz HN (oz HE) _ _ (zq rfl) HX
noncomputable def uaHd:Code:=match Tryz.f67.body with
 | some (.seq _ (.seq _ (.seq _ (.seq _ (.seq _ (.seq c _)))))) =>c
 | _ =>.skip
theorem zg3 (T:TV) (hT:TabB T) (A:TbA) (W w:World) (h:RxS W w T A) (U:Nat→Value) {Q:Exit→Act→World→Prop}
  (hN:jM 8 T.al labL=(0,0,0)→∀ (a:Act) (wn:World),(∃ U',a=ZB W U')→Hz (RxT W w wn T A)→Q .normal a wn)
  (hR:∀ (y k:Int),jM 8 T.al labL=(y,8,k)→y≠0→∀ (a:Act) (wn:World),a.tmps.getD 2 undef=.pointer (some ⟨W.heap.size+1,0,none⟩)→a.defers=[]→Hz (RxD W wn (y,8,k))→Q .ret a wn) :
  Code.wp Tryz.prog uaHd Q (ZB W U) w:=by
 have HN:=kz hN;have HR:=kz hR;have HX:=kz (RxT.refl h);have HO:=kz (fun r b (hb:zi T.al r=b) a c w (hv:RowC w w.heap.size a (zM T.al)) =>by have:=XM T.al hT.n7 a c r w hv;rwa [hb] at this);clear hN hR h hT
 delta uaHd Tryz.f67 ZB at *
 dsimp only;go_wp2_with fail
 go_loopw [7] (fun i wr => ∃ r:Int,45≤r∧r≤123∧i=.int .i32 r∧Hz (∀ q,45≤q→q < r→(q=45∨(48≤q∧q≤57)∨(97≤q∧q≤122))→zi T.al q=true)∧Hz (RxT W w wr T A)) (fun i _ =>123 - (intOf i).toNat)
 case atStart =>exact ⟨45,by omega,by omega,rfl,kz (fun q h1 h2 _ =>by omega),HX⟩
 case round =>
  clear HX;obtain ⟨r,hr0,hr1,rfl,HI,HX⟩:=hrel;have zz:=(oz HX).rx.tb.z7;by_cases hr2:r≤122
  ·by_cases h45:r=45
   ·subst h45;cases hm:zi T.al 45 with
    | false =>
     have HE:Hz (jM 8 T.al labL=(5,8,0)):=kz (Qo (Z8.2 (by omega)) hm);have HOc:=kz (oz HO 45 _ hm A.a7 A.c7 wr ((oz HX).rx.tb.ti.r7));clear HI HO hm;go_wp2_with fail
     refine (oz HOc).mono ?_;rintro e wx ⟨rfl,hw⟩;rw [hw];clear hw wx HOc;have r0:=(oz HX).rx.rs.cell 0;have f0:=(oz HX).rx.rs.frozen 0;have r1:=(oz HX).rx.rs.cell 1;have f1:=(oz HX).rx.rs.frozen 1;have r2:=(oz HX).rx.rs.cell 2;have f2:=(oz HX).rx.rs.frozen 2;go_wp2_with fail
     exact oz HR _ _ (oz HE) (by decide) _ _ rfl rfl (kz ((oz HX).put _ _ _))
    | true =>
     have HI2:Hz (∀ q,45≤q→q < 46→(q=45∨(48≤q∧q≤57)∨(97≤q∧q≤122))→zi T.al q=true):=kz (fun q h1 h2 h3 =>by
      by_cases e:q=45
      ·rw [e];exact hm
      ·exact oz HI q h1 (by omega) h3)
     have HOc:=kz (oz HO 45 _ hm A.a7 A.c7 wr ((oz HX).rx.tb.ti.r7));clear HI HO hm;go_wp2_with fail
     refine (oz HOc).mono ?_;rintro e wx ⟨rfl,hw⟩;rw [hw];clear hw wx HOc;go_wp2_with fail
     exact ⟨⟨46,by omega,by omega,by first | rfl | go_num,HI2,HX⟩,by simp [intOf] <;> omega⟩
   ·have n45:(r == 45)=false:=by simpa using h45
    by_cases h1:r < 48
    ·have HI2:Hz (∀ q,45≤q→q < r+1→(q=45∨(48≤q∧q≤57)∨(97≤q∧q≤122))→zi T.al q=true):=kz (fun q h1 h2 h3 =>by
      by_cases e:q=r
      ·exact absurd h3 (by omega)
      ·exact oz HI q h1 (by omega) h3)
     clear HI;go_wp2_with fail
     exact ⟨⟨r+1,by omega,by omega,by first | rfl | go_num,HI2,HX⟩,by simp [intOf] <;> omega⟩
    ·by_cases h2:r≤57
     ·cases hm:zi T.al r with
      | false =>
       have HE:Hz (jM 8 T.al labL=(5,8,0)):=kz (Qo (Z8.2 (by omega)) hm);have HOc:=kz (oz HO r _ hm A.a7 A.c7 wr ((oz HX).rx.tb.ti.r7));clear HI HO hm;go_wp2_with fail
       refine (oz HOc).mono ?_;rintro e wx ⟨rfl,hw⟩;rw [hw];clear hw wx HOc;have r0:=(oz HX).rx.rs.cell 0;have f0:=(oz HX).rx.rs.frozen 0;have r1:=(oz HX).rx.rs.cell 1;have f1:=(oz HX).rx.rs.frozen 1;have r2:=(oz HX).rx.rs.cell 2;have f2:=(oz HX).rx.rs.frozen 2;go_wp2_with fail
       exact oz HR _ _ (oz HE) (by decide) _ _ rfl rfl (kz ((oz HX).put _ _ _))
      | true =>
       have HI2:Hz (∀ q,45≤q→q < r+1→(q=45∨(48≤q∧q≤57)∨(97≤q∧q≤122))→zi T.al q=true):=kz (fun q h1 h2 h3 =>by
        by_cases e:q=r
        ·rw [e];exact hm
        ·exact oz HI q h1 (by omega) h3)
       have HOc:=kz (oz HO r _ hm A.a7 A.c7 wr ((oz HX).rx.tb.ti.r7));clear HI HO hm;go_wp2_with fail
       refine (oz HOc).mono ?_;rintro e wx ⟨rfl,hw⟩;rw [hw];clear hw wx HOc;go_wp2_with fail
       exact ⟨⟨r+1,by omega,by omega,by first | rfl | go_num,HI2,HX⟩,by simp [intOf];omega⟩
     ·by_cases h3:97≤r
      ·cases hm:zi T.al r with
       | false =>
        have HE:Hz (jM 8 T.al labL=(5,8,0)):=kz (Qo (Z8.2 (by omega)) hm);have HOc:=kz (oz HO r _ hm A.a7 A.c7 wr ((oz HX).rx.tb.ti.r7));clear HI HO hm;go_wp2_with fail
        refine (oz HOc).mono ?_;rintro e wx ⟨rfl,hw⟩;rw [hw];clear hw wx HOc;have r0:=(oz HX).rx.rs.cell 0;have f0:=(oz HX).rx.rs.frozen 0;have r1:=(oz HX).rx.rs.cell 1;have f1:=(oz HX).rx.rs.frozen 1;have r2:=(oz HX).rx.rs.cell 2;have f2:=(oz HX).rx.rs.frozen 2;go_wp2_with fail
        exact oz HR _ _ (oz HE) (by decide) _ _ rfl rfl (kz ((oz HX).put _ _ _))
       | true =>
        have HI2:Hz (∀ q,45≤q→q < r+1→(q=45∨(48≤q∧q≤57)∨(97≤q∧q≤122))→zi T.al q=true):=kz (fun q h1 h2 h3 =>by
         by_cases e:q=r
         ·rw [e];exact hm
         ·exact oz HI q h1 (by omega) h3)
        have HOc:=kz (oz HO r _ hm A.a7 A.c7 wr ((oz HX).rx.tb.ti.r7));clear HI HO hm;go_wp2_with fail
        refine (oz HOc).mono ?_;rintro e wx ⟨rfl,hw⟩;rw [hw];clear hw wx HOc;go_wp2_with fail
        exact ⟨⟨r+1,by omega,by omega,by first | rfl | go_num,HI2,HX⟩,by simp [intOf];omega⟩
      ·have HI2:Hz (∀ q,45≤q→q < r+1→(q=45∨(48≤q∧q≤57)∨(97≤q∧q≤122))→zi T.al q=true):=kz (fun q h1 h2 h3 =>by
        by_cases e:q=r
        ·exact absurd h3 (by omega)
        ·exact oz HI q h1 (by omega) h3)
       clear HI;go_wp2_with fail
       exact ⟨⟨r+1,by omega,by omega,by first | rfl | go_num,HI2,HX⟩,by simp [intOf] <;> omega⟩
  ·have HE:Hz (jM 8 T.al labL=(0,0,0)):=kz (zfd (fun q hq =>by
    have:=Z8.1 hq;exact oz HI q (by omega) (by omega) this))
   clear HI HR;go_wp2_with fail
   exact oz HN (oz HE) _ _ (zq rfl) HX
theorem zf9 (T:TV):XK T=if (orW [jM 2 T.co comL,zg 3 T.ma ma0 Kx,zg 4 T.pr pr0 Kw,zg 5 T.fo mp0 ZO,zg 6 T.lk mp0 Qx]).1=0 then orW [zg 7 T.dr ma0 drF,zg 8 T.al ma0 alF,jM 8 T.al labL] else orW [jM 2 T.co comL,zg 3 T.ma ma0 Kx,zg 4 T.pr pr0 Kw,zg 5 T.fo mp0 ZO,zg 6 T.lk mp0 Qx]:=yM [jM 2 T.co comL,zg 3 T.ma ma0 Kx,zg 4 T.pr pr0 Kw,zg 5 T.fo mp0 ZO,zg 6 T.lk mp0 Qx] [zg 7 T.dr ma0 drF,zg 8 T.al ma0 alF,jM 8 T.al labL]
theorem zco (T:TV) (hT:TabB T) (hO:zx T) (v:Value) (W:World) (hv:TbV W T v) :
  Calls Tryz.prog 67 #[v] W fun e w' =>e=.returned (wrV (XK T))∧Below W.heap.size W w':=by
 obtain ⟨A,rfl,hA⟩:=hv;have HX:=kz (RxS.start hA);have HT:=kz hT;have HO:=kz hO;have HV:∃ mb,Hz (orW [zg 7 T.dr ma0 drF,zg 8 T.al ma0 alF,jM 8 T.al labL]=mb):=⟨_,kz rfl⟩;obtain ⟨mb,HV⟩:=HV;have HC:=kz (fun w (hv:TbV w T (.agg #[.slice A.a0 T.sc.length A.c0,.slice A.a1 T.co.length A.c1,.slice A.a2 T.ma.length A.c2,.slice A.a3 T.pr.length A.c3,.slice A.a4 T.fo.length A.c4,.slice A.a5 T.lk.length A.c5,.slice A.a6 T.dr.length A.c6,.slice A.a7 T.al.length A.c7])) =>zdY T hT hO _ w hv);rw [zf9,oz HV];obtain ⟨x0,x1,x2,hx⟩:∃ x0 x1 x2,orW [jM 2 T.co comL,zg 3 T.ma ma0 Kx,zg 4 T.pr pr0 Kw,zg 5 T.fo mp0 ZO,zg 6 T.lk mp0 Qx]=(x0,x1,x2):=⟨_,_,_,rfl⟩;have HOK:Hz (x0=0→(x0,x1,x2)=((0:Int),(0:Int),(0:Int))):=kz (fun e =>by have:=jJ [jM 2 T.co comL,zg 3 T.ma ma0 Kx,zg 4 T.pr pr0 Kw,zg 5 T.fo mp0 ZO,zg 6 T.lk mp0 Qx];rw [hx] at this;exact this e);rw [hx] at HC ⊢;dsimp only at HC ⊢;clear hA hT hO hx;by_cases hx0:x0=0
 ·have e:=oz HOK hx0;obtain ⟨rfl,hh⟩:=Prod.mk.inj e;obtain ⟨rfl,rfl⟩:=Prod.mk.inj hh;rw [if_pos rfl];clear HOK e hh hx0;go_enter Tryz.func67,Tryz.ntmps67;refine wp_seq_k (fun K0 hK0 =>?_);have HK0:=kz hK0;clear hK0;go_wp2_with fail
  refine oz HK0 _ _ ?_;clear HK0 K0;generalize (W.alloc _).alloc _=w0 at *;have hR:∀ (y l k:Int),mb=(y,l,k)→∀ (a:Act) (wn:World),a.tmps.getD 2 undef=.pointer (some ⟨W.heap.size+1,0,none⟩)→a.defers=[]→Hz (RxD W wn (y,l,k))→bodyPost Tryz.prog Tryz.f67 (fun e w' =>e=.returned (wrV mb)∧Below W.heap.size W w') .ret a wn:=fun y l k e a wn h1 h2 h3 =>by
   subst e;exact XS (v:=wrV (y,l,k)) (jA Tryz.results67 h1 (oz h3).rs rfl) h2 ⟨rfl,(oz h3).bl⟩
  have HRR:=kz hR;clear hR;have z0:=(oz HX).tb.z0;have z1:=(oz HX).tb.z1;have z2:=(oz HX).tb.z2;have z3:=(oz HX).tb.z3;have z4:=(oz HX).tb.z4;have z5:=(oz HX).tb.z5;have z6:=(oz HX).tb.z6;have z7:=(oz HX).tb.z7;refine wp_seq_k (fun Ka hKa =>?_);have HKa:=kz hKa;clear hKa;go_wp2_with fail
  refine (oz HC _ (oz HX).tb.tv).mono ?_;rintro e w1 ⟨rfl,hb⟩;have HX1:=kz (((oz HX).below hb).below (Zk w1 (.cells #[.int .i64 0,.int .i64 0,.int .i64 0] 89)));have q0:=(Blk.new w1 #[.int .i64 0,.int .i64 0,.int .i64 0] 89).cell 0;clear hb HX HC z0 z1 z2 z3 z4 z5 z6 z7;unfold wrV;go_wp2_with fail
  refine oz HKa _ _ ?_;clear HKa Ka;refine wp_seq_k (fun Kb hKb =>?_);have HKb:=kz hKb;clear hKb;go_wp2_with fail
  refine oz HKb _ _ ?_;clear HKb Kb q0;generalize w1.alloc _=w2 at *;have hR:=oz HRR;clear HRR;refine wp_seq_k (fun K1 hK1 =>?_);refine zN (F:=ZB W) (zq rfl) (fun U =>?_);refine zg5 T (oz HT) A W _ (oz HX1) U ?_ ?_
  rotate_left
  ·intro y k e hy a wn h1 h2 h3;exact hR y _ k (by rw [← oz HV,zj (by rw [e];exact hy),e]) a wn h1 h2 h3
  intro E1 a w1 ⟨U1,hU⟩ hx;subst hU;have HX1:=kz (oz hx).rx;clear hx;refine hK1 _ _ ?_;clear hK1 K1;refine wp_seq_k (fun K2 hK2 =>?_);refine zN (F:=ZB W) ⟨U1,rfl⟩ (fun U =>?_);refine zg4 T (oz HT) A W _ (oz HO) (oz HX1) U ?_ ?_
  rotate_left
  ·intro y k e hy a wn h1 h2 h3;exact hR y _ k (by rw [← oz HV,ze (by rw [E1]),zj (by rw [e];exact hy),e]) a wn h1 h2 h3
  intro E2 a w2 ⟨U2,hU⟩ hx;subst hU;have HX2:=kz (oz hx).rx;clear hx;refine hK2 _ _ ?_;clear hK2 K2;refine wp_seq_k (fun K3 hK3 =>?_);refine zN (F:=ZB W) ⟨U2,rfl⟩ (fun U =>?_);refine zg3 T (oz HT) A W _ (oz HX2) U ?_ ?_
  rotate_left
  ·intro y k e hy a wn h1 h2 h3;exact hR y _ k (by rw [← oz HV,ze (by rw [E1]),ze (by rw [E2]),zj (by rw [e];exact hy),e]) a wn h1 h2 h3
  intro E3 a w3 ⟨U3,hU⟩ hx;subst hU;have HX3:=kz (oz hx).rx;clear hx;refine hK3 _ _ ?_;clear hK3 K3;have hm:mb=(0,0,0):=by
   rw [← oz HV,ze (by rw [E1]),ze (by rw [E2]),ze (by rw [E3])];rfl
  subst hm;clear hR HV E1 E2 E3;refine zN (F:=ZB W) ⟨U3,rfl⟩ (fun U =>?_);unfold ZB;have r0:=(oz HX3).rs.cell 0;have f0:=(oz HX3).rs.frozen 0;have r1:=(oz HX3).rs.cell 1;have f1:=(oz HX3).rs.frozen 1;have r2:=(oz HX3).rs.cell 2;have f2:=(oz HX3).rs.frozen 2;go_wp2_with fail
  exact XS (v:=wrV (0,0,0)) (jA Tryz.results67 rfl (jG (oz HX3).rs _ _ _) rfl) rfl ⟨rfl,((oz HX3).put (0,0,0)).bl⟩
 ·rw [if_neg hx0];have q:(x0 == 0)=false:=by simpa using hx0
  clear HOK HV;go_enter Tryz.func67,Tryz.ntmps67;refine wp_seq_k (fun K0 hK0 =>?_);have HK0:=kz hK0;clear hK0;go_wp2_with fail
  refine oz HK0 _ _ ?_;clear HK0 K0;generalize (W.alloc _).alloc _=w0 at *;have z0:=(oz HX).tb.z0;have z1:=(oz HX).tb.z1;have z2:=(oz HX).tb.z2;have z3:=(oz HX).tb.z3;have z4:=(oz HX).tb.z4;have z5:=(oz HX).tb.z5;have z6:=(oz HX).tb.z6;have z7:=(oz HX).tb.z7;go_wp2_with fail
  refine (oz HC _ (oz HX).tb.tv).mono ?_;rintro e w1 ⟨rfl,hb⟩;have HX1:=kz (((oz HX).below hb).below (Zk w1 (.cells #[.int .i64 x0,.int .i64 x1,.int .i64 x2] 89)));have q0:=(Blk.new w1 #[.int .i64 x0,.int .i64 x1,.int .i64 x2] 89).cell 0;have q1:=(Blk.new w1 #[.int .i64 x0,.int .i64 x1,.int .i64 x2] 89).cell 1;have q2:=(Blk.new w1 #[.int .i64 x0,.int .i64 x1,.int .i64 x2] 89).cell 2;clear hb HX HC z0 z1 z2 z3 z4 z5 z6 z7;unfold wrV;have r0:=(oz HX1).rs.cell 0;have f0:=(oz HX1).rs.frozen 0;have r1:=(oz HX1).rs.cell 1;have f1:=(oz HX1).rs.frozen 1;have r2:=(oz HX1).rs.cell 2;have f2:=(oz HX1).rs.frozen 2;go_wp2_with fail
  exact XS (v:=wrV (x0,x1,x2)) (jA Tryz.results67 rfl (jG (oz HX1).rs _ _ _) rfl) rfl ⟨rfl,((oz HX1).put (x0,x1,x2)).bl⟩
set_option maxRecDepth 100000
set_option maxHeartbeats 8000000
structure CkS (W w:World) (B:Nat) (T:TV) (A:TbA) (x:Int × Int × Int):Prop where
 bl:Below W.heap.size W w
 bx:Blk w W.heap.size #[.slice A.a0 T.sc.length A.c0,.slice A.a1 T.co.length A.c1,.slice A.a2 T.ma.length A.c2,.slice A.a3 T.pr.length A.c3,.slice A.a4 T.fo.length A.c4,.slice A.a5 T.lk.length A.c5,.slice A.a6 T.dr.length A.c6,.slice A.a7 T.al.length A.c7] 31
 rs:Blk w (W.heap.size+1) #[.int .i64 0,.int .i64 0,.int .i64 0] 89
 bw:Blk w B (wrC x) 89
 lo:W.heap.size+2≤B
section
variable {W w w':World} {B:Nat} {T:TV} {A:TbA} {x:Int × Int × Int}
theorem CkS.below (h:CkS W w B T A x) (hb:Below w.heap.size w w'):CkS W w' B T A x:=⟨h.bl.trans (hb.mono h.bl.size),h.bx.below hb h.bx.lt,h.rs.below hb h.rs.lt,h.bw.below hb h.bw.lt,h.lo⟩
theorem CkS.rx (h:CkS W w B T A x) (hT:Yb W T A):RxS W w T A:=⟨⟨h.bl,h.bx,hT.lower h.bl⟩,h.rs⟩
theorem CkS.put (h:CkS W w B T A x) (y:Int × Int × Int):CkS W (((w.setCell ⟨B,0,none⟩ (.int .i64 y.1)).setCell ⟨B,1,none⟩ (.int .i64 y.2.1)).setCell ⟨B,2,none⟩ (.int .i64 y.2.2)) B T A y :=
 have hl:=h.lo
 ⟨zY h.bl (by omega) h.bl.size _ _ _,((h.bx.other (by omega) _).other (by omega) _).other (by omega) _,((h.rs.other (by omega) _).other (by omega) _).other (by omega) _,jG h.bw _ _ _,hl⟩
theorem CkS.end (h:CkS W w B T A x):RxD W (((w.setCell ⟨W.heap.size+1,0,none⟩ (.int .i64 x.1)).setCell ⟨W.heap.size+1,1,none⟩ (.int .i64 x.2.1)).setCell ⟨W.heap.size+1,2,none⟩ (.int .i64 x.2.2)) x :=
 ⟨zY h.bl (by omega) h.bl.size _ _ _,jG h.rs _ _ _⟩
theorem CkS.start {w1:World} (h:RxS W w1 T A) (x:Int × Int × Int):CkS W (w1.alloc (.cells (wrC x) 89)) w1.heap.size T A x :=
 have hb:=Zk w1 (.cells (wrC x) 89);have hs:=h.rs.lt
 ⟨(h.below hb).tb.bl,(h.below hb).tb.bx,(h.below hb).rs,Blk.new _ _ _,by omega⟩
end
def jV (W:World) (v5:Value) (U:Nat→Value):Act:={ tmps:=#[U 0,.pointer (some ⟨W.heap.size,0,none⟩),.pointer (some ⟨W.heap.size+1,0,none⟩),U 3,U 4,v5,U 6,U 7,U 8,U 9,U 10,U 11,U 12,U 13,U 14,U 15,U 16,U 17,U 18,U 19,U 20,U 21,U 22,U 23,U 24,U 25,U 26,U 27,U 28,U 29,U 30,U 31,U 32,U 33,U 34,U 35,U 36,U 37,U 38,U 39,U 40,U 41,U 42,U 43,U 44,U 45,U 46,U 47,U 48,U 49,U 50,U 51,U 52,U 53,U 54,U 55,U 56,U 57,U 58,U 59,U 60,U 61,U 62,U 63,U 64,U 65,U 66,U 67,U 68,U 69,U 70,U 71,U 72,U 73,U 74,U 75,U 76,U 77,U 78,U 79,U 80,U 81,U 82,U 83,U 84,U 85,U 86,U 87,U 88,U 89,U 90,U 91,U 92,U 93,U 94,U 95,U 96,U 97,U 98,U 99,U 100,U 101,U 102,U 103,U 104,U 105,U 106,U 107,U 108,U 109,U 110,U 111,U 112,U 113,U 114,U 115,U 116,U 117,U 118,U 119,U 120,U 121,U 122,U 123,U 124,U 125,U 126],defers := [] }
noncomputable def uaFa:Code:=match Tryz.f62.body with
 | some (.seq _ (.seq c _)) =>c
 | _ =>.skip
theorem zhc (T:TV) (hT:TabB T) (A:TbA) (W w:World) (v5:Value)  (h:RxS W w T A) (U:Nat→Value) {Q:Exit→Act→World→Prop}
  (hN:zg 1 T.sc sc0 (scF)=(0,0,0)→∀ (a:Act) (wn:World),(∃ U',a=jV W v5 U')→Hz (RxT W w wn T A)→Q .normal a wn)
  (hR:∀ (y k:Int),zg 1 T.sc sc0 (scF)=(y,1,k)→y≠0→∀ (a:Act) (wn:World),a.tmps.getD 2 undef=.pointer (some ⟨W.heap.size+1,0,none⟩)→a.defers=[]→Hz (RxD W wn (y,1,k))→Q .ret a wn) :
  Code.wp Tryz.prog uaFa Q (jV W v5 U) w:=by
 have HN:=kz hN;have HR:=kz hR;have HX:=kz (RxT.refl h);have hln:=hT.n0;have HZ:=kz hT.z0;clear hN hR h
 delta uaFa Tryz.f62 jV at *
 dsimp only;go_wp2_with fail
 go_loopw [3] (fun i wr => ∃ k:Nat,k≤T.sc.length∧i=.int .i64 k∧Hz (OkTo T.sc sc0 (scF) k)∧Hz (RxT W w wr T A)) (fun i _ =>T.sc.length - (intOf i).toNat)
 case atStart =>exact ⟨0,Zn _,rfl,kz (OkTo.zero _ _ _),HX⟩
 case round =>
  clear HX;obtain ⟨k,hk,rfl,HO,HX⟩:=hrel;by_cases hkn:k < T.sc.length
  ·obtain ⟨x,hx⟩:∃ x,T.sc[k]?=some x:=⟨_,qR hkn⟩;obtain ⟨g,o,bq,dq,ea,hg,c0,c1,hrow⟩:=zdU (oz HX).rx.tb.ti hx;have HRW:=kz hrow;clear hrow;have HK:=kz hx;have HG:=kz hg;have k1:(k:Int) < (T.sc.length:Int):=by omega
   have k2:=Zp k
   have zz:=(oz HX).rx.tb.z0;rw [ea] at zz;clear hg hx;obtain ⟨y,hy⟩:∃ y,scF x=y:=⟨_,rfl⟩;have HC:=kz (by have:=zbz x.1 (by have:=(oz HZ x (YH (oz HK))).1;unfold maxLen;omega) x.2 (oz HZ x (YH (oz HK))).2 bq dq wr (oz HRW);rw [show scF (x.1,x.2)=y from hy] at this;exact this);clear ea HRW HZ;by_cases hy0:y=0
   ·subst hy0;have HO2:=kz ((oz HO).next (oz HK) hy);clear hy HO HK;go_wp2_with fail
    refine (oz HC).mono ?_;rintro e w3 ⟨rfl,hbx⟩;have HX1:=kz ((oz HX).below hbx);clear hbx HX HC zz c0 c1;go_wp2_with fail
    exact ⟨⟨k+1,by omega,by first | rfl | go_num,HO2,HX1⟩,by simp [intOf];omega⟩
   ·have HE:=kz ((oz HO).bad (oz HK) 1 (by rw [hy];exact hy0));rw [hy] at HE;have HY:=kz hy0;have q:(y == 0)=false:=by simpa using hy0
    clear hy HO HK hy0;go_wp2_with fail
    refine (oz HC).mono ?_;rintro e w3 ⟨rfl,hbx⟩;have HX1:=kz ((oz HX).below hbx);clear hbx HX HC zz c0 c1;have r0:=(oz HX1).rx.rs.cell 0;have f0:=(oz HX1).rx.rs.frozen 0;have r1:=(oz HX1).rx.rs.cell 1;have f1:=(oz HX1).rx.rs.frozen 1;have r2:=(oz HX1).rx.rs.cell 2;have f2:=(oz HX1).rx.rs.frozen 2;go_wp2_with fail
    exact oz HR _ _ (oz HE) (oz HY) _ _ rfl rfl (kz ((oz HX1).put _ _ _))
  ·have k1:¬ (k:Int) < (T.sc.length:Int):=by omega
   have zz:=(oz HX).rx.tb.z0;have HE:=kz ((oz HO).ok (by omega) 1);clear HO HR;go_wp2_with fail
   exact oz HN (oz HE) _ _ (zq rfl) HX
noncomputable def uaFb:Code:=match Tryz.f62.body with
 | some (.seq _ (.seq _ (.seq _ (.seq _ (.seq c _))))) =>c
 | _ =>.skip
theorem zhb (T:TV) (hT:TabB T) (A:TbA) (W w:World) (v5:Value)  (h:RxS W w T A) (U:Nat→Value) {Q:Exit→Act→World→Prop}
  (hN:zg 3 T.ma ma0 (maF)=(0,0,0)→∀ (a:Act) (wn:World),(∃ U',a=jV W v5 U')→Hz (RxT W w wn T A)→Q .normal a wn)
  (hR:∀ (y k:Int),zg 3 T.ma ma0 (maF)=(y,3,k)→y≠0→∀ (a:Act) (wn:World),a.tmps.getD 2 undef=.pointer (some ⟨W.heap.size+1,0,none⟩)→a.defers=[]→Hz (RxD W wn (y,3,k))→Q .ret a wn) :
  Code.wp Tryz.prog uaFb Q (jV W v5 U) w:=by
 have HN:=kz hN;have HR:=kz hR;have HX:=kz (RxT.refl h);have hln:=hT.n2;have HZ:=kz hT.z2;clear hN hR h
 delta uaFb Tryz.f62 jV at *
 dsimp only;go_wp2_with fail
 go_loopw [6] (fun i wr => ∃ k:Nat,k≤T.ma.length∧i=.int .i64 k∧Hz (OkTo T.ma ma0 (maF) k)∧Hz (RxT W w wr T A)) (fun i _ =>T.ma.length - (intOf i).toNat)
 case atStart =>exact ⟨0,Zn _,rfl,kz (OkTo.zero _ _ _),HX⟩
 case round =>
  clear HX;obtain ⟨k,hk,rfl,HO,HX⟩:=hrel;by_cases hkn:k < T.ma.length
  ·obtain ⟨x,hx⟩:∃ x,T.ma[k]?=some x:=⟨_,qR hkn⟩;obtain ⟨g,o,ea,hg,c0,c1⟩:=zgE (oz HX).rx.tb.ti.r2 hx;have HK:=kz hx;have HG:=kz hg;have k1:(k:Int) < (T.ma.length:Int):=by omega
   have k2:=Zp k
   have zz:=(oz HX).rx.tb.z2;rw [ea] at zz;clear hg hx;cases r0:zm x.1 with
   | false =>
    have hf:maF x=12:=by unfold maF;rw [r0];rfl
    have HE:=kz ((oz HO).bad (oz HK) 3 (by rw [hf];decide));rw [hf] at HE;clear hf HO HK;have HA:=kz (fun w =>by have:=zy x.1 w;rwa [r0] at this);clear ea r0;go_wp2_with fail
    refine (oz HA _).mono ?_;rintro e wx ⟨rfl,hw⟩;rw [hw];clear hw wx;have r0:=(oz HX).rx.rs.cell 0;have f0:=(oz HX).rx.rs.frozen 0;have r1:=(oz HX).rx.rs.cell 1;have f1:=(oz HX).rx.rs.frozen 1;have r2:=(oz HX).rx.rs.cell 2;have f2:=(oz HX).rx.rs.frozen 2;go_wp2_with fail
    exact oz HR _ _ (oz HE) (by decide) _ _ rfl rfl (kz ((oz HX).put _ _ _))
   | true =>
    by_cases h1:x.2 < 1
    ·have hf:maF x=30:=by unfold maF;rw [r0,if_pos rfl,if_pos (by omega)]
     have HE:=kz ((oz HO).bad (oz HK) 3 (by rw [hf];decide));rw [hf] at HE;clear hf HO HK;have HA:=kz (fun w =>by have:=zy x.1 w;rwa [r0] at this);clear ea r0;go_wp2_with fail
     refine (oz HA _).mono ?_;rintro e wx ⟨rfl,hw⟩;rw [hw];clear hw wx;have r0:=(oz HX).rx.rs.cell 0;have f0:=(oz HX).rx.rs.frozen 0;have r1:=(oz HX).rx.rs.cell 1;have f1:=(oz HX).rx.rs.frozen 1;have r2:=(oz HX).rx.rs.cell 2;have f2:=(oz HX).rx.rs.frozen 2;go_wp2_with fail
     exact oz HR _ _ (oz HE) (by decide) _ _ rfl rfl (kz ((oz HX).put _ _ _))
    ·by_cases h2:254 < x.2
     ·have hf:maF x=30:=by unfold maF;rw [r0,if_pos rfl,if_pos (by omega)]
      have HE:=kz ((oz HO).bad (oz HK) 3 (by rw [hf];decide));rw [hf] at HE;clear hf HO HK;have HA:=kz (fun w =>by have:=zy x.1 w;rwa [r0] at this);clear ea r0;go_wp2_with fail
      refine (oz HA _).mono ?_;rintro e wx ⟨rfl,hw⟩;rw [hw];clear hw wx;have r0:=(oz HX).rx.rs.cell 0;have f0:=(oz HX).rx.rs.frozen 0;have r1:=(oz HX).rx.rs.cell 1;have f1:=(oz HX).rx.rs.frozen 1;have r2:=(oz HX).rx.rs.cell 2;have f2:=(oz HX).rx.rs.frozen 2;go_wp2_with fail
      exact oz HR _ _ (oz HE) (by decide) _ _ rfl rfl (kz ((oz HX).put _ _ _))
     ·have hf:maF x=0:=by unfold maF;rw [r0,if_pos rfl,if_neg (by omega)]
      have HO2:=kz ((oz HO).next (oz HK) hf);clear hf HO HK;have HA:=kz (fun w =>by have:=zy x.1 w;rwa [r0] at this);clear ea r0;go_wp2_with fail
      refine (oz HA _).mono ?_;rintro e wx ⟨rfl,hw⟩;rw [hw];clear hw wx;go_wp2_with fail
      exact ⟨⟨k+1,by omega,by first | rfl | go_num,HO2,HX⟩,by simp [intOf];omega⟩
  ·have k1:¬ (k:Int) < (T.ma.length:Int):=by omega
   have zz:=(oz HX).rx.tb.z2;have HE:=kz ((oz HO).ok (by omega) 3);clear HO HR;go_wp2_with fail
   exact oz HN (oz HE) _ _ (zq rfl) HX
noncomputable def uaFc:Code:=match Tryz.f62.body with
 | some (.seq _ (.seq _ (.seq _ (.seq _ (.seq _ (.seq c _)))))) =>c
 | _ =>.skip
theorem zha (T:TV) (hT:TabB T) (A:TbA) (W w:World) (v5:Value)  (h:RxS W w T A) (U:Nat→Value) {Q:Exit→Act→World→Prop}
  (hN:zg 4 T.pr pr0 (prF)=(0,0,0)→∀ (a:Act) (wn:World),(∃ U',a=jV W v5 U')→Hz (RxT W w wn T A)→Q .normal a wn)
  (hR:∀ (y k:Int),zg 4 T.pr pr0 (prF)=(y,4,k)→y≠0→∀ (a:Act) (wn:World),a.tmps.getD 2 undef=.pointer (some ⟨W.heap.size+1,0,none⟩)→a.defers=[]→Hz (RxD W wn (y,4,k))→Q .ret a wn) :
  Code.wp Tryz.prog uaFc Q (jV W v5 U) w:=by
 have HN:=kz hN;have HR:=kz hR;have HX:=kz (RxT.refl h);have hln:=hT.n3;clear hN hR h
 delta uaFc Tryz.f62 jV at *
 dsimp only;go_wp2_with fail
 go_loopw [7] (fun i wr => ∃ k:Nat,k≤T.pr.length∧i=.int .i64 k∧Hz (OkTo T.pr pr0 (prF) k)∧Hz (RxT W w wr T A)) (fun i _ =>T.pr.length - (intOf i).toNat)
 case atStart =>exact ⟨0,Zn _,rfl,kz (OkTo.zero _ _ _),HX⟩
 case round =>
  clear HX;obtain ⟨k,hk,rfl,HO,HX⟩:=hrel;by_cases hkn:k < T.pr.length
  ·obtain ⟨x,hx⟩:∃ x,T.pr[k]?=some x:=⟨_,qR hkn⟩;obtain ⟨g,o,ea,hg,c0,c1,c2⟩:=zdV (oz HX).rx.tb.ti.r3 hx;have HK:=kz hx;have HG:=kz hg;have k1:(k:Int) < (T.pr.length:Int):=by omega
   have k2:=Zp k
   have zz:=(oz HX).rx.tb.z3;rw [ea] at zz;clear hg hx;cases r0:zm x.1 with
   | false =>
    have hf:prF x=12:=by unfold prF;rw [r0];rfl
    have HE:=kz ((oz HO).bad (oz HK) 4 (by rw [hf];decide));rw [hf] at HE;clear hf HO HK;have HA0:=kz (fun w =>by have:=zy x.1 w;rwa [r0] at this);clear ea r0;go_wp2_with fail
    refine (oz HA0 _).mono ?_;rintro e wx ⟨rfl,hw⟩;rw [hw];clear hw wx;have r0:=(oz HX).rx.rs.cell 0;have f0:=(oz HX).rx.rs.frozen 0;have r1:=(oz HX).rx.rs.cell 1;have f1:=(oz HX).rx.rs.frozen 1;have r2:=(oz HX).rx.rs.cell 2;have f2:=(oz HX).rx.rs.frozen 2;go_wp2_with fail
    exact oz HR _ _ (oz HE) (by decide) _ _ rfl rfl (kz ((oz HX).put _ _ _))
   | true =>
    cases r1:zm x.2.1 with
    | false =>
     have hf:prF x=12:=by unfold prF;rw [r0,r1];rfl
     have HE:=kz ((oz HO).bad (oz HK) 4 (by rw [hf];decide));rw [hf] at HE;clear hf HO HK;have HA0:=kz (fun w =>by have:=zy x.1 w;rwa [r0] at this);have HA1:=kz (fun w =>by have:=zy x.2.1 w;rwa [r1] at this);clear ea r0 r1;go_wp2_with fail
     refine (oz HA0 _).mono ?_;rintro e wx ⟨rfl,hw⟩;rw [hw];clear hw wx;go_wp2_with fail
     refine (oz HA1 _).mono ?_;rintro e wx ⟨rfl,hw⟩;rw [hw];clear hw wx;have r0:=(oz HX).rx.rs.cell 0;have f0:=(oz HX).rx.rs.frozen 0;have r1:=(oz HX).rx.rs.cell 1;have f1:=(oz HX).rx.rs.frozen 1;have r2:=(oz HX).rx.rs.cell 2;have f2:=(oz HX).rx.rs.frozen 2;go_wp2_with fail
     exact oz HR _ _ (oz HE) (by decide) _ _ rfl rfl (kz ((oz HX).put _ _ _))
    | true =>
     cases r2:zm x.2.2 with
     | false =>
      have hf:prF x=12:=by unfold prF;rw [r0,r1,r2];rfl
      have HE:=kz ((oz HO).bad (oz HK) 4 (by rw [hf];decide));rw [hf] at HE;clear hf HO HK;have HA0:=kz (fun w =>by have:=zy x.1 w;rwa [r0] at this);have HA1:=kz (fun w =>by have:=zy x.2.1 w;rwa [r1] at this);have HA2:=kz (fun w =>by have:=zy x.2.2 w;rwa [r2] at this);clear ea r0 r1 r2;go_wp2_with fail
      refine (oz HA0 _).mono ?_;rintro e wx ⟨rfl,hw⟩;rw [hw];clear hw wx;go_wp2_with fail
      refine (oz HA1 _).mono ?_;rintro e wx ⟨rfl,hw⟩;rw [hw];clear hw wx;go_wp2_with fail
      refine (oz HA2 _).mono ?_;rintro e wx ⟨rfl,hw⟩;rw [hw];clear hw wx;have r0:=(oz HX).rx.rs.cell 0;have f0:=(oz HX).rx.rs.frozen 0;have r1:=(oz HX).rx.rs.cell 1;have f1:=(oz HX).rx.rs.frozen 1;have r2:=(oz HX).rx.rs.cell 2;have f2:=(oz HX).rx.rs.frozen 2;go_wp2_with fail
      exact oz HR _ _ (oz HE) (by decide) _ _ rfl rfl (kz ((oz HX).put _ _ _))
     | true =>
      have hf:prF x=0:=by unfold prF;rw [r0,r1,r2];rfl
      have HO2:=kz ((oz HO).next (oz HK) hf);clear hf HO HK;have HA0:=kz (fun w =>by have:=zy x.1 w;rwa [r0] at this);have HA1:=kz (fun w =>by have:=zy x.2.1 w;rwa [r1] at this);have HA2:=kz (fun w =>by have:=zy x.2.2 w;rwa [r2] at this);clear ea r0 r1 r2;go_wp2_with fail
      refine (oz HA0 _).mono ?_;rintro e wx ⟨rfl,hw⟩;rw [hw];clear hw wx;go_wp2_with fail
      refine (oz HA1 _).mono ?_;rintro e wx ⟨rfl,hw⟩;rw [hw];clear hw wx;go_wp2_with fail
      refine (oz HA2 _).mono ?_;rintro e wx ⟨rfl,hw⟩;rw [hw];clear hw wx;go_wp2_with fail
      exact ⟨⟨k+1,by omega,by first | rfl | go_num,HO2,HX⟩,by simp [intOf];omega⟩
  ·have k1:¬ (k:Int) < (T.pr.length:Int):=by omega
   have zz:=(oz HX).rx.tb.z3;have HE:=kz ((oz HO).ok (by omega) 4);clear HO HR;go_wp2_with fail
   exact oz HN (oz HE) _ _ (zq rfl) HX
set_option maxRecDepth 100000
set_option maxHeartbeats 8000000
theorem Jv {x:Int × Int × Int} (h:OkW x):orW [x]=x:=by
 by_cases e:x.1=0
 ·rw [ze e,h e];rfl
 ·exact zj e
theorem Xi {l:List (Int × Int × Int)} {y:Int × Int × Int} (h:OkW y):orW (l++[y])=if (orW l).1=0 then y else orW l:=by rw [yM,Jv h]
theorem zi6 {l m:List (Int × Int × Int)}:orW (l++[orW m])=orW (l++m):=by rw [yM,yM,Jv (jJ m)]
theorem QI (list:Int) (l:List (Int × Int)):OkW (spW list l):=qN _ _ _
theorem QT {α : Type} (list:Int) (l:List α) (d : α) (f : α→Int):OkW (zg list l d f):=qN _ _ _
noncomputable def uaFd:Code:=match Tryz.f62.body with
 | some (.seq _ (.seq _ (.seq _ (.seq _ (.seq _ (.seq _ (.seq c _))))))) =>c
 | _ =>.skip
theorem zg9 (T:TV) (hT:TabB T) (A:TbA) (W w:World) (B:Nat) (hTW:Yb W T A) (l:List (Int × Int × Int)) (h:CkS W w B T A (orW l)) (h0:(orW l).1=0) (U:Nat→Value) {Q:Exit→Act→World→Prop}
  (hQ:∀ (a:Act) (wn:World),(∃ U',a=jV W (.pointer (some ⟨B,0,none⟩)) U')→Hz (CkS W wn B T A (orW (l++[zg 5 T.fo mp0 mpF])))→Q .normal a wn) :
  Code.wp Tryz.prog uaFd Q (jV W (.pointer (some ⟨B,0,none⟩)) U) w:=by
 have HQ:=kz hQ;have HX:=kz h;have HC:=kz (KN 5 T.fo hT.n4 hT.z4 A.a4 A.c4 w (hTW.lower h.bl).r4);have HV:=kz (Xi (l:=l) (y:=zg 5 T.fo mp0 mpF) (QT _ _ _ _));obtain ⟨y,hy⟩:∃ y,zg 5 T.fo mp0 mpF=y:=⟨_,rfl⟩;obtain ⟨x,hx⟩:∃ x,orW l=x:=⟨_,rfl⟩;rw [hy] at HC HV;rw [hx] at HX HV h0;rw [hy] at HQ;rw [oz HV] at HQ;clear HV hQ h hx hy hT hTW;obtain ⟨x0,x1,x2⟩:=x;obtain ⟨y0,y1,y2⟩:=y;unfold wrV at HC;dsimp only at HC HQ h0 HX
 delta uaFd Tryz.f62 jV at *
 dsimp only;subst h0;rw [if_pos rfl] at HQ;have s0:=(oz HX).bw.cell 0;have g0:=(oz HX).bw.frozen 0;have s1:=(oz HX).bw.cell 1;have g1:=(oz HX).bw.frozen 1;have s2:=(oz HX).bw.cell 2;have g2:=(oz HX).bw.frozen 2;have z:=(oz HX).bx.cell 4;go_wp2_with fail
 refine (oz HC).mono ?_;rintro e w2 ⟨rfl,hb⟩;have HX2:=kz ((oz HX).below hb);clear hb HC HX z;clear s0 s1 s2 g0 g1 g2;have s0:=(oz HX2).bw.cell 0;have g0:=(oz HX2).bw.frozen 0;have s1:=(oz HX2).bw.cell 1;have g1:=(oz HX2).bw.frozen 1;have s2:=(oz HX2).bw.cell 2;have g2:=(oz HX2).bw.frozen 2;go_wp2_with fail
 exact oz HQ _ _ (zq rfl) (kz ((oz HX2).put (y0,y1,y2)))
noncomputable def uaFe:Code:=match Tryz.f62.body with
 | some (.seq _ (.seq _ (.seq _ (.seq _ (.seq _ (.seq _ (.seq _ (.seq c _)))))))) =>c
 | _ =>.skip
theorem zg8 (T:TV) (hT:TabB T) (A:TbA) (W w:World) (B:Nat) (hTW:Yb W T A) (l:List (Int × Int × Int)) (h:CkS W w B T A (orW l)) (U:Nat→Value) {Q:Exit→Act→World→Prop}
  (hQ:∀ (a:Act) (wn:World),(∃ U',a=jV W (.pointer (some ⟨B,0,none⟩)) U')→Hz (CkS W wn B T A (orW (l++[zg 6 T.lk mp0 mpF])))→Q .normal a wn) :
  Code.wp Tryz.prog uaFe Q (jV W (.pointer (some ⟨B,0,none⟩)) U) w:=by
 have HQ:=kz hQ;have HX:=kz h;have HC:=kz (KN 6 T.lk hT.n5 hT.z5 A.a5 A.c5 w (hTW.lower h.bl).r5);have HV:=kz (Xi (l:=l) (y:=zg 6 T.lk mp0 mpF) (QT _ _ _ _));obtain ⟨y,hy⟩:∃ y,zg 6 T.lk mp0 mpF=y:=⟨_,rfl⟩;obtain ⟨x,hx⟩:∃ x,orW l=x:=⟨_,rfl⟩;rw [hy] at HC HV;rw [hx] at HX HV;rw [hy] at HQ;rw [oz HV] at HQ;clear HV hQ h hx hy hT hTW;obtain ⟨x0,x1,x2⟩:=x;obtain ⟨y0,y1,y2⟩:=y;unfold wrV at HC;dsimp only at HC HQ HX
 delta uaFe Tryz.f62 jV at *
 dsimp only;by_cases hx0:x0=0
 ·subst hx0;rw [if_pos rfl] at HQ;have s0:=(oz HX).bw.cell 0;have g0:=(oz HX).bw.frozen 0;have s1:=(oz HX).bw.cell 1;have g1:=(oz HX).bw.frozen 1;have s2:=(oz HX).bw.cell 2;have g2:=(oz HX).bw.frozen 2;have z:=(oz HX).bx.cell 5;go_wp2_with fail
  refine (oz HC).mono ?_;rintro e w2 ⟨rfl,hb⟩;have HX2:=kz ((oz HX).below hb);clear hb HC HX z;clear s0 s1 s2 g0 g1 g2;have s0:=(oz HX2).bw.cell 0;have g0:=(oz HX2).bw.frozen 0;have s1:=(oz HX2).bw.cell 1;have g1:=(oz HX2).bw.frozen 1;have s2:=(oz HX2).bw.cell 2;have g2:=(oz HX2).bw.frozen 2;go_wp2_with fail
  exact oz HQ _ _ (zq rfl) (kz ((oz HX2).put (y0,y1,y2)))
 ·rw [if_neg hx0] at HQ;have q:(x0 == 0)=false:=by simpa using hx0
  have s0:=(oz HX).bw.cell 0;have g0:=(oz HX).bw.frozen 0;have s1:=(oz HX).bw.cell 1;have g1:=(oz HX).bw.frozen 1;have s2:=(oz HX).bw.cell 2;have g2:=(oz HX).bw.frozen 2;go_wp2_with fail
  exact oz HQ _ _ (zq rfl) HX
noncomputable def uaFf:Code:=match Tryz.f62.body with
 | some (.seq _ (.seq _ (.seq _ (.seq _ (.seq _ (.seq _ (.seq _ (.seq _ (.seq c _))))))))) =>c
 | _ =>.skip
theorem zg7 (T:TV) (hT:TabB T) (A:TbA) (W w:World) (B:Nat) (hTW:Yb W T A) (l:List (Int × Int × Int)) (h:CkS W w B T A (orW l)) (U:Nat→Value) {Q:Exit→Act→World→Prop}
  (hQ:∀ (a:Act) (wn:World),(∃ U',a=jV W (.pointer (some ⟨B,0,none⟩)) U')→Hz (CkS W wn B T A (orW (l++[spW 7 T.dr])))→Q .normal a wn) :
  Code.wp Tryz.prog uaFf Q (jV W (.pointer (some ⟨B,0,none⟩)) U) w:=by
 have HQ:=kz hQ;have HX:=kz h;have HC:=kz (YR 7 T.dr hT.n6 A.a6 A.c6 w (hTW.lower h.bl).r6);have HV:=kz (Xi (l:=l) (y:=spW 7 T.dr) (QI _ _));obtain ⟨y,hy⟩:∃ y,spW 7 T.dr=y:=⟨_,rfl⟩;obtain ⟨x,hx⟩:∃ x,orW l=x:=⟨_,rfl⟩;rw [hy] at HC HV;rw [hx] at HX HV;rw [hy] at HQ;rw [oz HV] at HQ;clear HV hQ h hx hy hT hTW;obtain ⟨x0,x1,x2⟩:=x;obtain ⟨y0,y1,y2⟩:=y;unfold wrV at HC;dsimp only at HC HQ HX
 delta uaFf Tryz.f62 jV at *
 dsimp only;by_cases hx0:x0=0
 ·subst hx0;rw [if_pos rfl] at HQ;have s0:=(oz HX).bw.cell 0;have g0:=(oz HX).bw.frozen 0;have s1:=(oz HX).bw.cell 1;have g1:=(oz HX).bw.frozen 1;have s2:=(oz HX).bw.cell 2;have g2:=(oz HX).bw.frozen 2;have z:=(oz HX).bx.cell 6;go_wp2_with fail
  refine (oz HC).mono ?_;rintro e w2 ⟨rfl,hb⟩;have HX2:=kz ((oz HX).below hb);clear hb HC HX z;clear s0 s1 s2 g0 g1 g2;have s0:=(oz HX2).bw.cell 0;have g0:=(oz HX2).bw.frozen 0;have s1:=(oz HX2).bw.cell 1;have g1:=(oz HX2).bw.frozen 1;have s2:=(oz HX2).bw.cell 2;have g2:=(oz HX2).bw.frozen 2;go_wp2_with fail
  exact oz HQ _ _ (zq rfl) (kz ((oz HX2).put (y0,y1,y2)))
 ·rw [if_neg hx0] at HQ;have q:(x0 == 0)=false:=by simpa using hx0
  have s0:=(oz HX).bw.cell 0;have g0:=(oz HX).bw.frozen 0;have s1:=(oz HX).bw.cell 1;have g1:=(oz HX).bw.frozen 1;have s2:=(oz HX).bw.cell 2;have g2:=(oz HX).bw.frozen 2;go_wp2_with fail
  exact oz HQ _ _ (zq rfl) HX
noncomputable def uaFg:Code:=match Tryz.f62.body with
 | some (.seq _ (.seq _ (.seq _ (.seq _ (.seq _ (.seq _ (.seq _ (.seq _ (.seq _ (.seq c _)))))))))) =>c
 | _ =>.skip
theorem zg6 (T:TV) (hT:TabB T) (A:TbA) (W w:World) (B:Nat) (hTW:Yb W T A) (l:List (Int × Int × Int)) (h:CkS W w B T A (orW l)) (U:Nat→Value) {Q:Exit→Act→World→Prop}
  (hQ:∀ (a:Act) (wn:World),(∃ U',a=jV W (.pointer (some ⟨B,0,none⟩)) U')→Hz (CkS W wn B T A (orW (l++[spW 8 T.al])))→Q .normal a wn) :
  Code.wp Tryz.prog uaFg Q (jV W (.pointer (some ⟨B,0,none⟩)) U) w:=by
 have HQ:=kz hQ;have HX:=kz h;have HC:=kz (YR 8 T.al hT.n7 A.a7 A.c7 w (hTW.lower h.bl).r7);have HV:=kz (Xi (l:=l) (y:=spW 8 T.al) (QI _ _));obtain ⟨y,hy⟩:∃ y,spW 8 T.al=y:=⟨_,rfl⟩;obtain ⟨x,hx⟩:∃ x,orW l=x:=⟨_,rfl⟩;rw [hy] at HC HV;rw [hx] at HX HV;rw [hy] at HQ;rw [oz HV] at HQ;clear HV hQ h hx hy hT hTW;obtain ⟨x0,x1,x2⟩:=x;obtain ⟨y0,y1,y2⟩:=y;unfold wrV at HC;dsimp only at HC HQ HX
 delta uaFg Tryz.f62 jV at *
 dsimp only;by_cases hx0:x0=0
 ·subst hx0;rw [if_pos rfl] at HQ;have s0:=(oz HX).bw.cell 0;have g0:=(oz HX).bw.frozen 0;have s1:=(oz HX).bw.cell 1;have g1:=(oz HX).bw.frozen 1;have s2:=(oz HX).bw.cell 2;have g2:=(oz HX).bw.frozen 2;have z:=(oz HX).bx.cell 7;go_wp2_with fail
  refine (oz HC).mono ?_;rintro e w2 ⟨rfl,hb⟩;have HX2:=kz ((oz HX).below hb);clear hb HC HX z;clear s0 s1 s2 g0 g1 g2;have s0:=(oz HX2).bw.cell 0;have g0:=(oz HX2).bw.frozen 0;have s1:=(oz HX2).bw.cell 1;have g1:=(oz HX2).bw.frozen 1;have s2:=(oz HX2).bw.cell 2;have g2:=(oz HX2).bw.frozen 2;go_wp2_with fail
  exact oz HQ _ _ (zq rfl) (kz ((oz HX2).put (y0,y1,y2)))
 ·rw [if_neg hx0] at HQ;have q:(x0 == 0)=false:=by simpa using hx0
  have s0:=(oz HX).bw.cell 0;have g0:=(oz HX).bw.frozen 0;have s1:=(oz HX).bw.cell 1;have g1:=(oz HX).bw.frozen 1;have s2:=(oz HX).bw.cell 2;have g2:=(oz HX).bw.frozen 2;go_wp2_with fail
  exact oz HQ _ _ (zq rfl) HX
theorem zcp (T:TV) (hT:TabB T) (v:Value) (W:World) (hv:TbV W T v) :
  Calls Tryz.prog 62 #[v] W fun e w' =>e=.returned (wrV (yT T))∧Below W.heap.size W w':=by
 obtain ⟨A,rfl,hA⟩:=hv;have HX:=kz (RxS.start hA);have HT:=kz hT;have HTW:=kz hA;have HV:∃ mb,Hz (orW [zg 1 T.sc sc0 scF,spW 2 T.co,zg 3 T.ma ma0 maF,zg 4 T.pr pr0 prF,zg 5 T.fo mp0 mpF,zg 6 T.lk mp0 mpF,spW 7 T.dr,spW 8 T.al]=mb):=⟨_,kz rfl⟩;obtain ⟨mb,HV⟩:=HV;rw [show yT T=mb from oz HV];clear hA hT;go_enter Tryz.func62,Tryz.ntmps62;refine wp_seq_k (fun K0 hK0 =>?_);have HK0:=kz hK0;clear hK0;go_wp2_with fail
 refine oz HK0 _ _ ?_;clear HK0 K0;generalize (W.alloc _).alloc _=w0 at *;have hR:∀ (y l k:Int),mb=(y,l,k)→∀ (a:Act) (wn:World),a.tmps.getD 2 undef=.pointer (some ⟨W.heap.size+1,0,none⟩)→a.defers=[]→Hz (RxD W wn (y,l,k))→bodyPost Tryz.prog Tryz.f62 (fun e w' =>e=.returned (wrV mb)∧Below W.heap.size W w') .ret a wn:=fun y l k e a wn h1 h2 h3 =>by
  subst e;exact XS (v:=wrV (y,l,k)) (jA Tryz.results62 h1 (oz h3).rs rfl) h2 ⟨rfl,(oz h3).bl⟩
 refine wp_seq_k (fun K1 hK1 =>?_);refine zN (F:=jV W undef) (zq rfl) (fun U =>?_);refine zhc T (oz HT) A W _ undef (oz HX) U ?_ ?_
 rotate_left
 ·intro y k e hy a wn h1 h2 h3;exact hR y _ k (by rw [← oz HV,zj (by rw [e];exact hy),e]) a wn h1 h2 h3
 intro E1 a w1 ⟨U1,hU⟩ hx;subst hU;have HX1:=kz (oz hx).rx;clear hx;refine hK1 _ _ ?_;clear hK1 K1;have HC:=kz (YR 2 T.co (oz HT).n1 A.a1 A.c1 w1 (oz HX1).tb.ti.r1);obtain ⟨x,hx⟩:∃ x,spW 2 T.co=x:=⟨_,rfl⟩;have HOK:=kz (QI 2 T.co);rw [hx] at HC HOK;have HXE:=kz hx;clear hx;obtain ⟨x0,x1,x2⟩:=x;refine wp_seq_k (fun Ka hKa =>?_);have HKa:=kz hKa;have HRR:=kz hR;clear hKa hR;have HE1:=kz E1;clear E1;unfold jV;have z1:=(oz HX1).tb.z1;go_wp2_with fail
 refine (oz HC).mono ?_;rintro e w2 ⟨rfl,hb⟩;have HX2:=kz ((oz HX1).below hb);have HK2:=kz (CkS.start (oz HX2) (x0,x1,x2));clear hb HC HX HX1 z1;unfold wrV;have s0:=(oz HK2).bw.cell 0;have s1:=(oz HK2).bw.cell 1;have s2:=(oz HK2).bw.cell 2;unfold wrC at *;dsimp only at HK2 s0 s1 s2;go_wp2_with fail
 refine oz HKa _ _ ?_;clear HKa Ka;obtain ⟨B,hB⟩:∃ B,B=w2.heap.size:=⟨_,rfl⟩;rw [← hB] at HK2 s0 s1 s2 ⊢;generalize w2.alloc _=w3 at *;clear hB HX2;refine wp_seq_k (fun Kb hKb =>?_);have HKb:=kz hKb;clear hKb;by_cases hx0:x0=0
 ·have e:=oz HOK hx0;obtain ⟨rfl,hh⟩:=Prod.mk.inj e;obtain ⟨rfl,rfl⟩:=Prod.mk.inj hh;clear e hh hx0 HOK;go_wp2_with fail
  refine oz HKb _ _ ?_;clear HKb Kb s0 s1 s2;have hR:=oz HRR;have E1:=oz HE1;have E2:=oz HXE;clear HRR;refine wp_seq_k (fun K2 hK2 =>?_);refine zN (F:=jV W (.pointer (some ⟨B,0,none⟩))) (zq rfl) (fun U =>?_);refine zhb T (oz HT) A W _ (.pointer (some ⟨B,0,none⟩)) ((oz HK2).rx (oz HTW)) U ?_ ?_
  rotate_left
  ·intro y k e hy a wn h1 h2 h3;exact hR y _ k (by rw [← oz HV,ze (by rw [E1]),ze (by rw [E2]),zj (by rw [e];exact hy),e]) a wn h1 h2 h3
  intro E3 a w4 ⟨U2,hU⟩ hx;subst hU;have HK4:=kz ((oz HK2).below (oz hx).fr);clear hx;refine hK2 _ _ ?_;clear hK2 K2;refine wp_seq_k (fun K3 hK3 =>?_);refine zN (F:=jV W (.pointer (some ⟨B,0,none⟩))) ⟨U2,rfl⟩ (fun U =>?_);refine zha T (oz HT) A W _ (.pointer (some ⟨B,0,none⟩)) ((oz HK4).rx (oz HTW)) U ?_ ?_
  rotate_left
  ·intro y k e hy a wn h1 h2 h3;exact hR y _ k (by rw [← oz HV,ze (by rw [E1]),ze (by rw [E2]),ze (by rw [E3]),zj (by rw [e];exact hy),e]) a wn h1 h2 h3
  intro E4 a w5 ⟨U3,hU⟩ hx;subst hU;have HK5:=kz ((oz HK4).below (oz hx).fr);clear hx;refine hK3 _ _ ?_;clear hK3 K3;have h0:orW [zg 1 T.sc sc0 scF,spW 2 T.co,zg 3 T.ma ma0 maF,zg 4 T.pr pr0 prF]=(0,0,0):=by
   rw [ze (by rw [E1]),ze (by rw [E2]),ze (by rw [E3]),ze (by rw [E4])];rfl
  clear E1 E2 E3 E4;refine wp_seq_k (fun K4 hK4 =>?_);refine zN (F:=jV W (.pointer (some ⟨B,0,none⟩))) ⟨U3,rfl⟩ (fun U =>?_);refine zg9 T (oz HT) A W _ B (oz HTW) [zg 1 T.sc sc0 scF,spW 2 T.co,zg 3 T.ma ma0 maF,zg 4 T.pr pr0 prF] (by rw [h0];exact oz HK5) (by rw [h0]) U ?_;intro a w6 ⟨U4,hU⟩ hx;subst hU;have HK6:=hx;clear hx;refine hK4 _ _ ?_;clear hK4 K4;refine wp_seq_k (fun K5 hK5 =>?_);refine zN (F:=jV W (.pointer (some ⟨B,0,none⟩))) ⟨U4,rfl⟩ (fun U =>?_);refine zg8 T (oz HT) A W _ B (oz HTW) [zg 1 T.sc sc0 scF,spW 2 T.co,zg 3 T.ma ma0 maF,zg 4 T.pr pr0 prF,zg 5 T.fo mp0 mpF] (oz HK6) U ?_;intro a w7 ⟨U5,hU⟩ hx;subst hU;have HK7:=hx;clear hx;refine hK5 _ _ ?_;clear hK5 K5;refine wp_seq_k (fun K6 hK6 =>?_);refine zN (F:=jV W (.pointer (some ⟨B,0,none⟩))) ⟨U5,rfl⟩ (fun U =>?_);refine zg7 T (oz HT) A W _ B (oz HTW) [zg 1 T.sc sc0 scF,spW 2 T.co,zg 3 T.ma ma0 maF,zg 4 T.pr pr0 prF,zg 5 T.fo mp0 mpF,zg 6 T.lk mp0 mpF] (oz HK7) U ?_;intro a w8 ⟨U6,hU⟩ hx;subst hU;have HK8:=hx;clear hx;refine hK6 _ _ ?_;clear hK6 K6;refine wp_seq_k (fun K7 hK7 =>?_);refine zN (F:=jV W (.pointer (some ⟨B,0,none⟩))) ⟨U6,rfl⟩ (fun U =>?_);refine zg6 T (oz HT) A W _ B (oz HTW) [zg 1 T.sc sc0 scF,spW 2 T.co,zg 3 T.ma ma0 maF,zg 4 T.pr pr0 prF,zg 5 T.fo mp0 mpF,zg 6 T.lk mp0 mpF,spW 7 T.dr] (oz HK8) U ?_;intro a w9 ⟨U7,hU⟩ hx;subst hU;have HK9:=hx;clear hx;refine hK7 _ _ ?_;clear hK7 K7;have HK10:Hz (CkS W w9 B T A mb):=kz (by
   have:=oz HK9;rw [← oz HV];exact this)
  obtain ⟨m0,m1,m2⟩:=mb;have HRR:=kz hR;clear hR HV HK5 HK6 HK7 HK8 HK9 h0;unfold jV;have s0:=(oz HK10).bw.cell 0;have s1:=(oz HK10).bw.cell 1;have s2:=(oz HK10).bw.cell 2;have r0:=(oz HK10).rs.cell 0;have f0:=(oz HK10).rs.frozen 0;have r1:=(oz HK10).rs.cell 1;have f1:=(oz HK10).rs.frozen 1;have r2:=(oz HK10).rs.cell 2;have f2:=(oz HK10).rs.frozen 2;go_wp2_with fail
  exact oz HRR _ _ _ rfl _ _ rfl rfl (kz (oz HK10).end)
 ·have q:(x0 == 0)=false:=by simpa using hx0
  have hm:mb=(x0,x1,x2):=by
   rw [← oz HV,ze (by rw [oz HE1]),zj (by rw [oz HXE];exact hx0),oz HXE]
  have hR:=oz HRR;have HRR:=kz hR;clear hR;have r0:=(oz HK2).rs.cell 0;have f0:=(oz HK2).rs.frozen 0;have r1:=(oz HK2).rs.cell 1;have f1:=(oz HK2).rs.frozen 1;have r2:=(oz HK2).rs.cell 2;have f2:=(oz HK2).rs.frozen 2;have HM:=kz hm;clear hm hx0;go_wp2_with fail
  exact oz HRR _ _ _ (oz HM) _ _ rfl rfl (kz (oz HK2).end)
end Go.Proofs.YthchopdfmchpkaaGreat
