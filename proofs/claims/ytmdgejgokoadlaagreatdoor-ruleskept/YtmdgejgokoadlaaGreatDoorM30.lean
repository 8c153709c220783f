/- Texts of this claim, one behind the other. -/
import Derived.Test.YtmdgejgokoadlaaGreatDoorM29
import Derived.Test.YtmdgejgokoadlaaGreatDoorM28
/- The reference's reader of rules: Parse, at the end. -/
namespace Go.Proofs.YtmdgejgokoadlaaGreatDoor
open Go.RowKit Go.Shelf
set_option linter.unusedVariables false
set_option maxRecDepth 100000 in
set_option maxHeartbeats 8000000 in
theorem zlh (s:ByteArray) (hs:s.size≤262144) (hok:(zan s).ok=true) (hQ:∃ f,(zbP s).bad=some f∧f.why=21) (W:World) :
  Calls Tryz.prog 16 #[.string s] W fun e w' =>RpAt s W w' e (zbP s)∧Below W.heap.size W w':=by
 have hmx:Tryz.prog.follows .mixedOrders=true:=by kernel_rfl
 have HN:=kz (zjX s hs).1
 have HLN:=kz (zfF s hs)
 have HF:Hz (RgSt (zcI s) (s.size:Nat) (zcl s) (zcm s) (zbP s) ((zcI s).length+1) 0 none TV0):=kz ⟨rfl,by omega,Nat.zero_le _,zi1⟩
 have HW:Hz (∀ w,Calls Tryz.prog 45 #[.string s] w fun e w' => ∃ a c,e=.returned (.tuple #[.slice a (zcI s).length c,.int .i64 (-1),.int .i64 0])∧RowR w' a (zcI s)∧(zcI s).length≤c∧Below w.heap.size w w'):=kz (fun w =>(zc1 s hs w).mono (fun e w' h =>by
  obtain ⟨v,he,ho⟩:=h.1 hok
  rw [← zhL] at ho
  obtain ⟨a,c,rfl,h1,h2,h3⟩:=zhz ho
  exact ⟨a,c,he,h1,h3,h.2.2⟩))
 have HWH:Hz (∀ (b:Nat),b≤s.size→∀ w,Calls Tryz.prog 46 #[.string s,.int .i64 (b:Nat)] w fun e w' =>e=.returned (.agg #[.int .i64 (b:Nat),.int .i64 ((whL s b).1:Nat),.int .i64 ((whL s b).2:Nat)])∧Below w.heap.size w w'):=kz (fun b hb w =>zcM s (by omega) b hb _ (.inr (.inr ⟨by omega,by omega,rfl⟩)) w)
 have HWS:=kz (zi5 s)
 have HQ:=kz hQ
 clear hQ
 generalize zbP s=F at *
 clear hok
 go_enter Tryz.func16,Tryz.ntmps16
 go_wp2_with fail
 refine (oz HW _).mono ?_
 rintro e w1 ⟨a,c,rfl,hrow,hcap,hb1⟩
 have HX:Hz (Bx2 w1 W.heap.size):=kz ((zfl W).below hb1)
 have HB:Hz (Below W.heap.size W w1):=kz ((((Below.refl W.heap.size W).alloc (Nat.le_refl _) _).alloc (by simp) _).trans (hb1.mono (by simp;omega)))
 have HROW:=kz hrow
 have HCAP:=kz hcap
 clear hrow hcap hb1 HW
 go_wp2_with fail
 have hsz:W.heap.size+1 < w1.heap.size:=(oz HX).2.lt
 generalize hws:zcI s=ws at *
 obtain ⟨g,hst⟩:=zhu (oz HROW) (oz HCAP) (by have:=oz HLN;omega)
 have HX3:Hz (Bx2 (w1.alloc (.cells #[.slice a ws.length c,.int .i64 0,.int .i64 (-1),.slice none 0 0,.slice none 0 0,.slice none 0 0,.slice none 0 0,.slice none 0 0,.slice none 0 0,.slice none 0 0,.slice none 0 0,.slice none 0 0,.slice none 0 0,.slice none 0 0,.slice none 0 0,.slice none 0 0,.slice none 0 0,.slice none 0 0,.slice none 0 0,.slice none 0 0] 121)) W.heap.size):=kz ⟨(oz HX).1.alloc _,(oz HX).2.alloc _⟩
 have HB3:Hz (Below W.heap.size W (w1.alloc (.cells #[.slice a ws.length c,.int .i64 0,.int .i64 (-1),.slice none 0 0,.slice none 0 0,.slice none 0 0,.slice none 0 0,.slice none 0 0,.slice none 0 0,.slice none 0 0,.slice none 0 0,.slice none 0 0,.slice none 0 0,.slice none 0 0,.slice none 0 0,.slice none 0 0,.slice none 0 0,.slice none 0 0,.slice none 0 0,.slice none 0 0] 121))):=kz ((oz HB).alloc (oz HB).size _)
 have hl3:(w1.alloc (.cells #[.slice a ws.length c,.int .i64 0,.int .i64 (-1),.slice none 0 0,.slice none 0 0,.slice none 0 0,.slice none 0 0,.slice none 0 0,.slice none 0 0,.slice none 0 0,.slice none 0 0,.slice none 0 0,.slice none 0 0,.slice none 0 0,.slice none 0 0,.slice none 0 0,.slice none 0 0,.slice none 0 0,.slice none 0 0,.slice none 0 0] 121)).heap.size=w1.heap.size+1:=by simp
 generalize w1.alloc (.cells #[.slice a ws.length c,.int .i64 0,.int .i64 (-1),.slice none 0 0,.slice none 0 0,.slice none 0 0,.slice none 0 0,.slice none 0 0,.slice none 0 0,.slice none 0 0,.slice none 0 0,.slice none 0 0,.slice none 0 0,.slice none 0 0,.slice none 0 0,.slice none 0 0,.slice none 0 0,.slice none 0 0,.slice none 0 0,.slice none 0 0] 121)=W3 at *
 obtain ⟨R,hR⟩:∃ R,R=w1.heap.size:=⟨_,rfl⟩
 rw [← hR] at hst hl3 hsz ⊢
 have HST:=kz hst
 have HL0:Hz (LpI ws (s.size:Nat) (zcl s) (zcm s) F (-1) 0 TV0):=kz (.inl ⟨rfl,_,oz HF⟩)
 clear hst HF HX HB HROW HCAP hR hws
 go_loopw [30,31,32,33,34,35,36,37,38,39,40,41,42,43,44,45] (fun _ _ _ _ _ _ _ _ _ _ _ _ _ _ _ _ wr => ∃ (k:Nat) (bi:Int) (T:TV),Hz (LpI ws (s.size:Nat) (zcl s) (zcm s) F bi k T)∧Hz (zfR W3 wr (R+1) R g a c ws k bi T))
  (fun _ _ _ _ _ _ _ _ _ _ _ _ _ _ _ _ wr =>measR wr R ws.length)
 case atStart =>exact ⟨0, -1,TV0,HL0,HST⟩
 case round =>
  obtain ⟨k,bi,T,HL,HK0⟩:=hrel
  clear HL0 HST
  obtain ⟨c0,c1,c2⟩:=(oz HK0).choose_spec.1.cells
  have HM:=kz (zc4 (oz HK0).choose_spec.1 ws.length)
  have hkn:=(oz HK0).choose_spec.1.kn
  rcases oz HL with ⟨rfl,f,hg⟩ | ⟨j,hj,rfl,hFb⟩
  ·cases hx:ws[k]? with
   | none =>
    exact absurd (oz HQ) (by rw [hg.stop (.inr hx)];rintro ⟨f,e,_⟩;cases e)
   | some x =>
    have hlt:=(List.getElem?_eq_some_iff.1 hx).1
    have n1:((k:Nat):Int) < (ws.length:Int):=by omega
    have HLT:=kz hlt
    have HX1:=kz hx
    have HG:=kz hg
    clear hg hx HL hkn hlt
    by_cases hr:zaB x.S=0
    ·have HRU:=kz (rk_no (R+1) R g a c ws (s.size:Nat) (zcl s) (zcm s) k x T (oz HX1) hr W3 wr (oz HK0))
     have HNO:=kz (fun k' =>LpI.no (k':=k') (oz HG) (oz HX1) hr)
     clear hr
     go_wp2_with fail
     refine (oz HRU).mono ?_
     rintro e w4 ⟨⟨r,rfl⟩,k',hk',hst⟩
     have HS4:=kz hst
     have HM4:=kz (zc4 hst.choose_spec.1 ws.length)
     clear hst
     go_wp2_with fail
     go_roundw
     case rel =>exact ⟨k',(k:Int),T,kz (oz HNO k'),HS4⟩
     case measure =>
      have:=oz HLT
      rw [oz HM4,oz HM,if_neg (by omega),if_pos (by omega)]
      omega
    ·have HRU:=kz (rk_any (R+1) R g a c ws (s.size:Nat) (zcl s) (zcm s) k x T (oz HG).tl (oz HX1) (oz HN x (List.mem_of_getElem? (oz HX1)) hr) hr W3 wr (oz HK0))
     have HNX:=kz (fun b2 =>LpI.next (b2:=b2) (oz HG) (oz HX1) hr)
     have HRL:=kz (zea ws (s.size:Nat) (zcl s) (zcm s) k x (oz HX1) T (oz HG).tl hr)
     clear hr
     generalize zau ws (s.size:Nat) (zcl s) (zcm s) k x T=V at *
     go_wp2_with fail
     refine (oz HRU).mono ?_
     rintro e w4 ⟨⟨r,rfl⟩,b2,hB,hst⟩
     have HS4:=kz hst
     have HL4:=kz (oz HNX b2 hB)
     have HM4:=kz (zc4 hst.choose_spec.1 ws.length)
     clear hst hB
     go_wp2_with fail
     go_roundw
     case rel =>exact ⟨V.k,b2,V.T,HL4,HS4⟩
     case measure =>
      have:=oz HLT
      have:=oz HRL
      rw [oz HM4,oz HM,if_pos (show (-1:Int) < 0 by omega)]
      split <;> omega
  ·have n1:¬ ((j:Nat):Int) < 0:=by omega
   have n0:(0:Int)≤(j:Int):=by omega
   obtain ⟨vs,hat,hfr⟩:=oz HK0
   have HX1:Hz (Bx2 wr W.heap.size):=kz ((oz HX3).fr hfr (by omega) (by omega))
   have HB1:Hz (Below W.heap.size W wr):=kz (zeV (oz HB3) hfr (by omega) (by omega))
   by_cases hjl:j=ws.length
   ·have q0:((j:Int) == (ws.length:Int))=true:=by simp;omega
    have HFB:Hz (F.bad=some ⟨(s.size:Nat),((whL s s.size).1:Nat),((whL s s.size).2:Nat),21⟩):=kz (by rw [hFb];unfold zeA;rw [List.getElem?_eq_none (by omega)];rfl)
    have HCW:=kz (oz HWH s.size (Nat.le_refl _))
    generalize whL s s.size=L at *
    obtain ⟨L1,L2⟩:=L
    clear hFb HL hkn HM c1 c0 hat hfr HK0 hj hjl
    go_wp2_with fail
    refine (oz HCW _).mono ?_
    rintro e w2 ⟨rfl,hb2⟩
    have HX2:Hz (Bx2 w2 W.heap.size):=kz ((oz HX1).below hb2)
    have HB2:Hz (Below W.heap.size W w2):=kz ((oz HB1).trans (hb2.mono (oz HB1).size))
    clear hb2 HCW HX1 HB1
    have x54:=(oz HX2).1
    have x56:=(oz HX2).2
    have e0:=x54.cell 0
    have f0:=x54.frozen 0
    have e1:=x54.cell 1
    have f1:=x54.frozen 1
    have e2:=x54.cell 2
    have f2:=x54.frozen 2
    have e3:=x54.cell 3
    have f3:=x54.frozen 3
    have e4:=x54.cell 4
    have f4:=x54.frozen 4
    have e5:=x54.cell 5
    have f5:=x54.frozen 5
    have e6:=x54.cell 6
    have f6:=x54.frozen 6
    have e7:=x54.cell 7
    have f7:=x54.frozen 7
    have e8:=x54.cell 8
    have f8:=x54.frozen 8
    have e9:=x54.cell 9
    have f9:=x54.frozen 9
    have e10:=x54.cell 10
    have f10:=x54.frozen 10
    have e11:=x54.cell 11
    have f11:=x54.frozen 11
    have e12:=x54.cell 12
    have f12:=x54.frozen 12
    have e13:=x54.cell 13
    have f13:=x54.frozen 13
    have e14:=x54.cell 14
    have f14:=x54.frozen 14
    have e15:=x54.cell 15
    have f15:=x54.frozen 15
    have e16:=x54.cell 16
    have f16:=x54.frozen 16
    have g0:=x56.cell 0
    have h0:=x56.frozen 0
    have g1:=x56.cell 1
    have h1:=x56.frozen 1
    have g2:=x56.cell 2
    have h2:=x56.frozen 2
    clear x54 x56
    go_wp2_with fail
    have K:=fin2 (oz HX2) (Value.slice none 0 0) (Value.slice none 0 0) (Value.slice none 0 0) (Value.slice none 0 0) (Value.slice none 0 0) (Value.slice none 0 0) (Value.slice none 0 0) (Value.slice none 0 0) (Value.slice none 0 0) (Value.slice none 0 0) (Value.slice none 0 0) (Value.slice none 0 0) (Value.slice none 0 0) (Value.slice none 0 0) (Value.slice none 0 0) (Value.slice none 0 0) (Value.slice none 0 0) (Value.int .i64 ((s.size:Nat):Int)) (Value.int .i64 ((L1:Nat):Int)) (Value.int .i64 ((L2:Nat):Int))
    generalize ((((((((((((((((((((w2.setCell ⟨W.heap.size,0,none⟩ (Value.slice none 0 0)).setCell ⟨W.heap.size,1,none⟩ (Value.slice none 0 0)).setCell ⟨W.heap.size,2,none⟩ (Value.slice none 0 0)).setCell ⟨W.heap.size,3,none⟩ (Value.slice none 0 0)).setCell ⟨W.heap.size,4,none⟩ (Value.slice none 0 0)).setCell ⟨W.heap.size,5,none⟩ (Value.slice none 0 0)).setCell ⟨W.heap.size,6,none⟩ (Value.slice none 0 0)).setCell ⟨W.heap.size,7,none⟩ (Value.slice none 0 0)).setCell ⟨W.heap.size,8,none⟩ (Value.slice none 0 0)).setCell ⟨W.heap.size,9,none⟩ (Value.slice none 0 0)).setCell ⟨W.heap.size,10,none⟩ (Value.slice none 0 0)).setCell ⟨W.heap.size,11,none⟩ (Value.slice none 0 0)).setCell ⟨W.heap.size,12,none⟩ (Value.slice none 0 0)).setCell ⟨W.heap.size,13,none⟩ (Value.slice none 0 0)).setCell ⟨W.heap.size,14,none⟩ (Value.slice none 0 0)).setCell ⟨W.heap.size,15,none⟩ (Value.slice none 0 0)).setCell ⟨W.heap.size,16,none⟩ (Value.slice none 0 0)).setCell ⟨W.heap.size+1,0,none⟩ (Value.int .i64 ((s.size:Nat):Int))).setCell ⟨W.heap.size+1,1,none⟩ (Value.int .i64 ((L1:Nat):Int))).setCell ⟨W.heap.size+1,2,none⟩ (Value.int .i64 ((L2:Nat):Int)))=w3 at K ⊢
    have r0:=K.b1.cell 0
    have r1:=K.b1.cell 1
    have r2:=K.b1.cell 2
    have r3:=K.b1.cell 3
    have r4:=K.b1.cell 4
    have r5:=K.b1.cell 5
    have r6:=K.b1.cell 6
    have r7:=K.b1.cell 7
    have r8:=K.b1.cell 8
    have r9:=K.b1.cell 9
    have r10:=K.b1.cell 10
    have r11:=K.b1.cell 11
    have r12:=K.b1.cell 12
    have r13:=K.b1.cell 13
    have r14:=K.b1.cell 14
    have r15:=K.b1.cell 15
    have r16:=K.b1.cell 16
    have s0:=K.b2.cell 0
    have s1:=K.b2.cell 1
    have s2:=K.b2.cell 2
    have HK:=kz K
    clear K e0 f0 e1 f1 e2 f2 e3 f3 e4 f4 e5 f5 e6 f6 e7 f7 e8 f8 e9 f9 e10 f10 e11 f11 e12 f12 e13 f13 e14 f14 e15 f15 e16 f16 g0 g1 g2 h0 h1 h2
    exact bodyPost_ret (v := .tuple #[.agg #[Value.slice none 0 0,Value.slice none 0 0,Value.slice none 0 0,Value.slice none 0 0,Value.slice none 0 0,Value.slice none 0 0,Value.slice none 0 0,Value.slice none 0 0,Value.slice none 0 0,Value.slice none 0 0,Value.slice none 0 0,Value.slice none 0 0,Value.slice none 0 0,Value.slice none 0 0,Value.slice none 0 0,Value.slice none 0 0,Value.slice none 0 0],.agg #[Value.int .i64 ((s.size:Nat):Int),Value.int .i64 ((L1:Nat):Int),Value.int .i64 ((L2:Nat):Int)],.int .i64 21]) (by simp [results,Tryz.results16,go_sem,r0,r1,r2,r3,r4,r5,r6,r7,r8,r9,r10,r11,r12,r13,r14,r15,r16,s0,s1,s2]) rfl ⟨by unfold RpAt;rw [oz HFB];rfl,(oz HB2).trans (oz HK).be⟩
   ·exact absurd (oz HQ) (by rw [hFb];rintro ⟨f,e,h2⟩;cases e;unfold zeA at h2;rw [List.getElem?_eq_getElem (by omega)] at h2;exact absurd (show (5:Int)=21 from h2) (by decide))
set_option maxRecDepth 100000 in
set_option maxHeartbeats 8000000 in
theorem zjg (s:ByteArray) (hs:s.size≤262144) (hok:(zan s).ok=true) (hQ:∃ f,(zbP s).bad=some f∧f.why=5) (W:World) :
  Calls Tryz.prog 16 #[.string s] W fun e w' =>RpAt s W w' e (zbP s)∧Below W.heap.size W w':=by
 have hmx:Tryz.prog.follows .mixedOrders=true:=by kernel_rfl
 have HN:=kz (zjX s hs).1
 have HLN:=kz (zfF s hs)
 have HF:Hz (RgSt (zcI s) (s.size:Nat) (zcl s) (zcm s) (zbP s) ((zcI s).length+1) 0 none TV0):=kz ⟨rfl,by omega,Nat.zero_le _,zi1⟩
 have HW:Hz (∀ w,Calls Tryz.prog 45 #[.string s] w fun e w' => ∃ a c,e=.returned (.tuple #[.slice a (zcI s).length c,.int .i64 (-1),.int .i64 0])∧RowR w' a (zcI s)∧(zcI s).length≤c∧Below w.heap.size w w'):=kz (fun w =>(zc1 s hs w).mono (fun e w' h =>by
  obtain ⟨v,he,ho⟩:=h.1 hok
  rw [← zhL] at ho
  obtain ⟨a,c,rfl,h1,h2,h3⟩:=zhz ho
  exact ⟨a,c,he,h1,h3,h.2.2⟩))
 have HWH:Hz (∀ (b:Nat),b≤s.size→∀ w,Calls Tryz.prog 46 #[.string s,.int .i64 (b:Nat)] w fun e w' =>e=.returned (.agg #[.int .i64 (b:Nat),.int .i64 ((whL s b).1:Nat),.int .i64 ((whL s b).2:Nat)])∧Below w.heap.size w w'):=kz (fun b hb w =>zcM s (by omega) b hb _ (.inr (.inr ⟨by omega,by omega,rfl⟩)) w)
 have HWS:=kz (zi5 s)
 have HQ:=kz hQ
 clear hQ
 generalize zbP s=F at *
 clear hok
 go_enter Tryz.func16,Tryz.ntmps16
 go_wp2_with fail
 refine (oz HW _).mono ?_
 rintro e w1 ⟨a,c,rfl,hrow,hcap,hb1⟩
 have HX:Hz (Bx2 w1 W.heap.size):=kz ((zfl W).below hb1)
 have HB:Hz (Below W.heap.size W w1):=kz ((((Below.refl W.heap.size W).alloc (Nat.le_refl _) _).alloc (by simp) _).trans (hb1.mono (by simp;omega)))
 have HROW:=kz hrow
 have HCAP:=kz hcap
 clear hrow hcap hb1 HW
 go_wp2_with fail
 have hsz:W.heap.size+1 < w1.heap.size:=(oz HX).2.lt
 generalize hws:zcI s=ws at *
 obtain ⟨g,hst⟩:=zhu (oz HROW) (oz HCAP) (by have:=oz HLN;omega)
 have HX3:Hz (Bx2 (w1.alloc (.cells #[.slice a ws.length c,.int .i64 0,.int .i64 (-1),.slice none 0 0,.slice none 0 0,.slice none 0 0,.slice none 0 0,.slice none 0 0,.slice none 0 0,.slice none 0 0,.slice none 0 0,.slice none 0 0,.slice none 0 0,.slice none 0 0,.slice none 0 0,.slice none 0 0,.slice none 0 0,.slice none 0 0,.slice none 0 0,.slice none 0 0] 121)) W.heap.size):=kz ⟨(oz HX).1.alloc _,(oz HX).2.alloc _⟩
 have HB3:Hz (Below W.heap.size W (w1.alloc (.cells #[.slice a ws.length c,.int .i64 0,.int .i64 (-1),.slice none 0 0,.slice none 0 0,.slice none 0 0,.slice none 0 0,.slice none 0 0,.slice none 0 0,.slice none 0 0,.slice none 0 0,.slice none 0 0,.slice none 0 0,.slice none 0 0,.slice none 0 0,.slice none 0 0,.slice none 0 0,.slice none 0 0,.slice none 0 0,.slice none 0 0] 121))):=kz ((oz HB).alloc (oz HB).size _)
 have hl3:(w1.alloc (.cells #[.slice a ws.length c,.int .i64 0,.int .i64 (-1),.slice none 0 0,.slice none 0 0,.slice none 0 0,.slice none 0 0,.slice none 0 0,.slice none 0 0,.slice none 0 0,.slice none 0 0,.slice none 0 0,.slice none 0 0,.slice none 0 0,.slice none 0 0,.slice none 0 0,.slice none 0 0,.slice none 0 0,.slice none 0 0,.slice none 0 0] 121)).heap.size=w1.heap.size+1:=by simp
 generalize w1.alloc (.cells #[.slice a ws.length c,.int .i64 0,.int .i64 (-1),.slice none 0 0,.slice none 0 0,.slice none 0 0,.slice none 0 0,.slice none 0 0,.slice none 0 0,.slice none 0 0,.slice none 0 0,.slice none 0 0,.slice none 0 0,.slice none 0 0,.slice none 0 0,.slice none 0 0,.slice none 0 0,.slice none 0 0,.slice none 0 0,.slice none 0 0] 121)=W3 at *
 obtain ⟨R,hR⟩:∃ R,R=w1.heap.size:=⟨_,rfl⟩
 rw [← hR] at hst hl3 hsz ⊢
 have HST:=kz hst
 have HL0:Hz (LpI ws (s.size:Nat) (zcl s) (zcm s) F (-1) 0 TV0):=kz (.inl ⟨rfl,_,oz HF⟩)
 clear hst HF HX HB HROW HCAP hR hws
 go_loopw [30,31,32,33,34,35,36,37,38,39,40,41,42,43,44,45] (fun _ _ _ _ _ _ _ _ _ _ _ _ _ _ _ _ wr => ∃ (k:Nat) (bi:Int) (T:TV),Hz (LpI ws (s.size:Nat) (zcl s) (zcm s) F bi k T)∧Hz (zfR W3 wr (R+1) R g a c ws k bi T))
  (fun _ _ _ _ _ _ _ _ _ _ _ _ _ _ _ _ wr =>measR wr R ws.length)
 case atStart =>exact ⟨0, -1,TV0,HL0,HST⟩
 case round =>
  obtain ⟨k,bi,T,HL,HK0⟩:=hrel
  clear HL0 HST
  obtain ⟨c0,c1,c2⟩:=(oz HK0).choose_spec.1.cells
  have HM:=kz (zc4 (oz HK0).choose_spec.1 ws.length)
  have hkn:=(oz HK0).choose_spec.1.kn
  rcases oz HL with ⟨rfl,f,hg⟩ | ⟨j,hj,rfl,hFb⟩
  ·cases hx:ws[k]? with
   | none =>
    exact absurd (oz HQ) (by rw [hg.stop (.inr hx)];rintro ⟨f,e,_⟩;cases e)
   | some x =>
    have hlt:=(List.getElem?_eq_some_iff.1 hx).1
    have n1:((k:Nat):Int) < (ws.length:Int):=by omega
    have HLT:=kz hlt
    have HX1:=kz hx
    have HG:=kz hg
    clear hg hx HL hkn hlt
    by_cases hr:zaB x.S=0
    ·have HRU:=kz (rk_no (R+1) R g a c ws (s.size:Nat) (zcl s) (zcm s) k x T (oz HX1) hr W3 wr (oz HK0))
     have HNO:=kz (fun k' =>LpI.no (k':=k') (oz HG) (oz HX1) hr)
     clear hr
     go_wp2_with fail
     refine (oz HRU).mono ?_
     rintro e w4 ⟨⟨r,rfl⟩,k',hk',hst⟩
     have HS4:=kz hst
     have HM4:=kz (zc4 hst.choose_spec.1 ws.length)
     clear hst
     go_wp2_with fail
     go_roundw
     case rel =>exact ⟨k',(k:Int),T,kz (oz HNO k'),HS4⟩
     case measure =>
      have:=oz HLT
      rw [oz HM4,oz HM,if_neg (by omega),if_pos (by omega)]
      omega
    ·have HRU:=kz (rk_any (R+1) R g a c ws (s.size:Nat) (zcl s) (zcm s) k x T (oz HG).tl (oz HX1) (oz HN x (List.mem_of_getElem? (oz HX1)) hr) hr W3 wr (oz HK0))
     have HNX:=kz (fun b2 =>LpI.next (b2:=b2) (oz HG) (oz HX1) hr)
     have HRL:=kz (zea ws (s.size:Nat) (zcl s) (zcm s) k x (oz HX1) T (oz HG).tl hr)
     clear hr
     generalize zau ws (s.size:Nat) (zcl s) (zcm s) k x T=V at *
     go_wp2_with fail
     refine (oz HRU).mono ?_
     rintro e w4 ⟨⟨r,rfl⟩,b2,hB,hst⟩
     have HS4:=kz hst
     have HL4:=kz (oz HNX b2 hB)
     have HM4:=kz (zc4 hst.choose_spec.1 ws.length)
     clear hst hB
     go_wp2_with fail
     go_roundw
     case rel =>exact ⟨V.k,b2,V.T,HL4,HS4⟩
     case measure =>
      have:=oz HLT
      have:=oz HRL
      rw [oz HM4,oz HM,if_pos (show (-1:Int) < 0 by omega)]
      split <;> omega
  ·have n1:¬ ((j:Nat):Int) < 0:=by omega
   have n0:(0:Int)≤(j:Int):=by omega
   obtain ⟨vs,hat,hfr⟩:=oz HK0
   have HX1:Hz (Bx2 wr W.heap.size):=kz ((oz HX3).fr hfr (by omega) (by omega))
   have HB1:Hz (Below W.heap.size W wr):=kz (zeV (oz HB3) hfr (by omega) (by omega))
   by_cases hjl:j=ws.length
   ·exact absurd (oz HQ) (by rw [hFb];rintro ⟨f,e,h2⟩;cases e;unfold zeA at h2;rw [List.getElem?_eq_none (by omega)] at h2;exact absurd (show (21:Int)=5 from h2) (by decide))
   ·obtain ⟨x,hx⟩:∃ x,ws[j]?=some x:=⟨_,List.getElem?_eq_getElem (by omega)⟩
    have q0:((j:Int) == (ws.length:Int))=false:=by simp;omega
    have n2:(j:Int) < (ws.length:Int):=by omega
    obtain ⟨rfl,hgl,hgR⟩:=hat.ptr (by omega)
    obtain ⟨b,hb,z1,z2,z3⟩:=oz HWS j x hx
    have cx:wr.cell? ⟨g,j*6+4,none⟩=some (.int .i64 x.b):=hat.words j x hx 4 _ rfl
    rw [z1] at cx
    have HFB:Hz (F.bad=some ⟨(b:Nat),((whL s b).1:Nat),((whL s b).2:Nat),5⟩):=kz (by rw [hFb];unfold zeA;rw [hx];show some (⟨x.b,x.l,x.c,5⟩:Rf)=_;rw [z1,z2,z3])
    have HCW:=kz (oz HWH b hb)
    have hcap:=hat.cap
    generalize whL s b=L at *
    obtain ⟨L1,L2⟩:=L
    clear hFb HL hkn HM c1 c0 hat hfr HK0 hj hjl hx z1 z2 z3 hb
    go_wp2_with fail
    refine (oz HCW _).mono ?_
    rintro e w2 ⟨rfl,hb2⟩
    have HX2:Hz (Bx2 w2 W.heap.size):=kz ((oz HX1).below hb2)
    have HB2:Hz (Below W.heap.size W w2):=kz ((oz HB1).trans (hb2.mono (oz HB1).size))
    clear hb2 HCW HX1 HB1
    have x54:=(oz HX2).1
    have x56:=(oz HX2).2
    have e0:=x54.cell 0
    have f0:=x54.frozen 0
    have e1:=x54.cell 1
    have f1:=x54.frozen 1
    have e2:=x54.cell 2
    have f2:=x54.frozen 2
    have e3:=x54.cell 3
    have f3:=x54.frozen 3
    have e4:=x54.cell 4
    have f4:=x54.frozen 4
    have e5:=x54.cell 5
    have f5:=x54.frozen 5
    have e6:=x54.cell 6
    have f6:=x54.frozen 6
    have e7:=x54.cell 7
    have f7:=x54.frozen 7
    have e8:=x54.cell 8
    have f8:=x54.frozen 8
    have e9:=x54.cell 9
    have f9:=x54.frozen 9
    have e10:=x54.cell 10
    have f10:=x54.frozen 10
    have e11:=x54.cell 11
    have f11:=x54.frozen 11
    have e12:=x54.cell 12
    have f12:=x54.frozen 12
    have e13:=x54.cell 13
    have f13:=x54.frozen 13
    have e14:=x54.cell 14
    have f14:=x54.frozen 14
    have e15:=x54.cell 15
    have f15:=x54.frozen 15
    have e16:=x54.cell 16
    have f16:=x54.frozen 16
    have g0:=x56.cell 0
    have h0:=x56.frozen 0
    have g1:=x56.cell 1
    have h1:=x56.frozen 1
    have g2:=x56.cell 2
    have h2:=x56.frozen 2
    clear x54 x56
    go_wp2_with fail
    have K:=fin2 (oz HX2) (Value.slice none 0 0) (Value.slice none 0 0) (Value.slice none 0 0) (Value.slice none 0 0) (Value.slice none 0 0) (Value.slice none 0 0) (Value.slice none 0 0) (Value.slice none 0 0) (Value.slice none 0 0) (Value.slice none 0 0) (Value.slice none 0 0) (Value.slice none 0 0) (Value.slice none 0 0) (Value.slice none 0 0) (Value.slice none 0 0) (Value.slice none 0 0) (Value.slice none 0 0) (Value.int .i64 ((b:Nat):Int)) (Value.int .i64 ((L1:Nat):Int)) (Value.int .i64 ((L2:Nat):Int))
    generalize ((((((((((((((((((((w2.setCell ⟨W.heap.size,0,none⟩ (Value.slice none 0 0)).setCell ⟨W.heap.size,1,none⟩ (Value.slice none 0 0)).setCell ⟨W.heap.size,2,none⟩ (Value.slice none 0 0)).setCell ⟨W.heap.size,3,none⟩ (Value.slice none 0 0)).setCell ⟨W.heap.size,4,none⟩ (Value.slice none 0 0)).setCell ⟨W.heap.size,5,none⟩ (Value.slice none 0 0)).setCell ⟨W.heap.size,6,none⟩ (Value.slice none 0 0)).setCell ⟨W.heap.size,7,none⟩ (Value.slice none 0 0)).setCell ⟨W.heap.size,8,none⟩ (Value.slice none 0 0)).setCell ⟨W.heap.size,9,none⟩ (Value.slice none 0 0)).setCell ⟨W.heap.size,10,none⟩ (Value.slice none 0 0)).setCell ⟨W.heap.size,11,none⟩ (Value.slice none 0 0)).setCell ⟨W.heap.size,12,none⟩ (Value.slice none 0 0)).setCell ⟨W.heap.size,13,none⟩ (Value.slice none 0 0)).setCell ⟨W.heap.size,14,none⟩ (Value.slice none 0 0)).setCell ⟨W.heap.size,15,none⟩ (Value.slice none 0 0)).setCell ⟨W.heap.size,16,none⟩ (Value.slice none 0 0)).setCell ⟨W.heap.size+1,0,none⟩ (Value.int .i64 ((b:Nat):Int))).setCell ⟨W.heap.size+1,1,none⟩ (Value.int .i64 ((L1:Nat):Int))).setCell ⟨W.heap.size+1,2,none⟩ (Value.int .i64 ((L2:Nat):Int)))=w3 at K ⊢
    have r0:=K.b1.cell 0
    have r1:=K.b1.cell 1
    have r2:=K.b1.cell 2
    have r3:=K.b1.cell 3
    have r4:=K.b1.cell 4
    have r5:=K.b1.cell 5
    have r6:=K.b1.cell 6
    have r7:=K.b1.cell 7
    have r8:=K.b1.cell 8
    have r9:=K.b1.cell 9
    have r10:=K.b1.cell 10
    have r11:=K.b1.cell 11
    have r12:=K.b1.cell 12
    have r13:=K.b1.cell 13
    have r14:=K.b1.cell 14
    have r15:=K.b1.cell 15
    have r16:=K.b1.cell 16
    have s0:=K.b2.cell 0
    have s1:=K.b2.cell 1
    have s2:=K.b2.cell 2
    have HK:=kz K
    clear K e0 f0 e1 f1 e2 f2 e3 f3 e4 f4 e5 f5 e6 f6 e7 f7 e8 f8 e9 f9 e10 f10 e11 f11 e12 f12 e13 f13 e14 f14 e15 f15 e16 f16 g0 g1 g2 h0 h1 h2
    exact bodyPost_ret (v := .tuple #[.agg #[Value.slice none 0 0,Value.slice none 0 0,Value.slice none 0 0,Value.slice none 0 0,Value.slice none 0 0,Value.slice none 0 0,Value.slice none 0 0,Value.slice none 0 0,Value.slice none 0 0,Value.slice none 0 0,Value.slice none 0 0,Value.slice none 0 0,Value.slice none 0 0,Value.slice none 0 0,Value.slice none 0 0,Value.slice none 0 0,Value.slice none 0 0],.agg #[Value.int .i64 ((b:Nat):Int),Value.int .i64 ((L1:Nat):Int),Value.int .i64 ((L2:Nat):Int)],.int .i64 5]) (by simp [results,Tryz.results16,go_sem,r0,r1,r2,r3,r4,r5,r6,r7,r8,r9,r10,r11,r12,r13,r14,r15,r16,s0,s1,s2]) rfl ⟨by unfold RpAt;rw [oz HFB];rfl,(oz HB2).trans (oz HK).be⟩
theorem ze5 (p:Nat→Bool) (hi:Nat):∀ k n,hi≤n+k→∀ j,n≤j→j < za2 p hi n→p j=true∧j < hi
 | 0,n,h,j,h1,h2 =>by rw [zaC (by omega)] at h2;omega
 | k+1,n,h,j,h1,h2 =>by
  by_cases hn:n < hi
  ·cases hp:p n with
   | true =>
    rw [zbx hn hp] at h2
    by_cases e:j=n
    ·subst e;exact ⟨hp,hn⟩
    ·exact ze5 p hi k (n+1) (by omega) j (by omega) h2
   | false =>rw [zbb hp] at h2;omega
  ·rw [zaC hn] at h2;omega
theorem zdl {c:Nat} (h:zdN c=false):zcd c=false∧zcr c=false∧hxB c=false:=by
 refine ⟨?_, ?_, ?_⟩
 ·cases q:zcd c
  ·rfl
  ·rw [zdR q] at h;cases h
 ·cases q:zcr c
  ·rfl
  ·rw [zhm q] at h;cases h
 ·cases q:hxB c
  ·rfl
  ·rw [zhl q] at h;cases h
theorem zhM {u:ByteArray} {n:Nat} (h:n=u.size∨zdN (bt u n)=false):za9 u n=true:=by
 unfold za9
 rcases h with h | h
 ·rw [decide_eq_true h];rfl
 ·rw [h];simp
theorem zgY {t u:ByteArray} {n:Nat} (ht:n≤t.size) (hu:n≤u.size) (hb:∀ i,i < n→bt u i=bt t i):u.extract 0 n=t.extract 0 n:=by
 refine zev _ _ (by rw [ByteArray.size_extract,ByteArray.size_extract];omega) (fun j hj =>?_)
 rw [ByteArray.size_extract] at hj
 rw [zdK u n j (by omega) hu,zdK t n j (by omega) ht]
 exact hb j (by omega)
theorem zjZ {t:ByteArray} (h:zaP (bt t 0)=true):zac t=⟨1,t.extract 0 (zao t),0,0,zao t,za9 t (zao t)⟩:=by unfold zac;rw [if_pos h]
theorem name_local {t u:ByteArray} (hs:zaP (bt t 0)=true) (ht:0 < t.size) (hn:zao t≤u.size) (hb:∀ i,i < zao t→bt u i=bt t i) (he:zao t=u.size∨zdN (bt u (zao t))=false):zao u=zao t:=by
 have e1:zao t=za2 (fun n =>zcd (bt t n)) (min t.size 32) 1:=by unfold zao;rw [if_neg (fun q =>q.elim (by omega) (fun q =>by rw [hs] at q;cases q))]
 have h1:1≤zao t:=by rw [e1];exact (zbT _ (by omega)).1
 have h32:=(zdm t).2
 have hs2:zaP (bt u 0)=true:=by rw [hb 0 (by omega)];exact hs
 have e2:zao u=za2 (fun n =>zcd (bt u n)) (min u.size 32) 1:=by unfold zao;rw [if_neg (fun q =>q.elim (by omega) (fun q =>by rw [hs2] at q;cases q))]
 have hm:∀ j,1≤j→j < zao t→zcd (bt u j)=true:=fun j h2 h3 =>by
  rw [hb j h3]
  rw [e1] at h3
  exact (ze5 (fun n =>zcd (bt t n)) (min t.size 32) (min t.size 32) 1 (by omega) j h2 h3).1
 rw [e2,zcG (p:=fun n =>zcd (bt u n)) (hi:=min u.size 32) (m:=zao t) (zao t - 1) 1 (by omega) (by omega) hm]
 by_cases hl:zao t < min u.size 32
 ·refine zbb (p:=fun n =>zcd (bt u n)) ?_
  rcases he with he | he
  ·omega
  ·exact (zdl he).1
 ·exact zaC hl
theorem ziw {t u:ByteArray} {V n:Nat} (hn:n≤u.size) (hb:∀ i,i < n→bt u i=bt t i) (he:n=u.size∨zdN (bt u n)=false):∀ f v k,t.size≤k+f→k≤t.size→zcW t v k=(V,n)→zcW u v k=(V,n)
 | 0,v,k,h,hk,hg =>by
  rw [za5 (by omega),Prod.mk.injEq] at hg
  rw [za5,hg.1,hg.2]
  rw [hg.2]
  rcases he with he | he
  ·omega
  ·intro q;rw [(zdl he).2.1] at q;cases q.2.1
 | f+1,v,k,h,hk,hg =>by
  by_cases hc:k < t.size∧zcr (bt t k)=true∧0 < v∧v*10+(bt t k - 48)≤65535
  ·rw [zed hc.1 hc.2.1 hc.2.2.1 hc.2.2.2] at hg
   have hle:=(zeK t t.size (v*10+(bt t k - 48)) (k+1) (by omega) (by omega)).1
   rw [hg] at hle
   have hkn:k < n:=hle
   rw [zed (by omega) (by rw [hb k hkn];exact hc.2.1) hc.2.2.1 (by rw [hb k hkn];exact hc.2.2.2),hb k hkn]
   exact ziw hn hb he f _ (k+1) (by omega) (by omega) hg
  ·rw [za5 hc,Prod.mk.injEq] at hg
   rw [za5,hg.1,hg.2]
   rw [hg.2]
   rcases he with he | he
   ·omega
   ·intro q;rw [(zdl he).2.1] at q;cases q.2.1
theorem zgT {t u:ByteArray} {V n:Nat} (h3:3≤n) (hn:n≤u.size) (hb:∀ i,i < n→bt u i=bt t i) (he:n=u.size∨zdN (bt u n)=false):∀ f v k,t.size≤k+f→k≤t.size→zaO t v k=(V,n)→zaO u v k=(V,n)
 | 0,v,k,h,hk,hg =>by
  rw [zaH (by omega),Prod.mk.injEq] at hg
  rw [zaH,hg.1,hg.2]
  rw [hg.2]
  rcases he with he | he
  ·omega
  ·intro q;have:=zdz.2 q.2.2.1;rw [(zdl he).2.2] at this;cases this
 | f+1,v,k,h,hk,hg =>by
  by_cases hc:k < t.size∧(k < 6∨bt t 2≠48)∧0≤zbM (bt t k)∧v*16+(zbM (bt t k)).toNat≤1114111
  ·rw [zcO hc] at hg
   have hle:=(zgd t t.size (v*16+(zbM (bt t k)).toNat) (k+1) (by omega) (by omega)).1
   rw [hg] at hle
   have hkn:k < n:=hle
   have hc2:k < u.size∧(k < 6∨bt u 2≠48)∧0≤zbM (bt u k)∧v*16+(zbM (bt u k)).toNat≤1114111:=⟨by omega,by rw [hb 2 (by omega)];exact hc.2.1,by rw [hb k hkn];exact hc.2.2.1,by rw [hb k hkn];exact hc.2.2.2⟩
   rw [zcO hc2,hb k hkn]
   exact zgT h3 hn hb he f _ (k+1) (by omega) (by omega) hg
  ·rw [zaH hc,Prod.mk.injEq] at hg
   rw [zaH,hg.1,hg.2]
   rw [hg.2]
   rcases he with he | he
   ·omega
   ·intro q;have:=zdz.2 q.2.2.1;rw [(zdl he).2.2] at this;cases this
theorem dots_mk (t:ByteArray) (h:2≤t.size) (h0:bt t 0=46) (h1:bt t 1=46):zej t=true:=by
 unfold zej Lib.hasPrefix
 rw [List.isPrefixOf_iff_prefix]
 have e:t.data.toList=[t.get! 0,t.get! 1]++t.data.toList.drop 2:=by
  rw [show t.data.toList=t.data.toList.drop 0 from rfl,zd5 t 0 (by omega),zd5 t 1 (by omega)]
  rfl
 have g0:t.get! 0=46:=by rw [← UInt8.toNat_inj];exact h0
 have g1:t.get! 1=46:=by rw [← UInt8.toNat_inj];exact h1
 rw [e,g0,g1]
 exact ⟨_,rfl⟩
theorem zjM {t u:ByteArray} {m:Nat} (hm:wd t 0≤m) (ht:m≤t.size) (hu:m≤u.size) (h0:0 < m) (hb:∀ i,i < m→bt u i=bt t i) (hg:¬ (rn t 0=65533∧wd t 0=1)):Utf8.decode u 0=Utf8.decode t 0:=by
 have e:=zgY ht hu hb
 have hz:(t.extract 0 m).size=m:=by rw [ByteArray.size_extract];omega
 have h1:=zdE (t.extract 0 m) (t.extract m t.size) 0 (by omega) (by rw [zdt t m ht,hz];omega)
 rw [zdt t m ht] at h1
 have h2:=zci (u.extract 0 m) (u.extract m u.size) 0 (by rw [e];omega) (by rw [e];unfold rn wd;rw [h1];exact hg)
 rw [zdt u m hu] at h2
 rw [h2,e,h1]
theorem quo_local {t u:ByteArray} (ht:0 < t.size) (ho:(zcV t).2.2=true) (hn:(zcV t).2.1≤u.size) (hb:∀ i,i < (zcV t).2.1→bt u i=bt t i):zcV u=zcV t:=by
 have hle:=zjo t ht
 unfold zcV at ho
 split at ho
 ·cases ho
 ·rename_i h1
  split at ho
  ·cases ho
  ·rename_i h2
   split at ho
   ·cases ho
   ·rename_i h3
    split at ho
    ·cases ho
    ·rename_i h4
     split at ho
     ·rename_i h5
      have ev:zcV t=(rn (tl1 t) 0,wd (tl1 t) 0+2,true):=by unfold zcV;rw [if_neg h1,if_neg h2,if_neg h3,if_neg h4,if_pos h5]
      rw [ev] at hn hb hle ⊢
      have hn':wd (tl1 t) 0+2≤u.size:=hn
      have hb':∀ i,i < wd (tl1 t) 0+2→bt u i=bt t i:=hb
      have hle':wd (tl1 t) 0+2≤t.size:=hle.2
      have zt:=zfH t
      have zu:=zfH u
      have hp:=zbh (tl1 t) 0
      have hbt:∀ i,i < wd (tl1 t) 0+1→bt (tl1 u) i=bt (tl1 t) i:=fun i hi =>by
       rw [zj1 u i (by omega),zj1 t i (by omega)]
       exact hb' (1+i) (by omega)
      have hwb:zb1 (tl1 t)=true:=Bool.eq_false_or_eq_true _ |>.resolve_right h3
      have hg:¬ (rn (tl1 t) 0=65533∧wd (tl1 t) 0=1):=by
       unfold zb1 zbe at hwb
       simp at hwb
       intro q
       rcases hwb.2 with h | h
       ·exact h q.1
       ·exact h q.2
      have hd:=zjM (t:=tl1 t) (u:=tl1 u) (m:=wd (tl1 t) 0+1) (by omega) (by omega) (by omega) (by omega) hbt hg
      have r0:rn (tl1 u) 0=rn (tl1 t) 0:=by unfold rn;rw [hd]
      have w0:wd (tl1 u) 0=wd (tl1 t) 0:=by unfold wd;rw [hd]
      have hwu:zb1 (tl1 u)=true:=by
       unfold zb1 zbe
       rw [r0,w0,decide_eq_true (by omega),decide_eq_false hg]
       rfl
      have h5u:rn (tl1 u) (wd (tl1 u) 0)=39:=by
       rw [zll,w0,hbt _ (by omega), ← zll]
       exact h5
      unfold zcV
      rw [if_neg (by omega),r0,if_neg h2,hwu,if_neg (by decide),if_neg (by rw [w0];omega),if_pos h5u,w0]
     ·cases ho
theorem sgn_local {t u:ByteArray} (ht:0 < t.size) (ho:(zck t).2.2=true) (hn:(zck t).2.1≤u.size) (hb:∀ i,i < (zck t).2.1→bt u i=bt t i):zck u=zck t:=by
 have h1:=(sgnV_le t ht).2 ho
 have h0:bt u 0=bt t 0:=hb 0 (by omega)
 by_cases hd:bt t 0=46
 ·have hdt:zej t=true:=by
   cases q:zej t
   ·unfold zck at ho
    rw [hd,q] at ho
    cases ho
   ·rfl
  have ev:zck t=(9,2,true):=by
   unfold zck
   rw [hd,hdt]
   rfl
  rw [ev] at hn hb ⊢
  have hn':2≤u.size:=hn
  have hdu:zej u=true:=dots_mk u hn' (by rw [h0];exact hd) (by rw [hb 1 (by show 1 < 2;omega)];exact zjL t hdt)
  unfold zck
  rw [h0,hd,hdu]
  rfl
 ·unfold zck
  rw [h0]
  simp only [if_neg hd]
theorem zkX {t u:ByteArray} (ht:0 < t.size) (ho:(zac t).ok=true) (hn:(zac t).n≤u.size) (hb:∀ i,i < (zac t).n→bt u i=bt t i) (he:(zaP (bt t 0)=true∨zcr (bt t 0)=true∨bt t 0=85)→(zac t).n=u.size∨zdN (bt u (zac t).n)=false):zac u=zac t:=by
 have hpos:=(zb0 t ht).2 ho
 have hle:=(zb0 t ht).1
 have h0:bt u 0=bt t 0:=hb 0 (by omega)
 by_cases hs:zaP (bt t 0)=true
 ·have ev:=zjZ hs
  have he':=he (.inl hs)
  rw [ev] at hn hb he' hle ho ⊢
  simp only at hn hb he' hle ho
  have hnl:=name_local hs ht hn hb he'
  rw [zjZ (t:=u) (by rw [h0];exact hs),hnl,zhM he',zgY hle hn hb,ho]
 ·by_cases hd:zcr (bt t 0)=true
  ·have ev:zac t=⟨2,ByteArray.empty,0,(zcH t).1,(zcH t).2,za9 t (zcH t).2⟩:=by unfold zac;rw [if_neg hs,if_pos hd]
   have eu:zac u=⟨2,ByteArray.empty,0,(zcH u).1,(zcH u).2,za9 u (zcH u).2⟩:=by unfold zac;rw [h0,if_neg hs,if_pos hd]
   have he':=he (.inr (.inl hd))
   rw [ev] at hn hb he' hle ho
   simp only at hn hb he' hle ho
   have hnv:zcH u=zcH t:=by
    have:=ziw (V:=(zcH t).1) (n:=(zcH t).2) hn hb he' t.size (bt t 0 - 48) 1 (by omega) (by omega) rfl
    unfold zcH
    rw [h0]
    exact this
   rw [eu,ev,hnv,ho,zhM he']
  ·by_cases hu:bt t 0=85
   ·have ev:zac t=⟨3,ByteArray.empty,(zax t).1,0,(zax t).2.1,(zax t).2.2 && za9 t (zax t).2.1⟩:=by unfold zac;rw [if_neg hs,if_neg hd,if_pos hu]
    have eu:zac u=⟨3,ByteArray.empty,(zax u).1,0,(zax u).2.1,(zax u).2.2 && za9 u (zax u).2.1⟩:=by unfold zac;rw [h0,if_neg hs,if_neg hd,if_pos hu]
    have he':=he (.inr (.inr hu))
    rw [ev] at hn hb he' hle ho
    simp only at hn hb he' hle ho
    have ho2:=(Bool.and_eq_true _ _).mp ho
    have hnv:zax u=zax t:=by
     have hok:=ho2.1
     unfold zax at hok
     split at hok
     ·cases hok
     ·rename_i g1
      split at hok
      ·cases hok
      ·rename_i g2
       have evd:zax t=((zaO t 0 2).1,(zaO t 0 2).2,true):=by unfold zax;rw [if_neg g1,if_neg g2]
       rw [evd] at hn hb he' ⊢
       simp only at hn hb he'
       have hg:=zgT (V:=(zaO t 0 2).1) (n:=(zaO t 0 2).2) (by omega) hn hb he' t.size 0 2 (by omega) (by omega) rfl
       have h1:=hb 1 (by omega)
       unfold zax
       rw [hg,h1,if_neg (fun q =>q.elim (fun q =>by omega) (fun q =>g1 (.inr q))),if_neg g2]
    rw [eu,ev,hnv,ho,ho2.1,zhM he']
    rfl
   ·by_cases hq:bt t 0=39
    ·have ev:zac t=⟨3,ByteArray.empty,(zcV t).1,0,(zcV t).2.1,(zcV t).2.2⟩:=by unfold zac;rw [if_neg hs,if_neg hd,if_neg hu,if_pos hq]
     have eu:zac u=⟨3,ByteArray.empty,(zcV u).1,0,(zcV u).2.1,(zcV u).2.2⟩:=by unfold zac;rw [h0,if_neg hs,if_neg hd,if_neg hu,if_pos hq]
     rw [ev] at hn hb ho
     rw [eu,ev,quo_local ht ho hn hb]
    ·have ev:zac t=⟨(zck t).1,ByteArray.empty,0,0,(zck t).2.1,(zck t).2.2⟩:=by unfold zac;rw [if_neg hs,if_neg hd,if_neg hu,if_neg hq]
     have eu:zac u=⟨(zck u).1,ByteArray.empty,0,0,(zck u).2.1,(zck u).2.2⟩:=by unfold zac;rw [h0,if_neg hs,if_neg hd,if_neg hu,if_neg hq]
     rw [ev] at hn hb ho
     rw [eu,ev,sgn_local ht ho hn hb]
def mkW (s:ByteArray) (q:Nat):Wd:=⟨zac (rst s q),q,(zdI s q).1,(zdI s q).2,q+(zac (rst s q)).n⟩
def zkP (s:ByteArray):Nat→Nat→Option (List Nat)
 | 0,_ =>none
 | f + 1, b => if (zcS s b).2 = false then none else if (zcS s b).1 = s.size then some [] else if (zac (rst s (zcS s b).1)).ok = false then none
   else (zkP s f ((zcS s b).1+(zac (rst s (zcS s b).1)).n)).map ((zcS s b).1 :: ·)
theorem zkO {s:ByteArray} {f b:Nat} (h:(zcS s b).2=false):zkP s (f+1) b=none:=by rw [zkP,if_pos h]
theorem zkN {s:ByteArray} {f b:Nat} (h:(zcS s b).2=true) (he:(zcS s b).1=s.size):zkP s (f+1) b=some []:=by rw [zkP,if_neg (by rw [h];decide),if_pos he]
theorem cutP_no {s:ByteArray} {f b:Nat} (h:(zcS s b).2=true) (he:(zcS s b).1≠s.size) (ho:(zac (rst s (zcS s b).1)).ok=false):zkP s (f+1) b=none:=by rw [zkP,if_neg (by rw [h];decide),if_neg he,if_pos ho]
theorem cutP_go {s:ByteArray} {f b:Nat} (h:(zcS s b).2=true) (he:(zcS s b).1≠s.size) (ho:(zac (rst s (zcS s b).1)).ok=true):zkP s (f+1) b=(zkP s f ((zcS s b).1+(zac (rst s (zcS s b).1)).n)).map ((zcS s b).1 :: ·):=by rw [zkP,if_neg (by rw [h];decide),if_neg he,if_neg (by rw [ho];decide)]
theorem gapA_le (s:ByteArray) (b:Nat) (h:b≤s.size):b≤(zcS s b).1∧(zcS s b).1≤s.size:=ziM s b h
theorem word_at (s:ByteArray) (q:Nat) (hq:q < s.size) (ho:(zac (rst s q)).ok=true):1≤(zac (rst s q)).n∧q+(zac (rst s q)).n≤s.size∧bdB s q=true∧bdB s (q+(zac (rst s q)).n)=true∧zca (bt s q)=false∧bt s q≠35:=by
 have hp:0 < (rst s q).size:=by rw [zah];omega
 have hle:=zb0 (rst s q) hp
 rw [zah] at hle
 have hn:=hle.2 ho
 have e0:bt (rst s q) 0=bt s q:=zaK s q 0 (by omega)
 have hf:=zgD _ ho
 rw [e0] at hf
 have hl:=zhU _ hp ho
 rw [zaK s q _ (by omega)] at hl
 have hnx:bdB s (q+(zac (rst s q)).n)=true:=by
  have:=bd_next s (q+((zac (rst s q)).n - 1)) (by omega) hl
  rwa [show q+((zac (rst s q)).n - 1)+1=q+(zac (rst s q)).n by omega] at this
 have hbl:¬ (zca (bt s q)=true∨bt s q=35):=by
  intro h
  have hc:bt (rst s q) 0=9∨bt (rst s q) 0=10∨bt (rst s q) 0=13∨bt (rst s q) 0=32∨bt (rst s q) 0=35:=by
   rw [e0]
   unfold zca at h
   simp at h
   omega
  have:(zac (rst s q)).ok=false:=by
   unfold zac zck
   rcases hc with h | h | h | h | h <;> (rw [h];rfl)
  rw [this] at ho
  cases ho
 refine ⟨hn,by omega,zhQ s q hf,hnx, ?_,fun h =>hbl (.inr h)⟩
 cases hb:zca (bt s q)
 ·rfl
 ·exact absurd (.inl hb) hbl
theorem cut_P (s:ByteArray):∀ f b ws,b≤s.size→bdB s b=true→(∀ ps,zkP s f b=some ps→(cutGo s f b (zdI s b) ws).ok=true∧(cutGo s f b (zdI s b) ws).ws=ws++ps.map (mkW s))∧(zkP s f b=none→(cutGo s f b (zdI s b) ws).ok=false)
 | 0,b,ws,hb,hd =>⟨fun ps h =>by (cases h),fun _ =>rfl⟩
 | f+1,b,ws,hb,hd =>by
  have hg:=gapA_le s b hb
  have hgl:gLC s b (zdI s b)=zdI s (gB s b):=by
   unfold gLC
   rw [zks s b _ (by have:=hg.2;exact this) hd]
   rfl
  cases h1:(zcS s b).2
  ·have h1':(zd2 (rst s b)).2=false:=h1
   rw [zkO h1]
   unfold cutGo
   rw [if_pos h1']
   exact ⟨fun ps h =>by (cases h),fun _ =>rfl⟩
  ·have h1':¬ (zd2 (rst s b)).2=false:=by rw [show (zd2 (rst s b)).2=true from h1];decide
   by_cases he:(zcS s b).1=s.size
   ·rw [zkN h1 he]
    have he':(rst s (gB s b)).size=0:=by rw [zah];have:gB s b=s.size:=he;omega
    unfold cutGo
    rw [if_neg h1',if_pos he']
    exact ⟨fun ps h =>by cases h;exact ⟨rfl,by simp⟩,fun h =>by cases h⟩
   ·have hq:gB s b < s.size:=by have h9:gB s b≠s.size:=he;have h8:gB s b≤s.size:=hg.2;omega
    have he':¬ (rst s (gB s b)).size=0:=by rw [zah];omega
    cases h2:(zac (rst s (zcS s b).1)).ok
    ·have h2':(zac (rst s (gB s b))).ok=false:=h2
     rw [cutP_no h1 he h2]
     unfold cutGo
     rw [if_neg h1',if_neg he',if_pos h2']
     exact ⟨fun ps h =>by (cases h),fun _ =>rfl⟩
    ·have h2':(zac (rst s (gB s b))).ok=true:=h2
     obtain ⟨hn,hle,hbq,hbn,_,_⟩:=word_at s (gB s b) hq h2'
     have ih:=cut_P s f (gB s b+(zac (rst s (gB s b))).n) (ws++[mkW s (gB s b)]) hle hbn
     have e:cutGo s (f+1) b (zdI s b) ws=cutGo s f (gB s b+(zac (rst s (gB s b))).n) (zdI s (gB s b+(zac (rst s (gB s b))).n)) (ws++[mkW s (gB s b)]):=by
      conv =>lhs;unfold cutGo
      rw [if_neg h1',if_neg he',if_neg (by rw [h2'];decide),hgl,zks s _ _ hle hbq]
      rfl
     rw [e,cutP_go h1 he h2]
     refine ⟨fun ps h =>?_,fun h =>?_⟩
     ·obtain ⟨qs,h3,rfl⟩:=Option.map_eq_some_iff.1 h
      obtain ⟨i1,i2⟩:=ih.1 qs h3
      refine ⟨i1, ?_⟩
      rw [i2,List.append_assoc]
      rfl
     ·exact ih.2 (Option.map_eq_none_iff.1 h)
def posV (s:ByteArray):Option (List Nat):=zkP s (s.size+1) 0
theorem words_pos {s:ByteArray} {ps:List Nat} (h:posV s=some ps):(zan s).ok=true∧(zan s).ws=ps.map (mkW s):=by
 have:=(cut_P s (s.size+1) 0 [] (Nat.zero_le _) (zdG s)).1 ps h
 rw [zd1] at this
 simpa [zan] using this
theorem zkV {s:ByteArray} (h:posV s=none):(zan s).ok=false:=by
 have:=(cut_P s (s.size+1) 0 [] (Nat.zero_le _) (zdG s)).2 h
 rw [zd1] at this
 exact this
theorem zkM (s:ByteArray):∀ f b ps,b≤s.size→zkP s f b=some ps→∀ p ∈ ps,p < s.size∧(zac (rst s p)).ok=true
 | 0,b,ps,hb,h =>by cases h
 | f+1,b,ps,hb,h =>by
  have hq:=gapA_le s b hb
  cases h1:(zcS s b).2
  ·rw [zkO h1] at h;cases h
  ·by_cases he:(zcS s b).1=s.size
   ·rw [zkN h1 he] at h;cases h;intro p hp;cases hp
   ·cases h2:(zac (rst s (zcS s b).1)).ok
    ·rw [cutP_no h1 he h2] at h;cases h
    ·have hw:=word_at s (zcS s b).1 (by omega) h2
     rw [cutP_go h1 he h2] at h
     obtain ⟨qs,h3,rfl⟩:=Option.map_eq_some_iff.1 h
     intro p hp
     rcases List.mem_cons.1 hp with rfl | hp
     ·exact ⟨by omega,h2⟩
     ·exact zkM s f _ qs hw.2.1 h3 p hp
end Go.Proofs.YtmdgejgokoadlaaGreatDoor
