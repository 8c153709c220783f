/- Texts of this claim, one behind the other. -/
import Derived.Test.YtmdgejgokoadlaaGreatDoorM28
import Derived.Test.YtmdgejgokoadlaaGreatDoorM27
/- The reference's reader of rules: Parse, at the end. -/
namespace Go.Proofs.YtmdgejgokoadlaaGreatDoor
open Go.RowKit Go.Shelf
set_option linter.unusedVariables false
set_option maxRecDepth 100000 in
set_option maxHeartbeats 8000000 in
theorem rparse_end (s:ByteArray) (hs:s.size≤262144) (hok:(wordsV s).ok=true) (hQ:∃ f,(parseV s).bad=some f∧f.why=21) (W:World) :
    Calls Tryz.prog 16 #[.string s] W fun e w' =>RpAt s W w' e (parseV s)∧Below W.heap.size W w':=by
  have hmx:Tryz.prog.follows .mixedOrders=true:=by kernel_rfl
  have HN:=kz (wsOf_S s hs).1
  have HLN:=kz (wsOf_len s hs)
  have HF:Hz (RgSt (wsOf s) (s.size:Nat) (endL s) (endC s) (parseV s) ((wsOf s).length+1) 0 none TV0):=kz ⟨rfl,by omega,Nat.zero_le _,TV0_le⟩
  have HW:Hz (∀ w,Calls Tryz.prog 45 #[.string s] w fun e w' => ∃ a c,e=.returned (.tuple #[.slice a (wsOf s).length c,.int .i64 (-1),.int .i64 0])∧RowR w' a (wsOf s)∧(wsOf s).length≤c∧Below w.heap.size w w'):=kz (fun w =>(refWords_any s hs w).mono (fun e w' h =>by
    obtain ⟨v,he,ho⟩:=h.1 hok
    rw [← encR6_ws] at ho
    obtain ⟨a,c,rfl,h1,h2,h3⟩:=own_rowR ho
    exact ⟨a,c,he,h1,h3,h.2.2⟩))
  have HWH:Hz (∀ (b:Nat),b≤s.size→∀ w,Calls Tryz.prog 46 #[.string s,.int .i64 (b:Nat)] w fun e w' =>e=.returned (.agg #[.int .i64 (b:Nat),.int .i64 ((whL s b).1:Nat),.int .i64 ((whL s b).2:Nat)])∧Below w.heap.size w w'):=kz (fun b hb w =>refWhere_in s (by omega) b hb _ (.inr (.inr ⟨by omega,by omega,rfl⟩)) w)
  have HWS:=kz (wsOf_at s)
  have HQ:=kz hQ
  clear hQ
  generalize parseV s=F at *
  clear hok
  go_enter Tryz.func16,Tryz.ntmps16
  go_wp2_with fail
  refine (oz HW _).mono ?_
  rintro e w1 ⟨a,c,rfl,hrow,hcap,hb1⟩
  have HX:Hz (Bx2 w1 W.heap.size):=kz ((bx2_new W).below hb1)
  have HB:Hz (Below W.heap.size W w1):=kz ((((Below.refl W.heap.size W).alloc (Nat.le_refl _) _).alloc (by simp) _).trans (hb1.mono (by simp;omega)))
  have HROW:=kz hrow
  have HCAP:=kz hcap
  clear hrow hcap hb1 HW
  go_wp2_with fail
  have hsz:W.heap.size+1 < w1.heap.size:=(oz HX).2.lt
  generalize hws:wsOf s=ws at *
  obtain ⟨g,hst⟩:=rr_start (oz HROW) (oz HCAP) (by have:=oz HLN;omega)
  have HX3:Hz (Bx2 (w1.alloc (.cells #[.slice a ws.length c,.int .i64 0,.int .i64 (-1),.slice none 0 0,.slice none 0 0,.slice none 0 0,.slice none 0 0,.slice none 0 0,.slice none 0 0,.slice none 0 0,.slice none 0 0,.slice none 0 0,.slice none 0 0,.slice none 0 0,.slice none 0 0,.slice none 0 0,.slice none 0 0,.slice none 0 0,.slice none 0 0,.slice none 0 0] 121)) W.heap.size):=kz ⟨(oz HX).1.alloc _,(oz HX).2.alloc _⟩
  have HB3:Hz (Below W.heap.size W (w1.alloc (.cells #[.slice a ws.length c,.int .i64 0,.int .i64 (-1),.slice none 0 0,.slice none 0 0,.slice none 0 0,.slice none 0 0,.slice none 0 0,.slice none 0 0,.slice none 0 0,.slice none 0 0,.slice none 0 0,.slice none 0 0,.slice none 0 0,.slice none 0 0,.slice none 0 0,.slice none 0 0,.slice none 0 0,.slice none 0 0,.slice none 0 0] 121))):=kz ((oz HB).alloc (oz HB).size _)
  have hl3:(w1.alloc (.cells #[.slice a ws.length c,.int .i64 0,.int .i64 (-1),.slice none 0 0,.slice none 0 0,.slice none 0 0,.slice none 0 0,.slice none 0 0,.slice none 0 0,.slice none 0 0,.slice none 0 0,.slice none 0 0,.slice none 0 0,.slice none 0 0,.slice none 0 0,.slice none 0 0,.slice none 0 0,.slice none 0 0,.slice none 0 0,.slice none 0 0] 121)).heap.size=w1.heap.size+1:=by simp
  generalize w1.alloc (.cells #[.slice a ws.length c,.int .i64 0,.int .i64 (-1),.slice none 0 0,.slice none 0 0,.slice none 0 0,.slice none 0 0,.slice none 0 0,.slice none 0 0,.slice none 0 0,.slice none 0 0,.slice none 0 0,.slice none 0 0,.slice none 0 0,.slice none 0 0,.slice none 0 0,.slice none 0 0,.slice none 0 0,.slice none 0 0,.slice none 0 0] 121)=W3 at *
  obtain ⟨R,hR⟩:∃ R,R=w1.heap.size:=⟨_,rfl⟩
  rw [← hR] at hst hl3 hsz ⊢
  have HST:=kz hst
  have HL0:Hz (LpI ws (s.size:Nat) (endL s) (endC s) F (-1) 0 TV0):=kz (.inl ⟨rfl,_,oz HF⟩)
  clear hst HF HX HB HROW HCAP hR hws
  go_loopw [30,31,32,33,34,35,36,37,38,39,40,41,42,43,44,45] (fun _ _ _ _ _ _ _ _ _ _ _ _ _ _ _ _ wr => ∃ (k:Nat) (bi:Int) (T:TV),Hz (LpI ws (s.size:Nat) (endL s) (endC s) F bi k T)∧Hz (RkSt W3 wr (R+1) R g a c ws k bi T))
    (fun _ _ _ _ _ _ _ _ _ _ _ _ _ _ _ _ wr =>measR wr R ws.length)
  case atStart =>exact ⟨0, -1,TV0,HL0,HST⟩
  case round =>
    obtain ⟨k,bi,T,HL,HK0⟩:=hrel
    clear HL0 HST
    obtain ⟨c0,c1,c2⟩:=(oz HK0).choose_spec.1.cells
    have HM:=kz (measR_at (oz HK0).choose_spec.1 ws.length)
    have hkn:=(oz HK0).choose_spec.1.kn
    rcases oz HL with ⟨rfl,f,hg⟩ | ⟨j,hj,rfl,hFb⟩
    · cases hx:ws[k]? with
      | none =>
        exact absurd (oz HQ) (by rw [hg.stop (.inr hx)];rintro ⟨f,e,_⟩;cases e)
      | some x =>
        have hlt:=(List.getElem?_eq_some_iff.1 hx).1
        have n1:((k:Nat):Int) < (ws.length:Int):=by omega
        have HLT:=kz hlt
        have HX1:=kz hx
        have HG:=kz hg
        clear hg hx HL hkn hlt
        by_cases hr:ruleNo x.S=0
        · have HRU:=kz (rk_no (R+1) R g a c ws (s.size:Nat) (endL s) (endC s) k x T (oz HX1) hr W3 wr (oz HK0))
          have HNO:=kz (fun k' =>LpI.no (k':=k') (oz HG) (oz HX1) hr)
          clear hr
          go_wp2_with fail
          refine (oz HRU).mono ?_
          rintro e w4 ⟨⟨r,rfl⟩,k',hk',hst⟩
          have HS4:=kz hst
          have HM4:=kz (measR_at hst.choose_spec.1 ws.length)
          clear hst
          go_wp2_with fail
          go_roundw
          case rel =>exact ⟨k',(k:Int),T,kz (oz HNO k'),HS4⟩
          case measure =>
            have:=oz HLT
            rw [oz HM4,oz HM,if_neg (by omega),if_pos (by omega)]
            omega
        · have HRU:=kz (rk_any (R+1) R g a c ws (s.size:Nat) (endL s) (endC s) k x T (oz HG).tl (oz HX1) (oz HN x (List.mem_of_getElem? (oz HX1)) hr) hr W3 wr (oz HK0))
          have HNX:=kz (fun b2 =>LpI.next (b2:=b2) (oz HG) (oz HX1) hr)
          have HRL:=kz (ruleV_le ws (s.size:Nat) (endL s) (endC s) k x (oz HX1) T (oz HG).tl hr)
          clear hr
          generalize ruleV ws (s.size:Nat) (endL s) (endC s) k x T=V at *
          go_wp2_with fail
          refine (oz HRU).mono ?_
          rintro e w4 ⟨⟨r,rfl⟩,b2,hB,hst⟩
          have HS4:=kz hst
          have HL4:=kz (oz HNX b2 hB)
          have HM4:=kz (measR_at hst.choose_spec.1 ws.length)
          clear hst hB
          go_wp2_with fail
          go_roundw
          case rel =>exact ⟨V.k,b2,V.T,HL4,HS4⟩
          case measure =>
            have:=oz HLT
            have:=oz HRL
            rw [oz HM4,oz HM,if_pos (show (-1:Int) < 0 by omega)]
            split <;> omega
    · have n1:¬ ((j:Nat):Int) < 0:=by omega
      have n0:(0:Int)≤(j:Int):=by omega
      obtain ⟨vs,hat,hfr⟩:=oz HK0
      have HX1:Hz (Bx2 wr W.heap.size):=kz ((oz HX3).fr hfr (by omega) (by omega))
      have HB1:Hz (Below W.heap.size W wr):=kz (below_fr1 (oz HB3) hfr (by omega) (by omega))
      by_cases hjl:j=ws.length
      · have q0:((j:Int) == (ws.length:Int))=true:=by simp;omega
        have HFB:Hz (F.bad=some ⟨(s.size:Nat),((whL s s.size).1:Nat),((whL s s.size).2:Nat),21⟩):=kz (by rw [hFb];unfold refV;rw [List.getElem?_eq_none (by omega)];rfl)
        have HCW:=kz (oz HWH s.size (Nat.le_refl _))
        generalize whL s s.size=L at *
        obtain ⟨L1,L2⟩:=L
        clear hFb HL hkn HM c1 c0 hat hfr HK0 hj hjl
        go_wp2_with fail
        refine (oz HCW _).mono ?_
        rintro e w2 ⟨rfl,hb2⟩
        have HX2:Hz (Bx2 w2 W.heap.size):=kz ((oz HX1).below hb2)
        have HB2:Hz (Below W.heap.size W w2):=kz ((oz HB1).trans (hb2.mono (oz HB1).size))
        clear hb2 HCW HX1 HB1
        have x54:=(oz HX2).1
        have x56:=(oz HX2).2
        have e0:=x54.cell 0
        have f0:=x54.frozen 0
        have e1:=x54.cell 1
        have f1:=x54.frozen 1
        have e2:=x54.cell 2
        have f2:=x54.frozen 2
        have e3:=x54.cell 3
        have f3:=x54.frozen 3
        have e4:=x54.cell 4
        have f4:=x54.frozen 4
        have e5:=x54.cell 5
        have f5:=x54.frozen 5
        have e6:=x54.cell 6
        have f6:=x54.frozen 6
        have e7:=x54.cell 7
        have f7:=x54.frozen 7
        have e8:=x54.cell 8
        have f8:=x54.frozen 8
        have e9:=x54.cell 9
        have f9:=x54.frozen 9
        have e10:=x54.cell 10
        have f10:=x54.frozen 10
        have e11:=x54.cell 11
        have f11:=x54.frozen 11
        have e12:=x54.cell 12
        have f12:=x54.frozen 12
        have e13:=x54.cell 13
        have f13:=x54.frozen 13
        have e14:=x54.cell 14
        have f14:=x54.frozen 14
        have e15:=x54.cell 15
        have f15:=x54.frozen 15
        have e16:=x54.cell 16
        have f16:=x54.frozen 16
        have g0:=x56.cell 0
        have h0:=x56.frozen 0
        have g1:=x56.cell 1
        have h1:=x56.frozen 1
        have g2:=x56.cell 2
        have h2:=x56.frozen 2
        clear x54 x56
        go_wp2_with fail
        have K:=fin2 (oz HX2) (Value.slice none 0 0) (Value.slice none 0 0) (Value.slice none 0 0) (Value.slice none 0 0) (Value.slice none 0 0) (Value.slice none 0 0) (Value.slice none 0 0) (Value.slice none 0 0) (Value.slice none 0 0) (Value.slice none 0 0) (Value.slice none 0 0) (Value.slice none 0 0) (Value.slice none 0 0) (Value.slice none 0 0) (Value.slice none 0 0) (Value.slice none 0 0) (Value.slice none 0 0) (Value.int .i64 ((s.size:Nat):Int)) (Value.int .i64 ((L1:Nat):Int)) (Value.int .i64 ((L2:Nat):Int))
        generalize ((((((((((((((((((((w2.setCell ⟨W.heap.size,0,none⟩ (Value.slice none 0 0)).setCell ⟨W.heap.size,1,none⟩ (Value.slice none 0 0)).setCell ⟨W.heap.size,2,none⟩ (Value.slice none 0 0)).setCell ⟨W.heap.size,3,none⟩ (Value.slice none 0 0)).setCell ⟨W.heap.size,4,none⟩ (Value.slice none 0 0)).setCell ⟨W.heap.size,5,none⟩ (Value.slice none 0 0)).setCell ⟨W.heap.size,6,none⟩ (Value.slice none 0 0)).setCell ⟨W.heap.size,7,none⟩ (Value.slice none 0 0)).setCell ⟨W.heap.size,8,none⟩ (Value.slice none 0 0)).setCell ⟨W.heap.size,9,none⟩ (Value.slice none 0 0)).setCell ⟨W.heap.size,10,none⟩ (Value.slice none 0 0)).setCell ⟨W.heap.size,11,none⟩ (Value.slice none 0 0)).setCell ⟨W.heap.size,12,none⟩ (Value.slice none 0 0)).setCell ⟨W.heap.size,13,none⟩ (Value.slice none 0 0)).setCell ⟨W.heap.size,14,none⟩ (Value.slice none 0 0)).setCell ⟨W.heap.size,15,none⟩ (Value.slice none 0 0)).setCell ⟨W.heap.size,16,none⟩ (Value.slice none 0 0)).setCell ⟨W.heap.size+1,0,none⟩ (Value.int .i64 ((s.size:Nat):Int))).setCell ⟨W.heap.size+1,1,none⟩ (Value.int .i64 ((L1:Nat):Int))).setCell ⟨W.heap.size+1,2,none⟩ (Value.int .i64 ((L2:Nat):Int)))=w3 at K ⊢
        have r0:=K.b1.cell 0
        have r1:=K.b1.cell 1
        have r2:=K.b1.cell 2
        have r3:=K.b1.cell 3
        have r4:=K.b1.cell 4
        have r5:=K.b1.cell 5
        have r6:=K.b1.cell 6
        have r7:=K.b1.cell 7
        have r8:=K.b1.cell 8
        have r9:=K.b1.cell 9
        have r10:=K.b1.cell 10
        have r11:=K.b1.cell 11
        have r12:=K.b1.cell 12
        have r13:=K.b1.cell 13
        have r14:=K.b1.cell 14
        have r15:=K.b1.cell 15
        have r16:=K.b1.cell 16
        have s0:=K.b2.cell 0
        have s1:=K.b2.cell 1
        have s2:=K.b2.cell 2
        have HK:=kz K
        clear K e0 f0 e1 f1 e2 f2 e3 f3 e4 f4 e5 f5 e6 f6 e7 f7 e8 f8 e9 f9 e10 f10 e11 f11 e12 f12 e13 f13 e14 f14 e15 f15 e16 f16 g0 g1 g2 h0 h1 h2
        exact bodyPost_ret (v := .tuple #[.agg #[Value.slice none 0 0,Value.slice none 0 0,Value.slice none 0 0,Value.slice none 0 0,Value.slice none 0 0,Value.slice none 0 0,Value.slice none 0 0,Value.slice none 0 0,Value.slice none 0 0,Value.slice none 0 0,Value.slice none 0 0,Value.slice none 0 0,Value.slice none 0 0,Value.slice none 0 0,Value.slice none 0 0,Value.slice none 0 0,Value.slice none 0 0],.agg #[Value.int .i64 ((s.size:Nat):Int),Value.int .i64 ((L1:Nat):Int),Value.int .i64 ((L2:Nat):Int)],.int .i64 21]) (by simp [results,Tryz.results16,go_sem,r0,r1,r2,r3,r4,r5,r6,r7,r8,r9,r10,r11,r12,r13,r14,r15,r16,s0,s1,s2]) rfl ⟨by unfold RpAt;rw [oz HFB];rfl,(oz HB2).trans (oz HK).be⟩
      · exact absurd (oz HQ) (by rw [hFb];rintro ⟨f,e,h2⟩;cases e;unfold refV at h2;rw [List.getElem?_eq_getElem (by omega)] at h2;exact absurd (show (5:Int)=21 from h2) (by decide))
set_option maxRecDepth 100000 in
set_option maxHeartbeats 8000000 in
theorem rparse_word (s:ByteArray) (hs:s.size≤262144) (hok:(wordsV s).ok=true) (hQ:∃ f,(parseV s).bad=some f∧f.why=5) (W:World) :
    Calls Tryz.prog 16 #[.string s] W fun e w' =>RpAt s W w' e (parseV s)∧Below W.heap.size W w':=by
  have hmx:Tryz.prog.follows .mixedOrders=true:=by kernel_rfl
  have HN:=kz (wsOf_S s hs).1
  have HLN:=kz (wsOf_len s hs)
  have HF:Hz (RgSt (wsOf s) (s.size:Nat) (endL s) (endC s) (parseV s) ((wsOf s).length+1) 0 none TV0):=kz ⟨rfl,by omega,Nat.zero_le _,TV0_le⟩
  have HW:Hz (∀ w,Calls Tryz.prog 45 #[.string s] w fun e w' => ∃ a c,e=.returned (.tuple #[.slice a (wsOf s).length c,.int .i64 (-1),.int .i64 0])∧RowR w' a (wsOf s)∧(wsOf s).length≤c∧Below w.heap.size w w'):=kz (fun w =>(refWords_any s hs w).mono (fun e w' h =>by
    obtain ⟨v,he,ho⟩:=h.1 hok
    rw [← encR6_ws] at ho
    obtain ⟨a,c,rfl,h1,h2,h3⟩:=own_rowR ho
    exact ⟨a,c,he,h1,h3,h.2.2⟩))
  have HWH:Hz (∀ (b:Nat),b≤s.size→∀ w,Calls Tryz.prog 46 #[.string s,.int .i64 (b:Nat)] w fun e w' =>e=.returned (.agg #[.int .i64 (b:Nat),.int .i64 ((whL s b).1:Nat),.int .i64 ((whL s b).2:Nat)])∧Below w.heap.size w w'):=kz (fun b hb w =>refWhere_in s (by omega) b hb _ (.inr (.inr ⟨by omega,by omega,rfl⟩)) w)
  have HWS:=kz (wsOf_at s)
  have HQ:=kz hQ
  clear hQ
  generalize parseV s=F at *
  clear hok
  go_enter Tryz.func16,Tryz.ntmps16
  go_wp2_with fail
  refine (oz HW _).mono ?_
  rintro e w1 ⟨a,c,rfl,hrow,hcap,hb1⟩
  have HX:Hz (Bx2 w1 W.heap.size):=kz ((bx2_new W).below hb1)
  have HB:Hz (Below W.heap.size W w1):=kz ((((Below.refl W.heap.size W).alloc (Nat.le_refl _) _).alloc (by simp) _).trans (hb1.mono (by simp;omega)))
  have HROW:=kz hrow
  have HCAP:=kz hcap
  clear hrow hcap hb1 HW
  go_wp2_with fail
  have hsz:W.heap.size+1 < w1.heap.size:=(oz HX).2.lt
  generalize hws:wsOf s=ws at *
  obtain ⟨g,hst⟩:=rr_start (oz HROW) (oz HCAP) (by have:=oz HLN;omega)
  have HX3:Hz (Bx2 (w1.alloc (.cells #[.slice a ws.length c,.int .i64 0,.int .i64 (-1),.slice none 0 0,.slice none 0 0,.slice none 0 0,.slice none 0 0,.slice none 0 0,.slice none 0 0,.slice none 0 0,.slice none 0 0,.slice none 0 0,.slice none 0 0,.slice none 0 0,.slice none 0 0,.slice none 0 0,.slice none 0 0,.slice none 0 0,.slice none 0 0,.slice none 0 0] 121)) W.heap.size):=kz ⟨(oz HX).1.alloc _,(oz HX).2.alloc _⟩
  have HB3:Hz (Below W.heap.size W (w1.alloc (.cells #[.slice a ws.length c,.int .i64 0,.int .i64 (-1),.slice none 0 0,.slice none 0 0,.slice none 0 0,.slice none 0 0,.slice none 0 0,.slice none 0 0,.slice none 0 0,.slice none 0 0,.slice none 0 0,.slice none 0 0,.slice none 0 0,.slice none 0 0,.slice none 0 0,.slice none 0 0,.slice none 0 0,.slice none 0 0,.slice none 0 0] 121))):=kz ((oz HB).alloc (oz HB).size _)
  have hl3:(w1.alloc (.cells #[.slice a ws.length c,.int .i64 0,.int .i64 (-1),.slice none 0 0,.slice none 0 0,.slice none 0 0,.slice none 0 0,.slice none 0 0,.slice none 0 0,.slice none 0 0,.slice none 0 0,.slice none 0 0,.slice none 0 0,.slice none 0 0,.slice none 0 0,.slice none 0 0,.slice none 0 0,.slice none 0 0,.slice none 0 0,.slice none 0 0] 121)).heap.size=w1.heap.size+1:=by simp
  generalize w1.alloc (.cells #[.slice a ws.length c,.int .i64 0,.int .i64 (-1),.slice none 0 0,.slice none 0 0,.slice none 0 0,.slice none 0 0,.slice none 0 0,.slice none 0 0,.slice none 0 0,.slice none 0 0,.slice none 0 0,.slice none 0 0,.slice none 0 0,.slice none 0 0,.slice none 0 0,.slice none 0 0,.slice none 0 0,.slice none 0 0,.slice none 0 0] 121)=W3 at *
  obtain ⟨R,hR⟩:∃ R,R=w1.heap.size:=⟨_,rfl⟩
  rw [← hR] at hst hl3 hsz ⊢
  have HST:=kz hst
  have HL0:Hz (LpI ws (s.size:Nat) (endL s) (endC s) F (-1) 0 TV0):=kz (.inl ⟨rfl,_,oz HF⟩)
  clear hst HF HX HB HROW HCAP hR hws
  go_loopw [30,31,32,33,34,35,36,37,38,39,40,41,42,43,44,45] (fun _ _ _ _ _ _ _ _ _ _ _ _ _ _ _ _ wr => ∃ (k:Nat) (bi:Int) (T:TV),Hz (LpI ws (s.size:Nat) (endL s) (endC s) F bi k T)∧Hz (RkSt W3 wr (R+1) R g a c ws k bi T))
    (fun _ _ _ _ _ _ _ _ _ _ _ _ _ _ _ _ wr =>measR wr R ws.length)
  case atStart =>exact ⟨0, -1,TV0,HL0,HST⟩
  case round =>
    obtain ⟨k,bi,T,HL,HK0⟩:=hrel
    clear HL0 HST
    obtain ⟨c0,c1,c2⟩:=(oz HK0).choose_spec.1.cells
    have HM:=kz (measR_at (oz HK0).choose_spec.1 ws.length)
    have hkn:=(oz HK0).choose_spec.1.kn
    rcases oz HL with ⟨rfl,f,hg⟩ | ⟨j,hj,rfl,hFb⟩
    · cases hx:ws[k]? with
      | none =>
        exact absurd (oz HQ) (by rw [hg.stop (.inr hx)];rintro ⟨f,e,_⟩;cases e)
      | some x =>
        have hlt:=(List.getElem?_eq_some_iff.1 hx).1
        have n1:((k:Nat):Int) < (ws.length:Int):=by omega
        have HLT:=kz hlt
        have HX1:=kz hx
        have HG:=kz hg
        clear hg hx HL hkn hlt
        by_cases hr:ruleNo x.S=0
        · have HRU:=kz (rk_no (R+1) R g a c ws (s.size:Nat) (endL s) (endC s) k x T (oz HX1) hr W3 wr (oz HK0))
          have HNO:=kz (fun k' =>LpI.no (k':=k') (oz HG) (oz HX1) hr)
          clear hr
          go_wp2_with fail
          refine (oz HRU).mono ?_
          rintro e w4 ⟨⟨r,rfl⟩,k',hk',hst⟩
          have HS4:=kz hst
          have HM4:=kz (measR_at hst.choose_spec.1 ws.length)
          clear hst
          go_wp2_with fail
          go_roundw
          case rel =>exact ⟨k',(k:Int),T,kz (oz HNO k'),HS4⟩
          case measure =>
            have:=oz HLT
            rw [oz HM4,oz HM,if_neg (by omega),if_pos (by omega)]
            omega
        · have HRU:=kz (rk_any (R+1) R g a c ws (s.size:Nat) (endL s) (endC s) k x T (oz HG).tl (oz HX1) (oz HN x (List.mem_of_getElem? (oz HX1)) hr) hr W3 wr (oz HK0))
          have HNX:=kz (fun b2 =>LpI.next (b2:=b2) (oz HG) (oz HX1) hr)
          have HRL:=kz (ruleV_le ws (s.size:Nat) (endL s) (endC s) k x (oz HX1) T (oz HG).tl hr)
          clear hr
          generalize ruleV ws (s.size:Nat) (endL s) (endC s) k x T=V at *
          go_wp2_with fail
          refine (oz HRU).mono ?_
          rintro e w4 ⟨⟨r,rfl⟩,b2,hB,hst⟩
          have HS4:=kz hst
          have HL4:=kz (oz HNX b2 hB)
          have HM4:=kz (measR_at hst.choose_spec.1 ws.length)
          clear hst hB
          go_wp2_with fail
          go_roundw
          case rel =>exact ⟨V.k,b2,V.T,HL4,HS4⟩
          case measure =>
            have:=oz HLT
            have:=oz HRL
            rw [oz HM4,oz HM,if_pos (show (-1:Int) < 0 by omega)]
            split <;> omega
    · have n1:¬ ((j:Nat):Int) < 0:=by omega
      have n0:(0:Int)≤(j:Int):=by omega
      obtain ⟨vs,hat,hfr⟩:=oz HK0
      have HX1:Hz (Bx2 wr W.heap.size):=kz ((oz HX3).fr hfr (by omega) (by omega))
      have HB1:Hz (Below W.heap.size W wr):=kz (below_fr1 (oz HB3) hfr (by omega) (by omega))
      by_cases hjl:j=ws.length
      · exact absurd (oz HQ) (by rw [hFb];rintro ⟨f,e,h2⟩;cases e;unfold refV at h2;rw [List.getElem?_eq_none (by omega)] at h2;exact absurd (show (21:Int)=5 from h2) (by decide))
      · obtain ⟨x,hx⟩:∃ x,ws[j]?=some x:=⟨_,List.getElem?_eq_getElem (by omega)⟩
        have q0:((j:Int) == (ws.length:Int))=false:=by simp;omega
        have n2:(j:Int) < (ws.length:Int):=by omega
        obtain ⟨rfl,hgl,hgR⟩:=hat.ptr (by omega)
        obtain ⟨b,hb,z1,z2,z3⟩:=oz HWS j x hx
        have cx:wr.cell? ⟨g,j*6+4,none⟩=some (.int .i64 x.b):=hat.words j x hx 4 _ rfl
        rw [z1] at cx
        have HFB:Hz (F.bad=some ⟨(b:Nat),((whL s b).1:Nat),((whL s b).2:Nat),5⟩):=kz (by rw [hFb];unfold refV;rw [hx];show some (⟨x.b,x.l,x.c,5⟩:Rf)=_;rw [z1,z2,z3])
        have HCW:=kz (oz HWH b hb)
        have hcap:=hat.cap
        generalize whL s b=L at *
        obtain ⟨L1,L2⟩:=L
        clear hFb HL hkn HM c1 c0 hat hfr HK0 hj hjl hx z1 z2 z3 hb
        go_wp2_with fail
        refine (oz HCW _).mono ?_
        rintro e w2 ⟨rfl,hb2⟩
        have HX2:Hz (Bx2 w2 W.heap.size):=kz ((oz HX1).below hb2)
        have HB2:Hz (Below W.heap.size W w2):=kz ((oz HB1).trans (hb2.mono (oz HB1).size))
        clear hb2 HCW HX1 HB1
        have x54:=(oz HX2).1
        have x56:=(oz HX2).2
        have e0:=x54.cell 0
        have f0:=x54.frozen 0
        have e1:=x54.cell 1
        have f1:=x54.frozen 1
        have e2:=x54.cell 2
        have f2:=x54.frozen 2
        have e3:=x54.cell 3
        have f3:=x54.frozen 3
        have e4:=x54.cell 4
        have f4:=x54.frozen 4
        have e5:=x54.cell 5
        have f5:=x54.frozen 5
        have e6:=x54.cell 6
        have f6:=x54.frozen 6
        have e7:=x54.cell 7
        have f7:=x54.frozen 7
        have e8:=x54.cell 8
        have f8:=x54.frozen 8
        have e9:=x54.cell 9
        have f9:=x54.frozen 9
        have e10:=x54.cell 10
        have f10:=x54.frozen 10
        have e11:=x54.cell 11
        have f11:=x54.frozen 11
        have e12:=x54.cell 12
        have f12:=x54.frozen 12
        have e13:=x54.cell 13
        have f13:=x54.frozen 13
        have e14:=x54.cell 14
        have f14:=x54.frozen 14
        have e15:=x54.cell 15
        have f15:=x54.frozen 15
        have e16:=x54.cell 16
        have f16:=x54.frozen 16
        have g0:=x56.cell 0
        have h0:=x56.frozen 0
        have g1:=x56.cell 1
        have h1:=x56.frozen 1
        have g2:=x56.cell 2
        have h2:=x56.frozen 2
        clear x54 x56
        go_wp2_with fail
        have K:=fin2 (oz HX2) (Value.slice none 0 0) (Value.slice none 0 0) (Value.slice none 0 0) (Value.slice none 0 0) (Value.slice none 0 0) (Value.slice none 0 0) (Value.slice none 0 0) (Value.slice none 0 0) (Value.slice none 0 0) (Value.slice none 0 0) (Value.slice none 0 0) (Value.slice none 0 0) (Value.slice none 0 0) (Value.slice none 0 0) (Value.slice none 0 0) (Value.slice none 0 0) (Value.slice none 0 0) (Value.int .i64 ((b:Nat):Int)) (Value.int .i64 ((L1:Nat):Int)) (Value.int .i64 ((L2:Nat):Int))
        generalize ((((((((((((((((((((w2.setCell ⟨W.heap.size,0,none⟩ (Value.slice none 0 0)).setCell ⟨W.heap.size,1,none⟩ (Value.slice none 0 0)).setCell ⟨W.heap.size,2,none⟩ (Value.slice none 0 0)).setCell ⟨W.heap.size,3,none⟩ (Value.slice none 0 0)).setCell ⟨W.heap.size,4,none⟩ (Value.slice none 0 0)).setCell ⟨W.heap.size,5,none⟩ (Value.slice none 0 0)).setCell ⟨W.heap.size,6,none⟩ (Value.slice none 0 0)).setCell ⟨W.heap.size,7,none⟩ (Value.slice none 0 0)).setCell ⟨W.heap.size,8,none⟩ (Value.slice none 0 0)).setCell ⟨W.heap.size,9,none⟩ (Value.slice none 0 0)).setCell ⟨W.heap.size,10,none⟩ (Value.slice none 0 0)).setCell ⟨W.heap.size,11,none⟩ (Value.slice none 0 0)).setCell ⟨W.heap.size,12,none⟩ (Value.slice none 0 0)).setCell ⟨W.heap.size,13,none⟩ (Value.slice none 0 0)).setCell ⟨W.heap.size,14,none⟩ (Value.slice none 0 0)).setCell ⟨W.heap.size,15,none⟩ (Value.slice none 0 0)).setCell ⟨W.heap.size,16,none⟩ (Value.slice none 0 0)).setCell ⟨W.heap.size+1,0,none⟩ (Value.int .i64 ((b:Nat):Int))).setCell ⟨W.heap.size+1,1,none⟩ (Value.int .i64 ((L1:Nat):Int))).setCell ⟨W.heap.size+1,2,none⟩ (Value.int .i64 ((L2:Nat):Int)))=w3 at K ⊢
        have r0:=K.b1.cell 0
        have r1:=K.b1.cell 1
        have r2:=K.b1.cell 2
        have r3:=K.b1.cell 3
        have r4:=K.b1.cell 4
        have r5:=K.b1.cell 5
        have r6:=K.b1.cell 6
        have r7:=K.b1.cell 7
        have r8:=K.b1.cell 8
        have r9:=K.b1.cell 9
        have r10:=K.b1.cell 10
        have r11:=K.b1.cell 11
        have r12:=K.b1.cell 12
        have r13:=K.b1.cell 13
        have r14:=K.b1.cell 14
        have r15:=K.b1.cell 15
        have r16:=K.b1.cell 16
        have s0:=K.b2.cell 0
        have s1:=K.b2.cell 1
        have s2:=K.b2.cell 2
        have HK:=kz K
        clear K e0 f0 e1 f1 e2 f2 e3 f3 e4 f4 e5 f5 e6 f6 e7 f7 e8 f8 e9 f9 e10 f10 e11 f11 e12 f12 e13 f13 e14 f14 e15 f15 e16 f16 g0 g1 g2 h0 h1 h2
        exact bodyPost_ret (v := .tuple #[.agg #[Value.slice none 0 0,Value.slice none 0 0,Value.slice none 0 0,Value.slice none 0 0,Value.slice none 0 0,Value.slice none 0 0,Value.slice none 0 0,Value.slice none 0 0,Value.slice none 0 0,Value.slice none 0 0,Value.slice none 0 0,Value.slice none 0 0,Value.slice none 0 0,Value.slice none 0 0,Value.slice none 0 0,Value.slice none 0 0,Value.slice none 0 0],.agg #[Value.int .i64 ((b:Nat):Int),Value.int .i64 ((L1:Nat):Int),Value.int .i64 ((L2:Nat):Int)],.int .i64 5]) (by simp [results,Tryz.results16,go_sem,r0,r1,r2,r3,r4,r5,r6,r7,r8,r9,r10,r11,r12,r13,r14,r15,r16,s0,s1,s2]) rfl ⟨by unfold RpAt;rw [oz HFB];rfl,(oz HB2).trans (oz HK).be⟩
theorem scanTo_mem (p:Nat→Bool) (hi:Nat):∀ k n,hi≤n+k→∀ j,n≤j→j < scanTo p hi n→p j=true∧j < hi
  | 0,n,h,j,h1,h2 =>by rw [scanTo_end (by omega)] at h2;omega
  | k+1,n,h,j,h1,h2 =>by
    by_cases hn:n < hi
    · cases hp:p n with
      | true =>
        rw [scanTo_go hn hp] at h2
        by_cases e:j=n
        · subst e;exact ⟨hp,hn⟩
        · exact scanTo_mem p hi k (n+1) (by omega) j (by omega) h2
      | false =>rw [scanTo_no hp] at h2;omega
    · rw [scanTo_end hn] at h2;omega
theorem not_stk_in {c:Nat} (h:stkB c=false):inNB c=false∧digB c=false∧hxB c=false:=by
  refine ⟨?_, ?_, ?_⟩
  · cases q:inNB c
    · rfl
    · rw [stk_inN q] at h;cases h
  · cases q:digB c
    · rfl
    · rw [stk_dig q] at h;cases h
  · cases q:hxB c
    · rfl
    · rw [stk_hex q] at h;cases h
theorem edge_yes {u:ByteArray} {n:Nat} (h:n=u.size∨stkB (bt u n)=false):edgeB u n=true:=by
  unfold edgeB
  rcases h with h | h
  · rw [decide_eq_true h];rfl
  · rw [h];simp
theorem ext_pre_eq {t u:ByteArray} {n:Nat} (ht:n≤t.size) (hu:n≤u.size) (hb:∀ i,i < n→bt u i=bt t i):u.extract 0 n=t.extract 0 n:=by
  refine ext_get _ _ (by rw [ByteArray.size_extract,ByteArray.size_extract];omega) (fun j hj =>?_)
  rw [ByteArray.size_extract] at hj
  rw [bt_pre u n j (by omega) hu,bt_pre t n j (by omega) ht]
  exact hb j (by omega)
theorem wordV_sm {t:ByteArray} (h:smallB (bt t 0)=true):wordV t=⟨1,t.extract 0 (nameLen t),0,0,nameLen t,edgeB t (nameLen t)⟩:=by unfold wordV;rw [if_pos h]
theorem name_local {t u:ByteArray} (hs:smallB (bt t 0)=true) (ht:0 < t.size) (hn:nameLen t≤u.size) (hb:∀ i,i < nameLen t→bt u i=bt t i) (he:nameLen t=u.size∨stkB (bt u (nameLen t))=false):nameLen u=nameLen t:=by
  have e1:nameLen t=scanTo (fun n =>inNB (bt t n)) (min t.size 32) 1:=by unfold nameLen;rw [if_neg (fun q =>q.elim (by omega) (fun q =>by rw [hs] at q;cases q))]
  have h1:1≤nameLen t:=by rw [e1];exact (scanTo_le _ (by omega)).1
  have h32:=(nameLen_le t).2
  have hs2:smallB (bt u 0)=true:=by rw [hb 0 (by omega)];exact hs
  have e2:nameLen u=scanTo (fun n =>inNB (bt u n)) (min u.size 32) 1:=by unfold nameLen;rw [if_neg (fun q =>q.elim (by omega) (fun q =>by rw [hs2] at q;cases q))]
  have hm:∀ j,1≤j→j < nameLen t→inNB (bt u j)=true:=fun j h2 h3 =>by
    rw [hb j h3]
    rw [e1] at h3
    exact (scanTo_mem (fun n =>inNB (bt t n)) (min t.size 32) (min t.size 32) 1 (by omega) j h2 h3).1
  rw [e2,scanTo_all (p:=fun n =>inNB (bt u n)) (hi:=min u.size 32) (m:=nameLen t) (nameLen t - 1) 1 (by omega) (by omega) hm]
  by_cases hl:nameLen t < min u.size 32
  · refine scanTo_no (p:=fun n =>inNB (bt u n)) ?_
    rcases he with he | he
    · omega
    · exact (not_stk_in he).1
  · exact scanTo_end hl
theorem num_local {t u:ByteArray} {V n:Nat} (hn:n≤u.size) (hb:∀ i,i < n→bt u i=bt t i) (he:n=u.size∨stkB (bt u n)=false):∀ f v k,t.size≤k+f→k≤t.size→numGo t v k=(V,n)→numGo u v k=(V,n)
  | 0,v,k,h,hk,hg =>by
    rw [numGo_stop (by omega),Prod.mk.injEq] at hg
    rw [numGo_stop,hg.1,hg.2]
    rw [hg.2]
    rcases he with he | he
    · omega
    · intro q;rw [(not_stk_in he).2.1] at q;cases q.2.1
  | f+1,v,k,h,hk,hg =>by
    by_cases hc:k < t.size∧digB (bt t k)=true∧0 < v∧v*10+(bt t k - 48)≤65535
    · rw [numGo_go hc.1 hc.2.1 hc.2.2.1 hc.2.2.2] at hg
      have hle:=(numGo_le t t.size (v*10+(bt t k - 48)) (k+1) (by omega) (by omega)).1
      rw [hg] at hle
      have hkn:k < n:=hle
      rw [numGo_go (by omega) (by rw [hb k hkn];exact hc.2.1) hc.2.2.1 (by rw [hb k hkn];exact hc.2.2.2),hb k hkn]
      exact num_local hn hb he f _ (k+1) (by omega) (by omega) hg
    · rw [numGo_stop hc,Prod.mk.injEq] at hg
      rw [numGo_stop,hg.1,hg.2]
      rw [hg.2]
      rcases he with he | he
      · omega
      · intro q;rw [(not_stk_in he).2.1] at q;cases q.2.1
theorem numd_local {t u:ByteArray} {V n:Nat} (h3:3≤n) (hn:n≤u.size) (hb:∀ i,i < n→bt u i=bt t i) (he:n=u.size∨stkB (bt u n)=false):∀ f v k,t.size≤k+f→k≤t.size→numdGo t v k=(V,n)→numdGo u v k=(V,n)
  | 0,v,k,h,hk,hg =>by
    rw [numdGo_stop (by omega),Prod.mk.injEq] at hg
    rw [numdGo_stop,hg.1,hg.2]
    rw [hg.2]
    rcases he with he | he
    · omega
    · intro q;have:=hxB_hexI.2 q.2.2.1;rw [(not_stk_in he).2.2] at this;cases this
  | f+1,v,k,h,hk,hg =>by
    by_cases hc:k < t.size∧(k < 6∨bt t 2≠48)∧0≤hexI (bt t k)∧v*16+(hexI (bt t k)).toNat≤1114111
    · rw [numdGo_go hc] at hg
      have hle:=(numdGo_le t t.size (v*16+(hexI (bt t k)).toNat) (k+1) (by omega) (by omega)).1
      rw [hg] at hle
      have hkn:k < n:=hle
      have hc2:k < u.size∧(k < 6∨bt u 2≠48)∧0≤hexI (bt u k)∧v*16+(hexI (bt u k)).toNat≤1114111:=⟨by omega,by rw [hb 2 (by omega)];exact hc.2.1,by rw [hb k hkn];exact hc.2.2.1,by rw [hb k hkn];exact hc.2.2.2⟩
      rw [numdGo_go hc2,hb k hkn]
      exact numd_local h3 hn hb he f _ (k+1) (by omega) (by omega) hg
    · rw [numdGo_stop hc,Prod.mk.injEq] at hg
      rw [numdGo_stop,hg.1,hg.2]
      rw [hg.2]
      rcases he with he | he
      · omega
      · intro q;have:=hxB_hexI.2 q.2.2.1;rw [(not_stk_in he).2.2] at this;cases this
theorem dots_mk (t:ByteArray) (h:2≤t.size) (h0:bt t 0=46) (h1:bt t 1=46):dotsB t=true:=by
  unfold dotsB Lib.hasPrefix
  rw [List.isPrefixOf_iff_prefix]
  have e:t.data.toList=[t.get! 0,t.get! 1]++t.data.toList.drop 2:=by
    rw [show t.data.toList=t.data.toList.drop 0 from rfl,drop_bt t 0 (by omega),drop_bt t 1 (by omega)]
    rfl
  have g0:t.get! 0=46:=by rw [← UInt8.toNat_inj];exact h0
  have g1:t.get! 1=46:=by rw [← UInt8.toNat_inj];exact h1
  rw [e,g0,g1]
  exact ⟨_,rfl⟩
theorem decode_same {t u:ByteArray} {m:Nat} (hm:wd t 0≤m) (ht:m≤t.size) (hu:m≤u.size) (h0:0 < m) (hb:∀ i,i < m→bt u i=bt t i) (hg:¬ (rn t 0=65533∧wd t 0=1)):Utf8.decode u 0=Utf8.decode t 0:=by
  have e:=ext_pre_eq ht hu hb
  have hz:(t.extract 0 m).size=m:=by rw [ByteArray.size_extract];omega
  have h1:=decode_part (t.extract 0 m) (t.extract m t.size) 0 (by omega) (by rw [cat_split t m ht,hz];omega)
  rw [cat_split t m ht] at h1
  have h2:=decode_grow (u.extract 0 m) (u.extract m u.size) 0 (by rw [e];omega) (by rw [e];unfold rn wd;rw [h1];exact hg)
  rw [cat_split u m hu] at h2
  rw [h2,e,h1]
theorem quo_local {t u:ByteArray} (ht:0 < t.size) (ho:(quoV t).2.2=true) (hn:(quoV t).2.1≤u.size) (hb:∀ i,i < (quoV t).2.1→bt u i=bt t i):quoV u=quoV t:=by
  have hle:=quoV_le t ht
  unfold quoV at ho
  split at ho
  · cases ho
  · rename_i h1
    split at ho
    · cases ho
    · rename_i h2
      split at ho
      · cases ho
      · rename_i h3
        split at ho
        · cases ho
        · rename_i h4
          split at ho
          · rename_i h5
            have ev:quoV t=(rn (tl1 t) 0,wd (tl1 t) 0+2,true):=by unfold quoV;rw [if_neg h1,if_neg h2,if_neg h3,if_neg h4,if_pos h5]
            rw [ev] at hn hb hle ⊢
            have hn':wd (tl1 t) 0+2≤u.size:=hn
            have hb':∀ i,i < wd (tl1 t) 0+2→bt u i=bt t i:=hb
            have hle':wd (tl1 t) 0+2≤t.size:=hle.2
            have zt:=tl1_size t
            have zu:=tl1_size u
            have hp:=wd_pos (tl1 t) 0
            have hbt:∀ i,i < wd (tl1 t) 0+1→bt (tl1 u) i=bt (tl1 t) i:=fun i hi =>by
              rw [tl1_bt u i (by omega),tl1_bt t i (by omega)]
              exact hb' (1+i) (by omega)
            have hwb:wholeB (tl1 t)=true:=Bool.eq_false_or_eq_true _ |>.resolve_right h3
            have hg:¬ (rn (tl1 t) 0=65533∧wd (tl1 t) 0=1):=by
              unfold wholeB badB at hwb
              simp at hwb
              intro q
              rcases hwb.2 with h | h
              · exact h q.1
              · exact h q.2
            have hd:=decode_same (t:=tl1 t) (u:=tl1 u) (m:=wd (tl1 t) 0+1) (by omega) (by omega) (by omega) (by omega) hbt hg
            have r0:rn (tl1 u) 0=rn (tl1 t) 0:=by unfold rn;rw [hd]
            have w0:wd (tl1 u) 0=wd (tl1 t) 0:=by unfold wd;rw [hd]
            have hwu:wholeB (tl1 u)=true:=by
              unfold wholeB badB
              rw [r0,w0,decide_eq_true (by omega),decide_eq_false hg]
              rfl
            have h5u:rn (tl1 u) (wd (tl1 u) 0)=39:=by
              rw [rn_39,w0,hbt _ (by omega), ← rn_39]
              exact h5
            unfold quoV
            rw [if_neg (by omega),r0,if_neg h2,hwu,if_neg (by decide),if_neg (by rw [w0];omega),if_pos h5u,w0]
          · cases ho
theorem sgn_local {t u:ByteArray} (ht:0 < t.size) (ho:(sgnV t).2.2=true) (hn:(sgnV t).2.1≤u.size) (hb:∀ i,i < (sgnV t).2.1→bt u i=bt t i):sgnV u=sgnV t:=by
  have h1:=(sgnV_le t ht).2 ho
  have h0:bt u 0=bt t 0:=hb 0 (by omega)
  by_cases hd:bt t 0=46
  · have hdt:dotsB t=true:=by
      cases q:dotsB t
      · unfold sgnV at ho
        rw [hd,q] at ho
        cases ho
      · rfl
    have ev:sgnV t=(9,2,true):=by
      unfold sgnV
      rw [hd,hdt]
      rfl
    rw [ev] at hn hb ⊢
    have hn':2≤u.size:=hn
    have hdu:dotsB u=true:=dots_mk u hn' (by rw [h0];exact hd) (by rw [hb 1 (by show 1 < 2;omega)];exact dots_bt t hdt)
    unfold sgnV
    rw [h0,hd,hdu]
    rfl
  · unfold sgnV
    rw [h0]
    simp only [if_neg hd]
theorem word_local {t u:ByteArray} (ht:0 < t.size) (ho:(wordV t).ok=true) (hn:(wordV t).n≤u.size) (hb:∀ i,i < (wordV t).n→bt u i=bt t i) (he:(smallB (bt t 0)=true∨digB (bt t 0)=true∨bt t 0=85)→(wordV t).n=u.size∨stkB (bt u (wordV t).n)=false):wordV u=wordV t:=by
  have hpos:=(wordV_le t ht).2 ho
  have hle:=(wordV_le t ht).1
  have h0:bt u 0=bt t 0:=hb 0 (by omega)
  by_cases hs:smallB (bt t 0)=true
  · have ev:=wordV_sm hs
    have he':=he (.inl hs)
    rw [ev] at hn hb he' hle ho ⊢
    simp only at hn hb he' hle ho
    have hnl:=name_local hs ht hn hb he'
    rw [wordV_sm (t:=u) (by rw [h0];exact hs),hnl,edge_yes he',ext_pre_eq hle hn hb,ho]
  · by_cases hd:digB (bt t 0)=true
    · have ev:wordV t=⟨2,ByteArray.empty,0,(numV t).1,(numV t).2,edgeB t (numV t).2⟩:=by unfold wordV;rw [if_neg hs,if_pos hd]
      have eu:wordV u=⟨2,ByteArray.empty,0,(numV u).1,(numV u).2,edgeB u (numV u).2⟩:=by unfold wordV;rw [h0,if_neg hs,if_pos hd]
      have he':=he (.inr (.inl hd))
      rw [ev] at hn hb he' hle ho
      simp only at hn hb he' hle ho
      have hnv:numV u=numV t:=by
        have:=num_local (V:=(numV t).1) (n:=(numV t).2) hn hb he' t.size (bt t 0 - 48) 1 (by omega) (by omega) rfl
        unfold numV
        rw [h0]
        exact this
      rw [eu,ev,hnv,ho,edge_yes he']
    · by_cases hu:bt t 0=85
      · have ev:wordV t=⟨3,ByteArray.empty,(numdV t).1,0,(numdV t).2.1,(numdV t).2.2 && edgeB t (numdV t).2.1⟩:=by unfold wordV;rw [if_neg hs,if_neg hd,if_pos hu]
        have eu:wordV u=⟨3,ByteArray.empty,(numdV u).1,0,(numdV u).2.1,(numdV u).2.2 && edgeB u (numdV u).2.1⟩:=by unfold wordV;rw [h0,if_neg hs,if_neg hd,if_pos hu]
        have he':=he (.inr (.inr hu))
        rw [ev] at hn hb he' hle ho
        simp only at hn hb he' hle ho
        have ho2:=(Bool.and_eq_true _ _).mp ho
        have hnv:numdV u=numdV t:=by
          have hok:=ho2.1
          unfold numdV at hok
          split at hok
          · cases hok
          · rename_i g1
            split at hok
            · cases hok
            · rename_i g2
              have evd:numdV t=((numdGo t 0 2).1,(numdGo t 0 2).2,true):=by unfold numdV;rw [if_neg g1,if_neg g2]
              rw [evd] at hn hb he' ⊢
              simp only at hn hb he'
              have hg:=numd_local (V:=(numdGo t 0 2).1) (n:=(numdGo t 0 2).2) (by omega) hn hb he' t.size 0 2 (by omega) (by omega) rfl
              have h1:=hb 1 (by omega)
              unfold numdV
              rw [hg,h1,if_neg (fun q =>q.elim (fun q =>by omega) (fun q =>g1 (.inr q))),if_neg g2]
        rw [eu,ev,hnv,ho,ho2.1,edge_yes he']
        rfl
      · by_cases hq:bt t 0=39
        · have ev:wordV t=⟨3,ByteArray.empty,(quoV t).1,0,(quoV t).2.1,(quoV t).2.2⟩:=by unfold wordV;rw [if_neg hs,if_neg hd,if_neg hu,if_pos hq]
          have eu:wordV u=⟨3,ByteArray.empty,(quoV u).1,0,(quoV u).2.1,(quoV u).2.2⟩:=by unfold wordV;rw [h0,if_neg hs,if_neg hd,if_neg hu,if_pos hq]
          rw [ev] at hn hb ho
          rw [eu,ev,quo_local ht ho hn hb]
        · have ev:wordV t=⟨(sgnV t).1,ByteArray.empty,0,0,(sgnV t).2.1,(sgnV t).2.2⟩:=by unfold wordV;rw [if_neg hs,if_neg hd,if_neg hu,if_neg hq]
          have eu:wordV u=⟨(sgnV u).1,ByteArray.empty,0,0,(sgnV u).2.1,(sgnV u).2.2⟩:=by unfold wordV;rw [h0,if_neg hs,if_neg hd,if_neg hu,if_neg hq]
          rw [ev] at hn hb ho
          rw [eu,ev,sgn_local ht ho hn hb]
end Go.Proofs.YtmdgejgokoadlaaGreatDoor
