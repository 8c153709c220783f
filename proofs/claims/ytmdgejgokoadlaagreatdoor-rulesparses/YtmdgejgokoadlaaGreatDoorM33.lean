/- Texts of this claim, one behind the other. -/
import Derived.Test.YtmdgejgokoadlaaGreatDoorM28
import Derived.Test.YtmdgejgokoadlaaGreatDoorM18
import Derived.Test.YtmdgejgokoadlaaGreatDoorM32
import Derived.Test.YtmdgejgokoadlaaGreatDoorM31
/- The reference's text of rules in memory. -/
namespace Go.Proofs.YtmdgejgokoadlaaGreatDoor
open Go.RowKit Go.Shelf
set_option linter.unusedVariables false
def refA (T:TV) (a0 a1 a2 a3 a4 a5 a6 a7 e0 e1 e2 e3 e4 e5 e6 e7 e8:Option Addr) (c0 c1 c2 c3 c4 c5 c6 c7 f0 f1 f2 f3 f4 f5 f6 f7 f8:Nat):Array Value:=#[.slice a0 T.sc.length c0,.slice a1 T.co.length c1,.slice a2 T.ma.length c2,.slice a3 T.pr.length c3,.slice a4 T.fo.length c4,.slice a5 T.lk.length c5,.slice a6 T.dr.length c6,.slice a7 T.al.length c7,.slice e0 0 f0,.slice e1 T.r1.length f1,.slice e2 T.r2.length f2,.slice e3 T.r3.length f3,.slice e4 T.r4.length f4,.slice e5 T.r5.length f5,.slice e6 T.r6.length f6,.slice e7 T.r7.length f7,.slice e8 T.r8.length f8]
structure RefIn (W:World) (T:TV) (a0 a1 a2 a3 a4 a5 a6 a7 e0 e1 e2 e3 e4 e5 e6 e7 e8:Option Addr) (us:List Value):Prop where
  ti:TabIn W T a0 a1 a2 a3 a4 a5 a6 a7 us
  q0:RowC W W.heap.size e0 (encB [])
  q1:RowC W W.heap.size e1 (encB T.r1)
  q2:RowC W W.heap.size e2 (encB T.r2)
  q3:RowC W W.heap.size e3 (encB T.r3)
  q4:RowC W W.heap.size e4 (encB T.r4)
  q5:RowC W W.heap.size e5 (encB T.r5)
  q6:RowC W W.heap.size e6 (encB T.r6)
  q7:RowC W W.heap.size e7 (encB T.r7)
  q8:RowC W W.heap.size e8 (encB T.r8)
theorem RefIn.lower {W W':World} {T:TV} {a0 a1 a2 a3 a4 a5 a6 a7 e0 e1 e2 e3 e4 e5 e6 e7 e8:Option Addr} {us:List Value} (h:RefIn W T a0 a1 a2 a3 a4 a5 a6 a7 e0 e1 e2 e3 e4 e5 e6 e7 e8 us) (hb:Below W.heap.size W W'):RefIn W' T a0 a1 a2 a3 a4 a5 a6 a7 e0 e1 e2 e3 e4 e5 e6 e7 e8 us :=
  ⟨h.ti.lower hb,h.q0.below hb hb.size,h.q1.below hb hb.size,h.q2.below hb hb.size,h.q3.below hb hb.size,h.q4.below hb hb.size,h.q5.below hb hb.size,h.q6.below hb hb.size,h.q7.below hb hb.size,h.q8.below hb hb.size⟩
theorem ref_in {W:World} {lo:Nat} {T:TV} {vs:List Value} (h:Lst W lo vs (lsR T (vs.drop 17))) (hl:17≤vs.length):∃ a0 a1 a2 a3 a4 a5 a6 a7 e0 e1 e2 e3 e4 e5 e6 e7 e8 c0 c1 c2 c3 c4 c5 c6 c7 f0 f1 f2 f3 f4 f5 f6 f7 f8 us,(vs.take 17).toArray=refA T a0 a1 a2 a3 a4 a5 a6 a7 e0 e1 e2 e3 e4 e5 e6 e7 e8 c0 c1 c2 c3 c4 c5 c6 c7 f0 f1 f2 f3 f4 f5 f6 f7 f8∧RefIn W T a0 a1 a2 a3 a4 a5 a6 a7 e0 e1 e2 e3 e4 e5 e6 e7 e8 us:=by
  obtain ⟨v0,v1,v2,v3,v4,v5,v6,v7,v8,v9,v10,v11,v12,v13,v14,v15,v16,us,rfl⟩:=seventeen vs hl
  have hL:(lsR T us).length=us.length+17:=h.ll
  rw [lsR_len] at hL
  have o0:W.ownsRow lo 71 2 v0 T.sc.length (encSc T.sc us):=h.own 0 v0 _ rfl rfl
  have o1:W.ownsRow lo 73 2 v1 T.co.length (encS2 T.co):=h.own 1 v1 _ rfl rfl
  have o2:W.ownsRow lo 93 2 v2 T.ma.length (encM2 T.ma):=h.own 2 v2 _ rfl rfl
  have o3:W.ownsRow lo 96 3 v3 T.pr.length (encP3 T.pr):=h.own 3 v3 _ rfl rfl
  have o4:W.ownsRow lo 75 2 v4 T.fo.length (encF2 T.fo):=h.own 4 v4 _ rfl rfl
  have o5:W.ownsRow lo 75 2 v5 T.lk.length (encF2 T.lk):=h.own 5 v5 _ rfl rfl
  have o6:W.ownsRow lo 73 2 v6 T.dr.length (encS2 T.dr):=h.own 6 v6 _ rfl rfl
  have o7:W.ownsRow lo 73 2 v7 T.al.length (encS2 T.al):=h.own 7 v7 _ rfl rfl
  have o8:W.ownsRow lo 3 1 v8 0 (encB []):=h.own 8 v8 _ rfl rfl
  have o9:W.ownsRow lo 3 1 v9 T.r1.length (encB T.r1):=h.own 9 v9 _ rfl rfl
  have o10:W.ownsRow lo 3 1 v10 T.r2.length (encB T.r2):=h.own 10 v10 _ rfl rfl
  have o11:W.ownsRow lo 3 1 v11 T.r3.length (encB T.r3):=h.own 11 v11 _ rfl rfl
  have o12:W.ownsRow lo 3 1 v12 T.r4.length (encB T.r4):=h.own 12 v12 _ rfl rfl
  have o13:W.ownsRow lo 3 1 v13 T.r5.length (encB T.r5):=h.own 13 v13 _ rfl rfl
  have o14:W.ownsRow lo 3 1 v14 T.r6.length (encB T.r6):=h.own 14 v14 _ rfl rfl
  have o15:W.ownsRow lo 3 1 v15 T.r7.length (encB T.r7):=h.own 15 v15 _ rfl rfl
  have o16:W.ownsRow lo 3 1 v16 T.r8.length (encB T.r8):=h.own 16 v16 _ rfl rfl
  obtain ⟨a0,c0,rfl⟩:=own_slice o0
  obtain ⟨a1,c1,rfl⟩:=own_slice o1
  obtain ⟨a2,c2,rfl⟩:=own_slice o2
  obtain ⟨a3,c3,rfl⟩:=own_slice o3
  obtain ⟨a4,c4,rfl⟩:=own_slice o4
  obtain ⟨a5,c5,rfl⟩:=own_slice o5
  obtain ⟨a6,c6,rfl⟩:=own_slice o6
  obtain ⟨a7,c7,rfl⟩:=own_slice o7
  obtain ⟨e0,f0,rfl⟩:=own_slice o8
  obtain ⟨e1,f1,rfl⟩:=own_slice o9
  obtain ⟨e2,f2,rfl⟩:=own_slice o10
  obtain ⟨e3,f3,rfl⟩:=own_slice o11
  obtain ⟨e4,f4,rfl⟩:=own_slice o12
  obtain ⟨e5,f5,rfl⟩:=own_slice o13
  obtain ⟨e6,f6,rfl⟩:=own_slice o14
  obtain ⟨e7,f7,rfl⟩:=own_slice o15
  obtain ⟨e8,f8,rfl⟩:=own_slice o16
  refine ⟨a0,a1,a2,a3,a4,a5,a6,a7,e0,e1,e2,e3,e4,e5,e6,e7,e8,c0,c1,c2,c3,c4,c5,c6,c7,f0,f1,f2,f3,f4,f5,f6,f7,f8,us,rfl,⟨⟨by omega,own_rowC o0,own_rowC o1,own_rowC o2,own_rowC o3,own_rowC o4,own_rowC o5,own_rowC o6,own_rowC o7, ?_⟩,own_rowC o8,own_rowC o9,own_rowC o10,own_rowC o11,own_rowC o12,own_rowC o13,own_rowC o14,own_rowC o15,own_rowC o16⟩⟩
  intro j x u hx hu
  have hx2:(T.sc.map (fun s =>Ln.mk 73 2 s.2.length (encS2 s.2)))[j]?=some (Ln.mk 73 2 x.2.length (encS2 x.2)):=by rw [List.getElem?_map,hx];rfl
  have oj:=h.own (j+17) u (Ln.mk 73 2 x.2.length (encS2 x.2)) hu hx2
  obtain ⟨b,d,rfl⟩:=own_slice oj
  exact ⟨b,d,rfl,own_rowC oj⟩
theorem refA_at (T:TV) (a0 a1 a2 a3 a4 a5 a6 a7 e0 e1 e2 e3 e4 e5 e6 e7 e8:Option Addr) (c0 c1 c2 c3 c4 c5 c6 c7 f0 f1 f2 f3 f4 f5 f6 f7 f8:Nat) {W:World} {us:List Value} (h:RefIn W T a0 a1 a2 a3 a4 a5 a6 a7 e0 e1 e2 e3 e4 e5 e6 e7 e8 us) (i:Nat) (hi:i < 9):∃ e f,(refA T a0 a1 a2 a3 a4 a5 a6 a7 e0 e1 e2 e3 e4 e5 e6 e7 e8 c0 c1 c2 c3 c4 c5 c6 c7 f0 f1 f2 f3 f4 f5 f6 f7 f8)[8+i]?=some (.slice e (rowsOf T i).length f)∧RowC W W.heap.size e (encB (rowsOf T i)):=by
  rcases (by omega:i=0∨i=1∨i=2∨i=3∨i=4∨i=5∨i=6∨i=7∨i=8) with rfl | rfl | rfl | rfl | rfl | rfl | rfl | rfl | rfl
  · exact ⟨e0,f0,rfl,h.q0⟩
  · exact ⟨e1,f1,rfl,h.q1⟩
  · exact ⟨e2,f2,rfl,h.q2⟩
  · exact ⟨e3,f3,rfl,h.q3⟩
  · exact ⟨e4,f4,rfl,h.q4⟩
  · exact ⟨e5,f5,rfl,h.q5⟩
  · exact ⟨e6,f6,rfl,h.q6⟩
  · exact ⟨e7,f7,rfl,h.q7⟩
  · exact ⟨e8,f8,rfl,h.q8⟩
theorem where_out (T:TV) (eb el ec list row:Int) (h:list < 1∨8 < list∨row < 0):whereV T eb el ec list row=(eb,el,ec):=by
  unfold whereV
  split
  · rename_i h1
    obtain rfl:list=0:=by omega
    rfl
  · rfl
theorem wh_row (T:TV) (eb el ec:Int) (l r:Nat) (h:l < 9) (x:Int × Int × Int) (hx:(rowsOf T l)[r]?=some x):whereV T eb el ec (l:Nat) (r:Nat)=x:=by
  unfold whereV
  rw [if_pos (by omega)]
  simp only [Int.toNat_natCast]
  rw [hx]
theorem wh_none (T:TV) (eb el ec:Int) (l r:Nat) (h:l < 9) (hx:(rowsOf T l)[r]?=none):whereV T eb el ec (l:Nat) (r:Nat)=(eb,el,ec):=by
  unfold whereV
  rw [if_pos (by omega)]
  simp only [Int.toNat_natCast]
  rw [hx]
theorem encB_at (l:List (Int × Int × Int)) (j:Nat) (x:Int × Int × Int) (h:l[j]?=some x):(encB l)[j]?=some (.int .i64 x.1):=by
  unfold encB
  rw [List.getElem?_map,h]
  rfl
set_option maxRecDepth 100000 in
set_option maxHeartbeats 4000000 in
theorem rwhere_any (s:ByteArray) (hs:s.size≤262144) (T:TV) (hT:T.All (Plc s)) (hL:T.Le 1000000) (a0 a1 a2 a3 a4 a5 a6 a7 e0 e1 e2 e3 e4 e5 e6 e7 e8:Option Addr) (c0 c1 c2 c3 c4 c5 c6 c7 f0 f1 f2 f3 f4 f5 f6 f7 f8:Nat) (us:List Value) (list row:Int) (W:World) (hR:RefIn W T a0 a1 a2 a3 a4 a5 a6 a7 e0 e1 e2 e3 e4 e5 e6 e7 e8 us) :
    Calls Tryz.prog 21 #[.string s,.agg (refA T a0 a1 a2 a3 a4 a5 a6 a7 e0 e1 e2 e3 e4 e5 e6 e7 e8 c0 c1 c2 c3 c4 c5 c6 c7 f0 f1 f2 f3 f4 f5 f6 f7 f8),.int .i64 list,.int .i64 row] W fun e w' =>e=.returned (atV3 (whereV T (s.size:Nat) (endL s) (endC s) list row))∧Below W.heap.size W w':=by
  have hmx:Tryz.prog.follows .mixedOrders=true:=by kernel_rfl
  have HWH:Hz (∀ (b:Nat),b≤s.size→∀ w,Calls Tryz.prog 46 #[.string s,.int .i64 (b:Nat)] w fun e w' =>e=.returned (.agg #[.int .i64 (b:Nat),.int .i64 ((whL s b).1:Nat),.int .i64 ((whL s b).2:Nat)])∧Below w.heap.size w w'):=kz (fun b hb w =>refWhere_in s (by omega) b hb _ (.inr (.inr ⟨by omega,by omega,rfl⟩)) w)
  have HAT:=kz (fun i (hi:i < 9) =>refA_at T a0 a1 a2 a3 a4 a5 a6 a7 e0 e1 e2 e3 e4 e5 e6 e7 e8 c0 c1 c2 c3 c4 c5 c6 c7 f0 f1 f2 f3 f4 f5 f6 f7 f8 hR i hi)
  generalize refA T a0 a1 a2 a3 a4 a5 a6 a7 e0 e1 e2 e3 e4 e5 e6 e7 e8 c0 c1 c2 c3 c4 c5 c6 c7 f0 f1 f2 f3 f4 f5 f6 f7 f8=A at *
  have HX:Hz (Blk ((W.alloc (.cells A 51)).alloc (.cells #[.int .i64 0,.int .i64 0,.int .i64 0] 53)) W.heap.size A 51∧Blk ((W.alloc (.cells A 51)).alloc (.cells #[.int .i64 0,.int .i64 0,.int .i64 0] 53)) (W.heap.size+1) #[.int .i64 0,.int .i64 0,.int .i64 0] 53∧Below W.heap.size W ((W.alloc (.cells A 51)).alloc (.cells #[.int .i64 0,.int .i64 0,.int .i64 0] 53))):=kz (by
    have h:=Blk.new (W.alloc (.cells A 51)) #[.int .i64 0,.int .i64 0,.int .i64 0] 53
    rw [World.size_alloc] at h
    exact ⟨(Blk.new W A _).alloc _,h,((Below.refl _ W).alloc (Nat.le_refl _) _).alloc (by simp) _⟩)
  have HTL:=kz (And.intro hT hL)
  clear hR hT hL
  by_cases o1:list < 1
  · have HV:Hz (whereV T (s.size:Nat) (endL s) (endC s) list row=(((s.size:Nat):Int),endL s,endC s)):=kz (where_out T _ _ _ list row (.inl o1))
    clear HAT HTL
    go_enter Tryz.func21,Tryz.ntmps21
    have HCW:=kz (oz HWH s.size (Nat.le_refl _))
    go_wp2_with fail
    refine (oz HCW _).mono ?_
    rintro e w2 ⟨rfl,hb2⟩
    have x56:=(oz HX).2.1.below hb2 (oz HX).2.1.lt
    have HB2:Hz (Below W.heap.size W w2):=kz ((oz HX).2.2.trans (hb2.mono (oz HX).2.2.size))
    have g0:=x56.cell 0
    have h0:=x56.frozen 0
    have g1:=x56.cell 1
    have h1:=x56.frozen 1
    have g2:=x56.cell 2
    have h2:=x56.frozen 2
    have HX56:=kz x56
    clear hb2 HCW x56
    go_wp2_with fail
    have K:=box3 (oz HX56) (Value.int .i64 ((s.size:Nat):Int)) (Value.int .i64 (((whL s s.size).1:Nat):Int)) (Value.int .i64 (((whL s s.size).2:Nat):Int))
    have HB3:=kz (((oz HB2).setCell (p:=⟨W.heap.size+1,0,none⟩) (by show W.heap.size≤W.heap.size+1;omega) (Value.int .i64 ((s.size:Nat):Int))).setCell (p:=⟨W.heap.size+1,1,none⟩) (by show W.heap.size≤W.heap.size+1;omega) (Value.int .i64 (((whL s s.size).1:Nat):Int)) |>.setCell (p:=⟨W.heap.size+1,2,none⟩) (by show W.heap.size≤W.heap.size+1;omega) (Value.int .i64 (((whL s s.size).2:Nat):Int)))
    generalize ((w2.setCell ⟨W.heap.size+1,0,none⟩ (Value.int .i64 ((s.size:Nat):Int))).setCell ⟨W.heap.size+1,1,none⟩ (Value.int .i64 (((whL s s.size).1:Nat):Int))).setCell ⟨W.heap.size+1,2,none⟩ (Value.int .i64 (((whL s s.size).2:Nat):Int))=w3 at K HB3 ⊢
    have s0:=K.1.cell 0
    have s1:=K.1.cell 1
    have s2:=K.1.cell 2
    clear K g0 g1 g2 h0 h1 h2
    rw [oz HV]
    exact bodyPost_ret (v := .agg #[.int .i64 ((s.size:Nat):Int),.int .i64 (((whL s s.size).1:Nat):Int),.int .i64 (((whL s s.size).2:Nat):Int)]) (by simp [results,Tryz.results21,go_sem,s0,s1,s2]) rfl ⟨rfl,oz HB3⟩

  by_cases o2:8 < list
  · have HV:Hz (whereV T (s.size:Nat) (endL s) (endC s) list row=(((s.size:Nat):Int),endL s,endC s)):=kz (where_out T _ _ _ list row (.inr (.inl o2)))
    clear HAT HTL
    go_enter Tryz.func21,Tryz.ntmps21
    have HCW:=kz (oz HWH s.size (Nat.le_refl _))
    go_wp2_with fail
    refine (oz HCW _).mono ?_
    rintro e w2 ⟨rfl,hb2⟩
    have x56:=(oz HX).2.1.below hb2 (oz HX).2.1.lt
    have HB2:Hz (Below W.heap.size W w2):=kz ((oz HX).2.2.trans (hb2.mono (oz HX).2.2.size))
    have g0:=x56.cell 0
    have h0:=x56.frozen 0
    have g1:=x56.cell 1
    have h1:=x56.frozen 1
    have g2:=x56.cell 2
    have h2:=x56.frozen 2
    have HX56:=kz x56
    clear hb2 HCW x56
    go_wp2_with fail
    have K:=box3 (oz HX56) (Value.int .i64 ((s.size:Nat):Int)) (Value.int .i64 (((whL s s.size).1:Nat):Int)) (Value.int .i64 (((whL s s.size).2:Nat):Int))
    have HB3:=kz (((oz HB2).setCell (p:=⟨W.heap.size+1,0,none⟩) (by show W.heap.size≤W.heap.size+1;omega) (Value.int .i64 ((s.size:Nat):Int))).setCell (p:=⟨W.heap.size+1,1,none⟩) (by show W.heap.size≤W.heap.size+1;omega) (Value.int .i64 (((whL s s.size).1:Nat):Int)) |>.setCell (p:=⟨W.heap.size+1,2,none⟩) (by show W.heap.size≤W.heap.size+1;omega) (Value.int .i64 (((whL s s.size).2:Nat):Int)))
    generalize ((w2.setCell ⟨W.heap.size+1,0,none⟩ (Value.int .i64 ((s.size:Nat):Int))).setCell ⟨W.heap.size+1,1,none⟩ (Value.int .i64 (((whL s s.size).1:Nat):Int))).setCell ⟨W.heap.size+1,2,none⟩ (Value.int .i64 (((whL s s.size).2:Nat):Int))=w3 at K HB3 ⊢
    have s0:=K.1.cell 0
    have s1:=K.1.cell 1
    have s2:=K.1.cell 2
    clear K g0 g1 g2 h0 h1 h2
    rw [oz HV]
    exact bodyPost_ret (v := .agg #[.int .i64 ((s.size:Nat):Int),.int .i64 (((whL s s.size).1:Nat):Int),.int .i64 (((whL s s.size).2:Nat):Int)]) (by simp [results,Tryz.results21,go_sem,s0,s1,s2]) rfl ⟨rfl,oz HB3⟩

  by_cases o3:row < 0
  · have HV:Hz (whereV T (s.size:Nat) (endL s) (endC s) list row=(((s.size:Nat):Int),endL s,endC s)):=kz (where_out T _ _ _ list row (.inr (.inr o3)))
    clear HAT HTL
    go_enter Tryz.func21,Tryz.ntmps21
    have HCW:=kz (oz HWH s.size (Nat.le_refl _))
    go_wp2_with fail
    refine (oz HCW _).mono ?_
    rintro e w2 ⟨rfl,hb2⟩
    have x56:=(oz HX).2.1.below hb2 (oz HX).2.1.lt
    have HB2:Hz (Below W.heap.size W w2):=kz ((oz HX).2.2.trans (hb2.mono (oz HX).2.2.size))
    have g0:=x56.cell 0
    have h0:=x56.frozen 0
    have g1:=x56.cell 1
    have h1:=x56.frozen 1
    have g2:=x56.cell 2
    have h2:=x56.frozen 2
    have HX56:=kz x56
    clear hb2 HCW x56
    go_wp2_with fail
    have K:=box3 (oz HX56) (Value.int .i64 ((s.size:Nat):Int)) (Value.int .i64 (((whL s s.size).1:Nat):Int)) (Value.int .i64 (((whL s s.size).2:Nat):Int))
    have HB3:=kz (((oz HB2).setCell (p:=⟨W.heap.size+1,0,none⟩) (by show W.heap.size≤W.heap.size+1;omega) (Value.int .i64 ((s.size:Nat):Int))).setCell (p:=⟨W.heap.size+1,1,none⟩) (by show W.heap.size≤W.heap.size+1;omega) (Value.int .i64 (((whL s s.size).1:Nat):Int)) |>.setCell (p:=⟨W.heap.size+1,2,none⟩) (by show W.heap.size≤W.heap.size+1;omega) (Value.int .i64 (((whL s s.size).2:Nat):Int)))
    generalize ((w2.setCell ⟨W.heap.size+1,0,none⟩ (Value.int .i64 ((s.size:Nat):Int))).setCell ⟨W.heap.size+1,1,none⟩ (Value.int .i64 (((whL s s.size).1:Nat):Int))).setCell ⟨W.heap.size+1,2,none⟩ (Value.int .i64 (((whL s s.size).2:Nat):Int))=w3 at K HB3 ⊢
    have s0:=K.1.cell 0
    have s1:=K.1.cell 1
    have s2:=K.1.cell 2
    clear K g0 g1 g2 h0 h1 h2
    rw [oz HV]
    exact bodyPost_ret (v := .agg #[.int .i64 ((s.size:Nat):Int),.int .i64 (((whL s s.size).1:Nat):Int),.int .i64 (((whL s s.size).2:Nat):Int)]) (by simp [results,Tryz.results21,go_sem,s0,s1,s2]) rfl ⟨rfl,oz HB3⟩

  obtain ⟨i,rfl⟩:∃ i:Nat,list=(i:Int):=⟨list.toNat,by omega⟩
  obtain ⟨j,rfl⟩:∃ j:Nat,row=(j:Int):=⟨row.toNat,by omega⟩
  have hi:i < 9:=by omega
  obtain ⟨ea,fa,hA,hrow⟩:=oz HAT i hi
  have t0:((W.alloc (.cells A 51)).alloc (.cells #[.int .i64 0,.int .i64 0,.int .i64 0] 53)).cell? ⟨W.heap.size,8+i,none⟩=some (.slice ea (rowsOf T i).length fa):=((oz HX).1.cell (8+i)).trans hA
  have hlen:=rows_le (oz HTL).2 i
  obtain ⟨l,hl2⟩:∃ l,l=rowsOf T i:=⟨_,rfl⟩
  rw [← hl2] at t0 hlen hrow
  have i0:(0:Int)≤(i:Int):=by omega
  have i1:¬ (i:Int) < 1:=by omega
  have i8:¬ 8 < (i:Int):=by omega
  have i9:(i:Int) < 9:=by omega
  have j0:(0:Int)≤(j:Int):=by omega
  by_cases hj:j < l.length
  · obtain ⟨x,hx⟩:∃ x,l[j]?=some x:=⟨_,List.getElem?_eq_getElem hj⟩
    obtain ⟨b,hb,rfl⟩:=(oz HTL).1.row i j x (by rw [← hl2];exact hx)
    have HV:Hz (whereV T (s.size:Nat) (endL s) (endC s) (i:Nat) (j:Nat)=(((b:Nat):Int),(((whL s b).1:Nat):Int),(((whL s b).2:Nat):Int))):=kz (wh_row T _ _ _ i j hi _ (by rw [← hl2];exact hx))
    have jl:(j:Int) < (l.length:Int):=by omega
    obtain ⟨g,of,rfl,hg,hcs⟩:=hrow (by unfold encB;rw [List.length_map];omega)
    have d0:((W.alloc (.cells A 51)).alloc (.cells #[.int .i64 0,.int .i64 0,.int .i64 0] 53)).cell? ⟨g,of+j,none⟩=some (.int .i64 ((b:Nat):Int)):=((oz HX).2.2.cell (p:=⟨g,of+j,none⟩) hg).trans (hcs j _ (encB_at l j _ hx))
    clear hrow hcs hA hx hl2 hj HTL HAT o1 o2 o3
    go_enter Tryz.func21,Tryz.ntmps21
    have HCW:=kz (oz HWH b hb)
    go_wp2_with fail
    refine (oz HCW _).mono ?_
    rintro e w2 ⟨rfl,hb2⟩
    have x56:=(oz HX).2.1.below hb2 (oz HX).2.1.lt
    have HB2:Hz (Below W.heap.size W w2):=kz ((oz HX).2.2.trans (hb2.mono (oz HX).2.2.size))
    have g0:=x56.cell 0
    have h0:=x56.frozen 0
    have g1:=x56.cell 1
    have h1:=x56.frozen 1
    have g2:=x56.cell 2
    have h2:=x56.frozen 2
    have HX56:=kz x56
    clear hb2 HCW x56
    go_wp2_with fail
    have K:=box3 (oz HX56) (Value.int .i64 ((b:Nat):Int)) (Value.int .i64 (((whL s b).1:Nat):Int)) (Value.int .i64 (((whL s b).2:Nat):Int))
    have HB3:=kz (((oz HB2).setCell (p:=⟨W.heap.size+1,0,none⟩) (by show W.heap.size≤W.heap.size+1;omega) (Value.int .i64 ((b:Nat):Int))).setCell (p:=⟨W.heap.size+1,1,none⟩) (by show W.heap.size≤W.heap.size+1;omega) (Value.int .i64 (((whL s b).1:Nat):Int)) |>.setCell (p:=⟨W.heap.size+1,2,none⟩) (by show W.heap.size≤W.heap.size+1;omega) (Value.int .i64 (((whL s b).2:Nat):Int)))
    generalize ((w2.setCell ⟨W.heap.size+1,0,none⟩ (Value.int .i64 ((b:Nat):Int))).setCell ⟨W.heap.size+1,1,none⟩ (Value.int .i64 (((whL s b).1:Nat):Int))).setCell ⟨W.heap.size+1,2,none⟩ (Value.int .i64 (((whL s b).2:Nat):Int))=w3 at K HB3 ⊢
    have s0:=K.1.cell 0
    have s1:=K.1.cell 1
    have s2:=K.1.cell 2
    clear K g0 g1 g2 h0 h1 h2
    rw [oz HV]
    exact bodyPost_ret (v := .agg #[.int .i64 ((b:Nat):Int),.int .i64 (((whL s b).1:Nat):Int),.int .i64 (((whL s b).2:Nat):Int)]) (by simp [results,Tryz.results21,go_sem,s0,s1,s2]) rfl ⟨rfl,oz HB3⟩

  · have HV:Hz (whereV T (s.size:Nat) (endL s) (endC s) (i:Nat) (j:Nat)=(((s.size:Nat):Int),endL s,endC s)):=kz (wh_none T _ _ _ i j hi (by rw [← hl2];exact List.getElem?_eq_none (by omega)))
    have jl:¬ (j:Int) < (l.length:Int):=by omega
    have jm:(l.length:Int)≤(j:Int):=by omega
    clear hrow hA hl2 hj HTL HAT o1 o2 o3
    go_enter Tryz.func21,Tryz.ntmps21
    have HCW:=kz (oz HWH s.size (Nat.le_refl _))
    go_wp2_with fail
    refine (oz HCW _).mono ?_
    rintro e w2 ⟨rfl,hb2⟩
    have x56:=(oz HX).2.1.below hb2 (oz HX).2.1.lt
    have HB2:Hz (Below W.heap.size W w2):=kz ((oz HX).2.2.trans (hb2.mono (oz HX).2.2.size))
    have g0:=x56.cell 0
    have h0:=x56.frozen 0
    have g1:=x56.cell 1
    have h1:=x56.frozen 1
    have g2:=x56.cell 2
    have h2:=x56.frozen 2
    have HX56:=kz x56
    clear hb2 HCW x56
    go_wp2_with fail
    have K:=box3 (oz HX56) (Value.int .i64 ((s.size:Nat):Int)) (Value.int .i64 (((whL s s.size).1:Nat):Int)) (Value.int .i64 (((whL s s.size).2:Nat):Int))
    have HB3:=kz (((oz HB2).setCell (p:=⟨W.heap.size+1,0,none⟩) (by show W.heap.size≤W.heap.size+1;omega) (Value.int .i64 ((s.size:Nat):Int))).setCell (p:=⟨W.heap.size+1,1,none⟩) (by show W.heap.size≤W.heap.size+1;omega) (Value.int .i64 (((whL s s.size).1:Nat):Int)) |>.setCell (p:=⟨W.heap.size+1,2,none⟩) (by show W.heap.size≤W.heap.size+1;omega) (Value.int .i64 (((whL s s.size).2:Nat):Int)))
    generalize ((w2.setCell ⟨W.heap.size+1,0,none⟩ (Value.int .i64 ((s.size:Nat):Int))).setCell ⟨W.heap.size+1,1,none⟩ (Value.int .i64 (((whL s s.size).1:Nat):Int))).setCell ⟨W.heap.size+1,2,none⟩ (Value.int .i64 (((whL s s.size).2:Nat):Int))=w3 at K HB3 ⊢
    have s0:=K.1.cell 0
    have s1:=K.1.cell 1
    have s2:=K.1.cell 2
    clear K g0 g1 g2 h0 h1 h2
    rw [oz HV]
    exact bodyPost_ret (v := .agg #[.int .i64 ((s.size:Nat):Int),.int .i64 (((whL s s.size).1:Nat):Int),.int .i64 (((whL s s.size).2:Nat):Int)]) (by simp [results,Tryz.results21,go_sem,s0,s1,s2]) rfl ⟨rfl,oz HB3⟩

theorem blk_range {w:World} {b:Nat} {A cs:List Value} {ty:TypeId} (hb:Blk w b A.toArray ty) (hp:∀ (j:Nat) (v:Value),cs[j]?=some v→A[j]?=some v):w.rangeAt b 0 cs:=fun j v hv =>by
  rw [Nat.zero_add,hb.cell j,List.getElem?_toArray]
  exact hp j v hv
theorem infoRfp:(Tryz.prog.info? 62).map (fun i =>(i.zero,i.size,i.bytes))=some (some (.pointer none),1,8):=by kernel_rfl
def KpAt (w:World) (lo:Nat) (v:Value):Nat→Prop
  | 0 =>v=.slice none 0 0
  | 1 => ∃ F0 cs0,Blk w F0 cs0 80∧w.ownsRow lo 62 1 v 1 [.pointer (some ⟨F0,0,none⟩)]
  | _ =>True
theorem KpAt.own {w:World} {lo:Nat} {v:Value} {i:Nat} (h:KpAt w lo v i) (hi:i < 2):∃ xs,w.ownsRow lo 62 1 v i xs:=by
  rcases (by omega:i=0∨i=1) with rfl | rfl
  · obtain rfl:v=.slice none 0 0:=h
    exact ⟨[],World.ownsRow_nil _ _ _ _⟩
  · obtain ⟨F0,cs0,_,ho⟩:=h
    exact ⟨_,ho⟩
theorem KpAt.below {w w':World} {lo:Nat} {v:Value} {i:Nat} (h:KpAt w lo v i) (hi:i < 2) (hb:Below w.heap.size w w'):KpAt w' lo v i:=by
  rcases (by omega:i=0∨i=1) with rfl | rfl
  · exact h
  · obtain ⟨F0,cs0,hF,ho⟩:=h
    exact ⟨F0,cs0,hF.below hb hF.lt,ho.kept (below_grown2 (row:=none) hb) (by cases v.ownBlock <;> simp)⟩
theorem KpAt.kept {w w':World} {lo:Nat} {v:Value} {i F:Nat} (h:KpAt w lo v i) (hi:i < 2) (hb:Below w.heap.size w w') (hF:w.heap.size≤F):Kept w' v F:=by
  have hb':=h.below hi hb
  rcases (by omega:i=0∨i=1) with rfl | rfl
  · exact .inl h
  · obtain ⟨F0,cs0,hF0,ho⟩:=h
    have hlt:=hF0.lt
    have ho2:=ho.kept (below_grown2 (row:=none) hb) (by cases v.ownBlock <;> simp)
    obtain ⟨g,cap,rfl,_,_⟩:=ho2.form (by decide)
    exact .inr ⟨g,cap,F0,cs0,rfl,(ho2.cellAt 0 (by decide)).trans rfl,by omega,hF0.below hb hF0.lt⟩
theorem KpAt.next {w w':World} {lo:Nat} {v v':Value} {i F:Nat} {cs0:Array Value} {xs:List Value} (h:KpAt w lo v i) (hi:i < 2) (hx:w.ownsRow lo 62 1 v i xs) (ho:w'.ownsRow lo 62 1 v' (i+1) (xs++[.pointer (some ⟨F,0,none⟩)])) (hF:Blk w' F cs0 80):KpAt w' lo v' (i+1):=by
  rcases (by omega:i=0∨i=1) with rfl | rfl
  · have:xs=[]:=by have:=hx.1;exact List.length_eq_zero_iff.1 (by omega)
    subst this
    exact ⟨F,cs0,hF,ho⟩
  · trivial
theorem blk_own {w w':World} {F L n:Nat} {cs0:Array Value} {v:Value} {xs:List Value} {o:Obj} (h:Blk w F cs0 80) (ho:w.ownsRow L 62 1 v n xs) (hg:(w.alloc o).grownBy w' v.ownBlock):Blk w' F cs0 80 :=
  (h.alloc o).kept hg (blk_row h ho (by decide))
theorem below_grown3 {w3 w w':World} {L:Nat} {v:Value} {n:Nat} {xs:List Value} (hb:Below L w3 w) (hl:L≤w.heap.size) (ho:w.ownsRow L 62 1 v n xs) (hg:w.grownBy w' v.ownBlock):Below L w3 w':=hb.grown hg hl (fun k hk =>(ho.lt k hk).1)
set_option maxRecDepth 100000 in
set_option maxHeartbeats 4000000 in
theorem told5_bad (s:ByteArray) (hs:s.size≤3000) (k:Nat) (f:Rf) (T:TV) (hP:parseA s=⟨k,some f,T⟩) (list row:Int) (m:Int) (W:World) (hE:EnvK m W) :
    Calls Tryz.prog 7 #[.string s,.int .i64 list,.int .i64 row] W fun e w' =>e=.returned (.bool true)∧Below W.heap.size W w':=by
  have hok:=parse_ref (show (parseA s).bad=some f by rw [hP])
  have hle:=hok.plc.le
  have hy:ErrN f.why:=by rcases hok.why with e | e | e;exact .inl e;exact .inr (.inl e);exact .inr (.inr (.inl e))
  have hwn:f.why≠0:=by rcases hok.why with e | e | e <;> rw [e] <;> decide
  have HRF:=kz (fun (F:Nat) (v:Value) (w:World) (h:EnvK m w) (hv:Kept w v F) (hb:Blk w F (rfCells f) 80) =>refused_any F f.b f.l f.c f.why v w hv hb (by have:=hle.1;dsimp only at this;omega) (by have:=hle.2;dsimp only at this;omega) h.p.pow (by have:=h.p.big;omega) h.et hy)
  have HRP:Hz (Calls Tryz.prog 16 #[.string s] W fun e w' => ∃ cs:List Value,e=.returned (.tuple #[.agg cs.toArray,.agg #[.int .i64 f.b,.int .i64 f.l,.int .i64 f.c],.int .i64 f.why])∧cs.length=17∧(∀ v ∈ cs,v.oneCell'=true)∧True∧Below W.heap.size W w'):=kz ((rparse_eq s (by omega) _ hP W).mono (fun e w' h =>⟨List.replicate 17 (.slice none 0 0),h.1,rfl,fun v hv =>by rw [(List.mem_replicate.1 hv).2];rfl,trivial,h.2⟩))
  have HPA:=kz (fun (w:World) (h:EnvK m w) =>parse_eq s (by omega) _ hP m w h.max (by have:=h.p.big;omega))
  have HE:=kz hE
  clear hok hle hy hP hE
  obtain ⟨fb,fl,fc,fw⟩:=f
  dsimp only at HRF HRP hwn
  have hf1:(fw != 0)=true:=by simpa using hwn
  have hf2:(fw == 0)=false:=by simpa using hwn
  have hmx:Tryz.prog.follows .mixedOrders=true:=by kernel_rfl
  obtain ⟨ip,hip⟩:=info_parts infoRfp
  have HIP:=kz hip
  clear hip
  go_enter Tryz.func7,Tryz.ntmps7
  go_wp2_with fail
  refine (oz HRP).mono ?_
  rintro e w1 ⟨cs,rfl,hcl,hone,hrest,hb1⟩
  have HX0:=kz (bx2_new w1)
  have hk2:=(oz HX0).2.kept (setCells_grown w1.heap.size cs 0 _) (fun e =>by have:=Option.some.inj e;omega)
  have g0:=hk2.cell 0
  have h0:=hk2.frozen 0
  have g1:=hk2.cell 1
  have h1:=hk2.frozen 1
  have g2:=hk2.cell 2
  have h2:=hk2.frozen 2
  have HCL:=kz hcl
  have HON:=kz hone
  have HRS:=kz (And.intro hrest hb1)
  clear hone hk2 hcl hrest hb1 HRP
  go_wp2_with (refine store_text rfl _ _ rfl w1.heap.size cs [.slice none 0 0,.slice none 0 0,.slice none 0 0,.slice none 0 0,.slice none 0 0,.slice none 0 0,.slice none 0 0,.slice none 0 0,.slice none 0 0,.slice none 0 0,.slice none 0 0,.slice none 0 0,.slice none 0 0,.slice none 0 0,.slice none 0 0,.slice none 0 0,.slice none 0 0] rfl rfl (oz HX0).1 rfl (oz HCL) (oz HON) ?_)
  have K:=fin2s (oz HX0) cs (oz HCL) (Value.int .i64 fb) (Value.int .i64 fl) (Value.int .i64 fc)
  have HBA:Hz (Below w1.heap.size w1 ((w1.alloc (.cells #[.slice none 0 0,.slice none 0 0,.slice none 0 0,.slice none 0 0,.slice none 0 0,.slice none 0 0,.slice none 0 0,.slice none 0 0,.slice none 0 0,.slice none 0 0,.slice none 0 0,.slice none 0 0,.slice none 0 0,.slice none 0 0,.slice none 0 0,.slice none 0 0,.slice none 0 0] 51)).alloc (.cells #[.int .i64 0,.int .i64 0,.int .i64 0] 53))):=kz (((Below.refl _ w1).alloc (Nat.le_refl _) _).alloc (by simp) _)
  generalize (w1.alloc (.cells #[.slice none 0 0,.slice none 0 0,.slice none 0 0,.slice none 0 0,.slice none 0 0,.slice none 0 0,.slice none 0 0,.slice none 0 0,.slice none 0 0,.slice none 0 0,.slice none 0 0,.slice none 0 0,.slice none 0 0,.slice none 0 0,.slice none 0 0,.slice none 0 0,.slice none 0 0] 51)).alloc (.cells #[.int .i64 0,.int .i64 0,.int .i64 0] 53)=wa at *
  generalize (((wa.setCells w1.heap.size 0 cs).setCell ⟨w1.heap.size+1,0,none⟩ (Value.int .i64 fb)).setCell ⟨w1.heap.size+1,1,none⟩ (Value.int .i64 fl)).setCell ⟨w1.heap.size+1,2,none⟩ (Value.int .i64 fc)=w3 at K ⊢
  have HB3:Hz (Below w1.heap.size w1 w3):=kz ((oz HBA).trans K.be)
  have HK3:=kz K
  clear K g0 g1 g2 h0 h1 h2 HX0 HBA
  obtain ⟨L,hL⟩:∃ L,L=w3.heap.size:=⟨_,rfl⟩
  have hNL:w1.heap.size+1 < L:=by rw [hL];exact (oz HK3).b2.lt
  have HLL:=kz hL
  have HE3:Hz (EnvK m w3):=kz (((oz HE).below (oz HRS).2).below (oz HB3))
  clear hL
  go_loopw [10,11] (fun v10 v11 wr => ∃ i:Nat,i≤2∧v11=.int .i64 i∧Hz (KpAt wr L v10 i)∧Hz (Below L w3 wr)) (fun _ v11 _ =>2 - (intOf v11).toNat)
  case atStart =>exact ⟨0,by omega,rfl,kz rfl,kz (Below.refl _ _)⟩
  case round =>
    obtain ⟨i,hi2,rfl,HKp,HBr⟩:=hrel
    by_cases hi:i < 2
    · have k1:(i:Int) < 2:=by omega
      have HEr:Hz (EnvK m wr):=kz ((oz HE3).below (by rw [← oz HLL];exact oz HBr))
      have HCP:=kz (oz HPA wr (oz HEr))
      go_wp2_with fail
      refine (oz HCP).mono ?_
      rintro e w4 ⟨v4,er4,rfl,hb4,hpa⟩
      obtain ⟨rfl,F,rfl,hF,hbF⟩:=hpa
      have HB4:Hz (Below L w3 w4):=kz ((oz HBr).trans (hb4.mono (by have:=(oz HBr).size;rw [← oz HLL] at this;exact this)))
      have HE4:Hz (EnvK m w4):=kz ((oz HEr).below hb4)
      have HKe:=kz ((oz HKp).kept hi hb4 hF)
      have HK4:=kz ((oz HKp).below hi hb4)
      have hx:=(oz HK3).b2.below (oz HB4) hNL
      have s0:=hx.cell 0
      have s1:=hx.cell 1
      have s2:=hx.cell 2
      have HCR:=kz (oz HRF F _ w4 (oz HE4) (oz HKe) hbF)
      have HFB:=kz hbF
      have HLr:Hz (L≤F):=kz (by have:=(oz HBr).size;rw [← oz HLL] at this;omega)
      clear hb4 hx HCP hF hbF HKp HBr
      go_wp2_with fail
      refine (oz HCR).mono ?_
      rintro e w5 ⟨rfl,hb5⟩
      have HB5:Hz (Below L w3 w5):=kz ((oz HB4).trans (hb5.mono (by have:=(oz HB4).size;rw [← oz HLL] at this;exact this)))
      have HK5:=kz ((oz HK4).below hi hb5)
      have HF5:=kz ((oz HFB).below hb5 (oz HFB).lt)
      obtain ⟨xs,hxs⟩:=(oz HK5).own hi
      have HXS:=kz hxs
      have hL5:L≤w5.heap.size:=by have:=(oz HB5).size;rw [← oz HLL] at this;exact this
      clear hb5 HCR s0 s1 s2 hxs
      go_wp2_with (at_builtin;refine append_k rfl _ _ 61 62 rfl ip (.pointer none) 1 8 Tryz.underlying61 (oz HIP) rfl (by decide) (by decide) L _ i xs [.pointer (some ⟨F,0,none⟩)] rfl rfl (by omega) w5 rfl (by intro u hu;simp at hu;rcases hu with rfl;rfl) (oz HXS) hL5 _ rfl rfl ?_)
      intro v6 w6 ho6 hg6
      have HB6:Hz (Below L w3 w6):=kz (below_grown3 ((oz HB5).alloc hL5 _) (by simp;omega) ((oz HXS).alloc _) hg6)
      have HK6:Hz (KpAt w6 L v6 (i+1)):=kz ((oz HK5).next hi (oz HXS) ho6 (blk_own (oz HF5) (oz HXS) hg6))
      clear ho6 hg6
      go_wp2_with fail
      go_roundw
      case rel =>exact ⟨i+1,by omega,by simp,HK6,HB6⟩
      case measure =>simp [intOf];omega
    · have k1:¬ (i:Int) < 2:=by omega
      go_wp2_with fail
      go_ret
      exact ⟨rfl,(oz HRS).2.trans (((oz HB3).trans ((oz HBr).mono (by omega))).mono (oz HRS).2.size)⟩
theorem wsz_len:∀ (l:List ByteArray),l.length≤wsz l
  | [] =>Nat.le_refl _
  | w::l =>by have:=wsz_len l;show l.length+1≤w.size+1+wsz l;omega
theorem wsz_flat {α : Type} (f : α→List ByteArray):∀ (l:List α) (x : α),x ∈ l→wsz (f x)≤wsz (l.flatMap f)
  | [],x,h =>by cases h
  | y::l,x,h =>by
    rw [List.flatMap_cons,wsz_app]
    rcases List.mem_cons.1 h with rfl | h
    · omega
    · have:=wsz_flat f l x h;omega
theorem flatW_le:∀ (l:List (Int × Int)),l.length≤wsz (l.flatMap spanW)
  | [] =>Nat.le_refl _
  | s::l =>by
    have h1:=flatW_le l
    have h2:1≤wsz (spanW s):=by unfold spanW;split <;> (show 1≤_+1+_;omega)
    rw [List.flatMap_cons,wsz_app,List.length_cons]
    omega
theorem text_parts (T:TV):wsz (T.sc.flatMap scW)≤(textT T).size∧wsz (T.fo.flatMap (mpW ⟨#[102,111,108,100]⟩))≤(textT T).size∧wsz (T.lk.flatMap (mpW ⟨#[108,111,111,107]⟩))≤(textT T).size:=by
  rw [textT_wsz]
  unfold linesT
  simp only [List.flatten_append, ← List.flatMap_def,wsz_app]
  omega
theorem map_size {w:ByteArray} {x:Int × ByteArray} (h:mpK x=true):x.2.size≤4*wsz (mpW w x):=by
  unfold mpK at h
  rw [Bool.and_eq_true] at h
  have h1:=runesBytes_size_le (runesL x.2)
  rw [okTo_back h.1] at h1
  have h2:(runesL x.2).length≤wsz (mpW w x):=by
    have:=wsz_len (mpW w x)
    unfold mpW at this ⊢
    simp only [List.length_cons,List.length_append,List.length_map,List.length_nil] at this
    omega
  omega
theorem tabOk_of {T:TV} (hk:okT T=true) (hs:(textT T).size≤262144) (hl:T.Le 1000000):TabOk T:=by
  obtain ⟨o1,o2,o3,o4,o5,o6,o7,o8⟩:=okT_parts hk
  obtain ⟨t1,t2,t3⟩:=text_parts T
  refine ⟨hl.sc,hl.co,hl.ma,hl.pr,hl.fo,hl.lk,hl.dr,hl.al,fun x hx =>?_,fun x hx =>?_,fun x hx =>?_,fun x hx =>?_⟩
  · have h1:=List.all_eq_true.1 o1 x hx
    unfold scK at h1
    rw [Bool.and_eq_true] at h1
    have h2:=legalB_small h1.1
    have h3:=wsz_flat scW T.sc x hx
    have h4:=flatW_le x.2
    have h5:wsz (x.2.flatMap spanW)≤wsz (scW x):=by
      show _≤6+1+(x.1.size+1+(1+1+wsz (x.2.flatMap spanW++[⟨#[125]⟩])))
      rw [wsz_app]
      omega
    exact ⟨by unfold maxLen;omega,by omega⟩
  · have h1:=List.all_eq_true.1 o3 x hx
    unfold maK clsB at h1
    rw [Bool.and_eq_true,Bool.and_eq_true] at h1
    have h2:=of_decide_eq_true h1.1.1
    have h3:=of_decide_eq_true h1.1.2
    exact ⟨by omega,by omega⟩
  · have h1:=map_size (w:=⟨#[102,111,108,100]⟩) (List.all_eq_true.1 o5 x hx)
    have h2:=wsz_flat (mpW ⟨#[102,111,108,100]⟩) T.fo x hx
    unfold maxLen
    omega
  · have h1:=map_size (w:=⟨#[108,111,111,107]⟩) (List.all_eq_true.1 o6 x hx)
    have h2:=wsz_flat (mpW ⟨#[108,111,111,107]⟩) T.lk x hx
    unfold maxLen
    omega
theorem wsOf_le (s:ByteArray):(wsOf s).length≤s.size+1:=by
  have:=(cutGo_S s (s.size+1) 0 (1,1) [] (by simp)).2
  unfold wsOf
  rw [List.length_map]
  exact Nat.le_trans this (by rw [List.length_nil];omega)
theorem parse_small {s:ByteArray} (hs:s.size≤3000) {k:Nat} {T:TV} (h:parseA s=⟨k,none,T⟩):okT T=true∧(textT T).size≤262144∧TabOk T∧T.Le 1000000:=by
  have h1:=wsOf_le s
  obtain ⟨h2,h3,h4⟩:=parse_good (by omega) h
  have h5:T.Le 1000000:=le_mono h4 (by omega)
  exact ⟨h2,by omega,tabOk_of h2 (by omega) h5,h5⟩
end Go.Proofs.YtmdgejgokoadlaaGreatDoor
