/- Texts of this claim, one behind the other. -/
import Derived.Test.YtoaiicbicdhkkaaGreatM32
/- none: of a nil Book nothing is zgf. -/
namespace Go.Proofs.YtoaiicbicdhkkaaGreat
open Go.RowKit Go.Shelf Go.Maps
attribute [local go_sem] Oper.semAt_some
set_option linter.unusedVariables false
theorem eq_nilQ (f:FuncId) (p q:Value) (w:World):(binOp BinOp.eql 54 (.func (.func f) #[] #[p,q]) .nilFunc).run Tryz.prog w=.ok (.bool false) w:=by
 have e:∃ d,Op.maxDepth=d+1:=⟨_,rfl⟩
 obtain ⟨d,hd⟩:=e
 simp [binOp,Op.equal,hd,Op.equalIn,run_underlying Tryz.underlying54]
structure NnI (w:World) (p4 p5:Nat) (pre:List (Nat × Nat)) (W:World):Prop where
 r:Blk W w.heap.size #[.bool false] 4
 a:Blk W p4 #[.int .i64 0,.int .i64 0] 35
 b:Blk W p5 #[.int .i64 0,.int .i64 0] 35
 t:Below w.heap.size w W
theorem NnI.below {w:World} {p4 p5 A:Nat} {pre:List (Nat × Nat)} {X Y:World} (h:NnI w p4 p5 pre X) (hb:Below A X Y) (hA:w.heap.size < A) (h4:p4 < A) (h5:p5 < A):NnI w p4 p5 pre Y :=
 ⟨h.r.below hb hA,h.a.below hb h4,h.b.below hb h5,h.t.trans (hb.mono (by omega))⟩
set_option maxRecDepth 100000 in
set_option maxHeartbeats 4000000 in
theorem none_in (n:Nat) (hn:6≤n) (w:World):CallsIn Fence.wide n Tryz.prog 15 #[.pointer none] w fun e w' =>e=.returned (.bool true)∧Below w.heap.size w w':=by
 have h1:1≤n:=by omega
 have hmx:Tryz.prog.follows .mixedOrders=true:=by kernel_rfl
 refine callsIn_of_wp_marks Tryz.func15 rfl trivial ?_ rfl
 simp only [Tryz.ntmps15,List.size_toArray,List.length_cons,List.length_nil,Nat.reduceAdd,Nat.reduceSub,Array.replicate_succ,Array.replicate_zero,List.push_toArray,List.append_toArray,List.nil_append,List.cons_append]
 have b0:=Blk.new w #[.bool false] 4
 have t0:=(Below.refl w.heap.size w).alloc (Nat.le_refl _) (.cells #[.bool false] 4)
 gi_wp2_with fail
 refine ⟨trivial, ?_⟩
 refine (callsIn_wide.2 (zjU _ _)).mono ?_
 rintro e w1 ⟨rfl,hb⟩
 have B1:=kz (b0.below hb (by simp))
 have T1:=kz (t0.trans (hb.mono (by simp)))
 clear b0 t0 hb
 have b1:=kz ((oz B1).alloc (.cells #[.int .i64 0,.int .i64 0] 35))
 have t1:=kz ((oz T1).alloc (oz T1).size (.cells #[.int .i64 0,.int .i64 0] 35))
 have P1:=kz (Blk.new w1 #[.int .i64 0,.int .i64 0] 35)
 have hw1:=(oz B1).lt
 gi_wp2_with fail
 generalize hX1:w1.alloc (.cells #[.int .i64 0,.int .i64 0] 35)=X1 at *
 have hz1:X1.heap.size=w1.heap.size+1:=by rw [← hX1];simp
 clear hX1
 refine ⟨trivial, ?_⟩
 refine (callsIn_wide.2 (zjG _ _ _)).mono ?_
 rintro e w2 ⟨rfl,hb⟩
 have B2:=kz ((oz b1).below hb (by omega))
 have P2:=kz ((oz P1).below hb (by omega))
 have T2:=kz ((oz t1).trans (hb.mono (by omega)))
 have hz2:=hb.size
 clear B1 T1 P1 hb b1 t1
 have b2:=kz ((oz B2).alloc (.cells #[.int .i64 0,.int .i64 0] 35))
 have p2:=kz ((oz P2).alloc (.cells #[.int .i64 0,.int .i64 0] 35))
 have t2:=kz ((oz T2).alloc (oz T2).size (.cells #[.int .i64 0,.int .i64 0] 35))
 have Q2:=kz (Blk.new w2 #[.int .i64 0,.int .i64 0] 35)
 gi_wp2_with fail
 generalize hX2:w2.alloc (.cells #[.int .i64 0,.int .i64 0] 35)=X2 at *
 have hz3:X2.heap.size=w2.heap.size+1:=by rw [← hX2];simp
 clear hX2
 refine ⟨trivial, ?_⟩
 refine (callsIn_wide.2 (zgi _ X2)).mono ?_
 rintro e w3 ⟨rfl,rfl⟩
 have hI:NnI w w1.heap.size w2.heap.size [] ((X2.alloc (.cells #[.pointer none] 22)).alloc (.cells #[.string ⟨#[97]⟩] 9)) :=
  ⟨((oz b2).alloc _).alloc _,((oz p2).alloc _).alloc _,((oz Q2).alloc _).alloc _,((oz t2).alloc (oz t2).size _).alloc (by have:=(oz t2).size;simp;omega) _⟩
 have hS:((X2.alloc (.cells #[.pointer none] 22)).alloc (.cells #[.string ⟨#[97]⟩] 9)).cell? ⟨w2.heap.size+1,0,none⟩=some (.pointer none):=by
  have b4:=(Blk.new X2 #[.pointer none] 22).alloc (.cells #[.string ⟨#[97]⟩] 9)
  rw [hz3] at b4
  exact b4.cell 0
 have hge:w2.heap.size+3≤((X2.alloc (.cells #[.pointer none] 22)).alloc (.cells #[.string ⟨#[97]⟩] 9)).heap.size:=by simp;omega
 rw [hz3]
 generalize (X2.alloc (.cells #[.pointer none] 22)).alloc (.cells #[.string ⟨#[97]⟩] 9)=X3 at *
 have hwv:w.heap.size < w1.heap.size∧w1.heap.size < w2.heap.size:=⟨hw1,by omega⟩
 clear B2 P2 T2 b2 p2 t2 Q2 hz1 hz2 hz3 hw1
 have hq:=eq_nilQ 39 (.pointer (some ⟨w2.heap.size+1,0,none⟩)) (.pointer (some ⟨w2.heap.size+1+1,0,none⟩))
 gi_wp2
 rename_i K1 hK1
 have hK1':=kz hK1
 clear hK1 hq
 refine zc3 rfl h1 (gf:=39) (lb:=#[.pointer (some ⟨w2.heap.size+1,0,none⟩),.pointer (some ⟨w2.heap.size+1+1,0,none⟩)]) rfl trivial (enters_of Tryz.func39 (by kernel_rfl) rfl)
  (zgh (n - 1) (w2.heap.size+1) (w2.heap.size+1+1) ⟨#[97]⟩ X3 hS) (fun _ _ =>trivial) (fun _ _ _ _ =>trivial) (Below.refl _ _) (fun _ =>rfl)
  (NnI w w1.heap.size w2.heap.size) (fun _ _ _ =>False) (fun p X Y h hb =>h.below hb (by omega) (by omega) (by omega)) (fun _ _ _ _ h _ =>h) hI ?round ?done ?stop
 case round =>
  rintro pre x W _ hF
  exact hF.elim
 case done =>
  rintro D xs W3 hD hS2 hIW hdef
  have HI:=kz hIW
  have hwD:w.heap.size+1≤D:=by omega
  have HD:=kz hdef
  have hDlt:=(Array.getElem?_eq_some_iff.1 hdef).1
  have a0:=hIW.a.cell 0
  have a1:=hIW.a.cell 1
  have q0:=hIW.b.cell 0
  have q1:=hIW.b.cell 1
  clear hdef hI hS hS2 hIW
  apply oz hK1'
  gi_wp2_with fail
  refine ⟨trivial, ?_⟩
  refine (callsIn_wide.2 (zjq _ W3)).mono ?_
  rintro e w4 ⟨rfl,hb⟩
  have R4:=kz ((oz HI).r.below hb (oz HI).r.lt)
  have T4:=kz ((oz HI).t.trans (hb.mono (oz HI).t.size))
  have D4:=kz ((hb.block D hDlt).trans (oz HD))
  clear hb HI HD hDlt a0 a1 q0 q1 hge hK1'
  gi_wp2_with fail
  refine ⟨trivial, ?_⟩
  refine (callsIn_wide.2 (zjY _ w4)).mono ?_
  rintro e w5 ⟨rfl,rfl⟩
  gi_wp2_with fail
  refine ⟨trivial, ?_⟩
  refine (callsIn_wide.2 (zkN _ _ _)).mono ?_
  rintro e w6 ⟨rfl,rfl⟩
  have r0:=(oz R4).cell 0
  have rf:=(oz R4).frozen 0
  gi_wp2
  have hK':=(KeepsOthers.setCell w6 ⟨w.heap.size,0,none⟩ (.bool true)).same D _ (oz D4) rfl
  have k2':=(oz R4).set 0 (.bool true)
  have hB':=(oz T4).setCell (p:=⟨w.heap.size,0,none⟩) (Nat.le_refl _) (.bool true)
  clear r0 rf
  refine ⟨by simp,.inl ⟨_,_,rfl,run_takeDeferred hK', ?_⟩⟩
  have c0:=(k2'.put (.deferred Option.none) hK' rfl).cell 0
  refine ⟨.bool true, ?_,rfl,hB'.trans (belowK_b (w:=w) (Nat.le_refl _) _ D _ _ (by omega) hK' rfl rfl)⟩
  simp [results,Tryz.f15,go_sem,c0]
 case stop =>
  rintro D c pre W hD hF
  exact hF.elim
theorem none_any (w:World):Calls Tryz.prog 15 #[.pointer none] w fun e w' =>e=.returned (.bool true)∧Below w.heap.size w w':=callsIn_wide.1 (none_in 6 (Nat.le_refl _) w)
end Go.Proofs.YtoaiicbicdhkkaaGreat
namespace Go.Proofs.YtoaiicbicdhkkaaGreat
open Go.RowKit Go.Shelf Go.Maps
set_option linter.unusedVariables false
theorem run_n1:zfN HT ⟨#[195,169,255]⟩=some (2,1):=by decide +kernel
theorem run_n2:zdw HT ⟨#[195,169,226,128,141,98]⟩ 1=some (5,2):=by decide +kernel
theorem run_n3:zdw HT ⟨#[195,169,226,128,141,98]⟩ 2=some (6,3):=by decide +kernel
theorem run_n4:zdw HT ⟨#[195,169,226,128,141,98]⟩ 3=none:=by decide +kernel
theorem run_n5:zkM HT ⟨#[97,226,128,141]⟩ ⟨#[97]⟩=true:=by decide +kernel
theorem run_n6:zkM HT ⟨#[97]⟩ ⟨#[98]⟩=false:=by decide +kernel
set_option maxRecDepth 100000 in
set_option maxHeartbeats 4000000 in
theorem numbers11 (w:World):Calls Tryz.prog 3 #[] w fun e w' =>e=.returned (.bool true)∧Below w.heap.size w w':=by
 have hmx:Tryz.prog.follows .mixedOrders=true:=by kernel_rfl
 go_enter Tryz.func3,Tryz.ntmps3
 go_wp2_with fail
 refine (zhF w).mono ?_
 rintro e w1 ⟨v,rfl,hv,hb1⟩
 have HB1:=kz hb1
 have HC:=kz (zfH v w1 hv)
 clear hv hb1
 go_wp2_with fail
 refine (oz HC).mono ?_
 rintro e w2 ⟨B,rfl,hO,_,hbk,hb2⟩
 have HB2:=kz ((oz HB1).trans (hb2.mono (oz HB1).size))
 have HBK:=kz (fun w3 (h:Below w2.heap.size w2 w3) =>hbk.below h)
 have G2:=kz (Below.refl w2.heap.size w2)
 clear hb2 hbk HC HB1
 go_wp2_with fail
 refine (known11 w2).mono ?_
 rintro e w3 ⟨rfl,hb⟩
 have G3:=kz ((oz G2).trans hb)
 clear hb G2
 go_wp2_with fail
 have h:=zjV HT hO ⟨#[195,169,255]⟩ (by decide) B w3 (oz HBK w3 (oz G3))
 rw [run_n1] at h
 refine h.mono ?_
 clear h
 rintro e w4 ⟨rfl,hb⟩
 rw [show zdp (some (2,1))=.tuple #[.agg #[.int .i64 2,.int .i64 1],.bool true] from rfl]
 have P4:=kz (Blk.new w4 #[.int .i64 2,.int .i64 1] 35)
 have G4:=kz (((oz G3).trans (hb.mono (oz G3).size)).alloc (by have:=(oz G3).size;have:=hb.size;omega) (.cells #[.int .i64 2,.int .i64 1] 35))
 clear hb G3
 go_wp2_with fail
 generalize hX:w4.alloc (.cells #[.int .i64 2,.int .i64 1] 35)=X4 at *
 have hz4:X4.heap.size=w4.heap.size+1:=by rw [← hX];simp
 clear hX
 have h:=zeL HT hO ⟨#[195,169,226,128,141,98]⟩ (by decide) 1 (by decide) B X4 (oz HBK X4 (oz G4))
 rw [run_n2] at h
 refine h.mono ?_
 clear h
 rintro e w5 ⟨rfl,hb⟩
 rw [show zdp (some (5,2))=.tuple #[.agg #[.int .i64 5,.int .i64 2],.bool true] from rfl]
 have P5:=kz (((oz P4).below hb (by omega)).alloc (.cells #[.int .i64 5,.int .i64 2] 35))
 have Q5:=kz (Blk.new w5 #[.int .i64 5,.int .i64 2] 35)
 have G5:=kz (((oz G4).trans (hb.mono (oz G4).size)).alloc (by have:=(oz G4).size;have:=hb.size;omega) (.cells #[.int .i64 5,.int .i64 2] 35))
 have hz5:w4.heap.size+1≤w5.heap.size:=by have:=hb.size;omega
 clear hb G4 P4
 go_wp2_with fail
 generalize hX:w5.alloc (.cells #[.int .i64 5,.int .i64 2] 35)=X5 at *
 have hz5':X5.heap.size=w5.heap.size+1:=by rw [← hX];simp
 clear hX
 have h:=zeL HT hO ⟨#[195,169,226,128,141,98]⟩ (by decide) 2 (by decide) B X5 (oz HBK X5 (oz G5))
 rw [run_n3] at h
 refine h.mono ?_
 clear h
 rintro e w6 ⟨rfl,hb⟩
 rw [show zdp (some (6,3))=.tuple #[.agg #[.int .i64 6,.int .i64 3],.bool true] from rfl]
 have P6:=kz (((oz P5).below hb (by omega)).alloc (.cells #[.int .i64 6,.int .i64 3] 35))
 have Q6:=kz (((oz Q5).below hb (by omega)).alloc (.cells #[.int .i64 6,.int .i64 3] 35))
 have R6:=kz (Blk.new w6 #[.int .i64 6,.int .i64 3] 35)
 have G6:=kz (((oz G5).trans (hb.mono (oz G5).size)).alloc (by have:=(oz G5).size;have:=hb.size;omega) (.cells #[.int .i64 6,.int .i64 3] 35))
 have hz6:w5.heap.size+1≤w6.heap.size:=by have:=hb.size;omega
 clear hb G5 P5 Q5
 go_wp2_with fail
 generalize hX:w6.alloc (.cells #[.int .i64 6,.int .i64 3] 35)=X6 at *
 have hz6':X6.heap.size=w6.heap.size+1:=by rw [← hX];simp
 clear hX
 have h:=zeL HT hO ⟨#[195,169,226,128,141,98]⟩ (by decide) 3 (by decide) B X6 (oz HBK X6 (oz G6))
 rw [run_n4] at h
 refine h.mono ?_
 clear h
 rintro e w7 ⟨rfl,hb⟩
 rw [show zdp none=.tuple #[.agg #[.int .i64 0,.int .i64 0],.bool false] from rfl]
 have P7:=((oz P6).below hb (by omega)).alloc (.cells #[.int .i64 0,.int .i64 0] 35)
 have Q7:=((oz Q6).below hb (by omega)).alloc (.cells #[.int .i64 0,.int .i64 0] 35)
 have R7:=((oz R6).below hb (by omega)).alloc (.cells #[.int .i64 0,.int .i64 0] 35)
 have G7:=kz (((oz G6).trans (hb.mono (oz G6).size)).alloc (by have:=(oz G6).size;have:=hb.size;omega) (.cells #[.int .i64 0,.int .i64 0] 35))
 clear hb G6 P6 Q6 R6
 have p0:=P7.cell 0
 have p1:=P7.cell 1
 have q0:=Q7.cell 0
 have q1:=Q7.cell 1
 have r0:=R7.cell 0
 have r1:=R7.cell 1
 clear P7 Q7 R7
 go_wp2_with fail
 have h:=zhn HT hO ⟨#[97,226,128,141]⟩ ⟨#[97]⟩ (by decide) (by decide) B _ (oz HBK _ (oz G7))
 rw [run_n5] at h
 refine h.mono ?_
 clear h
 rintro e w8 ⟨rfl,hb⟩
 have G8:=kz ((oz G7).trans (hb.mono (oz G7).size))
 clear hb G7 p0 p1 q0 q1 r0 r1
 go_wp2_with fail
 have h:=zhn HT hO ⟨#[97]⟩ ⟨#[98]⟩ (by decide) (by decide) B _ (oz HBK _ (oz G8))
 rw [run_n6] at h
 refine h.mono ?_
 clear h
 rintro e w9 ⟨rfl,hb⟩
 have G9:=kz ((oz G8).trans (hb.mono (oz G8).size))
 clear hb G8
 go_wp2_with fail
 refine (none_any _).mono ?_
 rintro e wx ⟨rfl,hb⟩
 have Gx:=kz ((oz G9).trans (hb.mono (oz G9).size))
 clear hb G9
 go_wp2
 go_ret
 exact ⟨rfl,(oz HB2).trans ((oz Gx).mono (oz HB2).size)⟩
end Go.Proofs.YtoaiicbicdhkkaaGreat
