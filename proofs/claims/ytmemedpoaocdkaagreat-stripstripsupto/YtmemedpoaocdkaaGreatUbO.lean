/- StripStrips, walked. -/
import Derived.Test.YtmemedpoaocdkaaGreatM28
namespace Go.Proofs.YtmemedpoaocdkaaGreat
open Go.RowKit Go.Shelf Go.Maps
set_option linter.unusedVariables false
set_option maxRecDepth 100000
set_option maxHeartbeats 8000000
theorem zqV {n:Int} (h:(Lit.int .i64 n).wf=true) : -9223372036854775808≤n∧n≤9223372036854775807:=by
 simp [Lit.wf,IntKind.min,IntKind.max,IntKind.signed,IntKind.bits] at h
 omega
theorem zhs (o:Option (Nat × Nat)):∃ (x y:Int) (b:Bool),zeh o=.tuple #[.agg #[.int .i64 x,.int .i64 y],.bool b]:=by
 cases o with
 | none =>exact ⟨0,0,false,rfl⟩
 | some x =>exact ⟨x.1,x.2,true,rfl⟩
theorem zl5 (T:TV) (hT:TabB T) (hI:zlM T) (A:TbA) (s u:ByteArray) (hs:s.size≤1000000000) (hu0:u.size≤1000000000) (k:Int) (hk:k≤9223372036854775807) (W:World) (hA:zfM W T A) :
  Calls Tryz.prog 3 #[.agg #[.slice A.a0 T.sc.length A.c0,.slice A.a1 T.co.length A.c1,.slice A.a2 T.ma.length A.c2,.slice A.a3 T.pr.length A.c3,.slice A.a4 T.fo.length A.c4,.slice A.a5 T.lk.length A.c5,.slice A.a6 T.dr.length A.c6,.slice A.a7 T.al.length A.c7],.string s,.string u,.int .i64 k] W fun e w' =>e=.returned (.bool true)∧Below W.heap.size W w':=by
 have hmx:Tryz.prog.follows .mixedOrders=true:=by kernel_rfl
 have HX:=kz (TbX.start hA)
 have HC:=kz (zmB T hT hI _ _ (TbX.start hA).tv)
 have HTT:=kz hT
 clear hA hT hI
 go_enter Tryz.func3,Tryz.ntmps3
 have z0:=(oz HX).z0
 have z1:=(oz HX).z1
 have z2:=(oz HX).z2
 have z3:=(oz HX).z3
 have z4:=(oz HX).z4
 have z5:=(oz HX).z5
 have z6:=(oz HX).z6
 have z7:=(oz HX).z7
 have HW0:=kz (oz HX).bl
 go_wp2_with fail
 generalize W.alloc (.cells #[.slice A.a0 T.sc.length A.c0,.slice A.a1 T.co.length A.c1,.slice A.a2 T.ma.length A.c2,.slice A.a3 T.pr.length A.c3,.slice A.a4 T.fo.length A.c4,.slice A.a5 T.lk.length A.c5,.slice A.a6 T.dr.length A.c6,.slice A.a7 T.al.length A.c7] 28)=w0 at *
 refine (oz HC).mono ?_
 rintro e w1 ⟨p,rfl,hV⟩
 have HB1:=kz ((oz HW0).trans (hV.bl.mono (oz HW0).size))
 have HX1:=kz ((oz HX).below hV.bl)
 clear HC z0 z1 z2 z3 z4 z5 z6 z7 HX HW0
 cases hu:upB T with
 | false =>
  clear hV hu
  go_wp2_with fail
  refine (zgC w1).mono ?_
  rintro e w2 ⟨rfl,hb⟩
  have HB2:=kz ((oz HB1).trans (hb.mono (oz HB1).size))
  clear hb HB1
  go_wp2
  go_ret
  exact ⟨rfl,oz HB2⟩
 | true =>
  obtain ⟨hck,hO,B,rfl,hB,hbk⟩:=hV.ok hu
  have hBK:=kz (fun w (h:Below w1.heap.size w1 w) =>hbk.below h)
  have HH:=kz hO
  have G1:=kz (Below.refl w1.heap.size w1)
  have H65:=kz (zgI hck)
  clear hV hu hbk hck
  go_wp2_with fail
  refine (zo2 s hs 3000 (by decide) w1).mono ?_
  rintro e w2 ⟨rfl,rfl⟩
  go_wp2_with fail
  refine (zo2 u hu0 3000 (by decide) w2).mono ?_
  rintro e w3 ⟨rfl,rfl⟩
  have hss:=ze2 s 3000
  have huu:=ze2 u 3000
  generalize zkv s 3000=S at *
  generalize zkv u 3000=U at *
  have hsl:=zb9 T S
  have hst:=zap S
  have hsm:S.size≤maxLen:=by unfold maxLen;omega
  have z0:=(oz HX1).z0
  have z1:=(oz HX1).z1
  have z2:=(oz HX1).z2
  have z3:=(oz HX1).z3
  have z4:=(oz HX1).z4
  have z5:=(oz HX1).z5
  have z6:=(oz HX1).z6
  have z7:=(oz HX1).z7
  go_wp2_with fail
  refine (zfB T (oz HTT) (oz H65) A S (by omega) w3 (oz HX1).ti).mono ?_
  rintro e w4 ⟨rfl,hb⟩
  have G4:=kz ((oz G1).trans hb)
  have HX4:=kz ((oz HX1).below hb)
  clear hb G1 HX1
  clear z0 z1 z2 z3 z4 z5 z6 z7
  have z0:=(oz HX4).z0
  have z1:=(oz HX4).z1
  have z2:=(oz HX4).z2
  have z3:=(oz HX4).z3
  have z4:=(oz HX4).z4
  have z5:=(oz HX4).z5
  have z6:=(oz HX4).z6
  have z7:=(oz HX4).z7
  go_wp2_with fail
  refine (zcV T (oz HTT) (oz H65) A S (by omega) w4 (oz HX4).ti).mono ?_
  rintro e w5 ⟨v5,u5,rfl,hown,hownu,hb⟩
  obtain ⟨a5,c5,rfl⟩:=zas hown
  obtain ⟨b5,d5,rfl⟩:=zas hownu
  have G5:=kz ((oz G4).trans (hb.mono (oz G4).size))
  have HX5:=kz ((oz HX4).below hb)
  clear hb G4 HX4 hown hownu
  clear z0 z1 z2 z3 z4 z5 z6 z7
  go_wp2_with fail
  have h:=zlh T (oz HH) S (by omega) B w5 (oz hBK w5 (oz G5))
  have h2:=fun w =>ziI T (oz HTT) A S (by omega) w
  obtain ⟨fx,fy,fb,hf⟩:=zhs (zfG T S)
  rw [hf] at h h2
  have HF2:=kz h2
  clear h2 hf
  refine h.mono ?_
  clear h
  rintro e w6 ⟨rfl,hb⟩
  have HX6:=kz (((oz HX5).below hb).below (zf8 w6 (.cells #[.int .i64 fx,.int .i64 fy] 40)))
  have G6:=kz (((oz G5).trans (hb.mono (oz G5).size)).alloc (by have:=(oz G5).size;have:=hb.size;omega) (.cells #[.int .i64 fx,.int .i64 fy] 40))
  have P6:=kz (Blk.new w6 #[.int .i64 fx,.int .i64 fy] 40)
  clear hb G5 HX5
  have z0:=(oz HX6).z0
  have z1:=(oz HX6).z1
  have z2:=(oz HX6).z2
  have z3:=(oz HX6).z3
  have z4:=(oz HX6).z4
  have z5:=(oz HX6).z5
  have z6:=(oz HX6).z6
  have z7:=(oz HX6).z7
  go_wp2_with fail
  generalize hX:w6.alloc (.cells #[.int .i64 fx,.int .i64 fy] 40)=X6 at *
  clear hX
  refine (oz HF2 X6 (oz HX6).ti).mono ?_
  rintro e w7 ⟨rfl,hb⟩
  have HX7:=kz (((oz HX6).below hb).below (zf8 w7 (.cells #[.int .i64 fx,.int .i64 fy] 40)))
  have G7:=kz (((oz G6).trans (hb.mono (oz G6).size)).alloc (by have:=(oz G6).size;have:=hb.size;omega) (.cells #[.int .i64 fx,.int .i64 fy] 40))
  have P7:=kz (((oz P6).below hb (oz P6).lt).alloc (.cells #[.int .i64 fx,.int .i64 fy] 40))
  have Q7:=kz (Blk.new w7 #[.int .i64 fx,.int .i64 fy] 40)
  clear hb G6 HX6 P6 HF2
  clear z0 z1 z2 z3 z4 z5 z6 z7
  go_wp2_with fail
  generalize hX:w7.alloc (.cells #[.int .i64 fx,.int .i64 fy] 40)=X7 at *
  clear hX
  have h:=zk1 T (oz HH) S (by omega) k hk B X7 (oz hBK X7 (oz G7))
  have h2:=fun w =>ziH T (oz HTT) (oz H65) A S (by omega) k w
  obtain ⟨px,py,pb,hp⟩:=zhs (zdv T S k)
  rw [hp] at h h2
  have HF2:=kz h2
  clear h2 hp
  refine h.mono ?_
  clear h
  rintro e w8 ⟨rfl,hb⟩
  have HX8:=kz (((oz HX7).below hb).below (zf8 w8 (.cells #[.int .i64 px,.int .i64 py] 40)))
  have G8:=kz (((oz G7).trans (hb.mono (oz G7).size)).alloc (by have:=(oz G7).size;have:=hb.size;omega) (.cells #[.int .i64 px,.int .i64 py] 40))
  have P8:=kz (((oz P7).below hb (oz P7).lt).alloc (.cells #[.int .i64 px,.int .i64 py] 40))
  have Q8:=kz (((oz Q7).below hb (oz Q7).lt).alloc (.cells #[.int .i64 px,.int .i64 py] 40))
  have R8:=kz (Blk.new w8 #[.int .i64 px,.int .i64 py] 40)
  clear hb G7 HX7 P7 Q7
  have z0:=(oz HX8).z0
  have z1:=(oz HX8).z1
  have z2:=(oz HX8).z2
  have z3:=(oz HX8).z3
  have z4:=(oz HX8).z4
  have z5:=(oz HX8).z5
  have z6:=(oz HX8).z6
  have z7:=(oz HX8).z7
  go_wp2_with fail
  generalize hX:w8.alloc (.cells #[.int .i64 px,.int .i64 py] 40)=X8 at *
  clear hX
  refine (oz HF2 X8 (oz HX8).ti).mono ?_
  rintro e w9 ⟨rfl,hb⟩
  have HX9:=kz (((oz HX8).below hb).below (zf8 w9 (.cells #[.int .i64 px,.int .i64 py] 40)))
  have G9:=kz (((oz G8).trans (hb.mono (oz G8).size)).alloc (by have:=(oz G8).size;have:=hb.size;omega) (.cells #[.int .i64 px,.int .i64 py] 40))
  have P9:=kz (((oz P8).below hb (oz P8).lt).alloc (.cells #[.int .i64 px,.int .i64 py] 40))
  have Q9:=kz (((oz Q8).below hb (oz Q8).lt).alloc (.cells #[.int .i64 px,.int .i64 py] 40))
  have R9:=kz (((oz R8).below hb (oz R8).lt).alloc (.cells #[.int .i64 px,.int .i64 py] 40))
  have S9:=kz (Blk.new w9 #[.int .i64 px,.int .i64 py] 40)
  clear hb G8 HX8 P8 Q8 R8 HF2
  clear z0 z1 z2 z3 z4 z5 z6 z7
  go_wp2_with fail
  generalize hX:w9.alloc (.cells #[.int .i64 px,.int .i64 py] 40)=X9 at *
  clear hX
  have hq0:((zbw T S).toList == (zbw T S).toList)=true:=by simp
  have hq1:((zbw T S).toList != (zbw T S).toList)=false:=by simp
  refine (zcM T (oz HH) S (by omega) B X9 (oz hBK X9 (oz G9))).mono ?_
  rintro e wa ⟨rfl,hb⟩
  have HXa:=kz ((oz HX9).below hb)
  have Ga:=kz ((oz G9).trans (hb.mono (oz G9).size))
  have Pa:=kz ((oz P9).below hb (oz P9).lt)
  have Qa:=kz ((oz Q9).below hb (oz Q9).lt)
  have Ra:=kz ((oz R9).below hb (oz R9).lt)
  have Sa:=kz ((oz S9).below hb (oz S9).lt)
  clear hb G9 HX9 P9 Q9 R9 S9
  go_wp2_with fail
  have h:=zex T (oz HH) S hsm B wa (oz hBK wa (oz Ga))
  have hspo:=fun w =>zcr S (by omega) w
  have HSPO:=kz hspo
  clear hspo
  obtain ⟨n3,hn3⟩:∃ n3,n3=(zah S).length - (zal T S).length:=⟨_,rfl⟩
  rw [← hn3] at h
  refine h.mono ?_
  clear h
  rintro e wb ⟨rfl,hb⟩
  have HXb:=kz ((oz HXa).below hb)
  have Gb:=kz ((oz Ga).trans (hb.mono (oz Ga).size))
  have Pb:=kz ((oz Pa).below hb (oz Pa).lt)
  have Qb:=kz ((oz Qa).below hb (oz Qa).lt)
  have Rb:=kz ((oz Ra).below hb (oz Ra).lt)
  have Sb:=kz ((oz Sa).below hb (oz Sa).lt)
  clear hb Ga HXa Pa Qa Ra Sa
  go_wp2_with fail
  refine (oz HSPO wb).mono ?_
  rintro e wc ⟨vc,rfl,hownc,hb⟩
  obtain ⟨ac,cc,rfl⟩:=zas hownc
  have HXc:=kz ((oz HXb).below hb)
  have Gc:=kz ((oz Gb).trans (hb.mono (oz Gb).size))
  have Pc:=kz ((oz Pb).below hb (oz Pb).lt)
  have Qc:=kz ((oz Qb).below hb (oz Qb).lt)
  have Rc:=kz ((oz Rb).below hb (oz Rb).lt)
  have Sc:=kz ((oz Sb).below hb (oz Sb).lt)
  clear hb Gb HXb Pb Qb Rb Sb hownc HSPO
  obtain ⟨n1,hn1⟩:∃ n1,n1=(zah S).length:=⟨_,rfl⟩
  obtain ⟨n2,hn2⟩:∃ n2,n2=(zal T S).length:=⟨_,rfl⟩
  rw [← hn1, ← hn2] at hn3
  rw [← hn1] at hst
  rw [← hn2, ← hn1] at hsl
  rw [← hn1]
  try rw [← hn2]
  have hsub:(n1:Int) - (n2:Int)=(n3:Int):=by omega
  have hnn:((n3:Int) != (n3:Int))=false:=by simp
  clear hn1 hn2 hn3
  have p0:=(oz Pc).cell 0
  have p1:=(oz Pc).cell 1
  have q0:=(oz Qc).cell 0
  have q1:=(oz Qc).cell 1
  have r0:=(oz Rc).cell 0
  have r1:=(oz Rc).cell 1
  have s0:=(oz Sc).cell 0
  have s1:=(oz Sc).cell 1
  have f1:(fx == fx)=true:=by simp
  have f2:(fy == fy)=true:=by simp
  have f3:(px == px)=true:=by simp
  have f4:(py == py)=true:=by simp
  have f5:(fb != fb)=false:=by simp
  have f6:(pb != pb)=false:=by simp
  go_wp2_with fail
  clear p0 p1 q0 q1 r0 r1 s0 s1 Pc Qc Rc Sc
  have z0:=cell_regrown (oz HXc).z0
  have z1:=cell_regrown (oz HXc).z1
  have z2:=cell_regrown (oz HXc).z2
  have z3:=cell_regrown (oz HXc).z3
  have z4:=cell_regrown (oz HXc).z4
  have z5:=cell_regrown (oz HXc).z5
  have z6:=cell_regrown (oz HXc).z6
  have z7:=cell_regrown (oz HXc).z7
  obtain ⟨bb,hbb⟩:∃ bb,((zbw T S).toList == (zbw T U).toList)=bb:=⟨_,rfl⟩
  have hb2:(bb == bb)=true:=by simp
  have HA1:=kz (fun w (hb:Below wc.heap.size wc w) =>zmg T (oz HH) S U (by omega) (by omega) B w (oz hBK w ((oz Gc).trans (hb.mono (oz Gc).size))))
  rw [show zox T S U=bb from hbb] at HA1
  have HA2:=kz (fun w (hb:Below wc.heap.size wc w) =>zfB T (oz HTT) (oz H65) A U (by omega) w ((oz HXc).below hb).ti)
  refine wp_region_quiet_below (by kernel_rfl) (by kernel_rfl) ?_
  repeat (go_big_quiet_step (first | exact Calls.regrown_of (oz HA1 _ (below_regrown wc _ _)) | exact Calls.regrown_of (oz HA2 _ (below_regrown wc _ _)) | exact Calls.regrown_of (zgC _)))
  first | refine wpQuiet_nil ?_ | skip
  rintro w' ⟨dq,rfl⟩
  have hbr:=below_regrown wc dq.d dq.os
  generalize Go.Sort.grow (redrawn wc dq.d) dq.os=wd at *
  have Gd:=kz ((oz Gc).trans (hbr.mono (oz Gc).size))
  clear hbr Gc
  go_wp2_with fail
  go_ret
  exact ⟨rfl,(oz HB1).trans ((oz Gd).mono (oz HB1).size)⟩
theorem strips11 (T:TV) (hT:TabB T∧zlM T) (a0 a1 a2 a3 a4 a5 a6 a7:Option Addr) (c0 c1 c2 c3 c4 c5 c6 c7:Nat) (us:List Value) (s:ByteArray) (hs:s.size≤1048576) (u:ByteArray) (hu:u.size≤1048576) (k:Int) (hk:(Lit.int .i64 k).wf=true) (W:World) (hA:TabIn W T a0 a1 a2 a3 a4 a5 a6 a7 us) :
  Calls Tryz.prog 3 #[.agg (zop T a0 a1 a2 a3 a4 a5 a6 a7 c0 c1 c2 c3 c4 c5 c6 c7),.string s,.string u,.int .i64 k] W fun e w' =>e=.returned (.bool true)∧Below W.heap.size W w' :=
 zl5 T hT.1 hT.2 ⟨a0,a1,a2,a3,a4,a5,a6,a7,c0,c1,c2,c3,c4,c5,c6,c7,us⟩ s u (by omega) (by omega) k (zqV hk).2 W hA
end Go.Proofs.YtmemedpoaocdkaaGreat
