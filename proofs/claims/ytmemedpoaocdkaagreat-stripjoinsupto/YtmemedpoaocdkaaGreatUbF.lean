/- StripJoins, walked. -/
import Derived.Test.YtmemedpoaocdkaaGreatM32
import Derived.Test.YtmemedpoaocdkaaGreatM2
namespace Go.Proofs.YtmemedpoaocdkaaGreat
open Go.RowKit Go.Shelf Go.Maps
set_option linter.unusedVariables false
/-- The strip by the runes alone. -/
theorem zej (T:TV) (s:ByteArray):zmO s (zbt T s)=(zah s).filter fun r => !drB T r:=by
 rw [← zo9]
 unfold zmO zbt
 rw [List.filter_map]
 rfl
theorem zlq (T:TV) (s u:ByteArray) (h:zeQ s u=true):zcy T (s++u)=zcy T s++zcy T u:=by
 rw [ziI] at h
 unfold zcy
 rw [zej,zej,zej,zfq s u h,List.filter_append,zg9]
theorem zlY (T:TV) (s u:ByteArray) (h:zeQ s u=true):((zai s).length - (zbt T s).length)+((zai u).length - (zbt T u).length)=(zai (s++u)).length - (zbt T (s++u)).length:=by
 rw [ziI] at h
 have e:∀ a:ByteArray,(zbt T a).length=((zah a).filter fun r => !drB T r).length:=fun a =>by rw [← zej];simp
 have h1:=zfp T s
 have h2:=zfp T u
 rw [← zaJ, ← zaJ u, ← zaJ (s++u),e,e,e,zfq s u h,List.filter_append,List.length_append,List.length_append]
 rw [← zaJ,e] at h1 h2
 omega
set_option maxRecDepth 100000 in
set_option maxHeartbeats 8000000 in
theorem zpw (T:TV) (hT:TabB T) (hI:zjU T) (A:TbA) (s u:ByteArray) (hs:s.size≤1000000000) (hu0:u.size≤1000000000) (W:World) (hA:zhK W T A) :
  Calls Tryz.prog 5 #[.agg #[.slice A.a0 T.sc.length A.c0,.slice A.a1 T.co.length A.c1,.slice A.a2 T.ma.length A.c2,.slice A.a3 T.pr.length A.c3,.slice A.a4 T.fo.length A.c4,.slice A.a5 T.lk.length A.c5,.slice A.a6 T.dr.length A.c6,.slice A.a7 T.al.length A.c7],.string s,.string u] W fun e w' =>e=.returned (.bool true)∧Below W.heap.size W w':=by
 have hmx:Tryz.prog.follows .mixedOrders=true:=by kernel_rfl
 have HX:=kz (TbX.start hA)
 have HC:=kz (zjn T hT hI _ _ (TbX.start hA).tv)
 clear hA hT hI
 go_enter Tryz.func5,Tryz.ntmps5
 have z0:=(oz HX).z0
 have z1:=(oz HX).z1
 have z2:=(oz HX).z2
 have z3:=(oz HX).z3
 have z4:=(oz HX).z4
 have z5:=(oz HX).z5
 have z6:=(oz HX).z6
 have z7:=(oz HX).z7
 have HW0:=kz (oz HX).bl
 go_wp2_with fail
 generalize W.alloc (.cells #[.slice A.a0 T.sc.length A.c0,.slice A.a1 T.co.length A.c1,.slice A.a2 T.ma.length A.c2,.slice A.a3 T.pr.length A.c3,.slice A.a4 T.fo.length A.c4,.slice A.a5 T.lk.length A.c5,.slice A.a6 T.dr.length A.c6,.slice A.a7 T.al.length A.c7] 28)=w0 at *
 refine (oz HC).mono ?_
 rintro e w1 ⟨p,rfl,hV⟩
 have HB1:=kz ((oz HW0).trans (hV.bl.mono (oz HW0).size))
 clear HC z0 z1 z2 z3 z4 z5 z6 z7 HX HW0
 cases hu:upB T with
 | false =>
  clear hV hu
  go_wp2_with fail
  refine (zkq w1).mono ?_
  rintro e w2 ⟨rfl,hb⟩
  have HB2:=kz ((oz HB1).trans (hb.mono (oz HB1).size))
  clear hb HB1
  go_wp2
  go_ret
  exact ⟨rfl,oz HB2⟩
 | true =>
  obtain ⟨_,hO,B,rfl,hB,hbk⟩:=hV.ok hu
  have hBK:=kz (fun w (h:Below w1.heap.size w1 w) =>hbk.below h)
  have HH:=kz hO
  have hsm:s.size≤maxLen:=by unfold maxLen;omega
  have hum:u.size≤maxLen:=by unfold maxLen;omega
  have hsz:(s++u).size=s.size+u.size:=ByteArray.size_append
  have HSZ:=kz hsz
  have hc1:=zhX T s
  have hc2:=zhX T u
  have hst:=zav s
  have hut:=zav u
  clear hV hu hbk hsz
  have G1:=kz (Below.refl w1.heap.size w1)
  cases hj:zeQ s u with
  | false =>
   have HJ:=kz hj
   clear hj
   go_wp2_with fail
   have h:=zfO s u hsm hum w1
   rw [oz HJ] at h
   refine h.mono ?_
   clear h
   rintro e w2 ⟨rfl,hb⟩
   have G2:=kz ((oz G1).trans hb)
   clear hb G1
   go_wp2_with fail
   refine (zkq w2).mono ?_
   rintro e wc ⟨rfl,hb⟩
   have Gc:=kz ((oz G2).trans (hb.mono (oz G2).size))
   clear hb G2
   go_wp2
   go_ret
   exact ⟨rfl,(oz HB1).trans ((oz Gc).mono (oz HB1).size)⟩
  | true =>
  have HJ:=kz hj
  have HS:=kz (zlq T s u hj)
  have HN:=kz (zlY T s u hj)
  clear hj
  go_wp2_with fail
  have h:=zfO s u hsm hum w1
  rw [oz HJ] at h
  refine h.mono ?_
  clear h
  rintro e w2 ⟨rfl,hb⟩
  have G2:=kz ((oz G1).trans hb)
  clear hb G1
  go_wp2_with fail
  have h:=ze7 T (oz HH) (s++u) (by rw [oz HSZ];omega) B w2 (oz hBK w2 (oz G2))
  rw [oz HS] at h
  refine h.mono ?_
  clear h
  rintro e w3 ⟨rfl,hb⟩
  have G3:=kz ((oz G2).trans (hb.mono (oz G2).size))
  clear hb G2
  go_wp2_with fail
  have h:=ze7 T (oz HH) s (by omega) B w3 (oz hBK w3 (oz G3))
  refine h.mono ?_
  clear h
  rintro e w4 ⟨rfl,hb⟩
  have G4:=kz ((oz G3).trans (hb.mono (oz G3).size))
  clear hb G3
  go_wp2_with fail
  have h:=ze7 T (oz HH) u (by omega) B w4 (oz hBK w4 (oz G4))
  refine h.mono ?_
  clear h
  rintro e w5 ⟨rfl,hb⟩
  have G5:=kz ((oz G4).trans (hb.mono (oz G4).size))
  clear hb G4
  have hap:((zcy T s++zcy T u).toList == (zcy T s++zcy T u).toList)=true:=by simp
  have hsz2:(zcy T s).size+(zcy T u).size≤10000000000:=by omega
  have HC1:=kz (fun w (h:Below w1.heap.size w1 w) =>zff T (oz HH) (s++u) (by rw [oz HSZ];unfold maxLen;omega) B w (oz hBK w h))
  have HC2:=kz (fun w (h:Below w1.heap.size w1 w) =>zff T (oz HH) s hsm B w (oz hBK w h))
  have HC3:=kz (fun w (h:Below w1.heap.size w1 w) =>zff T (oz HH) u hum B w (oz hBK w h))
  rw [← oz HN] at HC1
  have hn1:(zai s).length - (zbt T s).length≤1000000000:=by omega
  have hn2:(zai u).length - (zbt T u).length≤1000000000:=by omega
  clear hst hut
  generalize zcy T s=S1 at *
  generalize zcy T u=S2 at *
  generalize (zai s).length - (zbt T s).length=n1 at *
  generalize (zai u).length - (zbt T u).length=n2 at *
  obtain ⟨n3,hn3⟩:∃ n3,n3=n1+n2:=⟨_,rfl⟩
  rw [← hn3] at HC1
  have hadd:(n1:Int)+(n2:Int)=(n3:Int):=by omega
  clear hn3 HN
  go_wp2_with fail
  have h:=oz HC1 w5 (oz G5)
  refine h.mono ?_
  clear h
  rintro e w6 ⟨rfl,hb⟩
  have G6:=kz ((oz G5).trans (hb.mono (oz G5).size))
  clear hb G5
  go_wp2_with fail
  have h:=oz HC2 w6 (oz G6)
  refine h.mono ?_
  clear h
  rintro e w7 ⟨rfl,hb⟩
  have G7:=kz ((oz G6).trans (hb.mono (oz G6).size))
  clear hb G6
  go_wp2_with fail
  have h:=oz HC3 w7 (oz G7)
  refine h.mono ?_
  clear h
  rintro e w8 ⟨rfl,hb⟩
  have G8:=kz ((oz G7).trans (hb.mono (oz G7).size))
  clear hb G7
  go_wp2_with fail
  refine (zkq w8).mono ?_
  rintro e wc ⟨rfl,hb⟩
  have Gc:=kz ((oz G8).trans (hb.mono (oz G8).size))
  clear hb G8
  go_wp2
  go_ret
  exact ⟨rfl,(oz HB1).trans ((oz Gc).mono (oz HB1).size)⟩
theorem joins11 (T:TV) (hT:TabB T∧zjU T) (a0 a1 a2 a3 a4 a5 a6 a7:Option Addr) (c0 c1 c2 c3 c4 c5 c6 c7:Nat) (us:List Value) (s:ByteArray) (hs:s.size≤1048576) (u:ByteArray) (hu:u.size≤1048576) (W:World) (hA:TabIn W T a0 a1 a2 a3 a4 a5 a6 a7 us) :
  Calls Tryz.prog 5 #[.agg (zmG T a0 a1 a2 a3 a4 a5 a6 a7 c0 c1 c2 c3 c4 c5 c6 c7),.string s,.string u] W fun e w' =>e=.returned (.bool true)∧Below W.heap.size W w' :=
 zpw T hT.1 hT.2 ⟨a0,a1,a2,a3,a4,a5,a6,a7,c0,c1,c2,c3,c4,c5,c6,c7,us⟩ s u (by omega) (by omega) W hA
end Go.Proofs.YtmemedpoaocdkaaGreat
