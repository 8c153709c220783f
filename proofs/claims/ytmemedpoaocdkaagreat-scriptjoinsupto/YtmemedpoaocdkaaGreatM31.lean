/- Texts of this claim, one behind the other. -/
import Derived.Test.YtmemedpoaocdkaaGreatUaQ
import Derived.Test.YtmemedpoaocdkaaGreatM30
import Derived.Test.YtmemedpoaocdkaaGreatM2
import Derived.Test.YtmemedpoaocdkaaGreatM26
import Derived.Test.YtmemedpoaocdkaaGreatM1
import Derived.Test.YtmemedpoaocdkaaGreatM4
import Derived.OwnWalk
import Derived.Test.YtmemedpoaocdkaaGreatRows
import Derived.ProofKit
import Derived.OpenShut
import Derived.ChangeOld
import Derived.Laws.CopyOwn
import Derived.Laws.MakeOwn
import Derived.Laws.OwnMore
/- A Book for a statement, or word that there is none. -/
namespace Go.Proofs.YtmemedpoaocdkaaGreat
open Go.RowKit Go.Shelf Go.Maps
set_option linter.unusedVariables false
def upB (T:TV):Bool := !zgt T && decide ((zdI T).1=0)
structure OfV (W w:World) (T:TV) (p:Option Addr):Prop where
 bl:Below W.heap.size W w
 ok:upB T=true→(zdI T).1=0∧zam T∧∃ B,p=some ⟨B,0,none⟩∧W.heap.size≤B∧BookAt w B T
set_option maxRecDepth 100000 in
set_option maxHeartbeats 8000000 in
theorem zjn (T:TV) (hT:TabB T) (hI:zjU T) (v:Value) (W:World) (hv:TbV W T v) :
  Calls Tryz.prog 9 #[v] W fun e w' => ∃ p,e=.returned (.tuple #[.pointer p,.bool (upB T),.bool true])∧OfV W w' T p:=by
 have hmx:Tryz.prog.follows .mixedOrders=true:=by kernel_rfl
 obtain ⟨A,rfl,hA⟩:=hv
 have HX:=kz (TbX.start hA)
 have HL:=kz (znn T hT A.a0 A.a1 A.a2 A.a3 A.a4 A.a5 A.a6 A.a7 A.c0 A.c1 A.c2 A.c3 A.c4 A.c5 A.c6 A.c7 A.us _ (TbX.start hA).ti)
 have HC:=kz (fun w (hv:TbV w T (.agg #[.slice A.a0 T.sc.length A.c0,.slice A.a1 T.co.length A.c1,.slice A.a2 T.ma.length A.c2,.slice A.a3 T.pr.length A.c3,.slice A.a4 T.fo.length A.c4,.slice A.a5 T.lk.length A.c5,.slice A.a6 T.dr.length A.c6,.slice A.a7 T.al.length A.c7])) =>zkc T hT _ w hv)
 have HTT:=kz hT
 have HN:=kz (fun (hO:zgL T) w (hv:zhK w T A) =>zpj T hO hI A.a0 A.a1 A.a2 A.a3 A.a4 A.a5 A.a6 A.a7 A.c0 A.c1 A.c2 A.c3 A.c4 A.c5 A.c6 A.c7 A.us w hv)
 have HOK:=kz (zie T)
 unfold zmG at HL
 clear hA hT hI
 cases hl:zgt T with
 | true =>
  have hu:upB T=false:=by unfold upB;rw [hl];rfl
  have HU:=kz hu
  rw [hl] at HL
  rw [hu]
  clear hl hu HC HN
  go_enter Tryz.func9,Tryz.ntmps9
  have z0:=(oz HX).z0
  have z1:=(oz HX).z1
  have z2:=(oz HX).z2
  have z3:=(oz HX).z3
  have z4:=(oz HX).z4
  have z5:=(oz HX).z5
  have z6:=(oz HX).z6
  have z7:=(oz HX).z7
  go_wp2_with fail
  generalize W.alloc (.cells #[.slice A.a0 T.sc.length A.c0,.slice A.a1 T.co.length A.c1,.slice A.a2 T.ma.length A.c2,.slice A.a3 T.pr.length A.c3,.slice A.a4 T.fo.length A.c4,.slice A.a5 T.lk.length A.c5,.slice A.a6 T.dr.length A.c6,.slice A.a7 T.al.length A.c7] 28)=w0 at *
  refine (oz HL).mono ?_
  rintro e w1 ⟨rfl,hb⟩
  have HX1:=kz ((oz HX).below hb)
  clear hb HX HL
  go_wp2_with fail
  go_ret3
  exact ⟨none,rfl,(oz HX1).bl,fun e =>absurd ((oz HU).symm.trans e) (by decide)⟩
 | false =>
  have HLF:=kz hl
  rw [hl] at HL
  clear hl
  have HN2:=kz (fun w (hv:zhK w T A) =>oz HN ((oz HTT).ok (oz HLF)) w hv)
  obtain ⟨x0,x1,x2,hx⟩:∃ x0 x1 x2,zdI T=(x0,x1,x2):=⟨_,_,_,rfl⟩
  have HXE:=kz hx
  rw [hx] at HC HOK
  unfold wrV at HC HN2
  rw [hx] at HN2
  dsimp only at HC HN2
  clear HN hx HTT
  by_cases hx0:x0=0
  ·have e:=oz HOK hx0
   obtain ⟨rfl,hh⟩:=Prod.mk.inj e
   obtain ⟨rfl,rfl⟩:=Prod.mk.inj hh
   have hu:upB T=true:=by unfold upB;rw [oz HLF,oz HXE];rfl
   have HU:=kz hu
   rw [hu]
   clear HOK e hh hx0 hu
   go_enter Tryz.func9,Tryz.ntmps9
   have z0:=(oz HX).z0
   have z1:=(oz HX).z1
   have z2:=(oz HX).z2
   have z3:=(oz HX).z3
   have z4:=(oz HX).z4
   have z5:=(oz HX).z5
   have z6:=(oz HX).z6
   have z7:=(oz HX).z7
   go_wp2_with fail
   generalize W.alloc (.cells #[.slice A.a0 T.sc.length A.c0,.slice A.a1 T.co.length A.c1,.slice A.a2 T.ma.length A.c2,.slice A.a3 T.pr.length A.c3,.slice A.a4 T.fo.length A.c4,.slice A.a5 T.lk.length A.c5,.slice A.a6 T.dr.length A.c6,.slice A.a7 T.al.length A.c7] 28)=w0 at *
   refine (oz HL).mono ?_
   rintro e w1 ⟨rfl,hb⟩
   have HX1:=kz ((oz HX).below hb)
   clear hb HX HL
   clear z0 z1 z2 z3 z4 z5 z6 z7
   have z0:=(oz HX1).z0
   have z1:=(oz HX1).z1
   have z2:=(oz HX1).z2
   have z3:=(oz HX1).z3
   have z4:=(oz HX1).z4
   have z5:=(oz HX1).z5
   have z6:=(oz HX1).z6
   have z7:=(oz HX1).z7
   go_wp2_with fail
   refine (oz HN2 _ (oz HX1).ti).mono ?_
   rintro e w2 ⟨p,rfl,hnv⟩
   have HX2:=kz ((oz HX1).below hnv.bl)
   have HLW:=kz (oz HX1).bl
   have HNV:=kz hnv
   clear HX1 HN2 hnv
   clear z0 z1 z2 z3 z4 z5 z6 z7
   have HX3:=kz ((oz HX2).below (zmg w2 (.cells #[.int .i64 0,.int .i64 0,.int .i64 0] 76)))
   have b6:=Blk.new w2 #[.int .i64 0,.int .i64 0,.int .i64 0] 76
   have z0:=(oz HX3).z0
   have z1:=(oz HX3).z1
   have z2:=(oz HX3).z2
   have z3:=(oz HX3).z3
   have z4:=(oz HX3).z4
   have z5:=(oz HX3).z5
   have z6:=(oz HX3).z6
   have z7:=(oz HX3).z7
   go_wp2_with fail
   refine (oz HC _ (oz HX3).tv).mono ?_
   rintro e w3 ⟨rfl,hb⟩
   have HX4:=kz (((oz HX3).below hb).below (zmg w3 (.cells #[.int .i64 0,.int .i64 0,.int .i64 0] 76)))
   have HB6:=kz ((b6.below hb b6.lt).alloc (.cells #[.int .i64 0,.int .i64 0,.int .i64 0] 76))
   have HHB:=kz hb
   have b7:=Blk.new w3 #[.int .i64 0,.int .i64 0,.int .i64 0] 76
   clear hb HC b6
   clear z0 z1 z2 z3 z4 z5 z6 z7
   have q0:=(oz HB6).cell 0
   have q1:=(oz HB6).cell 1
   have q2:=(oz HB6).cell 2
   have s0:=b7.cell 0
   have s1:=b7.cell 1
   have s2:=b7.cell 2
   clear b7
   obtain ⟨hO,B,rfl,hBl,hbk⟩:=(oz HNV).ok (by rw [oz HXE])
   have HBK:Hz (BookAt (w3.alloc (.cells #[.int .i64 0,.int .i64 0,.int .i64 0] 76)) B T):=kz (((hbk.below (zmg w2 (.cells #[.int .i64 0,.int .i64 0,.int .i64 0] 76))).below (oz HHB)).below (zmg w3 _))
   have HOB:=kz (And.intro hO (Nat.le_trans (oz HX2).bl.size (show w2.heap.size≤w2.heap.size from Nat.le_refl _)))
   have HBL:Hz (W.heap.size≤B):=kz (by have:=(oz HLW).size;omega)
   clear hO hBl hbk HNV HX2 HX3 HHB
   go_wp2_with fail
   go_ret3
   exact ⟨_,rfl,(oz HX4).bl,fun _ =>⟨by rw [oz HXE],(oz HOB).1,B,rfl,oz HBL,oz HBK⟩⟩
  ·have hu:upB T=false:=by unfold upB;rw [oz HXE,decide_eq_false hx0];simp
   have HU:=kz hu
   have n1:(x0 != 0)=true:=by simpa using hx0
   have n0:(x0 == 0)=false:=by simpa using hx0
   have e0:(x0 == x0)=true:=by simp
   have e1:(x1 == x1)=true:=by simp
   have e2:(x2 == x2)=true:=by simp
   rw [hu]
   clear HOK hu
   go_enter Tryz.func9,Tryz.ntmps9
   have z0:=(oz HX).z0
   have z1:=(oz HX).z1
   have z2:=(oz HX).z2
   have z3:=(oz HX).z3
   have z4:=(oz HX).z4
   have z5:=(oz HX).z5
   have z6:=(oz HX).z6
   have z7:=(oz HX).z7
   go_wp2_with fail
   generalize W.alloc (.cells #[.slice A.a0 T.sc.length A.c0,.slice A.a1 T.co.length A.c1,.slice A.a2 T.ma.length A.c2,.slice A.a3 T.pr.length A.c3,.slice A.a4 T.fo.length A.c4,.slice A.a5 T.lk.length A.c5,.slice A.a6 T.dr.length A.c6,.slice A.a7 T.al.length A.c7] 28)=w0 at *
   refine (oz HL).mono ?_
   rintro e w1 ⟨rfl,hb⟩
   have HX1:=kz ((oz HX).below hb)
   clear hb HX HL
   clear z0 z1 z2 z3 z4 z5 z6 z7
   have z0:=(oz HX1).z0
   have z1:=(oz HX1).z1
   have z2:=(oz HX1).z2
   have z3:=(oz HX1).z3
   have z4:=(oz HX1).z4
   have z5:=(oz HX1).z5
   have z6:=(oz HX1).z6
   have z7:=(oz HX1).z7
   go_wp2_with fail
   refine (oz HN2 _ (oz HX1).ti).mono ?_
   rintro e w2 ⟨p,rfl,hnv⟩
   have HX2:=kz ((oz HX1).below hnv.bl)
   have HNV:=kz hnv
   clear HX1 HN2 hnv
   clear z0 z1 z2 z3 z4 z5 z6 z7
   have HX3:=kz ((oz HX2).below (zmg w2 (.cells #[.int .i64 x0,.int .i64 x1,.int .i64 x2] 76)))
   have b6:=Blk.new w2 #[.int .i64 x0,.int .i64 x1,.int .i64 x2] 76
   have z0:=(oz HX3).z0
   have z1:=(oz HX3).z1
   have z2:=(oz HX3).z2
   have z3:=(oz HX3).z3
   have z4:=(oz HX3).z4
   have z5:=(oz HX3).z5
   have z6:=(oz HX3).z6
   have z7:=(oz HX3).z7
   go_wp2_with fail
   refine (oz HC _ (oz HX3).tv).mono ?_
   rintro e w3 ⟨rfl,hb⟩
   have HX4:=kz (((oz HX3).below hb).below (zmg w3 (.cells #[.int .i64 x0,.int .i64 x1,.int .i64 x2] 76)))
   have HB6:=kz ((b6.below hb b6.lt).alloc (.cells #[.int .i64 x0,.int .i64 x1,.int .i64 x2] 76))
   have HHB:=kz hb
   have b7:=Blk.new w3 #[.int .i64 x0,.int .i64 x1,.int .i64 x2] 76
   clear hb HC b6
   clear z0 z1 z2 z3 z4 z5 z6 z7
   have q0:=(oz HB6).cell 0
   have q1:=(oz HB6).cell 1
   have q2:=(oz HB6).cell 2
   have s0:=b7.cell 0
   have s1:=b7.cell 1
   have s2:=b7.cell 2
   clear b7
   obtain rfl:=(oz HNV).no (by rw [oz HXE];exact hx0)
   clear HNV HX2 HX3 HHB HB6 hx0
   have y0:=cell_regrown q0
   have y1:=cell_regrown q1
   have y2:=cell_regrown q2
   have t0:=cell_regrown s0
   have t1:=cell_regrown s1
   have t2:=cell_regrown s2
   have HBX:=kz (oz HX4).bl
   go_wp2_with fail
   generalize w3.alloc (.cells #[.int .i64 x0,.int .i64 x1,.int .i64 x2] 76)=w4 at *
   clear q0 q1 q2 s0 s1 s2
   refine wp_region_quiet_below (by kernel_rfl) (by kernel_rfl) ?_
   repeat (go_big_quiet_step (fail))
   first | refine wpQuiet_nil ?_ | skip
   rintro w' ⟨p,rfl⟩
   have HBq:=kz (below_regrown w4 p.d p.os)
   generalize Go.Sort.grow (redrawn w4 p.d) p.os=w5 at *
   clear y0 y1 y2 t0 t1 t2
   go_wp2_with fail
   go_ret3
   exact ⟨none,rfl,(oz HBX).trans ((oz HBq).mono (oz HBX).size),fun e =>absurd ((oz HU).symm.trans e) (by decide)⟩
def HT:TV:={ sc := [((ByteArray.mk #[108,97,116,105,110]),[(65,90),(97,122),(232,234),(7865,7871)]),((ByteArray.mk #[103,114,101,101,107]),[(945,969)]),((ByteArray.mk #[99,121,114,105,108,108,105,99]),[(1072,1103)])],co := [(45,57)],ma := [(769,230),(770,230),(803,220)],pr := [(233,101,769),(234,101,770),(7865,101,803),(7871,234,769)],fo := [(65,(ByteArray.mk #[97])),(69,(ByteArray.mk #[101]))],lk := [(1072,(ByteArray.mk #[97])),(49,(ByteArray.mk #[108])),(109,(ByteArray.mk #[114,110]))],dr := [(8205,8205)],al := [(45,45),(48,57),(97,122),(232,234),(769,770),(803,803),(945,969),(1072,1103),(7865,7871)],r1 := [],r2 := [],r3 := [],r4 := [],r5 := [],r6 := [],r7 := [],r8 := [] }
theorem zpz:zdI HT=(0,0,0):=by decide +kernel
theorem zpy:zgt HT=false:=by decide +kernel
theorem zrC:upB HT=true:=by unfold upB;rw [zpy,zpz];rfl
theorem zsw:TabB HT:=⟨by decide,by decide,by decide,by decide,by decide,by decide,by decide,by decide,by decide +kernel,by decide +kernel,by decide +kernel,by decide +kernel⟩
theorem zsv:zjU HT:=by
 refine ⟨?_, ?_, ?_, ?_, ?_, ?_, ?_, ?_⟩
 all_goals
  unfold R32
  decide +kernel
theorem zcf {w:World} {g:Nat} {cs:Array Value} {t:TypeId} (b:Blk w g cs t) (xs:List Value) (e:cs=xs.toArray):RowC w w.heap.size (some ⟨g,0,none⟩) xs:=fun _ =>⟨g,0,rfl,b.lt,fun j v hv =>by
 rw [Nat.zero_add,b.cell j,e,List.getElem?_toArray]
 exact hv⟩
def zr2 (W:World) (l:List (Array Value × TypeId)):World:=l.foldl (fun w x =>w.alloc (.cells x.1 x.2)) W
theorem zjO {g:Nat} {cs:Array Value} {t:TypeId}:∀ (l:List (Array Value × TypeId)) (W:World),Blk W g cs t→Blk (zr2 W l) g cs t
 | [],W,h =>h
 | x::l,W,h =>zjO l (W.alloc (.cells x.1 x.2)) (h.alloc _)
theorem zli {cs:Array Value} {t:TypeId}:∀ (l:List (Array Value × TypeId)) (W:World) (k:Nat),l[k]?=some (cs,t)→Blk (zr2 W l) (W.heap.size+k) cs t
 | [],W,k,h =>by simp at h
 | x::l,W,0,h =>by
  cases h
  exact zjO l (W.alloc (.cells cs t)) (Blk.new W cs t)
 | x::l,W,k+1,h =>by
  have:=zli l (W.alloc (.cells x.1 x.2)) k h
  rw [World.size_alloc,Nat.add_right_comm] at this
  exact this
theorem ziq {W0:World}:∀ (l:List (Array Value × TypeId)) (W:World),Below W0.heap.size W0 W→Below W0.heap.size W0 (zr2 W l)
 | [],W,h =>h
 | x::l,W,h =>ziq l (W.alloc (.cells x.1 x.2)) (h.alloc h.size _)
def hsL (W:World):List (Array Value × TypeId) := [(#[.slice (some ⟨W.heap.size+1+1+1+1,0,none⟩) 3 3,.slice (some ⟨W.heap.size+1+1+1+1+1,0,none⟩) 1 1,.slice (some ⟨W.heap.size+1+1+1+1+1+1,0,none⟩) 3 3,.slice (some ⟨W.heap.size+1+1+1+1+1+1+1,0,none⟩) 4 4,.slice (some ⟨W.heap.size+1+1+1+1+1+1+1+1,0,none⟩) 2 2,.slice (some ⟨W.heap.size+1+1+1+1+1+1+1+1+1,0,none⟩) 3 3,.slice (some ⟨W.heap.size+1+1+1+1+1+1+1+1+1+1,0,none⟩) 1 1,.slice (some ⟨W.heap.size+1+1+1+1+1+1+1+1+1+1+1,0,none⟩) 9 9],28),(#[.int .i32 65,.int .i32 90,.int .i32 97,.int .i32 122,.int .i32 232,.int .i32 234,.int .i32 7865,.int .i32 7871],113),(#[.int .i32 945,.int .i32 969],113),(#[.int .i32 1072,.int .i32 1103],113),(#[.string (ByteArray.mk #[108,97,116,105,110]),.slice (some ⟨W.heap.size+1,0,none⟩) 4 4,.string (ByteArray.mk #[103,114,101,101,107]),.slice (some ⟨W.heap.size+1+1,0,none⟩) 1 1,.string (ByteArray.mk #[99,121,114,105,108,108,105,99]),.slice (some ⟨W.heap.size+1+1+1,0,none⟩) 1 1],109),(#[.int .i32 45,.int .i32 57],113),(#[.int .i32 769,.int .i64 230,.int .i32 770,.int .i64 230,.int .i32 803,.int .i64 220],115),(#[.int .i32 233,.int .i32 101,.int .i32 769,.int .i32 234,.int .i32 101,.int .i32 770,.int .i32 7865,.int .i32 101,.int .i32 803,.int .i32 7871,.int .i32 234,.int .i32 769],117),(#[.int .i32 65,.string (ByteArray.mk #[97]),.int .i32 69,.string (ByteArray.mk #[101])],119),(#[.int .i32 1072,.string (ByteArray.mk #[97]),.int .i32 49,.string (ByteArray.mk #[108]),.int .i32 109,.string (ByteArray.mk #[114,110])],119),(#[.int .i32 8205,.int .i32 8205],113),(#[.int .i32 45,.int .i32 45,.int .i32 48,.int .i32 57,.int .i32 97,.int .i32 122,.int .i32 232,.int .i32 234,.int .i32 769,.int .i32 770,.int .i32 803,.int .i32 803,.int .i32 945,.int .i32 969,.int .i32 1072,.int .i32 1103,.int .i32 7865,.int .i32 7871],113)]
def hsW (W:World):World:=zr2 W (hsL W)
theorem hsB (W:World) (k:Nat) {cs:Array Value} {t:TypeId} (h:(hsL W)[k]?=some (cs,t)):Blk (hsW W) (W.heap.size+k) cs t:=zli _ W k h
theorem hs0 (W:World):Blk (hsW W) W.heap.size #[.slice (some ⟨W.heap.size+1+1+1+1,0,none⟩) 3 3,.slice (some ⟨W.heap.size+1+1+1+1+1,0,none⟩) 1 1,.slice (some ⟨W.heap.size+1+1+1+1+1+1,0,none⟩) 3 3,.slice (some ⟨W.heap.size+1+1+1+1+1+1+1,0,none⟩) 4 4,.slice (some ⟨W.heap.size+1+1+1+1+1+1+1+1,0,none⟩) 2 2,.slice (some ⟨W.heap.size+1+1+1+1+1+1+1+1+1,0,none⟩) 3 3,.slice (some ⟨W.heap.size+1+1+1+1+1+1+1+1+1+1,0,none⟩) 1 1,.slice (some ⟨W.heap.size+1+1+1+1+1+1+1+1+1+1+1,0,none⟩) 9 9] 28:=hsB W 0 rfl
theorem zpA (W:World):Below W.heap.size W (hsW W):=ziq _ W (Below.refl _ _)
theorem zrD (W:World):TbV (hsW W) HT (.agg #[.slice (some ⟨W.heap.size+1+1+1+1,0,none⟩) 3 3,.slice (some ⟨W.heap.size+1+1+1+1+1,0,none⟩) 1 1,.slice (some ⟨W.heap.size+1+1+1+1+1+1,0,none⟩) 3 3,.slice (some ⟨W.heap.size+1+1+1+1+1+1+1,0,none⟩) 4 4,.slice (some ⟨W.heap.size+1+1+1+1+1+1+1+1,0,none⟩) 2 2,.slice (some ⟨W.heap.size+1+1+1+1+1+1+1+1+1,0,none⟩) 3 3,.slice (some ⟨W.heap.size+1+1+1+1+1+1+1+1+1+1,0,none⟩) 1 1,.slice (some ⟨W.heap.size+1+1+1+1+1+1+1+1+1+1+1,0,none⟩) 9 9]):=by
 refine ⟨⟨some ⟨W.heap.size+1+1+1+1,0,none⟩,some ⟨W.heap.size+1+1+1+1+1,0,none⟩,some ⟨W.heap.size+1+1+1+1+1+1,0,none⟩,some ⟨W.heap.size+1+1+1+1+1+1+1,0,none⟩,some ⟨W.heap.size+1+1+1+1+1+1+1+1,0,none⟩,some ⟨W.heap.size+1+1+1+1+1+1+1+1+1,0,none⟩,some ⟨W.heap.size+1+1+1+1+1+1+1+1+1+1,0,none⟩,some ⟨W.heap.size+1+1+1+1+1+1+1+1+1+1+1,0,none⟩,3,1,3,4,2,3,1,9,[.slice (some ⟨W.heap.size+1,0,none⟩) 4 4,.slice (some ⟨W.heap.size+1+1,0,none⟩) 1 1,.slice (some ⟨W.heap.size+1+1+1,0,none⟩) 1 1]⟩,rfl, ?_⟩
 refine ⟨rfl,zcf (hsB W 4 rfl) _ rfl,zcf (hsB W 5 rfl) _ rfl,zcf (hsB W 6 rfl) _ rfl,zcf (hsB W 7 rfl) _ rfl,zcf (hsB W 8 rfl) _ rfl,zcf (hsB W 9 rfl) _ rfl,zcf (hsB W 10 rfl) _ rfl,zcf (hsB W 11 rfl) _ rfl, ?_⟩
 intro j x u hx hu
 rcases j with _ | _ | _ | j
 ·injection hx with hx
  injection hu with hu
  subst hx hu
  exact ⟨_,_,rfl,zcf (hsB W 1 rfl) _ rfl⟩
 ·injection hx with hx
  injection hu with hu
  subst hx hu
  exact ⟨_,_,rfl,zcf (hsB W 2 rfl) _ rfl⟩
 ·injection hx with hx
  injection hu with hu
  subst hx hu
  exact ⟨_,_,rfl,zcf (hsB W 3 rfl) _ rfl⟩
 ·have hx:=(List.getElem?_eq_some_iff.1 hx).1
  have:HT.sc.length=3:=rfl
  omega
set_option maxRecDepth 100000 in
set_option maxHeartbeats 8000000 in
theorem zfR (W:World):Calls Tryz.prog 38 #[] W fun e w' => ∃ v,e=.returned v∧TbV w' HT v∧Below W.heap.size W w':=by
 have HB:=kz (hs0 W)
 go_enter Tryz.func38,Tryz.ntmps38
 go_wp2_with fail
 exact bodyPost_ret (v := .agg #[.slice (some ⟨W.heap.size+1+1+1+1,0,none⟩) 3 3,.slice (some ⟨W.heap.size+1+1+1+1+1,0,none⟩) 1 1,.slice (some ⟨W.heap.size+1+1+1+1+1+1,0,none⟩) 3 3,.slice (some ⟨W.heap.size+1+1+1+1+1+1+1,0,none⟩) 4 4,.slice (some ⟨W.heap.size+1+1+1+1+1+1+1+1,0,none⟩) 2 2,.slice (some ⟨W.heap.size+1+1+1+1+1+1+1+1+1,0,none⟩) 3 3,.slice (some ⟨W.heap.size+1+1+1+1+1+1+1+1+1+1,0,none⟩) 1 1,.slice (some ⟨W.heap.size+1+1+1+1+1+1+1+1+1+1+1,0,none⟩) 9 9]) (results_cell_row Tryz.results38 _ _ _ _ _ _ _ rfl (oz HB) Tryz.underlying28 rfl (by kernel_rfl)) rfl ⟨_,rfl,zrD W,zpA W⟩
theorem zeo (v:Value) (W:World) (hv:TbV W HT v):Calls Tryz.prog 9 #[v] W fun e w' => ∃ B,e=.returned (.tuple #[.pointer (some ⟨B,0,none⟩),.bool true,.bool true])∧zam HT∧W.heap.size≤B∧BookAt w' B HT∧Below W.heap.size W w':=by
 refine (zjn HT zsw zsv v W hv).mono ?_
 rintro e w' ⟨p,rfl,h⟩
 rw [zrC]
 obtain ⟨_,hO,B,rfl,hB,hb⟩:=h.ok zrC
 exact ⟨B,rfl,hO,hB,hb,h.bl⟩
end Go.Proofs.YtmemedpoaocdkaaGreat
namespace Go.Proofs.YtmemedpoaocdkaaGreat
open Go.RowKit Go.Shelf
attribute [local go_sem] Oper.semAt_some
set_option linter.unusedVariables false
attribute [local go_sem] Oper.semAt_some
set_option linter.unusedVariables false
theorem zgB {B:Nat} (W:World) (k:Nat) (s:ByteArray) (pos:Nat) (h:B≤k):Below B W (W.iterAt k s pos) :=
 ⟨rfl,rfl,rfl,by rw [Lib.iterAt_size];exact Nat.le_refl _,fun i hi =>Lib.iterAt_other W k i s pos (by omega)⟩
end Go.Proofs.YtmemedpoaocdkaaGreat
namespace Go.Proofs.YtmemedpoaocdkaaGreat
open Go.RowKit Go.Shelf
set_option linter.unusedVariables false


def zgZ (zs:List Int):Bool:=zs.all (fun z => !(zaA z == 0))
def zeg (zs:List Int):Value:=if zgZ zs then .tuple #[.string (runesBytes zs),.int .i64 0] else .tuple #[.string ⟨#[]⟩,.int .i64 12]

set_option maxRecDepth 100000 in
set_option maxHeartbeats 2000000 in
theorem zoV (g o cap:Nat) (zs:List Int) (hz:zs.length≤9223372036854775807) (w:World) (hc:∀ j,j < zs.length→w.cell? ⟨g,o+j,none⟩=some (.int .i32 (zs.getD j 0))) :
  Calls Tryz.prog 43 #[.slice (some ⟨g,o,none⟩) zs.length cap] w fun e w' =>e=.returned (zeg zs)∧w'=w:=by
 have HC:=kz hc
 have kc:=run_convert_runes (P:=Tryz.prog) w 88 9 21 ⟨g,o,none⟩ zs.length cap zs (Nat.le_refl _) Tryz.underlying88 Tryz.underlying21 Tryz.underlying9 (fun j hj =>by
  rw [show (⟨g,o,none⟩:Addr).add j=⟨g,o+j,none⟩ by unfold Addr.add;split <;> simp_all]
  exact hc j hj)
 rw [List.take_length] at kc
 have HKC:=kz kc
 clear hc kc
 go_enter Tryz.func43,Tryz.ntmps43
 go_wp2
 go_loop [8] (fun i => ∃ k:Nat,k≤zs.length∧i=.int .i64 k∧Hz (∀ j,j < k→zaA (zs.getD j 0)≠0)) (fun i =>zs.length - (intOf i).toNat)
 case atStart =>exact ⟨0,by omega,rfl,kz (fun j hj =>by omega)⟩
 case round =>
  obtain ⟨k,hk,rfl,H⟩:=hrel
  by_cases hkn:k < zs.length
  ·have hck:=oz HC k hkn
   have hk1:(k:Int) < (zs.length:Int):=by omega
   have hmem:zs.getD k 0 ∈ zs:=by rw [List.getD,List.getElem?_eq_getElem hkn];exact List.getElem_mem hkn
   have HM:=kz hmem
   clear hmem
   generalize hz:zs.getD k 0=z at *
   have HZ:=kz hz
   clear hz
   by_cases hw0:zaA z=0
   ·have hb:(zaA z == 0)=true:=by simp [hw0]
    have hv:zeg zs=.tuple #[.string ⟨#[]⟩,.int .i64 12]:=by
     unfold zeg
     rw [if_neg]
     unfold zgZ
     intro h
     have:=List.all_eq_true.1 h z (oz HM)
     simp [hw0] at this
    have HV:=kz hv
    clear hv hw0
    go_wp2_with (go_at_call 66;refine (zbF _ _).mono ?_;rintro e w' ⟨rfl,rfl⟩)
    go_ret2
    exact ⟨by rw [oz HV];rfl,rfl⟩
   ·have hb:(zaA z == 0)=false:=by simp [hw0]
    go_wp2_with (go_at_call 66;refine (zbF _ _).mono ?_;rintro e w' ⟨rfl,rfl⟩)
    go_round
    case rel =>
     refine ⟨k+1,by omega,by go_num,kz (fun j hj =>?_)⟩
     by_cases e:j=k
     ·subst e;rw [oz HZ];exact hw0
     ·exact oz H j (by omega)
    case measure =>simp [intOf];omega
  ·have hk1:¬ (k:Int) < (zs.length:Int):=by omega
   have hv:zeg zs=.tuple #[.string (runesBytes zs),.int .i64 0]:=by
    unfold zeg
    rw [if_pos]
    unfold zgZ
    rw [List.all_eq_true]
    intro z hz
    obtain ⟨j,hj,rfl⟩:=List.getElem_of_mem hz
    have:=oz H j (by omega)
    rw [List.getD,List.getElem?_eq_getElem hj] at this
    simpa using this
   have HV:=kz hv
   clear hv
   have kc:=oz HKC
   go_wp2
   go_ret2
   exact ⟨by rw [oz HV];rfl,rfl⟩

theorem zbP {w:World} {ops:Array Oper} {rest:List Oper} {o:Oper} {a:Act} {Q:Exit→Act→World→Prop} (hgd:o.guard=none) (s x:Operand) (T E:TypeId)
  (ho:o.op=.call { callee := .builtin .append,args:=#[s,x],argTypes:=#[T,T] }) (i:TypeInfo) (z:Value) (bytes:Nat) (hT:Tryz.prog.underlying T=some (.slice E)) (hi:Tryz.prog.info? E=some i) (h1:i.zero=some z) (h2:i.size=1) (h3:i.bytes=bytes) (hzs:z.cells.size=1) (hb8:bytes≤64)
  (lo:Nat) (v:Value) (xs:List Value) (u:Value) (hs:a.eval s=v) (hl:xs.length≤900000) (W:World) (hW:w=W.alloc (.cells #[u] E)) (hu:u.oneCell'=true) (hv:W.ownsRow lo E 1 v xs.length xs) (hlo:lo≤W.heap.size) (n:Nat) (hn:n=W.heap.size) (hx:a.eval x=.slice (some ⟨n,0,none⟩) 1 1)
  (h:∀ v' w',w'.ownsRow lo E 1 v' (xs++[u]).length (xs++[u])→Below lo W w'→wpList Tryz.prog ops Q rest (a.put o.dst v') w'):wpList Tryz.prog ops Q (o::rest) a w:=by
 subst hW
 subst hn
 have b:=Blk.new W #[u] E
 refine wpList_append_own _ hgd s x T ho lo E i z 1 bytes hT hi h1 h2 h3 hzs (by decide) v xs.length xs hs (hv.alloc _) ⟨W.heap.size,0,none⟩ 1 1 [u] hx (by simp) (fun j y hj =>?_) (fun y hy =>by rw [List.mem_singleton.1 hy];exact hu) (by unfold maxLen;omega) ?_ (by simp;omega) (fun v' w' h4 h5 _ =>h v' w' (by rw [List.length_append,List.length_singleton];exact h4) ?_)
 ·match j,hj with
  | 0,hj =>cases hj;exact b.cell 0
  | j+1,hj =>simp at hj
 ·have:(xs.length+1)*bytes≤900001*64:=Nat.mul_le_mul (by omega) hb8
  omega
 ·exact ((Below.refl lo W).alloc hlo _).grown h5 (by simp;omega) (fun k e =>((hv.alloc (.cells #[u] E)).lt k e).1)
end Go.Proofs.YtmemedpoaocdkaaGreat
namespace Go.Proofs.YtmemedpoaocdkaaGreat
open Go.RowKit Go.Shelf Go.ChangeShapes
set_option linter.unusedVariables false

end Go.Proofs.YtmemedpoaocdkaaGreat
namespace Go.Proofs.YtmemedpoaocdkaaGreat
open Go.RowKit Go.Shelf
set_option linter.unusedVariables false

def zrT (W:World) (a:Option Addr) (zs:List Int):Prop:=0 < zs.length→∃ g o,a=some ⟨g,o,none⟩∧g < W.heap.size∧∀ j,j < zs.length→W.cell? ⟨g,o+j,none⟩=some (.int .i64 (zs.getD j 0))
set_option maxRecDepth 100000 in
set_option maxHeartbeats 2000000 in
theorem zg7 (a b:Option Addr) (ca cb:Nat) (zs:List Int) (hz:zs.length≤9223372036854775807) (w:World) (ha:zrT w a zs) (hb:zrT w b zs) :
  Calls Tryz.prog 30 #[.slice a zs.length ca,.slice b zs.length cb] w fun e w' =>e=.returned (.bool true)∧Below w.heap.size w w':=by
 have HA:=kz ha
 have HB:=kz hb
 clear ha hb
 have hne:(((zs.length:Nat):Int) != ((zs.length:Nat):Int))=false:=by simp
 go_enter Tryz.func30,Tryz.ntmps30
 go_wp2
 go_loopw [5] (fun i wr => ∃ k:Nat,k≤zs.length∧i=.int .i64 k∧∃ q,wr=w.drewN q) (fun i _ =>zs.length - (intOf i).toNat)
 case atStart =>exact ⟨0,by omega,rfl,0,rfl⟩
 case round =>
  obtain ⟨k,hk,rfl,q,rfl⟩:=hrel
  by_cases hkn:k < zs.length
  ·obtain ⟨g,o,rfl,_,hc⟩:=oz HA (by omega)
   obtain ⟨h,p,rfl,_,hd⟩:=oz HB (by omega)
   have c0:=hc k hkn
   have c1:=hd k hkn
   have hk1:(k:Int) < (zs.length:Int):=by omega
   have hk2:((k:Nat):Int).toNat=k:=by omega
   generalize zs.getD k 0=z at c0 c1
   have hzz:(z != z)=false:=by simp
   clear hc hd
   go_wp2
   go_quiet (fail)
   go_wp2
   go_roundw
   case rel =>exact ⟨k+1,by omega,by go_num,_,rfl⟩
   case measure =>simp [intOf];omega
  ·have hk1:¬ (k:Int) < (zs.length:Int):=by omega
   go_wp2
   go_ret
   exact ⟨rfl,below_drewN (Below.refl _ _) _⟩

end Go.Proofs.YtmemedpoaocdkaaGreat
